/- Bytes told as digits: both functions give the plain digits of HexM. -/
import Derived.Test.YtgoackkmjfgneaaCrc
import Derived.Test.YtgoackkmjfgneaaHexM
import Derived.Deep.RegionLaw
import Derived.WalkSmall
import Derived.Laws.BytesArg
namespace Go.Proofs.Ytgoackkmjfgneaa
open Go.RowKit
set_option linter.unusedVariables false

theorem info5 : (Try.prog.info? 5).map (fun i => (i.zero, i.size, i.bytes)) = some (some (.int .u8 0), 1, 1) := by kernel_rfl
/-- bytes as the cells hold them -/
def bytesV (l : List Nat) : List Value := l.map fun (x : Nat) => Value.int .u8 (x : Int)
/-- bytes as a text -/
def strV (l : List Nat) : ByteArray := strOfNums (l.map Nat.cast)

/-- 'append' of what fits onto a row of the call's own, as one step of a region that draws. -/
theorem step_append_fits {P : Program} {ops : Array Oper} {o : Oper} {a : Act} {w : World} {K : Act → World → Prop} {Q : Exit → Act → World → Prop} {E : Prop}
    (hg : o.guard = none) (s x : Operand) (t : TypeId) (hop : o.op = Op.call { callee := Callee.builtin Builtin.append, args := #[s, x], argTypes := #[t, t] })
    (base : Nat) (e : TypeId) (i : TypeInfo) (size : Nat) (h1 : P.underlying t = some (.slice e)) (h2 : P.info? e = some i) (h4 : i.size = size)
    (g k cap : Nat) (xs : List Value) (hs : a.eval s = .slice (some ⟨g, 0, none⟩) k cap) (hown : w.ownsRow base e size (.slice (some ⟨g, 0, none⟩) k cap) k xs) (ad : Addr) (m c : Nat) (news : List Value) (hx : a.eval x = .slice (some ad) m c) (hn : news.length = m * size)
    (hc : ∀ j u, news[j]? = some u → w.cell? (ad.add j) = some u) (h1c : ∀ u ∈ news, u.oneCell' = true) (b1 : k + m ≤ cap)
    (hK : ∀ w', w'.ownsRow base e size (.slice (some ⟨g, 0, none⟩) (k + m) cap) (k + m) (xs ++ news) → w.grownBy w' (some g) → K (a.put o.dst (.slice (some ⟨g, 0, none⟩) (k + m) cap)) w') :
    if Region.wanted o (yielded ops a.tmps) = true then Oper.wp P o a w K Q else E := by
  have hw : Region.wanted o (yielded ops a.tmps) = true := by simp [Region.wanted, hg]
  rw [if_pos hw]
  obtain ⟨w', hrun, r1, r2⟩ := run_append_fits (P := P) w base t o.type e i size h1 h2 h4 g k cap xs hown ad m c news hn hc h1c b1
  unfold Oper.wp
  simp [execOp, hop, resolve, invoke, builtin, hs, hx, hrun, Result.andThen]
  exact hK w' r1 r2

theorem dig_at (h : Nat) (p : h < (ByteArray.mk #[48, 49, 50, 51, 52, 53, 54, 55, 56, 57, 97, 98, 99, 100, 101, 102]).size) : ((ByteArray.mk #[48, 49, 50, 51, 52, 53, 54, 55, 56, 57, 97, 98, 99, 100, 101, 102])[h]'p).toNat = hexD h := by
  have hh : h < 16 := p
  have : h = 0 ∨ h = 1 ∨ h = 2 ∨ h = 3 ∨ h = 4 ∨ h = 5 ∨ h = 6 ∨ h = 7 ∨ h = 8 ∨ h = 9 ∨ h = 10 ∨ h = 11 ∨ h = 12 ∨ h = 13 ∨ h = 14 ∨ h = 15 := by omega
  rcases this with rfl | rfl | rfl | rfl | rfl | rfl | rfl | rfl | rfl | rfl | rfl | rfl | rfl | rfl | rfl | rfl <;> rfl
theorem bits_and15 (x : Nat) (h : x < 256) : bits .and .u8 (x : Int) 15 = ((x % 16 : Nat) : Int) := by
  have := u8_and_nat x 15 h (by decide)
  rw [show ((15 : Nat) : Int) = 15 from rfl] at this; rw [this, nat_mask4]

theorem hex_parts (x : Nat) (hx : x < 256) : ∃ h g : Nat, h < 16 ∧ g < 16 ∧ (x : Int) / 16 = (h : Int) ∧ bits .and .u8 (x : Int) 15 = (g : Int) ∧ Hid (h = x / 16 ∧ g = x % 16) :=
  ⟨x / 16, x % 16, by omega, by omega, by omega, bits_and15 x hx, rfl, rfl⟩

theorem own_cells {w : World} {B g n cap : Nat} {l : List Nat} (h : w.ownsRow B 5 1 (.slice (some ⟨g, 0, none⟩) n cap) n (bytesV l)) : l.length = n ∧ ∀ i, i < n → w.cell? ⟨g, 0 + i, none⟩ = some (.int .u8 (l.getD i 0 : Nat)) := by
  have hl : l.length = n := by have := h.1; simpa [bytesV] using this
  refine ⟨hl, fun i hi => ?_⟩
  have := h.cellAt i (by omega)
  rw [Nat.zero_add, this]
  simp [bytesV, List.getD_eq_getElem?_getD, List.getElem?_eq_getElem (show i < l.length by omega)]
theorem own_str {w : World} {B g n cap : Nat} {l : List Nat} (h : w.ownsRow B 5 1 (.slice (some ⟨g, 0, none⟩) n cap) n (bytesV l)) : (convert 22 9 (.slice (some ⟨g, 0, none⟩) n cap)).run Try.prog w = .ok (.string (strV l)) w := by
  obtain ⟨h1, h2⟩ := own_cells h
  refine run_convert_bytes_arg (P := Try.prog) w 22 5 Try.underlying22 Try.underlying5 g 0 n cap (l.map Nat.cast) (by simpa using h1) (fun i hi => ?_) 9 Try.underlying9
  rw [h2 i hi]
  have : i < l.length := by omega
  simp [List.getD_eq_getElem?_getD, List.getElem?_eq_getElem this]
theorem hex_step {l : List Nat} {x h g k : Nat} (HT : l.take (k + 1) = l.take k ++ [x]) (HS : hexL (l.take k ++ [x]) = hexL (l.take k) ++ [hexD (x / 16), hexD (x % 16)]) (HD : h = x / 16 ∧ g = x % 16) :
    bytesV (hexL (l.take k)) ++ [.int .u8 (hexD h : Nat), .int .u8 (hexD g : Nat)] = bytesV (hexL (l.take (k + 1))) := by
  rw [HT, HS, HD.1, HD.2]; simp [bytesV]

set_option maxHeartbeats 400000 in
theorem hex30 (a : Option Addr) (len cap : Nat) (l : List Nat) (w : World) (hr : ByteRow w a len l) (hreach : len ≤ 140737488351232) :
    Calls Try.prog 30 #[.slice a len cap] w fun e w' => e = .returned (.string (strV (hexL l))) ∧ Below w.heap.size w w' := by
  obtain ⟨hlen, _, hb, hrow⟩ := hr
  have HL := Lib.hid hlen
  have HR := Lib.hid hrow
  clear hlen hrow
  obtain ⟨i0, hi, hz0, hz1, hz2⟩ := info_parts info5
  go_enter Try.func30, Try.ntmps30
  go_wp2_with (at_make; refine wpList_make_own _ rfl _ _ 22 rfl w.heap.size 5 i0 (.int .u8 0) 1 Try.underlying22 hi hz0 hz1 _ _ _ (2 * len) rfl rfl (by omega) (by rw [hz2]; omega) (by unfold maxLen; omega) (Nat.le_refl _) ?_)
  intro w1 hown hgrow
  go_wp2_with fail
  go_loopw [3, 12] (fun v i wr => ∃ k : Nat, k ≤ len ∧ i = .int .i64 k ∧ v = .slice (some ⟨w.heap.size, 0, none⟩) (2 * k) (2 * len) ∧ wr.ownsRow w.heap.size 5 1 v (2 * k) (bytesV (hexL (l.take k))) ∧ Below w.heap.size w wr) (fun _ i _ => len - (intOf i).toNat)
  case atStart => exact ⟨0, Nat.zero_le _, rfl, by simp, hown, (Below.refl _ _).grown hgrow (Nat.le_refl _) (by simp)⟩
  case round =>
    obtain ⟨k, hk, rfl, rfl, hown, hbel⟩ := hrel
    by_cases hlt : k < len
    · obtain ⟨b, off, rfl, hc⟩ := HR.out.resolve_left (by omega)
      have hc1 := hc k hlt
      have hcell : wr.cell? ⟨b, off + k, none⟩ = some (.int .u8 (l.getD k 0 : Nat)) := (hbel.cell (World.block_lt_of_cell? w _ hc1)).trans hc1
      have hx := getD_lt hb k
      clear hc hc1
      have HS := Lib.hid (hexL_snoc (l.take k) (l.getD k 0))
      have HT := Lib.hid (take_snoc l k (by have := HL.out; omega))
      generalize l.getD k 0 = x at *
      go_wp2_with fail
      obtain ⟨h, g, hh, hgg, hq, ha, HD⟩ := hex_parts x hx
      have h1 : (h : Int) < 16 := by omega
      have h2 : (g : Int) < 16 := by omega
      have hg1 := dig_at h hh
      have hg2 := dig_at g hgg
      go_region_law ((refine step_append_fits rfl (.tmp 16) (.tmp 23) 22 rfl w.heap.size 5 i0 1 Try.underlying22 hi hz1 w.heap.size (2 * k) (2 * len) _ (by simp [Act.eval]) (hown.drew.alloc _) ⟨wr.heap.size, 0, none⟩ 2 2 [.int .u8 (hexD h : Nat), .int .u8 (hexD g : Nat)] (by simp [Act.eval]) rfl (cell_two_new _ _ _ _) (by simp [Value.oneCell']) (by omega) ?_; intro w2 hown2 hgrow2))
      all_goals
        rw [hex_step HT.out HS.out HD.out] at hown2
        have hbel2 : Below w.heap.size w w2 := ((hbel.alloc hbel.size _).drew).grown hgrow2 (by have := hbel.size; simp; omega) (by intro k hk; simp at hk; omega)
        clear hq ha hg1 hg2 hcell hown hgrow2 hgrow hbel
        go_wp2
        go_roundw
        case rel => exact ⟨k + 1, by omega, by go_num, rfl, hown2, hbel2⟩
        case measure => simp [intOf]; omega
    · obtain rfl : k = len := by omega
      have hfin : l.take k = l := List.take_of_length_le (by have := HL.out; omega)
      rw [hfin] at hown
      have hcv := own_str hown
      go_wp2
      go_ret
      exact ⟨rfl, hbel⟩
end Go.Proofs.Ytgoackkmjfgneaa
