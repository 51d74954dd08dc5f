/- The program's list of regions, as it is told. No condition. -/
import Derived.Test.YtelfhpmbnficfaaId
import Derived.Test.YtelfhpmbnficfaaIc
import Derived.Test.YtelfhpmbnficfaaRb
namespace Go.Proofs.Ytelfhpmbnficfaa
open Go.RowKit
set_option linter.unusedVariables false
set_option maxRecDepth 100000
set_option linter.unusedSimpArgs false
/-- an inserting, wherever it goes -/
theorem ins_any (base n c vb i : Nat) (A : Option Addr) (t : List Reg) (x : Reg) (w : World) (hn : t.length = n) (hi : i ≤ n) (h15 : n ≤ 15) (hown : w.ownsRow base 67 7 (.slice A n c) n (cellsP t)) (hv : Blk w vb 67 (regP x)) (hne : ∀ q, (Value.slice A n c).ownBlock = some q → vb ≠ q) (hb : base ≤ w.heap.size) :
    Calls Try.prog 39 #[.slice A n c, .int .i64 (i : Nat), .slice (some ⟨vb, 0, none⟩) 1 1] w (InsIs base (n + 1) (t.take i ++ (x :: t.drop i)) (Value.slice A n c).ownBlock w) := by
  by_cases he : i = n
  · subst he
    rw [List.take_of_length_le (by omega), List.drop_of_length_le (by omega)]
    exact ins_end base i c vb A t x w hn h15 hown hv hb
  · obtain ⟨g, sp, rfl, hblk, hspl, hbg, hnc, hcm⟩ := own_blk_of (by omega) hown
    by_cases hc : n + 1 ≤ c
    · exact ins_mid base n c vb g i t x w hn (by omega) hc h15 hown hv (hne g rfl)
    · obtain rfl : c = n := by omega
      have hs : sp = [] := List.eq_nil_of_length_eq_zero (by rw [hspl]; omega)
      rw [hs, List.append_nil] at hblk
      exact ins_grow base c vb g i t x w hn (by omega) h15 hblk hv hb
theorem reg7 {w : World} {g o b n : Nat} {rd wr ex sc : Bool} (h : w.rangeAt g o (regP ⟨b, n, rd, wr, ex, sc⟩)) : w.cell? ⟨g, o, none⟩ = some (.int .u64 (b : Nat)) ∧ w.cell? ⟨g, o + 1, none⟩ = some (.int .u64 (n : Nat)) ∧ w.cell? ⟨g, o + 2, none⟩ = some (.bool false) ∧ w.cell? ⟨g, o + 3, none⟩ = some (.bool rd) ∧ w.cell? ⟨g, o + 4, none⟩ = some (.bool wr) ∧ w.cell? ⟨g, o + 5, none⟩ = some (.bool ex) ∧ w.cell? ⟨g, o + 6, none⟩ = some (.bool sc) :=
  ⟨h 0 _ rfl, h 1 _ rfl, h 2 _ rfl, h 3 _ rfl, h 4 _ rfl, h 5 _ rfl, h 6 _ rfl⟩
theorem reg6 {w : World} {g o b n : Nat} {rd wr ex sc : Bool} (h : w.rangeAt g o (regD ⟨b, n, rd, wr, ex, sc⟩)) : w.cell? ⟨g, o, none⟩ = some (.int .u64 (b : Nat)) ∧ w.cell? ⟨g, o + 1, none⟩ = some (.int .u64 (n : Nat)) ∧ w.cell? ⟨g, o + 2, none⟩ = some (.bool rd) ∧ w.cell? ⟨g, o + 3, none⟩ = some (.bool wr) ∧ w.cell? ⟨g, o + 4, none⟩ = some (.bool ex) ∧ w.cell? ⟨g, o + 5, none⟩ = some (.bool sc) :=
  ⟨h 0 _ rfl, h 1 _ rfl, h 2 _ rfl, h 3 _ rfl, h 4 _ rfl, h 5 _ rfl⟩
theorem told_lit (b n : Nat) (rd wr ex sc : Bool) (w : World) : Calls Try.prog 33 #[.agg #[.int .u64 (b : Nat), .int .u64 (n : Nat), .bool false, .bool rd, .bool wr, .bool ex, .bool sc]] w fun e w' => e = .returned (.agg #[.int .u64 (b : Nat), .int .u64 (n : Nat), .bool rd, .bool wr, .bool ex, .bool sc]) ∧ Below w.heap.size w w' := told_any ⟨b, n, rd, wr, ex, sc⟩ w
/-- a list of regions in new memory -/
def RegsIs (t : List Reg) (w : World) (e : Ending) (w' : World) : Prop := ∃ A c, e = .returned (.slice A t.length c) ∧ w'.ownsRow w.heap.size 34 6 (.slice A t.length c) t.length (cellsD t) ∧ Below w.heap.size w w'
theorem take_get {t : List Reg} {k : Nat} {x : Reg} (h : t[k]? = some x) : t.take (k + 1) = t.take k ++ [x] := by
  obtain ⟨hl, rfl⟩ := List.getElem?_eq_some_iff.1 h
  rw [List.take_succ_eq_append_getElem hl]
theorem cellsD_snoc (t : List Reg) (x : Reg) : cellsD (t ++ [x]) = cellsD t ++ regD x := by rw [cellsD_append]; simp [cellsD]
theorem many_new (w : World) (cs : List Value) (t : TypeId) : ∀ j u, cs[j]? = some u → (w.alloc (.cells cs.toArray t)).cell? ((⟨w.heap.size, 0, none⟩ : Addr).add j) = some u := by
  intro j u hj
  rw [Addr.add_mid, Nat.zero_add, (Blk.new w t cs).cell]; exact hj
set_option maxHeartbeats 3200000 in
theorem regions_any (base a : Nat) (m : List Nat) (t : List Reg) (A : Option Addr) (c : Nat) (w : World) (hp : PAt w base a m t A c) (km : MOk m) (kt : TOk t) (hb : base ≤ w.heap.size) :
    Calls Try.prog 14 #[.pointer (some ⟨a, 0, none⟩)] w (RegsIs t w) := by
  obtain ⟨i0, hi0, hz0, hz1, hz2⟩ := info_parts info34z
  have HP := Lib.hid hp
  have HKM := Lib.hid km
  have HKT := Lib.hid kt
  have ht := hp.tab km
  have hl := kt.len
  unfold RegsIs
  obtain ⟨n, hn⟩ : ∃ n, t.length = n := ⟨_, rfl⟩
  rw [hn] at ht hl ⊢
  have HN := Lib.hid hn
  clear hp km kt hn hb
  go_enter Try.func14, Try.ntmps14
  go_wp2_with (at_make; refine wpList_make_own w rfl _ (.tmp 12) 27 rfl w.heap.size 34 i0 _ 6 Try.underlying27 hi0 hz0 hz1 .i64 .i64 _ n rfl rfl rfl (by rw [hz2]; omega) (by unfold maxLen; omega) (Nat.le_refl _) ?_; intro w1 hown1 hg1; have HB1 := Lib.hid (show Below w.heap.size w w1 from ⟨hg1.os, hg1.tape, hg1.output, hg1.size, fun j hj => hg1.block j hj (by simp)⟩); have HO1 := Lib.hid hown1; have ht1 := gcell ht HB1.out; clear hown1 hg1)
  go_loopw [3, 19] (fun v3 v19 wr => ∃ k : Nat, k ≤ n ∧ v3 = .slice (some ⟨w.heap.size, 0, none⟩) k n ∧ v19 = .int .i64 (k : Nat) ∧ wr.ownsRow w.heap.size 34 6 (.slice (some ⟨w.heap.size, 0, none⟩) k n) k (cellsD (t.take k)) ∧ Below w.heap.size w wr) (fun _ v19 _ => n - (intOf v19).toNat)
  case atStart => exact ⟨0, Nat.zero_le _, rfl, rfl, HO1.out, HB1.out⟩
  case round =>
    obtain ⟨k, hk, rfl, rfl, hown, hbel⟩ := hrel
    have HO := Lib.hid hown
    have HB := Lib.hid hbel
    clear hown hbel HB1 HO1 ht1
    by_cases hkn : k < n
    · have hkn' : (k : Int) < (n : Int) := by omega
      obtain ⟨x, hx⟩ := ent (t := t) (j := k) (by rw [HN.out]; exact hkn)
      obtain ⟨g, hA, _, hr⟩ := (HP.out.bel HB.out).reg k x hx
      subst hA
      have HTK := Lib.hid (take_get hx)
      obtain ⟨b, s, rd, wrt, ex, sc⟩ := x
      obtain ⟨e0, e1, e2, e3, e4, e5, e6⟩ := reg7 hr
      clear hx hr
      go_wp2_with fail
      refine (told_lit b s rd wrt ex sc _).mono ?_
      rintro e w2 ⟨rfl, hb2⟩
      have HB2 := Lib.hid (HB.out.trans ((((Below.refl wr.heap.size wr).alloc (Nat.le_refl _) (.cells #[.int .u64 (b : Nat), .int .u64 (s : Nat), .bool false, .bool rd, .bool wrt, .bool ex, .bool sc] 67)).trans (hb2.mono (by simp))).mono HB.out.size))
      have HO2 := Lib.hid (own_below (own_below HO.out ((Below.refl wr.heap.size wr).alloc (Nat.le_refl _) (.cells #[.int .u64 (b : Nat), .int .u64 (s : Nat), .bool false, .bool rd, .bool wrt, .bool ex, .bool sc] 67))) hb2)
      clear hb2 e0 e1 e2 e3 e4 e5 e6 HO
      go_wp2_with (at_builtin; refine wpList_append_fits _ rfl (.tmp 23) (.tmp 26) 27 rfl w.heap.size 34 i0 6 Try.underlying27 hi0 hz1 w.heap.size k n _ rfl (HO2.out.alloc _) ⟨w2.heap.size, 0, none⟩ 1 1 [.int .u64 (b : Nat), .int .u64 (s : Nat), .bool rd, .bool wrt, .bool ex, .bool sc] rfl rfl (many_new w2 _ _) (by simp [Value.oneCell']) (by omega) ?_)
      intro w3 hown3 hg3
      have HO3 := Lib.hid (show w3.ownsRow w.heap.size 34 6 (.slice (some ⟨w.heap.size, 0, none⟩) (k + 1) n) (k + 1) (cellsD (t.take (k + 1))) from by rw [HTK.out, cellsD_snoc]; exact hown3)
      have HB3 := Lib.hid (show Below w.heap.size w w3 from by
        have h1 := HB2.out.alloc HB2.out.size (.cells #[.int .u64 (b : Nat), .int .u64 (s : Nat), .bool rd, .bool wrt, .bool ex, .bool sc] 34)
        exact ⟨hg3.os.trans h1.os, hg3.tape.trans h1.tape, hg3.output.trans h1.output, Nat.le_trans h1.size hg3.size, fun j hj => (hg3.block j (Nat.lt_of_lt_of_le hj h1.size) (fun e => by injection e with e; omega)).trans (h1.block j hj)⟩)
      clear hown3 hg3
      go_wp2_with fail
      go_roundw
      case rel => exact ⟨k + 1, by omega, rfl, by go_num, HO3.out, HB3.out⟩
      case measure => simp [intOf]; omega
    · obtain rfl : k = n := by omega
      clear hkn
      go_wp2_with fail
      go_ret
      exact ⟨_, _, rfl, by have := HO.out; rwa [List.take_of_length_le (by rw [HN.out]; exact Nat.le_refl _)] at this, HB.out⟩
end Go.Proofs.Ytelfhpmbnficfaa
