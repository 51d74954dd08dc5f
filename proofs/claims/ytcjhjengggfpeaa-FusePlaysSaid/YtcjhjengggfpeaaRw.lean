/- Rows of bytes of the program's fuses. No condition. -/
import Derived.Test.YtcjhjengggfpeaaAl
namespace Go.Proofs.Ytcjhjengggfpeaa
open Go.RowKit
set_option linter.unusedVariables false
set_option maxRecDepth 100000
set_option linter.unusedSimpArgs false
/-- the bytes of a row, and whether all of them are burnt -/
def rowL (l : List (Nat × Bool)) (i k : Nat) : List Nat := ((l.drop i).take k).map Prod.fst
def rowA (l : List (Nat × Bool)) (i k : Nat) : Bool := ((l.drop i).take k).all Prod.snd
theorem row_take (l : List (Nat × Bool)) (i k : Nat) (h : i + k < l.length) : (l.drop i).take (k + 1) = (l.drop i).take k ++ [l.getD (i + k) (0, false)] := by
  rw [List.take_succ_eq_append_getElem (by rw [List.length_drop]; omega), List.getElem_drop, List.getD_eq_getElem?_getD, List.getElem?_eq_getElem h]; rfl
theorem rowL_snoc (l : List (Nat × Bool)) (i k : Nat) (h : i + k < l.length) : rowL l i (k + 1) = rowL l i k ++ [(l.getD (i + k) (0, false)).1] := by
  unfold rowL; rw [row_take l i k h, List.map_append]; rfl
theorem rowA_snoc (l : List (Nat × Bool)) (i k : Nat) (h : i + k < l.length) : rowA l i (k + 1) = (rowA l i k && (l.getD (i + k) (0, false)).2) := by
  unfold rowA; rw [row_take l i k h, List.all_append]; simp
theorem rowL_length (l : List (Nat × Bool)) (i k : Nat) (h : i + k ≤ l.length) : (rowL l i k).length = k := by
  unfold rowL; rw [List.length_map, List.length_take, List.length_drop]; omega
theorem rowL_lt {l : List (Nat × Bool)} (h : ∀ x ∈ l, x.1 < 256) (i k : Nat) : ∀ x ∈ rowL l i k, x < 256 := fun x hx => by
  obtain ⟨p, hp, rfl⟩ := List.mem_map.1 hx
  exact h p (List.mem_of_mem_drop (List.mem_of_mem_take hp))
/-- a row in new memory, whether all is burnt, and OK -/
def RowOwn (n : Nat) (l : List Nat) (u : Bool) (w : World) (e : Ending) (w' : World) : Prop := ∃ a c, e = .returned (.tuple #[.slice a n c, .bool u, .int .i64 0]) ∧ w'.ownsRow w.heap.size 5 1 (.slice a n c) n (bytesV l) ∧ Below w.heap.size w w'
/-- where a row begins -/
def rowO (i : Nat) : Nat := if i = 64 then 0 else i * 2
theorem slice_cells (w : World) (g i m h : Nat) (h0 : i ≤ 64) (h1 : i + m = h) (h2 : h ≤ 64) : (Instr.sliceAt 53 (.pointer (some ⟨g, 0, none⟩)) (some (.int .i64 (i : Nat))) (some (.int .i64 (h : Nat))) none).run Try.prog w = .ok (.slice (some ⟨g, rowO i, none⟩) m (64 - i)) w := by
  have hl : Try.prog.arrayLen 53 = 64 := by kernel_rfl
  have he : Try.prog.elem 53 = 52 := by kernel_rfl
  have hs : (sizeOf 52).run Try.prog w = .ok 2 w := by kernel_rfl
  rw [run_sliceAt_array_lh w 53 ⟨g, 0, none⟩ (by rw [hl, he]; exact Try.underlying53) .i64 .i64 i h (by omega) (by omega) (by rw [hl]; omega), he, hs, hl]
  simp only [Result.andThen, slicedAt, Int.toNat_natCast]
  unfold rowO
  by_cases h64 : i = 64
  · rw [if_pos (by omega), if_pos h64, show h - i = m by omega]
  · rw [if_neg (by omega), if_neg h64, Addr.add_mid, Nat.zero_add, show h - i = m by omega]
theorem one_new2 (w : World) (o : Obj) (a : Value) (t : TypeId) : ∀ j u, [a][j]? = some u → ((w.alloc o).alloc (.cells #[a] t)).cell? ((⟨w.heap.size + 1, 0, none⟩ : Addr).add j) = some u := by
  intro j u hj
  match j, hj with
  | 0, hj => simp at hj; subst hj; exact (Blk.new2 w o t [a]).cell 0
  | j + 1, hj => simp at hj
set_option maxHeartbeats 3200000 in
theorem row_ok (g : Nat) (l : List (Nat × Bool)) (c : List Nat) (i m : Nat) (w : World) (h : FuAt w g l c) (k : FuOk l c) (hr : i + m ≤ 64) :
    Calls Try.prog 13 #[.pointer (some ⟨g, 0, none⟩), .int .i64 (i : Nat), .int .i64 (m : Nat)] w (RowOwn m (rowL l i m) (rowA l i m) w) := by
  obtain ⟨i0, hi0, hz0, hz1, hz2⟩ := info_parts info5
  have hc := closed_any g i m 64 w (by unfold I64; omega) (by unfold I64; omega) (by omega)
  rw [show clE i m 64 = 0 by unfold clE; rw [if_pos (by omega)]] at hc
  have HC := Lib.hid hc
  obtain ⟨hh, hhe⟩ : ∃ hh : Nat, i + m = hh := ⟨_, rfl⟩
  have em : (i : Int) + (m : Int) = (hh : Int) := by omega
  have hh64 : hh ≤ 64 := by omega
  have HSL := Lib.hid (fun w => slice_cells w g i m hh (by omega) hhe hh64)
  have HF := Lib.hid h
  have HK := Lib.hid k
  have HHE := Lib.hid hhe
  have i1 : (i : Int) ≤ 64 := by omega
  have m1 : (m : Int) ≤ 64 := by omega
  clear h k hc hhe hr
  unfold RowOwn
  go_enter Try.func13, Try.ntmps13
  go_wp2_with (first | (go_at_call 18; refine HC.out.mono ?_; rintro e w9 ⟨rfl, rfl⟩) | (at_make; refine wpList_make_own w rfl _ (.tmp 21) 40 rfl w.heap.size 5 i0 (.int .u8 0) 1 Try.underlying40 hi0 hz0 hz1 .i64 .i64 _ m rfl rfl rfl (by rw [hz2]; omega) (by unfold maxLen; omega) (Nat.le_refl _) ?_; intro w1 hown1 hg1))
  rw [HSL.out]
  have HO1 := Lib.hid hown1
  have HB1 := Lib.hid (show Below w.heap.size w w1 from ⟨hg1.os, hg1.tape, hg1.output, hg1.size, fun j hj => hg1.block j hj (by simp)⟩)
  clear hown1 hg1 HC HSL
  go_wp2_with fail
  go_loopw [10, 11, 32] (fun v10 v11 v32 wr => ∃ k : Nat, k ≤ m ∧ v10 = .slice (some ⟨w.heap.size, 0, none⟩) k m ∧ v11 = .bool (rowA l i k) ∧ v32 = .int .i64 (k : Nat) ∧ wr.ownsRow w.heap.size 5 1 (.slice (some ⟨w.heap.size, 0, none⟩) k m) k (bytesV (rowL l i k)) ∧ Below w.heap.size w wr) (fun _ _ v32 _ => m - (intOf v32).toNat)
  case atStart => exact ⟨0, Nat.zero_le _, rfl, rfl, rfl, HO1.out, HB1.out⟩
  case round =>
    obtain ⟨k, hk, rfl, rfl, rfl, hown, hbel⟩ := hrel
    by_cases hkm : k < m
    · have hkm' : (k : Int) < (m : Int) := by omega
      have hi64 : i + k < 64 := by have := HHE.out; omega
      have hro : rowO i = i * 2 := by unfold rowO; rw [if_neg (by omega)]
      have hfu : FuAt wr g l c := Blk.below' HF.out hbel
      have hv := hfu.v HK.out (i + k) hi64
      have hb := hfu.b HK.out (i + k) hi64
      rw [show (i + k) * 2 = i * 2 + k * 2 by omega] at hv hb
      have HSL := Lib.hid (rowL_snoc l i k (by rw [HK.out.ll]; exact hi64))
      have HSA := Lib.hid (rowA_snoc l i k (by rw [HK.out.ll]; exact hi64))
      rw [hro]
      generalize (l.getD (i + k) (0, false)).1 = x at *
      generalize (l.getD (i + k) (0, false)).2 = u at *
      generalize rowL l i k = L0 at *
      generalize rowA l i k = A0 at *
      have HO := Lib.hid hown
      have HB := Lib.hid hbel
      clear hown hbel HO1 HB1 hfu hro
      go_wp2_with (at_builtin; refine wpList_append_fits _ rfl (.tmp 36) (.tmp 39) 40 rfl w.heap.size 5 i0 1 Try.underlying40 hi0 hz1 w.heap.size k m _ rfl ((HO.out.alloc _).alloc _) ⟨wr.heap.size + 1, 0, none⟩ 1 1 [.int .u8 (x : Nat)] rfl rfl (one_new2 _ _ _ _) (by simp [Value.oneCell']) (by omega) ?_)
      intro w3 hown3 hg3
      have hne : w.heap.size < wr.heap.size := (World.ownsRow.lt HO.out w.heap.size rfl).2
      have hq : w3.cell? ⟨wr.heap.size, 1, none⟩ = some (.bool u) := (((Blk.new wr 52 [.int .u8 (x : Nat), .bool u]).alloc _).grown hg3 (fun e => by injection e with e; omega)).cell 1
      rw [bytesV_snoc, ← HSL.out] at hown3
      have HO3 := Lib.hid hown3
      have HB3 := Lib.hid (grownB (((HB.out.alloc HB.out.size _).alloc (by have := HB.out.size; simp; omega) _)) hg3 (Nat.le_refl _) (by have := HB.out.size; simp; omega))
      clear hown3 hg3 hv hb hne
      cases A0
      · go_wp2_with fail
        go_roundw
        case rel => exact ⟨k + 1, by omega, rfl, by rw [HSA.out]; rfl, by go_num, HO3.out, HB3.out⟩
        case measure => simp [intOf]; omega
      · go_wp2_with fail
        go_roundw
        case rel => exact ⟨k + 1, by omega, rfl, by rw [HSA.out]; rfl, by go_num, HO3.out, HB3.out⟩
        case measure => simp [intOf]; omega
    · obtain rfl : k = m := by omega
      have HO := Lib.hid hown
      have HB := Lib.hid hbel
      clear hown hbel hkm
      go_wp2_with fail
      go_ret3
      exact ⟨_, _, rfl, HO.out, HB.out⟩
theorem row_bad (g : Nat) (i n : Int) (w : World) (hi : I64 i) (hn : I64 n) (hr : ¬ (0 ≤ i ∧ 0 ≤ n ∧ n ≤ 64 - i)) :
    Calls Try.prog 13 #[.pointer (some ⟨g, 0, none⟩), .int .i64 i, .int .i64 n] w fun e w' => e = .returned (.tuple #[.slice none 0 0, .bool false, .int .i64 153]) ∧ w = w' := by
  have hc := closed_any g i n 64 w hi hn (by omega)
  rw [show clE i n 64 = 153 by unfold clE; rw [if_neg hr]] at hc
  have HC := Lib.hid hc
  clear hc hr hi hn
  go_enter Try.func13, Try.ntmps13
  go_wp2_with (go_at_call 18; refine HC.out.mono ?_; rintro e w9 ⟨rfl, rfl⟩)
  go_ret3
  exact ⟨rfl, rfl⟩
end Go.Proofs.Ytcjhjengggfpeaa
