/- Parts of proofs of statements, each text behind those that it stands on. No condition of its own. -/
import Derived.Test.YtbabpmncdphnjaaGreatQ20
namespace Go.Proofs.YtbabpmncdphnjaaGreat
open Go.RowKit
set_option linter.unusedVariables false
set_option maxRecDepth 100000
set_option linter.unusedSimpArgs false
def C1 (ib sb : List Nat) (kn : Nat) (xs : List XV) : Prop := nameOk ib = true ∧ nameOk sb = true ∧ kn = 2017 ∧ xs.length ≤ 16
def C2 (xs : List XV) : Prop := ∀ (k : Nat) (x : XV), xs[k]? = some x → 1 ≤ x.1 ∧ x.1 ≤ 2147483647
def C3 (xs : List XV) : Prop := ∀ (k : Nat) (x : XV), xs[k]? = some x → FirstX xs x.1 k x
def C4 (xs : List XV) : Prop := ∀ (k : Nat) (x : XV), xs[k]? = some x → knownB x.1 = true ∨ x.2.1 = false
open Classical in
noncomputable def lkQ (ib sb : List Nat) (kn : Nat) (xs : List XV) : Nat := if C1 ib sb kn xs then if C2 xs then if C3 xs then if C4 xs then 0 else 133 else 132 else 134 else 134
theorem lk1 {ib sb : List Nat} {kn : Nat} {xs : List XV} (h : ¬ C1 ib sb kn xs) : lkQ ib sb kn xs = 134 := by unfold lkQ; rw [if_neg h]
theorem lk2 {ib sb : List Nat} {kn : Nat} {xs : List XV} (h1 : C1 ib sb kn xs) (h : ¬ C2 xs) : lkQ ib sb kn xs = 134 := by unfold lkQ; rw [if_pos h1, if_neg h]
theorem lk3 {ib sb : List Nat} {kn : Nat} {xs : List XV} (h1 : C1 ib sb kn xs) (h2 : C2 xs) (h : ¬ C3 xs) : lkQ ib sb kn xs = 132 := by unfold lkQ; rw [if_pos h1, if_pos h2, if_neg h]
theorem lk4 {ib sb : List Nat} {kn : Nat} {xs : List XV} (h1 : C1 ib sb kn xs) (h2 : C2 xs) (h3 : C3 xs) (h : ¬ C4 xs) : lkQ ib sb kn xs = 133 := by unfold lkQ; rw [if_pos h1, if_pos h2, if_pos h3, if_neg h]
theorem lk0 {ib sb : List Nat} {kn : Nat} {xs : List XV} (h1 : C1 ib sb kn xs) (h2 : C2 xs) (h3 : C3 xs) (h4 : C4 xs) : lkQ ib sb kn xs = 0 := by unfold lkQ; rw [if_pos h1, if_pos h2, if_pos h3, if_pos h4]
theorem lk_all {ib sb : List Nat} {kn : Nat} {xs : List XV} (h : lkQ ib sb kn xs = 0) : C1 ib sb kn xs ∧ C2 xs ∧ C3 xs ∧ C4 xs := by
  unfold lkQ at h
  split at h
  · split at h
    · split at h
      · split at h
        · exact ⟨by assumption, by assumption, by assumption, by assumption⟩
        · omega
      · omega
    · omega
  · omega
def LkIs (q : Nat) (w : World) (e : Ending) (w' : World) : Prop := (q = 0 ∧ e = .returned (.tuple #[]) ∨ q ≠ 0 ∧ e = boom (q : Nat)) ∧ Below w.heap.size w w'
theorem LkIs.bad {q p : Nat} (h : q = p) (hp : p ≠ 0) {w w' : World} (hb : Below w.heap.size w w') : LkIs q w (boom (p : Nat)) w' := by subst h; exact ⟨.inr ⟨hp, rfl⟩, hb⟩
theorem LkIs.good {q : Nat} (h : q = 0) {w w' : World} (hb : Below w.heap.size w w') : LkIs q w (.returned (.tuple #[])) w' := ⟨.inl ⟨h, rfl⟩, hb⟩
theorem first_at {xs : List XV} {j : Nat} {y : XV} (h : xs[j]? = some y) : ∃ i x, FirstX xs y.1 i x := by
  rcases first_or xs y.1 with h1 | h1
  · exact h1
  · exact absurd rfl (h1 j y h)
set_option maxRecDepth 100000 in
set_option maxHeartbeats 4000000 in
theorem look_n1 (w : World) (sn : Int) (is su : ByteArray) (ka : Option Addr) (kn kc : Nat) (xa : Option Addr) (n xc : Nat) (sa : Option Addr) (sl sc : Nat) (ib sb : List Nat) (xs : List XV) (hib : strL is = ib) (hsb : strL su = sb) (hx : xs.length = n) (h1 : nameOk ib = false) : Calls Tryz.prog 36 #[.agg #[.int .u64 sn, .string is, .string su, .slice ka kn kc, .slice xa n xc, .slice sa sl sc]] w (LkIs (lkQ ib sb kn xs) w) := by
  have HQ := Lib.hid (lk1 (ib := ib) (sb := sb) (kn := kn) (xs := xs) (fun h => by have := h.1; rw [h1] at this; cases this))
  have HBX := Lib.hid (Blk.new w 26 [.int .u64 sn, .string is, .string su, .slice ka kn kc, .slice xa n xc, .slice sa sl sc])
  have BEL := Lib.hid ((Below.refl _ w).alloc (Nat.le_refl _) (.cells #[.int .u64 sn, .string is, .string su, .slice ka kn kc, .slice xa n xc, .slice sa sl sc] 26))
  have HC1 := Lib.hid (fun W => isName_any is ib hib W)
  have HC2 := Lib.hid (fun W => isName_any su sb hsb W)
  have HN1 := Lib.hid h1
  clear h1
  clear hib hsb hx
  go_enter Tryz.func36, Tryz.ntmps36
  generalize hW1 : w.alloc (.cells #[.int .u64 sn, .string is, .string su, .slice ka kn kc, .slice xa n xc, .slice sa sl sc] 26) = W1 at *
  have k1 := blkc HBX.out (i := 1) rfl
  go_wp2_with (first | (go_at_call 72; ((with_reducible refine (HC1.out _).mono ?_); rintro e w2 ⟨rfl, hb2⟩; rw [HN1.out]; have HBX := Lib.hid (HBX.out.below' hb2); have BEL := Lib.hid (BEL.out.trans (Below.mono hb2 BEL.out.size)); have k2 := blkc HBX.out (i := 2) rfl)) | (go_at_call 54; (try rw [HKD.out]); (with_reducible refine (cmust_bad _ _).mono ?_); rintro e w4 ⟨rfl, rfl⟩))
  exact ⟨rfl, LkIs.bad HQ.out (by decide) BEL.out⟩
set_option maxRecDepth 100000 in
set_option maxHeartbeats 4000000 in
theorem look_n2 (w : World) (sn : Int) (is su : ByteArray) (ka : Option Addr) (kn kc : Nat) (xa : Option Addr) (n xc : Nat) (sa : Option Addr) (sl sc : Nat) (ib sb : List Nat) (xs : List XV) (hib : strL is = ib) (hsb : strL su = sb) (hx : xs.length = n) (h1 : nameOk ib = true) (h2 : nameOk sb = false) : Calls Tryz.prog 36 #[.agg #[.int .u64 sn, .string is, .string su, .slice ka kn kc, .slice xa n xc, .slice sa sl sc]] w (LkIs (lkQ ib sb kn xs) w) := by
  have HQ := Lib.hid (lk1 (ib := ib) (sb := sb) (kn := kn) (xs := xs) (fun h => by have := h.2.1; rw [h2] at this; cases this))
  have HBX := Lib.hid (Blk.new w 26 [.int .u64 sn, .string is, .string su, .slice ka kn kc, .slice xa n xc, .slice sa sl sc])
  have BEL := Lib.hid ((Below.refl _ w).alloc (Nat.le_refl _) (.cells #[.int .u64 sn, .string is, .string su, .slice ka kn kc, .slice xa n xc, .slice sa sl sc] 26))
  have HC1 := Lib.hid (fun W => isName_any is ib hib W)
  have HC2 := Lib.hid (fun W => isName_any su sb hsb W)
  have HN1 := Lib.hid h1
  have HN2 := Lib.hid h2
  clear h1 h2
  clear hib hsb hx
  go_enter Tryz.func36, Tryz.ntmps36
  generalize hW1 : w.alloc (.cells #[.int .u64 sn, .string is, .string su, .slice ka kn kc, .slice xa n xc, .slice sa sl sc] 26) = W1 at *
  have k1 := blkc HBX.out (i := 1) rfl
  go_wp2_with (first | (go_at_call 72; ((with_reducible refine (HC1.out _).mono ?_); rintro e w2 ⟨rfl, hb2⟩; rw [HN1.out]; have HBX := Lib.hid (HBX.out.below' hb2); have BEL := Lib.hid (BEL.out.trans (Below.mono hb2 BEL.out.size)); have k2 := blkc HBX.out (i := 2) rfl)) | (go_at_call 72; ((with_reducible refine (HC2.out _).mono ?_); rintro e w3 ⟨rfl, hb3⟩; rw [HN2.out]; have HBX := Lib.hid (HBX.out.below' hb3); have BEL := Lib.hid (BEL.out.trans (Below.mono hb3 BEL.out.size)); have k3 := blkc HBX.out (i := 3) rfl; have k4 := blkc HBX.out (i := 4) rfl)) | (go_at_call 54; (try rw [HKD.out]); (with_reducible refine (cmust_bad _ _).mono ?_); rintro e w4 ⟨rfl, rfl⟩))
  exact ⟨rfl, LkIs.bad HQ.out (by decide) BEL.out⟩
set_option maxRecDepth 100000 in
set_option maxHeartbeats 4000000 in
theorem look_kn (w : World) (sn : Int) (is su : ByteArray) (ka : Option Addr) (kn kc : Nat) (xa : Option Addr) (n xc : Nat) (sa : Option Addr) (sl sc : Nat) (ib sb : List Nat) (xs : List XV) (hib : strL is = ib) (hsb : strL su = sb) (hx : xs.length = n) (h1 : nameOk ib = true) (h2 : nameOk sb = true) (h3 : kn ≠ 2017) : Calls Tryz.prog 36 #[.agg #[.int .u64 sn, .string is, .string su, .slice ka kn kc, .slice xa n xc, .slice sa sl sc]] w (LkIs (lkQ ib sb kn xs) w) := by
  have HQ := Lib.hid (lk1 (ib := ib) (sb := sb) (kn := kn) (xs := xs) (fun h => h3 h.2.2.1))
  have HBX := Lib.hid (Blk.new w 26 [.int .u64 sn, .string is, .string su, .slice ka kn kc, .slice xa n xc, .slice sa sl sc])
  have BEL := Lib.hid ((Below.refl _ w).alloc (Nat.le_refl _) (.cells #[.int .u64 sn, .string is, .string su, .slice ka kn kc, .slice xa n xc, .slice sa sl sc] 26))
  have HC1 := Lib.hid (fun W => isName_any is ib hib W)
  have HC2 := Lib.hid (fun W => isName_any su sb hsb W)
  have HN1 := Lib.hid h1
  have HN2 := Lib.hid h2
  have hkb : ((kn : Int) == 2017) = false := by simp; omega
  have hki : ¬ (kn : Int) = 2017 := by omega
  clear h1 h2
  clear hib hsb hx
  go_enter Tryz.func36, Tryz.ntmps36
  generalize hW1 : w.alloc (.cells #[.int .u64 sn, .string is, .string su, .slice ka kn kc, .slice xa n xc, .slice sa sl sc] 26) = W1 at *
  have k1 := blkc HBX.out (i := 1) rfl
  go_wp2_with (first | (go_at_call 72; ((with_reducible refine (HC1.out _).mono ?_); rintro e w2 ⟨rfl, hb2⟩; rw [HN1.out]; have HBX := Lib.hid (HBX.out.below' hb2); have BEL := Lib.hid (BEL.out.trans (Below.mono hb2 BEL.out.size)); have k2 := blkc HBX.out (i := 2) rfl)) | (go_at_call 72; ((with_reducible refine (HC2.out _).mono ?_); rintro e w3 ⟨rfl, hb3⟩; rw [HN2.out]; have HBX := Lib.hid (HBX.out.below' hb3); have BEL := Lib.hid (BEL.out.trans (Below.mono hb3 BEL.out.size)); have k3 := blkc HBX.out (i := 3) rfl; have k4 := blkc HBX.out (i := 4) rfl)) | (go_at_call 54; (try rw [HKD.out]); (with_reducible refine (cmust_bad _ _).mono ?_); rintro e w4 ⟨rfl, rfl⟩))
  exact ⟨rfl, LkIs.bad HQ.out (by decide) BEL.out⟩
set_option maxRecDepth 100000 in
set_option maxHeartbeats 4000000 in
theorem look_len (w : World) (sn : Int) (is su : ByteArray) (ka : Option Addr) (kn kc : Nat) (xa : Option Addr) (n xc : Nat) (sa : Option Addr) (sl sc : Nat) (ib sb : List Nat) (xs : List XV) (hib : strL is = ib) (hsb : strL su = sb) (hx : xs.length = n) (h1 : nameOk ib = true) (h2 : nameOk sb = true) (h3 : kn = 2017) (h4 : 16 < n) : Calls Tryz.prog 36 #[.agg #[.int .u64 sn, .string is, .string su, .slice ka kn kc, .slice xa n xc, .slice sa sl sc]] w (LkIs (lkQ ib sb kn xs) w) := by
  have HQ := Lib.hid (lk1 (ib := ib) (sb := sb) (kn := kn) (xs := xs) (fun h => by have := h.2.2.2; omega))
  subst h3
  have HBX := Lib.hid (Blk.new w 26 [.int .u64 sn, .string is, .string su, .slice ka 2017 kc, .slice xa n xc, .slice sa sl sc])
  have BEL := Lib.hid ((Below.refl _ w).alloc (Nat.le_refl _) (.cells #[.int .u64 sn, .string is, .string su, .slice ka 2017 kc, .slice xa n xc, .slice sa sl sc] 26))
  have HC1 := Lib.hid (fun W => isName_any is ib hib W)
  have HC2 := Lib.hid (fun W => isName_any su sb hsb W)
  have HN1 := Lib.hid h1
  have HN2 := Lib.hid h2
  have hki : ¬ (n : Int) ≤ 16 := by omega
  have HKD := Lib.hid (show decide ((n : Int) ≤ 16) = false from decide_eq_false hki)
  clear h1 h2
  clear hib hsb hx
  go_enter Tryz.func36, Tryz.ntmps36
  generalize hW1 : w.alloc (.cells #[.int .u64 sn, .string is, .string su, .slice ka 2017 kc, .slice xa n xc, .slice sa sl sc] 26) = W1 at *
  have k1 := blkc HBX.out (i := 1) rfl
  go_wp2_with (first | (go_at_call 72; ((with_reducible refine (HC1.out _).mono ?_); rintro e w2 ⟨rfl, hb2⟩; rw [HN1.out]; have HBX := Lib.hid (HBX.out.below' hb2); have BEL := Lib.hid (BEL.out.trans (Below.mono hb2 BEL.out.size)); have k2 := blkc HBX.out (i := 2) rfl)) | (go_at_call 72; ((with_reducible refine (HC2.out _).mono ?_); rintro e w3 ⟨rfl, hb3⟩; rw [HN2.out]; have HBX := Lib.hid (HBX.out.below' hb3); have BEL := Lib.hid (BEL.out.trans (Below.mono hb3 BEL.out.size)); have k3 := blkc HBX.out (i := 3) rfl; have k4 := blkc HBX.out (i := 4) rfl)) | (go_at_call 54; (try rw [HKD.out]); (with_reducible refine (cmust_bad _ _).mono ?_); rintro e w4 ⟨rfl, rfl⟩))
  exact ⟨rfl, LkIs.bad HQ.out (by decide) BEL.out⟩
set_option maxRecDepth 100000 in
set_option maxHeartbeats 8000000 in
theorem look_all (w : World) (sn : Int) (is su : ByteArray) (ka : Option Addr) (kn kc : Nat) (xa : Option Addr) (n xc : Nat) (sa : Option Addr) (sl sc : Nat) (ib sb : List Nat) (xs : List XV) (hib : strL is = ib) (hsb : strL su = sb) (hx : XIn w xa n xc xs) (h1 : nameOk ib = true) (h2 : nameOk sb = true) (h3 : kn = 2017) (h4 : n ≤ 16) : Calls Tryz.prog 36 #[.agg #[.int .u64 sn, .string is, .string su, .slice ka kn kc, .slice xa n xc, .slice sa sl sc]] w (LkIs (lkQ ib sb kn xs) w) := by
  subst h3
  have HC := Lib.hid (show C1 ib sb 2017 xs from ⟨h1, h2, rfl, by rw [hx.1]; exact h4⟩)
  have HL := Lib.hid hx.1
  have HX := Lib.hid hx
  have HN1 := Lib.hid h1
  have HN2 := Lib.hid h2
  have hki : (n : Int) ≤ 16 := by omega
  have HKD := Lib.hid (show decide ((n : Int) ≤ 16) = true from decide_eq_true hki)
  have hnn : n ≤ 16 := h4
  have HBX := Lib.hid (Blk.new w 26 [.int .u64 sn, .string is, .string su, .slice ka 2017 kc, .slice xa n xc, .slice sa sl sc])
  have BEL := Lib.hid ((Below.refl _ w).alloc (Nat.le_refl _) (.cells #[.int .u64 sn, .string is, .string su, .slice ka 2017 kc, .slice xa n xc, .slice sa sl sc] 26))
  have HC1 := Lib.hid (fun W => isName_any is ib hib W)
  have HC2 := Lib.hid (fun W => isName_any su sb hsb W)
  clear hib hsb hx h1 h2
  go_enter Tryz.func36, Tryz.ntmps36
  generalize hW1 : w.alloc (.cells #[.int .u64 sn, .string is, .string su, .slice ka 2017 kc, .slice xa n xc, .slice sa sl sc] 26) = W1 at *
  have k1 := blkc HBX.out (i := 1) rfl
  go_wp2_with (first | (go_at_call 72; ((with_reducible refine (HC1.out _).mono ?_); rintro e w2 ⟨rfl, hb2⟩; rw [HN1.out]; have HBX := Lib.hid (HBX.out.below' hb2); have BEL := Lib.hid (BEL.out.trans (Below.mono hb2 BEL.out.size)); have k2 := blkc HBX.out (i := 2) rfl)) | (go_at_call 72; ((with_reducible refine (HC2.out _).mono ?_); rintro e w3 ⟨rfl, hb3⟩; rw [HN2.out]; have HBX := Lib.hid (HBX.out.below' hb3); have BEL := Lib.hid (BEL.out.trans (Below.mono hb3 BEL.out.size)); have k3 := blkc HBX.out (i := 3) rfl; have k4 := blkc HBX.out (i := 4) rfl)) | (go_at_call 54; (try rw [HKD.out]); (with_reducible refine (cmust_ok _ _).mono ?_); rintro e w4 ⟨rfl, rfl⟩))
  go_loopw [32] (fun i wr => ∃ j : Nat, i = .int .i64 (j : Nat) ∧ j ≤ n ∧ (∀ k x, k < j → xs[k]? = some x → 1 ≤ x.1 ∧ x.1 ≤ 2147483647) ∧ Below w.heap.size w wr ∧ Blk wr w.heap.size 26 [.int .u64 sn, .string is, .string su, .slice ka 2017 kc, .slice xa n xc, .slice sa sl sc]) (fun i _ => n - (intOf i).toNat)
  case atStart => exact ⟨0, rfl, Nat.zero_le _, fun k x h => absurd h (Nat.not_lt_zero _), BEL.out, HBX.out⟩
  case round =>
    obtain ⟨j, rfl, hj, hall, hbel, hblk⟩ := hrel
    have BEL := Lib.hid hbel
    have HBX := Lib.hid hblk
    have HALL := Lib.hid hall
    have k4 := blkc HBX.out (i := 4) rfl
    clear hbel hblk hall
    by_cases hjn : j < n
    · obtain ⟨y, hy⟩ : ∃ y, xs[j]? = some y := ⟨xs[j]'(by have := HL.out; omega), List.getElem?_eq_getElem _⟩
      have HXI := Lib.hid (HX.out.below BEL.out)
      obtain ⟨g, o, rfl, hrow⟩ := HXI.out.2.2.2.2.resolve_left (by omega)
      obtain ⟨hxb, a2, c2, hr, hbi⟩ := hrow.at hy
      obtain ⟨m2, hm2⟩ : ∃ q, y.2.2.length = q := ⟨_, rfl⟩
      rw [hm2] at hr
      have HR := Lib.hid hr
      have HY := Lib.hid hy
      have hji : (j : Int) < (n : Int) := by omega
      have hj0 : (0 : Int) ≤ (j : Int) := by omega
      clear hr hrow hy hm2 hbi
      by_cases hr1 : 1 ≤ y.1
      · by_cases hr2 : y.1 ≤ 2147483647
        · have HRR := Lib.hid (show 1 ≤ y.1 ∧ y.1 ≤ 2147483647 from ⟨hr1, hr2⟩)
          go_wp2_with (first | (refine ldX rfl (.tmp 34) rfl g (o + j * 3) rfl _ _ _ HR.out ?_) | (refine wpList_store_row (P := Tryz.prog) rfl 67 (.tmp 3) (.tmp 35) rfl wr.heap.size #[.int .i64 y.1, .bool y.2.1, .slice a2 m2 c2] rfl rfl 67 _ (Blk.new wr 67 [.int .i64 0, .bool false, .slice none 0 0]) info65 rfl (all_ext _ _ _ _ _) ?_; go_loud (have hbE : Gr wr ((wr.alloc (.cells #[.int .i64 0, .bool false, .slice none 0 0] 67)).setRow wr.heap.size #[.int .i64 y.1, .bool y.2.1, .slice a2 m2 c2]) := below_setRow' (Gr.alloc wr _) (Nat.le_refl _) _; have HE := Lib.hid ((Blk.new wr 67 [.int .i64 0, .bool false, .slice none 0 0]).setRow [.int .i64 y.1, .bool y.2.1, .slice a2 m2 c2]); have BEL := Lib.hid (BEL.out.trans (Below.mono hbE BEL.out.size)); have HBX := Lib.hid (HBX.out.below' hbE); clear hbE; generalize (wr.alloc (.cells #[.int .i64 0, .bool false, .slice none 0 0] 67)).setRow wr.heap.size #[.int .i64 y.1, .bool y.2.1, .slice a2 m2 c2] = w5 at *; have e0 := blkc HE.out (i := 0) rfl; have e1 := blkc HE.out (i := 1) rfl; have k4 := blkc HBX.out (i := 4) rfl)) | (go_at_call 54; (try rw [HKD.out]); (with_reducible refine (cmust_ok _ _).mono ?_); rintro e w4 ⟨rfl, rfl⟩))
          go_roundw
          case rel => exact ⟨j + 1, by go_num, by omega, fun k x hk hx => by
            by_cases hkj : k = j
            · subst hkj
              have : x = y := by have h := HY.out; rw [hx] at h; injection h
              subst this
              exact HRR.out
            · exact HALL.out k x (by omega) hx, BEL.out, HBX.out⟩
          case measure => simp [intOf]; omega
        · have hr2' : (2147483647 : Int) < y.1 := by omega
          go_wp2_with (first | (refine ldX rfl (.tmp 34) rfl g (o + j * 3) rfl _ _ _ HR.out ?_) | (refine wpList_store_row (P := Tryz.prog) rfl 67 (.tmp 3) (.tmp 35) rfl wr.heap.size #[.int .i64 y.1, .bool y.2.1, .slice a2 m2 c2] rfl rfl 67 _ (Blk.new wr 67 [.int .i64 0, .bool false, .slice none 0 0]) info65 rfl (all_ext _ _ _ _ _) ?_; go_loud (have hbE : Gr wr ((wr.alloc (.cells #[.int .i64 0, .bool false, .slice none 0 0] 67)).setRow wr.heap.size #[.int .i64 y.1, .bool y.2.1, .slice a2 m2 c2]) := below_setRow' (Gr.alloc wr _) (Nat.le_refl _) _; have HE := Lib.hid ((Blk.new wr 67 [.int .i64 0, .bool false, .slice none 0 0]).setRow [.int .i64 y.1, .bool y.2.1, .slice a2 m2 c2]); have BEL := Lib.hid (BEL.out.trans (Below.mono hbE BEL.out.size)); have HBX := Lib.hid (HBX.out.below' hbE); clear hbE; generalize (wr.alloc (.cells #[.int .i64 0, .bool false, .slice none 0 0] 67)).setRow wr.heap.size #[.int .i64 y.1, .bool y.2.1, .slice a2 m2 c2] = w5 at *; have e0 := blkc HE.out (i := 0) rfl; have e1 := blkc HE.out (i := 1) rfl; have k4 := blkc HBX.out (i := 4) rfl)) | (go_at_call 54; (try rw [HKD.out]); (with_reducible refine (cmust_bad _ _).mono ?_); rintro e w4 ⟨rfl, rfl⟩))
          exact ⟨rfl, LkIs.bad (lk2 HC.out (fun h => by have := (h j y HY.out).2; omega)) (by decide) BEL.out⟩
      · have hr1' : y.1 < (1 : Int) := by omega
        go_wp2_with (first | (refine ldX rfl (.tmp 34) rfl g (o + j * 3) rfl _ _ _ HR.out ?_) | (refine wpList_store_row (P := Tryz.prog) rfl 67 (.tmp 3) (.tmp 35) rfl wr.heap.size #[.int .i64 y.1, .bool y.2.1, .slice a2 m2 c2] rfl rfl 67 _ (Blk.new wr 67 [.int .i64 0, .bool false, .slice none 0 0]) info65 rfl (all_ext _ _ _ _ _) ?_; go_loud (have hbE : Gr wr ((wr.alloc (.cells #[.int .i64 0, .bool false, .slice none 0 0] 67)).setRow wr.heap.size #[.int .i64 y.1, .bool y.2.1, .slice a2 m2 c2]) := below_setRow' (Gr.alloc wr _) (Nat.le_refl _) _; have HE := Lib.hid ((Blk.new wr 67 [.int .i64 0, .bool false, .slice none 0 0]).setRow [.int .i64 y.1, .bool y.2.1, .slice a2 m2 c2]); have BEL := Lib.hid (BEL.out.trans (Below.mono hbE BEL.out.size)); have HBX := Lib.hid (HBX.out.below' hbE); clear hbE; generalize (wr.alloc (.cells #[.int .i64 0, .bool false, .slice none 0 0] 67)).setRow wr.heap.size #[.int .i64 y.1, .bool y.2.1, .slice a2 m2 c2] = w5 at *; have e0 := blkc HE.out (i := 0) rfl; have e1 := blkc HE.out (i := 1) rfl; have k4 := blkc HBX.out (i := 4) rfl)) | (go_at_call 54; (try rw [HKD.out]); (with_reducible refine (cmust_bad _ _).mono ?_); rintro e w4 ⟨rfl, rfl⟩))
        exact ⟨rfl, LkIs.bad (lk2 HC.out (fun h => by have := (h j y HY.out).1; omega)) (by decide) BEL.out⟩
    · have hji : ¬ (j : Int) < (n : Int) := by omega
      have H2 := Lib.hid (show C2 xs from fun k x hx => HALL.out k x (by have h1 := (List.getElem?_eq_some_iff.1 hx).1; have h2 := HL.out; omega) hx)
      go_wp2_with fail
      go_loopw [49] (fun i wr => ∃ j : Nat, i = .int .i64 (j : Nat) ∧ j ≤ n ∧ (∀ k x, k < j → xs[k]? = some x → FirstX xs x.1 k x) ∧ Below w.heap.size w wr ∧ Blk wr w.heap.size 26 [.int .u64 sn, .string is, .string su, .slice ka 2017 kc, .slice xa n xc, .slice sa sl sc]) (fun i _ => n - (intOf i).toNat)
      case atStart => exact ⟨0, rfl, Nat.zero_le _, fun k x h => absurd h (Nat.not_lt_zero _), BEL.out, HBX.out⟩
      case round =>
        obtain ⟨j, rfl, hj, hall, hbel, hblk⟩ := hrel
        have BEL := Lib.hid hbel
        have HBX := Lib.hid hblk
        have HALL := Lib.hid hall
        have k4 := blkc HBX.out (i := 4) rfl
        clear hbel hblk hall
        by_cases hjn : j < n
        · obtain ⟨y, hy⟩ : ∃ y, xs[j]? = some y := ⟨xs[j]'(by have := HL.out; omega), List.getElem?_eq_getElem _⟩
          have HXI := Lib.hid (HX.out.below BEL.out)
          obtain ⟨g, o, rfl, hrow⟩ := HXI.out.2.2.2.2.resolve_left (by omega)
          obtain ⟨hxb, a2, c2, hr, hbi⟩ := hrow.at hy
          obtain ⟨m2, hm2⟩ : ∃ q, y.2.2.length = q := ⟨_, rfl⟩
          rw [hm2] at hr
          have HR := Lib.hid hr
          have HY := Lib.hid hy
          have hji : (j : Int) < (n : Int) := by omega
          have hj0 : (0 : Int) ≤ (j : Int) := by omega
          clear hr hrow hy hm2 hbi
          by_cases hfi : FirstX xs y.1 j y
          · have HFI := Lib.hid hfi
            clear hfi
            go_wp2_with (first | (refine ldX rfl (.tmp 52) rfl g (o + j * 3) rfl _ _ _ HR.out ?_) | (refine wpList_store_row (P := Tryz.prog) rfl 67 (.tmp 5) (.tmp 53) rfl wr.heap.size #[.int .i64 y.1, .bool y.2.1, .slice a2 m2 c2] rfl rfl 67 _ (Blk.new wr 67 [.int .i64 0, .bool false, .slice none 0 0]) info65 rfl (all_ext _ _ _ _ _) ?_; go_loud (have hbE : Gr wr ((wr.alloc (.cells #[.int .i64 0, .bool false, .slice none 0 0] 67)).setRow wr.heap.size #[.int .i64 y.1, .bool y.2.1, .slice a2 m2 c2]) := below_setRow' (Gr.alloc wr _) (Nat.le_refl _) _; have HE := Lib.hid ((Blk.new wr 67 [.int .i64 0, .bool false, .slice none 0 0]).setRow [.int .i64 y.1, .bool y.2.1, .slice a2 m2 c2]); have BEL := Lib.hid (BEL.out.trans (Below.mono hbE BEL.out.size)); have HBX := Lib.hid (HBX.out.below' hbE); clear hbE; generalize (wr.alloc (.cells #[.int .i64 0, .bool false, .slice none 0 0] 67)).setRow wr.heap.size #[.int .i64 y.1, .bool y.2.1, .slice a2 m2 c2] = w6 at *; have e0 := blkc HE.out (i := 0) rfl; have e1 := blkc HE.out (i := 1) rfl; have k4 := blkc HBX.out (i := 4) rfl)) | (go_at_call 73; go_loud ((with_reducible refine (place_found _ xs y.1 _ _ _ j y HFI.out (HX.out.below BEL.out)).mono ?_); rintro e w7 ⟨rfl, hb7⟩; have hg7 : Below w.heap.size w w7 := BEL.out.trans (Below.mono hb7 BEL.out.size); have BEL := Lib.hid hg7; have HBX := Lib.hid (HBX.out.below' hb7); clear hb7 hg7)) | (go_at_call 54; (try rw [HKD.out]); (with_reducible refine (cmust_ok _ _).mono ?_); rintro e w4 ⟨rfl, rfl⟩))
            go_roundw
            case rel => exact ⟨j + 1, by go_num, by omega, fun k x hk hx => by
              by_cases hkj : k = j
              · subst hkj
                have : x = y := by have h := HY.out; rw [hx] at h; injection h
                subst this
                exact HFI.out
              · exact HALL.out k x (by omega) hx, BEL.out, HBX.out⟩
            case measure => simp [intOf]; omega
          · obtain ⟨i, x0, hf0⟩ := first_at HY.out
            have hij : i ≠ j := fun h => by subst h; have : x0 = y := by { have h1 := hf0.1; rw [HY.out] at h1; injection h1 with h1; exact h1.symm }; subst this; exact hfi hf0
            have hijb : ((i : Int) == (j : Int)) = false := by simp; omega
            have hiji : ¬ (i : Int) = (j : Int) := by omega
            have HFI := Lib.hid hf0
            have HFN := Lib.hid hfi
            clear hfi hf0
            go_wp2_with (first | (refine ldX rfl (.tmp 52) rfl g (o + j * 3) rfl _ _ _ HR.out ?_) | (refine wpList_store_row (P := Tryz.prog) rfl 67 (.tmp 5) (.tmp 53) rfl wr.heap.size #[.int .i64 y.1, .bool y.2.1, .slice a2 m2 c2] rfl rfl 67 _ (Blk.new wr 67 [.int .i64 0, .bool false, .slice none 0 0]) info65 rfl (all_ext _ _ _ _ _) ?_; go_loud (have hbE : Gr wr ((wr.alloc (.cells #[.int .i64 0, .bool false, .slice none 0 0] 67)).setRow wr.heap.size #[.int .i64 y.1, .bool y.2.1, .slice a2 m2 c2]) := below_setRow' (Gr.alloc wr _) (Nat.le_refl _) _; have HE := Lib.hid ((Blk.new wr 67 [.int .i64 0, .bool false, .slice none 0 0]).setRow [.int .i64 y.1, .bool y.2.1, .slice a2 m2 c2]); have BEL := Lib.hid (BEL.out.trans (Below.mono hbE BEL.out.size)); have HBX := Lib.hid (HBX.out.below' hbE); clear hbE; generalize (wr.alloc (.cells #[.int .i64 0, .bool false, .slice none 0 0] 67)).setRow wr.heap.size #[.int .i64 y.1, .bool y.2.1, .slice a2 m2 c2] = w6 at *; have e0 := blkc HE.out (i := 0) rfl; have e1 := blkc HE.out (i := 1) rfl; have k4 := blkc HBX.out (i := 4) rfl)) | (go_at_call 73; go_loud ((with_reducible refine (place_found _ xs y.1 _ _ _ i x0 HFI.out (HX.out.below BEL.out)).mono ?_); rintro e w7 ⟨rfl, hb7⟩; have hg7 : Below w.heap.size w w7 := BEL.out.trans (Below.mono hb7 BEL.out.size); have BEL := Lib.hid hg7; have HBX := Lib.hid (HBX.out.below' hb7); clear hb7 hg7)) | (go_at_call 54; (try rw [HKD.out]); (with_reducible refine (cmust_bad _ _).mono ?_); rintro e w4 ⟨rfl, rfl⟩))
            exact ⟨rfl, LkIs.bad (lk3 HC.out H2.out (fun h => HFN.out (h j y HY.out))) (by decide) BEL.out⟩
        · have hji : ¬ (j : Int) < (n : Int) := by omega
          have H3 := Lib.hid (show C3 xs from fun k x hx => HALL.out k x (by have h1 := (List.getElem?_eq_some_iff.1 hx).1; have h2 := HL.out; omega) hx)
          go_wp2_with fail
          go_loopw [66] (fun i wr => ∃ j : Nat, i = .int .i64 (j : Nat) ∧ j ≤ n ∧ (∀ k x, k < j → xs[k]? = some x → knownB x.1 = true ∨ x.2.1 = false) ∧ Below w.heap.size w wr ∧ Blk wr w.heap.size 26 [.int .u64 sn, .string is, .string su, .slice ka 2017 kc, .slice xa n xc, .slice sa sl sc]) (fun i _ => n - (intOf i).toNat)
          case atStart => exact ⟨0, rfl, Nat.zero_le _, fun k x h => absurd h (Nat.not_lt_zero _), BEL.out, HBX.out⟩
          case round =>
            obtain ⟨j, rfl, hj, hall, hbel, hblk⟩ := hrel
            have BEL := Lib.hid hbel
            have HBX := Lib.hid hblk
            have HALL := Lib.hid hall
            have k4 := blkc HBX.out (i := 4) rfl
            clear hbel hblk hall
            by_cases hjn : j < n
            · obtain ⟨y, hy⟩ : ∃ y, xs[j]? = some y := ⟨xs[j]'(by have := HL.out; omega), List.getElem?_eq_getElem _⟩
              have HXI := Lib.hid (HX.out.below BEL.out)
              obtain ⟨g, o, rfl, hrow⟩ := HXI.out.2.2.2.2.resolve_left (by omega)
              obtain ⟨hxb, a2, c2, hr, hbi⟩ := hrow.at hy
              obtain ⟨m2, hm2⟩ : ∃ q, y.2.2.length = q := ⟨_, rfl⟩
              rw [hm2] at hr
              have HR := Lib.hid hr
              have HY := Lib.hid hy
              have hji : (j : Int) < (n : Int) := by omega
              have hj0 : (0 : Int) ≤ (j : Int) := by omega
              clear hr hrow hy hm2 hbi
              cases hk : knownB y.1 with
              | true =>
                have HK := Lib.hid hk
                clear hk
                go_wp2_with (first | (refine ldX rfl (.tmp 68) rfl g (o + j * 3) rfl _ _ _ HR.out ?_) | (refine wpList_store_row (P := Tryz.prog) rfl 67 (.tmp 7) (.tmp 69) rfl wr.heap.size #[.int .i64 y.1, .bool y.2.1, .slice a2 m2 c2] rfl rfl 67 _ (Blk.new wr 67 [.int .i64 0, .bool false, .slice none 0 0]) info65 rfl (all_ext _ _ _ _ _) ?_; go_loud (have hbE : Gr wr ((wr.alloc (.cells #[.int .i64 0, .bool false, .slice none 0 0] 67)).setRow wr.heap.size #[.int .i64 y.1, .bool y.2.1, .slice a2 m2 c2]) := below_setRow' (Gr.alloc wr _) (Nat.le_refl _) _; have HE := Lib.hid ((Blk.new wr 67 [.int .i64 0, .bool false, .slice none 0 0]).setRow [.int .i64 y.1, .bool y.2.1, .slice a2 m2 c2]); have BEL := Lib.hid (BEL.out.trans (Below.mono hbE BEL.out.size)); have HBX := Lib.hid (HBX.out.below' hbE); clear hbE; generalize (wr.alloc (.cells #[.int .i64 0, .bool false, .slice none 0 0] 67)).setRow wr.heap.size #[.int .i64 y.1, .bool y.2.1, .slice a2 m2 c2] = w9 at *; have e0 := blkc HE.out (i := 0) rfl; have e1 := blkc HE.out (i := 1) rfl; have k4 := blkc HBX.out (i := 4) rfl)) | (go_at_call 74; go_loud ((with_reducible refine (isKnown_any _ _).mono ?_); rintro e w8 ⟨rfl, rfl⟩; rw [HK.out])) | (go_at_call 54; (try rw [HKD.out]); (with_reducible refine (cmust_ok _ _).mono ?_); rintro e w4 ⟨rfl, rfl⟩))
                go_roundw
                case rel => exact ⟨j + 1, by go_num, by omega, fun k x hk hx => by
                  by_cases hkj : k = j
                  · subst hkj
                    have : x = y := by have h := HY.out; rw [hx] at h; injection h
                    subst this
                    exact .inl HK.out
                  · exact HALL.out k x (by omega) hx, BEL.out, HBX.out⟩
                case measure => simp [intOf]; omega
              | false =>
                have HK := Lib.hid hk
                clear hk
                cases hc : y.2.1 with
                | false =>
                  rw [hc] at HR
                  have HCR := Lib.hid hc
                  clear hc
                  go_wp2_with (first | (refine ldX rfl (.tmp 68) rfl g (o + j * 3) rfl _ _ _ HR.out ?_) | (refine wpList_store_row (P := Tryz.prog) rfl 67 (.tmp 7) (.tmp 69) rfl wr.heap.size #[.int .i64 y.1, .bool false, .slice a2 m2 c2] rfl rfl 67 _ (Blk.new wr 67 [.int .i64 0, .bool false, .slice none 0 0]) info65 rfl (all_ext _ _ _ _ _) ?_; go_loud (have hbE : Gr wr ((wr.alloc (.cells #[.int .i64 0, .bool false, .slice none 0 0] 67)).setRow wr.heap.size #[.int .i64 y.1, .bool false, .slice a2 m2 c2]) := below_setRow' (Gr.alloc wr _) (Nat.le_refl _) _; have HE := Lib.hid ((Blk.new wr 67 [.int .i64 0, .bool false, .slice none 0 0]).setRow [.int .i64 y.1, .bool false, .slice a2 m2 c2]); have BEL := Lib.hid (BEL.out.trans (Below.mono hbE BEL.out.size)); have HBX := Lib.hid (HBX.out.below' hbE); clear hbE; generalize (wr.alloc (.cells #[.int .i64 0, .bool false, .slice none 0 0] 67)).setRow wr.heap.size #[.int .i64 y.1, .bool false, .slice a2 m2 c2] = w9 at *; have e0 := blkc HE.out (i := 0) rfl; have e1 := blkc HE.out (i := 1) rfl; have k4 := blkc HBX.out (i := 4) rfl)) | (go_at_call 74; go_loud ((with_reducible refine (isKnown_any _ _).mono ?_); rintro e w8 ⟨rfl, rfl⟩; rw [HK.out])) | (go_at_call 54; (try rw [HKD.out]); (with_reducible refine (cmust_ok _ _).mono ?_); rintro e w4 ⟨rfl, rfl⟩))
                  go_roundw
                  case rel => exact ⟨j + 1, by go_num, by omega, fun k x hk hx => by
                    by_cases hkj : k = j
                    · subst hkj
                      have : x = y := by have h := HY.out; rw [hx] at h; injection h
                      subst this
                      exact .inr HCR.out
                    · exact HALL.out k x (by omega) hx, BEL.out, HBX.out⟩
                  case measure => simp [intOf]; omega
                | true =>
                  rw [hc] at HR
                  have HCR := Lib.hid hc
                  clear hc
                  go_wp2_with (first | (refine ldX rfl (.tmp 68) rfl g (o + j * 3) rfl _ _ _ HR.out ?_) | (refine wpList_store_row (P := Tryz.prog) rfl 67 (.tmp 7) (.tmp 69) rfl wr.heap.size #[.int .i64 y.1, .bool true, .slice a2 m2 c2] rfl rfl 67 _ (Blk.new wr 67 [.int .i64 0, .bool false, .slice none 0 0]) info65 rfl (all_ext _ _ _ _ _) ?_; go_loud (have hbE : Gr wr ((wr.alloc (.cells #[.int .i64 0, .bool false, .slice none 0 0] 67)).setRow wr.heap.size #[.int .i64 y.1, .bool true, .slice a2 m2 c2]) := below_setRow' (Gr.alloc wr _) (Nat.le_refl _) _; have HE := Lib.hid ((Blk.new wr 67 [.int .i64 0, .bool false, .slice none 0 0]).setRow [.int .i64 y.1, .bool true, .slice a2 m2 c2]); have BEL := Lib.hid (BEL.out.trans (Below.mono hbE BEL.out.size)); have HBX := Lib.hid (HBX.out.below' hbE); clear hbE; generalize (wr.alloc (.cells #[.int .i64 0, .bool false, .slice none 0 0] 67)).setRow wr.heap.size #[.int .i64 y.1, .bool true, .slice a2 m2 c2] = w9 at *; have e0 := blkc HE.out (i := 0) rfl; have e1 := blkc HE.out (i := 1) rfl; have k4 := blkc HBX.out (i := 4) rfl)) | (go_at_call 74; go_loud ((with_reducible refine (isKnown_any _ _).mono ?_); rintro e w8 ⟨rfl, rfl⟩; rw [HK.out])) | (go_at_call 54; (try rw [HKD.out]); (with_reducible refine (cmust_bad _ _).mono ?_); rintro e w4 ⟨rfl, rfl⟩))
                  exact ⟨rfl, LkIs.bad (lk4 HC.out H2.out H3.out (fun h => by rcases h j y HY.out with h | h; rw [HK.out] at h; cases h; rw [HCR.out] at h; cases h)) (by decide) BEL.out⟩
            · have hji : ¬ (j : Int) < (n : Int) := by omega
              have H4 := Lib.hid (show C4 xs from fun k x hx => HALL.out k x (by have h1 := (List.getElem?_eq_some_iff.1 hx).1; have h2 := HL.out; omega) hx)
              go_wp2_with fail
              go_end0
              exact LkIs.good (lk0 HC.out H2.out H3.out H4.out) BEL.out
theorem lookAtSigned_any (w : World) (sn : Int) (is su : ByteArray) (ka : Option Addr) (kn kc : Nat) (xa : Option Addr) (n xc : Nat) (sa : Option Addr) (sl sc : Nat) (ib sb : List Nat) (xs : List XV) (hib : strL is = ib) (hsb : strL su = sb) (hx : XIn w xa n xc xs) : Calls Tryz.prog 36 #[.agg #[.int .u64 sn, .string is, .string su, .slice ka kn kc, .slice xa n xc, .slice sa sl sc]] w (LkIs (lkQ ib sb kn xs) w) := by
  cases h1 : nameOk ib with
  | false => exact look_n1 w sn is su ka kn kc xa n xc sa sl sc ib sb xs hib hsb hx.1 h1
  | true =>
    cases h2 : nameOk sb with
    | false => exact look_n2 w sn is su ka kn kc xa n xc sa sl sc ib sb xs hib hsb hx.1 h1 h2
    | true =>
      by_cases h3 : kn = 2017
      · by_cases h4 : n ≤ 16
        · exact look_all w sn is su ka kn kc xa n xc sa sl sc ib sb xs hib hsb hx h1 h2 h3 h4
        · exact look_len w sn is su ka kn kc xa n xc sa sl sc ib sb xs hib hsb hx.1 h1 h2 h3 (by omega)
      · exact look_kn w sn is su ka kn kc xa n xc sa sl sc ib sb xs hib hsb hx.1 h1 h2 h3
end Go.Proofs.YtbabpmncdphnjaaGreat
namespace Go.Proofs.YtbabpmncdphnjaaGreat
open Go.RowKit
set_option linter.unusedVariables false
set_option maxRecDepth 100000
set_option linter.unusedSimpArgs false
set_option maxRecDepth 100000 in
set_option maxHeartbeats 8000000 in
theorem same13_eq (w : World) (sn : Int) (is su : ByteArray) (ka ka2 : Option Addr) (kn kc kc2 : Nat) (kb : List Nat) (hk : BIn w ka kn kc kb) (hk2 : BIn w ka2 kn kc2 kb) (xa xa2 : Option Addr) (n xc xc2 : Nat) (xs : List XV) (hx : XIn w xa n xc xs) (hx2 : XIn w xa2 n xc2 xs) (sa sa2 : Option Addr) (sl sc sc2 : Nat) (sg : List Nat) (hs : BIn w sa sl sc sg) (hs2 : BIn w sa2 sl sc2 sg) :
    Calls Tryz.prog 7 #[.agg #[.int .u64 sn, .string is, .string su, .slice ka kn kc, .slice xa n xc, .slice sa sl sc], .agg #[.int .u64 sn, .string is, .string su, .slice ka2 kn kc2, .slice xa2 n xc2, .slice sa2 sl sc2]] w fun e w' => e = .returned (.bool true) ∧ Below w.heap.size w w' := by
  have h00 := ((Below.refl _ w).alloc (Nat.le_refl _) (.cells #[.int .u64 sn, .string is, .string su, .slice ka kn kc, .slice xa n xc, .slice sa sl sc] 26)).alloc (by simp) (.cells #[.int .u64 sn, .string is, .string su, .slice ka2 kn kc2, .slice xa2 n xc2, .slice sa2 sl sc2] 26)
  have HA := Lib.hid ((Blk.new w 26 [.int .u64 sn, .string is, .string su, .slice ka kn kc, .slice xa n xc, .slice sa sl sc]).alloc (.cells #[.int .u64 sn, .string is, .string su, .slice ka2 kn kc2, .slice xa2 n xc2, .slice sa2 sl sc2] 26))
  have HB := Lib.hid (Blk.new2 w (.cells #[.int .u64 sn, .string is, .string su, .slice ka kn kc, .slice xa n xc, .slice sa sl sc] 26) 26 [.int .u64 sn, .string is, .string su, .slice ka2 kn kc2, .slice xa2 n xc2, .slice sa2 sl sc2])
  have hs1 := bin_str (hk.below h00)
  have hs2_ := bin_str (hk2.below h00)
  have hs3 := bin_str (hs.below h00)
  have hs4 := bin_str (hs2.below h00)
  have HX := Lib.hid hx
  have HX2 := Lib.hid hx2
  have HL := Lib.hid hx.1
  have HNM := Lib.hid hx.2.2.1
  have H00 := Lib.hid h00
  clear hk hk2 hx hx2 hs hs2 h00
  go_enter Tryz.func7, Tryz.ntmps7
  generalize hW0 : (w.alloc (.cells #[.int .u64 sn, .string is, .string su, .slice ka kn kc, .slice xa n xc, .slice sa sl sc] 26)).alloc (.cells #[.int .u64 sn, .string is, .string su, .slice ka2 kn kc2, .slice xa2 n xc2, .slice sa2 sl sc2] 26) = W0 at *
  have k0 := blkc HA.out (i := 0) rfl
  have k1 := blkc HA.out (i := 1) rfl
  have k2 := blkc HA.out (i := 2) rfl
  have k3 := blkc HA.out (i := 3) rfl
  have k4 := blkc HA.out (i := 4) rfl
  have k5 := blkc HA.out (i := 5) rfl
  have m0 := blkc HB.out (i := 0) rfl
  have m1 := blkc HB.out (i := 1) rfl
  have m2 := blkc HB.out (i := 2) rfl
  have m3 := blkc HB.out (i := 3) rfl
  have m4 := blkc HB.out (i := 4) rfl
  have m5 := blkc HB.out (i := 5) rfl
  go_wp2_with fail
  clear hs1 hs2_ hs3 hs4 k0 k1 k2 k3 k4 k5 m0 m1 m2 m3 m4 m5
  go_loopw [5] (fun v wr => ∃ j : Nat, v = .int .i64 (j : Nat) ∧ j ≤ n ∧ Below W0.heap.size W0 wr) (fun v _ => n - (intOf v).toNat)
  case atStart => exact ⟨0, rfl, Nat.zero_le _, Below.refl _ _⟩
  case round =>
    obtain ⟨j, rfl, hj, hbel⟩ := hrel
    have HAr := Lib.hid (HA.out.below' hbel)
    have HBr := Lib.hid (HB.out.below' hbel)
    have HB0 := Lib.hid hbel
    have H0r := Lib.hid (H00.out.trans (Below.mono hbel H00.out.size))
    have k4 := blkc HAr.out (i := 4) rfl
    have m4 := blkc HBr.out (i := 4) rfl
    have hnm := HNM.out
    clear hbel
    by_cases hjn : j < n
    · obtain ⟨y, hy⟩ : ∃ y, xs[j]? = some y := ⟨xs[j]'(by have := HL.out; omega), List.getElem?_eq_getElem _⟩
      obtain ⟨g, o, rfl, hrow⟩ := HX.out.2.2.2.2.resolve_left (by omega)
      obtain ⟨g2, o2, rfl, hrow2⟩ := HX2.out.2.2.2.2.resolve_left (by omega)
      obtain ⟨_, a1, c1, r1, b1⟩ := hrow.at hy
      obtain ⟨_, a2, c2, r2, b2⟩ := hrow2.at hy
      obtain ⟨q, hq⟩ : ∃ q, y.2.2.length = q := ⟨_, rfl⟩
      rw [hq] at r1 r2 b1 b2
      have R1 := Lib.hid r1
      have R2 := Lib.hid r2
      have B1 := Lib.hid b1
      have B2 := Lib.hid b2
      have hji : (j : Int) < (n : Int) := by omega
      have hj0 : (0 : Int) ≤ (j : Int) := by omega
      clear hy hrow hrow2 r1 r2 b1 b2 hq
      go_wp2_with (first | (refine ldX rfl (.tmp 64) rfl g (o + j * 3) rfl _ _ _ (rangeAt_below R1.out H0r.out) ?_) | (refine wpList_store_row (P := Tryz.prog) rfl 67 (.tmp 6) (.tmp 65) rfl wr.heap.size #[.int .i64 y.1, .bool y.2.1, .slice a1 q c1] rfl rfl 67 _ (Blk.new wr 67 [.int .i64 0, .bool false, .slice none 0 0]) info65 rfl (all_ext _ _ _ _ _) ?_; go_loud (have hbE : Gr wr ((wr.alloc (.cells #[.int .i64 0, .bool false, .slice none 0 0] 67)).setRow wr.heap.size #[.int .i64 y.1, .bool y.2.1, .slice a1 q c1]) := below_setRow' (Gr.alloc wr _) (Nat.le_refl _) _; have HE := Lib.hid ((Blk.new wr 67 [.int .i64 0, .bool false, .slice none 0 0]).setRow [.int .i64 y.1, .bool y.2.1, .slice a1 q c1]); have HG5 := Lib.hid hbE; have HBr := Lib.hid (HBr.out.below' hbE); have H5 := Lib.hid (HB0.out.trans (Below.mono hbE HB0.out.size)); have H05 := Lib.hid (H0r.out.trans (Below.mono hbE H0r.out.size)); clear hbE k4 m4; generalize (wr.alloc (.cells #[.int .i64 0, .bool false, .slice none 0 0] 67)).setRow wr.heap.size #[.int .i64 y.1, .bool y.2.1, .slice a1 q c1] = w5 at *; have m4 := blkc HBr.out (i := 4) rfl)) | (refine ldX rfl (.tmp 69) rfl g2 (o2 + j * 3) rfl _ _ _ (rangeAt_below R2.out H05.out) ?_) | (refine wpList_store_row (P := Tryz.prog) rfl 67 (.tmp 7) (.tmp 70) rfl w5.heap.size #[.int .i64 y.1, .bool y.2.1, .slice a2 q c2] rfl rfl 67 _ (Blk.new w5 67 [.int .i64 0, .bool false, .slice none 0 0]) info65 rfl (all_ext _ _ _ _ _) ?_; go_loud (have hbE : Gr w5 ((w5.alloc (.cells #[.int .i64 0, .bool false, .slice none 0 0] 67)).setRow w5.heap.size #[.int .i64 y.1, .bool y.2.1, .slice a2 q c2]) := below_setRow' (Gr.alloc w5 _) (Nat.le_refl _) _; have HF := Lib.hid ((Blk.new w5 67 [.int .i64 0, .bool false, .slice none 0 0]).setRow [.int .i64 y.1, .bool y.2.1, .slice a2 q c2]); have HE := Lib.hid (HE.out.below' hbE); have H6 := Lib.hid (H5.out.trans (Below.mono hbE H5.out.size)); have H06 := Lib.hid (H05.out.trans (Below.mono hbE H05.out.size)); clear hbE m4; generalize (w5.alloc (.cells #[.int .i64 0, .bool false, .slice none 0 0] 67)).setRow w5.heap.size #[.int .i64 y.1, .bool y.2.1, .slice a2 q c2] = w6 at *; have p0 := blkc HE.out (i := 0) rfl; have p1 := blkc HE.out (i := 1) rfl; have p2 := blkc HE.out (i := 2) rfl; have p3 := blkc HF.out (i := 0) rfl; have p4 := blkc HF.out (i := 1) rfl; have p5 := blkc HF.out (i := 2) rfl; have s1 := bin_str (B1.out.below H06.out); have s2 := bin_str (B2.out.below H06.out))))
      go_roundw
      case rel => exact ⟨j + 1, by go_num, by omega, H6.out⟩
      case measure => simp [intOf]; omega
    · have hji : ¬ (j : Int) < (n : Int) := by omega
      go_wp2_with fail
      go_ret
      exact ⟨rfl, H0r.out⟩
end Go.Proofs.YtbabpmncdphnjaaGreat
namespace Go.Proofs.YtbabpmncdphnjaaGreat
open Go.RowKit
set_option linter.unusedVariables false
set_option maxRecDepth 100000
set_option linter.unusedSimpArgs false
theorem ofE_no {l : List Nat} (h : oidOk l = false) : ofE l = .error 127 := by unfold ofE; rw [if_neg (by simp [h])]
end Go.Proofs.YtbabpmncdphnjaaGreat
