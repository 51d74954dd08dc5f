/- The program's Add. No condition. -/
import Derived.Test.YtelfhpmbnficfaaPf
namespace Go.Proofs.Ytelfhpmbnficfaa
open Go.RowKit
set_option linter.unusedVariables false
set_option maxRecDepth 100000
set_option linter.unusedSimpArgs false
/-- a method of the program's memory: its answer, its bytes, its table; nothing else turns -/
def PDone (base a : Nat) (v : Value) (m : List Nat) (t : List Reg) (w : World) (e : Ending) (w' : World) : Prop := e = .returned v ∧ (∃ A c, PAt w' base a m t A c) ∧ FrT base tyP w w'
theorem bld7 (x : Reg) (w : World) : (Instr.buildSlice 59 1 #[(0, .agg (regP x).toArray)]).run Try.prog w = .ok (.slice (some ⟨w.heap.size, 0, none⟩) 1 1) (w.alloc (.cells (regP x).toArray 67)) := by
  obtain ⟨i0, hi0, hz0, hz1, hz2⟩ := info_parts info67z
  exact run_buildSlice w 59 67 1 _ (regP x).toArray i0 _ Try.underlying59 hi0 hz0 (by rw [hz1]; decide) (by rw [hz1]; decide) (by obtain ⟨b, s, rd, wrt, ex, sc⟩ := x; rw [hz1]; kernel_rfl)
theorem regionOf_lit (b s : Nat) (rd wrt ex sc : Bool) (w : World) : Calls Try.prog 37 #[.agg #[.int .u64 (b : Nat), .int .u64 (s : Nat), .bool rd, .bool wrt, .bool ex, .bool sc]] w fun e w' => e = .returned (.agg #[.int .u64 (b : Nat), .int .u64 (s : Nat), .bool false, .bool rd, .bool wrt, .bool ex, .bool sc]) ∧ Below w.heap.size w w' := regionOf_any ⟨b, s, rd, wrt, ex, sc⟩ w
theorem exec_bs {P : Program} {a : Act} {w w' : World} {o : Oper} {t : TypeId} {len : Nat} {parts : Array (Nat × Operand)} {vs : Array (Nat × Value)} {r : Value} (ho : o.op = .buildSlice t len parts) (hp : (parts.map fun (i, x) => (i, a.eval x)) = vs) (hr : (Instr.buildSlice t len vs).run P w = .ok r w') : (execOp a.eval o).run P w = .ok (.value r) w' := by
  subst hp
  unfold execOp
  simp only [ho, Sem.run_bind, hr, Result.andThen_ok]
  try rfl
section
variable {base a : Nat} {m : List Nat} {t : List Reg} {A : Option Addr} {c : Nat} {w : World}
theorem PDone.same {v : Value} {w' : World} (hp : PAt w base a m t A c) (hb : Below w.heap.size w w') : PDone base a v m t w (.returned v) w' := ⟨rfl, ⟨A, c, hp.bel hb⟩, FrT.bel hb⟩
end
theorem add_nil (b s : Nat) (rd wrt ex sc : Bool) (w : World) : Calls Try.prog 16 #[.pointer none, .agg #[.int .u64 (b : Nat), .int .u64 (s : Nat), .bool rd, .bool wrt, .bool ex, .bool sc]] w fun e w' => e = .returned (.int .i64 1) ∧ Below w.heap.size w w' := by
  go_enter Try.func16, Try.ntmps16
  go_wp2
  go_ret
  exact ⟨rfl, (Below.refl _ _).alloc (Nat.le_refl _) _⟩

set_option maxHeartbeats 6400000 in
theorem add_many (base a b s : Nat) (rd wrt ex sc : Bool) (m : List Nat) (t : List Reg) (A : Option Addr) (c : Nat) (w : World) (hp : PAt w base a m t A c) (km : MOk m) (kt : TOk t) (h16 : t.length = 16) :
    Calls Try.prog 16 #[.pointer (some ⟨a, 0, none⟩), .agg #[.int .u64 (b : Nat), .int .u64 (s : Nat), .bool rd, .bool wrt, .bool ex, .bool sc]] w (PDone base a (.int .i64 164) m t w) := by
  have HP := Lib.hid hp
  have hg := Gr.alloc w (.cells #[.int .u64 (b : Nat), .int .u64 (s : Nat), .bool rd, .bool wrt, .bool ex, .bool sc] 34)
  have ht := (hp.bel hg).tab km
  rw [h16] at ht
  have HG := Lib.hid hg
  clear hp hg h16
  go_enter Try.func16, Try.ntmps16
  go_wp2
  go_ret
  exact PDone.same HP.out HG.out
set_option maxHeartbeats 6400000 in
theorem add_zero (base a b s : Nat) (rd wrt ex sc : Bool) (m : List Nat) (t : List Reg) (A : Option Addr) (c : Nat) (w : World) (hp : PAt w base a m t A c) (km : MOk m) (kt : TOk t) (h16 : t.length ≠ 16) (hs : s = 0) :
    Calls Try.prog 16 #[.pointer (some ⟨a, 0, none⟩), .agg #[.int .u64 (b : Nat), .int .u64 (s : Nat), .bool rd, .bool wrt, .bool ex, .bool sc]] w (PDone base a (.int .i64 161) m t w) := by
  have HP := Lib.hid hp
  have hg := Gr.alloc w (.cells #[.int .u64 (b : Nat), .int .u64 (s : Nat), .bool rd, .bool wrt, .bool ex, .bool sc] 34)
  have ht := (hp.bel hg).tab km
  have hl := kt.len
  generalize t.length = n at ht h16 hl
  have h16I : ¬ ((n : Int) = 16) := by omega
  have hsI : ((s : Int) == 0) = true := by subst hs; rfl
  have HG := Lib.hid hg
  clear hp hg h16 hs
  go_enter Try.func16, Try.ntmps16
  go_wp2
  go_ret
  exact PDone.same HP.out HG.out
set_option maxHeartbeats 6400000 in
theorem add_out (base a b s : Nat) (rd wrt ex sc : Bool) (m : List Nat) (t : List Reg) (A : Option Addr) (c : Nat) (w : World) (hp : PAt w base a m t A c) (km : MOk m) (kt : TOk t) (h16 : t.length ≠ 16) (hs : s ≠ 0) (hb : U64 b) (hsz : U64 s) (hw : wiB b s = false) :
    Calls Try.prog 16 #[.pointer (some ⟨a, 0, none⟩), .agg #[.int .u64 (b : Nat), .int .u64 (s : Nat), .bool rd, .bool wrt, .bool ex, .bool sc]] w (PDone base a (.int .i64 161) m t w) := by
  have HP := Lib.hid hp
  have hg := Gr.alloc w (.cells #[.int .u64 (b : Nat), .int .u64 (s : Nat), .bool rd, .bool wrt, .bool ex, .bool sc] 34)
  have ht := (hp.bel hg).tab km
  have hl := kt.len
  generalize t.length = n at ht h16 hl
  have h16I : ¬ ((n : Int) = 16) := by omega
  have hsI : ((s : Int) == 0) = false := by simp; omega
  have hwc := fun w => within_any b s w hb hsz
  rw [hw] at hwc
  have HW := Lib.hid hwc
  have HG := Lib.hid hg
  clear hp hg h16 hs hwc hw hb hsz
  go_enter Try.func16, Try.ntmps16
  go_wp2_with (go_at_call 36; refine (HW.out _).mono ?_; rintro e w9 ⟨rfl, rfl⟩)
  go_ret
  exact PDone.same HP.out HG.out
set_option maxHeartbeats 6400000 in
theorem add_rights (base a b s : Nat) (rd sc : Bool) (m : List Nat) (t : List Reg) (A : Option Addr) (c : Nat) (w : World) (hp : PAt w base a m t A c) (km : MOk m) (kt : TOk t) (h16 : t.length ≠ 16) (hs : s ≠ 0) (hb : U64 b) (hsz : U64 s) (hw : wiB b s = true) :
    Calls Try.prog 16 #[.pointer (some ⟨a, 0, none⟩), .agg #[.int .u64 (b : Nat), .int .u64 (s : Nat), .bool rd, .bool true, .bool true, .bool sc]] w (PDone base a (.int .i64 163) m t w) := by
  have HP := Lib.hid hp
  have hg := Gr.alloc w (.cells #[.int .u64 (b : Nat), .int .u64 (s : Nat), .bool rd, .bool true, .bool true, .bool sc] 34)
  have ht := (hp.bel hg).tab km
  have hl := kt.len
  generalize t.length = n at ht h16 hl
  have h16I : ¬ ((n : Int) = 16) := by omega
  have hsI : ((s : Int) == 0) = false := by simp; omega
  have hwc := fun w => within_any b s w hb hsz
  rw [hw] at hwc
  have HW := Lib.hid hwc
  have HG := Lib.hid hg
  clear hp hg h16 hs hwc hw hb hsz
  go_enter Try.func16, Try.ntmps16
  go_wp2_with (go_at_call 36; refine (HW.out _).mono ?_; rintro e w9 ⟨rfl, rfl⟩)
  go_ret
  exact PDone.same HP.out HG.out
theorem own_is {w : World} {base e size n : Nat} {v : Value} {xs : List Value} {q : Nat} (h : w.ownsRow base e size v n xs) (hq : v.ownBlock = some q) : ∃ cs, Blk w q e cs ∧ base ≤ q := by
  rcases h.2 with ⟨rfl, _⟩ | ⟨g, cap, cur, rfl, hbg, hg, _⟩
  · cases hq
  · simp only [Value.ownBlock, Option.some.injEq] at hq
    subst hq
    exact ⟨cur.toList, hg, hbg⟩
theorem own_grown {w w' : World} {base e size n : Nat} {v : Value} {xs : List Value} {r : Option Nat} (h : w.ownsRow base e size v n xs) (hb : w.grownBy w' r) (hr : ∀ q, v.ownBlock = some q → r ≠ some q) : w'.ownsRow base e size v n xs := by
  refine ⟨h.1, ?_⟩
  rcases h.2 with h2 | ⟨g, cap, cur, rfl, hbg, hg, rest⟩
  · exact .inl h2
  · exact .inr ⟨g, cap, cur, rfl, hbg, (hb.block g (Array.getElem?_eq_some_iff.1 hg).1 (fun e => hr g rfl e.symm)).trans hg, rest⟩
theorem fr_own {base size n : Nat} {e : TypeId} {ts : List Nat} {v : Value} {xs : List Value} {w w' : World} (h : w.ownsRow base e size v n xs) (ht : e ∈ ts) (hb : w.grownBy w' v.ownBlock) : FrT base ts w w' :=
  Fr.grown hb (fun j ej hj => by
    obtain ⟨cs, hbq, hq⟩ := own_is h ej
    exact ⟨hq, _, _, _, hbq, ht⟩)
set_option maxHeartbeats 6400000 in
theorem add_hit_fe (base a b s k n : Nat) (rd ex sc : Bool) (m : List Nat) (t : List Reg) (A : Option Addr) (c : Nat) (w : World) (hp : PAt w base a m t A c) (km : MOk m) (kt : TOk t) (hba : base ≤ a) (hbw : base ≤ w.heap.size) (hn : t.length = n) (h15 : n ≤ 15) (hs : s ≠ 0) (hb : U64 b) (hsz : U64 s) (hw : wiB b s = true) (hk : bh t b = k) (y : Reg) (hy : t[k]? = some y) (hyb : y.b < b + s) :
    Calls Try.prog 16 #[.pointer (some ⟨a, 0, none⟩), .agg #[.int .u64 (b : Nat), .int .u64 (s : Nat), .bool rd, .bool false, .bool ex, .bool sc]] w (PDone base a (.int .i64 162) m t w) := by
  have HP := Lib.hid hp
  have hg := Gr.alloc w (.cells #[.int .u64 (b : Nat), .int .u64 (s : Nat), .bool rd, .bool false, .bool ex, .bool sc] 34)
  have ht := (hp.bel hg).tab km
  rw [hn] at ht
  have h16I : ¬ ((n : Int) = 16) := by omega
  have hsI : ((s : Int) == 0) = false := by simp; omega
  have hwc := fun w => within_any b s w hb hsz
  rw [hw] at hwc
  have hw2 := of_decide_eq_true hw
  have HEX := Lib.hid (show EFit ⟨b, s, rd, false, ex, sc⟩ from ⟨⟨hb, hsz⟩, by show b + s < _; omega⟩)
  have HW := Lib.hid hwc
  have HG := Lib.hid hg
  have HKM := Lib.hid km
  have HKT := Lib.hid kt
  have HN := Lib.hid hn
  have HK := Lib.hid hk
  have HBA := Lib.hid hba
  have HBW := Lib.hid hbw
  have hkn : k < n := by have := len_of hy; omega
  have hkI : (k : Int) < (n : Int) := by omega
  have HY := Lib.hid hy
  clear hp hg hs hwc hw hb hsz km kt hn hk hba hbw hw2 hy
  go_enter Try.func16, Try.ntmps16
  go_wp2_with (go_at_call 36; refine (HW.out _).mono ?_; rintro e w9 ⟨rfl, rfl⟩)
  refine (regionOf_lit b s rd false ex sc _).mono ?_
  rintro e w2 ⟨rfl, hb2⟩
  have HG2 := Lib.hid (Gr.trans HG.out hb2)
  clear hb2 ht
  go_wp2_with fail
  have hg3 := (HG2.out).trans (Gr.alloc w2 (.cells #[.int .u64 (b : Nat), .int .u64 (s : Nat), .bool false, .bool rd, .bool false, .bool ex, .bool sc] 67))
  have HB3 := Lib.hid (Blk.new w2 67 (regP ⟨b, s, rd, false, ex, sc⟩))
  have HC := Lib.hid (behind_any base a m t A c b (w2.alloc (.cells #[.int .u64 (b : Nat), .int .u64 (s : Nat), .bool false, .bool rd, .bool false, .bool ex, .bool sc] 67)) (HP.out.bel hg3) HKM.out HKT.out)
  rw [HK.out] at HC
  have HG3 := Lib.hid hg3
  clear hg3
  refine HC.out.mono ?_
  rintro e w4 ⟨rfl, hb4⟩
  have HG4 := Lib.hid (Gr.trans HG3.out hb4)
  have HB4 := Lib.hid (show Blk w4 w2.heap.size 67 (regP ⟨b, s, rd, false, ex, sc⟩) from HB3.out.below' hb4)
  have HP4 := Lib.hid (HP.out.bel HG4.out)
  have HLT := Lib.hid (show w.heap.size ≤ w2.heap.size from HG2.out.size)
  obtain ⟨b1, hb1⟩ : ∃ b1, w2.heap.size = b1 := ⟨_, rfl⟩
  rw [hb1] at HB4 HLT
  try rw [hb1]
  clear hb1 hb4 HC HB3
  have HT4 := Lib.hid (by have := HP4.out.tab HKM.out; rwa [HN.out] at this : w4.cell? ⟨a, 65536, none⟩ = some (.slice A n c))
  obtain ⟨g, hA, _, hr⟩ := HP4.out.reg k y HY.out
  subst hA
  have HY0 := Lib.hid (show w4.cell? ⟨g, k * 7, none⟩ = some (.int .u64 (y.b : Nat)) from hr 0 _ rfl)
  clear hr
  obtain ⟨q, hq⟩ : ∃ q, b + s = q := ⟨_, rfl⟩
  rw [hq] at hyb
  obtain ⟨yb, hyb2⟩ : ∃ yb, y.b = yb := ⟨_, rfl⟩
  rw [hyb2] at hyb HY0
  have HE := Lib.hid (fun w => (show Calls _ _ _ w (fun e w' => e = .returned (.int .u64 (q : Nat)) ∧ _) from hq ▸ end_any ⟨b, s, rd, false, ex, sc⟩ w HEX.out))
  have hdq : decide ((yb : Int) < (q : Int)) = true := by simp only [decide_eq_true_eq]; omega
  have hdq2 : yb < q := hyb
  clear hq hyb2 hyb
  go_upto_region 11 with (fail)
  refine wp_region_L (fun w_ => Gr w4 w_) [] [] (by kernel_rfl) (Gr.drew _) ?_
  refine wpAnyL_take (oi := _) (v := _) (fun _ _ hS_ hb_ => Gr.trans hS_ hb_) (i := 0) rfl (by kernel_rfl) (fun _ _ _ h => h) (pureG (by rfl) (by intro w; go_simp; first | done | with_reducible rfl)) ?_
  try simp only [Act.put, List.getElem_toArray, List.getElem_cons_succ, List.getElem_cons_zero, List.setIfInBounds_toArray, List.set_cons_zero, List.set_cons_succ]
  refine wpAnyL_take (oi := _) (v := _) (fun _ _ hS_ hb_ => Gr.trans hS_ hb_) (i := 1) rfl (by kernel_rfl) (fun _ _ _ h => h) (pureG (by rfl) (by intro w; go_simp; first | done | with_reducible rfl)) ?_
  try simp only [Act.put, List.getElem_toArray, List.getElem_cons_succ, List.getElem_cons_zero, List.setIfInBounds_toArray, List.set_cons_zero, List.set_cons_succ]
  refine wpAnyL_take (oi := _) (v := _) (fun _ _ hS_ hb_ => Gr.trans hS_ hb_) (i := 2) rfl (by kernel_rfl) (fun _ _ _ h => h) (pureG (by rfl) (by intro w; go_simp; first | done | with_reducible rfl)) ?_
  try simp only [Act.put, List.getElem_toArray, List.getElem_cons_succ, List.getElem_cons_zero, List.setIfInBounds_toArray, List.set_cons_zero, List.set_cons_succ]
  refine wpAnyL_take (oi := _) (v := _) (fun _ _ hS_ hb_ => Gr.trans hS_ hb_) (i := 3) rfl (by kernel_rfl) (fun _ _ _ h => h) (pureG (by rfl) (by intro w; go_simp; first | done | with_reducible rfl)) ?_
  try simp only [Act.put, List.getElem_toArray, List.getElem_cons_succ, List.getElem_cons_zero, List.setIfInBounds_toArray, List.set_cons_zero, List.set_cons_succ]
  refine wpAnyL_take (oi := _) (v := _) (fun _ _ hS_ hb_ => Gr.trans hS_ hb_) (i := 4) rfl (by kernel_rfl) (fun _ _ _ h => h) (worldG (by rfl) (by intro w_ hS_; have q0_ := gcell HT4.out hS_; go_simp; first | done | with_reducible rfl)) ?_
  try simp only [Act.put, List.getElem_toArray, List.getElem_cons_succ, List.getElem_cons_zero, List.setIfInBounds_toArray, List.set_cons_zero, List.set_cons_succ]
  refine wpAnyL_take (oi := _) (v := _) (fun _ _ hS_ hb_ => Gr.trans hS_ hb_) (i := 5) rfl (by kernel_rfl) (fun _ _ _ h => h) (pureG (by rfl) (by intro w; go_simp; first | done | with_reducible rfl)) ?_
  try simp only [Act.put, List.getElem_toArray, List.getElem_cons_succ, List.getElem_cons_zero, List.setIfInBounds_toArray, List.set_cons_zero, List.set_cons_succ]
  refine wpAnyL_take (oi := _) (v := _) (fun _ _ hS_ hb_ => Gr.trans hS_ hb_) (i := 6) rfl (by kernel_rfl) (fun _ _ _ h => h) (pureG (by rfl) (by intro w; go_simp; first | done | with_reducible rfl)) ?_
  try simp only [Act.put, List.getElem_toArray, List.getElem_cons_succ, List.getElem_cons_zero, List.setIfInBounds_toArray, List.set_cons_zero, List.set_cons_succ]
  refine wpAnyL_take (oi := _) (v := _) (fun _ _ hS_ hb_ => Gr.trans hS_ hb_) (i := 7) rfl (by kernel_rfl) (fun _ _ _ h => h) (pureG (by rfl) (by intro w; go_simp; first | done | with_reducible rfl)) ?_
  try simp only [Act.put, List.getElem_toArray, List.getElem_cons_succ, List.getElem_cons_zero, List.setIfInBounds_toArray, List.set_cons_zero, List.set_cons_succ]
  refine wpAnyL_take (oi := _) (v := _) (fun _ _ hS_ hb_ => Gr.trans hS_ hb_) (i := 8) rfl (by kernel_rfl) (fun _ _ _ h => h) (pureG (by rfl) (by intro w; go_simp; first | done | with_reducible rfl)) ?_
  try simp only [Act.put, List.getElem_toArray, List.getElem_cons_succ, List.getElem_cons_zero, List.setIfInBounds_toArray, List.set_cons_zero, List.set_cons_succ]
  refine wpAnyL_take (oi := _) (v := _) (fun _ _ hS_ hb_ => Gr.trans hS_ hb_) (i := 9) rfl (by kernel_rfl) (fun _ _ _ h => h) (pureG (by rfl) (by intro w; go_simp; first | done | with_reducible rfl)) ?_
  try simp only [Act.put, List.getElem_toArray, List.getElem_cons_succ, List.getElem_cons_zero, List.setIfInBounds_toArray, List.set_cons_zero, List.set_cons_succ]
  refine wpAnyL_take (oi := _) (v := _) (fun _ _ hS_ hb_ => Gr.trans hS_ hb_) (i := 10) rfl (by kernel_rfl) (fun _ _ _ h => h) (pureG (by rfl) (by intro w; go_simp; first | done | with_reducible rfl)) ?_
  try simp only [Act.put, List.getElem_toArray, List.getElem_cons_succ, List.getElem_cons_zero, List.setIfInBounds_toArray, List.set_cons_zero, List.set_cons_succ]
  refine wpAnyL_take (oi := _) (v := _) (fun _ _ hS_ hb_ => Gr.trans hS_ hb_) (i := 11) rfl (by kernel_rfl) (fun _ _ _ h => h) (worldG (by rfl) (by intro w_ hS_; have q0_ := gcell HT4.out hS_; go_simp; first | done | with_reducible rfl)) ?_
  try simp only [Act.put, List.getElem_toArray, List.getElem_cons_succ, List.getElem_cons_zero, List.setIfInBounds_toArray, List.set_cons_zero, List.set_cons_succ]
  refine wpAnyL_take (oi := _) (v := _) (fun _ _ hS_ hb_ => Gr.trans hS_ hb_) (i := 12) rfl (by kernel_rfl) (fun _ _ _ h => h) (pureG (by rfl) (by intro w; go_simp; first | done | with_reducible rfl)) ?_
  try simp only [Act.put, List.getElem_toArray, List.getElem_cons_succ, List.getElem_cons_zero, List.setIfInBounds_toArray, List.set_cons_zero, List.set_cons_succ]
  refine wpAnyL_take (oi := _) (v := _) (fun _ _ hS_ hb_ => Gr.trans hS_ hb_) (i := 13) rfl (by kernel_rfl) (fun _ _ _ h => h) (pureG (by rfl) (by intro w; go_simp; first | done | with_reducible rfl)) ?_
  try simp only [Act.put, List.getElem_toArray, List.getElem_cons_succ, List.getElem_cons_zero, List.setIfInBounds_toArray, List.set_cons_zero, List.set_cons_succ]
  refine wpAnyL_take (oi := _) (v := _) (fun _ _ hS_ hb_ => Gr.trans hS_ hb_) (i := 14) rfl (by kernel_rfl) (fun _ _ _ h => h) (pureG (by rfl) (by intro w; go_simp; first | done | with_reducible rfl)) ?_
  try simp only [Act.put, List.getElem_toArray, List.getElem_cons_succ, List.getElem_cons_zero, List.setIfInBounds_toArray, List.set_cons_zero, List.set_cons_succ]
  refine wpAnyL_take (oi := _) (v := _) (fun _ _ hS_ hb_ => Gr.trans hS_ hb_) (i := 15) rfl (by kernel_rfl) (fun _ _ _ h => h) (worldG (by rfl) (by intro w_ hS_; have q0_ := gcell HY0.out hS_; go_simp; first | done | with_reducible rfl)) ?_
  try simp only [Act.put, List.getElem_toArray, List.getElem_cons_succ, List.getElem_cons_zero, List.setIfInBounds_toArray, List.set_cons_zero, List.set_cons_succ]
  refine wpAnyL_take (oi := _) (v := _) (fun _ _ hS_ hb_ => Gr.trans hS_ hb_) (i := 16) rfl (by kernel_rfl) (fun _ _ _ h => h) (loadG (by rfl) 67 (.tmp 5) rfl (b1) (0) rfl (regP ⟨b, s, rd, false, ex, sc⟩) _ (fun w_ hS_ => grange (blk_all HB4.out) hS_) Try.underlying67 rfl (by rw [info67]; rfl)) ?_
  try simp only [Act.put, List.getElem_toArray, List.getElem_cons_succ, List.getElem_cons_zero, List.setIfInBounds_toArray, List.set_cons_zero, List.set_cons_succ]
  refine wpAnyL_take (oi := _) (v := _) (fun _ _ hS_ hb_ => Gr.trans hS_ hb_) (i := 17) rfl (by kernel_rfl) (fun _ _ _ h => h) (callG (by rfl) rfl Try.func38 (by kernel_rfl) (by kernel_rfl) #[.agg (regP ⟨b, s, rd, false, ex, sc⟩).toArray] (by simp [Act.eval]) (fun w_ hS_ => HE.out w_)) ?_
  try simp only [Act.put, List.getElem_toArray, List.getElem_cons_succ, List.getElem_cons_zero, List.setIfInBounds_toArray, List.set_cons_zero, List.set_cons_succ]
  refine wpAnyL_take (oi := _) (v := _) (fun _ _ hS_ hb_ => Gr.trans hS_ hb_) (i := 18) rfl (by kernel_rfl) (fun _ _ _ h => h) (pureG (by rfl) (by intro w; go_simp; first | done | with_reducible rfl)) ?_
  try simp only [Act.put, List.getElem_toArray, List.getElem_cons_succ, List.getElem_cons_zero, List.setIfInBounds_toArray, List.set_cons_zero, List.set_cons_succ]
  refine wpAnyL_take (oi := _) (v := _) (fun _ _ hS_ hb_ => Gr.trans hS_ hb_) (i := 19) rfl (by kernel_rfl) (fun _ _ _ h => h) (pureG (by rfl) (by intro w; go_simp; first | done | with_reducible rfl)) ?_
  try simp only [Act.put, List.getElem_toArray, List.getElem_cons_succ, List.getElem_cons_zero, List.setIfInBounds_toArray, List.set_cons_zero, List.set_cons_succ]
  refine wpAnyL_done (by kernel_rfl) (fun WA hWA => ?_) _
  have HGA := Lib.hid (show Gr w4 WA from (Gr.drew w4).trans hWA)
  clear hWA
  go_wp2_with fail
  go_ret
  exact PDone.same HP.out (Gr.trans HG4.out HGA.out)
set_option maxHeartbeats 6400000 in
theorem add_end_fe (base a b s k n : Nat) (rd ex sc : Bool) (m : List Nat) (t : List Reg) (A : Option Addr) (c : Nat) (w : World) (hp : PAt w base a m t A c) (km : MOk m) (kt : TOk t) (hba : base ≤ a) (hbw : base ≤ w.heap.size) (hn : t.length = n) (h15 : n ≤ 15) (hs : s ≠ 0) (hb : U64 b) (hsz : U64 s) (hw : wiB b s = true) (hk : bh t b = k) (hkn : k = n) :
    Calls Try.prog 16 #[.pointer (some ⟨a, 0, none⟩), .agg #[.int .u64 (b : Nat), .int .u64 (s : Nat), .bool rd, .bool false, .bool ex, .bool sc]] w (PDone base a (.int .i64 0) m (t.take k ++ (⟨b, s, rd, false, ex, sc⟩ :: t.drop k)) w) := by
  have HP := Lib.hid hp
  have hg := Gr.alloc w (.cells #[.int .u64 (b : Nat), .int .u64 (s : Nat), .bool rd, .bool false, .bool ex, .bool sc] 34)
  have ht := (hp.bel hg).tab km
  rw [hn] at ht
  have h16I : ¬ ((n : Int) = 16) := by omega
  have hsI : ((s : Int) == 0) = false := by simp; omega
  have hwc := fun w => within_any b s w hb hsz
  rw [hw] at hwc
  have hw2 := of_decide_eq_true hw
  have HEX := Lib.hid (show EFit ⟨b, s, rd, false, ex, sc⟩ from ⟨⟨hb, hsz⟩, by show b + s < _; omega⟩)
  have HW := Lib.hid hwc
  have HG := Lib.hid hg
  have HKM := Lib.hid km
  have HKT := Lib.hid kt
  have HN := Lib.hid hn
  have HK := Lib.hid hk
  have HBA := Lib.hid hba
  have HBW := Lib.hid hbw
  clear hp hg hs hwc hw hb hsz km kt hn hk hba hbw hw2
  go_enter Try.func16, Try.ntmps16
  go_wp2_with (go_at_call 36; refine (HW.out _).mono ?_; rintro e w9 ⟨rfl, rfl⟩)
  refine (regionOf_lit b s rd false ex sc _).mono ?_
  rintro e w2 ⟨rfl, hb2⟩
  have HG2 := Lib.hid (Gr.trans HG.out hb2)
  clear hb2 ht
  go_wp2_with fail
  have hg3 := (HG2.out).trans (Gr.alloc w2 (.cells #[.int .u64 (b : Nat), .int .u64 (s : Nat), .bool false, .bool rd, .bool false, .bool ex, .bool sc] 67))
  have HB3 := Lib.hid (Blk.new w2 67 (regP ⟨b, s, rd, false, ex, sc⟩))
  have HC := Lib.hid (behind_any base a m t A c b (w2.alloc (.cells #[.int .u64 (b : Nat), .int .u64 (s : Nat), .bool false, .bool rd, .bool false, .bool ex, .bool sc] 67)) (HP.out.bel hg3) HKM.out HKT.out)
  rw [HK.out] at HC
  have HG3 := Lib.hid hg3
  clear hg3
  refine HC.out.mono ?_
  rintro e w4 ⟨rfl, hb4⟩
  have HG4 := Lib.hid (Gr.trans HG3.out hb4)
  have HB4 := Lib.hid (show Blk w4 w2.heap.size 67 (regP ⟨b, s, rd, false, ex, sc⟩) from HB3.out.below' hb4)
  have HP4 := Lib.hid (HP.out.bel HG4.out)
  have HLT := Lib.hid (show w.heap.size ≤ w2.heap.size from HG2.out.size)
  obtain ⟨b1, hb1⟩ : ∃ b1, w2.heap.size = b1 := ⟨_, rfl⟩
  rw [hb1] at HB4 HLT
  try rw [hb1]
  clear hb1 hb4 HC HB3
  have HT4 := Lib.hid (by have := HP4.out.tab HKM.out; rwa [HN.out] at this : w4.cell? ⟨a, 65536, none⟩ = some (.slice A n c))
  have hki : ¬ (k < n) := by omega
  have hkd : decide (k < n) = false := decide_eq_false hki
  have HKN := Lib.hid hkn
  clear hkn
  go_upto_region 11 with (fail)
  refine wp_region_L (fun w_ => Gr w4 w_) [] [] (by kernel_rfl) (Gr.drew _) ?_
  refine wpAnyL_take (oi := _) (v := _) (fun _ _ hS_ hb_ => Gr.trans hS_ hb_) (i := 0) rfl (by kernel_rfl) (fun _ _ _ h => h) (pureG (by rfl) (by intro w; go_simp; first | done | with_reducible rfl)) ?_
  try simp only [Act.put, List.getElem_toArray, List.getElem_cons_succ, List.getElem_cons_zero, List.setIfInBounds_toArray, List.set_cons_zero, List.set_cons_succ]
  refine wpAnyL_take (oi := _) (v := _) (fun _ _ hS_ hb_ => Gr.trans hS_ hb_) (i := 1) rfl (by kernel_rfl) (fun _ _ _ h => h) (pureG (by rfl) (by intro w; go_simp; first | done | with_reducible rfl)) ?_
  try simp only [Act.put, List.getElem_toArray, List.getElem_cons_succ, List.getElem_cons_zero, List.setIfInBounds_toArray, List.set_cons_zero, List.set_cons_succ]
  refine wpAnyL_take (oi := _) (v := _) (fun _ _ hS_ hb_ => Gr.trans hS_ hb_) (i := 2) rfl (by kernel_rfl) (fun _ _ _ h => h) (pureG (by rfl) (by intro w; go_simp; first | done | with_reducible rfl)) ?_
  try simp only [Act.put, List.getElem_toArray, List.getElem_cons_succ, List.getElem_cons_zero, List.setIfInBounds_toArray, List.set_cons_zero, List.set_cons_succ]
  refine wpAnyL_take (oi := _) (v := _) (fun _ _ hS_ hb_ => Gr.trans hS_ hb_) (i := 3) rfl (by kernel_rfl) (fun _ _ _ h => h) (pureG (by rfl) (by intro w; go_simp; first | done | with_reducible rfl)) ?_
  try simp only [Act.put, List.getElem_toArray, List.getElem_cons_succ, List.getElem_cons_zero, List.setIfInBounds_toArray, List.set_cons_zero, List.set_cons_succ]
  refine wpAnyL_take (oi := _) (v := _) (fun _ _ hS_ hb_ => Gr.trans hS_ hb_) (i := 4) rfl (by kernel_rfl) (fun _ _ _ h => h) (worldG (by rfl) (by intro w_ hS_; have q0_ := gcell HT4.out hS_; go_simp; first | done | with_reducible rfl)) ?_
  try simp only [Act.put, List.getElem_toArray, List.getElem_cons_succ, List.getElem_cons_zero, List.setIfInBounds_toArray, List.set_cons_zero, List.set_cons_succ]
  refine wpAnyL_take (oi := _) (v := _) (fun _ _ hS_ hb_ => Gr.trans hS_ hb_) (i := 5) rfl (by kernel_rfl) (fun _ _ _ h => h) (pureG (by rfl) (by intro w; go_simp; first | done | with_reducible rfl)) ?_
  try simp only [Act.put, List.getElem_toArray, List.getElem_cons_succ, List.getElem_cons_zero, List.setIfInBounds_toArray, List.set_cons_zero, List.set_cons_succ]
  refine wpAnyL_take (oi := _) (v := _) (fun _ _ hS_ hb_ => Gr.trans hS_ hb_) (i := 6) rfl (by kernel_rfl) (fun _ _ _ h => h) (pureG (by rfl) (by intro w; go_simp; first | done | with_reducible rfl)) ?_
  try simp only [Act.put, List.getElem_toArray, List.getElem_cons_succ, List.getElem_cons_zero, List.setIfInBounds_toArray, List.set_cons_zero, List.set_cons_succ]
  refine wpAnyL_take (oi := _) (v := _) (fun _ _ hS_ hb_ => Gr.trans hS_ hb_) (i := 7) rfl (by kernel_rfl) (fun _ _ _ h => h) (pureG (by rfl) (by intro w; go_simp; first | done | with_reducible rfl)) ?_
  try simp only [Act.put, List.getElem_toArray, List.getElem_cons_succ, List.getElem_cons_zero, List.setIfInBounds_toArray, List.set_cons_zero, List.set_cons_succ]
  refine wpAnyL_take (oi := _) (v := _) (fun _ _ hS_ hb_ => Gr.trans hS_ hb_) (i := 8) rfl (by kernel_rfl) (fun _ _ _ h => h) (skipG (by rfl)) ?_
  try simp only [Act.put, List.getElem_toArray, List.getElem_cons_succ, List.getElem_cons_zero, List.setIfInBounds_toArray, List.set_cons_zero, List.set_cons_succ]
  refine wpAnyL_take (oi := _) (v := _) (fun _ _ hS_ hb_ => Gr.trans hS_ hb_) (i := 9) rfl (by kernel_rfl) (fun _ _ _ h => h) (skipG (by rfl)) ?_
  try simp only [Act.put, List.getElem_toArray, List.getElem_cons_succ, List.getElem_cons_zero, List.setIfInBounds_toArray, List.set_cons_zero, List.set_cons_succ]
  refine wpAnyL_take (oi := _) (v := _) (fun _ _ hS_ hb_ => Gr.trans hS_ hb_) (i := 10) rfl (by kernel_rfl) (fun _ _ _ h => h) (skipG (by rfl)) ?_
  try simp only [Act.put, List.getElem_toArray, List.getElem_cons_succ, List.getElem_cons_zero, List.setIfInBounds_toArray, List.set_cons_zero, List.set_cons_succ]
  refine wpAnyL_take (oi := _) (v := _) (fun _ _ hS_ hb_ => Gr.trans hS_ hb_) (i := 11) rfl (by kernel_rfl) (fun _ _ _ h => h) (skipG (by rfl)) ?_
  try simp only [Act.put, List.getElem_toArray, List.getElem_cons_succ, List.getElem_cons_zero, List.setIfInBounds_toArray, List.set_cons_zero, List.set_cons_succ]
  refine wpAnyL_take (oi := _) (v := _) (fun _ _ hS_ hb_ => Gr.trans hS_ hb_) (i := 12) rfl (by kernel_rfl) (fun _ _ _ h => h) (skipG (by rfl)) ?_
  try simp only [Act.put, List.getElem_toArray, List.getElem_cons_succ, List.getElem_cons_zero, List.setIfInBounds_toArray, List.set_cons_zero, List.set_cons_succ]
  refine wpAnyL_take (oi := _) (v := _) (fun _ _ hS_ hb_ => Gr.trans hS_ hb_) (i := 13) rfl (by kernel_rfl) (fun _ _ _ h => h) (skipG (by rfl)) ?_
  try simp only [Act.put, List.getElem_toArray, List.getElem_cons_succ, List.getElem_cons_zero, List.setIfInBounds_toArray, List.set_cons_zero, List.set_cons_succ]
  refine wpAnyL_take (oi := _) (v := _) (fun _ _ hS_ hb_ => Gr.trans hS_ hb_) (i := 14) rfl (by kernel_rfl) (fun _ _ _ h => h) (skipG (by rfl)) ?_
  try simp only [Act.put, List.getElem_toArray, List.getElem_cons_succ, List.getElem_cons_zero, List.setIfInBounds_toArray, List.set_cons_zero, List.set_cons_succ]
  refine wpAnyL_take (oi := _) (v := _) (fun _ _ hS_ hb_ => Gr.trans hS_ hb_) (i := 15) rfl (by kernel_rfl) (fun _ _ _ h => h) (skipG (by rfl)) ?_
  try simp only [Act.put, List.getElem_toArray, List.getElem_cons_succ, List.getElem_cons_zero, List.setIfInBounds_toArray, List.set_cons_zero, List.set_cons_succ]
  refine wpAnyL_take (oi := _) (v := _) (fun _ _ hS_ hb_ => Gr.trans hS_ hb_) (i := 16) rfl (by kernel_rfl) (fun _ _ _ h => h) (skipG (by rfl)) ?_
  try simp only [Act.put, List.getElem_toArray, List.getElem_cons_succ, List.getElem_cons_zero, List.setIfInBounds_toArray, List.set_cons_zero, List.set_cons_succ]
  refine wpAnyL_take (oi := _) (v := _) (fun _ _ hS_ hb_ => Gr.trans hS_ hb_) (i := 17) rfl (by kernel_rfl) (fun _ _ _ h => h) (skipG (by rfl)) ?_
  try simp only [Act.put, List.getElem_toArray, List.getElem_cons_succ, List.getElem_cons_zero, List.setIfInBounds_toArray, List.set_cons_zero, List.set_cons_succ]
  refine wpAnyL_take (oi := _) (v := _) (fun _ _ hS_ hb_ => Gr.trans hS_ hb_) (i := 18) rfl (by kernel_rfl) (fun _ _ _ h => h) (skipG (by rfl)) ?_
  try simp only [Act.put, List.getElem_toArray, List.getElem_cons_succ, List.getElem_cons_zero, List.setIfInBounds_toArray, List.set_cons_zero, List.set_cons_succ]
  refine wpAnyL_take (oi := _) (v := _) (fun _ _ hS_ hb_ => Gr.trans hS_ hb_) (i := 19) rfl (by kernel_rfl) (fun _ _ _ h => h) (pureG (by rfl) (by intro w; go_simp; first | done | with_reducible rfl)) ?_
  try simp only [Act.put, List.getElem_toArray, List.getElem_cons_succ, List.getElem_cons_zero, List.setIfInBounds_toArray, List.set_cons_zero, List.set_cons_succ]
  refine wpAnyL_done (by kernel_rfl) (fun WA hWA => ?_) _
  have HGA := Lib.hid (show Gr w4 WA from (Gr.drew w4).trans hWA)
  clear hWA
  have HPA := Lib.hid (HP4.out.bel HGA.out)
  have HBA2 := Lib.hid (HB4.out.gr HGA.out)
  have HTA := Lib.hid (gcell HT4.out HGA.out)
  have HNB := Lib.hid (show ∀ q, (Value.slice A n c).ownBlock = some q → q < b1 from fun q hq => by have := World.ownsRow.lt (by have := HP.out.row; rwa [HN.out] at this : w.ownsRow base 67 7 (.slice A n c) n (cellsP t)) q hq; have := HLT.out; omega)
  have HW0 := Lib.hid (show base ≤ WA.heap.size from Nat.le_trans HBW.out (Nat.le_trans HG4.out.size HGA.out.size))
  have HROW := Lib.hid (by have := HPA.out.row; rwa [HN.out] at this : WA.ownsRow base 67 7 (.slice A n c) n (cellsP t))
  go_upto_region 13 with (fail)
  refine wp_region_L (fun w_ => w_.cell? ⟨a, 65536, none⟩ = some (.slice A n c) ∧ Blk w_ b1 67 (regP ⟨b, s, rd, false, ex, sc⟩)) [11] [] (by kernel_rfl) ⟨HTA.out, HBA2.out.drew⟩ ?_
  refine wpAnyL_take (oi := _) (v := _) (fun _ _ hS_ hb_ => ⟨gcell hS_.1 hb_, hS_.2.gr hb_⟩) (i := 0) rfl (by kernel_rfl) (fun _ _ _ h => h) (pureG (by rfl) (by intro w; go_simp; first | done | with_reducible rfl)) ?_
  try simp only [Act.put, List.getElem_toArray, List.getElem_cons_succ, List.getElem_cons_zero, List.setIfInBounds_toArray, List.set_cons_zero, List.set_cons_succ]
  refine wpAnyL_take (oi := _) (v := _) (fun _ _ hS_ hb_ => ⟨gcell hS_.1 hb_, hS_.2.gr hb_⟩) (i := 1) rfl (by kernel_rfl) (fun _ _ _ h => h) (pureG (by rfl) (by intro w; go_simp; first | done | with_reducible rfl)) ?_
  try simp only [Act.put, List.getElem_toArray, List.getElem_cons_succ, List.getElem_cons_zero, List.setIfInBounds_toArray, List.set_cons_zero, List.set_cons_succ]
  refine wpAnyL_take (oi := _) (v := _) (fun _ _ hS_ hb_ => ⟨gcell hS_.1 hb_, hS_.2.gr hb_⟩) (i := 2) rfl (by kernel_rfl) (fun _ _ _ h => h) (pureG (by rfl) (by intro w; go_simp; first | done | with_reducible rfl)) ?_
  try simp only [Act.put, List.getElem_toArray, List.getElem_cons_succ, List.getElem_cons_zero, List.setIfInBounds_toArray, List.set_cons_zero, List.set_cons_succ]
  refine wpAnyL_take (oi := _) (v := _) (fun _ _ hS_ hb_ => ⟨gcell hS_.1 hb_, hS_.2.gr hb_⟩) (i := 3) rfl (by kernel_rfl) (fun _ _ _ h => h) (pureG (by rfl) (by intro w; go_simp; first | done | with_reducible rfl)) ?_
  try simp only [Act.put, List.getElem_toArray, List.getElem_cons_succ, List.getElem_cons_zero, List.setIfInBounds_toArray, List.set_cons_zero, List.set_cons_succ]
  refine wpAnyL_take (oi := _) (v := _) (fun _ _ hS_ hb_ => ⟨gcell hS_.1 hb_, hS_.2.gr hb_⟩) (i := 4) rfl (by kernel_rfl) (fun _ _ _ h => h) (worldG (by rfl) (by intro w_ hS_; have q0_ := hS_.1; go_simp; first | done | with_reducible rfl)) ?_
  try simp only [Act.put, List.getElem_toArray, List.getElem_cons_succ, List.getElem_cons_zero, List.setIfInBounds_toArray, List.set_cons_zero, List.set_cons_succ]
  refine wpAnyL_take (oi := _) (v := _) (fun _ _ hS_ hb_ => ⟨gcell hS_.1 hb_, hS_.2.gr hb_⟩) (i := 5) rfl (by kernel_rfl) (fun _ _ _ h => h) (pureG (by rfl) (by intro w; go_simp; first | done | with_reducible rfl)) ?_
  try simp only [Act.put, List.getElem_toArray, List.getElem_cons_succ, List.getElem_cons_zero, List.setIfInBounds_toArray, List.set_cons_zero, List.set_cons_succ]
  refine wpAnyL_take (oi := _) (v := _) (fun _ _ hS_ hb_ => ⟨gcell hS_.1 hb_, hS_.2.gr hb_⟩) (i := 6) rfl (by kernel_rfl) (fun _ _ _ h => h) (loadG (by rfl) 67 (.tmp 5) rfl (b1) (0) rfl (regP ⟨b, s, rd, false, ex, sc⟩) _ (fun w_ hS_ => blk_all hS_.2) Try.underlying67 rfl (by rw [info67]; rfl)) ?_
  try simp only [Act.put, List.getElem_toArray, List.getElem_cons_succ, List.getElem_cons_zero, List.setIfInBounds_toArray, List.set_cons_zero, List.set_cons_succ]
  refine wpAnyL_one (i := 7) (by kernel_rfl) rfl (fun W1 hW1 hS1 => ?_)
  refine wpOp_run (oi := _) rfl (by rfl) (exec_bs (vs := #[(0, .agg (regP ⟨b, s, rd, false, ex, sc⟩).toArray)]) rfl (by first | (simp [Act.eval]; done) | (simp [Act.eval]; rfl) | rfl) (bld7 ⟨b, s, rd, false, ex, sc⟩ W1)) ?_
  refine ⟨⟨gcell hS1.1 (Gr.alloc W1 _), hS1.2.alloc _⟩, ?_⟩
  try simp only [Act.put, List.getElem_toArray, List.getElem_cons_succ, List.getElem_cons_zero, List.setIfInBounds_toArray, List.set_cons_zero, List.set_cons_succ]
  refine wpAnyL_one (i := 8) (by kernel_rfl) rfl (fun W2 hW2 hS2 => ?_)
  have hg2 : Gr WA W2 := (((Gr.drew WA).trans hW1).trans (Gr.alloc W1 _)).trans hW2
  have hvb : Blk W2 W1.heap.size 67 (regP ⟨b, s, rd, false, ex, sc⟩) := (Blk.new W1 67 (regP ⟨b, s, rd, false, ex, sc⟩)).gr hW2
  have hrow2 := own_below HROW.out hg2
  have hob : ∀ q, (Value.slice A n c).ownBlock = some q → base ≤ q ∧ q < WA.heap.size := fun q hq => World.ownsRow.lt HROW.out q hq
  have hsz1 : WA.heap.size ≤ W1.heap.size := ((Gr.drew WA).trans hW1).size
  have hcl := ins_any base n c W1.heap.size k A t ⟨b, s, rd, false, ex, sc⟩ W2 HN.out (by have := HKN.out; omega) h15 hrow2 hvb (fun q hq => by have := (hob q hq).2; omega) (Nat.le_trans HW0.out hg2.size)
  refine wpOp_callE (i := 8) rfl (by rfl) rfl Try.func39 (by kernel_rfl) (by kernel_rfl) #[.slice A n c, .int .i64 (k : Nat), .slice (some ⟨W1.heap.size, 0, none⟩) 1 1] (by simp [Act.eval]) (hcl.mono ?_)
  rintro e W3 ⟨A3, c3, rfl, hrow3, hg3⟩
  have hnA : ∀ q, (Value.slice A n c).ownBlock = some q → q ≠ a := fun q hq e => by
    obtain ⟨sp, hbq, _⟩ := own_is HROW.out hq
    exact blk_ne HPA.out.blk hbq (by decide) e.symm
  have hnB : ∀ q, (Value.slice A n c).ownBlock = some q → q ≠ b1 := fun q hq e => by
    have := (hob q hq).2; have := HNB.out q hq
    omega
  have hblk3 : Blk W3 a 61 (natsV .u8 m ++ [.slice A n c]) := by
    have := (HPA.out.blk.gr hg2).grown hg3 (fun e => hnA _ e.symm rfl)
    rwa [HN.out] at this
  have hS3 : W3.cell? ⟨a, 65536, none⟩ = some (.slice A n c) ∧ Blk W3 b1 67 (regP ⟨b, s, rd, false, ex, sc⟩) := ⟨by
    rw [hblk3.cell, List.getElem?_append_right (by rw [natsV_length, HKM.out.ln]; omega), natsV_length, HKM.out.ln]; rfl, hS2.2.grown hg3 (fun e => hnB _ e.symm rfl)⟩
  refine ⟨_, rfl, hS3, ?_⟩
  try simp only [Act.put, List.getElem_toArray, List.getElem_cons_succ, List.getElem_cons_zero, List.setIfInBounds_toArray, List.set_cons_zero, List.set_cons_succ]
  refine wpAnyL_take (oi := _) (v := _) (fun _ _ hS_ hb_ => ⟨gcell hS_.1 hb_, hS_.2.gr hb_⟩) (i := 9) rfl (by kernel_rfl) (fun _ _ _ h => h) (pureG (by rfl) (by intro w; go_simp; first | done | with_reducible rfl)) ?_
  try simp only [Act.put, List.getElem_toArray, List.getElem_cons_succ, List.getElem_cons_zero, List.setIfInBounds_toArray, List.set_cons_zero, List.set_cons_succ]
  refine wpAnyL_take (oi := _) (v := _) (fun _ _ hS_ hb_ => ⟨gcell hS_.1 hb_, hS_.2.gr hb_⟩) (i := 10) rfl (by kernel_rfl) (fun _ _ _ h => h) (pureG (by rfl) (by intro w; go_simp; first | done | with_reducible rfl)) ?_
  try simp only [Act.put, List.getElem_toArray, List.getElem_cons_succ, List.getElem_cons_zero, List.setIfInBounds_toArray, List.set_cons_zero, List.set_cons_succ]
  refine wpAnyL_oneD (i := 11) (by kernel_rfl) rfl rfl (by kernel_rfl) (by decide) (fun W4 hW4 hS4 => ?_)
  have hb5 := hblk3.gr hW4
  have hce := hS4.1
  have hfe := hb5.free 65536
  refine wpOp_skip (oi := _) (W2 := W4.setCell ⟨a, 65536, none⟩ (.slice A3 (n + 1) c3)) rfl (by rfl) (by unfold execOp; go_simp) ?_
  try simp only [Act.put, List.getElem_toArray, List.getElem_cons_succ, List.getElem_cons_zero, List.setIfInBounds_toArray, List.set_cons_zero, List.set_cons_succ]
  refine wpAnyL_done (by kernel_rfl) (fun WZ hWZ => ?_) _
  have hb6 : Blk (W4.setCell ⟨a, 65536, none⟩ (.slice A3 (n + 1) c3)) a 61 (natsV .u8 m ++ [.slice A3 (n + 1) c3]) := by
    have := hb5.set 65536 (.slice A3 (n + 1) c3)
    rwa [List.set_append_right _ _ (by rw [natsV_length, HKM.out.ln]; omega), natsV_length, HKM.out.ln] at this
  have hlen : (t.take k ++ (⟨b, s, rd, false, ex, sc⟩ :: t.drop k)).length = n + 1 := by rw [List.length_append, List.length_cons, List.length_take, List.length_drop, HN.out]; omega
  have hrow6 : (W4.setCell ⟨a, 65536, none⟩ (.slice A3 (n + 1) c3)).ownsRow base 67 7 (.slice A3 (n + 1) c3) (n + 1) (cellsP (t.take k ++ (⟨b, s, rd, false, ex, sc⟩ :: t.drop k))) :=
    own_grown (own_below hrow3 hW4) (grown_setCell W4 ⟨a, 65536, none⟩ _) (fun q hq e => by
      obtain ⟨sp, hbq, _⟩ := own_is (own_below hrow3 hW4) hq
      injection e with e
      exact blk_ne hb5 hbq (by decide) e)
  have hfin : PAt WZ base a m (t.take k ++ (⟨b, s, rd, false, ex, sc⟩ :: t.drop k)) A3 c3 := ⟨by rw [hlen]; exact hb6.gr hWZ, by rw [hlen]; exact own_below hrow6 hWZ⟩
  have hfr : FrT base tyP w WZ := by
    have f1 : FrT base tyP w W2 := FrT.bel ((Gr.trans HG4.out HGA.out).trans hg2)
    have f2 : FrT base tyP W2 W3 := fr_own hrow2 (by decide) hg3
    have f3 : FrT base tyP W3 W4 := FrT.bel hW4
    have f4 : FrT base tyP W4 (W4.setCell ⟨a, 65536, none⟩ (.slice A3 (n + 1) c3)) := FrT.grown hb5 HBA.out (by decide) (grown_setCell W4 ⟨a, 65536, none⟩ _)
    exact (((f1.trans f2).trans f3).trans f4).trans (FrT.bel hWZ)
  have HFIN := Lib.hid hfin
  have HFR := Lib.hid hfr
  clear hfin hfr hrow6 hlen hb6 hWZ hce hfe hb5 hS4 hW4 hS3 hblk3 hnA hnB hrow3 hg3 hcl hsz1 hob hrow2 hvb hg2 hS2 hW2 hS1 hW1
  go_wp2_with fail
  go_ret
  exact ⟨rfl, ⟨_, _, HFIN.out⟩, HFR.out⟩
set_option maxHeartbeats 6400000 in
theorem add_miss_fe (base a b s k n : Nat) (rd ex sc : Bool) (m : List Nat) (t : List Reg) (A : Option Addr) (c : Nat) (w : World) (hp : PAt w base a m t A c) (km : MOk m) (kt : TOk t) (hba : base ≤ a) (hbw : base ≤ w.heap.size) (hn : t.length = n) (h15 : n ≤ 15) (hs : s ≠ 0) (hb : U64 b) (hsz : U64 s) (hw : wiB b s = true) (hk : bh t b = k) (y : Reg) (hy : t[k]? = some y) (hyb : ¬ (y.b < b + s)) :
    Calls Try.prog 16 #[.pointer (some ⟨a, 0, none⟩), .agg #[.int .u64 (b : Nat), .int .u64 (s : Nat), .bool rd, .bool false, .bool ex, .bool sc]] w (PDone base a (.int .i64 0) m (t.take k ++ (⟨b, s, rd, false, ex, sc⟩ :: t.drop k)) w) := by
  have HP := Lib.hid hp
  have hg := Gr.alloc w (.cells #[.int .u64 (b : Nat), .int .u64 (s : Nat), .bool rd, .bool false, .bool ex, .bool sc] 34)
  have ht := (hp.bel hg).tab km
  rw [hn] at ht
  have h16I : ¬ ((n : Int) = 16) := by omega
  have hsI : ((s : Int) == 0) = false := by simp; omega
  have hwc := fun w => within_any b s w hb hsz
  rw [hw] at hwc
  have hw2 := of_decide_eq_true hw
  have HEX := Lib.hid (show EFit ⟨b, s, rd, false, ex, sc⟩ from ⟨⟨hb, hsz⟩, by show b + s < _; omega⟩)
  have HW := Lib.hid hwc
  have HG := Lib.hid hg
  have HKM := Lib.hid km
  have HKT := Lib.hid kt
  have HN := Lib.hid hn
  have HK := Lib.hid hk
  have HBA := Lib.hid hba
  have HBW := Lib.hid hbw
  have hkn : k < n := by have := len_of hy; omega
  have hkI : (k : Int) < (n : Int) := by omega
  have HY := Lib.hid hy
  clear hp hg hs hwc hw hb hsz km kt hn hk hba hbw hw2 hy
  go_enter Try.func16, Try.ntmps16
  go_wp2_with (go_at_call 36; refine (HW.out _).mono ?_; rintro e w9 ⟨rfl, rfl⟩)
  refine (regionOf_lit b s rd false ex sc _).mono ?_
  rintro e w2 ⟨rfl, hb2⟩
  have HG2 := Lib.hid (Gr.trans HG.out hb2)
  clear hb2 ht
  go_wp2_with fail
  have hg3 := (HG2.out).trans (Gr.alloc w2 (.cells #[.int .u64 (b : Nat), .int .u64 (s : Nat), .bool false, .bool rd, .bool false, .bool ex, .bool sc] 67))
  have HB3 := Lib.hid (Blk.new w2 67 (regP ⟨b, s, rd, false, ex, sc⟩))
  have HC := Lib.hid (behind_any base a m t A c b (w2.alloc (.cells #[.int .u64 (b : Nat), .int .u64 (s : Nat), .bool false, .bool rd, .bool false, .bool ex, .bool sc] 67)) (HP.out.bel hg3) HKM.out HKT.out)
  rw [HK.out] at HC
  have HG3 := Lib.hid hg3
  clear hg3
  refine HC.out.mono ?_
  rintro e w4 ⟨rfl, hb4⟩
  have HG4 := Lib.hid (Gr.trans HG3.out hb4)
  have HB4 := Lib.hid (show Blk w4 w2.heap.size 67 (regP ⟨b, s, rd, false, ex, sc⟩) from HB3.out.below' hb4)
  have HP4 := Lib.hid (HP.out.bel HG4.out)
  have HLT := Lib.hid (show w.heap.size ≤ w2.heap.size from HG2.out.size)
  obtain ⟨b1, hb1⟩ : ∃ b1, w2.heap.size = b1 := ⟨_, rfl⟩
  rw [hb1] at HB4 HLT
  try rw [hb1]
  clear hb1 hb4 HC HB3
  have HT4 := Lib.hid (by have := HP4.out.tab HKM.out; rwa [HN.out] at this : w4.cell? ⟨a, 65536, none⟩ = some (.slice A n c))
  obtain ⟨g, hA, _, hr⟩ := HP4.out.reg k y HY.out
  subst hA
  have HY0 := Lib.hid (show w4.cell? ⟨g, k * 7, none⟩ = some (.int .u64 (y.b : Nat)) from hr 0 _ rfl)
  clear hr
  obtain ⟨q, hq⟩ : ∃ q, b + s = q := ⟨_, rfl⟩
  rw [hq] at hyb
  obtain ⟨yb, hyb2⟩ : ∃ yb, y.b = yb := ⟨_, rfl⟩
  rw [hyb2] at hyb HY0
  have HE := Lib.hid (fun w => (show Calls _ _ _ w (fun e w' => e = .returned (.int .u64 (q : Nat)) ∧ _) from hq ▸ end_any ⟨b, s, rd, false, ex, sc⟩ w HEX.out))
  have hdq : decide ((yb : Int) < (q : Int)) = false := by simp only [decide_eq_false_iff_not]; omega
  have hdq2 : ¬ (yb < q) := hyb
  clear hq hyb2 hyb
  go_upto_region 11 with (fail)
  refine wp_region_L (fun w_ => Gr w4 w_) [] [] (by kernel_rfl) (Gr.drew _) ?_
  refine wpAnyL_take (oi := _) (v := _) (fun _ _ hS_ hb_ => Gr.trans hS_ hb_) (i := 0) rfl (by kernel_rfl) (fun _ _ _ h => h) (pureG (by rfl) (by intro w; go_simp; first | done | with_reducible rfl)) ?_
  try simp only [Act.put, List.getElem_toArray, List.getElem_cons_succ, List.getElem_cons_zero, List.setIfInBounds_toArray, List.set_cons_zero, List.set_cons_succ]
  refine wpAnyL_take (oi := _) (v := _) (fun _ _ hS_ hb_ => Gr.trans hS_ hb_) (i := 1) rfl (by kernel_rfl) (fun _ _ _ h => h) (pureG (by rfl) (by intro w; go_simp; first | done | with_reducible rfl)) ?_
  try simp only [Act.put, List.getElem_toArray, List.getElem_cons_succ, List.getElem_cons_zero, List.setIfInBounds_toArray, List.set_cons_zero, List.set_cons_succ]
  refine wpAnyL_take (oi := _) (v := _) (fun _ _ hS_ hb_ => Gr.trans hS_ hb_) (i := 2) rfl (by kernel_rfl) (fun _ _ _ h => h) (pureG (by rfl) (by intro w; go_simp; first | done | with_reducible rfl)) ?_
  try simp only [Act.put, List.getElem_toArray, List.getElem_cons_succ, List.getElem_cons_zero, List.setIfInBounds_toArray, List.set_cons_zero, List.set_cons_succ]
  refine wpAnyL_take (oi := _) (v := _) (fun _ _ hS_ hb_ => Gr.trans hS_ hb_) (i := 3) rfl (by kernel_rfl) (fun _ _ _ h => h) (pureG (by rfl) (by intro w; go_simp; first | done | with_reducible rfl)) ?_
  try simp only [Act.put, List.getElem_toArray, List.getElem_cons_succ, List.getElem_cons_zero, List.setIfInBounds_toArray, List.set_cons_zero, List.set_cons_succ]
  refine wpAnyL_take (oi := _) (v := _) (fun _ _ hS_ hb_ => Gr.trans hS_ hb_) (i := 4) rfl (by kernel_rfl) (fun _ _ _ h => h) (worldG (by rfl) (by intro w_ hS_; have q0_ := gcell HT4.out hS_; go_simp; first | done | with_reducible rfl)) ?_
  try simp only [Act.put, List.getElem_toArray, List.getElem_cons_succ, List.getElem_cons_zero, List.setIfInBounds_toArray, List.set_cons_zero, List.set_cons_succ]
  refine wpAnyL_take (oi := _) (v := _) (fun _ _ hS_ hb_ => Gr.trans hS_ hb_) (i := 5) rfl (by kernel_rfl) (fun _ _ _ h => h) (pureG (by rfl) (by intro w; go_simp; first | done | with_reducible rfl)) ?_
  try simp only [Act.put, List.getElem_toArray, List.getElem_cons_succ, List.getElem_cons_zero, List.setIfInBounds_toArray, List.set_cons_zero, List.set_cons_succ]
  refine wpAnyL_take (oi := _) (v := _) (fun _ _ hS_ hb_ => Gr.trans hS_ hb_) (i := 6) rfl (by kernel_rfl) (fun _ _ _ h => h) (pureG (by rfl) (by intro w; go_simp; first | done | with_reducible rfl)) ?_
  try simp only [Act.put, List.getElem_toArray, List.getElem_cons_succ, List.getElem_cons_zero, List.setIfInBounds_toArray, List.set_cons_zero, List.set_cons_succ]
  refine wpAnyL_take (oi := _) (v := _) (fun _ _ hS_ hb_ => Gr.trans hS_ hb_) (i := 7) rfl (by kernel_rfl) (fun _ _ _ h => h) (pureG (by rfl) (by intro w; go_simp; first | done | with_reducible rfl)) ?_
  try simp only [Act.put, List.getElem_toArray, List.getElem_cons_succ, List.getElem_cons_zero, List.setIfInBounds_toArray, List.set_cons_zero, List.set_cons_succ]
  refine wpAnyL_take (oi := _) (v := _) (fun _ _ hS_ hb_ => Gr.trans hS_ hb_) (i := 8) rfl (by kernel_rfl) (fun _ _ _ h => h) (pureG (by rfl) (by intro w; go_simp; first | done | with_reducible rfl)) ?_
  try simp only [Act.put, List.getElem_toArray, List.getElem_cons_succ, List.getElem_cons_zero, List.setIfInBounds_toArray, List.set_cons_zero, List.set_cons_succ]
  refine wpAnyL_take (oi := _) (v := _) (fun _ _ hS_ hb_ => Gr.trans hS_ hb_) (i := 9) rfl (by kernel_rfl) (fun _ _ _ h => h) (pureG (by rfl) (by intro w; go_simp; first | done | with_reducible rfl)) ?_
  try simp only [Act.put, List.getElem_toArray, List.getElem_cons_succ, List.getElem_cons_zero, List.setIfInBounds_toArray, List.set_cons_zero, List.set_cons_succ]
  refine wpAnyL_take (oi := _) (v := _) (fun _ _ hS_ hb_ => Gr.trans hS_ hb_) (i := 10) rfl (by kernel_rfl) (fun _ _ _ h => h) (pureG (by rfl) (by intro w; go_simp; first | done | with_reducible rfl)) ?_
  try simp only [Act.put, List.getElem_toArray, List.getElem_cons_succ, List.getElem_cons_zero, List.setIfInBounds_toArray, List.set_cons_zero, List.set_cons_succ]
  refine wpAnyL_take (oi := _) (v := _) (fun _ _ hS_ hb_ => Gr.trans hS_ hb_) (i := 11) rfl (by kernel_rfl) (fun _ _ _ h => h) (worldG (by rfl) (by intro w_ hS_; have q0_ := gcell HT4.out hS_; go_simp; first | done | with_reducible rfl)) ?_
  try simp only [Act.put, List.getElem_toArray, List.getElem_cons_succ, List.getElem_cons_zero, List.setIfInBounds_toArray, List.set_cons_zero, List.set_cons_succ]
  refine wpAnyL_take (oi := _) (v := _) (fun _ _ hS_ hb_ => Gr.trans hS_ hb_) (i := 12) rfl (by kernel_rfl) (fun _ _ _ h => h) (pureG (by rfl) (by intro w; go_simp; first | done | with_reducible rfl)) ?_
  try simp only [Act.put, List.getElem_toArray, List.getElem_cons_succ, List.getElem_cons_zero, List.setIfInBounds_toArray, List.set_cons_zero, List.set_cons_succ]
  refine wpAnyL_take (oi := _) (v := _) (fun _ _ hS_ hb_ => Gr.trans hS_ hb_) (i := 13) rfl (by kernel_rfl) (fun _ _ _ h => h) (pureG (by rfl) (by intro w; go_simp; first | done | with_reducible rfl)) ?_
  try simp only [Act.put, List.getElem_toArray, List.getElem_cons_succ, List.getElem_cons_zero, List.setIfInBounds_toArray, List.set_cons_zero, List.set_cons_succ]
  refine wpAnyL_take (oi := _) (v := _) (fun _ _ hS_ hb_ => Gr.trans hS_ hb_) (i := 14) rfl (by kernel_rfl) (fun _ _ _ h => h) (pureG (by rfl) (by intro w; go_simp; first | done | with_reducible rfl)) ?_
  try simp only [Act.put, List.getElem_toArray, List.getElem_cons_succ, List.getElem_cons_zero, List.setIfInBounds_toArray, List.set_cons_zero, List.set_cons_succ]
  refine wpAnyL_take (oi := _) (v := _) (fun _ _ hS_ hb_ => Gr.trans hS_ hb_) (i := 15) rfl (by kernel_rfl) (fun _ _ _ h => h) (worldG (by rfl) (by intro w_ hS_; have q0_ := gcell HY0.out hS_; go_simp; first | done | with_reducible rfl)) ?_
  try simp only [Act.put, List.getElem_toArray, List.getElem_cons_succ, List.getElem_cons_zero, List.setIfInBounds_toArray, List.set_cons_zero, List.set_cons_succ]
  refine wpAnyL_take (oi := _) (v := _) (fun _ _ hS_ hb_ => Gr.trans hS_ hb_) (i := 16) rfl (by kernel_rfl) (fun _ _ _ h => h) (loadG (by rfl) 67 (.tmp 5) rfl (b1) (0) rfl (regP ⟨b, s, rd, false, ex, sc⟩) _ (fun w_ hS_ => grange (blk_all HB4.out) hS_) Try.underlying67 rfl (by rw [info67]; rfl)) ?_
  try simp only [Act.put, List.getElem_toArray, List.getElem_cons_succ, List.getElem_cons_zero, List.setIfInBounds_toArray, List.set_cons_zero, List.set_cons_succ]
  refine wpAnyL_take (oi := _) (v := _) (fun _ _ hS_ hb_ => Gr.trans hS_ hb_) (i := 17) rfl (by kernel_rfl) (fun _ _ _ h => h) (callG (by rfl) rfl Try.func38 (by kernel_rfl) (by kernel_rfl) #[.agg (regP ⟨b, s, rd, false, ex, sc⟩).toArray] (by simp [Act.eval]) (fun w_ hS_ => HE.out w_)) ?_
  try simp only [Act.put, List.getElem_toArray, List.getElem_cons_succ, List.getElem_cons_zero, List.setIfInBounds_toArray, List.set_cons_zero, List.set_cons_succ]
  refine wpAnyL_take (oi := _) (v := _) (fun _ _ hS_ hb_ => Gr.trans hS_ hb_) (i := 18) rfl (by kernel_rfl) (fun _ _ _ h => h) (pureG (by rfl) (by intro w; go_simp; first | done | with_reducible rfl)) ?_
  try simp only [Act.put, List.getElem_toArray, List.getElem_cons_succ, List.getElem_cons_zero, List.setIfInBounds_toArray, List.set_cons_zero, List.set_cons_succ]
  refine wpAnyL_take (oi := _) (v := _) (fun _ _ hS_ hb_ => Gr.trans hS_ hb_) (i := 19) rfl (by kernel_rfl) (fun _ _ _ h => h) (pureG (by rfl) (by intro w; go_simp; first | done | with_reducible rfl)) ?_
  try simp only [Act.put, List.getElem_toArray, List.getElem_cons_succ, List.getElem_cons_zero, List.setIfInBounds_toArray, List.set_cons_zero, List.set_cons_succ]
  refine wpAnyL_done (by kernel_rfl) (fun WA hWA => ?_) _
  have HGA := Lib.hid (show Gr w4 WA from (Gr.drew w4).trans hWA)
  clear hWA
  have HPA := Lib.hid (HP4.out.bel HGA.out)
  have HBA2 := Lib.hid (HB4.out.gr HGA.out)
  have HTA := Lib.hid (gcell HT4.out HGA.out)
  have HNB := Lib.hid (show ∀ q, (Value.slice (some ⟨g, 0, none⟩) n c).ownBlock = some q → q < b1 from fun q hq => by have := World.ownsRow.lt (by have := HP.out.row; rwa [HN.out] at this : w.ownsRow base 67 7 (.slice (some ⟨g, 0, none⟩) n c) n (cellsP t)) q hq; have := HLT.out; omega)
  have HW0 := Lib.hid (show base ≤ WA.heap.size from Nat.le_trans HBW.out (Nat.le_trans HG4.out.size HGA.out.size))
  have HROW := Lib.hid (by have := HPA.out.row; rwa [HN.out] at this : WA.ownsRow base 67 7 (.slice (some ⟨g, 0, none⟩) n c) n (cellsP t))
  go_upto_region 13 with (fail)
  refine wp_region_L (fun w_ => w_.cell? ⟨a, 65536, none⟩ = some (.slice (some ⟨g, 0, none⟩) n c) ∧ Blk w_ b1 67 (regP ⟨b, s, rd, false, ex, sc⟩)) [11] [] (by kernel_rfl) ⟨HTA.out, HBA2.out.drew⟩ ?_
  refine wpAnyL_take (oi := _) (v := _) (fun _ _ hS_ hb_ => ⟨gcell hS_.1 hb_, hS_.2.gr hb_⟩) (i := 0) rfl (by kernel_rfl) (fun _ _ _ h => h) (pureG (by rfl) (by intro w; go_simp; first | done | with_reducible rfl)) ?_
  try simp only [Act.put, List.getElem_toArray, List.getElem_cons_succ, List.getElem_cons_zero, List.setIfInBounds_toArray, List.set_cons_zero, List.set_cons_succ]
  refine wpAnyL_take (oi := _) (v := _) (fun _ _ hS_ hb_ => ⟨gcell hS_.1 hb_, hS_.2.gr hb_⟩) (i := 1) rfl (by kernel_rfl) (fun _ _ _ h => h) (pureG (by rfl) (by intro w; go_simp; first | done | with_reducible rfl)) ?_
  try simp only [Act.put, List.getElem_toArray, List.getElem_cons_succ, List.getElem_cons_zero, List.setIfInBounds_toArray, List.set_cons_zero, List.set_cons_succ]
  refine wpAnyL_take (oi := _) (v := _) (fun _ _ hS_ hb_ => ⟨gcell hS_.1 hb_, hS_.2.gr hb_⟩) (i := 2) rfl (by kernel_rfl) (fun _ _ _ h => h) (pureG (by rfl) (by intro w; go_simp; first | done | with_reducible rfl)) ?_
  try simp only [Act.put, List.getElem_toArray, List.getElem_cons_succ, List.getElem_cons_zero, List.setIfInBounds_toArray, List.set_cons_zero, List.set_cons_succ]
  refine wpAnyL_take (oi := _) (v := _) (fun _ _ hS_ hb_ => ⟨gcell hS_.1 hb_, hS_.2.gr hb_⟩) (i := 3) rfl (by kernel_rfl) (fun _ _ _ h => h) (pureG (by rfl) (by intro w; go_simp; first | done | with_reducible rfl)) ?_
  try simp only [Act.put, List.getElem_toArray, List.getElem_cons_succ, List.getElem_cons_zero, List.setIfInBounds_toArray, List.set_cons_zero, List.set_cons_succ]
  refine wpAnyL_take (oi := _) (v := _) (fun _ _ hS_ hb_ => ⟨gcell hS_.1 hb_, hS_.2.gr hb_⟩) (i := 4) rfl (by kernel_rfl) (fun _ _ _ h => h) (worldG (by rfl) (by intro w_ hS_; have q0_ := hS_.1; go_simp; first | done | with_reducible rfl)) ?_
  try simp only [Act.put, List.getElem_toArray, List.getElem_cons_succ, List.getElem_cons_zero, List.setIfInBounds_toArray, List.set_cons_zero, List.set_cons_succ]
  refine wpAnyL_take (oi := _) (v := _) (fun _ _ hS_ hb_ => ⟨gcell hS_.1 hb_, hS_.2.gr hb_⟩) (i := 5) rfl (by kernel_rfl) (fun _ _ _ h => h) (pureG (by rfl) (by intro w; go_simp; first | done | with_reducible rfl)) ?_
  try simp only [Act.put, List.getElem_toArray, List.getElem_cons_succ, List.getElem_cons_zero, List.setIfInBounds_toArray, List.set_cons_zero, List.set_cons_succ]
  refine wpAnyL_take (oi := _) (v := _) (fun _ _ hS_ hb_ => ⟨gcell hS_.1 hb_, hS_.2.gr hb_⟩) (i := 6) rfl (by kernel_rfl) (fun _ _ _ h => h) (loadG (by rfl) 67 (.tmp 5) rfl (b1) (0) rfl (regP ⟨b, s, rd, false, ex, sc⟩) _ (fun w_ hS_ => blk_all hS_.2) Try.underlying67 rfl (by rw [info67]; rfl)) ?_
  try simp only [Act.put, List.getElem_toArray, List.getElem_cons_succ, List.getElem_cons_zero, List.setIfInBounds_toArray, List.set_cons_zero, List.set_cons_succ]
  refine wpAnyL_one (i := 7) (by kernel_rfl) rfl (fun W1 hW1 hS1 => ?_)
  refine wpOp_run (oi := _) rfl (by rfl) (exec_bs (vs := #[(0, .agg (regP ⟨b, s, rd, false, ex, sc⟩).toArray)]) rfl (by first | (simp [Act.eval]; done) | (simp [Act.eval]; rfl) | rfl) (bld7 ⟨b, s, rd, false, ex, sc⟩ W1)) ?_
  refine ⟨⟨gcell hS1.1 (Gr.alloc W1 _), hS1.2.alloc _⟩, ?_⟩
  try simp only [Act.put, List.getElem_toArray, List.getElem_cons_succ, List.getElem_cons_zero, List.setIfInBounds_toArray, List.set_cons_zero, List.set_cons_succ]
  refine wpAnyL_one (i := 8) (by kernel_rfl) rfl (fun W2 hW2 hS2 => ?_)
  have hg2 : Gr WA W2 := (((Gr.drew WA).trans hW1).trans (Gr.alloc W1 _)).trans hW2
  have hvb : Blk W2 W1.heap.size 67 (regP ⟨b, s, rd, false, ex, sc⟩) := (Blk.new W1 67 (regP ⟨b, s, rd, false, ex, sc⟩)).gr hW2
  have hrow2 := own_below HROW.out hg2
  have hob : ∀ q, (Value.slice (some ⟨g, 0, none⟩) n c).ownBlock = some q → base ≤ q ∧ q < WA.heap.size := fun q hq => World.ownsRow.lt HROW.out q hq
  have hsz1 : WA.heap.size ≤ W1.heap.size := ((Gr.drew WA).trans hW1).size
  have hcl := ins_any base n c W1.heap.size k (some ⟨g, 0, none⟩) t ⟨b, s, rd, false, ex, sc⟩ W2 HN.out (by omega) h15 hrow2 hvb (fun q hq => by have := (hob q hq).2; omega) (Nat.le_trans HW0.out hg2.size)
  refine wpOp_callE (i := 8) rfl (by rfl) rfl Try.func39 (by kernel_rfl) (by kernel_rfl) #[.slice (some ⟨g, 0, none⟩) n c, .int .i64 (k : Nat), .slice (some ⟨W1.heap.size, 0, none⟩) 1 1] (by simp [Act.eval]) (hcl.mono ?_)
  rintro e W3 ⟨A3, c3, rfl, hrow3, hg3⟩
  have hnA : ∀ q, (Value.slice (some ⟨g, 0, none⟩) n c).ownBlock = some q → q ≠ a := fun q hq e => by
    obtain ⟨sp, hbq, _⟩ := own_is HROW.out hq
    exact blk_ne HPA.out.blk hbq (by decide) e.symm
  have hnB : ∀ q, (Value.slice (some ⟨g, 0, none⟩) n c).ownBlock = some q → q ≠ b1 := fun q hq e => by
    have := (hob q hq).2; have := HNB.out q hq
    omega
  have hblk3 : Blk W3 a 61 (natsV .u8 m ++ [.slice (some ⟨g, 0, none⟩) n c]) := by
    have := (HPA.out.blk.gr hg2).grown hg3 (fun e => hnA _ e.symm rfl)
    rwa [HN.out] at this
  have hS3 : W3.cell? ⟨a, 65536, none⟩ = some (.slice (some ⟨g, 0, none⟩) n c) ∧ Blk W3 b1 67 (regP ⟨b, s, rd, false, ex, sc⟩) := ⟨by
    rw [hblk3.cell, List.getElem?_append_right (by rw [natsV_length, HKM.out.ln]; omega), natsV_length, HKM.out.ln]; rfl, hS2.2.grown hg3 (fun e => hnB _ e.symm rfl)⟩
  refine ⟨_, rfl, hS3, ?_⟩
  try simp only [Act.put, List.getElem_toArray, List.getElem_cons_succ, List.getElem_cons_zero, List.setIfInBounds_toArray, List.set_cons_zero, List.set_cons_succ]
  refine wpAnyL_take (oi := _) (v := _) (fun _ _ hS_ hb_ => ⟨gcell hS_.1 hb_, hS_.2.gr hb_⟩) (i := 9) rfl (by kernel_rfl) (fun _ _ _ h => h) (pureG (by rfl) (by intro w; go_simp; first | done | with_reducible rfl)) ?_
  try simp only [Act.put, List.getElem_toArray, List.getElem_cons_succ, List.getElem_cons_zero, List.setIfInBounds_toArray, List.set_cons_zero, List.set_cons_succ]
  refine wpAnyL_take (oi := _) (v := _) (fun _ _ hS_ hb_ => ⟨gcell hS_.1 hb_, hS_.2.gr hb_⟩) (i := 10) rfl (by kernel_rfl) (fun _ _ _ h => h) (pureG (by rfl) (by intro w; go_simp; first | done | with_reducible rfl)) ?_
  try simp only [Act.put, List.getElem_toArray, List.getElem_cons_succ, List.getElem_cons_zero, List.setIfInBounds_toArray, List.set_cons_zero, List.set_cons_succ]
  refine wpAnyL_oneD (i := 11) (by kernel_rfl) rfl rfl (by kernel_rfl) (by decide) (fun W4 hW4 hS4 => ?_)
  have hb5 := hblk3.gr hW4
  have hce := hS4.1
  have hfe := hb5.free 65536
  refine wpOp_skip (oi := _) (W2 := W4.setCell ⟨a, 65536, none⟩ (.slice A3 (n + 1) c3)) rfl (by rfl) (by unfold execOp; go_simp) ?_
  try simp only [Act.put, List.getElem_toArray, List.getElem_cons_succ, List.getElem_cons_zero, List.setIfInBounds_toArray, List.set_cons_zero, List.set_cons_succ]
  refine wpAnyL_done (by kernel_rfl) (fun WZ hWZ => ?_) _
  have hb6 : Blk (W4.setCell ⟨a, 65536, none⟩ (.slice A3 (n + 1) c3)) a 61 (natsV .u8 m ++ [.slice A3 (n + 1) c3]) := by
    have := hb5.set 65536 (.slice A3 (n + 1) c3)
    rwa [List.set_append_right _ _ (by rw [natsV_length, HKM.out.ln]; omega), natsV_length, HKM.out.ln] at this
  have hlen : (t.take k ++ (⟨b, s, rd, false, ex, sc⟩ :: t.drop k)).length = n + 1 := by rw [List.length_append, List.length_cons, List.length_take, List.length_drop, HN.out]; omega
  have hrow6 : (W4.setCell ⟨a, 65536, none⟩ (.slice A3 (n + 1) c3)).ownsRow base 67 7 (.slice A3 (n + 1) c3) (n + 1) (cellsP (t.take k ++ (⟨b, s, rd, false, ex, sc⟩ :: t.drop k))) :=
    own_grown (own_below hrow3 hW4) (grown_setCell W4 ⟨a, 65536, none⟩ _) (fun q hq e => by
      obtain ⟨sp, hbq, _⟩ := own_is (own_below hrow3 hW4) hq
      injection e with e
      exact blk_ne hb5 hbq (by decide) e)
  have hfin : PAt WZ base a m (t.take k ++ (⟨b, s, rd, false, ex, sc⟩ :: t.drop k)) A3 c3 := ⟨by rw [hlen]; exact hb6.gr hWZ, by rw [hlen]; exact own_below hrow6 hWZ⟩
  have hfr : FrT base tyP w WZ := by
    have f1 : FrT base tyP w W2 := FrT.bel ((Gr.trans HG4.out HGA.out).trans hg2)
    have f2 : FrT base tyP W2 W3 := fr_own hrow2 (by decide) hg3
    have f3 : FrT base tyP W3 W4 := FrT.bel hW4
    have f4 : FrT base tyP W4 (W4.setCell ⟨a, 65536, none⟩ (.slice A3 (n + 1) c3)) := FrT.grown hb5 HBA.out (by decide) (grown_setCell W4 ⟨a, 65536, none⟩ _)
    exact (((f1.trans f2).trans f3).trans f4).trans (FrT.bel hWZ)
  have HFIN := Lib.hid hfin
  have HFR := Lib.hid hfr
  clear hfin hfr hrow6 hlen hb6 hWZ hce hfe hb5 hS4 hW4 hS3 hblk3 hnA hnB hrow3 hg3 hcl hsz1 hob hrow2 hvb hg2 hS2 hW2 hS1 hW1
  go_wp2_with fail
  go_ret
  exact ⟨rfl, ⟨_, _, HFIN.out⟩, HFR.out⟩
set_option maxHeartbeats 6400000 in
theorem add_hit_tf (base a b s k n : Nat) (rd sc : Bool) (m : List Nat) (t : List Reg) (A : Option Addr) (c : Nat) (w : World) (hp : PAt w base a m t A c) (km : MOk m) (kt : TOk t) (hba : base ≤ a) (hbw : base ≤ w.heap.size) (hn : t.length = n) (h15 : n ≤ 15) (hs : s ≠ 0) (hb : U64 b) (hsz : U64 s) (hw : wiB b s = true) (hk : bh t b = k) (y : Reg) (hy : t[k]? = some y) (hyb : y.b < b + s) :
    Calls Try.prog 16 #[.pointer (some ⟨a, 0, none⟩), .agg #[.int .u64 (b : Nat), .int .u64 (s : Nat), .bool rd, .bool true, .bool false, .bool sc]] w (PDone base a (.int .i64 162) m t w) := by
  have HP := Lib.hid hp
  have hg := Gr.alloc w (.cells #[.int .u64 (b : Nat), .int .u64 (s : Nat), .bool rd, .bool true, .bool false, .bool sc] 34)
  have ht := (hp.bel hg).tab km
  rw [hn] at ht
  have h16I : ¬ ((n : Int) = 16) := by omega
  have hsI : ((s : Int) == 0) = false := by simp; omega
  have hwc := fun w => within_any b s w hb hsz
  rw [hw] at hwc
  have hw2 := of_decide_eq_true hw
  have HEX := Lib.hid (show EFit ⟨b, s, rd, true, false, sc⟩ from ⟨⟨hb, hsz⟩, by show b + s < _; omega⟩)
  have HW := Lib.hid hwc
  have HG := Lib.hid hg
  have HKM := Lib.hid km
  have HKT := Lib.hid kt
  have HN := Lib.hid hn
  have HK := Lib.hid hk
  have HBA := Lib.hid hba
  have HBW := Lib.hid hbw
  have hkn : k < n := by have := len_of hy; omega
  have hkI : (k : Int) < (n : Int) := by omega
  have HY := Lib.hid hy
  clear hp hg hs hwc hw hb hsz km kt hn hk hba hbw hw2 hy
  go_enter Try.func16, Try.ntmps16
  go_wp2_with (go_at_call 36; refine (HW.out _).mono ?_; rintro e w9 ⟨rfl, rfl⟩)
  refine (regionOf_lit b s rd true false sc _).mono ?_
  rintro e w2 ⟨rfl, hb2⟩
  have HG2 := Lib.hid (Gr.trans HG.out hb2)
  clear hb2 ht
  go_wp2_with fail
  have hg3 := (HG2.out).trans (Gr.alloc w2 (.cells #[.int .u64 (b : Nat), .int .u64 (s : Nat), .bool false, .bool rd, .bool true, .bool false, .bool sc] 67))
  have HB3 := Lib.hid (Blk.new w2 67 (regP ⟨b, s, rd, true, false, sc⟩))
  have HC := Lib.hid (behind_any base a m t A c b (w2.alloc (.cells #[.int .u64 (b : Nat), .int .u64 (s : Nat), .bool false, .bool rd, .bool true, .bool false, .bool sc] 67)) (HP.out.bel hg3) HKM.out HKT.out)
  rw [HK.out] at HC
  have HG3 := Lib.hid hg3
  clear hg3
  refine HC.out.mono ?_
  rintro e w4 ⟨rfl, hb4⟩
  have HG4 := Lib.hid (Gr.trans HG3.out hb4)
  have HB4 := Lib.hid (show Blk w4 w2.heap.size 67 (regP ⟨b, s, rd, true, false, sc⟩) from HB3.out.below' hb4)
  have HP4 := Lib.hid (HP.out.bel HG4.out)
  have HLT := Lib.hid (show w.heap.size ≤ w2.heap.size from HG2.out.size)
  obtain ⟨b1, hb1⟩ : ∃ b1, w2.heap.size = b1 := ⟨_, rfl⟩
  rw [hb1] at HB4 HLT
  try rw [hb1]
  clear hb1 hb4 HC HB3
  have HT4 := Lib.hid (by have := HP4.out.tab HKM.out; rwa [HN.out] at this : w4.cell? ⟨a, 65536, none⟩ = some (.slice A n c))
  obtain ⟨g, hA, _, hr⟩ := HP4.out.reg k y HY.out
  subst hA
  have HY0 := Lib.hid (show w4.cell? ⟨g, k * 7, none⟩ = some (.int .u64 (y.b : Nat)) from hr 0 _ rfl)
  clear hr
  obtain ⟨q, hq⟩ : ∃ q, b + s = q := ⟨_, rfl⟩
  rw [hq] at hyb
  obtain ⟨yb, hyb2⟩ : ∃ yb, y.b = yb := ⟨_, rfl⟩
  rw [hyb2] at hyb HY0
  have HE := Lib.hid (fun w => (show Calls _ _ _ w (fun e w' => e = .returned (.int .u64 (q : Nat)) ∧ _) from hq ▸ end_any ⟨b, s, rd, true, false, sc⟩ w HEX.out))
  have hdq : decide ((yb : Int) < (q : Int)) = true := by simp only [decide_eq_true_eq]; omega
  have hdq2 : yb < q := hyb
  clear hq hyb2 hyb
  go_upto_region 11 with (fail)
  refine wp_region_L (fun w_ => Gr w4 w_) [] [] (by kernel_rfl) (Gr.drew _) ?_
  refine wpAnyL_take (oi := _) (v := _) (fun _ _ hS_ hb_ => Gr.trans hS_ hb_) (i := 0) rfl (by kernel_rfl) (fun _ _ _ h => h) (pureG (by rfl) (by intro w; go_simp; first | done | with_reducible rfl)) ?_
  try simp only [Act.put, List.getElem_toArray, List.getElem_cons_succ, List.getElem_cons_zero, List.setIfInBounds_toArray, List.set_cons_zero, List.set_cons_succ]
  refine wpAnyL_take (oi := _) (v := _) (fun _ _ hS_ hb_ => Gr.trans hS_ hb_) (i := 1) rfl (by kernel_rfl) (fun _ _ _ h => h) (pureG (by rfl) (by intro w; go_simp; first | done | with_reducible rfl)) ?_
  try simp only [Act.put, List.getElem_toArray, List.getElem_cons_succ, List.getElem_cons_zero, List.setIfInBounds_toArray, List.set_cons_zero, List.set_cons_succ]
  refine wpAnyL_take (oi := _) (v := _) (fun _ _ hS_ hb_ => Gr.trans hS_ hb_) (i := 2) rfl (by kernel_rfl) (fun _ _ _ h => h) (pureG (by rfl) (by intro w; go_simp; first | done | with_reducible rfl)) ?_
  try simp only [Act.put, List.getElem_toArray, List.getElem_cons_succ, List.getElem_cons_zero, List.setIfInBounds_toArray, List.set_cons_zero, List.set_cons_succ]
  refine wpAnyL_take (oi := _) (v := _) (fun _ _ hS_ hb_ => Gr.trans hS_ hb_) (i := 3) rfl (by kernel_rfl) (fun _ _ _ h => h) (pureG (by rfl) (by intro w; go_simp; first | done | with_reducible rfl)) ?_
  try simp only [Act.put, List.getElem_toArray, List.getElem_cons_succ, List.getElem_cons_zero, List.setIfInBounds_toArray, List.set_cons_zero, List.set_cons_succ]
  refine wpAnyL_take (oi := _) (v := _) (fun _ _ hS_ hb_ => Gr.trans hS_ hb_) (i := 4) rfl (by kernel_rfl) (fun _ _ _ h => h) (worldG (by rfl) (by intro w_ hS_; have q0_ := gcell HT4.out hS_; go_simp; first | done | with_reducible rfl)) ?_
  try simp only [Act.put, List.getElem_toArray, List.getElem_cons_succ, List.getElem_cons_zero, List.setIfInBounds_toArray, List.set_cons_zero, List.set_cons_succ]
  refine wpAnyL_take (oi := _) (v := _) (fun _ _ hS_ hb_ => Gr.trans hS_ hb_) (i := 5) rfl (by kernel_rfl) (fun _ _ _ h => h) (pureG (by rfl) (by intro w; go_simp; first | done | with_reducible rfl)) ?_
  try simp only [Act.put, List.getElem_toArray, List.getElem_cons_succ, List.getElem_cons_zero, List.setIfInBounds_toArray, List.set_cons_zero, List.set_cons_succ]
  refine wpAnyL_take (oi := _) (v := _) (fun _ _ hS_ hb_ => Gr.trans hS_ hb_) (i := 6) rfl (by kernel_rfl) (fun _ _ _ h => h) (pureG (by rfl) (by intro w; go_simp; first | done | with_reducible rfl)) ?_
  try simp only [Act.put, List.getElem_toArray, List.getElem_cons_succ, List.getElem_cons_zero, List.setIfInBounds_toArray, List.set_cons_zero, List.set_cons_succ]
  refine wpAnyL_take (oi := _) (v := _) (fun _ _ hS_ hb_ => Gr.trans hS_ hb_) (i := 7) rfl (by kernel_rfl) (fun _ _ _ h => h) (pureG (by rfl) (by intro w; go_simp; first | done | with_reducible rfl)) ?_
  try simp only [Act.put, List.getElem_toArray, List.getElem_cons_succ, List.getElem_cons_zero, List.setIfInBounds_toArray, List.set_cons_zero, List.set_cons_succ]
  refine wpAnyL_take (oi := _) (v := _) (fun _ _ hS_ hb_ => Gr.trans hS_ hb_) (i := 8) rfl (by kernel_rfl) (fun _ _ _ h => h) (pureG (by rfl) (by intro w; go_simp; first | done | with_reducible rfl)) ?_
  try simp only [Act.put, List.getElem_toArray, List.getElem_cons_succ, List.getElem_cons_zero, List.setIfInBounds_toArray, List.set_cons_zero, List.set_cons_succ]
  refine wpAnyL_take (oi := _) (v := _) (fun _ _ hS_ hb_ => Gr.trans hS_ hb_) (i := 9) rfl (by kernel_rfl) (fun _ _ _ h => h) (pureG (by rfl) (by intro w; go_simp; first | done | with_reducible rfl)) ?_
  try simp only [Act.put, List.getElem_toArray, List.getElem_cons_succ, List.getElem_cons_zero, List.setIfInBounds_toArray, List.set_cons_zero, List.set_cons_succ]
  refine wpAnyL_take (oi := _) (v := _) (fun _ _ hS_ hb_ => Gr.trans hS_ hb_) (i := 10) rfl (by kernel_rfl) (fun _ _ _ h => h) (pureG (by rfl) (by intro w; go_simp; first | done | with_reducible rfl)) ?_
  try simp only [Act.put, List.getElem_toArray, List.getElem_cons_succ, List.getElem_cons_zero, List.setIfInBounds_toArray, List.set_cons_zero, List.set_cons_succ]
  refine wpAnyL_take (oi := _) (v := _) (fun _ _ hS_ hb_ => Gr.trans hS_ hb_) (i := 11) rfl (by kernel_rfl) (fun _ _ _ h => h) (worldG (by rfl) (by intro w_ hS_; have q0_ := gcell HT4.out hS_; go_simp; first | done | with_reducible rfl)) ?_
  try simp only [Act.put, List.getElem_toArray, List.getElem_cons_succ, List.getElem_cons_zero, List.setIfInBounds_toArray, List.set_cons_zero, List.set_cons_succ]
  refine wpAnyL_take (oi := _) (v := _) (fun _ _ hS_ hb_ => Gr.trans hS_ hb_) (i := 12) rfl (by kernel_rfl) (fun _ _ _ h => h) (pureG (by rfl) (by intro w; go_simp; first | done | with_reducible rfl)) ?_
  try simp only [Act.put, List.getElem_toArray, List.getElem_cons_succ, List.getElem_cons_zero, List.setIfInBounds_toArray, List.set_cons_zero, List.set_cons_succ]
  refine wpAnyL_take (oi := _) (v := _) (fun _ _ hS_ hb_ => Gr.trans hS_ hb_) (i := 13) rfl (by kernel_rfl) (fun _ _ _ h => h) (pureG (by rfl) (by intro w; go_simp; first | done | with_reducible rfl)) ?_
  try simp only [Act.put, List.getElem_toArray, List.getElem_cons_succ, List.getElem_cons_zero, List.setIfInBounds_toArray, List.set_cons_zero, List.set_cons_succ]
  refine wpAnyL_take (oi := _) (v := _) (fun _ _ hS_ hb_ => Gr.trans hS_ hb_) (i := 14) rfl (by kernel_rfl) (fun _ _ _ h => h) (pureG (by rfl) (by intro w; go_simp; first | done | with_reducible rfl)) ?_
  try simp only [Act.put, List.getElem_toArray, List.getElem_cons_succ, List.getElem_cons_zero, List.setIfInBounds_toArray, List.set_cons_zero, List.set_cons_succ]
  refine wpAnyL_take (oi := _) (v := _) (fun _ _ hS_ hb_ => Gr.trans hS_ hb_) (i := 15) rfl (by kernel_rfl) (fun _ _ _ h => h) (worldG (by rfl) (by intro w_ hS_; have q0_ := gcell HY0.out hS_; go_simp; first | done | with_reducible rfl)) ?_
  try simp only [Act.put, List.getElem_toArray, List.getElem_cons_succ, List.getElem_cons_zero, List.setIfInBounds_toArray, List.set_cons_zero, List.set_cons_succ]
  refine wpAnyL_take (oi := _) (v := _) (fun _ _ hS_ hb_ => Gr.trans hS_ hb_) (i := 16) rfl (by kernel_rfl) (fun _ _ _ h => h) (loadG (by rfl) 67 (.tmp 5) rfl (b1) (0) rfl (regP ⟨b, s, rd, true, false, sc⟩) _ (fun w_ hS_ => grange (blk_all HB4.out) hS_) Try.underlying67 rfl (by rw [info67]; rfl)) ?_
  try simp only [Act.put, List.getElem_toArray, List.getElem_cons_succ, List.getElem_cons_zero, List.setIfInBounds_toArray, List.set_cons_zero, List.set_cons_succ]
  refine wpAnyL_take (oi := _) (v := _) (fun _ _ hS_ hb_ => Gr.trans hS_ hb_) (i := 17) rfl (by kernel_rfl) (fun _ _ _ h => h) (callG (by rfl) rfl Try.func38 (by kernel_rfl) (by kernel_rfl) #[.agg (regP ⟨b, s, rd, true, false, sc⟩).toArray] (by simp [Act.eval]) (fun w_ hS_ => HE.out w_)) ?_
  try simp only [Act.put, List.getElem_toArray, List.getElem_cons_succ, List.getElem_cons_zero, List.setIfInBounds_toArray, List.set_cons_zero, List.set_cons_succ]
  refine wpAnyL_take (oi := _) (v := _) (fun _ _ hS_ hb_ => Gr.trans hS_ hb_) (i := 18) rfl (by kernel_rfl) (fun _ _ _ h => h) (pureG (by rfl) (by intro w; go_simp; first | done | with_reducible rfl)) ?_
  try simp only [Act.put, List.getElem_toArray, List.getElem_cons_succ, List.getElem_cons_zero, List.setIfInBounds_toArray, List.set_cons_zero, List.set_cons_succ]
  refine wpAnyL_take (oi := _) (v := _) (fun _ _ hS_ hb_ => Gr.trans hS_ hb_) (i := 19) rfl (by kernel_rfl) (fun _ _ _ h => h) (pureG (by rfl) (by intro w; go_simp; first | done | with_reducible rfl)) ?_
  try simp only [Act.put, List.getElem_toArray, List.getElem_cons_succ, List.getElem_cons_zero, List.setIfInBounds_toArray, List.set_cons_zero, List.set_cons_succ]
  refine wpAnyL_done (by kernel_rfl) (fun WA hWA => ?_) _
  have HGA := Lib.hid (show Gr w4 WA from (Gr.drew w4).trans hWA)
  clear hWA
  go_wp2_with fail
  go_ret
  exact PDone.same HP.out (Gr.trans HG4.out HGA.out)
set_option maxHeartbeats 6400000 in
theorem add_end_tf (base a b s k n : Nat) (rd sc : Bool) (m : List Nat) (t : List Reg) (A : Option Addr) (c : Nat) (w : World) (hp : PAt w base a m t A c) (km : MOk m) (kt : TOk t) (hba : base ≤ a) (hbw : base ≤ w.heap.size) (hn : t.length = n) (h15 : n ≤ 15) (hs : s ≠ 0) (hb : U64 b) (hsz : U64 s) (hw : wiB b s = true) (hk : bh t b = k) (hkn : k = n) :
    Calls Try.prog 16 #[.pointer (some ⟨a, 0, none⟩), .agg #[.int .u64 (b : Nat), .int .u64 (s : Nat), .bool rd, .bool true, .bool false, .bool sc]] w (PDone base a (.int .i64 0) m (t.take k ++ (⟨b, s, rd, true, false, sc⟩ :: t.drop k)) w) := by
  have HP := Lib.hid hp
  have hg := Gr.alloc w (.cells #[.int .u64 (b : Nat), .int .u64 (s : Nat), .bool rd, .bool true, .bool false, .bool sc] 34)
  have ht := (hp.bel hg).tab km
  rw [hn] at ht
  have h16I : ¬ ((n : Int) = 16) := by omega
  have hsI : ((s : Int) == 0) = false := by simp; omega
  have hwc := fun w => within_any b s w hb hsz
  rw [hw] at hwc
  have hw2 := of_decide_eq_true hw
  have HEX := Lib.hid (show EFit ⟨b, s, rd, true, false, sc⟩ from ⟨⟨hb, hsz⟩, by show b + s < _; omega⟩)
  have HW := Lib.hid hwc
  have HG := Lib.hid hg
  have HKM := Lib.hid km
  have HKT := Lib.hid kt
  have HN := Lib.hid hn
  have HK := Lib.hid hk
  have HBA := Lib.hid hba
  have HBW := Lib.hid hbw
  clear hp hg hs hwc hw hb hsz km kt hn hk hba hbw hw2
  go_enter Try.func16, Try.ntmps16
  go_wp2_with (go_at_call 36; refine (HW.out _).mono ?_; rintro e w9 ⟨rfl, rfl⟩)
  refine (regionOf_lit b s rd true false sc _).mono ?_
  rintro e w2 ⟨rfl, hb2⟩
  have HG2 := Lib.hid (Gr.trans HG.out hb2)
  clear hb2 ht
  go_wp2_with fail
  have hg3 := (HG2.out).trans (Gr.alloc w2 (.cells #[.int .u64 (b : Nat), .int .u64 (s : Nat), .bool false, .bool rd, .bool true, .bool false, .bool sc] 67))
  have HB3 := Lib.hid (Blk.new w2 67 (regP ⟨b, s, rd, true, false, sc⟩))
  have HC := Lib.hid (behind_any base a m t A c b (w2.alloc (.cells #[.int .u64 (b : Nat), .int .u64 (s : Nat), .bool false, .bool rd, .bool true, .bool false, .bool sc] 67)) (HP.out.bel hg3) HKM.out HKT.out)
  rw [HK.out] at HC
  have HG3 := Lib.hid hg3
  clear hg3
  refine HC.out.mono ?_
  rintro e w4 ⟨rfl, hb4⟩
  have HG4 := Lib.hid (Gr.trans HG3.out hb4)
  have HB4 := Lib.hid (show Blk w4 w2.heap.size 67 (regP ⟨b, s, rd, true, false, sc⟩) from HB3.out.below' hb4)
  have HP4 := Lib.hid (HP.out.bel HG4.out)
  have HLT := Lib.hid (show w.heap.size ≤ w2.heap.size from HG2.out.size)
  obtain ⟨b1, hb1⟩ : ∃ b1, w2.heap.size = b1 := ⟨_, rfl⟩
  rw [hb1] at HB4 HLT
  try rw [hb1]
  clear hb1 hb4 HC HB3
  have HT4 := Lib.hid (by have := HP4.out.tab HKM.out; rwa [HN.out] at this : w4.cell? ⟨a, 65536, none⟩ = some (.slice A n c))
  have hki : ¬ (k < n) := by omega
  have hkd : decide (k < n) = false := decide_eq_false hki
  have HKN := Lib.hid hkn
  clear hkn
  go_upto_region 11 with (fail)
  refine wp_region_L (fun w_ => Gr w4 w_) [] [] (by kernel_rfl) (Gr.drew _) ?_
  refine wpAnyL_take (oi := _) (v := _) (fun _ _ hS_ hb_ => Gr.trans hS_ hb_) (i := 0) rfl (by kernel_rfl) (fun _ _ _ h => h) (pureG (by rfl) (by intro w; go_simp; first | done | with_reducible rfl)) ?_
  try simp only [Act.put, List.getElem_toArray, List.getElem_cons_succ, List.getElem_cons_zero, List.setIfInBounds_toArray, List.set_cons_zero, List.set_cons_succ]
  refine wpAnyL_take (oi := _) (v := _) (fun _ _ hS_ hb_ => Gr.trans hS_ hb_) (i := 1) rfl (by kernel_rfl) (fun _ _ _ h => h) (pureG (by rfl) (by intro w; go_simp; first | done | with_reducible rfl)) ?_
  try simp only [Act.put, List.getElem_toArray, List.getElem_cons_succ, List.getElem_cons_zero, List.setIfInBounds_toArray, List.set_cons_zero, List.set_cons_succ]
  refine wpAnyL_take (oi := _) (v := _) (fun _ _ hS_ hb_ => Gr.trans hS_ hb_) (i := 2) rfl (by kernel_rfl) (fun _ _ _ h => h) (pureG (by rfl) (by intro w; go_simp; first | done | with_reducible rfl)) ?_
  try simp only [Act.put, List.getElem_toArray, List.getElem_cons_succ, List.getElem_cons_zero, List.setIfInBounds_toArray, List.set_cons_zero, List.set_cons_succ]
  refine wpAnyL_take (oi := _) (v := _) (fun _ _ hS_ hb_ => Gr.trans hS_ hb_) (i := 3) rfl (by kernel_rfl) (fun _ _ _ h => h) (pureG (by rfl) (by intro w; go_simp; first | done | with_reducible rfl)) ?_
  try simp only [Act.put, List.getElem_toArray, List.getElem_cons_succ, List.getElem_cons_zero, List.setIfInBounds_toArray, List.set_cons_zero, List.set_cons_succ]
  refine wpAnyL_take (oi := _) (v := _) (fun _ _ hS_ hb_ => Gr.trans hS_ hb_) (i := 4) rfl (by kernel_rfl) (fun _ _ _ h => h) (worldG (by rfl) (by intro w_ hS_; have q0_ := gcell HT4.out hS_; go_simp; first | done | with_reducible rfl)) ?_
  try simp only [Act.put, List.getElem_toArray, List.getElem_cons_succ, List.getElem_cons_zero, List.setIfInBounds_toArray, List.set_cons_zero, List.set_cons_succ]
  refine wpAnyL_take (oi := _) (v := _) (fun _ _ hS_ hb_ => Gr.trans hS_ hb_) (i := 5) rfl (by kernel_rfl) (fun _ _ _ h => h) (pureG (by rfl) (by intro w; go_simp; first | done | with_reducible rfl)) ?_
  try simp only [Act.put, List.getElem_toArray, List.getElem_cons_succ, List.getElem_cons_zero, List.setIfInBounds_toArray, List.set_cons_zero, List.set_cons_succ]
  refine wpAnyL_take (oi := _) (v := _) (fun _ _ hS_ hb_ => Gr.trans hS_ hb_) (i := 6) rfl (by kernel_rfl) (fun _ _ _ h => h) (pureG (by rfl) (by intro w; go_simp; first | done | with_reducible rfl)) ?_
  try simp only [Act.put, List.getElem_toArray, List.getElem_cons_succ, List.getElem_cons_zero, List.setIfInBounds_toArray, List.set_cons_zero, List.set_cons_succ]
  refine wpAnyL_take (oi := _) (v := _) (fun _ _ hS_ hb_ => Gr.trans hS_ hb_) (i := 7) rfl (by kernel_rfl) (fun _ _ _ h => h) (pureG (by rfl) (by intro w; go_simp; first | done | with_reducible rfl)) ?_
  try simp only [Act.put, List.getElem_toArray, List.getElem_cons_succ, List.getElem_cons_zero, List.setIfInBounds_toArray, List.set_cons_zero, List.set_cons_succ]
  refine wpAnyL_take (oi := _) (v := _) (fun _ _ hS_ hb_ => Gr.trans hS_ hb_) (i := 8) rfl (by kernel_rfl) (fun _ _ _ h => h) (skipG (by rfl)) ?_
  try simp only [Act.put, List.getElem_toArray, List.getElem_cons_succ, List.getElem_cons_zero, List.setIfInBounds_toArray, List.set_cons_zero, List.set_cons_succ]
  refine wpAnyL_take (oi := _) (v := _) (fun _ _ hS_ hb_ => Gr.trans hS_ hb_) (i := 9) rfl (by kernel_rfl) (fun _ _ _ h => h) (skipG (by rfl)) ?_
  try simp only [Act.put, List.getElem_toArray, List.getElem_cons_succ, List.getElem_cons_zero, List.setIfInBounds_toArray, List.set_cons_zero, List.set_cons_succ]
  refine wpAnyL_take (oi := _) (v := _) (fun _ _ hS_ hb_ => Gr.trans hS_ hb_) (i := 10) rfl (by kernel_rfl) (fun _ _ _ h => h) (skipG (by rfl)) ?_
  try simp only [Act.put, List.getElem_toArray, List.getElem_cons_succ, List.getElem_cons_zero, List.setIfInBounds_toArray, List.set_cons_zero, List.set_cons_succ]
  refine wpAnyL_take (oi := _) (v := _) (fun _ _ hS_ hb_ => Gr.trans hS_ hb_) (i := 11) rfl (by kernel_rfl) (fun _ _ _ h => h) (skipG (by rfl)) ?_
  try simp only [Act.put, List.getElem_toArray, List.getElem_cons_succ, List.getElem_cons_zero, List.setIfInBounds_toArray, List.set_cons_zero, List.set_cons_succ]
  refine wpAnyL_take (oi := _) (v := _) (fun _ _ hS_ hb_ => Gr.trans hS_ hb_) (i := 12) rfl (by kernel_rfl) (fun _ _ _ h => h) (skipG (by rfl)) ?_
  try simp only [Act.put, List.getElem_toArray, List.getElem_cons_succ, List.getElem_cons_zero, List.setIfInBounds_toArray, List.set_cons_zero, List.set_cons_succ]
  refine wpAnyL_take (oi := _) (v := _) (fun _ _ hS_ hb_ => Gr.trans hS_ hb_) (i := 13) rfl (by kernel_rfl) (fun _ _ _ h => h) (skipG (by rfl)) ?_
  try simp only [Act.put, List.getElem_toArray, List.getElem_cons_succ, List.getElem_cons_zero, List.setIfInBounds_toArray, List.set_cons_zero, List.set_cons_succ]
  refine wpAnyL_take (oi := _) (v := _) (fun _ _ hS_ hb_ => Gr.trans hS_ hb_) (i := 14) rfl (by kernel_rfl) (fun _ _ _ h => h) (skipG (by rfl)) ?_
  try simp only [Act.put, List.getElem_toArray, List.getElem_cons_succ, List.getElem_cons_zero, List.setIfInBounds_toArray, List.set_cons_zero, List.set_cons_succ]
  refine wpAnyL_take (oi := _) (v := _) (fun _ _ hS_ hb_ => Gr.trans hS_ hb_) (i := 15) rfl (by kernel_rfl) (fun _ _ _ h => h) (skipG (by rfl)) ?_
  try simp only [Act.put, List.getElem_toArray, List.getElem_cons_succ, List.getElem_cons_zero, List.setIfInBounds_toArray, List.set_cons_zero, List.set_cons_succ]
  refine wpAnyL_take (oi := _) (v := _) (fun _ _ hS_ hb_ => Gr.trans hS_ hb_) (i := 16) rfl (by kernel_rfl) (fun _ _ _ h => h) (skipG (by rfl)) ?_
  try simp only [Act.put, List.getElem_toArray, List.getElem_cons_succ, List.getElem_cons_zero, List.setIfInBounds_toArray, List.set_cons_zero, List.set_cons_succ]
  refine wpAnyL_take (oi := _) (v := _) (fun _ _ hS_ hb_ => Gr.trans hS_ hb_) (i := 17) rfl (by kernel_rfl) (fun _ _ _ h => h) (skipG (by rfl)) ?_
  try simp only [Act.put, List.getElem_toArray, List.getElem_cons_succ, List.getElem_cons_zero, List.setIfInBounds_toArray, List.set_cons_zero, List.set_cons_succ]
  refine wpAnyL_take (oi := _) (v := _) (fun _ _ hS_ hb_ => Gr.trans hS_ hb_) (i := 18) rfl (by kernel_rfl) (fun _ _ _ h => h) (skipG (by rfl)) ?_
  try simp only [Act.put, List.getElem_toArray, List.getElem_cons_succ, List.getElem_cons_zero, List.setIfInBounds_toArray, List.set_cons_zero, List.set_cons_succ]
  refine wpAnyL_take (oi := _) (v := _) (fun _ _ hS_ hb_ => Gr.trans hS_ hb_) (i := 19) rfl (by kernel_rfl) (fun _ _ _ h => h) (pureG (by rfl) (by intro w; go_simp; first | done | with_reducible rfl)) ?_
  try simp only [Act.put, List.getElem_toArray, List.getElem_cons_succ, List.getElem_cons_zero, List.setIfInBounds_toArray, List.set_cons_zero, List.set_cons_succ]
  refine wpAnyL_done (by kernel_rfl) (fun WA hWA => ?_) _
  have HGA := Lib.hid (show Gr w4 WA from (Gr.drew w4).trans hWA)
  clear hWA
  have HPA := Lib.hid (HP4.out.bel HGA.out)
  have HBA2 := Lib.hid (HB4.out.gr HGA.out)
  have HTA := Lib.hid (gcell HT4.out HGA.out)
  have HNB := Lib.hid (show ∀ q, (Value.slice A n c).ownBlock = some q → q < b1 from fun q hq => by have := World.ownsRow.lt (by have := HP.out.row; rwa [HN.out] at this : w.ownsRow base 67 7 (.slice A n c) n (cellsP t)) q hq; have := HLT.out; omega)
  have HW0 := Lib.hid (show base ≤ WA.heap.size from Nat.le_trans HBW.out (Nat.le_trans HG4.out.size HGA.out.size))
  have HROW := Lib.hid (by have := HPA.out.row; rwa [HN.out] at this : WA.ownsRow base 67 7 (.slice A n c) n (cellsP t))
  go_upto_region 13 with (fail)
  refine wp_region_L (fun w_ => w_.cell? ⟨a, 65536, none⟩ = some (.slice A n c) ∧ Blk w_ b1 67 (regP ⟨b, s, rd, true, false, sc⟩)) [11] [] (by kernel_rfl) ⟨HTA.out, HBA2.out.drew⟩ ?_
  refine wpAnyL_take (oi := _) (v := _) (fun _ _ hS_ hb_ => ⟨gcell hS_.1 hb_, hS_.2.gr hb_⟩) (i := 0) rfl (by kernel_rfl) (fun _ _ _ h => h) (pureG (by rfl) (by intro w; go_simp; first | done | with_reducible rfl)) ?_
  try simp only [Act.put, List.getElem_toArray, List.getElem_cons_succ, List.getElem_cons_zero, List.setIfInBounds_toArray, List.set_cons_zero, List.set_cons_succ]
  refine wpAnyL_take (oi := _) (v := _) (fun _ _ hS_ hb_ => ⟨gcell hS_.1 hb_, hS_.2.gr hb_⟩) (i := 1) rfl (by kernel_rfl) (fun _ _ _ h => h) (pureG (by rfl) (by intro w; go_simp; first | done | with_reducible rfl)) ?_
  try simp only [Act.put, List.getElem_toArray, List.getElem_cons_succ, List.getElem_cons_zero, List.setIfInBounds_toArray, List.set_cons_zero, List.set_cons_succ]
  refine wpAnyL_take (oi := _) (v := _) (fun _ _ hS_ hb_ => ⟨gcell hS_.1 hb_, hS_.2.gr hb_⟩) (i := 2) rfl (by kernel_rfl) (fun _ _ _ h => h) (pureG (by rfl) (by intro w; go_simp; first | done | with_reducible rfl)) ?_
  try simp only [Act.put, List.getElem_toArray, List.getElem_cons_succ, List.getElem_cons_zero, List.setIfInBounds_toArray, List.set_cons_zero, List.set_cons_succ]
  refine wpAnyL_take (oi := _) (v := _) (fun _ _ hS_ hb_ => ⟨gcell hS_.1 hb_, hS_.2.gr hb_⟩) (i := 3) rfl (by kernel_rfl) (fun _ _ _ h => h) (pureG (by rfl) (by intro w; go_simp; first | done | with_reducible rfl)) ?_
  try simp only [Act.put, List.getElem_toArray, List.getElem_cons_succ, List.getElem_cons_zero, List.setIfInBounds_toArray, List.set_cons_zero, List.set_cons_succ]
  refine wpAnyL_take (oi := _) (v := _) (fun _ _ hS_ hb_ => ⟨gcell hS_.1 hb_, hS_.2.gr hb_⟩) (i := 4) rfl (by kernel_rfl) (fun _ _ _ h => h) (worldG (by rfl) (by intro w_ hS_; have q0_ := hS_.1; go_simp; first | done | with_reducible rfl)) ?_
  try simp only [Act.put, List.getElem_toArray, List.getElem_cons_succ, List.getElem_cons_zero, List.setIfInBounds_toArray, List.set_cons_zero, List.set_cons_succ]
  refine wpAnyL_take (oi := _) (v := _) (fun _ _ hS_ hb_ => ⟨gcell hS_.1 hb_, hS_.2.gr hb_⟩) (i := 5) rfl (by kernel_rfl) (fun _ _ _ h => h) (pureG (by rfl) (by intro w; go_simp; first | done | with_reducible rfl)) ?_
  try simp only [Act.put, List.getElem_toArray, List.getElem_cons_succ, List.getElem_cons_zero, List.setIfInBounds_toArray, List.set_cons_zero, List.set_cons_succ]
  refine wpAnyL_take (oi := _) (v := _) (fun _ _ hS_ hb_ => ⟨gcell hS_.1 hb_, hS_.2.gr hb_⟩) (i := 6) rfl (by kernel_rfl) (fun _ _ _ h => h) (loadG (by rfl) 67 (.tmp 5) rfl (b1) (0) rfl (regP ⟨b, s, rd, true, false, sc⟩) _ (fun w_ hS_ => blk_all hS_.2) Try.underlying67 rfl (by rw [info67]; rfl)) ?_
  try simp only [Act.put, List.getElem_toArray, List.getElem_cons_succ, List.getElem_cons_zero, List.setIfInBounds_toArray, List.set_cons_zero, List.set_cons_succ]
  refine wpAnyL_one (i := 7) (by kernel_rfl) rfl (fun W1 hW1 hS1 => ?_)
  refine wpOp_run (oi := _) rfl (by rfl) (exec_bs (vs := #[(0, .agg (regP ⟨b, s, rd, true, false, sc⟩).toArray)]) rfl (by first | (simp [Act.eval]; done) | (simp [Act.eval]; rfl) | rfl) (bld7 ⟨b, s, rd, true, false, sc⟩ W1)) ?_
  refine ⟨⟨gcell hS1.1 (Gr.alloc W1 _), hS1.2.alloc _⟩, ?_⟩
  try simp only [Act.put, List.getElem_toArray, List.getElem_cons_succ, List.getElem_cons_zero, List.setIfInBounds_toArray, List.set_cons_zero, List.set_cons_succ]
  refine wpAnyL_one (i := 8) (by kernel_rfl) rfl (fun W2 hW2 hS2 => ?_)
  have hg2 : Gr WA W2 := (((Gr.drew WA).trans hW1).trans (Gr.alloc W1 _)).trans hW2
  have hvb : Blk W2 W1.heap.size 67 (regP ⟨b, s, rd, true, false, sc⟩) := (Blk.new W1 67 (regP ⟨b, s, rd, true, false, sc⟩)).gr hW2
  have hrow2 := own_below HROW.out hg2
  have hob : ∀ q, (Value.slice A n c).ownBlock = some q → base ≤ q ∧ q < WA.heap.size := fun q hq => World.ownsRow.lt HROW.out q hq
  have hsz1 : WA.heap.size ≤ W1.heap.size := ((Gr.drew WA).trans hW1).size
  have hcl := ins_any base n c W1.heap.size k A t ⟨b, s, rd, true, false, sc⟩ W2 HN.out (by have := HKN.out; omega) h15 hrow2 hvb (fun q hq => by have := (hob q hq).2; omega) (Nat.le_trans HW0.out hg2.size)
  refine wpOp_callE (i := 8) rfl (by rfl) rfl Try.func39 (by kernel_rfl) (by kernel_rfl) #[.slice A n c, .int .i64 (k : Nat), .slice (some ⟨W1.heap.size, 0, none⟩) 1 1] (by simp [Act.eval]) (hcl.mono ?_)
  rintro e W3 ⟨A3, c3, rfl, hrow3, hg3⟩
  have hnA : ∀ q, (Value.slice A n c).ownBlock = some q → q ≠ a := fun q hq e => by
    obtain ⟨sp, hbq, _⟩ := own_is HROW.out hq
    exact blk_ne HPA.out.blk hbq (by decide) e.symm
  have hnB : ∀ q, (Value.slice A n c).ownBlock = some q → q ≠ b1 := fun q hq e => by
    have := (hob q hq).2; have := HNB.out q hq
    omega
  have hblk3 : Blk W3 a 61 (natsV .u8 m ++ [.slice A n c]) := by
    have := (HPA.out.blk.gr hg2).grown hg3 (fun e => hnA _ e.symm rfl)
    rwa [HN.out] at this
  have hS3 : W3.cell? ⟨a, 65536, none⟩ = some (.slice A n c) ∧ Blk W3 b1 67 (regP ⟨b, s, rd, true, false, sc⟩) := ⟨by
    rw [hblk3.cell, List.getElem?_append_right (by rw [natsV_length, HKM.out.ln]; omega), natsV_length, HKM.out.ln]; rfl, hS2.2.grown hg3 (fun e => hnB _ e.symm rfl)⟩
  refine ⟨_, rfl, hS3, ?_⟩
  try simp only [Act.put, List.getElem_toArray, List.getElem_cons_succ, List.getElem_cons_zero, List.setIfInBounds_toArray, List.set_cons_zero, List.set_cons_succ]
  refine wpAnyL_take (oi := _) (v := _) (fun _ _ hS_ hb_ => ⟨gcell hS_.1 hb_, hS_.2.gr hb_⟩) (i := 9) rfl (by kernel_rfl) (fun _ _ _ h => h) (pureG (by rfl) (by intro w; go_simp; first | done | with_reducible rfl)) ?_
  try simp only [Act.put, List.getElem_toArray, List.getElem_cons_succ, List.getElem_cons_zero, List.setIfInBounds_toArray, List.set_cons_zero, List.set_cons_succ]
  refine wpAnyL_take (oi := _) (v := _) (fun _ _ hS_ hb_ => ⟨gcell hS_.1 hb_, hS_.2.gr hb_⟩) (i := 10) rfl (by kernel_rfl) (fun _ _ _ h => h) (pureG (by rfl) (by intro w; go_simp; first | done | with_reducible rfl)) ?_
  try simp only [Act.put, List.getElem_toArray, List.getElem_cons_succ, List.getElem_cons_zero, List.setIfInBounds_toArray, List.set_cons_zero, List.set_cons_succ]
  refine wpAnyL_oneD (i := 11) (by kernel_rfl) rfl rfl (by kernel_rfl) (by decide) (fun W4 hW4 hS4 => ?_)
  have hb5 := hblk3.gr hW4
  have hce := hS4.1
  have hfe := hb5.free 65536
  refine wpOp_skip (oi := _) (W2 := W4.setCell ⟨a, 65536, none⟩ (.slice A3 (n + 1) c3)) rfl (by rfl) (by unfold execOp; go_simp) ?_
  try simp only [Act.put, List.getElem_toArray, List.getElem_cons_succ, List.getElem_cons_zero, List.setIfInBounds_toArray, List.set_cons_zero, List.set_cons_succ]
  refine wpAnyL_done (by kernel_rfl) (fun WZ hWZ => ?_) _
  have hb6 : Blk (W4.setCell ⟨a, 65536, none⟩ (.slice A3 (n + 1) c3)) a 61 (natsV .u8 m ++ [.slice A3 (n + 1) c3]) := by
    have := hb5.set 65536 (.slice A3 (n + 1) c3)
    rwa [List.set_append_right _ _ (by rw [natsV_length, HKM.out.ln]; omega), natsV_length, HKM.out.ln] at this
  have hlen : (t.take k ++ (⟨b, s, rd, true, false, sc⟩ :: t.drop k)).length = n + 1 := by rw [List.length_append, List.length_cons, List.length_take, List.length_drop, HN.out]; omega
  have hrow6 : (W4.setCell ⟨a, 65536, none⟩ (.slice A3 (n + 1) c3)).ownsRow base 67 7 (.slice A3 (n + 1) c3) (n + 1) (cellsP (t.take k ++ (⟨b, s, rd, true, false, sc⟩ :: t.drop k))) :=
    own_grown (own_below hrow3 hW4) (grown_setCell W4 ⟨a, 65536, none⟩ _) (fun q hq e => by
      obtain ⟨sp, hbq, _⟩ := own_is (own_below hrow3 hW4) hq
      injection e with e
      exact blk_ne hb5 hbq (by decide) e)
  have hfin : PAt WZ base a m (t.take k ++ (⟨b, s, rd, true, false, sc⟩ :: t.drop k)) A3 c3 := ⟨by rw [hlen]; exact hb6.gr hWZ, by rw [hlen]; exact own_below hrow6 hWZ⟩
  have hfr : FrT base tyP w WZ := by
    have f1 : FrT base tyP w W2 := FrT.bel ((Gr.trans HG4.out HGA.out).trans hg2)
    have f2 : FrT base tyP W2 W3 := fr_own hrow2 (by decide) hg3
    have f3 : FrT base tyP W3 W4 := FrT.bel hW4
    have f4 : FrT base tyP W4 (W4.setCell ⟨a, 65536, none⟩ (.slice A3 (n + 1) c3)) := FrT.grown hb5 HBA.out (by decide) (grown_setCell W4 ⟨a, 65536, none⟩ _)
    exact (((f1.trans f2).trans f3).trans f4).trans (FrT.bel hWZ)
  have HFIN := Lib.hid hfin
  have HFR := Lib.hid hfr
  clear hfin hfr hrow6 hlen hb6 hWZ hce hfe hb5 hS4 hW4 hS3 hblk3 hnA hnB hrow3 hg3 hcl hsz1 hob hrow2 hvb hg2 hS2 hW2 hS1 hW1
  go_wp2_with fail
  go_ret
  exact ⟨rfl, ⟨_, _, HFIN.out⟩, HFR.out⟩
set_option maxHeartbeats 6400000 in
theorem add_miss_tf (base a b s k n : Nat) (rd sc : Bool) (m : List Nat) (t : List Reg) (A : Option Addr) (c : Nat) (w : World) (hp : PAt w base a m t A c) (km : MOk m) (kt : TOk t) (hba : base ≤ a) (hbw : base ≤ w.heap.size) (hn : t.length = n) (h15 : n ≤ 15) (hs : s ≠ 0) (hb : U64 b) (hsz : U64 s) (hw : wiB b s = true) (hk : bh t b = k) (y : Reg) (hy : t[k]? = some y) (hyb : ¬ (y.b < b + s)) :
    Calls Try.prog 16 #[.pointer (some ⟨a, 0, none⟩), .agg #[.int .u64 (b : Nat), .int .u64 (s : Nat), .bool rd, .bool true, .bool false, .bool sc]] w (PDone base a (.int .i64 0) m (t.take k ++ (⟨b, s, rd, true, false, sc⟩ :: t.drop k)) w) := by
  have HP := Lib.hid hp
  have hg := Gr.alloc w (.cells #[.int .u64 (b : Nat), .int .u64 (s : Nat), .bool rd, .bool true, .bool false, .bool sc] 34)
  have ht := (hp.bel hg).tab km
  rw [hn] at ht
  have h16I : ¬ ((n : Int) = 16) := by omega
  have hsI : ((s : Int) == 0) = false := by simp; omega
  have hwc := fun w => within_any b s w hb hsz
  rw [hw] at hwc
  have hw2 := of_decide_eq_true hw
  have HEX := Lib.hid (show EFit ⟨b, s, rd, true, false, sc⟩ from ⟨⟨hb, hsz⟩, by show b + s < _; omega⟩)
  have HW := Lib.hid hwc
  have HG := Lib.hid hg
  have HKM := Lib.hid km
  have HKT := Lib.hid kt
  have HN := Lib.hid hn
  have HK := Lib.hid hk
  have HBA := Lib.hid hba
  have HBW := Lib.hid hbw
  have hkn : k < n := by have := len_of hy; omega
  have hkI : (k : Int) < (n : Int) := by omega
  have HY := Lib.hid hy
  clear hp hg hs hwc hw hb hsz km kt hn hk hba hbw hw2 hy
  go_enter Try.func16, Try.ntmps16
  go_wp2_with (go_at_call 36; refine (HW.out _).mono ?_; rintro e w9 ⟨rfl, rfl⟩)
  refine (regionOf_lit b s rd true false sc _).mono ?_
  rintro e w2 ⟨rfl, hb2⟩
  have HG2 := Lib.hid (Gr.trans HG.out hb2)
  clear hb2 ht
  go_wp2_with fail
  have hg3 := (HG2.out).trans (Gr.alloc w2 (.cells #[.int .u64 (b : Nat), .int .u64 (s : Nat), .bool false, .bool rd, .bool true, .bool false, .bool sc] 67))
  have HB3 := Lib.hid (Blk.new w2 67 (regP ⟨b, s, rd, true, false, sc⟩))
  have HC := Lib.hid (behind_any base a m t A c b (w2.alloc (.cells #[.int .u64 (b : Nat), .int .u64 (s : Nat), .bool false, .bool rd, .bool true, .bool false, .bool sc] 67)) (HP.out.bel hg3) HKM.out HKT.out)
  rw [HK.out] at HC
  have HG3 := Lib.hid hg3
  clear hg3
  refine HC.out.mono ?_
  rintro e w4 ⟨rfl, hb4⟩
  have HG4 := Lib.hid (Gr.trans HG3.out hb4)
  have HB4 := Lib.hid (show Blk w4 w2.heap.size 67 (regP ⟨b, s, rd, true, false, sc⟩) from HB3.out.below' hb4)
  have HP4 := Lib.hid (HP.out.bel HG4.out)
  have HLT := Lib.hid (show w.heap.size ≤ w2.heap.size from HG2.out.size)
  obtain ⟨b1, hb1⟩ : ∃ b1, w2.heap.size = b1 := ⟨_, rfl⟩
  rw [hb1] at HB4 HLT
  try rw [hb1]
  clear hb1 hb4 HC HB3
  have HT4 := Lib.hid (by have := HP4.out.tab HKM.out; rwa [HN.out] at this : w4.cell? ⟨a, 65536, none⟩ = some (.slice A n c))
  obtain ⟨g, hA, _, hr⟩ := HP4.out.reg k y HY.out
  subst hA
  have HY0 := Lib.hid (show w4.cell? ⟨g, k * 7, none⟩ = some (.int .u64 (y.b : Nat)) from hr 0 _ rfl)
  clear hr
  obtain ⟨q, hq⟩ : ∃ q, b + s = q := ⟨_, rfl⟩
  rw [hq] at hyb
  obtain ⟨yb, hyb2⟩ : ∃ yb, y.b = yb := ⟨_, rfl⟩
  rw [hyb2] at hyb HY0
  have HE := Lib.hid (fun w => (show Calls _ _ _ w (fun e w' => e = .returned (.int .u64 (q : Nat)) ∧ _) from hq ▸ end_any ⟨b, s, rd, true, false, sc⟩ w HEX.out))
  have hdq : decide ((yb : Int) < (q : Int)) = false := by simp only [decide_eq_false_iff_not]; omega
  have hdq2 : ¬ (yb < q) := hyb
  clear hq hyb2 hyb
  go_upto_region 11 with (fail)
  refine wp_region_L (fun w_ => Gr w4 w_) [] [] (by kernel_rfl) (Gr.drew _) ?_
  refine wpAnyL_take (oi := _) (v := _) (fun _ _ hS_ hb_ => Gr.trans hS_ hb_) (i := 0) rfl (by kernel_rfl) (fun _ _ _ h => h) (pureG (by rfl) (by intro w; go_simp; first | done | with_reducible rfl)) ?_
  try simp only [Act.put, List.getElem_toArray, List.getElem_cons_succ, List.getElem_cons_zero, List.setIfInBounds_toArray, List.set_cons_zero, List.set_cons_succ]
  refine wpAnyL_take (oi := _) (v := _) (fun _ _ hS_ hb_ => Gr.trans hS_ hb_) (i := 1) rfl (by kernel_rfl) (fun _ _ _ h => h) (pureG (by rfl) (by intro w; go_simp; first | done | with_reducible rfl)) ?_
  try simp only [Act.put, List.getElem_toArray, List.getElem_cons_succ, List.getElem_cons_zero, List.setIfInBounds_toArray, List.set_cons_zero, List.set_cons_succ]
  refine wpAnyL_take (oi := _) (v := _) (fun _ _ hS_ hb_ => Gr.trans hS_ hb_) (i := 2) rfl (by kernel_rfl) (fun _ _ _ h => h) (pureG (by rfl) (by intro w; go_simp; first | done | with_reducible rfl)) ?_
  try simp only [Act.put, List.getElem_toArray, List.getElem_cons_succ, List.getElem_cons_zero, List.setIfInBounds_toArray, List.set_cons_zero, List.set_cons_succ]
  refine wpAnyL_take (oi := _) (v := _) (fun _ _ hS_ hb_ => Gr.trans hS_ hb_) (i := 3) rfl (by kernel_rfl) (fun _ _ _ h => h) (pureG (by rfl) (by intro w; go_simp; first | done | with_reducible rfl)) ?_
  try simp only [Act.put, List.getElem_toArray, List.getElem_cons_succ, List.getElem_cons_zero, List.setIfInBounds_toArray, List.set_cons_zero, List.set_cons_succ]
  refine wpAnyL_take (oi := _) (v := _) (fun _ _ hS_ hb_ => Gr.trans hS_ hb_) (i := 4) rfl (by kernel_rfl) (fun _ _ _ h => h) (worldG (by rfl) (by intro w_ hS_; have q0_ := gcell HT4.out hS_; go_simp; first | done | with_reducible rfl)) ?_
  try simp only [Act.put, List.getElem_toArray, List.getElem_cons_succ, List.getElem_cons_zero, List.setIfInBounds_toArray, List.set_cons_zero, List.set_cons_succ]
  refine wpAnyL_take (oi := _) (v := _) (fun _ _ hS_ hb_ => Gr.trans hS_ hb_) (i := 5) rfl (by kernel_rfl) (fun _ _ _ h => h) (pureG (by rfl) (by intro w; go_simp; first | done | with_reducible rfl)) ?_
  try simp only [Act.put, List.getElem_toArray, List.getElem_cons_succ, List.getElem_cons_zero, List.setIfInBounds_toArray, List.set_cons_zero, List.set_cons_succ]
  refine wpAnyL_take (oi := _) (v := _) (fun _ _ hS_ hb_ => Gr.trans hS_ hb_) (i := 6) rfl (by kernel_rfl) (fun _ _ _ h => h) (pureG (by rfl) (by intro w; go_simp; first | done | with_reducible rfl)) ?_
  try simp only [Act.put, List.getElem_toArray, List.getElem_cons_succ, List.getElem_cons_zero, List.setIfInBounds_toArray, List.set_cons_zero, List.set_cons_succ]
  refine wpAnyL_take (oi := _) (v := _) (fun _ _ hS_ hb_ => Gr.trans hS_ hb_) (i := 7) rfl (by kernel_rfl) (fun _ _ _ h => h) (pureG (by rfl) (by intro w; go_simp; first | done | with_reducible rfl)) ?_
  try simp only [Act.put, List.getElem_toArray, List.getElem_cons_succ, List.getElem_cons_zero, List.setIfInBounds_toArray, List.set_cons_zero, List.set_cons_succ]
  refine wpAnyL_take (oi := _) (v := _) (fun _ _ hS_ hb_ => Gr.trans hS_ hb_) (i := 8) rfl (by kernel_rfl) (fun _ _ _ h => h) (pureG (by rfl) (by intro w; go_simp; first | done | with_reducible rfl)) ?_
  try simp only [Act.put, List.getElem_toArray, List.getElem_cons_succ, List.getElem_cons_zero, List.setIfInBounds_toArray, List.set_cons_zero, List.set_cons_succ]
  refine wpAnyL_take (oi := _) (v := _) (fun _ _ hS_ hb_ => Gr.trans hS_ hb_) (i := 9) rfl (by kernel_rfl) (fun _ _ _ h => h) (pureG (by rfl) (by intro w; go_simp; first | done | with_reducible rfl)) ?_
  try simp only [Act.put, List.getElem_toArray, List.getElem_cons_succ, List.getElem_cons_zero, List.setIfInBounds_toArray, List.set_cons_zero, List.set_cons_succ]
  refine wpAnyL_take (oi := _) (v := _) (fun _ _ hS_ hb_ => Gr.trans hS_ hb_) (i := 10) rfl (by kernel_rfl) (fun _ _ _ h => h) (pureG (by rfl) (by intro w; go_simp; first | done | with_reducible rfl)) ?_
  try simp only [Act.put, List.getElem_toArray, List.getElem_cons_succ, List.getElem_cons_zero, List.setIfInBounds_toArray, List.set_cons_zero, List.set_cons_succ]
  refine wpAnyL_take (oi := _) (v := _) (fun _ _ hS_ hb_ => Gr.trans hS_ hb_) (i := 11) rfl (by kernel_rfl) (fun _ _ _ h => h) (worldG (by rfl) (by intro w_ hS_; have q0_ := gcell HT4.out hS_; go_simp; first | done | with_reducible rfl)) ?_
  try simp only [Act.put, List.getElem_toArray, List.getElem_cons_succ, List.getElem_cons_zero, List.setIfInBounds_toArray, List.set_cons_zero, List.set_cons_succ]
  refine wpAnyL_take (oi := _) (v := _) (fun _ _ hS_ hb_ => Gr.trans hS_ hb_) (i := 12) rfl (by kernel_rfl) (fun _ _ _ h => h) (pureG (by rfl) (by intro w; go_simp; first | done | with_reducible rfl)) ?_
  try simp only [Act.put, List.getElem_toArray, List.getElem_cons_succ, List.getElem_cons_zero, List.setIfInBounds_toArray, List.set_cons_zero, List.set_cons_succ]
  refine wpAnyL_take (oi := _) (v := _) (fun _ _ hS_ hb_ => Gr.trans hS_ hb_) (i := 13) rfl (by kernel_rfl) (fun _ _ _ h => h) (pureG (by rfl) (by intro w; go_simp; first | done | with_reducible rfl)) ?_
  try simp only [Act.put, List.getElem_toArray, List.getElem_cons_succ, List.getElem_cons_zero, List.setIfInBounds_toArray, List.set_cons_zero, List.set_cons_succ]
  refine wpAnyL_take (oi := _) (v := _) (fun _ _ hS_ hb_ => Gr.trans hS_ hb_) (i := 14) rfl (by kernel_rfl) (fun _ _ _ h => h) (pureG (by rfl) (by intro w; go_simp; first | done | with_reducible rfl)) ?_
  try simp only [Act.put, List.getElem_toArray, List.getElem_cons_succ, List.getElem_cons_zero, List.setIfInBounds_toArray, List.set_cons_zero, List.set_cons_succ]
  refine wpAnyL_take (oi := _) (v := _) (fun _ _ hS_ hb_ => Gr.trans hS_ hb_) (i := 15) rfl (by kernel_rfl) (fun _ _ _ h => h) (worldG (by rfl) (by intro w_ hS_; have q0_ := gcell HY0.out hS_; go_simp; first | done | with_reducible rfl)) ?_
  try simp only [Act.put, List.getElem_toArray, List.getElem_cons_succ, List.getElem_cons_zero, List.setIfInBounds_toArray, List.set_cons_zero, List.set_cons_succ]
  refine wpAnyL_take (oi := _) (v := _) (fun _ _ hS_ hb_ => Gr.trans hS_ hb_) (i := 16) rfl (by kernel_rfl) (fun _ _ _ h => h) (loadG (by rfl) 67 (.tmp 5) rfl (b1) (0) rfl (regP ⟨b, s, rd, true, false, sc⟩) _ (fun w_ hS_ => grange (blk_all HB4.out) hS_) Try.underlying67 rfl (by rw [info67]; rfl)) ?_
  try simp only [Act.put, List.getElem_toArray, List.getElem_cons_succ, List.getElem_cons_zero, List.setIfInBounds_toArray, List.set_cons_zero, List.set_cons_succ]
  refine wpAnyL_take (oi := _) (v := _) (fun _ _ hS_ hb_ => Gr.trans hS_ hb_) (i := 17) rfl (by kernel_rfl) (fun _ _ _ h => h) (callG (by rfl) rfl Try.func38 (by kernel_rfl) (by kernel_rfl) #[.agg (regP ⟨b, s, rd, true, false, sc⟩).toArray] (by simp [Act.eval]) (fun w_ hS_ => HE.out w_)) ?_
  try simp only [Act.put, List.getElem_toArray, List.getElem_cons_succ, List.getElem_cons_zero, List.setIfInBounds_toArray, List.set_cons_zero, List.set_cons_succ]
  refine wpAnyL_take (oi := _) (v := _) (fun _ _ hS_ hb_ => Gr.trans hS_ hb_) (i := 18) rfl (by kernel_rfl) (fun _ _ _ h => h) (pureG (by rfl) (by intro w; go_simp; first | done | with_reducible rfl)) ?_
  try simp only [Act.put, List.getElem_toArray, List.getElem_cons_succ, List.getElem_cons_zero, List.setIfInBounds_toArray, List.set_cons_zero, List.set_cons_succ]
  refine wpAnyL_take (oi := _) (v := _) (fun _ _ hS_ hb_ => Gr.trans hS_ hb_) (i := 19) rfl (by kernel_rfl) (fun _ _ _ h => h) (pureG (by rfl) (by intro w; go_simp; first | done | with_reducible rfl)) ?_
  try simp only [Act.put, List.getElem_toArray, List.getElem_cons_succ, List.getElem_cons_zero, List.setIfInBounds_toArray, List.set_cons_zero, List.set_cons_succ]
  refine wpAnyL_done (by kernel_rfl) (fun WA hWA => ?_) _
  have HGA := Lib.hid (show Gr w4 WA from (Gr.drew w4).trans hWA)
  clear hWA
  have HPA := Lib.hid (HP4.out.bel HGA.out)
  have HBA2 := Lib.hid (HB4.out.gr HGA.out)
  have HTA := Lib.hid (gcell HT4.out HGA.out)
  have HNB := Lib.hid (show ∀ q, (Value.slice (some ⟨g, 0, none⟩) n c).ownBlock = some q → q < b1 from fun q hq => by have := World.ownsRow.lt (by have := HP.out.row; rwa [HN.out] at this : w.ownsRow base 67 7 (.slice (some ⟨g, 0, none⟩) n c) n (cellsP t)) q hq; have := HLT.out; omega)
  have HW0 := Lib.hid (show base ≤ WA.heap.size from Nat.le_trans HBW.out (Nat.le_trans HG4.out.size HGA.out.size))
  have HROW := Lib.hid (by have := HPA.out.row; rwa [HN.out] at this : WA.ownsRow base 67 7 (.slice (some ⟨g, 0, none⟩) n c) n (cellsP t))
  go_upto_region 13 with (fail)
  refine wp_region_L (fun w_ => w_.cell? ⟨a, 65536, none⟩ = some (.slice (some ⟨g, 0, none⟩) n c) ∧ Blk w_ b1 67 (regP ⟨b, s, rd, true, false, sc⟩)) [11] [] (by kernel_rfl) ⟨HTA.out, HBA2.out.drew⟩ ?_
  refine wpAnyL_take (oi := _) (v := _) (fun _ _ hS_ hb_ => ⟨gcell hS_.1 hb_, hS_.2.gr hb_⟩) (i := 0) rfl (by kernel_rfl) (fun _ _ _ h => h) (pureG (by rfl) (by intro w; go_simp; first | done | with_reducible rfl)) ?_
  try simp only [Act.put, List.getElem_toArray, List.getElem_cons_succ, List.getElem_cons_zero, List.setIfInBounds_toArray, List.set_cons_zero, List.set_cons_succ]
  refine wpAnyL_take (oi := _) (v := _) (fun _ _ hS_ hb_ => ⟨gcell hS_.1 hb_, hS_.2.gr hb_⟩) (i := 1) rfl (by kernel_rfl) (fun _ _ _ h => h) (pureG (by rfl) (by intro w; go_simp; first | done | with_reducible rfl)) ?_
  try simp only [Act.put, List.getElem_toArray, List.getElem_cons_succ, List.getElem_cons_zero, List.setIfInBounds_toArray, List.set_cons_zero, List.set_cons_succ]
  refine wpAnyL_take (oi := _) (v := _) (fun _ _ hS_ hb_ => ⟨gcell hS_.1 hb_, hS_.2.gr hb_⟩) (i := 2) rfl (by kernel_rfl) (fun _ _ _ h => h) (pureG (by rfl) (by intro w; go_simp; first | done | with_reducible rfl)) ?_
  try simp only [Act.put, List.getElem_toArray, List.getElem_cons_succ, List.getElem_cons_zero, List.setIfInBounds_toArray, List.set_cons_zero, List.set_cons_succ]
  refine wpAnyL_take (oi := _) (v := _) (fun _ _ hS_ hb_ => ⟨gcell hS_.1 hb_, hS_.2.gr hb_⟩) (i := 3) rfl (by kernel_rfl) (fun _ _ _ h => h) (pureG (by rfl) (by intro w; go_simp; first | done | with_reducible rfl)) ?_
  try simp only [Act.put, List.getElem_toArray, List.getElem_cons_succ, List.getElem_cons_zero, List.setIfInBounds_toArray, List.set_cons_zero, List.set_cons_succ]
  refine wpAnyL_take (oi := _) (v := _) (fun _ _ hS_ hb_ => ⟨gcell hS_.1 hb_, hS_.2.gr hb_⟩) (i := 4) rfl (by kernel_rfl) (fun _ _ _ h => h) (worldG (by rfl) (by intro w_ hS_; have q0_ := hS_.1; go_simp; first | done | with_reducible rfl)) ?_
  try simp only [Act.put, List.getElem_toArray, List.getElem_cons_succ, List.getElem_cons_zero, List.setIfInBounds_toArray, List.set_cons_zero, List.set_cons_succ]
  refine wpAnyL_take (oi := _) (v := _) (fun _ _ hS_ hb_ => ⟨gcell hS_.1 hb_, hS_.2.gr hb_⟩) (i := 5) rfl (by kernel_rfl) (fun _ _ _ h => h) (pureG (by rfl) (by intro w; go_simp; first | done | with_reducible rfl)) ?_
  try simp only [Act.put, List.getElem_toArray, List.getElem_cons_succ, List.getElem_cons_zero, List.setIfInBounds_toArray, List.set_cons_zero, List.set_cons_succ]
  refine wpAnyL_take (oi := _) (v := _) (fun _ _ hS_ hb_ => ⟨gcell hS_.1 hb_, hS_.2.gr hb_⟩) (i := 6) rfl (by kernel_rfl) (fun _ _ _ h => h) (loadG (by rfl) 67 (.tmp 5) rfl (b1) (0) rfl (regP ⟨b, s, rd, true, false, sc⟩) _ (fun w_ hS_ => blk_all hS_.2) Try.underlying67 rfl (by rw [info67]; rfl)) ?_
  try simp only [Act.put, List.getElem_toArray, List.getElem_cons_succ, List.getElem_cons_zero, List.setIfInBounds_toArray, List.set_cons_zero, List.set_cons_succ]
  refine wpAnyL_one (i := 7) (by kernel_rfl) rfl (fun W1 hW1 hS1 => ?_)
  refine wpOp_run (oi := _) rfl (by rfl) (exec_bs (vs := #[(0, .agg (regP ⟨b, s, rd, true, false, sc⟩).toArray)]) rfl (by first | (simp [Act.eval]; done) | (simp [Act.eval]; rfl) | rfl) (bld7 ⟨b, s, rd, true, false, sc⟩ W1)) ?_
  refine ⟨⟨gcell hS1.1 (Gr.alloc W1 _), hS1.2.alloc _⟩, ?_⟩
  try simp only [Act.put, List.getElem_toArray, List.getElem_cons_succ, List.getElem_cons_zero, List.setIfInBounds_toArray, List.set_cons_zero, List.set_cons_succ]
  refine wpAnyL_one (i := 8) (by kernel_rfl) rfl (fun W2 hW2 hS2 => ?_)
  have hg2 : Gr WA W2 := (((Gr.drew WA).trans hW1).trans (Gr.alloc W1 _)).trans hW2
  have hvb : Blk W2 W1.heap.size 67 (regP ⟨b, s, rd, true, false, sc⟩) := (Blk.new W1 67 (regP ⟨b, s, rd, true, false, sc⟩)).gr hW2
  have hrow2 := own_below HROW.out hg2
  have hob : ∀ q, (Value.slice (some ⟨g, 0, none⟩) n c).ownBlock = some q → base ≤ q ∧ q < WA.heap.size := fun q hq => World.ownsRow.lt HROW.out q hq
  have hsz1 : WA.heap.size ≤ W1.heap.size := ((Gr.drew WA).trans hW1).size
  have hcl := ins_any base n c W1.heap.size k (some ⟨g, 0, none⟩) t ⟨b, s, rd, true, false, sc⟩ W2 HN.out (by omega) h15 hrow2 hvb (fun q hq => by have := (hob q hq).2; omega) (Nat.le_trans HW0.out hg2.size)
  refine wpOp_callE (i := 8) rfl (by rfl) rfl Try.func39 (by kernel_rfl) (by kernel_rfl) #[.slice (some ⟨g, 0, none⟩) n c, .int .i64 (k : Nat), .slice (some ⟨W1.heap.size, 0, none⟩) 1 1] (by simp [Act.eval]) (hcl.mono ?_)
  rintro e W3 ⟨A3, c3, rfl, hrow3, hg3⟩
  have hnA : ∀ q, (Value.slice (some ⟨g, 0, none⟩) n c).ownBlock = some q → q ≠ a := fun q hq e => by
    obtain ⟨sp, hbq, _⟩ := own_is HROW.out hq
    exact blk_ne HPA.out.blk hbq (by decide) e.symm
  have hnB : ∀ q, (Value.slice (some ⟨g, 0, none⟩) n c).ownBlock = some q → q ≠ b1 := fun q hq e => by
    have := (hob q hq).2; have := HNB.out q hq
    omega
  have hblk3 : Blk W3 a 61 (natsV .u8 m ++ [.slice (some ⟨g, 0, none⟩) n c]) := by
    have := (HPA.out.blk.gr hg2).grown hg3 (fun e => hnA _ e.symm rfl)
    rwa [HN.out] at this
  have hS3 : W3.cell? ⟨a, 65536, none⟩ = some (.slice (some ⟨g, 0, none⟩) n c) ∧ Blk W3 b1 67 (regP ⟨b, s, rd, true, false, sc⟩) := ⟨by
    rw [hblk3.cell, List.getElem?_append_right (by rw [natsV_length, HKM.out.ln]; omega), natsV_length, HKM.out.ln]; rfl, hS2.2.grown hg3 (fun e => hnB _ e.symm rfl)⟩
  refine ⟨_, rfl, hS3, ?_⟩
  try simp only [Act.put, List.getElem_toArray, List.getElem_cons_succ, List.getElem_cons_zero, List.setIfInBounds_toArray, List.set_cons_zero, List.set_cons_succ]
  refine wpAnyL_take (oi := _) (v := _) (fun _ _ hS_ hb_ => ⟨gcell hS_.1 hb_, hS_.2.gr hb_⟩) (i := 9) rfl (by kernel_rfl) (fun _ _ _ h => h) (pureG (by rfl) (by intro w; go_simp; first | done | with_reducible rfl)) ?_
  try simp only [Act.put, List.getElem_toArray, List.getElem_cons_succ, List.getElem_cons_zero, List.setIfInBounds_toArray, List.set_cons_zero, List.set_cons_succ]
  refine wpAnyL_take (oi := _) (v := _) (fun _ _ hS_ hb_ => ⟨gcell hS_.1 hb_, hS_.2.gr hb_⟩) (i := 10) rfl (by kernel_rfl) (fun _ _ _ h => h) (pureG (by rfl) (by intro w; go_simp; first | done | with_reducible rfl)) ?_
  try simp only [Act.put, List.getElem_toArray, List.getElem_cons_succ, List.getElem_cons_zero, List.setIfInBounds_toArray, List.set_cons_zero, List.set_cons_succ]
  refine wpAnyL_oneD (i := 11) (by kernel_rfl) rfl rfl (by kernel_rfl) (by decide) (fun W4 hW4 hS4 => ?_)
  have hb5 := hblk3.gr hW4
  have hce := hS4.1
  have hfe := hb5.free 65536
  refine wpOp_skip (oi := _) (W2 := W4.setCell ⟨a, 65536, none⟩ (.slice A3 (n + 1) c3)) rfl (by rfl) (by unfold execOp; go_simp) ?_
  try simp only [Act.put, List.getElem_toArray, List.getElem_cons_succ, List.getElem_cons_zero, List.setIfInBounds_toArray, List.set_cons_zero, List.set_cons_succ]
  refine wpAnyL_done (by kernel_rfl) (fun WZ hWZ => ?_) _
  have hb6 : Blk (W4.setCell ⟨a, 65536, none⟩ (.slice A3 (n + 1) c3)) a 61 (natsV .u8 m ++ [.slice A3 (n + 1) c3]) := by
    have := hb5.set 65536 (.slice A3 (n + 1) c3)
    rwa [List.set_append_right _ _ (by rw [natsV_length, HKM.out.ln]; omega), natsV_length, HKM.out.ln] at this
  have hlen : (t.take k ++ (⟨b, s, rd, true, false, sc⟩ :: t.drop k)).length = n + 1 := by rw [List.length_append, List.length_cons, List.length_take, List.length_drop, HN.out]; omega
  have hrow6 : (W4.setCell ⟨a, 65536, none⟩ (.slice A3 (n + 1) c3)).ownsRow base 67 7 (.slice A3 (n + 1) c3) (n + 1) (cellsP (t.take k ++ (⟨b, s, rd, true, false, sc⟩ :: t.drop k))) :=
    own_grown (own_below hrow3 hW4) (grown_setCell W4 ⟨a, 65536, none⟩ _) (fun q hq e => by
      obtain ⟨sp, hbq, _⟩ := own_is (own_below hrow3 hW4) hq
      injection e with e
      exact blk_ne hb5 hbq (by decide) e)
  have hfin : PAt WZ base a m (t.take k ++ (⟨b, s, rd, true, false, sc⟩ :: t.drop k)) A3 c3 := ⟨by rw [hlen]; exact hb6.gr hWZ, by rw [hlen]; exact own_below hrow6 hWZ⟩
  have hfr : FrT base tyP w WZ := by
    have f1 : FrT base tyP w W2 := FrT.bel ((Gr.trans HG4.out HGA.out).trans hg2)
    have f2 : FrT base tyP W2 W3 := fr_own hrow2 (by decide) hg3
    have f3 : FrT base tyP W3 W4 := FrT.bel hW4
    have f4 : FrT base tyP W4 (W4.setCell ⟨a, 65536, none⟩ (.slice A3 (n + 1) c3)) := FrT.grown hb5 HBA.out (by decide) (grown_setCell W4 ⟨a, 65536, none⟩ _)
    exact (((f1.trans f2).trans f3).trans f4).trans (FrT.bel hWZ)
  have HFIN := Lib.hid hfin
  have HFR := Lib.hid hfr
  clear hfin hfr hrow6 hlen hb6 hWZ hce hfe hb5 hS4 hW4 hS3 hblk3 hnA hnB hrow3 hg3 hcl hsz1 hob hrow2 hvb hg2 hS2 hW2 hS1 hW1
  go_wp2_with fail
  go_ret
  exact ⟨rfl, ⟨_, _, HFIN.out⟩, HFR.out⟩
/-- Add, whatever it answers -/
theorem add_any (base a : Nat) (x : Reg) (m : List Nat) (t : List Reg) (A : Option Addr) (c : Nat) (w : World) (hp : PAt w base a m t A c) (km : MOk m) (kt : TOk t) (hba : base ≤ a) (hbw : base ≤ w.heap.size) (hx : RFit x) :
    Calls Try.prog 16 #[.pointer (some ⟨a, 0, none⟩), .agg (regD x).toArray] w (PDone base a (.int .i64 (addE t x)) m (addT t x) w) := by
  obtain ⟨b, s, rd, wrt, ex, sc⟩ := x
  obtain ⟨hb, hs⟩ := hx
  simp only at hb hs
  by_cases h16 : t.length = 16
  · have e1 : addE t ⟨b, s, rd, wrt, ex, sc⟩ = 164 := by unfold addE; rw [if_pos h16]
    rw [addT_no (by rw [e1]; decide), e1]
    exact add_many base a b s rd wrt ex sc m t A c w hp km kt h16
  have h15 : t.length ≤ 15 := by have := kt.len; omega
  by_cases hz : s = 0
  · have e1 : addE t ⟨b, s, rd, wrt, ex, sc⟩ = 161 := by unfold addE; rw [if_neg h16, if_pos (.inl hz)]
    rw [addT_no (by rw [e1]; decide), e1]
    exact add_zero base a b s rd wrt ex sc m t A c w hp km kt h16 hz
  by_cases hw : wiB b s = false
  · have e1 : addE t ⟨b, s, rd, wrt, ex, sc⟩ = 161 := by unfold addE; rw [if_neg h16, if_pos (.inr hw)]
    rw [addT_no (by rw [e1]; decide), e1]
    exact add_out base a b s rd wrt ex sc m t A c w hp km kt h16 hz hb hs hw
  have hw1 : wiB b s = true := by simpa using hw
  have hno : ¬ (s = 0 ∨ wiB b s = false) := fun h => h.elim hz hw
  by_cases hr : (wrt && ex) = true
  · have e1 : addE t ⟨b, s, rd, wrt, ex, sc⟩ = 163 := by unfold addE; rw [if_neg h16, if_neg hno, if_pos hr]
    rw [addT_no (by rw [e1]; decide), e1]
    obtain ⟨rfl, rfl⟩ : wrt = true ∧ ex = true := by simpa using hr
    exact add_rights base a b s rd sc m t A c w hp km kt h16 hz hb hs hw1
  have e0 : addE t ⟨b, s, rd, wrt, ex, sc⟩ = if hits t ⟨b, s, rd, wrt, ex, sc⟩ = true then 162 else 0 := by unfold addE; rw [if_neg h16, if_neg hno, if_neg hr]
  have eT : addE t ⟨b, s, rd, wrt, ex, sc⟩ = 0 → addT t ⟨b, s, rd, wrt, ex, sc⟩ = t.take (bh t b) ++ (⟨b, s, rd, wrt, ex, sc⟩ :: t.drop (bh t b)) := fun h => by unfold addT; rw [if_pos h]
  cases hx : t[bh t b]? with
  | none =>
    have hh : hits t ⟨b, s, rd, wrt, ex, sc⟩ = false := by unfold hits; simp only [hx]
    rw [hh] at e0
    have e1 : addE t ⟨b, s, rd, wrt, ex, sc⟩ = 0 := e0
    have hk : bh t b = t.length := by have := List.getElem?_eq_none_iff.1 hx; have := bh_le t b; omega
    rw [eT e1, e1]
    cases wrt
    · exact add_end_fe base a b s _ _ rd ex sc m t A c w hp km kt hba hbw rfl h15 hz hb hs hw1 rfl hk
    · cases ex
      · exact add_end_tf base a b s _ _ rd sc m t A c w hp km kt hba hbw rfl h15 hz hb hs hw1 rfl hk
      · exact absurd rfl hr
  | some y =>
    have hh : hits t ⟨b, s, rd, wrt, ex, sc⟩ = decide (y.b < b + s) := by unfold hits; simp only [hx]
    rw [hh] at e0
    by_cases hy : y.b < b + s
    · have e1 : addE t ⟨b, s, rd, wrt, ex, sc⟩ = 162 := by rw [e0, if_pos (decide_eq_true hy)]
      rw [addT_no (by rw [e1]; decide), e1]
      cases wrt
      · exact add_hit_fe base a b s _ _ rd ex sc m t A c w hp km kt hba hbw rfl h15 hz hb hs hw1 rfl y hx hy
      · cases ex
        · exact add_hit_tf base a b s _ _ rd sc m t A c w hp km kt hba hbw rfl h15 hz hb hs hw1 rfl y hx hy
        · exact absurd rfl hr
    · have e1 : addE t ⟨b, s, rd, wrt, ex, sc⟩ = 0 := by rw [e0, if_neg (by simpa using hy)]
      rw [eT e1, e1]
      cases wrt
      · exact add_miss_fe base a b s _ _ rd ex sc m t A c w hp km kt hba hbw rfl h15 hz hb hs hw1 rfl y hx hy
      · cases ex
        · exact add_miss_tf base a b s _ _ rd sc m t A c w hp km kt hba hbw rfl h15 hz hb hs hw1 rfl y hx hy
        · exact absurd rfl hr
end Go.Proofs.Ytelfhpmbnficfaa
