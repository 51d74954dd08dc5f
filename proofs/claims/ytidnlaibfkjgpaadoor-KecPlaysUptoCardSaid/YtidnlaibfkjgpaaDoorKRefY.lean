/- The document's one byte of a state. No condition. -/
import Derived.Test.YtidnlaibfkjgpaaDoorKRefS
namespace Go.Proofs.YtidnlaibfkjgpaaDoor
open Go.RowKit
set_option linter.unusedVariables false
set_option maxHeartbeats 800000 in
theorem byteOf_any (s : List Nat) (i : Nat) (hs : Good s) (hi : i < 200) (w : World) :
    Calls Tryd.prog 46 #[.agg (natsV .u64 s).toArray, .int .i64 (i : Nat)] w fun e w' => e = .returned (.int .u8 (byteN s i : Nat)) ∧ Below w.heap.size w w' := by
  have hcg := natsV_get .u64 s (i / 8) (by rw [hs.1]; omega)
  have hvl := hs.at (i / 8)
  have HBY := Lib.hid (show byteN s i = s.getD (i / 8) 0 / 2 ^ (8 * (i % 8)) % 256 from rfl)
  have BN := Lib.hid (Blk.new w 23 (natsV .u64 s))
  have hc := BN.out.nat (i / 8) (by rw [hs.1]; omega)
  have m1 : (i : Int).tdiv 8 = ((i / 8 : Nat) : Int) := by rw [Int.tdiv_eq_ediv_of_nonneg (by omega)]; omega
  have m1' : (i : Int) / 8 = ((i / 8 : Nat) : Int) := by omega
  have m2 : (i : Int).tmod 8 = ((i % 8 : Nat) : Int) := by rw [Int.tmod_eq_emod_of_nonneg (by omega)]; omega
  have m2' : (i : Int) % 8 = ((i % 8 : Nat) : Int) := by omega
  have e1 : IntKind.i64.wrap (8 * ((i % 8 : Nat) : Int)) = ((8 * (i % 8) : Nat) : Int) := by rw [IntWalk.i64_in _ (by omega)]; omega
  have hE : 8 * (i % 8) ≤ 56 := by omega
  have e2 : min (8 * (i % 8)) 64 = 8 * (i % 8) := by omega
  have d1 : ((s.getD (i / 8) 0 : Nat) : Int) / 2 ^ (8 * (i % 8)) = ((s.getD (i / 8) 0 / 2 ^ (8 * (i % 8)) : Nat) : Int) := by rw [cast_pow, ← Int.natCast_ediv]
  have i1 : ((i / 8 : Nat) : Int) < 25 := by omega
  have u1 : ∀ z : Nat, IntKind.u8.wrap (z : Int) = ((z % 256 : Nat) : Int) := fun z => by rw [IntKind.wrap_u8]; omega
  clear hs
  generalize s.getD (i / 8) 0 = v at *
  generalize v / 2 ^ (8 * (i % 8)) = vq at *
  have hE8 : 8 * ((i % 8 : Nat) : Int) = ((8 * (i % 8) : Nat) : Int) := by omega
  generalize 8 * (i % 8) = E at *
  have hr8 : i % 8 < 8 := by omega
  generalize i % 8 = r8 at *
  generalize i / 8 = q8 at *
  have HBE := Lib.hid ((Below.refl w.heap.size w).alloc (Nat.le_refl _) (.cells (natsV .u64 s).toArray 23))
  go_enter Tryd.func46, Tryd.ntmps46
  go_wp2_with fail
  go_ret
  refine ⟨?_, HBE.out⟩
  have hEr : E = r8 * 8 := by omega
  subst hEr
  rw [HBY.out, d1]
  rfl
end Go.Proofs.YtidnlaibfkjgpaaDoor
