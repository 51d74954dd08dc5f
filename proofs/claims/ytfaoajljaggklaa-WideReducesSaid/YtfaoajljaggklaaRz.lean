/- The project's rest of a number of any length, the modulus being 0. -/
import Derived.Test.YtfaoajljaggklaaRp
namespace Go.Proofs.Ytfaoajljaggklaa
open Go.RowKit
set_option linter.unusedVariables false
set_option linter.unusedSimpArgs false
set_option maxRecDepth 100000 in
set_option maxHeartbeats 800000 in
theorem Reduce_zero (A : Option Addr) (n c : Nat) (w : World) :
    Calls Try.prog 16 #[.slice A n c, .agg (natsV .u64 (zeros 4)).toArray] w fun e w' => e = .returned (.tuple #[.agg (natsV .u64 (zeros 4)).toArray, .int .i64 42]) ∧ Below w.heap.size w w' := by
  have Q := Lib.hid (fun w => eqZ 0 (by decide) w)
  rw [num_zero, decide_eq_true rfl] at Q
  obtain ⟨lz, hlz⟩ : ∃ l, l = zeros 4 := ⟨_, rfl⟩
  have LZ := Lib.hid (show lz.length = 4 by rw [hlz]; rfl)
  have B1 := Lib.hid ((Blk.new w 24 (natsV .u64 (zeros 4))).alloc (.cells (natsV .u64 (zeros 4)).toArray 24))
  have B2 := Lib.hid (Blk.new2 w (.cells (natsV .u64 (zeros 4)).toArray 24) 24 (natsV .u64 (zeros 4)))
  have BEL := Lib.hid (((Below.refl w.heap.size w).alloc (Nat.le_refl _) (.cells (natsV .u64 (zeros 4)).toArray 24)).alloc (by simp) (.cells (natsV .u64 (zeros 4)).toArray 24))
  have B1a := Lib.hid ((Blk.new w 24 (natsV .u64 (zeros 4))).alloc (.cells (natsV .u64 (zeros 4)).toArray 24))
  have B2a := Lib.hid (Blk.new2 w (.cells (natsV .u64 (zeros 4)).toArray 24) 24 (natsV .u64 (zeros 4)))
  have q := Q.out
  go_enter Try.func16, Try.ntmps16
  go_wp2_with (refine ld24 rfl (.tmp 3) rfl w.heap.size rfl (zeros 4) B1a.out rfl ?_)
  refine bodyPost_ret (v := .tuple #[.agg (natsV .u64 (zeros 4)).toArray, .int .i64 42]) ?_ rfl ⟨rfl, ?_⟩
  exact ret24x Try.results16 _ _ (w.heap.size + 1) (zeros 4) _ rfl rfl B2a.out rfl
  exact BEL.out
