/- The document's All. No condition. -/
import Derived.Test.YtidnlaibfkjgpaaDoorKRd
namespace Go.Proofs.YtidnlaibfkjgpaaDoor
open Go.RowKit
set_option linter.unusedVariables false
/-- so many bytes, new -/
def NewIs (n : Nat) (l : List Nat) (w : World) (e : Ending) (w' : World) : Prop := ∃ v, e = .returned v ∧ w'.ownsRow w.heap.size 5 1 v n (bytesV l) ∧ Below w.heap.size w w'
theorem own_mono {w : World} {B B' e size n : Nat} {v : Value} {xs : List Value} (h : w.ownsRow B' e size v n xs) (hb : B ≤ B') : w.ownsRow B e size v n xs := by
  refine ⟨h.1, ?_⟩
  rcases h.2 with h2 | ⟨g, cap, cur, rfl, hbg, hg, rest⟩
  · exact .inl h2
  · exact .inr ⟨g, cap, cur, rfl, Nat.le_trans hb hbg, hg, rest⟩
set_option maxHeartbeats 1600000 in
theorem all_ref (k n : Nat) (A : Option Addr) (m c : Nat) (l : List Nat) (w : World) (hk : IsKind k) (hb : BIn w A m c l) (hm : m ≤ 140737488351232) (hn : n ≤ 65536) :
    Calls Tryd.prog 17 #[.int .i64 (k : Nat), .slice A m c, .int .i64 (n : Nat)] w (NewIs n (allK k l n) w) := by
  have hbe := (Below.refl w.heap.size w).alloc (Nat.le_refl _) (.cells (rsV (.int .i64 (k : Nat)) (.slice A m c) (.bool false) (.int .i64 0) (zeros 25) (.int .i64 0)).toArray 72)
  have HR := Lib.hid (read_ref w.heap.size k n A m c l _ hk (hb.below hbe) hm hn (Blk.new w 72 _))
  have HBE := Lib.hid hbe
  clear hbe hb
  generalize allK k l n = L at *
  go_enter Tryd.func17, Tryd.ntmps17
  go_wp2_with fail
  refine HR.out.mono ?_
  rintro e w3 ⟨v, rfl, ho, hg⟩
  have hb3 := HBE.out.grown hg HBE.out.size (fun j hj => by injection hj with hj; omega)
  have HO := Lib.hid (own_mono ho HBE.out.size)
  go_wp2_with fail
  go_ret
  exact ⟨v, rfl, HO.out, hb3⟩
end Go.Proofs.YtidnlaibfkjgpaaDoor
