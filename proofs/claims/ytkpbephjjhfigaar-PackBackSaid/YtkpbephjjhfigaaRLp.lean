/- PackPolys' walk: it answers true for every polynomial, top and bits. Condition: the coefficients are 32-bit numbers. -/
import Derived.Test.YtkpbephjjhfigaaRAw
import Derived.Test.YtkpbephjjhfigaaRDd
import Derived.Test.YtkpbephjjhfigaaRSa
namespace Go.Proofs.YtkpbephjjhfigaaR
open Go.RowKit
set_option linter.unusedVariables false
set_option linter.unusedSimpArgs false
theorem own_bin {w : World} {B : Nat} {v : Value} {l : List Nat} (h : w.ownsRow B 5 1 v l.length (bytesV l)) (hl : ∀ x ∈ l, x < 256) : ∃ A c, v = .slice A l.length c ∧ ByteRow w A l.length l := by
  have hle : l.length ≤ maxLen := by
    rcases h.2 with ⟨_, h0⟩ | ⟨g, cap, cur, _, _, _, h1, h2, _⟩
    · omega
    · omega
  rcases h.2 with ⟨rfl, h0⟩ | ⟨g, cap, cur, rfl, _⟩
  · obtain rfl : l = [] := List.eq_nil_of_length_eq_zero h0
    exact ⟨none, 0, rfl, rfl, hle, hl, .inl rfl⟩
  · exact ⟨_, cap, rfl, rfl, hle, hl, .inr ⟨g, 0, rfl, (own_cells h).2⟩⟩
theorem upL_lt (l : List Int) (b : Int) : ∀ x ∈ upL l b, x < 256 := by
  unfold upL; split
  · exact layN_lt _ _
  · intro x hx; cases hx
theorem dnL_lt (l : List Int) (t b : Int) : ∀ x ∈ dnL l t b, x < 256 := by
  unfold dnL; split
  · exact layN_lt _ _
  · intro x hx; cases hx
set_option maxRecDepth 100000 in
set_option maxHeartbeats 4000000 in
theorem polys_walk (l : List Int) (hl : IsP l) (top bits : Int) (w : World) : Calls Try.prog 3 #[.agg (iv l).toArray, .int .i32 top, .int .i64 bits] w fun e w' => e = .returned (.bool true) ∧ Below w.heap.size w w' := by
  have HA := Lib.hid (fun w => awake_any w)
  have HU := Lib.hid (fun w => Up_any l hl bits w)
  have HD := Lib.hid (fun w => Down_any l hl top bits w)
  have GU := Lib.hid (fun w => dUp_any l hl bits w)
  have GD := Lib.hid (fun w => dDown_any l hl top bits w)
  have LU := Lib.hid (upL_lt l bits)
  have LD := Lib.hid (dnL_lt l top bits)
  have LL := Lib.hid hl.1
  have B1 := Lib.hid (Blk.new w 23 (iv l))
  have BEL := Lib.hid ((Below.refl w.heap.size w).alloc (Nat.le_refl _) (.cells (iv l).toArray 23))
  clear hl
  generalize upL l bits = U at *
  generalize dnL l top bits = D at *
  generalize upE l bits = eu at *
  generalize dnE l top bits = ed at *
  go_enter Try.func3, Try.ntmps3
  go_wp2_with fail
  refine (HA.out _).mono ?_
  rintro e w1 ⟨rfl, h1⟩
  have bel1 := BEL.out.trans (h1.mono BEL.out.size)
  have B2 := Lib.hid (B1.out.below' h1)
  clear h1 B1 BEL
  go_wp2_with (first | (refine wpList_load_row rfl 23 (.tmp 3) rfl w.heap.size rfl 23 (iv l).toArray (0, 0) _ B2.out Try.underlying23 rfl (j23 LL.out) ?_))
  refine (HU.out _).mono ?_
  rintro e w2 ⟨v, rfl, ho, h1⟩
  obtain ⟨a, a_, rfl, r_a⟩ := own_bin ho LU.out
  have bel2 := bel1.trans (h1.mono bel1.size)
  have B3 := Lib.hid (B2.out.below' h1)
  have Ra2 := Lib.hid r_a
  clear h1 ho r_a B2
  go_wp2_with (first | (refine wpList_load_row rfl 23 (.tmp 3) rfl w.heap.size rfl 23 (iv l).toArray (0, 0) _ B3.out Try.underlying23 rfl (j23 LL.out) ?_))
  refine (HD.out _).mono ?_
  rintro e w3 ⟨v, rfl, ho, h1⟩
  obtain ⟨b, b_, rfl, r_b⟩ := own_bin ho LD.out
  have bel3 := bel2.trans (h1.mono bel2.size)
  have B4 := Lib.hid (B3.out.below' h1)
  have Ra3 := Lib.hid (Ra2.out.below h1)
  have Rb3 := Lib.hid r_b
  clear h1 ho r_b B3 Ra2
  go_wp2_with (first | (refine wpList_load_row rfl 23 (.tmp 3) rfl w.heap.size rfl 23 (iv l).toArray (0, 0) _ B4.out Try.underlying23 rfl (j23 LL.out) ?_))
  refine (GU.out _).mono ?_
  rintro e w4 ⟨v, rfl, ho, h1⟩
  obtain ⟨x, x_, rfl, r_x⟩ := own_bin ho LU.out
  have bel4 := bel3.trans (h1.mono bel3.size)
  have B5 := Lib.hid (B4.out.below' h1)
  have Ra4 := Lib.hid (Ra3.out.below h1)
  have Rb4 := Lib.hid (Rb3.out.below h1)
  have Rx4 := Lib.hid r_x
  clear h1 ho r_x B4 Ra3 Rb3
  go_wp2_with (first | (refine wpList_load_row rfl 23 (.tmp 3) rfl w.heap.size rfl 23 (iv l).toArray (0, 0) _ B5.out Try.underlying23 rfl (j23 LL.out) ?_))
  refine (GD.out _).mono ?_
  rintro e w5 ⟨v, rfl, ho, h1⟩
  obtain ⟨y, y_, rfl, r_y⟩ := own_bin ho LD.out
  have bel5 := bel4.trans (h1.mono bel4.size)
  have B6 := Lib.hid (B5.out.below' h1)
  have Ra5 := Lib.hid (Ra4.out.below h1)
  have Rb5 := Lib.hid (Rb4.out.below h1)
  have Rx5 := Lib.hid (Rx4.out.below h1)
  have Ry5 := Lib.hid r_y
  clear h1 ho r_y B5 Ra4 Rb4 Rx4
  have HS1 := Lib.hid (fun c d => same_eq a x U.length c d U w5 Ra5.out Rx5.out)
  go_wp2_with fail
  refine (HS1.out _ _).mono ?_
  rintro e w6 ⟨rfl, h1⟩
  have bel6 := bel5.trans (h1.mono bel5.size)
  have HS2 := Lib.hid (fun c d => same_eq b y D.length c d D w6 (Rb5.out.below h1) (Ry5.out.below h1))
  go_wp2_with fail
  refine (HS2.out _ _).mono ?_
  rintro e w7 ⟨rfl, h2⟩
  have bel7 := bel6.trans (h2.mono bel6.size)
  go_wp2_with fail
  go_ret
  exact ⟨rfl, bel7⟩
end Go.Proofs.YtkpbephjjhfigaaR
