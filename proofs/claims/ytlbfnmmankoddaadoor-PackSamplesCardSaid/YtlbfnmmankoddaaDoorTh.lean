/- Signs and places are drawn. Condition: the source's memory. -/
import Derived.Test.YtlbfnmmankoddaaDoorBo
import Derived.Test.YtlbfnmmankoddaaDoorIp
namespace Go.Proofs.YtlbfnmmankoddaaDoor
open Go.RowKit
set_option linter.unusedVariables false
set_option linter.unusedSimpArgs false
theorem Src.fresh {own own' : Nat → Prop} {k most g5 g9 g7 gS i : Nat} {L : List Nat} {w : World} (h : Src own k L most g5 g9 g7 gS w i) (ho : ∀ g, own' g → w.heap.size ≤ g) : Src own' k L most g5 g9 g7 gS w i := by
  obtain ⟨h1, h2, h3, h4, h5, m, a, gv, s, A, c, s1, s2, s3, s4, s5, s6⟩ := h
  have l5 := h2.lt
  have l7 := h3.lt
  have l9 := s5.lt
  have lS := s1.2.2.2.2.lt
  refine ⟨h1, h2, h3, h4, ⟨h5.1, h5.2.1, h5.2.2.1, h5.2.2.2.1, h5.2.2.2.2.1, h5.2.2.2.2.2.1, h5.2.2.2.2.2.2.1, h5.2.2.2.2.2.2.2.1, h5.2.2.2.2.2.2.2.2.1, fun x => by have := ho _ x; omega, fun x => by have := ho _ x; omega, fun x => by have := ho _ x; omega, fun x => by have := ho _ x; omega⟩, m, a, gv, s, A, c, s1, s2, s3, s4, s5, ?_⟩
  rcases s6 with e | ⟨G, o, e1, e2, e3, e4, e5, e6, e7, e8, e9⟩
  · exact .inl e
  · have lG := e4.lt
    exact .inr ⟨G, o, e1, e2, e3, e4, e5, e6, e7, e8, fun x => by have := ho _ x; omega⟩
theorem Src.below {own : Nat → Prop} {k most g5 g9 g7 gS i : Nat} {L : List Nat} {w w' : World} (h : Src own k L most g5 g9 g7 gS w i) (hb : Below w.heap.size w w') : Src own k L most g5 g9 g7 gS w' i := by
  obtain ⟨h1, h2, h3, h4, h5, m, a, gv, s, A, c, s1, s2, s3, s4, s5, s6⟩ := h
  refine ⟨h1, h2.below' hb, h3.below' hb, h4.below hb, h5, m, a, gv, s, A, c, ⟨s1.1, s1.2.1, s1.2.2.1, s1.2.2.2.1, s1.2.2.2.2.below' hb⟩, s2, s3, s4, s5.below' hb, ?_⟩
  rcases s6 with e | ⟨G, o, e1, e2, e3, e4, e5, e6, e7, e8, e9⟩
  · exact .inl e
  · exact .inr ⟨G, o, e1, e2, e3, e4.below' hb, e5, e6, e7, e8, e9⟩
theorem or_sign {V y i : Nat} (hi : i < 8) (hV : V < 2 ^ (8 * i)) (hy : y < 256) : bits .or .u64 (V : Int) (IntKind.u64.wrap ((y : Int) * 2 ^ (8 * i))) = ((V + y * 2 ^ (8 * i) : Nat) : Int) := by
  have h1 : 2 ^ (8 * i) ≤ 2 ^ 56 := Nat.pow_le_pow_right (by decide) (by omega)
  have h2 : (y + 1) * 2 ^ (8 * i) ≤ 256 * 2 ^ 56 := Nat.mul_le_mul (by omega) h1
  rw [Nat.add_mul, Nat.one_mul] at h2
  have e : IntKind.u64.wrap ((y : Int) * 2 ^ (8 * i)) = ((y * 2 ^ (8 * i) : Nat) : Int) := by
    rw [pw_int, ← Int.natCast_mul]
    exact IntWalk.u64_in _ (by omega)
  rw [e, u64_or_nat V (y * 2 ^ (8 * i)) (by omega) (by omega), wait_or y hV]
def SignIs (own : Nat → Prop) (k : Nat) (L : List Nat) (most g5 g9 g7 gS : Nat) (w : World) (e : Ending) (w' : World) : Prop :=
  e = .returned (.int .u64 (digs 8 (stY k L) 8 : Nat)) ∧ Src own k L most g5 g9 g7 gS w' 8 ∧ KeepS (SrcS g5 g9 gS) w w'
set_option maxHeartbeats 1600000 in
theorem signsOf_any (own : Nat → Prop) (OW : Nat) (hown : ∀ g, own g → g < OW) (k : Nat) (L : List Nat) (most g5 g9 g7 gS : Nat) (hm : 8 ≤ most) (w : World) (hOW : OW ≤ w.heap.size) (h : Src own k L most g5 g9 g7 gS w 0) :
    Calls Tryd.prog 33 #[nxF g5 g9 g7] w (SignIs own k L most g5 g9 g7 gS w) := by
  have HS := Lib.hid h
  have HO := Lib.hid hown
  clear h hown
  go_enter Tryd.func33, Tryd.ntmps33
  go_wp2_with fail
  go_loopw [3, 7] (fun v3 v7 wr => ∃ t : Nat, t ≤ 8 ∧ v7 = .int .i64 t ∧ v3 = .int .u64 (digs 8 (stY k L) t : Nat) ∧ Src own k L most g5 g9 g7 gS wr t ∧ KeepS (SrcS g5 g9 gS) w wr) (fun _ v7 _ => 8 - (intOf v7).toNat)
  case atStart => exact ⟨0, by omega, rfl, rfl, HS.out, KeepS.refl _ _⟩
  case round =>
    clear HS
    obtain ⟨t, ht, rfl, rfl, hs, hk⟩ := hrel
    by_cases h5 : t < 8
    · have i1 : (t : Int) < 8 := by omega
      have HN := Lib.hid (next_any own OW HO.out k L most g5 g9 g7 gS t wr hs (by omega) (by have := hk.2.2.2.1; omega))
      have hyl := stY_lt k L t
      have hV := digs_lt (s := 8) (x := stY k L) (n := t) (fun i _ => stY_lt k L i)
      have hor := or_sign h5 hV hyl
      have HD := Lib.hid (digs_succ 8 (stY k L) t)
      rw [← HD.out] at hor
      have HK := Lib.hid hk
      clear hs hk
      go_wp2_with fail
      refine HN.out.mono ?_
      rintro e w2 ⟨rfl, hs2, hk2⟩
      have HS2 := Lib.hid hs2
      have HK2 := Lib.hid (HK.out.trans hk2)
      clear hs2 hk2
      generalize stY k L t = y at *
      generalize digs 8 (stY k L) t = V at *
      go_wp2_with fail
      go_roundw
      case rel => exact ⟨t + 1, by omega, by go_num, rfl, HS2.out, HK2.out⟩
      case measure => simp [intOf]; omega
    · obtain rfl : t = 8 := by omega
      have HS := Lib.hid hs
      have HK := Lib.hid hk
      clear hs hk
      go_wp2_with fail
      go_ret
      exact ⟨rfl, HS.out, HK.out⟩
def UpIs (own : Nat → Prop) (k : Nat) (L : List Nat) (most g5 g9 g7 gS i q : Nat) (w : World) (e : Ending) (w' : World) : Prop :=
  KeepS (SrcS g5 g9 gS) w w' ∧
  ((∃ j, q ≤ j ∧ j < most ∧ (∀ x, q ≤ x → x < j → i < stY k L x) ∧ stY k L j ≤ i ∧ e = .returned (.tuple #[.int .i64 (stY k L j : Nat), .bool true]) ∧ Src own k L most g5 g9 g7 gS w' (j + 1)) ∨
   ((∀ x, q ≤ x → x < most → i < stY k L x) ∧ e = .returned (.tuple #[.int .i64 0, .bool false])))
set_option maxHeartbeats 1600000 in
theorem upTo_any (own : Nat → Prop) (OW : Nat) (hown : ∀ g, own g → g < OW) (k : Nat) (L : List Nat) (most g5 g9 g7 gS i q : Nat) (hi : i < 256) (hq : q ≤ most) (w : World) (hOW : OW ≤ w.heap.size) (h : Src own k L most g5 g9 g7 gS w q) :
    Calls Tryd.prog 34 #[.int .i64 (i : Nat), nxF g5 g9 g7] w (UpIs own k L most g5 g9 g7 gS i q w) := by
  have HS := Lib.hid h
  have HO := Lib.hid hown
  clear h hown
  go_enter Tryd.func34, Tryd.ntmps34
  go_wp2_with fail
  go_loopw [] (fun wr => ∃ t : Nat, q ≤ t ∧ t ≤ most ∧ Src own k L most g5 g9 g7 gS wr t ∧ KeepS (SrcS g5 g9 gS) w wr ∧ (∀ x, q ≤ x → x < t → i < stY k L x) ∧ wr.cell? ⟨g5, 0, none⟩ = some (.int .i64 ((most - t : Nat) : Int))) (fun wr => match wr.cell? ⟨g5, 0, none⟩ with | some (.int _ x) => x.toNat | _ => 0)
  case atStart => exact ⟨q, Nat.le_refl _, hq, HS.out, KeepS.refl _ _, fun x h1 h2 => by omega, HS.out.2.1.cell 0⟩
  case round =>
    clear HS
    obtain ⟨t, ht, ht2, hs, hk, hall, hcl⟩ := hrel
    by_cases h5 : t < most
    · have HN := Lib.hid (next_any own OW HO.out k L most g5 g9 g7 gS t wr hs h5 (by have := hk.2.2.2.1; omega))
      have hyl := stY_lt k L t
      have HK := Lib.hid hk
      have HA := Lib.hid hall
      have HC := Lib.hid hcl
      clear hs hk hall hcl
      go_wp2_with fail
      refine HN.out.mono ?_
      rintro e w2 ⟨rfl, hs2, hk2⟩
      have HS2 := Lib.hid hs2
      have HK2 := Lib.hid (HK.out.trans hk2)
      clear hs2 hk2
      obtain ⟨y, hy⟩ : ∃ y, stY k L t = y := ⟨_, rfl⟩
      rw [hy] at hyl ⊢
      have HY := Lib.hid hy
      clear hy
      by_cases hle : y ≤ i
      · go_wp2_with fail
        go_ret2
        exact ⟨HK2.out, .inl ⟨t, ht, h5, HA.out, by rw [HY.out]; exact hle, by rw [HY.out]; rfl, HS2.out⟩⟩
      · go_wp2_with fail
        go_roundw
        case rel => exact ⟨t + 1, by omega, by omega, HS2.out, HK2.out, fun x h1 h2 => by
          by_cases e : x = t
          · subst e; rw [HY.out]; omega
          · exact HA.out x h1 (by omega), HS2.out.2.1.cell 0⟩
        case measure =>
          have e1 := HS2.out.2.1.cell 0
          have e2 := HC.out
          simp only [List.getElem?_cons_zero] at e1
          rw [e1, e2]
          simp
          omega
    · obtain rfl : t = most := by omega
      have HN := Lib.hid (next_end own k L t g5 g9 g7 gS wr hs)
      have HK := Lib.hid hk
      have HA := Lib.hid hall
      clear hs hk hall hcl
      go_wp2_with fail
      refine HN.out.mono ?_
      rintro e w2 ⟨rfl, rfl⟩
      go_wp2_with fail
      go_ret2
      exact ⟨HK.out, .inr ⟨HA.out, rfl⟩⟩
end Go.Proofs.YtlbfnmmankoddaaDoor
