/- Copied: an item in new memory. No condition. -/
import Derived.Test.YtbabpmncdphnjaaGq
import Derived.Test.YtbabpmncdphnjaaCn
import Derived.Test.YtbabpmncdphnjaaRt
import Derived.Test.YtbabpmncdphnjaaRa
import Derived.Deep.CutRange
namespace Go.Proofs.Ytbabpmncdphnjaa
open Go.RowKit
set_option linter.unusedVariables false
set_option maxRecDepth 100000
set_option linter.unusedSimpArgs false

/-- what Copied answers -/
def CpIs (t : Nat) (b : List Nat) (k : Tr) (w : World) (e : Ending) (w' : World) : Prop :=
  ∃ v1 v2 L, e = .returned (.agg #[.int .u8 (t : Nat), v1, v2]) ∧ OwnV w' w.heap.size (.node t b k .nil) [.int .u8 (t : Nat), v1, v2] L ∧ L.Nodup ∧ Below w.heap.size w w'

theorem own_push2 {wr w2 w4 w5 : World} {base m H g n cap : Nat} {A : Tr} {v : Value} {xs : List Value} {L Lk : List Nat} {t : Nat} {b : List Nat} {k : Tr} {i0 v1 v2 : Value}
    (hv : wr.ownsRow base 25 3 v A.len xs) (hA : OwnV wr base A xs L) (hN : (ob v ++ L).Nodup) (hb2 : ∀ g, g < wr.heap.size → w2.heap[g]? = wr.heap[g]?) (hm : wr.heap.size ≤ m) (hbm : base ≤ m)
    (hk : OwnV w2 m (.node t b k .nil) [i0, v1, v2] Lk) (hkN : Lk.Nodup) (h4 : ∀ g, g < wr.heap.size ∨ (m ≤ g ∧ g < w2.heap.size) → w4.heap[g]? = w2.heap[g]?) (hs2 : wr.heap.size ≤ w2.heap.size) (hs4 : w2.heap.size ≤ w4.heap.size) (hH : w4.heap.size = H)
    (hg : w4.grownBy w5 v.ownBlock) (hat : v.ownBlock = some g ∨ g = H) :
    OwnV w5 base (A.app (.node t b k .nil)) (xs ++ [i0, v1, v2]) (L ++ Lk) ∧ (ob (.slice (some ⟨g, 0, none⟩) n cap) ++ (L ++ Lk)).Nodup := by
  have hL := hA.lt
  have hK := hk.lt
  have hvl := own_ob_lt hv
  have hN' := List.nodup_append.1 hN
  have k1 : ∀ x ∈ L, w5.heap[x]? = wr.heap[x]? := by
    intro x hx
    have hx1 := (hL x hx).2
    rw [hg.block x (by omega) (fun e => hN'.2.2 x (by rw [ob, ← e]; simp) x hx rfl), h4 x (.inl hx1), hb2 x hx1]
  have k2 : ∀ x ∈ Lk, w5.heap[x]? = w2.heap[x]? := by
    intro x hx
    have hx1 := hK x hx
    rw [hg.block x (by omega) (fun e => by have := (hvl x (by rw [ob, ← e]; simp)).2; omega), h4 x (.inr hx1)]
  refine ⟨(hA.keep k1).app ((hk.keep k2).mono hbm), ?_⟩
  have e : ob (.slice (some ⟨g, 0, none⟩) n cap) = [g] := rfl
  rw [e]
  have hLK : (L ++ Lk).Nodup := nodup_join m (fun x hx => by have := (hL x hx).2; omega) (fun x hx => (hK x hx).1) hN'.2.1 hkN
  show (g :: (L ++ Lk)).Nodup
  refine List.nodup_cons.2 ⟨fun hx => ?_, hLK⟩
  rcases hat with hat | rfl
  · have hgv := ob_some hat
    have hgl := (hvl g (by rw [hgv]; simp)).2
    rcases List.mem_append.1 hx with hx | hx
    · exact hN'.2.2 g (by rw [hgv]; simp) g hx rfl
    · have := (hK g hx).1; omega
  · rcases List.mem_append.1 hx with hx | hx
    · have := (hL _ hx).2; omega
    · have := (hK _ hx).2; omega
/-- a slice is stored into a cell -/
theorem stS {ops : Array Oper} {o : Oper} {a : Act} {g x : Nat} {t : TypeId} {p q : Operand} {A : Option Addr} {n c : Nat} (hw : Region.wanted o (yielded ops a.tmps) = true) (ho : o.op = .store 23 p q) (hp : a.eval p = .pointer (some ⟨g, x, none⟩)) (hq : a.eval q = .slice A n c) : StoresC Try.prog ops o g x t (.slice A n c) a :=
  StoresC.mk hw (fun w old hb hx => by
    have hc := hb.cell x
    have hf := hb.free x
    rw [List.getElem?_eq_getElem hx] at hc
    unfold execOp
    simp only [ho, hp, hq]
    go_simp)

set_option maxHeartbeats 8000000 in
theorem Copied_any : ∀ (N : Nat) (k : Tr), k.sz < N → ∀ (w : World) (t : Nat) (b : List Nat) (a : Option Addr) (c : Nat) (a' : Option Addr) (c' : Nat), ItIn w t a c a' c' b k → 1 + b.length + k.sz ≤ 65536 →
    Calls Try.prog 16 #[itV t a b.length c a' k.len c'] w (CpIs t b k w) := by
  intro N
  induction N with
  | zero => intro k h; omega
  | succ N ih =>
    intro k hsz w t b a c a' c' hin hbd
    obtain ⟨ht, hb, hk⟩ := hin
    have IH := Lib.hid ih
    have HS := Lib.hid hsz
    have HBD := Lib.hid hbd
    have hkm : k.len ≤ 65536 := by have := Tr.len_sz k; omega
    have h00 := ((Below.refl _ w).alloc (Nat.le_refl _) (.cells #[.int .u8 (t : Nat), .slice a b.length c, .slice a' k.len c'] 25)).alloc (by simp) (.cells #[.int .u8 0, .slice none 0 0, .slice none 0 0] 25)
    have hr00 : ((w.alloc (.cells #[.int .u8 (t : Nat), .slice a b.length c, .slice a' k.len c'] 25)).alloc (.cells #[.int .u8 0, .slice none 0 0, .slice none 0 0] 25)).rangeAt w.heap.size 0 [.int .u8 (t : Nat), .slice a b.length c, .slice a' k.len c'] :=
      rangeAt_below (rangeAt_new w (.int .u8 (t : Nat)) (.slice a b.length c) (.slice a' k.len c') 25) ((Below.refl _ _).alloc (Nat.le_refl _) _)
    have HRES := Lib.hid (Blk.new2 w (.cells #[.int .u8 (t : Nat), .slice a b.length c, .slice a' k.len c'] 25) 25 [.int .u8 0, .slice none 0 0, .slice none 0 0])
    have hs0 : ((w.alloc (.cells #[.int .u8 (t : Nat), .slice a b.length c, .slice a' k.len c'] 25)).alloc (.cells #[.int .u8 0, .slice none 0 0, .slice none 0 0] 25)).heap.size = w.heap.size + 2 := by simp
    have HBB := Lib.hid hb
    have HKK := Lib.hid hk
    have HBM := Lib.hid (show b.length ≤ 65536 by omega)
    clear hb hk ih hsz hbd
    generalize hbn : b.length = bn at *
    generalize hkn : k.len = kn at *
    have HBN := Lib.hid hbn
    have HKN := Lib.hid hkn
    clear hbn hkn
    go_enter Try.func16, Try.ntmps16
    go_wp2_with fail
    generalize (w.alloc (.cells #[.int .u8 (t : Nat), .slice a bn c, .slice a' kn c'] 25)).alloc (.cells #[.int .u8 0, .slice none 0 0, .slice none 0 0] 25) = W0 at *
    have HB := Lib.hid (fun (W : World) (hW : Below W0.heap.size W0 W) => (HBB.out.below h00).below hW)
    have k0 : W0.cell? ⟨w.heap.size, 0 + 0, none⟩ = some (.int .u8 (t : Nat)) := hr00 0 _ rfl
    have k1 : W0.cell? ⟨w.heap.size, 0 + 1, none⟩ = some (.slice a bn c) := hr00 1 _ rfl
    go_cut [3] from 5 to 11 (fun v3 wx => ∃ (g : Nat) (a1 : Option Addr) (c1 : Nat), v3 = .pointer (some ⟨g, 0, none⟩) ∧ W0.heap.size ≤ g ∧ Blk wx g 25 [.int .u8 (t : Nat), .slice a1 bn c1, .slice none 0 0] ∧ wx.ownsRow W0.heap.size 5 1 (.slice a1 bn c1) bn (bytesV b) ∧ Below W0.heap.size W0 wx)
    case first =>
      refine wp_region_L (fun w_ => Below W0.heap.size W0 w_) [] [0, 3, 6] (by kernel_rfl) (Below.refl _ _).drew ?_
      refine wpAnyL_pure (fun _ _ hS_ hb_ => gr_bel hS_ hb_) (i := 0) rfl (by kernel_rfl) (fun _ _ _ h => h) (pureG (by rfl) (by intro w_; go_simp; first | done | with_reducible rfl)) ?_
      try simp only [Act.put, List.getElem_toArray, List.getElem_cons_succ, List.getElem_cons_zero, List.setIfInBounds_toArray, List.set_cons_zero, List.set_cons_succ]
      refine wpAnyL_take (fun _ _ hS_ hb_ => gr_bel hS_ hb_) (i := 1) rfl (by kernel_rfl) (fun _ _ _ h => h) (worldG (by rfl) (by intro w_ hS_; have q := (hS_.cell (World.block_lt_of_cell? W0 _ k0)).trans k0; go_simp; first | done | with_reducible rfl)) ?_
      try simp only [Act.put, List.getElem_toArray, List.getElem_cons_succ, List.getElem_cons_zero, List.setIfInBounds_toArray, List.set_cons_zero, List.set_cons_succ]
      refine wpAnyL_pure (fun _ _ hS_ hb_ => gr_bel hS_ hb_) (i := 3) rfl (by kernel_rfl) (fun _ _ _ h => h) (pureG (by rfl) (by intro w_; go_simp; first | done | with_reducible rfl)) ?_
      try simp only [Act.put, List.getElem_toArray, List.getElem_cons_succ, List.getElem_cons_zero, List.setIfInBounds_toArray, List.set_cons_zero, List.set_cons_succ]
      refine wpAnyL_take (fun _ _ hS_ hb_ => gr_bel hS_ hb_) (i := 4) rfl (by kernel_rfl) (fun _ _ _ h => h) (worldG (by rfl) (by intro w_ hS_; have q := (hS_.cell (World.block_lt_of_cell? W0 _ k1)).trans k1; go_simp; first | done | with_reducible rfl)) ?_
      try simp only [Act.put, List.getElem_toArray, List.getElem_cons_succ, List.getElem_cons_zero, List.setIfInBounds_toArray, List.set_cons_zero, List.set_cons_succ]
      refine wpAnyL_two (i := 2) (j := 7) (by kernel_rfl) (by decide) (by decide) (fun W1 hg1 hS1 => ?_) (fun W5 hg5 hS5 => ?_)
      · skip
        refine wpOp_run (i := 2) (v := .slice (some ⟨W1.heap.size, 0, none⟩) 0 0) (W2 := W1.alloc (.cells #[] 5)) rfl (by rfl) (by go_simp; first | done | rfl) ?_
        refine ⟨hS1.alloc hS1.size _, ?_⟩
        try simp only [Act.put, List.getElem_toArray, List.getElem_cons_succ, List.getElem_cons_zero, List.setIfInBounds_toArray, List.set_cons_zero, List.set_cons_succ]
        have hz := zero_row W1
        have hz := ownsMono hz hS1.size
        refine wpAnyL_two (i := 5) (j := 7) (by kernel_rfl) (by decide) (by decide) (fun W2 hg2 hS2 => ?_) (fun W5 hg5 hS5 => ?_)
        · skip
          refine wpOp_append_bytes (i := 5) rfl (by rfl) rfl _ _ rfl W0.heap.size (.slice (some ⟨W1.heap.size, 0, none⟩) 0 0) 0 [] rfl (own_below hz hg2) a bn c b rfl (HB.out W2 hS2) (by have := HBM.out; omega) hS2.size fun v1 W3 ho3 hg3 => ?_
          refine ⟨hS2.grown hg3 hS2.size (fun x hx => (hz.lt x hx).1), ?_⟩
          obtain ⟨a1, c1, rfl⟩ := own_slice ho3
          rw [List.nil_append] at ho3
          try simp only [Act.put, List.getElem_toArray, List.getElem_cons_succ, List.getElem_cons_zero, List.setIfInBounds_toArray, List.set_cons_zero, List.set_cons_succ]
          refine wpAnyL_pure (fun _ _ hS_ hb_ => gr_bel hS_ hb_) (i := 6) rfl (by kernel_rfl) (fun _ _ _ h => h) (buildG (by rfl) _ _ rfl #[.int .u8 (t : Nat), .slice a1 (0 + bn) c1, .slice none 0 0] (L := [(0, .int .u8 (t : Nat)), (1, .slice a1 (0 + bn) c1)]) (by kernel_rfl) (by simp [Act.eval])) ?_
          try simp only [Act.put, List.getElem_toArray, List.getElem_cons_succ, List.getElem_cons_zero, List.setIfInBounds_toArray, List.set_cons_zero, List.set_cons_succ]
          refine wpAnyL_one (i := 7) (by kernel_rfl) (by decide) fun W5 hg5 hS5 => ?_
          refine wpOp_alloc (i := 7) rfl (by rfl) rfl [.int .u8 0, .slice none 0 0, .slice none 0 0] (by intro w_; go_simp; first | done | rfl) ?_
          refine ⟨hS5.alloc hS5.size _, ?_⟩
          try simp only [Act.put, List.getElem_toArray, List.getElem_cons_succ, List.getElem_cons_zero, List.setIfInBounds_toArray, List.set_cons_zero, List.set_cons_succ]
          have hblk := Blk.new W5 25 [.int .u8 0, .slice none 0 0, .slice none 0 0]
          refine wpAnyL_one (i := 8) (by kernel_rfl) (by decide) fun W6 hg6 hS6 => ?_
          refine (StoresG.mk (g := W5.heap.size) (t := 25) (cs := [.int .u8 (t : Nat), .slice a1 (0 + bn) c1, .slice none 0 0]) (by rfl) _ _ _ rfl rfl rfl info25 (by intro v hv; simp at hv; rcases hv with rfl | rfl | rfl <;> rfl)).wpOp (i := 8) rfl (Blk.gr (hblk) hg6) rfl ?_
          have hgB : W0.heap.size ≤ W5.heap.size := by have := hS1.size; have := hS5.size; first | omega | (simp only [World.size_alloc] at *; omega)
          refine ⟨below_setRow' hS6 hgB _, ?_⟩
          try simp only [Act.put, List.getElem_toArray, List.getElem_cons_succ, List.getElem_cons_zero, List.setIfInBounds_toArray, List.set_cons_zero, List.set_cons_succ]
          refine wpAnyL_done (by kernel_rfl) ?_ _
          intro W7 hg7
          have hB7 := Blk.gr ((Blk.gr (hblk) hg6).setRow [.int .u8 (t : Nat), .slice a1 (0 + bn) c1, .slice none 0 0]) hg7
          have hO7 := own_below (own_set (own_below ((own_below (own_below ho3 hg5) (Gr.alloc _ _))) hg6) (Blk.gr (hblk) hg6) (by decide) #[.int .u8 (t : Nat), .slice a1 (0 + bn) c1, .slice none 0 0]) hg7
          rw [Nat.zero_add] at hB7 hO7
          go_wp2_with fail
          go_meet
          exact ⟨_, a1, c1, rfl, hgB, hB7, hO7, (below_setRow' hS6 hgB _).trans (Below.mono hg7 (below_setRow' hS6 hgB _).size)⟩
        · skip
          refine wpOp_alloc (i := 7) rfl (by rfl) rfl [.int .u8 0, .slice none 0 0, .slice none 0 0] (by intro w_; go_simp; first | done | rfl) ?_
          refine ⟨hS5.alloc hS5.size _, ?_⟩
          try simp only [Act.put, List.getElem_toArray, List.getElem_cons_succ, List.getElem_cons_zero, List.setIfInBounds_toArray, List.set_cons_zero, List.set_cons_succ]
          have hblk := Blk.new W5 25 [.int .u8 0, .slice none 0 0, .slice none 0 0]
          have hz2 := own_below (own_below hz hg5) (Gr.alloc W5 (.cells #[.int .u8 0, .slice none 0 0, .slice none 0 0] 25))
          refine wpAnyL_one (i := 5) (by kernel_rfl) (by decide) fun W2 hg2 hS2 => ?_
          refine wpOp_append_bytes (i := 5) rfl (by rfl) rfl _ _ rfl W0.heap.size (.slice (some ⟨W1.heap.size, 0, none⟩) 0 0) 0 [] rfl (own_below hz2 hg2) a bn c b rfl (HB.out W2 hS2) (by have := HBM.out; omega) hS2.size fun v1 W3 ho3 hg3 => ?_
          refine ⟨hS2.grown hg3 hS2.size (fun x hx => (hz2.lt x hx).1), ?_⟩
          obtain ⟨a1, c1, rfl⟩ := own_slice ho3
          rw [List.nil_append] at ho3
          try simp only [Act.put, List.getElem_toArray, List.getElem_cons_succ, List.getElem_cons_zero, List.setIfInBounds_toArray, List.set_cons_zero, List.set_cons_succ]
          refine wpAnyL_pure (fun _ _ hS_ hb_ => gr_bel hS_ hb_) (i := 6) rfl (by kernel_rfl) (fun _ _ _ h => h) (buildG (by rfl) _ _ rfl #[.int .u8 (t : Nat), .slice a1 (0 + bn) c1, .slice none 0 0] (L := [(0, .int .u8 (t : Nat)), (1, .slice a1 (0 + bn) c1)]) (by kernel_rfl) (by simp [Act.eval])) ?_
          try simp only [Act.put, List.getElem_toArray, List.getElem_cons_succ, List.getElem_cons_zero, List.setIfInBounds_toArray, List.set_cons_zero, List.set_cons_succ]
          have hblk := hblk.gr hg2
          have hblk := hblk.of (hg3.block _ hblk.lt (fun e => own_other (own_below hz2 hg2) hblk (by decide) _ (by rw [ob, ← e]; simp) rfl))
          refine wpAnyL_one (i := 8) (by kernel_rfl) (by decide) fun W6 hg6 hS6 => ?_
          refine (StoresG.mk (g := W5.heap.size) (t := 25) (cs := [.int .u8 (t : Nat), .slice a1 (0 + bn) c1, .slice none 0 0]) (by rfl) _ _ _ rfl rfl rfl info25 (by intro v hv; simp at hv; rcases hv with rfl | rfl | rfl <;> rfl)).wpOp (i := 8) rfl (Blk.gr (hblk) hg6) rfl ?_
          have hgB : W0.heap.size ≤ W5.heap.size := by have := hS1.size; have := hS5.size; first | omega | (simp only [World.size_alloc] at *; omega)
          refine ⟨below_setRow' hS6 hgB _, ?_⟩
          try simp only [Act.put, List.getElem_toArray, List.getElem_cons_succ, List.getElem_cons_zero, List.setIfInBounds_toArray, List.set_cons_zero, List.set_cons_succ]
          refine wpAnyL_done (by kernel_rfl) ?_ _
          intro W7 hg7
          have hB7 := Blk.gr ((Blk.gr (hblk) hg6).setRow [.int .u8 (t : Nat), .slice a1 (0 + bn) c1, .slice none 0 0]) hg7
          have hO7 := own_below (own_set (own_below (ho3) hg6) (Blk.gr (hblk) hg6) (by decide) #[.int .u8 (t : Nat), .slice a1 (0 + bn) c1, .slice none 0 0]) hg7
          rw [Nat.zero_add] at hB7 hO7
          go_wp2_with fail
          go_meet
          exact ⟨_, a1, c1, rfl, hgB, hB7, hO7, (below_setRow' hS6 hgB _).trans (Below.mono hg7 (below_setRow' hS6 hgB _).size)⟩
      · skip
        refine wpOp_alloc (i := 7) rfl (by rfl) rfl [.int .u8 0, .slice none 0 0, .slice none 0 0] (by intro w_; go_simp; first | done | rfl) ?_
        refine ⟨hS5.alloc hS5.size _, ?_⟩
        try simp only [Act.put, List.getElem_toArray, List.getElem_cons_succ, List.getElem_cons_zero, List.setIfInBounds_toArray, List.set_cons_zero, List.set_cons_succ]
        have hblk := Blk.new W5 25 [.int .u8 0, .slice none 0 0, .slice none 0 0]
        refine wpAnyL_one (i := 2) (by kernel_rfl) (by decide) fun W1 hg1 hS1 => ?_
        refine wpOp_run (i := 2) (v := .slice (some ⟨W1.heap.size, 0, none⟩) 0 0) (W2 := W1.alloc (.cells #[] 5)) rfl (by rfl) (by go_simp; first | done | rfl) ?_
        refine ⟨hS1.alloc hS1.size _, ?_⟩
        try simp only [Act.put, List.getElem_toArray, List.getElem_cons_succ, List.getElem_cons_zero, List.setIfInBounds_toArray, List.set_cons_zero, List.set_cons_succ]
        have hz := zero_row W1
        have hz2 := ownsMono hz hS1.size
        have hblk := (hblk.gr hg1).gr (Gr.alloc W1 (.cells #[] 5))
        refine wpAnyL_one (i := 5) (by kernel_rfl) (by decide) fun W2 hg2 hS2 => ?_
        refine wpOp_append_bytes (i := 5) rfl (by rfl) rfl _ _ rfl W0.heap.size (.slice (some ⟨W1.heap.size, 0, none⟩) 0 0) 0 [] rfl (own_below hz2 hg2) a bn c b rfl (HB.out W2 hS2) (by have := HBM.out; omega) hS2.size fun v1 W3 ho3 hg3 => ?_
        refine ⟨hS2.grown hg3 hS2.size (fun x hx => (hz2.lt x hx).1), ?_⟩
        obtain ⟨a1, c1, rfl⟩ := own_slice ho3
        rw [List.nil_append] at ho3
        try simp only [Act.put, List.getElem_toArray, List.getElem_cons_succ, List.getElem_cons_zero, List.setIfInBounds_toArray, List.set_cons_zero, List.set_cons_succ]
        refine wpAnyL_pure (fun _ _ hS_ hb_ => gr_bel hS_ hb_) (i := 6) rfl (by kernel_rfl) (fun _ _ _ h => h) (buildG (by rfl) _ _ rfl #[.int .u8 (t : Nat), .slice a1 (0 + bn) c1, .slice none 0 0] (L := [(0, .int .u8 (t : Nat)), (1, .slice a1 (0 + bn) c1)]) (by kernel_rfl) (by simp [Act.eval])) ?_
        try simp only [Act.put, List.getElem_toArray, List.getElem_cons_succ, List.getElem_cons_zero, List.setIfInBounds_toArray, List.set_cons_zero, List.set_cons_succ]
        have hblk := hblk.gr hg2
        have hblk := hblk.of (hg3.block _ hblk.lt (fun e => own_other (own_below hz2 hg2) hblk (by decide) _ (by rw [ob, ← e]; simp) rfl))
        refine wpAnyL_one (i := 8) (by kernel_rfl) (by decide) fun W6 hg6 hS6 => ?_
        refine (StoresG.mk (g := W5.heap.size) (t := 25) (cs := [.int .u8 (t : Nat), .slice a1 (0 + bn) c1, .slice none 0 0]) (by rfl) _ _ _ rfl rfl rfl info25 (by intro v hv; simp at hv; rcases hv with rfl | rfl | rfl <;> rfl)).wpOp (i := 8) rfl (Blk.gr (hblk) hg6) rfl ?_
        have hgB : W0.heap.size ≤ W5.heap.size := by have := hS1.size; have := hS5.size; first | omega | (simp only [World.size_alloc] at *; omega)
        refine ⟨below_setRow' hS6 hgB _, ?_⟩
        try simp only [Act.put, List.getElem_toArray, List.getElem_cons_succ, List.getElem_cons_zero, List.setIfInBounds_toArray, List.set_cons_zero, List.set_cons_succ]
        refine wpAnyL_done (by kernel_rfl) ?_ _
        intro W7 hg7
        have hB7 := Blk.gr ((Blk.gr (hblk) hg6).setRow [.int .u8 (t : Nat), .slice a1 (0 + bn) c1, .slice none 0 0]) hg7
        have hO7 := own_below (own_set (own_below (ho3) hg6) (Blk.gr (hblk) hg6) (by decide) #[.int .u8 (t : Nat), .slice a1 (0 + bn) c1, .slice none 0 0]) hg7
        rw [Nat.zero_add] at hB7 hO7
        go_wp2_with fail
        go_meet
        exact ⟨_, a1, c1, rfl, hgB, hB7, hO7, (below_setRow' hS6 hgB _).trans (Below.mono hg7 (below_setRow' hS6 hgB _).size)⟩
    case rest =>
      obtain ⟨G, a1, c1, rfl, hG, hBG, hOG, hBW⟩ := hcut
      have HRS := Lib.hid (HRES.out)
      have HG := Lib.hid hG
      have HBW0 := Lib.hid hBW
      have k2 : W0.cell? ⟨w.heap.size, 0 + 2, none⟩ = some (.slice a' kn c') := hr00 2 _ rfl
      have hGlt := hBG.lt
      have HBG := Lib.hid hBG
      have HOG := Lib.hid hOG
      have H00 := Lib.hid h00
      have HK2 := Lib.hid k2
      have HS0 := Lib.hid hs0
      clear hG hBG hOG hBW k0 k1 k2 hr00 h00 hs0 HRES
      obtain ⟨i25, hi25, hz25, hs25, hy25⟩ := info_parts info25z
      generalize hB1 : wc.heap.size = B1 at *
      have HB1 := Lib.hid hB1
      clear hB1
      go_wp2_with fail
      go_loopw [4] (fun i wr => ∃ (A r : Tr) (j : Nat) (v2 : Value) (ys : List Value) (L : List Nat), k = A.app r ∧ A.len = j ∧ i = .int .i64 (j : Nat) ∧ Blk wr G 25 [.int .u8 (t : Nat), .slice a1 bn c1, v2] ∧ wr.ownsRow B1 25 3 v2 A.len ys ∧ OwnV wr B1 A ys L ∧ (ob v2 ++ L).Nodup ∧
        wr.ownsRow W0.heap.size 5 1 (.slice a1 bn c1) bn (bytesV b) ∧ (∀ g ∈ ob (.slice a1 bn c1), g < B1) ∧ B1 ≤ wr.heap.size ∧ Below W0.heap.size W0 wr) (fun i _ => kn - (intOf i).toNat)
      case atStart => exact ⟨.nil, k, 0, .slice none 0 0, [], [], rfl, rfl, rfl, HBG.out, World.ownsRow_nil _ _ _ _, ⟨rfl, rfl⟩, List.nodup_nil, HOG.out, (fun g hg => by rw [← HB1.out]; exact (own_ob_lt HOG.out g hg).2), by rw [HB1.out]; exact Nat.le_refl _, HBW0.out⟩
      case round =>
        obtain ⟨A, r, j, v2, ys, L, hA, hj, rfl, hbl, hown, hV, hN, ho1, hob, hsz1, hbel⟩ := hrel
        have hlen : j + r.len = kn := by rw [← HKN.out, hA, Tr.len_app, hj]
        have HA := Lib.hid hA
        have HJ := Lib.hid hj
        have HBL := Lib.hid hbl
        have HOW := Lib.hid hown
        have HV := Lib.hid hV
        have HN := Lib.hid hN
        have HO1 := Lib.hid ho1
        have HOB := Lib.hid hob
        have k2 : wr.cell? ⟨w.heap.size, 2, none⟩ = some (.slice a' kn c') := (hbel.cell (World.block_lt_of_cell? W0 _ HK2.out)).trans HK2.out
        clear hA hj hbl hown hV hN ho1 hob
        by_cases hjk : j < kn
        · have hji : (j : Int) < (kn : Int) := by omega
          obtain ⟨t3, b3, k3, r3, rfl⟩ := Tr.len_pos (T := r) (by omega)
          obtain ⟨b', o', rfl, hrow⟩ := HKK.out.2.resolve_left (by have := HKN.out; omega)
          have hsz3 := Tr.sz_app A (.node t3 b3 k3 r3)
          rw [← HA.out] at hsz3
          simp only [Tr.sz] at hsz3
          have hszk : k3.sz < N := by have h2 := HS.out; omega
          have hbd3 : 1 + b3.length + k3.sz ≤ 65536 := by have := HBD.out; omega
          rw [HA.out] at hrow
          have hrow3 := Row.below (H00.out.trans (hbel.mono H00.out.size)) (Row.append hrow).2
          rw [show o' + 3 * A.len = o' + j * 3 by rw [HJ.out]; omega] at hrow3
          obtain ⟨a3, cc3, a4, cc4, hra, hit, _⟩ := hrow3.head
          have HR := Lib.hid hra
          have HC := Lib.hid (fun (W : World) (hW : Gr wr W) => IH.out k3 hszk W t3 b3 a3 cc3 a4 cc4 (hit.below hW) hbd3)
          have c2 := HBL.out.cell 2
          simp at c2
          clear hrow hrow3 hra hit hsz3 hszk hbd3
          obtain ⟨av, cv, rfl⟩ := own_slice HOW.out
          go_wp2_with fail
          refine wp_region_L (fun w_ => Below wr.heap.size wr w_) [9, 11] [0, 2, 4, 5, 10, 11] (by kernel_rfl) (Below.refl _ _).drew ?_

          refine wpAnyL_pure (fun _ _ hS_ hb_ => gr_bel hS_ hb_) (i := 0) rfl (by kernel_rfl) (fun _ _ _ h => h) (pureG (by rfl) (by intro w_; go_simp; first | done | with_reducible rfl)) ?_
          try simp only [Act.put, List.getElem_toArray, List.getElem_cons_succ, List.getElem_cons_zero, List.setIfInBounds_toArray, List.set_cons_zero, List.set_cons_succ]
          refine wpAnyL_take (fun _ _ hS_ hb_ => gr_bel hS_ hb_) (i := 1) rfl (by kernel_rfl) (fun _ _ _ h => h) (worldG (by rfl) (by intro w_ hS_; have q := (hS_.cell (World.block_lt_of_cell? wr _ c2)).trans c2; go_simp; first | done | with_reducible rfl)) ?_
          try simp only [Act.put, List.getElem_toArray, List.getElem_cons_succ, List.getElem_cons_zero, List.setIfInBounds_toArray, List.set_cons_zero, List.set_cons_succ]
          refine wpAnyL_pure (fun _ _ hS_ hb_ => gr_bel hS_ hb_) (i := 2) rfl (by kernel_rfl) (fun _ _ _ h => h) (pureG (by rfl) (by intro w_; go_simp; first | done | with_reducible rfl)) ?_
          try simp only [Act.put, List.getElem_toArray, List.getElem_cons_succ, List.getElem_cons_zero, List.setIfInBounds_toArray, List.set_cons_zero, List.set_cons_succ]
          refine wpAnyL_take (fun _ _ hS_ hb_ => gr_bel hS_ hb_) (i := 3) rfl (by kernel_rfl) (fun _ _ _ h => h) (worldG (by rfl) (by intro w_ hS_; have q := (hS_.cell (World.block_lt_of_cell? wr _ k2)).trans k2; go_simp; first | done | with_reducible rfl)) ?_
          try simp only [Act.put, List.getElem_toArray, List.getElem_cons_succ, List.getElem_cons_zero, List.setIfInBounds_toArray, List.set_cons_zero, List.set_cons_succ]
          refine wpAnyL_pure (fun _ _ hS_ hb_ => gr_bel hS_ hb_) (i := 4) rfl (by kernel_rfl) (fun _ _ _ h => h) (pureG (by rfl) (by intro w_; go_simp; first | done | with_reducible rfl)) ?_
          try simp only [Act.put, List.getElem_toArray, List.getElem_cons_succ, List.getElem_cons_zero, List.setIfInBounds_toArray, List.set_cons_zero, List.set_cons_succ]
          refine wpAnyL_pure (fun _ _ hS_ hb_ => gr_bel hS_ hb_) (i := 5) rfl (by kernel_rfl) (fun _ _ _ h => h) (pureG (by rfl) (by intro w_; go_simp; first | done | with_reducible rfl)) ?_
          try simp only [Act.put, List.getElem_toArray, List.getElem_cons_succ, List.getElem_cons_zero, List.setIfInBounds_toArray, List.set_cons_zero, List.set_cons_succ]
          refine wpAnyL_take (fun _ _ hS_ hb_ => gr_bel hS_ hb_) (i := 6) rfl (by kernel_rfl) (fun _ _ _ h => h) (loadG (by rfl) _ _ rfl b' (o' + j * 3) rfl [.int .u8 (t3 : Nat), .slice a3 b3.length cc3, .slice a4 k3.len cc4] _ (fun w_ hS_ => rangeAt_below HR.out hS_) Try.underlying25 rfl info25) ?_
          try simp only [Act.put, List.getElem_toArray, List.getElem_cons_succ, List.getElem_cons_zero, List.setIfInBounds_toArray, List.set_cons_zero, List.set_cons_succ]
          refine wpAnyL_one (i := 7) (by kernel_rfl) (by decide) fun W7 hg7 hS7 => ?_
          refine wpOp_callE (i := 7) rfl (by rfl) rfl Try.func16 (by kernel_rfl) (by kernel_rfl) #[itV t3 a3 b3.length cc3 a4 k3.len cc4] (by simp [Act.eval]) ((HC.out W7 hS7).mono ?_)
          rintro e w8 ⟨x1, x2, Lk, rfl, hV8, hN8, hb8⟩
          refine ⟨_, rfl, Gr.trans hS7 hb8, ?_⟩
          obtain ⟨xa1, xc1, xa2, xc2, _, rfl, rfl, hit8⟩ := hV8.item
          try simp only [Act.put, List.getElem_toArray, List.getElem_cons_succ, List.getElem_cons_zero, List.setIfInBounds_toArray, List.set_cons_zero, List.set_cons_succ]
          refine wpAnyL_one (i := 8) (by kernel_rfl) (by decide) fun W9 hg9 hS9 => ?_
          refine wpOp_run (i := 8) (v := .slice (some ⟨W9.heap.size, 0, none⟩) 1 1) (W2 := W9.alloc (.cells #[.int .u8 (t3 : Nat), .slice xa1 b3.length xc1, .slice xa2 k3.len xc2] 25)) rfl (by rfl) (by go_simp; first | done | rfl) ?_
          refine ⟨hS9.alloc hS9.size _, ?_⟩
          try simp only [Act.put, List.getElem_toArray, List.getElem_cons_succ, List.getElem_cons_zero, List.setIfInBounds_toArray, List.set_cons_zero, List.set_cons_succ]
          refine wpAnyL_oneD (i := 9) (by kernel_rfl) (by decide) (by decide) (by kernel_rfl) (by decide) fun W10 hg10 hS10 => ?_
          have hnews := fun j u hu => ((hg10.cell (World.block_lt_of_cell? _ _ (one_three W9 (.int .u8 (t3 : Nat)) (.slice xa1 b3.length xc1) (.slice xa2 k3.len xc2) 25 j u hu))).trans (one_three W9 (.int .u8 (t3 : Nat)) (.slice xa1 b3.length xc1) (.slice xa2 k3.len xc2) 25 j u hu))
          refine wpOp_append_lies (i := 9) rfl (by rfl) _ _ 23 rfl B1 25 i25 _ 3 56 Try.underlying23 hi25 hz25 hs25 hy25 rfl (by decide) (.slice av A.len cv) A.len ys rfl (own_below HOW.out hS10) ⟨W9.heap.size, 0, none⟩ 1 1 [.int .u8 (t3 : Nat), .slice xa1 b3.length xc1, .slice xa2 k3.len xc2] rfl rfl hnews hV8.cell1 (by decide) (by have := HJ.out; simp only [maxLen]; omega) (by have := HJ.out; omega) (by have := hS10.size; omega) fun g5 cap5 W11 hown5 hg5 hat5 hlt5 => ?_
          try simp only [Act.put, List.getElem_toArray, List.getElem_cons_succ, List.getElem_cons_zero, List.setIfInBounds_toArray, List.set_cons_zero, List.set_cons_succ]
          refine wpAnyL_pure (fun _ _ hS_ hb_ => gr_bel hS_ hb_) (i := 10) rfl (by kernel_rfl) (fun _ _ _ h => h) (pureG (by rfl) (by intro w_; go_simp; first | done | with_reducible rfl)) ?_
          try simp only [Act.put, List.getElem_toArray, List.getElem_cons_succ, List.getElem_cons_zero, List.setIfInBounds_toArray, List.set_cons_zero, List.set_cons_succ]
          have hB11 := (HBL.out.gr hS10).of (hg5.block G (HBL.out.gr hS10).lt (fun e => by have := (own_ob_lt HOW.out G (by rw [ob, ← e]; simp)).1; omega))
          refine wpAnyL_cell (i := 11) (g := G) (x := 2) (t := 25) (u := .slice (some ⟨g5, 0, none⟩) (A.len + 1) cap5) (by kernel_rfl) (by kernel_rfl) rfl (by decide) (by kernel_rfl) (by decide) hB11 (by simp) (stS (by rfl) rfl rfl rfl) ?_
          intro W12 hg12 hb12
          try simp only [Act.put, List.getElem_toArray, List.getElem_cons_succ, List.getElem_cons_zero, List.setIfInBounds_toArray, List.set_cons_zero, List.set_cons_succ]
          have hV10 : OwnV W10 wr.heap.size (.node t3 b3 k3 .nil) [.int .u8 (t3 : Nat), .slice xa1 b3.length xc1, .slice xa2 k3.len xc2] Lk := ((hV8.below hg9).below ((Gr.alloc W9 _).trans hg10)).mono hS7.size
          have hP := own_push2 (n := A.len + 1) (cap := cap5) HOW.out HV.out HN.out (fun g hg => hS10.block g hg) (Nat.le_refl wr.heap.size) hsz1 hV10 hN8 (fun g _ => rfl) hS10.size (Nat.le_refl _) rfl hg5 hat5
          have hk12 : ∀ g, g ≠ G → g < W11.heap.size → W12.heap[g]? = W11.heap[g]? := fun g hg hgl => hg12.block g hgl (fun e => by injection e with e; exact hg e)
          have hPl := hP.1.lt
          have hP1 := hP.1.keep (w' := W12) (fun g hg => hk12 g (by have := (hPl g hg).1; omega) (hPl g hg).2)
          have hO12 := own_keep hown5 (w' := W12) (fun g hg => hk12 g (by have := (own_ob_lt hown5 g hg).1; omega) (own_ob_lt hown5 g hg).2)
          have hv10 := own_below HO1.out hS10
          have hv11 := own_keep hv10 (w' := W11) (fun g hg => hg5.block g (own_ob_lt hv10 g hg).2 (fun e => by have := (own_ob_lt HOW.out g (by rw [ob, ← e]; simp)).1; have := HOB.out g hg; omega))
          have hv12 := own_keep hv11 (w' := W12) (fun g hg => hk12 g (own_other hv11 hB11 (by decide) g hg) (own_ob_lt hv11 g hg).2)
          have hb11 : Below W0.heap.size W0 W11 := (hbel.trans (Below.mono hS10 hbel.size)).grown hg5 (hbel.trans (Below.mono hS10 hbel.size)).size (fun x hx => by have := (own_ob_lt HOW.out x (by rw [ob, hx]; simp)).1; have := HBW0.out.size; have := HB1.out; omega)
          have hb13 : Below W0.heap.size W0 W12 := hb11.grown hg12 hb11.size (fun x hx => by injection hx with hx; subst hx; exact HG.out)
          have hsz12 : B1 ≤ W12.heap.size := by have h1 := hg12.size; have h2 := hg5.size; have h3 := hS10.size; omega
          go_wp2_with fail
          go_roundw
          case rel =>
            refine ⟨A.app (.node t3 b3 k3 .nil), r3, j + 1, .slice (some ⟨g5, 0, none⟩) (A.len + 1) cap5, ys ++ [.int .u8 (t3 : Nat), .slice xa1 b3.length xc1, .slice xa2 k3.len xc2], L ++ Lk, by rw [HA.out, Tr.app_assoc]; rfl, by rw [Tr.len_app, HJ.out]; rfl, by go_num, ?_, ?_, hP1, hP.2, hv12, HOB.out, hsz12, hb13⟩
            · simpa using hb12
            · rw [Tr.len_app]; exact hO12
          case measure => simp [intOf]; omega
        · have hr0 := Tr.len_zero (T := r) (by omega)
          have hji : ¬ (j : Int) < (kn : Int) := by omega
          have hkA : k = A := by rw [HA.out, hr0, Tr.app_nil]
          subst hkA
          have HR2 := Lib.hid (HRS.out.below hbel HRS.out.lt)
          obtain ⟨av, cv, rfl⟩ := own_slice HOW.out
          clear hr0
          go_wp2_with (first | (refine wpList_load_row (P := Try.prog) rfl 25 (.tmp 3) rfl G rfl 25 _ _ _ HBL.out Try.underlying25 rfl info25 ?_) | (refine wpList_store_row (P := Try.prog) rfl 25 (.tmp 2) (.tmp 30) rfl (w.heap.size + 1) #[.int .u8 (t : Nat), .slice a1 bn c1, .slice av k.len cv] rfl rfl 25 _ HR2.out info25 rfl (all_item _ _ _ _ _ _ _) ?_))
          have D3 := HR2.out.setRow [.int .u8 (t : Nat), .slice a1 bn c1, .slice av k.len cv]
          refine bodyPost_ret (results_one Try.results16 _ _ (w.heap.size + 1) 25 _ (0, 0) _ rfl D3 Try.underlying25 rfl info25) rfl ?_
          have hs0 := HS0.out
          have hne : ∀ g, W0.heap.size ≤ g → (wr.setRow (w.heap.size + 1) #[.int .u8 (t : Nat), .slice a1 bn c1, .slice av k.len cv]).heap[g]? = wr.heap[g]? := fun g hg => setRow_other wr (w.heap.size + 1) g _ (by omega)
          have hB0 : W0.heap.size ≤ B1 := by have := HBW0.out.size; have := HB1.out; omega
          have o1 := ownsMono (own_keep HO1.out fun g hg => hne g (own_ob_lt HO1.out g hg).1) (show w.heap.size ≤ W0.heap.size by omega)
          have o2 := ownsMono (own_keep HOW.out fun g hg => hne g (by have := (own_ob_lt HOW.out g hg).1; omega)) (show w.heap.size ≤ B1 by omega)
          have o3l := HV.out.lt
          have o3 := (HV.out.keep (fun g hg => hne g (by have := (o3l g hg).1; omega))).mono (show w.heap.size ≤ B1 by omega)
          refine ⟨.slice a1 bn c1, .slice av k.len cv, _, rfl, OwnV.mk ht HBB.out.1.2.2.1 (by have := HBM.out; have := HBN.out; omega) (by have := HKN.out; omega) (by rw [HBN.out]; exact o1) o2 o3, ?_, below_setRow' (H00.out.trans (hbel.mono H00.out.size)) (by omega) _⟩
          refine nodup_join B1 HOB.out (fun x hx => ?_) ?_ HN.out
          · rcases List.mem_append.1 hx with hx | hx
            · exact (own_ob_lt HOW.out x hx).1
            · exact (o3l x hx).1
          · cases a1 <;> simp [ob, Value.ownBlock]
end Go.Proofs.Ytbabpmncdphnjaa
