/- Two points as a slice. No condition. -/
import Derived.Test.YtfffmoolkgheaaaG0
import Derived.Great.Walk
namespace Go.Proofs.Ytfffmoolkgheaaa
open Go.RowKit
set_option linter.unusedVariables false
theorem info131 : (Try.prog.info? 43).map (·.size) = some 9 := info43
theorem built2p {a b c d : List Nat} {i j : Bool} (ha : a.length = 4) (hb : b.length = 4) (hc : c.length = 4) (hd : d.length = 4) : Try.prog.builtSlice 43 2 [(0, .agg (pv a b i).toArray), (1, .agg (pv c d j).toArray)] = some (pv a b i ++ pv c d j).toArray := by
  obtain ⟨_, _, _, _, rfl⟩ := four_ol ha; obtain ⟨_, _, _, _, rfl⟩ := four_ol hb
  obtain ⟨_, _, _, _, rfl⟩ := four_ol hc; obtain ⟨_, _, _, _, rfl⟩ := four_ol hd
  kernel_rfl
section
variable {w : World} {ops : Array Oper} {rest : List Oper} {o : Oper} {a : Act} {Q : Exit → Act → World → Prop}
theorem bs2p (hgd : o.guard = none) (x y : Operand) (ho : o.op = .buildSlice 131 2 #[(0, x), (1, y)]) {c d e f : List Nat} {i j : Bool} (hx : a.eval x = .agg (pv c d i).toArray) (hy : a.eval y = .agg (pv e f j).toArray) (hc : c.length = 4) (hd : d.length = 4) (he : e.length = 4) (hf : f.length = 4)
    (h : wpList Try.prog ops Q rest (a.put o.dst (.slice (some ⟨w.heap.size, 0, none⟩) 2 2)) (w.alloc (.cells (pv c d i ++ pv e f j).toArray 43))) : wpList Try.prog ops Q (o :: rest) a w :=
  Great.wpList_buildSliceTo hgd 131 43 2 _ ho _ rfl _ rfl Try.underlying131 _ (by simp only [List.map_toArray, List.map_cons, List.map_nil, hx, hy]; exact built2p hc hd he hf) h
end
theorem two_r {w : World} {g k : Nat} {t : TypeId} {x y : List Value} (h : Blk w g t (x ++ y)) (hk : x.length = k) : w.rangeAt g 0 x ∧ w.rangeAt g k y :=
  ⟨blk_part (a := []) (b := x) (c := y) h rfl, blk_part (a := x) (b := y) (c := []) (by rw [List.append_nil]; exact h) hk⟩
theorem Blk.newAt {W : World} {g : Nat} (t : TypeId) (cs : List Value) (h : W.heap.size = g) : Blk (W.alloc (.cells cs.toArray t)) g t cs := h ▸ Blk.new W t cs
section
variable {P : Program} {ops : Array Oper} {Q : Exit → Act → World → Prop} {md : Region.Mode} {S : World → Prop}
/-- the first k have come up -/
def lstK (n k : Nat) : Array Bool := (List.range k).foldl (fun l i => l.setIfInBounds i true) (Array.replicate n false)
theorem lstK_succ (n k : Nat) : lstK n (k + 1) = (lstK n k).setIfInBounds k true := by unfold lstK; rw [List.range_succ, List.foldl_append]; rfl
/-- the text's order is one of those that may be picked -/
def orderOk (md : Region.Mode) (ops : Array Oper) : Bool := (List.range ops.size).all fun k => (Region.ready md ops (lstK ops.size k)).contains k
theorem wpOps_of_any (n : Nat) : ∀ (m k : Nat) (a : Act) (w : World), (∀ j, k ≤ j → j < k + m → j ∈ Region.ready md ops (lstK n j)) → wpAny P md ops Q m (lstK n k) a w → wpOps P ops Q (List.range' k m) a w
  | 0, k, a, w, _, h => h.2
  | m + 1, k, a, w, hr, h => by
    rw [List.range'_succ, wpOps_cons]
    refine wpOp_mono (fun a' w' h' => wpOps_of_any n m (k + 1) a' w' (fun j h1 h2 => hr j (by omega) (by omega)) (by rw [lstK_succ]; exact h')) (h.2 k (hr k (Nat.le_refl _) (by omega)))
/-- a region in the text's order, told as one that draws -/
theorem wp_region_P {id : Nat} {a : Act} {w : World} (S : World → Prop) (L : Nat) (hm : orderOk .any ops = true) (hS : S w)
    (h : wpAnyG P .any ops Q S L ops.size (Array.replicate ops.size false) a w) : (Code.region id ops false).wp P Q a w := by
  refine wp_region ?_
  rw [List.range_eq_range']
  refine wpOps_of_any (md := .any) ops.size ops.size 0 a w (fun j _ hj => ?_) (wpAny_of_G _ _ _ _ (.inr hS) h)
  have := List.all_eq_true.1 hm j (List.mem_range.2 (by omega))
  simpa using this
end
end Go.Proofs.Ytfffmoolkgheaaa
