/- The document's flash in memory; its Read, Cut, Power. No condition. -/
import Derived.Test.YtlgpaglkhgomiaaFi
import Derived.Laws.OwnMore
namespace Go.Proofs.Ytlgpaglkhgomiaa
open Go.RowKit
set_option linter.unusedVariables false
set_option maxRecDepth 100000
set_option linter.unusedSimpArgs false
theorem own_low {w : World} {B B' e size n : Nat} {v : Value} {xs : List Value} (h : w.ownsRow B e size v n xs) (hB : B' ≤ B) : w.ownsRow B' e size v n xs := by
  obtain ⟨h1, h2⟩ := h
  rcases h2 with h2 | ⟨G, cap, cur, e, hb, rest⟩
  · exact ⟨h1, .inl h2⟩
  · exact ⟨h1, .inr ⟨G, cap, cur, e, Nat.le_trans hB hb, rest⟩⟩
theorem own_blk {w : World} {base e size n g : Nat} {v : Value} {xs : List Value} (h : w.ownsRow base e size v n xs) (hv : v.ownBlock = some g) : ∃ cs, Blk w g e cs ∧ n * size ≤ cs.length ∧ cs.take (n * size) = xs := by
  rcases h.2 with ⟨rfl, _⟩ | ⟨g', cap, cur, rfl, hb, hg, h1, h2, h3, h4⟩
  · cases hv
  · have : g' = g := Option.some.inj hv
    subst this
    refine ⟨cur.toList, by unfold Blk; simpa using hg, ?_, h4⟩
    rw [Array.length_toList, h3]
    exact Nat.mul_le_mul_right _ h1
/-- a list of blocks as cells -/
def rowC (bs : List BlkR) : List Value := bs.flatMap BlkR.cs
theorem rowC_length : ∀ bs : List BlkR, (rowC bs).length = bs.length * 2
  | [] => rfl
  | x :: r => by
    have := rowC_length r
    unfold rowC at *
    rw [List.flatMap_cons, List.length_append, this, List.length_cons]
    simp [BlkR.cs]
    omega
theorem rowC_append (a b : List BlkR) : rowC (a ++ b) = rowC a ++ rowC b := by simp [rowC]
theorem rowC_get : ∀ (bs : List BlkR) (i : Nat) (x : BlkR) (j : Nat) (v : Value), bs[i]? = some x → x.cs[j]? = some v → (rowC bs)[i * 2 + j]? = some v
  | [], i, x, j, v, h, _ => by simp at h
  | y :: r, 0, x, j, v, h, hv => by
    simp at h
    subst h
    unfold rowC
    rw [List.flatMap_cons, Nat.zero_mul, Nat.zero_add]
    have hj : j < y.cs.length := (List.getElem?_eq_some_iff.1 hv).1
    rw [List.getElem?_append_left hj]
    exact hv
  | y :: r, i + 1, x, j, v, h, hv => by
    have ih := rowC_get r i x j v (by simpa using h) hv
    unfold rowC at *
    rw [List.flatMap_cons, List.getElem?_append_right (by simp [BlkR.cs]; omega)]
    rw [show (i + 1) * 2 + j - y.cs.length = i * 2 + j by simp [BlkR.cs]; omega]
    exact ih
theorem rowC_one : ∀ (bs : List BlkR), ∀ v ∈ rowC bs, v.oneCell' = true := by
  intro bs v hv
  obtain ⟨x, _, hx⟩ := List.mem_flatMap.1 hv
  unfold BlkR.cs at hx
  simp at hx
  rcases hx with rfl | rfl <;> rfl
/-- one block's data: a list of the call's own -/
def DOwn (w : World) (base : Nat) (x : BlkR) : Prop := w.ownsRow base 5 1 (.slice x.a x.n x.c) x.n (bytesV x.l) ∧ (∀ y ∈ x.l, y < 256) ∧ x.n ≤ 140737488355328
theorem DOwn.bin {w : World} {base : Nat} {x : BlkR} (h : DOwn w base x) : BIn w x.a x.n x.c x.l := by
  obtain ⟨a, c, e, hb, _⟩ := own_in h.1 h.2.1 h.2.2
  injection e with e1 e2 e3
  subst e1 e3
  exact hb
theorem DOwn.fr {w w' : World} {base : Nat} {x : BlkR} {F : Nat → Prop} (h : DOwn w base x) (hf : Fr w w' F) (hF : ∀ j, (Value.slice x.a x.n x.c).ownBlock = some j → ¬ F j) : DOwn w' base x := ⟨own_fr h.1 hf hF, h.2⟩
theorem DOwn.below {w w' : World} {base : Nat} {x : BlkR} (h : DOwn w base x) (hb : Below w.heap.size w w') : DOwn w' base x := ⟨own_below h.1 hb, h.2⟩
/-- a list of blocks of the call's own -/
def LOwn (w : World) (base : Nat) (v : Value) (bs : List BlkR) : Prop := w.ownsRow base 62 2 v bs.length (rowC bs) ∧ ∀ x ∈ bs, DOwn w base x ∧ I64 x.N
theorem LOwn.below {w w' : World} {base : Nat} {v : Value} {bs : List BlkR} (h : LOwn w base v bs) (hb : Below w.heap.size w w') : LOwn w' base v bs :=
  ⟨own_below h.1 hb, fun x hx => ⟨(h.2 x hx).1.below hb, (h.2 x hx).2⟩⟩
theorem LOwn.fr {w w' : World} {base : Nat} {v : Value} {bs : List BlkR} {F : Nat → Prop} (h : LOwn w base v bs) (hf : Fr w w' F) (h1 : ∀ j, v.ownBlock = some j → ¬ F j) (h2 : ∀ x ∈ bs, ∀ j, (Value.slice x.a x.n x.c).ownBlock = some j → ¬ F j) : LOwn w' base v bs :=
  ⟨own_fr h.1 hf h1, fun x hx => ⟨(h.2 x hx).1.fr hf (h2 x hx), (h.2 x hx).2⟩⟩
/-- its form, and as a list that may be read -/
theorem LOwn.lin {w : World} {base : Nat} {v : Value} {bs : List BlkR} (h : LOwn w base v bs) : ∃ a c, v = .slice a bs.length c ∧ LIn w a bs.length bs ∧ bs.length ≤ c ∧ c ≤ maxLen := by
  rcases h.1.2 with ⟨rfl, h0⟩ | ⟨g, cap, cur, rfl, hbg, hg, h1, h2, h3, h4⟩
  · have : bs = [] := List.eq_nil_of_length_eq_zero h0
    subst this
    exact ⟨none, 0, rfl, ⟨rfl, fun x hx => (by cases hx), .inl rfl⟩, Nat.le_refl _, Nat.zero_le _⟩
  · refine ⟨_, cap, rfl, ⟨rfl, fun x hx => ⟨(h.2 x hx).1.bin, (h.2 x hx).2⟩, .inr ⟨g, 0, rfl, fun i x hx j u hu => ?_⟩⟩, h1, h2⟩
    have hlt : i < bs.length := (List.getElem?_eq_some_iff.1 hx).1
    have hj : j < 2 := (List.getElem?_eq_some_iff.1 hu).1
    have q := h.1.cellAt (i * 2 + j) (by omega)
    rw [rowC_get bs i x j u hx hu] at q
    rw [← q, Nat.zero_add]
/-- what is held, by the list -/
def cOf (bs : List BlkR) (x : Int) : List Nat := match bs.find? (fun b => b.N == x) with
  | some b => b.l
  | none => zB
/-- the document's flash -/
def RfAt (w : World) (base r : Nat) (N : Int) (off : Bool) (left : Int) (dn : Bool) (many : Int) (bs : List BlkR) : Prop :=
  (∃ a c, Blk w r 46 [.int .i64 N, .slice a bs.length c, .bool off, .int .i64 left, .bool dn, .int .i64 many] ∧ LOwn w base (.slice a bs.length c) bs) ∧ (∀ x ∈ bs, x.n = 512 ∧ 0 ≤ x.N ∧ x.N < N) ∧ bs.Pairwise (fun x y => x.N ≠ y.N)
theorem RfAt.lt {w : World} {base r : Nat} {N left many : Int} {off dn : Bool} {bs : List BlkR} (h : RfAt w base r N off left dn many bs) : r < w.heap.size := by obtain ⟨⟨a, c, h1, _⟩, _⟩ := h; exact h1.lt
theorem RfAt.fr {w w' : World} {base r : Nat} {N left many : Int} {off dn : Bool} {bs : List BlkR} {F : Nat → Prop} (h : RfAt w base r N off left dn many bs) (hf : Fr w w' F) (h1 : ∀ j t cs, Blk w j t cs → t = 46 ∨ t = 62 → ¬ F j) (h2 : ∀ x ∈ bs, ∀ j, (Value.slice x.a x.n x.c).ownBlock = some j → ¬ F j) : RfAt w' base r N off left dn many bs := by
  obtain ⟨⟨a, c, hb, hl⟩, h3⟩ := h
  refine ⟨⟨a, c, blk_fr hb hf (h1 _ _ _ hb (.inl rfl)), hl.fr hf (fun j hj => ?_) h2⟩, h3⟩
  obtain ⟨cs, hc, _⟩ := own_blk hl.1 hj
  exact h1 _ _ _ hc (.inr rfl)
theorem RfAt.below {w w' : World} {base r : Nat} {N left many : Int} {off dn : Bool} {bs : List BlkR} (h : RfAt w base r N off left dn many bs) (hb : Below w.heap.size w w') : RfAt w' base r N off left dn many bs :=
  h.fr (Fr.below hb : Fr w w' (fun _ => False)) (fun _ _ _ _ _ x => x) (fun _ _ _ _ x => x)
theorem RfAt.isB {w : World} {base r : Nat} {N left many : Int} {off dn : Bool} {bs : List BlkR} (h : RfAt w base r N off left dn many bs) : ∀ x ∈ bs, IsB x.l := by
  intro x hx
  obtain ⟨⟨a, c, hb, hl⟩, h3, _⟩ := h
  have h1 := (hl.2 x hx).1
  exact ⟨by rw [h1.bin.1.1]; exact (h3 x hx).1, h1.2.1⟩
theorem cOf_is {bs : List BlkR} (h : ∀ x ∈ bs, IsB x.l) (x : Int) : IsB (cOf bs x) := by
  unfold cOf
  split
  · rename_i b hb; exact h b (List.mem_of_find?_eq_some hb)
  · exact zB_is
section
variable {w : World} {base r : Nat} {N left many : Int} {off dn : Bool} {bs : List BlkR}
theorem RfAt.cells (h : RfAt w base r N off left dn many bs) : ∃ a c, w.cell? ⟨r, 0, none⟩ = some (.int .i64 N) ∧ w.cell? ⟨r, 1, none⟩ = some (.slice a bs.length c) ∧ w.cell? ⟨r, 2, none⟩ = some (.bool off) ∧ w.cell? ⟨r, 3, none⟩ = some (.int .i64 left) ∧ w.cell? ⟨r, 4, none⟩ = some (.bool dn) ∧ w.cell? ⟨r, 5, none⟩ = some (.int .i64 many) ∧ LIn w a bs.length bs ∧ bs.length ≤ maxLen := by
  obtain ⟨⟨a, c, hb, hl⟩, _⟩ := h
  obtain ⟨a', c', e, hin, h1, h2⟩ := hl.lin
  injection e with e1 e2 e3
  subst e1
  exact ⟨a, c, hb.cell 0, hb.cell 1, hb.cell 2, hb.cell 3, hb.cell 4, hb.cell 5, hin, Nat.le_trans h1 h2⟩
theorem RfAt.free (h : RfAt w base r N off left dn many bs) (i : Nat) : w.frozen? ⟨r, i, none⟩ = false := by obtain ⟨⟨a, c, hb, hl⟩, _⟩ := h; exact hb.free i
/-- the document's flash turns in its own fields, nothing else -/
def RTurn (base r : Nat) (N : Int) (off : Bool) (left : Int) (dn : Bool) (many : Int) (bs : List BlkR) (v : Value) (w : World) (e : Ending) (w' : World) : Prop :=
  e = .returned v ∧ RfAt w' base r N off left dn many bs ∧ w.grownBy w' (some r)
theorem RfAt.turn (h : RfAt w base r N off left dn many bs) {w' : World} (hg : w.grownBy w' (some r)) {off' dn' : Bool} {left' many' : Int} (hb : ∀ a c, Blk w r 46 [.int .i64 N, .slice a bs.length c, .bool off, .int .i64 left, .bool dn, .int .i64 many] → Blk w' r 46 [.int .i64 N, .slice a bs.length c, .bool off', .int .i64 left', .bool dn', .int .i64 many']) : RfAt w' base r N off' left' dn' many' bs := by
  obtain ⟨⟨a, c, hbl, hl⟩, h3⟩ := h
  have hf : Fr w w' (fun j => j = r) := Fr.grown hg (fun j e _ => by injection e with e; exact e.symm)
  refine ⟨⟨a, c, hb a c hbl, hl.fr hf (fun j hj e => ?_) (fun x hx j hj e => ?_)⟩, h3⟩
  · obtain ⟨cs, hc, _⟩ := own_blk hl.1 hj
    exact blk_ne hc hbl (by decide) e
  · obtain ⟨cs, hc, _⟩ := own_blk (hl.2 x hx).1.1 hj
    exact blk_ne hc hbl (by decide) e
end
set_option maxHeartbeats 400000 in
theorem rpower_any (base r : Nat) (N left many : Int) (off dn : Bool) (bs : List BlkR) (w : World) (h : RfAt w base r N off left dn many bs) :
    Calls Try.prog 35 #[.pointer (some ⟨r, 0, none⟩)] w (RTurn base r N false 0 dn many bs (.tuple #[]) w) := by
  obtain ⟨a, c, c0, c1, c2, c3, c4, c5, _, _⟩ := h.cells
  have f2 := h.free 2
  have f3 := h.free 3
  have H := Lib.hid h
  clear h c0 c1 c4 c5
  unfold RTurn
  go_enter Try.func35, Try.ntmps35
  go_wp2
  refine ⟨rfl, .tuple #[], ?_, rfl, H.out.turn (grown_trans (grown_setCell w ⟨r, 2, none⟩ _) (grown_setCell _ ⟨r, 3, none⟩ _)) (fun a c hb => (hb.set 2 (.bool false)).set 3 (.int .i64 0)), grown_trans (grown_setCell w ⟨r, 2, none⟩ _) (grown_setCell _ ⟨r, 3, none⟩ _)⟩
  simp [results, Try.results35]
set_option maxHeartbeats 400000 in
theorem rcut_off (base r : Nat) (N left many n : Int) (dn d : Bool) (bs : List BlkR) (w : World) (h : RfAt w base r N true left dn many bs) :
    Calls Try.prog 34 #[.pointer (some ⟨r, 0, none⟩), .int .i64 n, .bool d] w fun e w' => e = .returned (.int .i64 143) ∧ w = w' := by
  obtain ⟨a, c, c0, c1, c2, c3, c4, c5, _, _⟩ := h.cells
  clear h c0 c1 c4 c5 c3
  go_enter Try.func34, Try.ntmps34
  go_wp2
  go_ret
  exact ⟨rfl, rfl⟩
set_option maxHeartbeats 400000 in
theorem rcut_neg (base r : Nat) (N left many n : Int) (dn d : Bool) (bs : List BlkR) (w : World) (h : RfAt w base r N false left dn many bs) (hn : n < 0) :
    Calls Try.prog 34 #[.pointer (some ⟨r, 0, none⟩), .int .i64 n, .bool d] w fun e w' => e = .returned (.int .i64 1) ∧ w = w' := by
  obtain ⟨a, c, c0, c1, c2, c3, c4, c5, _, _⟩ := h.cells
  clear h c0 c1 c4 c5 c3
  go_enter Try.func34, Try.ntmps34
  go_wp2
  go_ret
  exact ⟨rfl, rfl⟩
set_option maxHeartbeats 400000 in
theorem rcut_ok (base r : Nat) (N left many n : Int) (dn d : Bool) (bs : List BlkR) (w : World) (h : RfAt w base r N false left dn many bs) (hn : 0 ≤ n) :
    Calls Try.prog 34 #[.pointer (some ⟨r, 0, none⟩), .int .i64 n, .bool d] w (RTurn base r N false n d many bs (.int .i64 0) w) := by
  obtain ⟨a, c, c0, c1, c2, c3, c4, c5, _, _⟩ := h.cells
  have f4 := h.free 4
  have f3 := h.free 3
  have H := Lib.hid h
  clear h c0 c1 c5
  unfold RTurn
  go_enter Try.func34, Try.ntmps34
  go_wp2
  go_ret
  exact ⟨rfl, H.out.turn (grown_trans (grown_setCell w ⟨r, 3, none⟩ _) (grown_setCell _ ⟨r, 4, none⟩ _)) (fun a c hb => (hb.set 3 (.int .i64 n)).set 4 (.bool d)), grown_trans (grown_setCell w ⟨r, 3, none⟩ _) (grown_setCell _ ⟨r, 4, none⟩ _)⟩
end Go.Proofs.Ytlgpaglkhgomiaa
