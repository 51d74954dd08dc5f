/- Parts of proofs of statements, each text behind those that it stands on. No condition of its own. -/
import Derived.Great.Walk
import Derived.Test.YtfffmoolkgheaaaY02
namespace Go.Proofs.Ytfffmoolkgheaaa
open Go.RowKit
set_option linter.unusedVariables false
section
variable {w : World} {ops : Array Oper} {rest : List Oper} {o : Oper} {a : Act} {Q : Exit → Act → World → Prop}
theorem stM (hgd : o.guard = none) (ty : TypeId) (x y : Operand) (ho : o.op = .store ty x y) (g off : Nat) (hx : a.eval x = .pointer (some ⟨g, off, none⟩)) (cs : List Value) (hy : a.eval y = .agg cs.toArray) (t : TypeId) (old new : List Value) (hg : Blk w g t old)
    (hn : setL old off cs = new) (hr : off + cs.length ≤ old.length) (hi : (Try.prog.info? ty).map (·.size) = some cs.length) (h1 : ∀ v ∈ cs, v.oneCell' = true)
    (h : ∀ N, w.grownBy N (some g) → Blk N g t new → wpList Try.prog ops Q rest (a.put o.dst undef) N) : wpList Try.prog ops Q (o :: rest) a w := by
  refine wpList_store_mid hgd ty x y ho g off cs.toArray hx hy ?_ (by simpa using hi) (all_oneCell_toArray h1) (h _ (grown_setCells g _ _ _) ?_)
  · intro j hj
    refine ⟨?_, hg.free _⟩
    rw [hg.cell, List.getElem?_eq_getElem (by simp at hj; omega)]
    rfl
  · rw [← hn]; exact setCells_blk g t _ _ _ _ hg
end
theorem pv_setY {lx ly l : List Nat} {i : Bool} (hx : lx.length = 4) (hy : ly.length = 4) (hl : l.length = 4) : setL (pv lx ly i) 4 (natsV .u64 l) = pv lx l i := by
  unfold pv
  have h := setL_mid (natsV .u64 l) (natsV .u64 ly) (natsV .u64 lx) [.bool i] (by rw [natsV_length, natsV_length, hy, hl])
  rw [natsV_length, hx] at h
  exact h
theorem pv_fitY {lx ly l : List Nat} {i : Bool} (hx : lx.length = 4) (hy : ly.length = 4) (hl : l.length = 4) : 4 + (natsV .u64 l).length ≤ (pv lx ly i).length := by
  rw [pv_len hx hy, natsV_length, hl]; decide
end Go.Proofs.Ytfffmoolkgheaaa
namespace Go.Proofs.Ytfffmoolkgheaaa
open Go.RowKit
set_option linter.unusedVariables false
section
variable {P : Program} {ops : Array Oper} {Q : Exit → Act → World → Prop} {md : Region.Mode} {S : World → Prop}
theorem worldG {o : Oper} {v : Value} {a : Act} (hw : Region.wanted o (yielded ops a.tmps) = true) (hrun : ∀ w, S w → (execOp a.eval o).run P w = .ok (.value v) w) : YieldsG P ops S o v a :=
  .inl ⟨hw, fun w h => .inl (hrun w h)⟩
end
theorem bin_cell {w w' : World} {b off n c : Nat} {l : List Nat} (h : BIn w (some ⟨b, off, none⟩) n c l) (hb : Below w.heap.size w w') (i : Nat) (hi : i < n) : w'.cell? ⟨b, off + i, none⟩ = some (.int .u8 (l.getD i 0 : Nat)) := by
  obtain ⟨b2, o2, he, hc⟩ := h.1.2.2.2.resolve_left (by omega)
  injection he with he
  injection he with e1 e2
  subst e1 e2
  exact (hb.cell (World.block_lt_of_cell? w _ (hc i hi))).trans (hc i hi)
theorem gr_bel {w0 w w' : World} (h : Below w0.heap.size w0 w) (hb : Gr w w') : Below w0.heap.size w0 w' := h.trans (Below.mono hb h.size)
theorem pv_setX {lx ly l : List Nat} {i : Bool} (hx : lx.length = 4) (hy : ly.length = 4) (hl : l.length = 4) : setL (pv lx ly i) 0 (natsV .u64 l) = pv l ly i :=
  setL_mid (natsV .u64 l) (natsV .u64 lx) [] (natsV .u64 ly ++ [.bool i]) (by rw [natsV_length, natsV_length, hx, hl])
theorem pv_fitX {lx ly l : List Nat} {i : Bool} (hx : lx.length = 4) (hy : ly.length = 4) (hl : l.length = 4) : 0 + (natsV .u64 l).length ≤ (pv lx ly i).length := by
  rw [pv_len hx hy, natsV_length, hl]; decide
end Go.Proofs.Ytfffmoolkgheaaa
namespace Go.Proofs.Ytfffmoolkgheaaa
open Go.RowKit
set_option linter.unusedVariables false
theorem bin_one (w : World) (y : Nat) (hy : y < 256) : BIn (w.alloc (.cells #[.int .u8 (y : Nat)] 5)) (some ⟨w.heap.size, 0, none⟩) 1 1 [y] := by
  refine ⟨⟨rfl, by unfold maxLen; omega, by simpa using hy, .inr ⟨w.heap.size, 0, rfl, ?_⟩⟩, Nat.le_refl _, by unfold maxLen; omega, by omega, fun h => by cases h⟩
  intro i hi
  obtain rfl : i = 0 := by omega
  simp
theorem bin_pre {w : World} {b off n c f : Nat} {l : List Nat} (h : BIn w (some ⟨b, off, none⟩) n c l) (hf : f ≤ n) (hn : 0 < n) : BIn w (some ⟨b, off, none⟩) f c (l.take f) := by
  obtain ⟨⟨h1, h2, h3, h4⟩, h5, h6, h7, h8⟩ := h
  obtain ⟨b', o', he, hc⟩ := h4.resolve_left (by omega)
  injection he with he
  injection he with e1 e2
  subst e1 e2
  refine ⟨⟨by simp; omega, by omega, fun x hx => h3 x (List.mem_of_mem_take hx), .inr ⟨b, off, rfl, fun i hi => ?_⟩⟩, by omega, by omega, by omega, fun h => by cases h⟩
  rw [hc i (by omega)]
  congr 3
  simp only [List.getD_eq_getElem?_getD, List.getElem?_take]
  rw [if_pos hi]
theorem ownM_in {w : World} {base n G cap : Nat} {l : List Nat} (h : w.ownsRow base 5 1 (.slice (some ⟨G, 0, none⟩) (n + 1) cap) (n + 1) (bytesV (l ++ [77]))) (hl : ∀ x ∈ l, x < 256) (hn : l.length = n) (h47 : n + 1 ≤ 140737488355328) : BIn w (some ⟨G, 0, none⟩) n cap l := by
  obtain ⟨a', c', he, hb⟩ := own_in h (fun x hx => by rcases List.mem_append.1 hx with hx | hx; exact hl x hx; obtain rfl := List.mem_singleton.1 hx; decide) h47
  simp only [Value.slice.injEq] at he
  obtain ⟨rfl, _, rfl⟩ := he
  have := bin_pre hb.1 (show n ≤ n + 1 by omega) (by omega)
  rwa [List.take_append_of_le_length (by omega), List.take_of_length_le (by omega)] at this
set_option maxRecDepth 100000 in
theorem step_append_bytes {ops : Array Oper} {o : Oper} {a : Act} {w : World} {K : Act → World → Prop} {Q : Exit → Act → World → Prop} {E : Prop}
    (hg : o.guard = none) (s x : Operand) (hop : o.op = Op.call { callee := Callee.builtin Builtin.append, args := #[s, x], argTypes := #[45, 45] })
    (base : Nat) (v : Value) (n : Nat) (xs : List Nat) (hs : a.eval s = v) (hown : w.ownsRow base 5 1 v n (bytesV xs)) (b off : Nat) (m c : Nat) (l : List Nat) (hx : a.eval x = .slice (some ⟨b, off, none⟩) m c) (hr : BIn w (some ⟨b, off, none⟩) m c l)
    (hb : n + m ≤ 140737488355328) (hbase : base ≤ w.heap.size)
    (hK : ∀ v' w', w'.ownsRow base 5 1 v' (n + m) (bytesV (xs ++ l)) → w.grownBy w' v.ownBlock → K (a.put o.dst v') w') :
    if Region.wanted o (yielded ops a.tmps) = true then Oper.wp Try.prog o a w K Q else E := by
  have hw : Region.wanted o (yielded ops a.tmps) = true := by simp [Region.wanted, hg]
  rw [if_pos hw]
  obtain ⟨i0, hi, hz0, hz1, hz2⟩ := info_parts info5
  obtain ⟨⟨hl, hm, hlt, hrow⟩, hc1, hc2, _, hnil⟩ := hr
  have hcs : ∀ j u, (bytesV l)[j]? = some u → w.cell? ((⟨b, off, none⟩ : Addr).add j) = some u := by
    intro j u hu
    have hj : j < l.length := by
      rcases Nat.lt_or_ge j l.length with h | h
      · exact h
      · rw [List.getElem?_eq_none (by simpa [bytesV] using h)] at hu; cases hu
    obtain ⟨b', off', hA, hc⟩ := hrow.resolve_left (by omega)
    injection hA with hA
    injection hA with e1 e2
    subst e1 e2
    have hadd : (⟨b, off, none⟩ : Addr).add j = ⟨b, off + j, none⟩ := by unfold Addr.add; split <;> simp_all
    rw [hadd, hc j (by omega), ← hu]
    simp [bytesV, List.getD_eq_getElem?_getD, List.getElem?_eq_getElem hj]
  have hone : ∀ u ∈ bytesV l, u.oneCell' = true := by
    intro u hu; obtain ⟨y, _, rfl⟩ := List.mem_map.1 hu; rfl
  obtain ⟨v', w', hrun, h1, h2, _⟩ := run_append_own (P := Try.prog) w base 45 o.type 5 i0 (.int .u8 0) 1 1 Try.underlying45 hi hz0 hz1 hz2 rfl (by decide) v n (bytesV xs) hown ⟨b, off, none⟩ m c (bytesV l) (by simpa [bytesV] using hl) hcs hone (by simp only [maxLen]; omega) (by omega) hbase
  unfold Oper.wp
  simp [execOp, hop, resolve, invoke, builtin, hs, hx, hrun, Result.andThen]
  exact hK v' w' (by simpa [bytesV] using h1) h2
set_option maxRecDepth 100000 in
theorem own_form {w : World} {base n : Nat} {v : Value} {xs : List Value} (h : w.ownsRow base 5 1 v n xs) (hn : 0 < n) : ∃ G cap, v = .slice (some ⟨G, 0, none⟩) n cap ∧ n ≤ cap ∧ cap ≤ maxLen ∧ base ≤ G := by
  rcases h.2 with ⟨_, h0⟩ | ⟨G, cap, cur, e1, e2, e3, e4, e5, _⟩
  · omega
  · exact ⟨G, cap, e1, e4, e5, e2⟩
theorem own_base {w : World} {B base n : Nat} {v : Value} {xs : List Value} (h : w.ownsRow base 5 1 v n xs) (hB : B ≤ base) : w.ownsRow B 5 1 v n xs := by
  refine ⟨h.1, ?_⟩
  rcases h.2 with h2 | ⟨G, cap, cur, e1, e2, e3⟩
  · exact .inl h2
  · exact .inr ⟨G, cap, cur, e1, Nat.le_trans hB e2, e3⟩
theorem own_one (w : World) (y : Nat) : (w.alloc (.cells #[.int .u8 (y : Nat)] 5)).ownsRow w.heap.size 5 1 (.slice (some ⟨w.heap.size, 0, none⟩) 1 1) 1 (bytesV [y]) :=
  ⟨rfl, .inr ⟨w.heap.size, 1, #[.int .u8 (y : Nat)], rfl, Nat.le_refl _, heap_alloc_new w _, Nat.le_refl _, by unfold maxLen; omega, rfl, rfl⟩⟩
theorem bin_blk {w : World} {g : Nat} {t : TypeId} {l : List Nat} (h : Blk w g t (natsV .u8 l)) (hl : l.length = 32) (hb : ∀ x ∈ l, x < 256) : BIn w (some ⟨g, 0, none⟩) 32 32 l := by
  refine ⟨⟨hl, by unfold maxLen; omega, hb, .inr ⟨g, 0, rfl, fun i hi => ?_⟩⟩, Nat.le_refl _, by unfold maxLen; omega, by omega, fun h => by cases h⟩
  have k := h.nat i (by omega)
  rw [Nat.zero_add]; exact k
theorem mk_made (n : Nat) (hn : n ≤ maxLen) (w : World) : (w.alloc (.cells (natsV .u8 (zeros n)).toArray 5)).ownsRow w.heap.size 5 1 (.slice (some ⟨w.heap.size, 0, none⟩) 0 n) 0 (bytesV []) :=
  World.ownsRow_made w _ n (Nat.le_refl _) hn (by simp [natsV, zeros])
theorem hmk65 (w : World) : (Instr.makeSlice 45 (.int .i64 0) (.int .i64 65)).run Try.prog w = .ok (.slice (some ⟨w.heap.size, 0, none⟩) 0 65) (w.alloc (.cells (natsV .u8 (zeros 65)).toArray 5)) := by kernel_rfl
theorem hmk33 (w : World) : (Instr.makeSlice 45 (.int .i64 0) (.int .i64 33)).run Try.prog w = .ok (.slice (some ⟨w.heap.size, 0, none⟩) 0 33) (w.alloc (.cells (natsV .u8 (zeros 33)).toArray 5)) := by kernel_rfl
end Go.Proofs.Ytfffmoolkgheaaa
