/- The two flashes and the answers that were kept; put. Condition: sizes. -/
import Derived.Test.YtlgpaglkhgomiaaFu
import Derived.Test.YtlgpaglkhgomiaaSb
import Derived.Test.YtlgpaglkhgomiaaLn
namespace Go.Proofs.Ytlgpaglkhgomiaa
open Go.RowKit
set_option linter.unusedVariables false
set_option maxRecDepth 100000
set_option linter.unusedSimpArgs false
/-- one answer that was kept -/
structure AnsR where
  a : Option Addr
  n : Nat
  c : Nat
  l : List Nat
def AnsR.v (x : AnsR) : Value := .slice x.a x.n x.c
def AnsR.s (x : AnsR) : Value := .string (strV x.l)
def AnsR.b (x : AnsR) : Option Nat := if x.n = 0 then none else x.a.map (·.block)
def AOk (w : World) (x : AnsR) : Prop := BIn w x.a x.n x.c x.l ∧ x.n ≤ 131072 ∧ (x.n = 0 ∨ ∃ g t cs, x.a = some ⟨g, 0, none⟩ ∧ Blk w g t cs ∧ (t = 70 ∨ t = 5))
theorem AOk.bt {w : World} {x : AnsR} (h : AOk w x) : ∀ q, x.a = some q → 0 < x.n → ∃ t cs, Blk w q.block t cs ∧ (t = 70 ∨ t = 5) := fun q hq hn => by
  obtain ⟨g, t, cs, e, hb, ht⟩ := h.2.2.resolve_left (by omega)
  rw [hq] at e
  injection e with e
  subst e
  exact ⟨t, cs, hb, ht⟩
theorem AOk.fr {w w' : World} {x : AnsR} {F : Nat → Prop} (h : AOk w x) (hf : Fr w w' F) (hF : ∀ j, x.b = some j → ¬ F j) : AOk w' x := by
  have hb : ∀ q, x.a = some q → 0 < x.n → ¬ F q.block := fun q hq hn => hF _ (by unfold AnsR.b; rw [if_neg (by omega), hq]; rfl)
  refine ⟨bin_fr h.1 hf hb, h.2.1, ?_⟩
  rcases h.2.2 with h0 | ⟨g, t, cs, e, hk, ht⟩
  · exact .inl h0
  · by_cases h0 : x.n = 0
    · exact .inl h0
    · exact .inr ⟨g, t, cs, e, blk_fr hk hf (hb _ e (by omega)), ht⟩
theorem AOk.blk {w : World} {x : AnsR} (h : AOk w x) {j : Nat} (hj : x.b = some j) : ∃ t cs, Blk w j t cs ∧ (t = 70 ∨ t = 5) := by
  unfold AnsR.b at hj
  split at hj
  · cases hj
  · cases ha : x.a with
    | none => rw [ha] at hj; cases hj
    | some q =>
      rw [ha] at hj
      injection hj with hj
      subst hj
      exact h.bt q ha (by omega)
/-- the blocks of the pair's own -/
def PF (w : World) (j : Nat) : Prop := ∃ t cs, Blk w j t cs ∧ (t = 39 ∨ t = 41 ∨ t = 9)
theorem PF.no {w : World} {j t : Nat} {cs : List Value} (h : Blk w j t cs) (ht : t ≠ 39 ∧ t ≠ 41 ∧ t ≠ 9) : ¬ PF w j := fun ⟨u, ds, hu, hu2⟩ => by
  rcases hu2 with rfl | rfl | rfl
  · exact blk_ne h hu ht.1 rfl
  · exact blk_ne h hu ht.2.1 rfl
  · exact blk_ne h hu ht.2.2 rfl
theorem PF.noMap {w : World} {b n : Nat} {hs : Int → Bool} {c : Int → List Nat} (h : MAt w b n hs c) : ¬ PF w b := fun ⟨u, ds, hu, _⟩ => blk_map hu h rfl
theorem AOk.noPF {w : World} {x : AnsR} (h : AOk w x) : ∀ j, x.b = some j → ¬ PF w j := fun j hj => by
  obtain ⟨t, cs, hb, ht⟩ := h.blk hj
  refine PF.no hb ?_
  rcases ht with rfl | rfl <;> decide
/-- the pair in memory -/
def PRow (w : World) (base p : Nat) (fv rv : Value) (ans : List AnsR) : Prop :=
  ∃ a2 c2 a3 c3, Blk w p 39 [fv, rv, .slice a2 ans.length c2, .slice a3 ans.length c3] ∧ w.ownsRow base 41 1 (.slice a2 ans.length c2) ans.length (ans.map AnsR.v) ∧ w.ownsRow base 9 1 (.slice a3 ans.length c3) ans.length (ans.map AnsR.s)
theorem PRow.fr {w w' : World} {base p : Nat} {fv rv : Value} {ans : List AnsR} {F : Nat → Prop} (h : PRow w base p fv rv ans) (hf : Fr w w' F) (hF : ∀ j, PF w j → ¬ F j) : PRow w' base p fv rv ans := by
  obtain ⟨a2, c2, a3, c3, h1, h2, h3⟩ := h
  refine ⟨a2, c2, a3, c3, blk_fr h1 hf (hF p ⟨_, _, h1, .inl rfl⟩), own_fr h2 hf (fun j hj => ?_), own_fr h3 hf (fun j hj => ?_)⟩
  · obtain ⟨cs, hc, _⟩ := own_blk h2 hj
    exact hF j ⟨_, _, hc, .inr (.inl rfl)⟩
  · obtain ⟨cs, hc, _⟩ := own_blk h3 hj
    exact hF j ⟨_, _, hc, .inr (.inr rfl)⟩
theorem PRow.below {w w' : World} {base p : Nat} {fv rv : Value} {ans : List AnsR} (h : PRow w base p fv rv ans) (hb : Below w.heap.size w w') : PRow w' base p fv rv ans := h.fr (Fr.below hb : Fr w w' (fun _ => False)) (fun _ _ x => x)
theorem info41 : (Try.prog.info? 41).map (fun i => (i.zero, i.size, i.bytes)) = some (some (.slice none 0 0), 1, 24) := by kernel_rfl
theorem info9 : (Try.prog.info? 9).map (fun i => (i.zero, i.size, i.bytes)) = some (some (.string ByteArray.empty), 1, 16) := by kernel_rfl
/-- one element more -/
theorem run_append_one (W : World) (ty t e : TypeId) (ht : Try.prog.underlying t = some (.slice e)) (z : Value) (bytes : Nat) (hinfo : (Try.prog.info? e).map (fun i => (i.zero, i.size, i.bytes)) = some (some z, 1, bytes)) (hzc : z.cells.size = 1) (base : Nat) (v : Value) (n : Nat) (xs : List Value) (hown : W.ownsRow base e 1 v n xs)
    (g : Nat) (u : Value) (hg : Blk W g e [u]) (hu : u.oneCell' = true) (hb : n + 1 ≤ 1000000) (hby : bytes ≤ 24) (hbase : base ≤ W.heap.size) :
    ∃ v' w', (Builtin.append_ #[t, t] ty #[v, .slice (some ⟨g, 0, none⟩) 1 1]).run Try.prog W = .ok v' w' ∧ w'.ownsRow base e 1 v' (n + 1) (xs ++ [u]) ∧ W.grownBy w' v.ownBlock := by
  obtain ⟨i0, hi, hz0, hz1, hz2⟩ := info_parts hinfo
  obtain ⟨v', w', hrun, h2, h3, h4, h5⟩ := run_append_own_at (P := Try.prog) W base t ty e i0 z 1 bytes ht hi hz0 hz1 hz2 hzc (by decide) v n xs hown ⟨g, 0, none⟩ 1 1 [u] rfl (fun j x hx => by rw [Addr.add_mid, Nat.zero_add, hg.cell]; exact hx) (fun x hx => by obtain rfl := List.mem_singleton.1 hx; exact hu) (by unfold maxLen; omega) (by have := Nat.mul_le_mul hb hby; omega) hbase
  exact ⟨v', w', hrun, h2, h3⟩
theorem wpOp_append_one {ops : Array Oper} {Q : Exit → Act → World → Prop} {i : Nat} {oi : Oper} {a : Act} {W : World} {K : Act → World → Prop} (hi : ops[i]? = some oi) (hw : Region.wanted oi (yielded ops a.tmps) = true) (s x : Operand) (t e : TypeId)
    (ho : oi.op = .call { callee := .builtin .append, args := #[s, x], argTypes := #[t, t] }) (ht : Try.prog.underlying t = some (.slice e)) (z : Value) (bytes : Nat) (hinfo : (Try.prog.info? e).map (fun i => (i.zero, i.size, i.bytes)) = some (some z, 1, bytes)) (hzc : z.cells.size = 1)
    (base : Nat) (v : Value) (n : Nat) (xs : List Value) (hs : a.eval s = v) (hown : W.ownsRow base e 1 v n xs) (g : Nat) (u : Value) (hx : a.eval x = .slice (some ⟨g, 0, none⟩) 1 1) (hg : Blk W g e [u]) (hu : u.oneCell' = true) (hb : n + 1 ≤ 1000000 ∧ bytes ≤ 24) (hbase : base ≤ W.heap.size)
    (h : ∀ v' w', w'.ownsRow base e 1 v' (n + 1) (xs ++ [u]) → W.grownBy w' v.ownBlock → K (a.put oi.dst v') w') : wpOp Try.prog ops Q i K a W := by
  obtain ⟨v', w', hrun, h2, h3⟩ := run_append_one W oi.type t e ht z bytes hinfo hzc base v n xs hown g u hg hu hb.1 hb.2 hbase
  refine wpOp_run hi hw (v := v') (W2 := w') ?_ (h v' w' h2 h3)
  unfold execOp
  simp only [ho, resolve, invoke, builtin, Sem.run_bind, Sem.run_pure, Result.andThen_ok, List.map_toArray, List.map_cons, List.map_nil, hs, hx, hrun]
theorem wpList_append_one {w : World} {ops : Array Oper} {rest : List Oper} {o : Oper} {a : Act} {Q : Exit → Act → World → Prop} (hgd : o.guard = none) (s x : Operand) (t e : TypeId)
    (ho : o.op = .call { callee := .builtin .append, args := #[s, x], argTypes := #[t, t] }) (ht : Try.prog.underlying t = some (.slice e)) (z : Value) (bytes : Nat) (hinfo : (Try.prog.info? e).map (fun i => (i.zero, i.size, i.bytes)) = some (some z, 1, bytes)) (hzc : z.cells.size = 1)
    (base : Nat) (v : Value) (n : Nat) (xs : List Value) (hs : a.eval s = v) (hown : w.ownsRow base e 1 v n xs) (g : Nat) (u : Value) (hx : a.eval x = .slice (some ⟨g, 0, none⟩) 1 1) (hg : Blk w g e [u]) (hu : u.oneCell' = true) (hb : n + 1 ≤ 1000000 ∧ bytes ≤ 24) (hbase : base ≤ w.heap.size)
    (h : ∀ v' w', w'.ownsRow base e 1 v' (n + 1) (xs ++ [u]) → w.grownBy w' v.ownBlock → wpList Try.prog ops Q rest (a.put o.dst v') w') : wpList Try.prog ops Q (o :: rest) a w := by
  refine wpList_plain hgd fun K hK => ?_
  obtain ⟨v', w', hrun, h2, h3⟩ := run_append_one w o.type t e ht z bytes hinfo hzc base v n xs hown g u hg hu hb.1 hb.2 hbase
  unfold Oper.wp execOp
  simp only [ho, resolve, invoke, builtin, Sem.run_bind, Sem.run_pure, Result.andThen_ok, List.map_toArray, List.map_cons, List.map_nil, hs, hx, hrun]
  exact hK _ _ (h v' w' h2 h3)
theorem pf_up {w w' : World} {j : Nat} (hb : Below w.heap.size w w') (hj : j < w.heap.size) (h : PF w' j) : PF w j := by
  obtain ⟨t, cs, h1, h2⟩ := h
  exact ⟨t, cs, (hb.block j hj).symm.trans h1, h2⟩
theorem pf_upF {w w' : World} {j : Nat} (hf : Fr w w' (PF w)) (hj : j < w.heap.size) (h : PF w' j) : PF w j := by
  open Classical in
  by_cases hn : PF w j
  · exact hn
  · obtain ⟨t, cs, h1, h2⟩ := h
    exact ⟨t, cs, (hf.2.2.2.2 j hj hn).symm.trans h1, h2⟩
/-- a row of the pair's own grows, and the pair is set -/
theorem pf_chain {W1 W5 W6 W7 W8 : World} {base p n e i : Nat} {v u : Value} {xs cs : List Value} (he : e = 41 ∨ e = 9) (h15 : Gr W1 W5) (ho : W5.ownsRow base e 1 v n xs) (hg : W5.grownBy W6 v.ownBlock) (h67 : Gr W6 W7) (hp : Blk W5 p 39 cs) (h78 : Gr (W7.setCell ⟨p, i, none⟩ u) W8) : Fr W1 W8 (PF W1) := by
  have f1 : Fr W1 W5 (PF W1) := Fr.below h15
  have f2 : Fr W5 W6 (PF W5) := Fr.grown hg (fun j hj _ => by
    obtain ⟨c2, hc, _⟩ := own_blk ho hj
    exact ⟨_, _, hc, .inr he⟩)
  have s56 := hg.size
  have s67 := h67.size
  have f3 : Fr W6 W7 (fun _ => False) := Fr.below h67
  have f4 : Fr W7 (W7.setCell ⟨p, i, none⟩ u) (fun j => j = p) := Fr.grown (grown_setCell W7 ⟨p, i, none⟩ u) (fun j e _ => by injection e with e; exact e.symm)
  have f5 : Fr (W7.setCell ⟨p, i, none⟩ u) W8 (fun _ => False) := Fr.below h78
  have g5 : Fr W5 W8 (PF W5) := ((f2.trans f3 (fun _ _ x => x.elim)).trans f4 (fun j hj e => by subst e; exact ⟨_, _, hp, .inl rfl⟩)).trans f5 (fun _ _ x => x.elim)
  exact f1.trans g5 (fun j hj h => pf_up h15 hj h)
theorem pb_chain {W1 W5 W6 W7 W8 : World} {base p n e i : Nat} {v u : Value} {xs : List Value} (h15 : Gr W1 W5) (ho : W5.ownsRow base e 1 v n xs) (hg : W5.grownBy W6 v.ownBlock) (h67 : Gr W6 W7) (hp : base ≤ p) (h78 : Gr (W7.setCell ⟨p, i, none⟩ u) W8) : Fr W1 W8 (fun j => base ≤ j) := by
  have f1 : Fr W1 W5 (fun j => base ≤ j) := Fr.below h15
  have f2 : Fr W5 W6 (fun j => base ≤ j) := Fr.grown hg (fun j hj _ => own_ge ho hj)
  have f3 : Fr W6 W7 (fun j => base ≤ j) := Fr.below h67
  have f4 : Fr W7 (W7.setCell ⟨p, i, none⟩ u) (fun j => base ≤ j) := Fr.grown (grown_setCell W7 ⟨p, i, none⟩ u) (fun j e _ => by injection e with e; exact e ▸ hp)
  have f5 : Fr (W7.setCell ⟨p, i, none⟩ u) W8 (fun j => base ≤ j) := Fr.below h78
  exact (((f1.trans f2 (fun _ _ x => x)).trans f3 (fun _ _ x => x)).trans f4 (fun _ _ x => x)).trans f5 (fun _ _ x => x)
/-- an answer is kept -/
def PutA (base p : Nat) (fv rv : Value) (ans : List AnsR) (w : World) (e : Ending) (w' : World) : Prop := e = .returned (.bool true) ∧ PRow w' base p fv rv ans ∧ Fr w w' (PF w) ∧ Fr w w' (fun j => base ≤ j)
set_option maxHeartbeats 6400000 in
theorem pput_any (base p : Nat) (fv rv : Value) (ans : List AnsR) (a a' : Option Addr) (n c n' c' : Nat) (l : List Nat) (w : World) (h : PRow w base p fv rv ans) (hg : BIn w a n c l) (hg' : BIn w a' n' c' l) (hn : ans.length ≤ 1000)
    (hF : ∀ q, a = some q → 0 < n → ¬ PF w q.block) (hF' : ∀ q, a' = some q → 0 < n' → ¬ PF w q.block) (hbase : base ≤ w.heap.size) (hpb : base ≤ p) (hfv : fv.oneCell' = true) (hrv : rv.oneCell' = true) :
    Calls Try.prog 33 #[.pointer (some ⟨p, 0, none⟩), .slice a n c, .slice a' n' c'] w (PutA base p fv rv (ans ++ [⟨a, n, c, l⟩]) w) := by
  obtain ⟨a2, c2, a3, c3, h1, h2, h3⟩ := h
  obtain ⟨m, hm⟩ : ∃ m, ans.length = m := ⟨_, rfl⟩
  rw [hm] at h1 h2 h3 hn
  have k2 := h1.cell 2
  have f2 := h1.free 2
  have ha := (Below.refl w.heap.size w).alloc (Nat.le_refl _) (.cells #[.slice a n c] 41)
  have HNW := Lib.hid (Blk.new w 41 [.slice a n c])
  have HOA := Lib.hid (own_below h2 ha)
  have HOB := Lib.hid (own_below h3 ha)
  have HP := Lib.hid (h1.below' ha)
  have HA := Lib.hid ha
  have HG := Lib.hid hg
  have HG' := Lib.hid hg'
  have HF := Lib.hid hF
  have HF' := Lib.hid hF'
  have HP0 := Lib.hid h1
  have HM := Lib.hid hm
  have hszA := ha.size
  have hbase2 := Nat.le_trans hbase hszA
  have hm1 : m + 1 ≤ 1000000 ∧ 24 ≤ 24 := by omega
  clear h1 h2 h3 ha hg hg' hF hF' hm hszA
  unfold PutA
  go_enter Try.func33, Try.ntmps33
  go_wp2_with (refine wpList_append_one rfl (.tmp 11) (.tmp 13) 36 41 rfl Try.underlying36 (.slice none 0 0) 24 info41 rfl base (.slice a2 m c2) m (ans.map AnsR.v) rfl HOA.out w.heap.size (.slice a n c) rfl HNW.out rfl hm1 hbase2 ?_)
  intro v2 w2 ho2 hg2
  obtain ⟨a2n, c2n, rfl⟩ : ∃ a2n c2n, v2 = .slice a2n (m + 1) c2n := by
    rcases ho2.2 with ⟨rfl, h0⟩ | ⟨g, cap, cur, rfl, _⟩
    · exact ⟨none, 0, by rw [h0]⟩
    · exact ⟨_, _, rfl⟩
  have hp2 : Blk w2 p 39 [fv, rv, .slice a2 m c2, .slice a3 m c3] := Blk.grown HP.out hg2 (fun e => by
    obtain ⟨cs2, hc2, _⟩ := own_blk HOA.out e.symm
    exact blk_ne HP.out hc2 (by decide) rfl)
  obtain ⟨W1, hW1⟩ : ∃ W1, w2.setCell ⟨p, 2, none⟩ (.slice a2n (m + 1) c2n) = W1 := ⟨_, rfl⟩
  have hp1 : Blk W1 p 39 [fv, rv, .slice a2n (m + 1) c2n, .slice a3 m c3] := by rw [← hW1]; exact hp2.set 2 _
  have hgs : w2.grownBy W1 (some p) := by rw [← hW1]; exact grown_setCell w2 ⟨p, 2, none⟩ _
  have hfs : Fr w2 W1 (fun j => j = p) := Fr.grown hgs (fun j e _ => by injection e with e; exact e.symm)
  have hfa : Fr w W1 (PF w) := pf_chain (.inl rfl) HA.out HOA.out hg2 (Below.refl _ _) HP.out (u := .slice a2n (m + 1) c2n) (i := 2) (by rw [hW1]; exact Below.refl _ _)
  have HFAB := Lib.hid (pb_chain HA.out HOA.out hg2 (Below.refl _ _) hpb (u := .slice a2n (m + 1) c2n) (i := 2) (W8 := W1) (by rw [hW1]; exact Below.refl _ _))
  have hO2 : W1.ownsRow base 41 1 (.slice a2n (m + 1) c2n) (m + 1) (ans.map AnsR.v ++ [.slice a n c]) := own_fr ho2 hfs (fun j hj e => by
    obtain ⟨cs2, hc2, _⟩ := own_blk ho2 hj
    exact blk_ne hc2 hp2 (by decide) e)
  have hO3a : w2.ownsRow base 9 1 (.slice a3 m c3) m (ans.map AnsR.s) := own_fr HOB.out (Fr.grown (F := fun j => (Value.slice a2 m c2).ownBlock = some j) hg2 (fun j e _ => e)) (fun j hj e => by
    obtain ⟨cs2, hc2, _⟩ := own_blk HOB.out hj
    obtain ⟨cs3, hc3, _⟩ := own_blk HOA.out e
    exact blk_ne hc2 hc3 (by decide) rfl)
  have hO3 : W1.ownsRow base 9 1 (.slice a3 m c3) m (ans.map AnsR.s) := own_fr hO3a hfs (fun j hj e => by
    obtain ⟨cs2, hc2, _⟩ := own_blk hO3a hj
    exact blk_ne hc2 hp2 (by decide) e)
  have hB1 : BIn W1 a' n' c' l := bin_fr HG'.out hfa HF'.out
  have HP2 := Lib.hid hp2
  have k2' := hp2.cell 2
  have f2' := hp2.free 2
  have HP1 := Lib.hid hp1
  have HW1 := Lib.hid hW1
  have HFA := Lib.hid hfa
  have HO2 := Lib.hid hO2
  have HO3 := Lib.hid hO3
  have HB1 := Lib.hid hB1
  have HBS := Lib.hid (show base ≤ W1.heap.size from Nat.le_trans hbase hfa.size)
  clear ho2 hg2 hp2 hp1 hW1 hgs hfs hfa hO2 hO3a hO3 hB1 HNW HOA HOB HP HA hbase2 k2 f2
  go_upto_region 2 with (fail)
  try rw [HW1.out]
  refine wp_region_G (fun w_ => Blk w_ p 39 [fv, rv, .slice a2n (m + 1) c2n, .slice a3 m c3]) 11 (by kernel_rfl) HP1.out.drew ?_
  refine wpAnyG_take (oi := _) (v := _) (fun _ _ hS_ hb_ => hS_.gr hb_) (i := 0) rfl (by kernel_rfl) (fun _ _ _ h => h) (pureG (by rfl) (by intro w; go_simp; first | done | with_reducible rfl)) ?_
  try simp only [Act.put, List.getElem_toArray, List.getElem_cons_succ, List.getElem_cons_zero, List.setIfInBounds_toArray, List.set_cons_zero, List.set_cons_succ]
  refine wpAnyG_take (oi := _) (v := _) (fun _ _ hS_ hb_ => hS_.gr hb_) (i := 1) rfl (by kernel_rfl) (fun _ _ _ h => h) (pureG (by rfl) (by intro w; go_simp; first | done | with_reducible rfl)) ?_
  try simp only [Act.put, List.getElem_toArray, List.getElem_cons_succ, List.getElem_cons_zero, List.setIfInBounds_toArray, List.set_cons_zero, List.set_cons_succ]
  refine wpAnyG_take (oi := _) (v := _) (fun _ _ hS_ hb_ => hS_.gr hb_) (i := 2) rfl (by kernel_rfl) (fun _ _ _ h => h) (pureG (by rfl) (by intro w; go_simp; first | done | with_reducible rfl)) ?_
  try simp only [Act.put, List.getElem_toArray, List.getElem_cons_succ, List.getElem_cons_zero, List.setIfInBounds_toArray, List.set_cons_zero, List.set_cons_succ]
  refine wpAnyG_take (oi := _) (v := _) (fun _ _ hS_ hb_ => hS_.gr hb_) (i := 3) rfl (by kernel_rfl) (fun _ _ _ h => h) (pureG (by rfl) (by intro w; go_simp; first | done | with_reducible rfl)) ?_
  try simp only [Act.put, List.getElem_toArray, List.getElem_cons_succ, List.getElem_cons_zero, List.setIfInBounds_toArray, List.set_cons_zero, List.set_cons_succ]
  refine wpAnyG_take (oi := _) (v := _) (fun _ _ hS_ hb_ => hS_.gr hb_) (i := 4) rfl (by kernel_rfl) (fun _ _ _ h => h) (worldG (by rfl) (by intro w_ hS_; have q0 := hS_.cell 3; go_simp; first | done | with_reducible rfl)) ?_
  try simp only [Act.put, List.getElem_toArray, List.getElem_cons_succ, List.getElem_cons_zero, List.setIfInBounds_toArray, List.set_cons_zero, List.set_cons_succ]
  refine wpAnyG_take (oi := _) (v := _) (fun _ _ hS_ hb_ => hS_.gr hb_) (i := 5) rfl (by kernel_rfl) (fun _ _ _ h => h) (pureG (by rfl) (by intro w; go_simp; first | done | with_reducible rfl)) ?_
  try simp only [Act.put, List.getElem_toArray, List.getElem_cons_succ, List.getElem_cons_zero, List.setIfInBounds_toArray, List.set_cons_zero, List.set_cons_succ]
  refine wpAnyG_only (i := 6) (by kernel_rfl) (fun W2 hW2 hS2 => ?_)
  have hG12 : Gr W1 W2 := (Gr.drew W1).trans hW2
  have hs2 := bin_str (HB1.out.below hG12)
  refine wpOp_run rfl (by rfl) (v := .string (strV l)) (W2 := W2) (by go_simp; first | done | with_reducible rfl) ⟨.inr hS2, ?_⟩
  try simp only [Act.put, List.getElem_toArray, List.getElem_cons_succ, List.getElem_cons_zero, List.setIfInBounds_toArray, List.set_cons_zero, List.set_cons_succ]
  refine wpAnyG_only (i := 7) (by kernel_rfl) (fun W4 hW4 hS4 => ?_)
  refine wpOp_run rfl (by rfl) (v := .slice (some ⟨W4.heap.size, 0, none⟩) 1 1) (W2 := W4.alloc (.cells #[.string (strV l)] 9)) (by go_simp; first | done | with_reducible rfl) ⟨.inr (hS4.gr (Gr.alloc _ _)), ?_⟩
  try simp only [Act.put, List.getElem_toArray, List.getElem_cons_succ, List.getElem_cons_zero, List.setIfInBounds_toArray, List.set_cons_zero, List.set_cons_succ]
  refine wpAnyG_only (i := 8) (by kernel_rfl) (fun W5 hW5 hS5 => ?_)
  have hG15 : Gr W1 W5 := (hG12.trans hW4).trans ((Gr.alloc W4 _).trans hW5)
  have hN5 : Blk W5 W4.heap.size 9 [.string (strV l)] := (Blk.new W4 9 _).gr hW5
  have hO5 := own_below HO3.out hG15
  refine wpOp_append_one rfl (by rfl) (.tmp 21) (.tmp 24) 37 9 rfl Try.underlying37 (.string ByteArray.empty) 16 info9 rfl base (.slice a3 m c3) m (ans.map AnsR.s) rfl hO5 W4.heap.size (.string (strV l)) rfl hN5 rfl (by omega) (by have := HBS.out; have := hG15.size; omega) (fun vO W6 hoO hgO => ?_)
  have hr6 : Blk W6 p 39 [fv, rv, .slice a2n (m + 1) c2n, .slice a3 m c3] := Blk.grown hS5 hgO (fun e => by
    obtain ⟨cs2, hc2, _⟩ := own_blk hO5 e.symm
    exact blk_ne hS5 hc2 (by decide) rfl)
  obtain ⟨a3n, c3n, rfl⟩ : ∃ a3n c3n, vO = .slice a3n (m + 1) c3n := by
    rcases hoO.2 with ⟨rfl, h0⟩ | ⟨g, cap, cur, rfl, _⟩
    · exact ⟨none, 0, by rw [h0]⟩
    · exact ⟨_, _, rfl⟩
  refine ⟨.inr hr6, ?_⟩
  try simp only [Act.put, List.getElem_toArray, List.getElem_cons_succ, List.getElem_cons_zero, List.setIfInBounds_toArray, List.set_cons_zero, List.set_cons_succ]
  refine wpAnyG_run (i := 9) (v := .pointer (some ⟨p, 0, none⟩)) (by kernel_rfl) rfl (by rfl) (by intro w_ hS_; go_simp; first | done | with_reducible rfl) ?_
  try simp only [Act.put, List.getElem_toArray, List.getElem_cons_succ, List.getElem_cons_zero, List.setIfInBounds_toArray, List.set_cons_zero, List.set_cons_succ]
  refine wpAnyG_run (i := 10) (v := .pointer (some ⟨p, 3, none⟩)) (by kernel_rfl) rfl (by rfl) (by intro w_ hS_; go_simp; first | done | with_reducible rfl) ?_
  try simp only [Act.put, List.getElem_toArray, List.getElem_cons_succ, List.getElem_cons_zero, List.setIfInBounds_toArray, List.set_cons_zero, List.set_cons_succ]
  refine wpAnyG_only (i := 11) (by kernel_rfl) (fun W7 hW7 hS7 => ?_)
  refine wpOp_skip rfl (by rfl) (W2 := W7.setCell ⟨p, 3, none⟩ (.slice a3n (m + 1) c3n)) (by have q0 := hS7.cell 3; have q1 := hS7.free 3; go_simp; first | done | with_reducible rfl) ⟨.inl ⟨rfl, by kernel_rfl⟩, wpAnyG_done (by kernel_rfl) (fun W8 hW8 => ?_) _⟩
  try simp only [Act.put, List.getElem_toArray, List.getElem_cons_succ, List.getElem_cons_zero, List.setIfInBounds_toArray, List.set_cons_zero, List.set_cons_succ]
  have hfrb := pb_chain hG15 hO5 hgO hW7 hpb hW8
  have hfr : Fr W1 W8 (PF W1) := pf_chain (.inr rfl) hG15 hO5 hgO hW7 hS5 hW8
  have hO8 := own_below (own_fr (own_below hoO hW7) (Fr.grown (F := fun j => j = p) (grown_setCell W7 ⟨p, 3, none⟩ (.slice a3n (m + 1) c3n)) (fun j e _ => by injection e with e; exact e.symm)) (fun j hj e => by
    obtain ⟨cs2, hc2, _⟩ := own_blk (own_below hoO hW7) hj
    exact blk_ne hc2 hS7 (by decide) e)) hW8
  have hO28 := own_below (own_fr (own_below (own_fr (own_below HO2.out hG15) (Fr.grown (F := fun j => (Value.slice a3 m c3).ownBlock = some j) hgO (fun j e _ => e)) (fun j hj e => by
    obtain ⟨cs2, hc2, _⟩ := own_blk (own_below HO2.out hG15) hj
    obtain ⟨cs3, hc3, _⟩ := own_blk hO5 e
    exact blk_ne hc2 hc3 (by decide) rfl)) hW7) (Fr.grown (F := fun j => j = p) (grown_setCell W7 ⟨p, 3, none⟩ (.slice a3n (m + 1) c3n)) (fun j e _ => by injection e with e; exact e.symm)) (fun j hj e => by
    obtain ⟨cs2, hc2, _⟩ := own_blk (own_below (own_fr (own_below HO2.out hG15) (Fr.grown (F := fun j => (Value.slice a3 m c3).ownBlock = some j) hgO (fun j e _ => e)) (fun j hj e => by
      obtain ⟨cs2, hc2, _⟩ := own_blk (own_below HO2.out hG15) hj
      obtain ⟨cs3, hc3, _⟩ := own_blk hO5 e
      exact blk_ne hc2 hc3 (by decide) rfl)) hW7) hj
    exact blk_ne hc2 hS7 (by decide) e)) hW8
  have hB8 := (hS7.set 3 (.slice a3n (m + 1) c3n)).gr hW8
  have hfE := HFA.out.trans hfr (fun j hj h => pf_upF HFA.out hj h)
  have HFE := Lib.hid hfE
  have HFEB := Lib.hid (HFAB.out.trans hfrb (fun j hj h => h))
  have hl1 : (ans ++ [(⟨a, n, c, l⟩ : AnsR)]).length = m + 1 := by simp [HM.out]
  have HPR := Lib.hid (show PRow W8 base p fv rv (ans ++ [⟨a, n, c, l⟩]) from ⟨a2n, c2n, a3n, c3n, by rw [hl1]; exact hB8, by rw [hl1, List.map_append]; exact hO28, by rw [hl1, List.map_append]; exact hO8⟩)
  have HSM := Lib.hid (sameB_any W8 a a' n c n' c' l l (bin_fr HG.out hfE HF.out) (bin_fr HG'.out hfE HF'.out))
  have e0 : decide (l = l) = true := by simp
  rw [e0] at HSM
  clear hfE hfr hfrb hO8 hO28 hB8 hoO hgO hO5 hr6 hN5 hs2 hl1
  go_wp2_with (go_at_call 25; refine HSM.out.mono ?_; rintro e w9 ⟨rfl, hb9⟩)
  go_ret
  exact ⟨rfl, HPR.out.below hb9, HFE.out.trans (Fr.below hb9 : Fr W8 w9 (fun _ => False)) (fun _ _ x => x.elim), HFEB.out.trans (Fr.below hb9 : Fr W8 w9 (fun _ => False)) (fun _ _ x => x.elim)⟩
end Go.Proofs.Ytlgpaglkhgomiaa
