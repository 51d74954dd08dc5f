/- Parts of proofs of statements, each text behind those that it stands on. No condition of its own. -/
import Derived.Laws.Cover3
import Derived.Test.YtbabpmncdphnjaaGreatQ18
import Derived.Test.YtbabpmncdphnjaaGreatQ19
namespace Go.Proofs.YtbabpmncdphnjaaGreat
open Go.RowKit
set_option linter.unusedVariables false
set_option maxRecDepth 100000
set_option linter.unusedSimpArgs false
theorem stS {ops : Array Oper} {o : Oper} {a : Act} {g x : Nat} {t : TypeId} {p q : Operand} {A : Option Addr} {n c : Nat} (hw : Region.wanted o (yielded ops a.tmps) = true) (ho : o.op = .store 43 p q) (hp : a.eval p = .pointer (some ⟨g, x, none⟩)) (hq : a.eval q = .slice A n c) : StoresC Tryz.prog ops o g x t (.slice A n c) a :=
  StoresC.mk hw (fun w old hb hx => by
    have hc := hb.cell x
    have hf := hb.free x
    rw [List.getElem?_eq_getElem hx] at hc
    unfold execOp
    simp only [ho, hp, hq]
    go_simp)
end Go.Proofs.YtbabpmncdphnjaaGreat
namespace Go.Proofs.YtbabpmncdphnjaaGreat
open Go.RowKit
set_option linter.unusedVariables false
set_option maxRecDepth 100000
def RrIs (R : Except Nat (Nat × List Nat × Tr × List Nat)) (en : Nat) (w : World) (e : Ending) (w' : World) : Prop :=
  Below w.heap.size w w' ∧ match R with
  | .error c => e = .returned (.tuple #[.agg #[.int .u8 0, .slice none 0 0, .slice none 0 0], .int .i64 0, .int .i64 (c : Nat)])
  | .ok (t, b, k, r) => ∃ v1 v2 L, e = .returned (.tuple #[.agg #[.int .u8 (t : Nat), v1, v2], .int .i64 ((en - r.length : Nat) : Int), .int .i64 0]) ∧ OwnV w' w.heap.size (.node t b k .nil) [.int .u8 (t : Nat), v1, v2] L ∧ L.Nodup
theorem RrIs.err {R : Except Nat (Nat × List Nat × Tr × List Nat)} {en c : Nat} {w w' : World} (h : R = .error c) (hb : Below w.heap.size w w') : RrIs R en w (.returned (.tuple #[.agg #[.int .u8 0, .slice none 0 0, .slice none 0 0], .int .i64 0, .int .i64 (c : Nat)])) w' := by subst h; exact ⟨hb, rfl⟩
theorem RrIs.good {R : Except Nat (Nat × List Nat × Tr × List Nat)} {en t : Nat} {b : List Nat} {k : Tr} {r : List Nat} {w w' : World} (h : R = .ok (t, b, k, r)) (hb : Below w.heap.size w w') {v1 v2 : Value} {L : List Nat} {x : Int} (hx : ((en - r.length : Nat) : Int) = x)
    (h1 : OwnV w' w.heap.size (.node t b k .nil) [.int .u8 (t : Nat), v1, v2] L) (h2 : L.Nodup) : RrIs R en w (.returned (.tuple #[.agg #[.int .u8 (t : Nat), v1, v2], .int .i64 x, .int .i64 0])) w' := by subst h hx; exact ⟨hb, v1, v2, L, rfl, h1, h2⟩
theorem zero_own (w : World) : (w.alloc (.cells #[] 5)).ownsRow w.heap.size 5 1 (.slice (some ⟨w.heap.size, 0, none⟩) 0 0) 0 (bytesV []) := zero_row w
end Go.Proofs.YtbabpmncdphnjaaGreat
namespace Go.Proofs.YtbabpmncdphnjaaGreat
open Go.RowKit
set_option linter.unusedVariables false
set_option maxRecDepth 100000
set_option linter.unusedSimpArgs false
def RDec (R : Except Nat (Nat × List Nat × Tr)) (w : World) (e : Ending) (w' : World) : Prop :=
  Below w.heap.size w w' ∧ match R with
  | .error c => e = .returned (.tuple #[.agg #[.int .u8 0, .slice none 0 0, .slice none 0 0], .int .i64 (c : Nat)])
  | .ok (t, b, k) => ∃ a1 c1 a2 c2, e = .returned (.tuple #[itV t a1 b.length c1 a2 k.len c2, .int .i64 0]) ∧ ItIn w' t a1 c1 a2 c2 b k
theorem RDec.err {R : Except Nat (Nat × List Nat × Tr)} {w w' : World} {c : Nat} (h : R = .error c) (hb : Below w.heap.size w w') : RDec R w (.returned (.tuple #[.agg #[.int .u8 0, .slice none 0 0, .slice none 0 0], .int .i64 (c : Nat)])) w' := by subst h; exact ⟨hb, rfl⟩
theorem RDec.good {R : Except Nat (Nat × List Nat × Tr)} {w w' : World} {t : Nat} {b : List Nat} {k : Tr} (h : R = .ok (t, b, k)) (hb : Below w.heap.size w w') {a1 a2 : Option Addr} {c1 c2 : Nat} (h1 : ItIn w' t a1 c1 a2 c2 b k) :
    RDec R w (.returned (.tuple #[.agg #[.int .u8 (t : Nat), .slice a1 b.length c1, .slice a2 k.len c2], .int .i64 0])) w' := by subst h; exact ⟨hb, a1, c1, a2, c2, rfl, h1⟩
end Go.Proofs.YtbabpmncdphnjaaGreat
namespace Go.Proofs.YtbabpmncdphnjaaGreat
open Go.RowKit
set_option linter.unusedVariables false
set_option maxRecDepth 100000
set_option linter.unusedSimpArgs false
end Go.Proofs.YtbabpmncdphnjaaGreat
namespace Go.Proofs.YtbabpmncdphnjaaGreat
open Go.RowKit
set_option linter.unusedVariables false
set_option maxRecDepth 100000
set_option linter.unusedSimpArgs false
def ItmIs (er t : Nat) (b : List Nat) (k : Tr) (w : World) (e : Ending) (w' : World) : Prop :=
  ∃ a1 n1 c1 a2 n2 c2, b.length = n1 ∧ k.len = n2 ∧ e = .returned (.tuple #[.agg #[.int .u8 (t : Nat), .slice a1 n1 c1, .slice a2 n2 c2], .int .i64 (er : Nat)]) ∧ b.length ≤ 1048576 ∧ ItIn w' t a1 c1 a2 c2 b k ∧ Below w.heap.size w w'
end Go.Proofs.YtbabpmncdphnjaaGreat
namespace Go.Proofs.YtbabpmncdphnjaaGreat
open Go.RowKit
set_option linter.unusedVariables false
set_option maxRecDepth 100000
set_option linter.unusedSimpArgs false
def ItmOk (t : Nat) (b : List Nat) (k : Tr) (w : World) (e : Ending) (w' : World) : Prop :=
  ∃ a1 c1 a2 c2, e = .returned (.tuple #[.agg #[.int .u8 (t : Nat), .slice a1 b.length c1, .slice a2 k.len c2], .int .i64 0]) ∧ b.length ≤ 1048576 ∧ ItIn w' t a1 c1 a2 c2 b k ∧ Below w.heap.size w w'
theorem ItmIs.ok {t : Nat} {b : List Nat} {k : Tr} {w : World} {e : Ending} {w' : World} (h : ItmIs 0 t b k w e w') : ItmOk t b k w e w' := by
  obtain ⟨a1, n1, c1, a2, n2, c2, rfl, rfl, h1, h2, h3, h4⟩ := h
  exact ⟨a1, c1, a2, c2, h1, h2, h3, h4⟩
theorem natsV_len (l : List Nat) : (natsV .u8 l).length = l.length := by simp [natsV]
theorem range_bytes {w : World} {g o n c : Nat} {l : List Nat} (h : BIn w (some ⟨g, o, none⟩) n c l) : w.rangeAt g o (natsV .u8 l) := by
  intro j u hj
  have h0 : l.length = n := h.1.1
  have hjl : j < l.length := by
    have := (List.getElem?_eq_some_iff.1 hj).1
    simpa [natsV] using this
  obtain ⟨b2, o2, e, hc⟩ := h.1.2.2.2.resolve_left (by omega)
  injection e with e
  injection e with e1 e2
  subst e1 e2
  rw [hc j (by omega)]
  simp [natsV, List.getElem?_map, List.getElem?_eq_getElem hjl] at hj
  rw [← hj]
  simp [List.getD_eq_getElem?_getD, List.getElem?_eq_getElem hjl]
end Go.Proofs.YtbabpmncdphnjaaGreat
namespace Go.Proofs.YtbabpmncdphnjaaGreat
open Go.RowKit
set_option linter.unusedVariables false
set_option maxRecDepth 100000
set_option linter.unusedSimpArgs false
end Go.Proofs.YtbabpmncdphnjaaGreat
namespace Go.Proofs.YtbabpmncdphnjaaGreat
open Go.RowKit
set_option linter.unusedVariables false
set_option maxRecDepth 100000
set_option linter.unusedSimpArgs false
theorem sz5 : (Tryz.prog.info? 5).map (·.size) = some 1 := by kernel_rfl
theorem grown_base {B g : Nat} {w0 w w' : World} (hb : Below B w0 w) (h : w.grownBy w' (some g)) (hg : B ≤ g) (hB : B ≤ w.heap.size) : Below B w0 w' :=
  hb.trans ⟨h.os, h.tape, h.output, h.size, fun k hk => h.block k (Nat.lt_of_lt_of_le hk hB) (fun e => by injection e with e; omega)⟩
theorem Blk.grownN {w w' : World} {g g2 : Nat} {t : TypeId} {cs : List Value} (h : Blk w g t cs) (hg : w.grownBy w' (some g2)) (hne : g ≠ g2) : Blk w' g t cs := h.of (hg.block g h.lt (fun e => hne (by injection e)))
theorem bin_take {w : World} {a : Option Addr} {n c : Nat} {l : List Nat} (h : BIn w a n c l) (m : Nat) (hpos : 0 < (natsV .u8 (l.take m)).length) : ∃ ad, a = some ad ∧ ∀ (j : Nat) (v : Value), (natsV .u8 (l.take m))[j]? = some v → w.cell? (ad.add j) = some v := by
  have h0 : l.length = n := h.1.1
  have hn : n ≠ 0 := by
    intro hz
    have : l = [] := List.eq_nil_of_length_eq_zero (by omega)
    subst this
    simp [natsV] at hpos
  obtain ⟨b, o, rfl, hc⟩ := h.1.2.2.2.resolve_left hn
  refine ⟨_, rfl, fun j v hj => ?_⟩
  have hr := range_bytes h
  rw [show (Addr.add ⟨b, o, none⟩ j) = ⟨b, o + j, none⟩ from by unfold Addr.add; split <;> simp_all]
  refine hr j v ?_
  simp only [natsV, List.getElem?_map] at hj ⊢
  obtain ⟨x, hx, rfl⟩ := Option.map_eq_some_iff.1 hj
  rw [List.getElem?_take] at hx
  split at hx
  · rw [hx]; rfl
  · cases hx
end Go.Proofs.YtbabpmncdphnjaaGreat
namespace Go.Proofs.YtbabpmncdphnjaaGreat
open Go.RowKit
set_option linter.unusedVariables false
set_option maxRecDepth 100000
set_option linter.unusedSimpArgs false
def padK (m : Nat) (l : List Nat) : List Nat := l.take m ++ zeros (m - (l.take m).length)
theorem padK_len (m : Nat) (l : List Nat) : (padK m l).length = m := by
  unfold padK
  rw [List.length_append, zeros_len, List.length_take]
  omega
theorem padK_8 {m : Nat} {l : List Nat} (h : ∀ x ∈ l, x < 256) : ∀ x ∈ padK m l, x < 256 := by
  intro x hx
  rcases List.mem_append.1 hx with h1 | h1
  · exact h x (List.mem_of_mem_take h1)
  · exact zeros_8 _ x h1
theorem padK_cells (m : Nat) (l : List Nat) : splice (natsV .u8 (zeros m)) 0 (natsV .u8 (l.take m)) = natsV .u8 (padK m l) := by
  unfold splice padK
  simp only [List.take_zero, List.nil_append, Nat.zero_add, natsV_len]
  simp [natsV, zeros, List.drop_replicate]
theorem pad_in {w : World} {g m : Nat} {l : List Nat} (h : Blk w g 5 (splice (natsV .u8 (zeros m)) 0 (natsV .u8 (l.take m)))) (hm : m ≤ 100000) (h8 : ∀ x ∈ l, x < 256) : BIn w (some ⟨g, 0, none⟩) m m (padK m l) := by
  rw [padK_cells] at h
  exact blk_in h (padK_len m l) hm (padK_8 h8)
def CertF (sn : Int) (is su : ByteArray) (kb sg : List Nat) (xa : Option Addr) (n xc : Nat) (w : World) (e : Ending) (w' : World) : Prop :=
  ∃ ka kn kc sa sl sc, e = .returned (.agg #[.int .u64 sn, .string is, .string su, .slice ka kn kc, .slice xa n xc, .slice sa sl sc]) ∧ kb.length = kn ∧ sg.length = sl ∧ BIn w' ka kn kc kb ∧ BIn w' sa sl sc sg ∧ Below w.heap.size w w'
set_option maxRecDepth 100000 in
set_option maxHeartbeats 4000000 in
theorem WholeF_raw (w : World) (sn : Int) (is su : ByteArray) (ka : Option Addr) (kn kc : Nat) (xa : Option Addr) (n xc : Nat) (sa : Option Addr) (sl sc : Nat) (ya : Option Addr) (yn yc : Nat) (ga : Option Addr) (gn gc : Nat) (kb sb : List Nat) (hk : BIn w ka kn kc kb) (hs : BIn w sa sl sc sb) : Calls Tryz.prog 11 #[.agg #[.int .u64 sn, .string is, .string su, .slice ka kn kc, .slice xa n xc, .slice sa sl sc, .bool true, .slice ya yn yc, .slice ga gn gc]] w (CertF sn is su kb sb xa n xc w) := by
  have hb := ((Below.refl _ w).alloc (Nat.le_refl _) (.cells #[.int .u64 sn, .string is, .string su, .slice ka kn kc, .slice xa n xc, .slice sa sl sc, .bool true, .slice ya yn yc, .slice ga gn gc] 37)).alloc (by simp) (.cells #[.int .u64 0, .string { data := #[] }, .string { data := #[] }, .slice none 0 0, .slice none 0 0, .slice none 0 0] 26)
  have HSZ := Lib.hid (show w.heap.size + 2 = ((w.alloc (.cells #[.int .u64 sn, .string is, .string su, .slice ka kn kc, .slice xa n xc, .slice sa sl sc, .bool true, .slice ya yn yc, .slice ga gn gc] 37)).alloc (.cells #[.int .u64 0, .string { data := #[] }, .string { data := #[] }, .slice none 0 0, .slice none 0 0, .slice none 0 0] 26)).heap.size by simp)
  have HBX := Lib.hid ((Blk.new w 37 [.int .u64 sn, .string is, .string su, .slice ka kn kc, .slice xa n xc, .slice sa sl sc, .bool true, .slice ya yn yc, .slice ga gn gc]).alloc (.cells #[.int .u64 0, .string { data := #[] }, .string { data := #[] }, .slice none 0 0, .slice none 0 0, .slice none 0 0] 26))
  have HRS := Lib.hid (Blk.new2 w (.cells #[.int .u64 sn, .string is, .string su, .slice ka kn kc, .slice xa n xc, .slice sa sl sc, .bool true, .slice ya yn yc, .slice ga gn gc] 37) 26 [.int .u64 0, .string { data := #[] }, .string { data := #[] }, .slice none 0 0, .slice none 0 0, .slice none 0 0])
  have HRG := Lib.hid (show World.rangeAt ((w.alloc (.cells #[.int .u64 sn, .string is, .string su, .slice ka kn kc, .slice xa n xc, .slice sa sl sc, .bool true, .slice ya yn yc, .slice ga gn gc] 37)).alloc (.cells #[.int .u64 0, .string { data := #[] }, .string { data := #[] }, .slice none 0 0, .slice none 0 0, .slice none 0 0] 26)) w.heap.size 0 [.int .u64 sn, .string is, .string su, .slice ka kn kc, .slice xa n xc, .slice sa sl sc] from fun j v hj => by
    rw [Nat.zero_add]
    refine blkc HBX.out (i := j) ?_
    rcases j with _ | _ | _ | _ | _ | _ | j
    all_goals first | exact hj | (simp at hj))
  have H00 := Lib.hid hb
  have HK := Lib.hid hk
  have HS := Lib.hid hs
  clear hk hs
  clear hb
  go_enter Tryz.func11, Tryz.ntmps11
  generalize hW0 : (w.alloc (.cells #[.int .u64 sn, .string is, .string su, .slice ka kn kc, .slice xa n xc, .slice sa sl sc, .bool true, .slice ya yn yc, .slice ga gn gc] 37)).alloc (.cells #[.int .u64 0, .string { data := #[] }, .string { data := #[] }, .slice none 0 0, .slice none 0 0, .slice none 0 0] 26) = W0 at *
  go_wp2_with (first | (refine wpList_load_mid (P := Tryz.prog) rfl 26 (.tmp 4) rfl w.heap.size 0 rfl [.int .u64 sn, .string is, .string su, .slice ka kn kc, .slice xa n xc, .slice sa sl sc] _ HRG.out Tryz.underlying26 rfl info55 ?_) | (refine wpList_store_row (P := Tryz.prog) rfl 26 (.tmp 3) (.tmp 5) rfl W0.heap.size #[.int .u64 sn, .string is, .string su, .slice ka kn kc, .slice xa n xc, .slice sa sl sc] rfl rfl 26 _ (Blk.new W0 26 [.int .u64 0, .string { data := #[] }, .string { data := #[] }, .slice none 0 0, .slice none 0 0, .slice none 0 0]) info55 rfl (all_cert _ _ _ _ _ _ _ _ _ _ _ _) ?_; go_loud (have hb1 : Gr W0 ((W0.alloc (.cells #[.int .u64 0, .string { data := #[] }, .string { data := #[] }, .slice none 0 0, .slice none 0 0, .slice none 0 0] 26)).setRow W0.heap.size #[.int .u64 sn, .string is, .string su, .slice ka kn kc, .slice xa n xc, .slice sa sl sc]) := below_setRow' (Gr.alloc W0 _) (Nat.le_refl _) _; have HXX := Lib.hid ((Blk.new W0 26 [.int .u64 0, .string { data := #[] }, .string { data := #[] }, .slice none 0 0, .slice none 0 0, .slice none 0 0]).setRow [.int .u64 sn, .string is, .string su, .slice ka kn kc, .slice xa n xc, .slice sa sl sc]); have H01 := Lib.hid (H00.out.trans (Below.mono hb1 H00.out.size)); have HRS := Lib.hid (HRS.out.below' hb1); have HBX := Lib.hid (HBX.out.below' hb1); clear hb1; generalize (W0.alloc (.cells #[.int .u64 0, .string { data := #[] }, .string { data := #[] }, .slice none 0 0, .slice none 0 0, .slice none 0 0] 26)).setRow W0.heap.size #[.int .u64 sn, .string is, .string su, .slice ka kn kc, .slice xa n xc, .slice sa sl sc] = w1 at *; have k6 := blkc HBX.out (i := 6) rfl)) | (refine wpList_load_row (P := Tryz.prog) rfl 26 (.tmp 3) rfl W0.heap.size rfl 26 _ _ _ HXX.out Tryz.underlying26 rfl info55 ?_) | (refine wpList_store_row (P := Tryz.prog) rfl 26 (.tmp 2) (.tmp 8) rfl (w.heap.size + 1) #[.int .u64 sn, .string is, .string su, .slice ka kn kc, .slice xa n xc, .slice sa sl sc] rfl rfl 26 _ HRS.out info55 rfl (all_cert _ _ _ _ _ _ _ _ _ _ _ _) ?_))
  refine bodyPost_ret (results_one Tryz.results11 _ _ (w.heap.size + 1) 26 _ (0, 0) _ rfl (HRS.out.setRow [.int .u64 sn, .string is, .string su, .slice ka kn kc, .slice xa n xc, .slice sa sl sc]) Tryz.underlying26 rfl info55) rfl ?_
  have hb9 := below_setRow' H01.out (Nat.le_succ w.heap.size) #[.int .u64 sn, .string is, .string su, .slice ka kn kc, .slice xa n xc, .slice sa sl sc]
  exact ⟨_, _, _, _, _, _, rfl, HK.out.1.1, HS.out.1.1, HK.out.below hb9, HS.out.below hb9, hb9⟩
set_option maxRecDepth 100000 in
set_option maxHeartbeats 4000000 in
theorem WholeF_made (w : World) (sn : Int) (is su : ByteArray) (ka : Option Addr) (kn kc : Nat) (xa : Option Addr) (n xc : Nat) (sa : Option Addr) (sl sc : Nat) (ya : Option Addr) (yn yc : Nat) (ga : Option Addr) (gn gc : Nat) (kb sb : List Nat) (hk : BIn w ka kn kc kb) (hs : BIn w sa sl sc sb) (yb gb : List Nat) (hy : BIn w ya yn yc yb) (hg : BIn w ga gn gc gb) : Calls Tryz.prog 11 #[.agg #[.int .u64 sn, .string is, .string su, .slice ka kn kc, .slice xa n xc, .slice sa sl sc, .bool false, .slice ya yn yc, .slice ga gn gc]] w (CertF sn is su (padK 2017 yb) (padK 3373 gb) xa n xc w) := by
  have hb := ((Below.refl _ w).alloc (Nat.le_refl _) (.cells #[.int .u64 sn, .string is, .string su, .slice ka kn kc, .slice xa n xc, .slice sa sl sc, .bool false, .slice ya yn yc, .slice ga gn gc] 37)).alloc (by simp) (.cells #[.int .u64 0, .string { data := #[] }, .string { data := #[] }, .slice none 0 0, .slice none 0 0, .slice none 0 0] 26)
  have HSZ := Lib.hid (show w.heap.size + 2 = ((w.alloc (.cells #[.int .u64 sn, .string is, .string su, .slice ka kn kc, .slice xa n xc, .slice sa sl sc, .bool false, .slice ya yn yc, .slice ga gn gc] 37)).alloc (.cells #[.int .u64 0, .string { data := #[] }, .string { data := #[] }, .slice none 0 0, .slice none 0 0, .slice none 0 0] 26)).heap.size by simp)
  have HBX := Lib.hid ((Blk.new w 37 [.int .u64 sn, .string is, .string su, .slice ka kn kc, .slice xa n xc, .slice sa sl sc, .bool false, .slice ya yn yc, .slice ga gn gc]).alloc (.cells #[.int .u64 0, .string { data := #[] }, .string { data := #[] }, .slice none 0 0, .slice none 0 0, .slice none 0 0] 26))
  have HRS := Lib.hid (Blk.new2 w (.cells #[.int .u64 sn, .string is, .string su, .slice ka kn kc, .slice xa n xc, .slice sa sl sc, .bool false, .slice ya yn yc, .slice ga gn gc] 37) 26 [.int .u64 0, .string { data := #[] }, .string { data := #[] }, .slice none 0 0, .slice none 0 0, .slice none 0 0])
  have HRG := Lib.hid (show World.rangeAt ((w.alloc (.cells #[.int .u64 sn, .string is, .string su, .slice ka kn kc, .slice xa n xc, .slice sa sl sc, .bool false, .slice ya yn yc, .slice ga gn gc] 37)).alloc (.cells #[.int .u64 0, .string { data := #[] }, .string { data := #[] }, .slice none 0 0, .slice none 0 0, .slice none 0 0] 26)) w.heap.size 0 [.int .u64 sn, .string is, .string su, .slice ka kn kc, .slice xa n xc, .slice sa sl sc] from fun j v hj => by
    rw [Nat.zero_add]
    refine blkc HBX.out (i := j) ?_
    rcases j with _ | _ | _ | _ | _ | _ | j
    all_goals first | exact hj | (simp at hj))
  have H00 := Lib.hid hb
  have mkA := mk_K 2017 2017 rfl (by decide)
  have mkB := mk_K 3373 3373 rfl (by decide)
  have HY := Lib.hid hy
  have HG := Lib.hid hg
  clear hy hg hk hs
  clear hb
  go_enter Tryz.func11, Tryz.ntmps11
  generalize hW0 : (w.alloc (.cells #[.int .u64 sn, .string is, .string su, .slice ka kn kc, .slice xa n xc, .slice sa sl sc, .bool false, .slice ya yn yc, .slice ga gn gc] 37)).alloc (.cells #[.int .u64 0, .string { data := #[] }, .string { data := #[] }, .slice none 0 0, .slice none 0 0, .slice none 0 0] 26) = W0 at *
  go_wp2_with (first | (refine wpList_load_mid (P := Tryz.prog) rfl 26 (.tmp 4) rfl w.heap.size 0 rfl [.int .u64 sn, .string is, .string su, .slice ka kn kc, .slice xa n xc, .slice sa sl sc] _ HRG.out Tryz.underlying26 rfl info55 ?_) | (refine wpList_store_row (P := Tryz.prog) rfl 26 (.tmp 3) (.tmp 5) rfl W0.heap.size #[.int .u64 sn, .string is, .string su, .slice ka kn kc, .slice xa n xc, .slice sa sl sc] rfl rfl 26 _ (Blk.new W0 26 [.int .u64 0, .string { data := #[] }, .string { data := #[] }, .slice none 0 0, .slice none 0 0, .slice none 0 0]) info55 rfl (all_cert _ _ _ _ _ _ _ _ _ _ _ _) ?_; go_loud (have hb1 : Gr W0 ((W0.alloc (.cells #[.int .u64 0, .string { data := #[] }, .string { data := #[] }, .slice none 0 0, .slice none 0 0, .slice none 0 0] 26)).setRow W0.heap.size #[.int .u64 sn, .string is, .string su, .slice ka kn kc, .slice xa n xc, .slice sa sl sc]) := below_setRow' (Gr.alloc W0 _) (Nat.le_refl _) _; have HXX := Lib.hid ((Blk.new W0 26 [.int .u64 0, .string { data := #[] }, .string { data := #[] }, .slice none 0 0, .slice none 0 0, .slice none 0 0]).setRow [.int .u64 sn, .string is, .string su, .slice ka kn kc, .slice xa n xc, .slice sa sl sc]); have H01 := Lib.hid (H00.out.trans (Below.mono hb1 H00.out.size)); have HRS := Lib.hid (HRS.out.below' hb1); have HBX := Lib.hid (HBX.out.below' hb1); have HGT := Lib.hid (show W0.heap.size < ((W0.alloc (.cells #[.int .u64 0, .string { data := #[] }, .string { data := #[] }, .slice none 0 0, .slice none 0 0, .slice none 0 0] 26)).setRow W0.heap.size #[.int .u64 sn, .string is, .string su, .slice ka kn kc, .slice xa n xc, .slice sa sl sc]).heap.size by simp); clear hb1; generalize (W0.alloc (.cells #[.int .u64 0, .string { data := #[] }, .string { data := #[] }, .slice none 0 0, .slice none 0 0, .slice none 0 0] 26)).setRow W0.heap.size #[.int .u64 sn, .string is, .string su, .slice ka kn kc, .slice xa n xc, .slice sa sl sc] = w1 at *; have k6 := blkc HBX.out (i := 6) rfl; have kA : ∀ o, (w1.alloc o).cell? ⟨W0.heap.size, 3, none⟩ = some (.slice ka kn kc) := fun o => blkc (HXX.out.alloc o) (i := 3) rfl; have fA : ∀ o, (w1.alloc o).frozen? ⟨W0.heap.size, 3, none⟩ = false := fun o => (HXX.out.alloc o).free 3; have HXX := Lib.hid (show Blk ((w1.alloc (.cells (natsV .u8 (zeros 2017)).toArray 5)).setCell ⟨W0.heap.size, 3, none⟩ (.slice (some ⟨w1.heap.size, 0, none⟩) 2017 2017)) W0.heap.size 26 [.int .u64 sn, .string is, .string su, .slice (some ⟨w1.heap.size, 0, none⟩) 2017 2017, .slice xa n xc, .slice sa sl sc] from (HXX.out.alloc (.cells (natsV .u8 (zeros 2017)).toArray 5)).set 3 (.slice (some ⟨w1.heap.size, 0, none⟩) 2017 2017)); have HNW := Lib.hid (show Blk ((w1.alloc (.cells (natsV .u8 (zeros 2017)).toArray 5)).setCell ⟨W0.heap.size, 3, none⟩ (.slice (some ⟨w1.heap.size, 0, none⟩) 2017 2017)) w1.heap.size 5 _ from (Blk.new w1 5 (natsV .u8 (zeros 2017))).other ⟨W0.heap.size, 3, none⟩ (.slice (some ⟨w1.heap.size, 0, none⟩) 2017 2017) (by { have h1 := HGT.out; simp; omega })); have H02 := Lib.hid (show Below w.heap.size w ((w1.alloc (.cells (natsV .u8 (zeros 2017)).toArray 5)).setCell ⟨W0.heap.size, 3, none⟩ (.slice (some ⟨w1.heap.size, 0, none⟩) 2017 2017)) from (H01.out.alloc H01.out.size (.cells (natsV .u8 (zeros 2017)).toArray 5)).setCell (p := ⟨W0.heap.size, 3, none⟩) (by { have h1 := HSZ.out; simp; omega }) (.slice (some ⟨w1.heap.size, 0, none⟩) 2017 2017)); have HRS := Lib.hid (show Blk ((w1.alloc (.cells (natsV .u8 (zeros 2017)).toArray 5)).setCell ⟨W0.heap.size, 3, none⟩ (.slice (some ⟨w1.heap.size, 0, none⟩) 2017 2017)) (w.heap.size + 1) 26 _ from (HRS.out.alloc (.cells (natsV .u8 (zeros 2017)).toArray 5)).other ⟨W0.heap.size, 3, none⟩ (.slice (some ⟨w1.heap.size, 0, none⟩) 2017 2017) (by { have h1 := HSZ.out; simp; omega })); have HBX := Lib.hid (show Blk ((w1.alloc (.cells (natsV .u8 (zeros 2017)).toArray 5)).setCell ⟨W0.heap.size, 3, none⟩ (.slice (some ⟨w1.heap.size, 0, none⟩) 2017 2017)) w.heap.size 37 _ from (HBX.out.alloc (.cells (natsV .u8 (zeros 2017)).toArray 5)).other ⟨W0.heap.size, 3, none⟩ (.slice (some ⟨w1.heap.size, 0, none⟩) 2017 2017) (by { have h1 := HSZ.out; simp; omega })); have k7 := blkc HBX.out (i := 7) rfl)) | (refine wpList_copy_blk (P := Tryz.prog) rfl (.tmp 12) (.tmp 14) 22 22 rfl 5 Tryz.underlying22 sz5 (some ⟨w1.heap.size, 0, none⟩) ya 2017 2017 yn yc rfl rfl w1.heap.size 0 _ 5 HNW.out (natsV .u8 (yb.take 2017)) (by { have h1 := HY.out.1.1; rw [natsV_len, List.length_take, h1]; exact Nat.min_comm _ _ }) (fun hp => ⟨rfl, bin_take (HY.out.below H02.out) 2017 hp⟩) (by { rw [natsV_len, natsV_len, zeros_len, List.length_take]; omega }) (natsV_one _ _) ?_; intro w3 hnb hgb; go_loud (have HXX := Lib.hid (HXX.out.grownN hgb (by { have h1 := HGT.out; omega })); have HRS := Lib.hid (HRS.out.grownN hgb (by { have h1 := HGT.out; have h2 := HSZ.out; omega })); have HBX := Lib.hid (HBX.out.grownN hgb (by { have h1 := HGT.out; have h2 := HSZ.out; omega })); have H02c := Lib.hid (grown_base H02.out hgb (by { have h1 := HGT.out; have h2 := HSZ.out; omega }) H02.out.size); have HGT1 := HGT; have HK1 := Lib.hid hnb; have HS13 := Lib.hid (show w1.heap.size < w3.heap.size from by { have h1 := hgb.size; simp at h1; omega }); have HGT := Lib.hid (show W0.heap.size < w3.heap.size from Nat.lt_of_lt_of_le (by { have h1 := HGT.out; simp; omega }) hgb.size); have kA : ∀ o, (w3.alloc o).cell? ⟨W0.heap.size, 5, none⟩ = some (.slice sa sl sc) := fun o => blkc (HXX.out.alloc o) (i := 5) rfl; have fA : ∀ o, (w3.alloc o).frozen? ⟨W0.heap.size, 5, none⟩ = false := fun o => (HXX.out.alloc o).free 5; have HXX := Lib.hid (show Blk ((w3.alloc (.cells (natsV .u8 (zeros 3373)).toArray 5)).setCell ⟨W0.heap.size, 5, none⟩ (.slice (some ⟨w3.heap.size, 0, none⟩) 3373 3373)) W0.heap.size 26 [.int .u64 sn, .string is, .string su, .slice (some ⟨w1.heap.size, 0, none⟩) 2017 2017, .slice xa n xc, .slice (some ⟨w3.heap.size, 0, none⟩) 3373 3373] from (HXX.out.alloc (.cells (natsV .u8 (zeros 3373)).toArray 5)).set 5 (.slice (some ⟨w3.heap.size, 0, none⟩) 3373 3373)); have HNW := Lib.hid (show Blk ((w3.alloc (.cells (natsV .u8 (zeros 3373)).toArray 5)).setCell ⟨W0.heap.size, 5, none⟩ (.slice (some ⟨w3.heap.size, 0, none⟩) 3373 3373)) w3.heap.size 5 _ from (Blk.new w3 5 (natsV .u8 (zeros 3373))).other ⟨W0.heap.size, 5, none⟩ (.slice (some ⟨w3.heap.size, 0, none⟩) 3373 3373) (by { have h1 := HGT.out; simp; omega })); have H04 := Lib.hid (show Below w.heap.size w ((w3.alloc (.cells (natsV .u8 (zeros 3373)).toArray 5)).setCell ⟨W0.heap.size, 5, none⟩ (.slice (some ⟨w3.heap.size, 0, none⟩) 3373 3373)) from (H02c.out.alloc H02c.out.size (.cells (natsV .u8 (zeros 3373)).toArray 5)).setCell (p := ⟨W0.heap.size, 5, none⟩) (by { have h1 := HSZ.out; simp; omega }) (.slice (some ⟨w3.heap.size, 0, none⟩) 3373 3373)); have HRS := Lib.hid (show Blk ((w3.alloc (.cells (natsV .u8 (zeros 3373)).toArray 5)).setCell ⟨W0.heap.size, 5, none⟩ (.slice (some ⟨w3.heap.size, 0, none⟩) 3373 3373)) (w.heap.size + 1) 26 _ from (HRS.out.alloc (.cells (natsV .u8 (zeros 3373)).toArray 5)).other ⟨W0.heap.size, 5, none⟩ (.slice (some ⟨w3.heap.size, 0, none⟩) 3373 3373) (by { have h1 := HSZ.out; simp; omega })); have HBX := Lib.hid (show Blk ((w3.alloc (.cells (natsV .u8 (zeros 3373)).toArray 5)).setCell ⟨W0.heap.size, 5, none⟩ (.slice (some ⟨w3.heap.size, 0, none⟩) 3373 3373)) w.heap.size 37 _ from (HBX.out.alloc (.cells (natsV .u8 (zeros 3373)).toArray 5)).other ⟨W0.heap.size, 5, none⟩ (.slice (some ⟨w3.heap.size, 0, none⟩) 3373 3373) (by { have h1 := HSZ.out; simp; omega })); have k8 := blkc HBX.out (i := 8) rfl; have HK1 := Lib.hid (show Blk ((w3.alloc (.cells (natsV .u8 (zeros 3373)).toArray 5)).setCell ⟨W0.heap.size, 5, none⟩ (.slice (some ⟨w3.heap.size, 0, none⟩) 3373 3373)) w1.heap.size 5 _ from (HK1.out.alloc (.cells (natsV .u8 (zeros 3373)).toArray 5)).other ⟨W0.heap.size, 5, none⟩ (.slice (some ⟨w3.heap.size, 0, none⟩) 3373 3373) (by { have h1 := HGT1.out; simp; omega })); clear hnb hgb)) | (refine wpList_copy_blk (P := Tryz.prog) rfl (.tmp 19) (.tmp 21) 22 22 rfl 5 Tryz.underlying22 sz5 (some ⟨w3.heap.size, 0, none⟩) ga 3373 3373 gn gc rfl rfl w3.heap.size 0 _ 5 HNW.out (natsV .u8 (gb.take 3373)) (by { have h1 := HG.out.1.1; rw [natsV_len, List.length_take, h1]; exact Nat.min_comm _ _ }) (fun hp => ⟨rfl, bin_take (HG.out.below H04.out) 3373 hp⟩) (by { rw [natsV_len, natsV_len, zeros_len, List.length_take]; omega }) (natsV_one _ _) ?_; intro w5 hnb hgb; go_loud (have HXX := Lib.hid (HXX.out.grownN hgb (by { have h1 := HGT.out; omega })); have HRS := Lib.hid (HRS.out.grownN hgb (by { have h1 := HGT.out; have h2 := HSZ.out; omega })); have HBX := Lib.hid (HBX.out.grownN hgb (by { have h1 := HGT.out; have h2 := HSZ.out; omega })); have H04c := Lib.hid (grown_base H04.out hgb (by { have h1 := HGT.out; have h2 := HSZ.out; omega }) H04.out.size); have HK2 := Lib.hid hnb; have HK1 := Lib.hid (HK1.out.grownN hgb (by { have h1 := HS13.out; omega })); clear hnb hgb)) | (refine wpList_load_row (P := Tryz.prog) rfl 26 (.tmp 3) rfl W0.heap.size rfl 26 _ _ _ HXX.out Tryz.underlying26 rfl info55 ?_) | (refine wpList_store_row (P := Tryz.prog) rfl 26 (.tmp 2) (.tmp 23) rfl (w.heap.size + 1) #[.int .u64 sn, .string is, .string su, .slice (some ⟨w1.heap.size, 0, none⟩) 2017 2017, .slice xa n xc, .slice (some ⟨w3.heap.size, 0, none⟩) 3373 3373] rfl rfl 26 _ HRS.out info55 rfl (all_cert _ _ _ _ _ _ _ _ _ _ _ _) ?_))
  refine bodyPost_ret (results_one Tryz.results11 _ _ (w.heap.size + 1) 26 _ (0, 0) _ rfl (HRS.out.setRow [.int .u64 sn, .string is, .string su, .slice (some ⟨w1.heap.size, 0, none⟩) 2017 2017, .slice xa n xc, .slice (some ⟨w3.heap.size, 0, none⟩) 3373 3373]) Tryz.underlying26 rfl info55) rfl ?_
  have hb9 := below_setRow' H04c.out (Nat.le_succ w.heap.size) #[.int .u64 sn, .string is, .string su, .slice (some ⟨w1.heap.size, 0, none⟩) 2017 2017, .slice xa n xc, .slice (some ⟨w3.heap.size, 0, none⟩) 3373 3373]
  have k1 := HK1.out.row #[.int .u64 sn, .string is, .string su, .slice (some ⟨w1.heap.size, 0, none⟩) 2017 2017, .slice xa n xc, .slice (some ⟨w3.heap.size, 0, none⟩) 3373 3373] (show w1.heap.size ≠ w.heap.size + 1 by { have h1 := HGT1.out; have h2 := HSZ.out; omega })
  have k2 := HK2.out.row #[.int .u64 sn, .string is, .string su, .slice (some ⟨w1.heap.size, 0, none⟩) 2017 2017, .slice xa n xc, .slice (some ⟨w3.heap.size, 0, none⟩) 3373 3373] (show w3.heap.size ≠ w.heap.size + 1 by { have h1 := HGT1.out; have h2 := HSZ.out; have h3 := HS13.out; omega })
  exact ⟨_, _, _, _, _, _, rfl, padK_len _ _, padK_len _ _, pad_in k1 (by decide) HY.out.1.2.2.1, pad_in k2 (by decide) HG.out.1.2.2.1, hb9⟩
theorem WholeF (w : World) (sn : Int) (is su : ByteArray) (ka : Option Addr) (kn kc : Nat) (xa : Option Addr) (n xc : Nat) (sa : Option Addr) (sl sc : Nat) (ya : Option Addr) (yn yc : Nat) (ga : Option Addr) (gn gc : Nat) (raw : Bool) (kb sb yb gb : List Nat) (hk : BIn w ka kn kc kb) (hs : BIn w sa sl sc sb) (hy : BIn w ya yn yc yb) (hg : BIn w ga gn gc gb) : Calls Tryz.prog 11 #[.agg #[.int .u64 sn, .string is, .string su, .slice ka kn kc, .slice xa n xc, .slice sa sl sc, .bool raw, .slice ya yn yc, .slice ga gn gc]] w (CertF sn is su (if raw then kb else padK 2017 yb) (if raw then sb else padK 3373 gb) xa n xc w) := by
  cases raw with
  | true => exact WholeF_raw w sn is su ka kn kc xa n xc sa sl sc ya yn yc ga gn gc kb sb hk hs
  | false => exact WholeF_made w sn is su ka kn kc xa n xc sa sl sc ya yn yc ga gn gc kb sb hk hs yb gb hy hg
end Go.Proofs.YtbabpmncdphnjaaGreat
namespace Go.Proofs.YtbabpmncdphnjaaGreat
open Go.RowKit
set_option linter.unusedVariables false
set_option maxRecDepth 100000
set_option linter.unusedSimpArgs false
theorem figs_take (F : List Nat) (q : Nat) (h : q < F.length) : figs (F.take (q + 1)) = figs (F.take q) ++ fig (F.getD q 0) := by
  rw [take_snoc F q h]; simp [figs]
theorem figs_len {F : List Nat} (h : ∀ v ∈ F, v ≤ 4294967295) : (figs F).length ≤ 5 * F.length := by
  induction F with
  | nil => simp [figs]
  | cons v F ih =>
    rw [figs_cons, List.length_append, List.length_cons]
    have := ih (fun u hu => h u (by simp [hu]))
    have := fig_len (h v (by simp))
    omega
def OfIs (R : Except Nat (List Nat)) (w : World) (e : Ending) (w' : World) : Prop :=
  Below w.heap.size w w' ∧ match R with
  | .error x => e = .returned (.tuple #[.agg #[.int .u8 0, .slice none 0 0, .slice none 0 0], .int .i64 (x : Nat)])
  | .ok b => ∃ a c, e = .returned (.tuple #[itV 6 a b.length c none 0 0, .int .i64 0]) ∧ ItIn w' 6 a c none 0 b .nil
theorem OfIs.err {R : Except Nat (List Nat)} {w w' : World} {x : Nat} (h : R = .error x) (hb : Below w.heap.size w w') : OfIs R w (.returned (.tuple #[.agg #[.int .u8 0, .slice none 0 0, .slice none 0 0], .int .i64 (x : Nat)])) w' := by subst h; exact ⟨hb, rfl⟩
theorem OfIs.good {R : Except Nat (List Nat)} {w w' : World} {b : List Nat} (h : R = .ok b) (hb : Below w.heap.size w w') {a : Option Addr} {n c : Nat} (hn : b.length = n) (hi : BIn w' a n c b) : OfIs R w (.returned (.tuple #[itV 6 a n c none 0 0, .int .i64 0])) w' := by
  subst h hn; exact ⟨hb, a, c, rfl, by decide, hi, KIn.nil _⟩
end Go.Proofs.YtbabpmncdphnjaaGreat
namespace Go.Proofs.YtbabpmncdphnjaaGreat
open Go.RowKit
set_option linter.unusedVariables false
set_option maxRecDepth 100000
set_option linter.unusedSimpArgs false
def OidIs (R : Except Nat (List Nat)) (w : World) (e : Ending) (w' : World) : Prop :=
  Below w.heap.size w w' ∧ match R with
  | .error x => e = .returned (.tuple #[.slice none 0 0, .int .i64 (x : Nat)])
  | .ok l => ∃ a c, e = .returned (.tuple #[.slice a l.length c, .int .i64 0]) ∧ WIn w' a l.length c l
theorem OidIs.err {R : Except Nat (List Nat)} {w w' : World} {x : Nat} (h : R = .error x) (hb : Below w.heap.size w w') : OidIs R w (.returned (.tuple #[.slice none 0 0, .int .i64 (x : Nat)])) w' := by subst h; exact ⟨hb, rfl⟩
theorem OidIs.good {R : Except Nat (List Nat)} {w w' : World} {l : List Nat} (h : R = .ok l) (hb : Below w.heap.size w w') {a : Option Addr} {n c : Nat} (hn : l.length = n) (hi : WIn w' a n c l) : OidIs R w (.returned (.tuple #[.slice a n c, .int .i64 0])) w' := by
  subst h hn; exact ⟨hb, a, c, rfl, hi⟩
end Go.Proofs.YtbabpmncdphnjaaGreat
namespace Go.Proofs.YtbabpmncdphnjaaGreat
open Go.RowKit
set_option linter.unusedVariables false
set_option maxRecDepth 100000
set_option linter.unusedSimpArgs false
def knownB (z : Int) : Bool := decide (z = 1 ∨ z = 2 ∨ z = 201 ∨ z = 202 ∨ z = 203 ∨ (100 < z ∧ z < 112))
set_option maxRecDepth 100000 in
theorem isKnown_any (z : Int) (w : World) : Calls Tryz.prog 74 #[.int .i64 z] w fun e w' => e = .returned (.bool (knownB z)) ∧ w = w' := by
  by_cases h1 : z = 1
  · subst h1; rw [show knownB 1 = true from by decide]; go_enter Tryz.func74, Tryz.ntmps74; go_wp2; go_ret; exact ⟨rfl, rfl⟩
  by_cases h2 : z = 2
  · subst h2; rw [show knownB 2 = true from by decide]; go_enter Tryz.func74, Tryz.ntmps74; go_wp2; go_ret; exact ⟨rfl, rfl⟩
  by_cases h3 : z = 201
  · subst h3; rw [show knownB 201 = true from by decide]; go_enter Tryz.func74, Tryz.ntmps74; go_wp2; go_ret; exact ⟨rfl, rfl⟩
  by_cases h4 : z = 202
  · subst h4; rw [show knownB 202 = true from by decide]; go_enter Tryz.func74, Tryz.ntmps74; go_wp2; go_ret; exact ⟨rfl, rfl⟩
  by_cases h5 : z = 203
  · subst h5; rw [show knownB 203 = true from by decide]; go_enter Tryz.func74, Tryz.ntmps74; go_wp2; go_ret; exact ⟨rfl, rfl⟩
  by_cases h6 : 100 < z
  · by_cases h7 : z < 112
    · rw [show knownB z = true from decide_eq_true (by omega)]; go_enter Tryz.func74, Tryz.ntmps74; go_wp2; go_ret; exact ⟨rfl, rfl⟩
    · rw [show knownB z = false from decide_eq_false (by omega)]; go_enter Tryz.func74, Tryz.ntmps74; go_wp2; go_ret; exact ⟨rfl, rfl⟩
  · rw [show knownB z = false from decide_eq_false (by omega)]; go_enter Tryz.func74, Tryz.ntmps74; go_wp2; go_ret; exact ⟨rfl, rfl⟩
end Go.Proofs.YtbabpmncdphnjaaGreat
namespace Go.Proofs.YtbabpmncdphnjaaGreat
open Go.RowKit
set_option linter.unusedVariables false
set_option maxRecDepth 100000
set_option linter.unusedSimpArgs false
abbrev FO (B0 base : Nat) : Nat → Prop := fun j => j < B0 ∨ base ≤ j
def extK (v : Nat) (cr : Bool) (l : List Nat) : Tr := .node 6 (oidB (ouri [2100, v])) .nil (if cr then .node 1 [255] .nil (.node 4 l .nil .nil) else .node 4 l .nil .nil)
theorem ext_ok {v : Nat} (h : v ≤ 4294967295) : oidOk (ouri [2100, v]) = true := by
  unfold oidOk ouri
  refine decide_eq_true ?_
  simp
  omega
theorem Dep.grown {D : Nat → Prop} {w w4 w5 : World} {q : Nat} {X : World → Prop} (h : Dep D w X) (hb : Below w.heap.size w w4) (hg : w4.grownBy w5 (some q)) (hq : w.heap.size ≤ q) : Dep D w5 X :=
  h.keep (Nat.le_trans hb.size hg.size) (fun j _ hl => (hg.block j (by have := hb.size; omega) (fun e => by injection e with e; omega)).trans (hb.block j hl)) (fun _ h _ => h)
theorem own_kin {D : Nat → Prop} {w : World} {base g n cap : Nat} {T : Tr} {xs : List Value} (hown : w.ownsRow base 45 3 (.slice (some ⟨g, 0, none⟩) n cap) n xs) (hn : T.len = n) (hl : n ≤ 1000) (h : Dep D w (fun x => Its x T xs)) :
    Dep (fun j => D j ∨ base ≤ j) w (fun x => KIn x (some ⟨g, 0, none⟩) cap T) := by
  intro w'' hw
  obtain ⟨cur, hb, hcl, htk, hnc, hcm, hbg⟩ := own_cur hown
  have hi := h w'' (fun j hj hl => hw j (.inl hj) hl)
  have hb2 : Blk w'' g 45 cur := hb.of (hw g (.inr hbg) hb.lt)
  refine ⟨⟨by omega, by omega, fun h => by cases h⟩, .inr ⟨g, 0, rfl, hi.row (fun j u hu => ?_)⟩⟩
  rw [Nat.zero_add, hb2.cell j]
  rw [← htk, List.getElem?_take] at hu
  split at hu
  · exact hu
  · cases hu
theorem all1_ext (z : Int) (b : Bool) (a : Option Addr) (n c : Nat) : ∀ u ∈ ([.int .i64 z, .bool b, .slice a n c] : List Value), u.oneCell' = true := by intro u hu; simp at hu; rcases hu with rfl | rfl | rfl <;> rfl
theorem all1_item (t : Int) (a : Option Addr) (n c : Nat) (a' : Option Addr) (n' c' : Nat) : ∀ u ∈ ([.int .u8 t, .slice a n c, .slice a' n' c'] : List Value), u.oneCell' = true := by intro u hu; simp at hu; rcases hu with rfl | rfl | rfl <;> rfl
theorem dep_its0 {D : Nat → Prop} {w : World} : Dep D w (fun x => Its x .nil []) := fun _ _ => rfl
theorem news_lit2 (w : World) (o : Obj) (t : TypeId) (cs : List Value) : ∀ j u, cs[j]? = some u → ((w.alloc o).alloc (.cells cs.toArray t)).cell? ((⟨w.heap.size + 1, 0, none⟩ : Addr).add j) = some u := by
  have := World.news_of_block (heap_alloc_new (w.alloc o) (.cells cs.toArray t))
  rw [World.size_alloc] at this
  exact this
theorem news_lit (w : World) (t : TypeId) (cs : List Value) : ∀ j u, cs[j]? = some u → (w.alloc (.cells cs.toArray t)).cell? ((⟨w.heap.size, 0, none⟩ : Addr).add j) = some u := World.news_of_block (heap_alloc_new w _)
theorem grown_base' {B g : Nat} {w0 w w' : World} (hb : Below B w0 w) (h : w.grownBy w' (some g)) (hg : B ≤ g) (hB : B ≤ w.heap.size) : Below B w0 w' :=
  hb.trans ⟨h.os, h.tape, h.output, h.size, fun k hk => h.block k (Nat.lt_of_lt_of_le hk hB) (fun e => by injection e with e; omega)⟩
set_option maxRecDepth 100000 in
set_option maxHeartbeats 8000000 in
theorem ofExt_false (w : World) (v : Nat) (h1 : 1 ≤ v) (h2 : v ≤ 2147483647) (l : List Nat) (a : Option Addr) (n c : Nat) (hn : l.length = n) (hn2 : n ≤ 140737488355328) (B0 : Nat) (hB : B0 ≤ w.heap.size) (hv : Dep (fun j => j < B0) w (fun W => BIn W a n c l)) :
    Calls Tryz.prog 82 #[.agg #[.int .i64 (v : Nat), .bool false, .slice a n c]] w (ItR (fun j => j < B0) 48 [] (extK v false l) w) := by
  have h00 := ((Below.refl _ w).alloc (Nat.le_refl _) (.cells #[.int .i64 (v : Nat), .bool false, .slice a n c] 67)).alloc (by simp) (.cells #[.int .u8 0, .slice none 0 0, .slice none 0 0] 45)
  have HBX := Lib.hid ((Blk.new w 67 [.int .i64 (v : Nat), .bool false, .slice a n c]).alloc (.cells #[.int .u8 0, .slice none 0 0, .slice none 0 0] 45))
  have HRS := Lib.hid (Blk.new2 w (.cells #[.int .i64 (v : Nat), .bool false, .slice a n c] 67) 45 [.int .u8 0, .slice none 0 0, .slice none 0 0])
  have HSZ := Lib.hid (show w.heap.size + 2 ≤ ((w.alloc (.cells #[.int .i64 (v : Nat), .bool false, .slice a n c] 67)).alloc (.cells #[.int .u8 0, .slice none 0 0, .slice none 0 0] 45)).heap.size by simp)
  have HV := Lib.hid (hv.below h00)
  have H00 := Lib.hid h00
  have HN := Lib.hid hn
  have HB := Lib.hid hB
  have hvi : (v : Int) ≤ 2147483647 := by omega
  have hv0 : (0 : Int) ≤ (v : Int) := by omega
  have H2 := Lib.hid h2
  obtain ⟨i25, hi25, hz25, hs25, hy25⟩ := info_parts info25z
  clear hv h00 hn hB h1 h2
  go_enter Tryz.func82, Tryz.ntmps82
  generalize hW0 : (w.alloc (.cells #[.int .i64 (v : Nat), .bool false, .slice a n c] 67)).alloc (.cells #[.int .u8 0, .slice none 0 0, .slice none 0 0] 45) = W0 at *
  have k0 := blkc HBX.out (i := 0) rfl
  go_wp2_with (first | (go_at_call 98; go_loud ((with_reducible refine (ours_any _ _ 2 2 [2100, v] (wlit W0 [2100, v] #[.int .u64 2100, .int .u64 (v : Nat)] 2 rfl rfl (by intro u hu; have := H2.out; simp at hu; omega) (by simp)) (by decide)).mono ?_); rintro e w2 ⟨x2, y2, rfl, hi2, hb2⟩; have hg2 : Gr W0 w2 := (Gr.alloc _ _).trans hb2; have HI2 := Lib.hid hi2; have H02 := Lib.hid (H00.out.trans (Below.mono hg2 H00.out.size)); have HBX := Lib.hid (HBX.out.below' hg2); have HRS := Lib.hid (HRS.out.below' hg2); have HV := Lib.hid (HV.out.below hg2); have HS2 := Lib.hid (Nat.le_trans HSZ.out hg2.size); clear hb2 hi2 hg2)) | (go_at_call 97; go_loud ((with_reducible refine (itB (base := w.heap.size + 2) (object_d _ _ _ _ (ouri [2100, v]) (ext_ok (by have := H2.out; omega)) HI2.out) HS2.out (fun _ h => h.elim)).mono ?_); rintro e w3 ⟨a3, n3, c3, b3, m3, d3, hn3, hm3, rfl, hd3, hb3⟩; have HN3 := Lib.hid hn3; have HM3 := Lib.hid hm3; have HD3 := Lib.hid hd3; have hg3 : Gr w2 w3 := hb3; have H03 := Lib.hid (H02.out.trans (Below.mono hg3 H02.out.size)); have HBX := Lib.hid (HBX.out.below' hg3); have HRS := Lib.hid (HRS.out.below' hg3); have HV := Lib.hid (HV.out.below hg3); have HS3 := Lib.hid (Nat.le_trans HS2.out hg3.size); have HO3 := Lib.hid (World.ownsRow_lit (base := w.heap.size + 2) (e := 45) (size := 3) w3 #[.int .u8 6, .slice a3 n3 c3, .slice b3 m3 d3] 1 HS3.out (by decide) rfl); have kb : ∀ o, (w3.alloc o).cell? ⟨w.heap.size, 1, none⟩ = some (.bool false) := fun o => blkc (HBX.out.alloc o) (i := 1) rfl; have kv : ∀ o, (w3.alloc o).cell? ⟨w.heap.size, 2, none⟩ = some (.slice a n c) := fun o => blkc (HBX.out.alloc o) (i := 2) rfl; clear hd3 hn3 hm3 hb3 hg3)) | (at_builtin; refine wpList_append_lies _ rfl (.tmp 17) (.tmp 21) 43 rfl (w.heap.size + 2) 45 i25 _ 3 56 Tryz.underlying43 hi25 hz25 hs25 hy25 rfl (by decide) (.slice (some ⟨w3.heap.size, 0, none⟩) 1 1) 1 [.int .u8 6, .slice a3 n3 c3, .slice b3 m3 d3] rfl (own_below HO3.out ((Below.refl _ _).alloc (Nat.le_refl _) _)) ⟨w3.heap.size + 1, 0, none⟩ 1 1 [.int .u8 4, .slice a n c, .slice none 0 0] rfl rfl (news_lit2 _ _ _ _) (all1_item _ _ _ _ _ _ _) (by decide) (by decide) (by decide) (by have := HS3.out; simp; omega) _ rfl ?_; intro g5 cap5 w5 hown5 hg5 hat5 hlt5; go_loud (replace hg5 : World.grownBy ((w3.alloc (.cells #[.int .u8 6, .slice a3 n3 c3, .slice b3 m3 d3] 45)).alloc (.cells #[.int .u8 4, .slice a n c, .slice none 0 0] 45)) w5 (some w3.heap.size) := hg5; have hg4 : Gr w3 ((w3.alloc (.cells #[.int .u8 6, .slice a3 n3 c3, .slice b3 m3 d3] 45)).alloc (.cells #[.int .u8 4, .slice a n c, .slice none 0 0] 45)) := (Gr.alloc _ _).trans (Gr.alloc _ _); have HIT := Lib.hid ((HD3.out.mono (E := FO B0 (w.heap.size + 2)) (fun j hj _ => .inr hj)).grown hg4 hg5 (Nat.le_refl _)); have HV5 := Lib.hid ((HV.out.mono (E := FO B0 (w.heap.size + 2)) (fun j hj _ => .inl hj)).grown hg4 hg5 (Nat.le_refl _)); have HOW := Lib.hid hown5; have HRS := Lib.hid ((HRS.out.below' hg4).grown hg5 (by have := HS3.out; intro e; injection e with e; omega)); have H05 := Lib.hid (grown_base' (H03.out.trans (Below.mono hg4 H03.out.size)) hg5 (by have := HS3.out; omega) (by have := HS3.out; simp; omega)); have HS5 := Lib.hid (Nat.le_trans HS3.out (Nat.le_trans hg4.size hg5.size)); clear hg4 hown5 hg5 hat5 hlt5)) | (go_at_call 80; go_loud (have hkds : Dep (FO B0 (w.heap.size + 2)) w5 (fun x => KIn x (some ⟨g5, 0, none⟩) cap5 (extK v false l)) := (((own_kin HOW.out rfl (by decide) ((dep_cons HN3.out HM3.out HIT.out (dep_cons HN.out rfl (dep_itnil (by decide) (by have := HN.out; omega) (by rw [HN.out]; exact HV5.out)) (dep_its0 (D := FO B0 (w.heap.size + 2))))).mono (E := FO B0 (w.heap.size + 2)) (fun j hj _ => by rcases hj with h | h | h <;> exact h)))).mono (E := FO B0 (w.heap.size + 2)) (fun j hj _ => by rcases hj with h | h; exact h; exact .inr h)); (with_reducible refine (seq_d (FO B0 (w.heap.size + 2)) _ _ 2 _ (extK v false l) rfl hkds).mono ?_); rintro e w6 ⟨a6, n6, c6, b6, m6, d6, hn6, hm6, rfl, hd6, hb6⟩; have HN6 := Lib.hid hn6; have HM6 := Lib.hid hm6; have hg6 : Gr w5 w6 := hb6; have HD6 := Lib.hid (hd6.mono (E := FO B0 (w.heap.size + 2)) (fun j hj _ => by rcases hj with h | h; exact h; exact .inr (Nat.le_trans HS5.out h))); have HRS := Lib.hid (HRS.out.below' hg6); have H06 := Lib.hid (H05.out.trans (Below.mono hg6 H05.out.size)); clear hn6 hm6 hd6 hb6 hg6 hkds)) | (refine wpList_store_row (P := Tryz.prog) rfl 45 (.tmp 2) (.tmp 23) rfl (w.heap.size + 1) #[.int .u8 48, .slice a6 n6 c6, .slice b6 m6 d6] rfl rfl 45 _ HRS.out info25 rfl (all_item _ _ _ _ _ _ _) ?_))
  refine bodyPost_ret (results_one Tryz.results82 _ _ (w.heap.size + 1) 45 _ (0, 0) _ rfl (HRS.out.setRow [.int .u8 48, .slice a6 n6 c6, .slice b6 m6 d6]) Tryz.underlying45 rfl info25) rfl ?_
  exact ⟨a6, n6, c6, b6, m6, d6, HN6.out, HM6.out, rfl, (HD6.out.row (w.heap.size + 1) #[.int .u8 48, .slice a6 n6 c6, .slice b6 m6 d6] (fun h => by have := HB.out; rcases h with h | h <;> omega)).mono (fun j hj _ => by rcases hj with h | h; exact .inl h; exact .inr (by omega)), below_setRow' H06.out (by omega) _⟩
theorem Dep.skip {D : Nat → Prop} {w w4 w5 : World} {q : Nat} {X : World → Prop} (h : Dep D w X) (hb : Below w.heap.size w w4) (hg : w4.grownBy w5 (some q)) (hq : ¬ D q) : Dep D w5 X :=
  h.keep (Nat.le_trans hb.size hg.size) (fun j hj hl => (hg.block j (by have := hb.size; omega) (fun e => by injection e with e; exact hq (e ▸ hj))).trans (hb.block j hl)) (fun _ h _ => h)
theorem Dep.self {D : Nat → Prop} {w : World} {X : World → Prop} (h : Dep D w X) : Dep (fun j => D j ∧ j < w.heap.size) w X := h.mono (fun j hj hl => ⟨hj, hl⟩)
theorem true_own (w : World) : ((w.alloc (.cells #[.int .u8 0, .slice none 0 0, .slice none 0 0] 45)).alloc (.cells #[.int .u8 255] 5)).ownsRow (w.heap.size + 1) 5 1 (.slice (some ⟨w.heap.size + 1, 0, none⟩) 1 1) 1 (bytesV [255]) := by
  have := World.ownsRow_lit (base := w.heap.size + 1) (e := 5) (size := 1) (w.alloc (.cells #[.int .u8 0, .slice none 0 0, .slice none 0 0] 45)) #[.int .u8 255] 1 (by simp) (by decide) rfl
  rw [World.size_alloc] at this
  exact this
set_option maxHeartbeats 4000000 in
theorem OfTrue_d (w : World) : Calls Tryz.prog 108 #[.bool true] w (ItR NoD 1 [255] .nil w) := by
  have H1 := Lib.hid ((Blk.new w 45 [.int .u8 0, .slice none 0 0, .slice none 0 0]).alloc (.cells #[.int .u8 255] 5))
  have HD := Lib.hid (dep_itnil (t := 1) (by decide) (by decide) (dep_own (l := [255]) (true_own w) (by simp) (by decide)))
  have H00 := Lib.hid (((Below.refl _ w).alloc (Nat.le_refl _) (.cells #[.int .u8 0, .slice none 0 0, .slice none 0 0] 45)).alloc (by simp) (.cells #[.int .u8 255] 5))
  go_enter Tryz.func108, Tryz.ntmps108
  go_wp2_with (refine wpList_store_row (P := Tryz.prog) rfl 45 (.tmp 2) (.tmp 5) rfl w.heap.size #[.int .u8 1, .slice (some ⟨w.heap.size + 1, 0, none⟩) 1 1, .slice none 0 0] rfl rfl 45 _ H1.out info25 rfl (all_item _ _ _ _ _ _ _) ?_)
  refine bodyPost_ret (results_one Tryz.results108 _ _ w.heap.size 45 _ (0, 0) _ rfl (H1.out.setRow [.int .u8 1, .slice (some ⟨w.heap.size + 1, 0, none⟩) 1 1, .slice none 0 0]) Tryz.underlying45 rfl info25) rfl ?_
  exact fin_item rfl rfl (by simp) HD.out H00.out _
set_option maxRecDepth 100000 in
set_option maxHeartbeats 8000000 in
theorem ofExt_true (w : World) (v : Nat) (h1 : 1 ≤ v) (h2 : v ≤ 2147483647) (l : List Nat) (a : Option Addr) (n c : Nat) (hn : l.length = n) (hn2 : n ≤ 140737488355328) (B0 : Nat) (hB : B0 ≤ w.heap.size) (hv : Dep (fun j => j < B0) w (fun W => BIn W a n c l)) :
    Calls Tryz.prog 82 #[.agg #[.int .i64 (v : Nat), .bool true, .slice a n c]] w (ItR (fun j => j < B0) 48 [] (extK v true l) w) := by
  have h00 := ((Below.refl _ w).alloc (Nat.le_refl _) (.cells #[.int .i64 (v : Nat), .bool true, .slice a n c] 67)).alloc (by simp) (.cells #[.int .u8 0, .slice none 0 0, .slice none 0 0] 45)
  have HBX := Lib.hid ((Blk.new w 67 [.int .i64 (v : Nat), .bool true, .slice a n c]).alloc (.cells #[.int .u8 0, .slice none 0 0, .slice none 0 0] 45))
  have HRS := Lib.hid (Blk.new2 w (.cells #[.int .i64 (v : Nat), .bool true, .slice a n c] 67) 45 [.int .u8 0, .slice none 0 0, .slice none 0 0])
  have HSZ := Lib.hid (show w.heap.size + 2 ≤ ((w.alloc (.cells #[.int .i64 (v : Nat), .bool true, .slice a n c] 67)).alloc (.cells #[.int .u8 0, .slice none 0 0, .slice none 0 0] 45)).heap.size by simp)
  have HV := Lib.hid (hv.below h00)
  have H00 := Lib.hid h00
  have HN := Lib.hid hn
  have HB := Lib.hid hB
  have hvi : (v : Int) ≤ 2147483647 := by omega
  have hv0 : (0 : Int) ≤ (v : Int) := by omega
  have H2 := Lib.hid h2
  obtain ⟨i25, hi25, hz25, hs25, hy25⟩ := info_parts info25z
  clear hv h00 hn hB h1 h2
  go_enter Tryz.func82, Tryz.ntmps82
  generalize hW0 : (w.alloc (.cells #[.int .i64 (v : Nat), .bool true, .slice a n c] 67)).alloc (.cells #[.int .u8 0, .slice none 0 0, .slice none 0 0] 45) = W0 at *
  have k0 := blkc HBX.out (i := 0) rfl
  go_wp2_with (first | (go_at_call 98; go_loud ((with_reducible refine (ours_any _ _ 2 2 [2100, v] (wlit W0 [2100, v] #[.int .u64 2100, .int .u64 (v : Nat)] 2 rfl rfl (by intro u hu; have := H2.out; simp at hu; omega) (by simp)) (by decide)).mono ?_); rintro e w2 ⟨x2, y2, rfl, hi2, hb2⟩; have hg2 : Gr W0 w2 := (Gr.alloc _ _).trans hb2; have HI2 := Lib.hid hi2; have H02 := Lib.hid (H00.out.trans (Below.mono hg2 H00.out.size)); have HBX := Lib.hid (HBX.out.below' hg2); have HRS := Lib.hid (HRS.out.below' hg2); have HV := Lib.hid (HV.out.below hg2); have HS2 := Lib.hid (Nat.le_trans HSZ.out hg2.size); clear hb2 hi2 hg2)) | (go_at_call 97; go_loud ((with_reducible refine (itB (base := w.heap.size + 2) (object_d _ _ _ _ (ouri [2100, v]) (ext_ok (by have := H2.out; omega)) HI2.out) HS2.out (fun _ h => h.elim)).mono ?_); rintro e w3 ⟨a3, n3, c3, b3, m3, d3, hn3, hm3, rfl, hd3, hb3⟩; have HN3 := Lib.hid hn3; have HM3 := Lib.hid hm3; have HD3 := Lib.hid hd3.self; have hg3 : Gr w2 w3 := hb3; have H03 := Lib.hid (H02.out.trans (Below.mono hg3 H02.out.size)); have HBX := Lib.hid (HBX.out.below' hg3); have HRS := Lib.hid (HRS.out.below' hg3); have HV := Lib.hid (HV.out.below hg3); have HS3 := Lib.hid (Nat.le_trans HS2.out hg3.size); have HO3 := Lib.hid (World.ownsRow_lit (base := w.heap.size + 2) (e := 45) (size := 3) w3 #[.int .u8 6, .slice a3 n3 c3, .slice b3 m3 d3] 1 HS3.out (by decide) rfl); have kb : ∀ o, (w3.alloc o).cell? ⟨w.heap.size, 1, none⟩ = some (.bool true) := fun o => blkc (HBX.out.alloc o) (i := 1) rfl; have kv : ∀ o, (w3.alloc o).cell? ⟨w.heap.size, 2, none⟩ = some (.slice a n c) := fun o => blkc (HBX.out.alloc o) (i := 2) rfl; clear hd3 hn3 hm3 hb3 hg3)) | (go_at_call 108; go_loud ((with_reducible refine (OfTrue_d _).mono ?_); rintro e w4 ⟨a4, n4, c4, b4, m4, d4, hn4, hm4, rfl, hd4, hb4⟩; have HN4 := Lib.hid hn4; have HM4 := Lib.hid hm4; have hg4 : Gr w3 w4 := (Gr.alloc _ _).trans hb4; have hs4 : w3.heap.size + 1 ≤ w4.heap.size := by { have h1 := Below.size hb4; simp only [World.size_alloc] at h1; exact h1 }; have HD4 := Lib.hid ((hd4.mono (E := fun j => w3.heap.size + 1 ≤ j) (fun j hj _ => by rcases hj with h | h; exact h.elim; rw [World.size_alloc] at h; exact h)).self); have HO3 := Lib.hid (own_below HO3.out hb4); have HD3 := Lib.hid (HD3.out.below hg4); have HV := Lib.hid (HV.out.below hg4); have HBX := Lib.hid (HBX.out.below' hg4); have HRS := Lib.hid (HRS.out.below' hg4); have H04 := Lib.hid (H03.out.trans (Below.mono hg4 H03.out.size)); have HS4 := Lib.hid hs4; clear hn4 hm4 hd4 hb4 hg4 hs4)) | (at_builtin; refine wpList_append_lies _ rfl (.tmp 13) (.tmp 15) 43 rfl (w.heap.size + 2) 45 i25 _ 3 56 Tryz.underlying43 hi25 hz25 hs25 hy25 rfl (by decide) (.slice (some ⟨w3.heap.size, 0, none⟩) 1 1) 1 [.int .u8 6, .slice a3 n3 c3, .slice b3 m3 d3] rfl (own_below HO3.out ((Below.refl _ _).alloc (Nat.le_refl _) _)) ⟨w4.heap.size, 0, none⟩ 1 1 [.int .u8 1, .slice a4 n4 c4, .slice b4 m4 d4] rfl rfl (news_lit _ _ _) (all1_item _ _ _ _ _ _ _) (by decide) (by decide) (by decide) (by { have h1 := HS3.out; have h2 := HS4.out; simp; omega }) _ rfl ?_; intro g5 cap5 w5 hown5 hg5 hat5 hlt5; go_loud (replace hg5 : World.grownBy (w4.alloc (.cells #[.int .u8 1, .slice a4 n4 c4, .slice b4 m4 d4] 45)) w5 (some w3.heap.size) := hg5; replace hat5 : some w3.heap.size = some g5 ∨ g5 = (w4.alloc (.cells #[.int .u8 1, .slice a4 n4 c4, .slice b4 m4 d4] 45)).heap.size := hat5; have hg4 : Gr w4 (w4.alloc (.cells #[.int .u8 1, .slice a4 n4 c4, .slice b4 m4 d4] 45)) := Gr.alloc _ _; have HG5 := Lib.hid (show g5 = w3.heap.size ∨ w4.heap.size ≤ g5 from by { rcases hat5 with h | h; injection h with h; exact .inl h.symm; rw [World.size_alloc] at h; exact .inr (by omega) }); have HOW := Lib.hid hown5; have HD3 := Lib.hid (HD3.out.skip hg4 hg5 (fun h => Nat.lt_irrefl _ h.2)); have HD4 := Lib.hid (HD4.out.skip hg4 hg5 (fun h => by omega)); have HV := Lib.hid (HV.out.skip hg4 hg5 (fun h => by { have h1 := HB.out; have h2 := HS3.out; omega })); have HBX := Lib.hid ((HBX.out.below' hg4).grown hg5 (by have := HS3.out; intro e; injection e with e; omega)); have HRS := Lib.hid ((HRS.out.below' hg4).grown hg5 (by have := HS3.out; intro e; injection e with e; omega)); have H05 := Lib.hid (grown_base' (H04.out.trans (Below.mono hg4 H04.out.size)) hg5 (by have := HS3.out; omega) (by have h1 := HS3.out; have h2 := HS4.out; simp; omega)); have HS5 := Lib.hid (Nat.le_trans HS4.out (Nat.le_trans hg4.size hg5.size)); have kv := blkc HBX.out (i := 2) rfl; clear hg4 hown5 hg5 hat5 hlt5)) | (at_builtin; refine wpList_append_lies _ rfl (.tmp 17) (.tmp 21) 43 rfl (w.heap.size + 2) 45 i25 _ 3 56 Tryz.underlying43 hi25 hz25 hs25 hy25 rfl (by decide) (.slice (some ⟨g5, 0, none⟩) 2 cap5) 2 ([.int .u8 6, .slice a3 n3 c3, .slice b3 m3 d3] ++ [.int .u8 1, .slice a4 n4 c4, .slice b4 m4 d4]) rfl (own_below HOW.out ((Below.refl _ _).alloc (Nat.le_refl _) _)) ⟨w5.heap.size, 0, none⟩ 1 1 [.int .u8 4, .slice a n c, .slice none 0 0] rfl rfl (news_lit _ _ _) (all1_item _ _ _ _ _ _ _) (by decide) (by decide) (by decide) (by { have h1 := HS3.out; have h2 := HS5.out; simp; omega }) _ rfl ?_; intro g6 cap6 w6 hown6 hg6 hat6 hlt6; go_loud (replace hg6 : World.grownBy (w5.alloc (.cells #[.int .u8 4, .slice a n c, .slice none 0 0] 45)) w6 (some g5) := hg6; have hg4 : Gr w5 (w5.alloc (.cells #[.int .u8 4, .slice a n c, .slice none 0 0] 45)) := Gr.alloc _ _; have HOW6 := Lib.hid hown6; have hq : w3.heap.size ≤ g5 ∧ (g5 = w3.heap.size ∨ w4.heap.size ≤ g5) := by { have h1 := HS4.out; rcases HG5.out with h | h; exact ⟨by omega, .inl h⟩; exact ⟨by omega, .inr h⟩ }; have HD3 := Lib.hid (HD3.out.skip hg4 hg6 (fun h => by { have := h.2; omega })); have HD4 := Lib.hid (HD4.out.skip hg4 hg6 (fun h => by { have h1 := h.1; have h2 := h.2; omega })); have HV := Lib.hid (HV.out.skip hg4 hg6 (fun h => by { have h1 := HB.out; have h2 := HS3.out; omega })); have HRS := Lib.hid ((HRS.out.below' hg4).grown hg6 (by have := HS3.out; intro e; injection e with e; omega)); have H06 := Lib.hid (grown_base' (H05.out.trans (Below.mono hg4 H05.out.size)) hg6 (by have := HS3.out; omega) (by have h1 := HS3.out; have h2 := HS5.out; simp; omega)); have HS6 := Lib.hid (Nat.le_trans HS5.out (Nat.le_trans hg4.size hg6.size)); clear hg4 hown6 hg6 hat6 hlt6 hq)) | (go_at_call 80; go_loud (have hkds : Dep (FO B0 (w.heap.size + 2)) w6 (fun x => KIn x (some ⟨g6, 0, none⟩) cap6 (extK v true l)) := ((own_kin HOW6.out rfl (by decide) ((dep_cons HN3.out HM3.out HD3.out (dep_cons HN4.out HM4.out HD4.out (dep_cons HN.out rfl (dep_itnil (by decide) (by have := HN.out; omega) (by rw [HN.out]; exact HV.out)) (dep_its0 (D := NoD))))).mono (E := FO B0 (w.heap.size + 2)) (fun j hj _ => by { have h1 := HS3.out; rcases hj with h | h | h | h; exact .inr h.1; exact .inr (by have := h.1; omega); exact .inl h; exact h.elim }))).mono (E := FO B0 (w.heap.size + 2)) (fun j hj _ => by rcases hj with h | h; exact h; exact .inr h)); (with_reducible refine (seq_d (FO B0 (w.heap.size + 2)) _ _ 3 _ (extK v true l) rfl hkds).mono ?_); rintro e w7 ⟨a6, n6, c6, b6, m6, d6, hn6, hm6, rfl, hd6, hb6⟩; have HN6 := Lib.hid hn6; have HM6 := Lib.hid hm6; have hg6 : Gr w6 w7 := hb6; have HD6 := Lib.hid (hd6.mono (E := FO B0 (w.heap.size + 2)) (fun j hj _ => by { have h1 := HS3.out; have h2 := HS6.out; rcases hj with h | h; exact h; exact .inr (by omega) })); have HRS := Lib.hid (HRS.out.below' hg6); have H06 := Lib.hid (H06.out.trans (Below.mono hg6 H06.out.size)); clear hn6 hm6 hd6 hb6 hg6 hkds)) | (refine wpList_store_row (P := Tryz.prog) rfl 45 (.tmp 2) (.tmp 23) rfl (w.heap.size + 1) #[.int .u8 48, .slice a6 n6 c6, .slice b6 m6 d6] rfl rfl 45 _ HRS.out info25 rfl (all_item _ _ _ _ _ _ _) ?_))
  refine bodyPost_ret (results_one Tryz.results82 _ _ (w.heap.size + 1) 45 _ (0, 0) _ rfl (HRS.out.setRow [.int .u8 48, .slice a6 n6 c6, .slice b6 m6 d6]) Tryz.underlying45 rfl info25) rfl ?_
  exact ⟨a6, n6, c6, b6, m6, d6, HN6.out, HM6.out, rfl, (HD6.out.row (w.heap.size + 1) #[.int .u8 48, .slice a6 n6 c6, .slice b6 m6 d6] (fun h => by have := HB.out; rcases h with h | h <;> omega)).mono (fun j hj _ => by rcases hj with h | h; exact .inl h; exact .inr (by omega)), below_setRow' H06.out (by omega) _⟩
theorem ofExt_k (w : World) (v : Nat) (cr : Bool) (h1 : 1 ≤ v) (h2 : v ≤ 2147483647) (l : List Nat) (a : Option Addr) (n c : Nat) (hn : l.length = n) (hn2 : n ≤ 140737488355328) (B0 : Nat) (hB : B0 ≤ w.heap.size) (hv : Dep (fun j => j < B0) w (fun W => BIn W a n c l)) :
    Calls Tryz.prog 82 #[.agg #[.int .i64 (v : Nat), .bool cr, .slice a n c]] w (ItR (fun j => j < B0) 48 [] (extK v cr l) w) := by
  cases cr with
  | true => exact ofExt_true w v h1 h2 l a n c hn hn2 B0 hB hv
  | false => exact ofExt_false w v h1 h2 l a n c hn hn2 B0 hB hv
end Go.Proofs.YtbabpmncdphnjaaGreat
