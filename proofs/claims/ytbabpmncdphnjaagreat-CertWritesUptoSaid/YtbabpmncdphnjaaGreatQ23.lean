/- Parts of proofs of statements, each text behind those that it stands on. No condition of its own. -/
import Derived.Lib.SlBytesConst
import Derived.Test.YtbabpmncdphnjaaGreatQ22
namespace Go.Proofs.YtbabpmncdphnjaaGreat
open Go.RowKit
set_option linter.unusedVariables false
set_option maxRecDepth 100000
set_option linter.unusedSimpArgs false
theorem roid_r {l : List Nat} (hok : oidOk l = true) {w : World} {a : Option Addr} {n c : Nat} (hin : WIn w a n c l) : Calls Tryz.prog 87 #[.slice a n c] w fun e w' => ∃ a n c, (oidB l).length = n ∧ e = .returned (.tuple #[itV 6 a n c none 0 0, .int .i64 0]) ∧ Dep (fun j => w.heap.size ≤ j) w' (fun x => ItIn x 6 a c none 0 (oidB l) .nil) ∧ Below w.heap.size w w' := by
  refine (rOfOID_d w a n c l hin).mono fun e w' h => ?_
  obtain ⟨hb, h⟩ := h
  have h0 : ofE l = .ok (oidB l) := ofE_ok hok
  rw [h0] at h
  obtain ⟨a, n, c, h1, h2, h3⟩ := h
  exact ⟨a, n, c, h1, h2, h3, hb⟩
theorem dep_new {D : Nat → Prop} {w : World} {X : World → Prop} (h : Dep D w X) (o : Obj) (cs : Array Value) : Dep D ((w.alloc o).setRow w.heap.size cs) X :=
  ((h.cut (Gr.alloc w o)).row w.heap.size cs (fun h => Nat.lt_irrefl _ h.2)).mono (fun j hj _ => hj.1)
theorem dep_blkf {w : World} {g n m : Nat} {L : List Nat} {fr : Nat × Nat} (h : w.heap[g]? = some (.cells (natsV .u8 L).toArray 5 fr)) (hl : L.length = n) (hn : n ≤ 100000) (h8 : ∀ x ∈ L, x < 256) (hm : m ≤ g) : Dep (FB m) w (fun x => BIn x (some ⟨g, 0, none⟩) n n L) := by
  intro w'' hw
  have h2 := (hw g hm (Array.getElem?_eq_some_iff.1 h).1).trans h
  refine ⟨⟨hl, by simp only [maxLen]; omega, h8, .inr ⟨g, 0, rfl, fun i hi => ?_⟩⟩, Nat.le_refl _, by simp only [maxLen]; omega, by omega, fun h => by cases h⟩
  rw [Nat.zero_add, cell_of_row w'' g i _ _ _ h2]
  have := natsV_get .u8 L i (by omega)
  simpa using this
theorem rplain_b {base : Nat} (t : Nat) (ti : Int) (hti : (t : Int) = ti) (ht : t < 256) (w : World) (a : Option Addr) (n c : Nat) (b : List Nat) (hn : b.length = n) (hl : n ≤ 140737488355328) (hb : base ≤ w.heap.size) (h : Dep (FB base) w (fun x => BIn x a n c b)) : Calls Tryz.prog 88 #[.int .u8 ti, .slice a n c] w (ItB base t b .nil w) :=
  itB (rplain_d (FB base) t ti hti ht w a n c b hn hl h) hb (fun _ h => h)
set_option maxRecDepth 100000 in
set_option maxHeartbeats 8000000 in
theorem robject_d (w : World) (a b : Nat) (ai bi : Int) (hai : (a : Int) = ai) (hbi : (b : Int) = bi) (ha : a < 18446744073709551616) (hb0 : 0 < b) (hb : b < 18446744073709551616) (hok : oidOk (ouri [a, b]) = true) :
    Calls Tryz.prog 49 #[.int .u64 ai, .int .u64 bi] w (ItR NoD 6 (oidB (ouri [a, b])) .nil w) := by
  subst hai hbi
  have B0 := Lib.hid (Blk.new w 45 [.int .u8 0, .slice none 0 0, .slice none 0 0])
  have BEL := Lib.hid ((Below.refl _ w).alloc (Nat.le_refl _) (.cells #[.int .u8 0, .slice none 0 0, .slice none 0 0] 45))
  have HSW1 := Lib.hid (show w.heap.size + 1 ≤ (w.alloc (.cells #[.int .u8 0, .slice none 0 0, .slice none 0 0] 45)).heap.size by simp)
  have hbp : (0 : Int) < (b : Int) := by omega
  have HOK := Lib.hid hok
  have HA := Lib.hid ha
  have HB := Lib.hid hb
  clear hok ha hb hb0
  go_enter Tryz.func49, Tryz.ntmps49
  generalize hW1 : w.alloc (.cells #[.int .u8 0, .slice none 0 0, .slice none 0 0] 45) = W1 at *
  have HL8 := Lib.hid (show (W1.alloc (.cells #[.int .u64 1, .int .u64 3, .int .u64 6, .int .u64 1, .int .u64 4, .int .u64 1, .int .u64 4128, .int .u64 (a : Nat)] 23)).ownsRow W1.heap.size 23 1 (.slice (some ⟨W1.heap.size, 0, none⟩) 8 8) 8 (wordsV [1, 3, 6, 1, 4, 1, 4128, a]) from litw W1 [1, 3, 6, 1, 4, 1, 4128, a] (by simp))
  have HL1 := Lib.hid (show WIn ((W1.alloc (.cells #[.int .u64 1, .int .u64 3, .int .u64 6, .int .u64 1, .int .u64 4, .int .u64 1, .int .u64 4128, .int .u64 (a : Nat)] 23)).alloc (.cells #[.int .u64 (b : Nat)] 23)) (some ⟨W1.heap.size + 1, 0, none⟩) 1 1 [b] from by
    have := wlit (W1.alloc (.cells #[.int .u64 1, .int .u64 3, .int .u64 6, .int .u64 1, .int .u64 4, .int .u64 1, .int .u64 4128, .int .u64 (a : Nat)] 23)) [b] #[.int .u64 (b : Nat)] 1 rfl rfl (by intro x hx; have := HB.out; simp at hx; omega) (by simp)
    rwa [World.size_alloc] at this)
  go_wp2_with (at_builtin; refine wpList_append_words rfl (.tmp 12) (.tmp 14) rfl W1.heap.size (.slice (some ⟨W1.heap.size, 0, none⟩) 8 8) 8 [1, 3, 6, 1, 4, 1, 4128, a] rfl (own_below HL8.out (Gr.alloc _ _)) (some ⟨W1.heap.size + 1, 0, none⟩) 1 1 [b] rfl HL1.out (by omega) (by simp; omega) ?_)
  intro v5 w5 ho5 hg5
  have hb5 : Below W1.heap.size W1 w5 := by
    have h1 := ((Below.refl _ W1).alloc (Nat.le_refl _) (.cells #[.int .u64 1, .int .u64 3, .int .u64 6, .int .u64 1, .int .u64 4, .int .u64 1, .int .u64 4128, .int .u64 (a : Nat)] 23)).alloc (by simp) (.cells #[.int .u64 (b : Nat)] 23)
    exact h1.grown hg5 h1.size (fun x hx => by simp [Value.ownBlock] at hx; omega)
  obtain ⟨a5, c5, hv5, hin5, _⟩ := ownw_in (l := ouri [a, b]) ho5 (by
    intro x hx
    have := HA.out
    have := HB.out
    simp [ouri] at hx
    omega) (by omega)
  subst hv5
  have HI5 := Lib.hid hin5
  have HS5 := Lib.hid (Nat.le_trans HSW1.out hb5.size)
  have B5 := Lib.hid (B0.out.below' hb5)
  have BEL5 := Lib.hid (BEL.out.trans (Below.mono hb5 BEL.out.size))
  clear ho5 hg5 hb5 hin5 B0 BEL HL8 HL1
  go_wp2_with (first
    | (go_at_call 87; go_loud ((with_reducible refine (roid_r HOK.out HI5.out).mono ?_); rintro e w6 ⟨a6, n6, c6, hn6, rfl, hd6, hb6⟩; have HN6 := Lib.hid hn6; have HS6 := Lib.hid (Nat.le_trans HS5.out hb6.size); have HD6 := Lib.hid (hd6.mono (E := FB (w.heap.size + 1)) (fun j (hj : w5.heap.size ≤ j) _ => Nat.le_trans HS5.out hj)); have H6 := Lib.hid ((Blk.new w6 45 [.int .u8 0, .slice none 0 0, .slice none 0 0]).setRow [.int .u8 6, .slice a6 n6 c6, .slice none 0 0]); have HZ6 := Lib.hid (Blk.new w6 45 [.int .u8 0, .slice none 0 0, .slice none 0 0]); have B6 := Lib.hid (((B5.out.below' hb6).alloc (.cells #[.int .u8 0, .slice none 0 0, .slice none 0 0] 45)).row #[.int .u8 6, .slice a6 n6 c6, .slice none 0 0] (show w.heap.size ≠ w6.heap.size by have := HS6.out; omega)); have BEL6 := Lib.hid (BEL5.out.trans (Below.mono hb6 BEL5.out.size)); clear hn6 hd6 hb6))
    | (refine wpList_load_row (P := Tryz.prog) rfl 45 (.tmp 6) rfl w6.heap.size rfl 45 _ _ _ H6.out Tryz.underlying45 rfl info25 ?_)
    | (refine wpList_store_row (P := Tryz.prog) rfl 45 (.tmp 6) (.tmp 19) rfl w6.heap.size #[.int .u8 6, .slice a6 n6 c6, .slice none 0 0] rfl rfl 45 _ HZ6.out info25 rfl (all_item _ _ _ _ _ _ _) ?_)
    | (refine wpList_store_row (P := Tryz.prog) rfl 45 (.tmp 4) (.tmp 21) rfl w.heap.size #[.int .u8 6, .slice a6 n6 c6, .slice none 0 0] rfl rfl 45 _ B6.out info25 rfl (all_item _ _ _ _ _ _ _) ?_))
  have D3 := B6.out.setRow [.int .u8 6, .slice a6 n6 c6, .slice none 0 0]
  refine bodyPost_ret (results_one Tryz.results49 _ _ w.heap.size 45 _ (0, 0) _ rfl D3 Tryz.underlying45 rfl info25) rfl ?_
  exact fin_item HN6.out rfl (by have := HS6.out; simp; omega) (dep_new HD6.out _ _) (below_setRow' (BEL6.out.alloc BEL6.out.size _) (by have := HS6.out; omega) _) _
set_option maxRecDepth 100000 in
set_option maxHeartbeats 4000000 in
theorem ralg_d (w : World) : Calls Tryz.prog 26 #[] w (ItR NoD 48 [] algK w) := by
  have B0 := Lib.hid (Blk.new w 45 [.int .u8 0, .slice none 0 0, .slice none 0 0])
  have BEL := Lib.hid ((Below.refl _ w).alloc (Nat.le_refl _) (.cells #[.int .u8 0, .slice none 0 0, .slice none 0 0] 45))
  have HSW1 := Lib.hid (show w.heap.size + 1 ≤ (w.alloc (.cells #[.int .u8 0, .slice none 0 0, .slice none 0 0] 45)).heap.size by simp)
  go_enter Tryz.func26, Tryz.ntmps26
  generalize hW1 : w.alloc (.cells #[.int .u8 0, .slice none 0 0, .slice none 0 0] 45) = W1 at *
  go_wp2_with (first | (go_at_call 49; ((with_reducible refine (itB (robject_d W1 2200 1 2200 1 rfl rfl (by decide) (by decide) (by decide) alg_ok) HSW1.out (fun _ h => h.elim)).mono ?_); rintro e w2 ⟨a2, n2, c2, b2, m2, d2, hn2, hm2, rfl, hd2, hb2⟩; have HN2 := Lib.hid hn2; have HM2 := Lib.hid hm2; have hg2 : Gr W1 w2 := by { first | exact hb2 | exact (Gr.alloc _ _).trans hb2 | exact ((Gr.alloc _ _).trans (Gr.alloc _ _)).trans hb2 }; have HS2 := Lib.hid (show w.heap.size + 1 ≤ w2.heap.size by { have h1 := hg2.size; have h2 := HSW1.out; omega }); have B0 := Lib.hid (B0.out.below' hg2); have BEL := Lib.hid (BEL.out.trans (Below.mono hg2 BEL.out.size)); have HD2 := Lib.hid hd2; clear hd2 hn2 hm2 hg2 hb2)) | (go_at_call 24; ((with_reducible refine (rseq_b 48 48 rfl (by decide) _ _ 1 1 algK rfl (by have := HS2.out; simp only [World.size_alloc]; omega) (lit_b (cons_b 6 rfl HN2.out HM2.out HD2.out nil_b) rfl (by decide) HS2.out)).mono ?_); rintro e w3 ⟨a3, n3, c3, b3, m3, d3, hn3, hm3, rfl, hd3, hb3⟩; have HN3 := Lib.hid hn3; have HM3 := Lib.hid hm3; have hg3 : Gr w2 w3 := by { first | exact hb3 | exact (Gr.alloc _ _).trans hb3 | exact ((Gr.alloc _ _).trans (Gr.alloc _ _)).trans hb3 }; have HS3 := Lib.hid (show w.heap.size + 1 ≤ w3.heap.size by { have h1 := hg3.size; have h2 := HS2.out; omega }); have B0 := Lib.hid (B0.out.below' hg3); have BEL := Lib.hid (BEL.out.trans (Below.mono hg3 BEL.out.size)); have HD3 := Lib.hid hd3; clear hd3 hn3 hm3 hg3 hb3)) | (refine wpList_store_row (P := Tryz.prog) rfl 45 (.tmp 0) (.tmp 3) rfl w.heap.size #[.int .u8 48, .slice a3 n3 c3, .slice b3 m3 d3] rfl rfl 45 _ B0.out info25 rfl (all_item _ _ _ _ _ _ _) ?_))
  have D3 := B0.out.setRow [.int .u8 48, .slice a3 n3 c3, .slice b3 m3 d3]
  refine bodyPost_ret (results_one Tryz.results26 _ _ w.heap.size 45 _ (0, 0) _ rfl D3 Tryz.underlying45 rfl info25) rfl ?_
  exact fin_item HN3.out HM3.out HS3.out HD3.out BEL.out _
theorem litf (W : World) (L : List Nat) (cs : Array Value) (n : Nat) (hcs : (natsV .u8 L).toArray = cs) (hl : L.length = n) (hn : n ≤ 100000) (h8 : ∀ x ∈ L, x < 256) (fr : Nat × Nat) {m : Nat} (hm : m ≤ W.heap.size) : Dep (FB m) (W.alloc (.cells cs 5 fr)) (fun x => BIn x (some ⟨W.heap.size, 0, none⟩) n n L) := by
  subst hcs; exact dep_blkf (heap_alloc_new W _) hl hn h8 hm
set_option maxRecDepth 100000 in
set_option maxHeartbeats 4000000 in
theorem rtimes_d (w : World) : Calls Tryz.prog 47 #[] w (ItR NoD 48 [] timK w) := by
  have B0 := Lib.hid (Blk.new w 45 [.int .u8 0, .slice none 0 0, .slice none 0 0])
  have BEL := Lib.hid ((Below.refl _ w).alloc (Nat.le_refl _) (.cells #[.int .u8 0, .slice none 0 0, .slice none 0 0] 45))
  have HSW1 := Lib.hid (show w.heap.size + 1 ≤ (w.alloc (.cells #[.int .u8 0, .slice none 0 0, .slice none 0 0] 45)).heap.size by simp)
  go_enter Tryz.func47, Tryz.ntmps47
  generalize hW1 : w.alloc (.cells #[.int .u8 0, .slice none 0 0, .slice none 0 0] 45) = W1 at *
  have hcv0 : (convert 22 22 (.slice (some ⟨W1.heap.size, 0, none⟩) 15 15)).run Tryz.prog (W1.alloc (.cells #[.int .u8 50, .int .u8 48, .int .u8 48, .int .u8 48, .int .u8 48, .int .u8 49, .int .u8 48, .int .u8 49, .int .u8 48, .int .u8 48, .int .u8 48, .int .u8 48, .int .u8 48, .int .u8 48, .int .u8 90] 5)) = .ok (.slice (some ⟨W1.heap.size, 0, none⟩) 15 15) (W1.alloc (.cells #[.int .u8 50, .int .u8 48, .int .u8 48, .int .u8 48, .int .u8 48, .int .u8 49, .int .u8 48, .int .u8 49, .int .u8 48, .int .u8 48, .int .u8 48, .int .u8 48, .int .u8 48, .int .u8 48, .int .u8 90] 5 (15, 16))) := Lib.run_convert_bytes_const W1 22 5 #[.int .u8 50, .int .u8 48, .int .u8 48, .int .u8 48, .int .u8 48, .int .u8 49, .int .u8 48, .int .u8 49, .int .u8 48, .int .u8 48, .int .u8 48, .int .u8 48, .int .u8 48, .int .u8 48, .int .u8 90] 15 15 Tryz.underlying22 Tryz.underlying5
  go_wp2_with (first | (go_at_call 88; ((with_reducible refine (rplain_b (base := w.heap.size + 1) 24 24 rfl (by decide) (W1.alloc (.cells #[.int .u8 50, .int .u8 48, .int .u8 48, .int .u8 48, .int .u8 48, .int .u8 49, .int .u8 48, .int .u8 49, .int .u8 48, .int .u8 48, .int .u8 48, .int .u8 48, .int .u8 48, .int .u8 48, .int .u8 90] 5 (15, 16))) (some ⟨W1.heap.size, 0, none⟩) 15 15 t0L rfl (by omega) (by have := HSW1.out; simp only [World.size_alloc]; omega) (litf W1 t0L #[.int .u8 50, .int .u8 48, .int .u8 48, .int .u8 48, .int .u8 48, .int .u8 49, .int .u8 48, .int .u8 49, .int .u8 48, .int .u8 48, .int .u8 48, .int .u8 48, .int .u8 48, .int .u8 48, .int .u8 90] 15 rfl rfl (by omega) (by decide) _ HSW1.out)).mono ?_); rintro e w2 ⟨a2, n2, c2, b2, m2, d2, hn2, hm2, rfl, hd2, hb2⟩; have HN2 := Lib.hid hn2; have HM2 := Lib.hid hm2; have hg2 : Gr W1 w2 := by { first | exact hb2 | exact (Gr.alloc _ _).trans hb2 | exact ((Gr.alloc _ _).trans (Gr.alloc _ _)).trans hb2 }; have HS2 := Lib.hid (show w.heap.size + 1 ≤ w2.heap.size by { have h1 := hg2.size; have h2 := HSW1.out; omega }); have B0 := Lib.hid (B0.out.below' hg2); have BEL := Lib.hid (BEL.out.trans (Below.mono hg2 BEL.out.size)); have HD2 := Lib.hid hd2; have hcv9 : (convert 22 22 (.slice (some ⟨w2.heap.size, 0, none⟩) 15 15)).run Tryz.prog (w2.alloc (.cells #[.int .u8 57, .int .u8 57, .int .u8 57, .int .u8 57, .int .u8 49, .int .u8 50, .int .u8 51, .int .u8 49, .int .u8 50, .int .u8 51, .int .u8 53, .int .u8 57, .int .u8 53, .int .u8 57, .int .u8 90] 5)) = .ok (.slice (some ⟨w2.heap.size, 0, none⟩) 15 15) (w2.alloc (.cells #[.int .u8 57, .int .u8 57, .int .u8 57, .int .u8 57, .int .u8 49, .int .u8 50, .int .u8 51, .int .u8 49, .int .u8 50, .int .u8 51, .int .u8 53, .int .u8 57, .int .u8 53, .int .u8 57, .int .u8 90] 5 (15, 16))) := Lib.run_convert_bytes_const w2 22 5 #[.int .u8 57, .int .u8 57, .int .u8 57, .int .u8 57, .int .u8 49, .int .u8 50, .int .u8 51, .int .u8 49, .int .u8 50, .int .u8 51, .int .u8 53, .int .u8 57, .int .u8 53, .int .u8 57, .int .u8 90] 15 15 Tryz.underlying22 Tryz.underlying5; clear hd2 hn2 hm2 hg2 hb2)) | (go_at_call 88; ((with_reducible refine (rplain_b (base := w.heap.size + 1) 24 24 rfl (by decide) (w2.alloc (.cells #[.int .u8 57, .int .u8 57, .int .u8 57, .int .u8 57, .int .u8 49, .int .u8 50, .int .u8 51, .int .u8 49, .int .u8 50, .int .u8 51, .int .u8 53, .int .u8 57, .int .u8 53, .int .u8 57, .int .u8 90] 5 (15, 16))) (some ⟨w2.heap.size, 0, none⟩) 15 15 t9L rfl (by omega) (by have := HS2.out; simp only [World.size_alloc]; omega) (litf w2 t9L #[.int .u8 57, .int .u8 57, .int .u8 57, .int .u8 57, .int .u8 49, .int .u8 50, .int .u8 51, .int .u8 49, .int .u8 50, .int .u8 51, .int .u8 53, .int .u8 57, .int .u8 53, .int .u8 57, .int .u8 90] 15 rfl rfl (by omega) (by decide) _ HS2.out)).mono ?_); rintro e w3 ⟨a3, n3, c3, b3, m3, d3, hn3, hm3, rfl, hd3, hb3⟩; have HN3 := Lib.hid hn3; have HM3 := Lib.hid hm3; have hg3 : Gr w2 w3 := by { first | exact hb3 | exact (Gr.alloc _ _).trans hb3 | exact ((Gr.alloc _ _).trans (Gr.alloc _ _)).trans hb3 }; have HS3 := Lib.hid (show w.heap.size + 1 ≤ w3.heap.size by { have h1 := hg3.size; have h2 := HS2.out; omega }); have B0 := Lib.hid (B0.out.below' hg3); have BEL := Lib.hid (BEL.out.trans (Below.mono hg3 BEL.out.size)); have HD3 := Lib.hid hd3; have HD2 := Lib.hid (HD2.out.below hg3); clear hd3 hn3 hm3 hg3 hb3)) | (go_at_call 24; ((with_reducible refine (rseq_b 48 48 rfl (by decide) _ _ 2 2 timK rfl (by have := HS3.out; simp only [World.size_alloc]; omega) (lit_b (cons_b 24 rfl HN2.out HM2.out HD2.out (cons_b 24 rfl HN3.out HM3.out HD3.out nil_b)) rfl (by decide) HS3.out)).mono ?_); rintro e w4 ⟨a4, n4, c4, b4, m4, d4, hn4, hm4, rfl, hd4, hb4⟩; have HN4 := Lib.hid hn4; have HM4 := Lib.hid hm4; have hg4 : Gr w3 w4 := by { first | exact hb4 | exact (Gr.alloc _ _).trans hb4 | exact ((Gr.alloc _ _).trans (Gr.alloc _ _)).trans hb4 }; have HS4 := Lib.hid (show w.heap.size + 1 ≤ w4.heap.size by { have h1 := hg4.size; have h2 := HS3.out; omega }); have B0 := Lib.hid (B0.out.below' hg4); have BEL := Lib.hid (BEL.out.trans (Below.mono hg4 BEL.out.size)); have HD4 := Lib.hid hd4; clear hd4 hn4 hm4 hg4 hb4)) | (refine wpList_store_row (P := Tryz.prog) rfl 45 (.tmp 0) (.tmp 8) rfl w.heap.size #[.int .u8 48, .slice a4 n4 c4, .slice b4 m4 d4] rfl rfl 45 _ B0.out info25 rfl (all_item _ _ _ _ _ _ _) ?_))
  have D3 := B0.out.setRow [.int .u8 48, .slice a4 n4 c4, .slice b4 m4 d4]
  refine bodyPost_ret (results_one Tryz.results47 _ _ w.heap.size 45 _ (0, 0) _ rfl D3 Tryz.underlying45 rfl info25) rfl ?_
  exact fin_item HN4.out HM4.out HS4.out HD4.out BEL.out _
end Go.Proofs.YtbabpmncdphnjaaGreat
