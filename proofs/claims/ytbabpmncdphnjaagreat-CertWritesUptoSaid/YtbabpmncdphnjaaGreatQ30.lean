/- Parts of proofs of statements, each text behind those that it stands on. No condition of its own. -/
import Derived.Test.YtbabpmncdphnjaaGreatQ25
namespace Go.Proofs.YtbabpmncdphnjaaGreat
open Go.RowKit
set_option linter.unusedVariables false
set_option maxRecDepth 100000
set_option linter.unusedSimpArgs false
noncomputable def signE (sn : Nat) (ib sb : List Nat) (kn : Nat) (kb : List Nat) (xs : List XV) : Except Nat (List Nat) := if lkQ ib sb kn xs ≠ 0 then .error (lkQ ib sb kn xs) else encE 48 [] (tbsK sn ib sb kb (exT xs))
noncomputable def bytesE (sn : Nat) (ib sb : List Nat) (kn : Nat) (kb : List Nat) (xs : List XV) (sl : Nat) (sg : List Nat) : Except Nat (List Nat) := if sl ≠ 3373 then .error 134 else if lkQ ib sb kn xs ≠ 0 then .error (lkQ ib sb kn xs) else encE 48 [] (crtK sn ib sb kb sg (exT xs))
def BytIs (R : Except Nat (List Nat)) (w : World) (e : Ending) (w' : World) : Prop :=
  Below w.heap.size w w' ∧ match R with
  | .error q => q ≠ 0 ∧ e = .returned (.tuple #[.slice none 0 0, .int .i64 (q : Nat)])
  | .ok l => ∃ a c, e = .returned (.tuple #[.slice a l.length c, .int .i64 0]) ∧ BIn w' a l.length c l
theorem BytIs.bad {R : Except Nat (List Nat)} {q : Nat} (h : R = .error q) (hq : q ≠ 0) {w w' : World} (hb : Below w.heap.size w w') : BytIs R w (.returned (.tuple #[.slice none 0 0, .int .i64 (q : Nat)])) w' := by subst h; exact ⟨hb, hq, rfl⟩
theorem BytIs.good {R : Except Nat (List Nat)} {l : List Nat} (h : R = .ok l) {w w' : World} (hb : Below w.heap.size w w') {a : Option Addr} {c : Nat} (hi : BIn w' a l.length c l) : BytIs R w (.returned (.tuple #[.slice a l.length c, .int .i64 0])) w' := by subst h; exact ⟨hb, a, c, rfl, hi⟩
theorem enc_x {t : Nat} {b : List Nat} {k : Tr} {x : Nat} (h : encE t b k = .error x) {w : World} {a : Option Addr} {c : Nat} {a' : Option Addr} {c' n m : Nat} (hin : ItIn w t a c a' c' b k) (hn : b.length = n) (hm : k.len = m) {ti : Int} (hti : (t : Int) = ti := by rfl) :
    Calls Tryz.prog 38 #[.agg #[.int .u8 ti, .slice a n c, .slice a' m c']] w fun e w' => e = .returned (.tuple #[.slice none 0 0, .int .i64 (x : Nat)]) ∧ Below w.heap.size w w' := by
  subst hn hm hti; exact enc_bad h hin
theorem lk_good {q : Nat} {args : Array Value} {w : World} (h : Calls Tryz.prog 36 args w (LkIs q w)) (hq : q = 0) : Calls Tryz.prog 36 args w fun e w' => e = .returned (.tuple #[]) ∧ Below w.heap.size w w' :=
  h.mono fun e w' h => ⟨by rcases h.1 with h1 | h1; exact h1.2; exact absurd hq h1.1, h.2⟩
theorem lk_bad {q : Nat} {args : Array Value} {w : World} (h : Calls Tryz.prog 36 args w (LkIs q w)) (hq : q ≠ 0) : Calls Tryz.prog 36 args w fun e w' => e = boom (q : Nat) ∧ Below w.heap.size w w' :=
  h.mono fun e w' h => ⟨by rcases h.1 with h1 | h1; exact absurd h1.1 hq; exact h1.2, h.2⟩
set_option maxRecDepth 100000 in
theorem lookAtSig_bad (sn : Nat) (is su : ByteArray) (ka : Option Addr) (kn kc : Nat) (xa : Option Addr) (n xc : Nat) (sa : Option Addr) (sl sc : Nat) (hsl : sl ≠ 3373) (w : World) : Calls Tryz.prog 35 #[certV sn is su ka kn kc xa n xc sa sl sc] w fun e w' => e = boom 134 ∧ Below w.heap.size w w' := by
  have BEL := Lib.hid ((Below.refl _ w).alloc (Nat.le_refl _) (.cells #[.int .u64 (sn : Nat), .string is, .string su, .slice ka kn kc, .slice xa n xc, .slice sa sl sc] 26))
  have HBX := Lib.hid (Blk.new w 26 [.int .u64 (sn : Nat), .string is, .string su, .slice ka kn kc, .slice xa n xc, .slice sa sl sc])
  have hb : ((sl : Int) == 3373) = false := by simp; omega
  have hi : ¬ (sl : Int) = 3373 := by omega
  go_enter Tryz.func35, Tryz.ntmps35
  generalize hW1 : w.alloc (.cells #[.int .u64 (sn : Nat), .string is, .string su, .slice ka kn kc, .slice xa n xc, .slice sa sl sc] 26) = W1 at *
  have k5 := blkc HBX.out (i := 5) rfl
  go_wp2_with (first | (go_at_call 54; (with_reducible refine (cmust_bad _ _).mono ?_); rintro e w4 ⟨rfl, rfl⟩))
  exact ⟨rfl, rfl, BEL.out⟩
theorem lookAtSig_eq (sn : Nat) (is su : ByteArray) (ka : Option Addr) (kn kc : Nat) (xa : Option Addr) (n xc : Nat) (sa : Option Addr) (sl sc : Nat) (hsl : sl = 3373) (w : World) : Calls Tryz.prog 35 #[certV sn is su ka kn kc xa n xc sa sl sc] w fun e w' => e = .returned (.tuple #[]) ∧ Below w.heap.size w w' := by
  subst hsl; exact lookAtSig_ok sn is su ka kn kc xa n xc sa sc w
set_option maxRecDepth 100000 in
set_option maxHeartbeats 8000000 in
theorem Bytes_sig (w : World) (sn : Nat) (hsn : sn < 18446744073709551616) (is su : ByteArray) (ib sb : List Nat) (hib : strL is = ib) (hsb : strL su = sb) (his : is.size ≤ 140737488355328) (hsu : su.size ≤ 140737488355328) (ka : Option Addr) (kn kc : Nat) (kb : List Nat) (hk : BIn w ka kn kc kb) (xa : Option Addr) (n xc : Nat) (xs : List XV) (hx : XIn w xa n xc xs) (sa : Option Addr) (sl sc : Nat) (sg : List Nat) (hs : BIn w sa sl sc sg) (hsl : sl ≠ 3373) : Calls Tryz.prog 14 #[certV sn is su ka kn kc xa n xc sa sl sc] w (BytIs (bytesE sn ib sb kn kb xs sl sg) w) := by
  have hmf : ∀ (fn : Fn) (first cap : Array Value) (w : World), (Instr.makeFunc fn first cap).run Tryz.prog w = .ok (.func fn first cap) w := fun _ _ _ _ => rfl
  have h00 : Below w.heap.size w (((w.alloc (.cells #[.int .u64 (sn : Nat), .string is, .string su, .slice ka kn kc, .slice xa n xc, .slice sa sl sc] 26)).alloc (.cells #[.slice none 0 0] 22)).alloc (.cells #[.int .i64 0] 27)) := (((Below.refl _ w).alloc (Nat.le_refl _) _).alloc (by simp) _).alloc (by simp; omega) _
  have HBX := Lib.hid (((Blk.new w 26 [.int .u64 (sn : Nat), .string is, .string su, .slice ka kn kc, .slice xa n xc, .slice sa sl sc]).alloc (.cells #[.slice none 0 0] 22)).alloc (.cells #[.int .i64 0] 27))
  have HP := Lib.hid ((Blk.new2 w (.cells #[.int .u64 (sn : Nat), .string is, .string su, .slice ka kn kc, .slice xa n xc, .slice sa sl sc] 26) 22 [.slice none 0 0]).alloc (.cells #[.int .i64 0] 27))
  have HQ := Lib.hid (Blk.new3 w (.cells #[.int .u64 (sn : Nat), .string is, .string su, .slice ka kn kc, .slice xa n xc, .slice sa sl sc] 26) (.cells #[.slice none 0 0] 22) 27 [.int .i64 0])
  have H00 := Lib.hid h00
  have HK := Lib.hid (hk.below h00)
  have HG := Lib.hid (hs.below h00)
  have HX := Lib.hid hx
  have HI := Lib.hid hib
  have HSB := Lib.hid hsb
  have HIS := Lib.hid his
  have HSU := Lib.hid hsu
  have HSN := Lib.hid hsn
  have HSL := Lib.hid hsl
  have HR := Lib.hid (show bytesE sn ib sb kn kb xs sl sg = .error 134 by unfold bytesE; rw [if_pos hsl])
  have HZ := Lib.hid (show (134 : Nat) ≠ 0 by decide)
  clear h00 hk hib hsb his hsu hsn hx hs hsl
  go_enter_defers Tryz.func14, Tryz.ntmps14
  generalize hW0 : ((w.alloc (.cells #[.int .u64 (sn : Nat), .string is, .string su, .slice ka kn kc, .slice xa n xc, .slice sa sl sc] 26)).alloc (.cells #[.slice none 0 0] 22)).alloc (.cells #[.int .i64 0] 27) = W0 at *
  go_wp2_with (first | (refine wpList_load_row (P := Tryz.prog) rfl 26 (.tmp 1) rfl w.heap.size rfl 26 _ _ _ HBX.out Tryz.underlying26 rfl info55 ?_) | (go_at_call 35; go_loud ((with_reducible refine (lookAtSig_bad _ _ _ _ _ _ _ _ _ _ _ _ HSL.out _).mono ?_); rintro e w2 ⟨rfl, hb2⟩; have hg2 : Gr W0 w2 := hb2; have HBX := Lib.hid (HBX.out.below' hg2); have HP := Lib.hid (HP.out.below' hg2); have HQ := Lib.hid (HQ.out.below' hg2); have H00 := Lib.hid (H00.out.trans (Below.mono hg2 H00.out.size)); have HK := Lib.hid (HK.out.below hg2); have HG := Lib.hid (HG.out.below hg2); clear hb2 hg2)))
  exact exitB_bad (w.heap.size + 1) (w.heap.size + 1 + 1) (134 : Nat) _ _ _ (by omega) HP.out HQ.out rfl rfl (BytIs.bad HR.out HZ.out ((H00.out.setCell (p := ⟨w.heap.size + 1, 0, none⟩) (by simp) _).setCell (p := ⟨w.heap.size + 1 + 1, 0, none⟩) (by simp; omega) _))
set_option maxRecDepth 100000 in
set_option maxHeartbeats 8000000 in
theorem Bytes_lk (w : World) (sn : Nat) (hsn : sn < 18446744073709551616) (is su : ByteArray) (ib sb : List Nat) (hib : strL is = ib) (hsb : strL su = sb) (his : is.size ≤ 140737488355328) (hsu : su.size ≤ 140737488355328) (ka : Option Addr) (kn kc : Nat) (kb : List Nat) (hk : BIn w ka kn kc kb) (xa : Option Addr) (n xc : Nat) (xs : List XV) (hx : XIn w xa n xc xs) (sa : Option Addr) (sl sc : Nat) (sg : List Nat) (hs : BIn w sa sl sc sg) (hsl : sl = 3373) (hq : lkQ ib sb kn xs ≠ 0) : Calls Tryz.prog 14 #[certV sn is su ka kn kc xa n xc sa sl sc] w (BytIs (bytesE sn ib sb kn kb xs sl sg) w) := by
  have hmf : ∀ (fn : Fn) (first cap : Array Value) (w : World), (Instr.makeFunc fn first cap).run Tryz.prog w = .ok (.func fn first cap) w := fun _ _ _ _ => rfl
  have h00 : Below w.heap.size w (((w.alloc (.cells #[.int .u64 (sn : Nat), .string is, .string su, .slice ka kn kc, .slice xa n xc, .slice sa sl sc] 26)).alloc (.cells #[.slice none 0 0] 22)).alloc (.cells #[.int .i64 0] 27)) := (((Below.refl _ w).alloc (Nat.le_refl _) _).alloc (by simp) _).alloc (by simp; omega) _
  have HBX := Lib.hid (((Blk.new w 26 [.int .u64 (sn : Nat), .string is, .string su, .slice ka kn kc, .slice xa n xc, .slice sa sl sc]).alloc (.cells #[.slice none 0 0] 22)).alloc (.cells #[.int .i64 0] 27))
  have HP := Lib.hid ((Blk.new2 w (.cells #[.int .u64 (sn : Nat), .string is, .string su, .slice ka kn kc, .slice xa n xc, .slice sa sl sc] 26) 22 [.slice none 0 0]).alloc (.cells #[.int .i64 0] 27))
  have HQ := Lib.hid (Blk.new3 w (.cells #[.int .u64 (sn : Nat), .string is, .string su, .slice ka kn kc, .slice xa n xc, .slice sa sl sc] 26) (.cells #[.slice none 0 0] 22) 27 [.int .i64 0])
  have H00 := Lib.hid h00
  have HK := Lib.hid (hk.below h00)
  have HG := Lib.hid (hs.below h00)
  have HX := Lib.hid hx
  have HI := Lib.hid hib
  have HSB := Lib.hid hsb
  have HIS := Lib.hid his
  have HSU := Lib.hid hsu
  have HSN := Lib.hid hsn
  have HQZ := Lib.hid hq
  have HR := Lib.hid (show bytesE sn ib sb kn kb xs sl sg = .error (lkQ ib sb kn xs) by unfold bytesE; rw [if_neg (fun h => h hsl), if_pos hq])
  have HZ := HQZ
  have HSL := Lib.hid hsl
  clear h00 hk hib hsb his hsu hsn hx hs hq hsl
  go_enter_defers Tryz.func14, Tryz.ntmps14
  generalize hW0 : ((w.alloc (.cells #[.int .u64 (sn : Nat), .string is, .string su, .slice ka kn kc, .slice xa n xc, .slice sa sl sc] 26)).alloc (.cells #[.slice none 0 0] 22)).alloc (.cells #[.int .i64 0] 27) = W0 at *
  go_wp2_with (first | (refine wpList_load_row (P := Tryz.prog) rfl 26 (.tmp 1) rfl w.heap.size rfl 26 _ _ _ HBX.out Tryz.underlying26 rfl info55 ?_) | (go_at_call 35; go_loud ((with_reducible refine (lookAtSig_eq _ _ _ _ _ _ _ _ _ _ _ _ HSL.out _).mono ?_); rintro e w2 ⟨rfl, hb2⟩; have hg2 : Gr W0 w2 := hb2; have HBX := Lib.hid (HBX.out.below' hg2); have HP := Lib.hid (HP.out.below' hg2); have HQ := Lib.hid (HQ.out.below' hg2); have H00 := Lib.hid (H00.out.trans (Below.mono hg2 H00.out.size)); have HK := Lib.hid (HK.out.below hg2); have HG := Lib.hid (HG.out.below hg2); clear hb2 hg2)) | (go_at_call 36; go_loud ((with_reducible refine (lk_bad (lookAtSigned_any _ _ _ _ _ _ _ _ _ _ _ _ _ ib sb xs HI.out HSB.out (HX.out.below H00.out)) HQZ.out).mono ?_); rintro e w3 ⟨rfl, hb3⟩; have hg3 : Gr w2 w3 := hb3; have HBX := Lib.hid (HBX.out.below' hg3); have HP := Lib.hid (HP.out.below' hg3); have HQ := Lib.hid (HQ.out.below' hg3); have H00 := Lib.hid (H00.out.trans (Below.mono hg3 H00.out.size)); have HK := Lib.hid (HK.out.below hg3); have HG := Lib.hid (HG.out.below hg3); clear hb3 hg3)))
  exact exitB_bad (w.heap.size + 1) (w.heap.size + 1 + 1) (lkQ ib sb kn xs : Nat) _ _ _ (by omega) HP.out HQ.out rfl rfl (BytIs.bad HR.out HZ.out ((H00.out.setCell (p := ⟨w.heap.size + 1, 0, none⟩) (by simp) _).setCell (p := ⟨w.heap.size + 1 + 1, 0, none⟩) (by simp; omega) _))
set_option maxRecDepth 100000 in
set_option maxHeartbeats 8000000 in
theorem Bytes_enc (w : World) (sn : Nat) (hsn : sn < 18446744073709551616) (is su : ByteArray) (ib sb : List Nat) (hib : strL is = ib) (hsb : strL su = sb) (his : is.size ≤ 140737488355328) (hsu : su.size ≤ 140737488355328) (ka : Option Addr) (kn kc : Nat) (kb : List Nat) (hk : BIn w ka kn kc kb) (xa : Option Addr) (n xc : Nat) (xs : List XV) (hx : XIn w xa n xc xs) (sa : Option Addr) (sl sc : Nat) (sg : List Nat) (hs : BIn w sa sl sc sg) (hsl : sl = 3373) (hq : lkQ ib sb kn xs = 0) (x : Nat) (hl : encE 48 [] (crtK sn ib sb kb sg (exT xs)) = .error x) (hxz : x ≠ 0) : Calls Tryz.prog 14 #[certV sn is su ka kn kc xa n xc sa sl sc] w (BytIs (bytesE sn ib sb kn kb xs sl sg) w) := by
  have hmf : ∀ (fn : Fn) (first cap : Array Value) (w : World), (Instr.makeFunc fn first cap).run Tryz.prog w = .ok (.func fn first cap) w := fun _ _ _ _ => rfl
  have h00 : Below w.heap.size w (((w.alloc (.cells #[.int .u64 (sn : Nat), .string is, .string su, .slice ka kn kc, .slice xa n xc, .slice sa sl sc] 26)).alloc (.cells #[.slice none 0 0] 22)).alloc (.cells #[.int .i64 0] 27)) := (((Below.refl _ w).alloc (Nat.le_refl _) _).alloc (by simp) _).alloc (by simp; omega) _
  have HBX := Lib.hid (((Blk.new w 26 [.int .u64 (sn : Nat), .string is, .string su, .slice ka kn kc, .slice xa n xc, .slice sa sl sc]).alloc (.cells #[.slice none 0 0] 22)).alloc (.cells #[.int .i64 0] 27))
  have HP := Lib.hid ((Blk.new2 w (.cells #[.int .u64 (sn : Nat), .string is, .string su, .slice ka kn kc, .slice xa n xc, .slice sa sl sc] 26) 22 [.slice none 0 0]).alloc (.cells #[.int .i64 0] 27))
  have HQ := Lib.hid (Blk.new3 w (.cells #[.int .u64 (sn : Nat), .string is, .string su, .slice ka kn kc, .slice xa n xc, .slice sa sl sc] 26) (.cells #[.slice none 0 0] 22) 27 [.int .i64 0])
  have H00 := Lib.hid h00
  have HK := Lib.hid (hk.below h00)
  have HG := Lib.hid (hs.below h00)
  have HX := Lib.hid hx
  have HI := Lib.hid hib
  have HSB := Lib.hid hsb
  have HIS := Lib.hid his
  have HSU := Lib.hid hsu
  have HSN := Lib.hid hsn
  have HQZ := Lib.hid hq
  obtain ⟨⟨_, _, h2017, h16⟩, hc2, _, _⟩ := lk_all hq
  have HKB := Lib.hid (show kn ≤ 140737488351232 by omega)
  have HN16 := Lib.hid (show n ≤ 16 by have := hx.1; omega)
  have HCC := Lib.hid hc2
  have HGB := Lib.hid (show sl ≤ 140737488351232 by omega)
  have HR := Lib.hid (show bytesE sn ib sb kn kb xs sl sg = .error x by unfold bytesE; rw [if_neg (fun h => h hsl), if_neg (fun h => h hq), hl])
  have HZ := Lib.hid hxz
  have HXZ := HZ
  have HL := Lib.hid hl
  have HSL := Lib.hid hsl
  clear hc2 h2017 h16
  clear h00 hk hib hsb his hsu hsn hx hs hq hl hxz hsl
  go_enter_defers Tryz.func14, Tryz.ntmps14
  generalize hW0 : ((w.alloc (.cells #[.int .u64 (sn : Nat), .string is, .string su, .slice ka kn kc, .slice xa n xc, .slice sa sl sc] 26)).alloc (.cells #[.slice none 0 0] 22)).alloc (.cells #[.int .i64 0] 27) = W0 at *
  go_wp2_with (first | (refine wpList_load_row (P := Tryz.prog) rfl 26 (.tmp 1) rfl w.heap.size rfl 26 _ _ _ HBX.out Tryz.underlying26 rfl info55 ?_) | (go_at_call 35; go_loud ((with_reducible refine (lookAtSig_eq _ _ _ _ _ _ _ _ _ _ _ _ HSL.out _).mono ?_); rintro e w2 ⟨rfl, hb2⟩; have hg2 : Gr W0 w2 := hb2; have HBX := Lib.hid (HBX.out.below' hg2); have HP := Lib.hid (HP.out.below' hg2); have HQ := Lib.hid (HQ.out.below' hg2); have H00 := Lib.hid (H00.out.trans (Below.mono hg2 H00.out.size)); have HK := Lib.hid (HK.out.below hg2); have HG := Lib.hid (HG.out.below hg2); clear hb2 hg2)) | (go_at_call 36; go_loud ((with_reducible refine (lk_good (lookAtSigned_any _ _ _ _ _ _ _ _ _ _ _ _ _ ib sb xs HI.out HSB.out (HX.out.below H00.out)) HQZ.out).mono ?_); rintro e w3 ⟨rfl, hb3⟩; have hg3 : Gr w2 w3 := hb3; have HBX := Lib.hid (HBX.out.below' hg3); have HP := Lib.hid (HP.out.below' hg3); have HQ := Lib.hid (HQ.out.below' hg3); have H00 := Lib.hid (H00.out.trans (Below.mono hg3 H00.out.size)); have HK := Lib.hid (HK.out.below hg3); have HG := Lib.hid (HG.out.below hg3); clear hb3 hg3)) | (go_at_call 42; go_loud ((with_reducible refine (ofCert_any w w3 H00.out sn HSN.out is su ib sb HI.out HSB.out HIS.out HSU.out ka kn kc kb HK.out HKB.out xa n xc xs HX.out HN16.out HCC.out sa sl sc sg HG.out HGB.out).mono ?_); rintro e w4 ⟨a4, n4, c4, b4, m4, d4, hn4, hm4, rfl, hd4, hb4⟩; have HN4 := Lib.hid hn4; have HM4 := Lib.hid hm4; have HD4 := Lib.hid hd4.now; have hg4 : Gr w3 w4 := hb4; have HBX := Lib.hid (HBX.out.below' hg4); have HP := Lib.hid (HP.out.below' hg4); have HQ := Lib.hid (HQ.out.below' hg4); have H00 := Lib.hid (H00.out.trans (Below.mono hg4 H00.out.size)); have HK := Lib.hid (HK.out.below hg4); have HG := Lib.hid (HG.out.below hg4); clear hn4 hm4 hd4 hb4 hg4)) | (go_at_call 38; go_loud ((with_reducible refine (enc_x HL.out HD4.out HN4.out HM4.out).mono ?_); rintro e w5 ⟨rfl, hb5⟩; have hg5 : Gr w4 w5 := hb5; have HBX := Lib.hid (HBX.out.below' hg5); have HP := Lib.hid (HP.out.below' hg5); have HQ := Lib.hid (HQ.out.below' hg5); have H00 := Lib.hid (H00.out.trans (Below.mono hg5 H00.out.size)); have HK := Lib.hid (HK.out.below hg5); have HG := Lib.hid (HG.out.below hg5); clear hb5 hg5)) | (go_at_call 37; (with_reducible refine (passedB_bad (none, 0, 0) x HXZ.out _).mono ?_); rintro e w6 ⟨rfl, rfl⟩))
  exact exitB_bad (w.heap.size + 1) (w.heap.size + 1 + 1) (x : Nat) _ _ _ (by omega) HP.out HQ.out rfl rfl (BytIs.bad HR.out HZ.out ((H00.out.setCell (p := ⟨w.heap.size + 1, 0, none⟩) (by simp) _).setCell (p := ⟨w.heap.size + 1 + 1, 0, none⟩) (by simp; omega) _))
set_option maxRecDepth 100000 in
set_option maxHeartbeats 8000000 in
theorem Bytes_ok (w : World) (sn : Nat) (hsn : sn < 18446744073709551616) (is su : ByteArray) (ib sb : List Nat) (hib : strL is = ib) (hsb : strL su = sb) (his : is.size ≤ 140737488355328) (hsu : su.size ≤ 140737488355328) (ka : Option Addr) (kn kc : Nat) (kb : List Nat) (hk : BIn w ka kn kc kb) (xa : Option Addr) (n xc : Nat) (xs : List XV) (hx : XIn w xa n xc xs) (sa : Option Addr) (sl sc : Nat) (sg : List Nat) (hs : BIn w sa sl sc sg) (hsl : sl = 3373) (hq : lkQ ib sb kn xs = 0) (l : List Nat) (hl : encE 48 [] (crtK sn ib sb kb sg (exT xs)) = .ok l) : Calls Tryz.prog 14 #[certV sn is su ka kn kc xa n xc sa sl sc] w (BytIs (bytesE sn ib sb kn kb xs sl sg) w) := by
  have hmf : ∀ (fn : Fn) (first cap : Array Value) (w : World), (Instr.makeFunc fn first cap).run Tryz.prog w = .ok (.func fn first cap) w := fun _ _ _ _ => rfl
  have h00 : Below w.heap.size w (((w.alloc (.cells #[.int .u64 (sn : Nat), .string is, .string su, .slice ka kn kc, .slice xa n xc, .slice sa sl sc] 26)).alloc (.cells #[.slice none 0 0] 22)).alloc (.cells #[.int .i64 0] 27)) := (((Below.refl _ w).alloc (Nat.le_refl _) _).alloc (by simp) _).alloc (by simp; omega) _
  have HBX := Lib.hid (((Blk.new w 26 [.int .u64 (sn : Nat), .string is, .string su, .slice ka kn kc, .slice xa n xc, .slice sa sl sc]).alloc (.cells #[.slice none 0 0] 22)).alloc (.cells #[.int .i64 0] 27))
  have HP := Lib.hid ((Blk.new2 w (.cells #[.int .u64 (sn : Nat), .string is, .string su, .slice ka kn kc, .slice xa n xc, .slice sa sl sc] 26) 22 [.slice none 0 0]).alloc (.cells #[.int .i64 0] 27))
  have HQ := Lib.hid (Blk.new3 w (.cells #[.int .u64 (sn : Nat), .string is, .string su, .slice ka kn kc, .slice xa n xc, .slice sa sl sc] 26) (.cells #[.slice none 0 0] 22) 27 [.int .i64 0])
  have H00 := Lib.hid h00
  have HK := Lib.hid (hk.below h00)
  have HG := Lib.hid (hs.below h00)
  have HX := Lib.hid hx
  have HI := Lib.hid hib
  have HSB := Lib.hid hsb
  have HIS := Lib.hid his
  have HSU := Lib.hid hsu
  have HSN := Lib.hid hsn
  have HQZ := Lib.hid hq
  obtain ⟨⟨_, _, h2017, h16⟩, hc2, _, _⟩ := lk_all hq
  have HKB := Lib.hid (show kn ≤ 140737488351232 by omega)
  have HN16 := Lib.hid (show n ≤ 16 by have := hx.1; omega)
  have HCC := Lib.hid hc2
  have HGB := Lib.hid (show sl ≤ 140737488351232 by omega)
  have HR := Lib.hid (show bytesE sn ib sb kn kb xs sl sg = .ok l by unfold bytesE; rw [if_neg (fun h => h hsl), if_neg (fun h => h hq), hl])
  have HL := Lib.hid hl
  have HSL := Lib.hid hsl
  clear hc2 h2017 h16
  clear h00 hk hib hsb his hsu hsn hx hs hq hl hsl
  go_enter_defers Tryz.func14, Tryz.ntmps14
  generalize hW0 : ((w.alloc (.cells #[.int .u64 (sn : Nat), .string is, .string su, .slice ka kn kc, .slice xa n xc, .slice sa sl sc] 26)).alloc (.cells #[.slice none 0 0] 22)).alloc (.cells #[.int .i64 0] 27) = W0 at *
  go_wp2_with (first | (refine wpList_load_row (P := Tryz.prog) rfl 26 (.tmp 1) rfl w.heap.size rfl 26 _ _ _ HBX.out Tryz.underlying26 rfl info55 ?_) | (go_at_call 35; go_loud ((with_reducible refine (lookAtSig_eq _ _ _ _ _ _ _ _ _ _ _ _ HSL.out _).mono ?_); rintro e w2 ⟨rfl, hb2⟩; have hg2 : Gr W0 w2 := hb2; have HBX := Lib.hid (HBX.out.below' hg2); have HP := Lib.hid (HP.out.below' hg2); have HQ := Lib.hid (HQ.out.below' hg2); have H00 := Lib.hid (H00.out.trans (Below.mono hg2 H00.out.size)); have HK := Lib.hid (HK.out.below hg2); have HG := Lib.hid (HG.out.below hg2); clear hb2 hg2)) | (go_at_call 36; go_loud ((with_reducible refine (lk_good (lookAtSigned_any _ _ _ _ _ _ _ _ _ _ _ _ _ ib sb xs HI.out HSB.out (HX.out.below H00.out)) HQZ.out).mono ?_); rintro e w3 ⟨rfl, hb3⟩; have hg3 : Gr w2 w3 := hb3; have HBX := Lib.hid (HBX.out.below' hg3); have HP := Lib.hid (HP.out.below' hg3); have HQ := Lib.hid (HQ.out.below' hg3); have H00 := Lib.hid (H00.out.trans (Below.mono hg3 H00.out.size)); have HK := Lib.hid (HK.out.below hg3); have HG := Lib.hid (HG.out.below hg3); clear hb3 hg3)) | (go_at_call 42; go_loud ((with_reducible refine (ofCert_any w w3 H00.out sn HSN.out is su ib sb HI.out HSB.out HIS.out HSU.out ka kn kc kb HK.out HKB.out xa n xc xs HX.out HN16.out HCC.out sa sl sc sg HG.out HGB.out).mono ?_); rintro e w4 ⟨a4, n4, c4, b4, m4, d4, hn4, hm4, rfl, hd4, hb4⟩; have HN4 := Lib.hid hn4; have HM4 := Lib.hid hm4; have HD4 := Lib.hid hd4.now; have hg4 : Gr w3 w4 := hb4; have HBX := Lib.hid (HBX.out.below' hg4); have HP := Lib.hid (HP.out.below' hg4); have HQ := Lib.hid (HQ.out.below' hg4); have H00 := Lib.hid (H00.out.trans (Below.mono hg4 H00.out.size)); have HK := Lib.hid (HK.out.below hg4); have HG := Lib.hid (HG.out.below hg4); clear hn4 hm4 hd4 hb4 hg4)) | (go_at_call 38; go_loud ((with_reducible refine (enc_k HL.out HD4.out HN4.out HM4.out).mono ?_); rintro e w5 ⟨x5, y5, rfl, hl5, hb5⟩; have HL5 := Lib.hid hl5; have hg5 : Gr w4 w5 := hb5; have HBX := Lib.hid (HBX.out.below' hg5); have HP := Lib.hid (HP.out.below' hg5); have HQ := Lib.hid (HQ.out.below' hg5); have H00 := Lib.hid (H00.out.trans (Below.mono hg5 H00.out.size)); have HK := Lib.hid (HK.out.below hg5); have HG := Lib.hid (HG.out.below hg5); have q1 := HP.out.cell 0; have q2 := HP.out.free 0; have HQ2 := HQ.out.other ⟨w.heap.size + 1, 0, none⟩ (.slice x5 l.length y5) (show w.heap.size + 1 + 1 ≠ w.heap.size + 1 by omega); have q3 := HQ2.cell 0; have q4 := HQ2.free 0; simp at q1 q3; clear HQ2 hl5 hb5 hg5)) | (go_at_call 37; (with_reducible refine (passedB_ok (x5, l.length, y5) _).mono ?_); rintro e w6 ⟨rfl, rfl⟩))
  have hpp := (HP.out.set 0 (.slice x5 l.length y5)).other ⟨w.heap.size + 1 + 1, 0, none⟩ (.int .i64 0) (show w.heap.size + 1 ≠ w.heap.size + 1 + 1 by omega)
  have hq3 := HQ.out.other ⟨w.heap.size + 1, 0, none⟩ (.slice x5 l.length y5) (show w.heap.size + 1 + 1 ≠ w.heap.size + 1 by omega)
  have hqq := hq3.set 0 (.int .i64 0)
  have hin1 := (HL5.out.cell1 (u := .slice x5 l.length y5) HP.out (fun z h => by cases h)).cell1 (u := .int .i64 0) hq3 (fun z h => by cases h)
  have hbel := ((H00.out.setCell (p := ⟨w.heap.size + 1, 0, none⟩) (by simp) (.slice x5 l.length y5)).setCell (p := ⟨w.heap.size + 1 + 1, 0, none⟩) (by simp; omega) (.int .i64 0))
  exact exitB_good (w.heap.size + 1) (w.heap.size + 1 + 1) x5 _ y5 0 _ hpp hqq rfl rfl (BytIs.good HR.out hbel hin1)
set_option maxRecDepth 100000 in
set_option maxHeartbeats 8000000 in
theorem Signed_lk (w : World) (sn : Nat) (hsn : sn < 18446744073709551616) (is su : ByteArray) (ib sb : List Nat) (hib : strL is = ib) (hsb : strL su = sb) (his : is.size ≤ 140737488355328) (hsu : su.size ≤ 140737488355328) (ka : Option Addr) (kn kc : Nat) (kb : List Nat) (hk : BIn w ka kn kc kb) (xa : Option Addr) (n xc : Nat) (xs : List XV) (hx : XIn w xa n xc xs) (sa : Option Addr) (sl sc : Nat) (sg : List Nat) (hs : BIn w sa sl sc sg) (hq : lkQ ib sb kn xs ≠ 0) : Calls Tryz.prog 13 #[certV sn is su ka kn kc xa n xc sa sl sc] w (BytIs (signE sn ib sb kn kb xs) w) := by
  have hmf : ∀ (fn : Fn) (first cap : Array Value) (w : World), (Instr.makeFunc fn first cap).run Tryz.prog w = .ok (.func fn first cap) w := fun _ _ _ _ => rfl
  have h00 : Below w.heap.size w (((w.alloc (.cells #[.int .u64 (sn : Nat), .string is, .string su, .slice ka kn kc, .slice xa n xc, .slice sa sl sc] 26)).alloc (.cells #[.slice none 0 0] 22)).alloc (.cells #[.int .i64 0] 27)) := (((Below.refl _ w).alloc (Nat.le_refl _) _).alloc (by simp) _).alloc (by simp; omega) _
  have HBX := Lib.hid (((Blk.new w 26 [.int .u64 (sn : Nat), .string is, .string su, .slice ka kn kc, .slice xa n xc, .slice sa sl sc]).alloc (.cells #[.slice none 0 0] 22)).alloc (.cells #[.int .i64 0] 27))
  have HP := Lib.hid ((Blk.new2 w (.cells #[.int .u64 (sn : Nat), .string is, .string su, .slice ka kn kc, .slice xa n xc, .slice sa sl sc] 26) 22 [.slice none 0 0]).alloc (.cells #[.int .i64 0] 27))
  have HQ := Lib.hid (Blk.new3 w (.cells #[.int .u64 (sn : Nat), .string is, .string su, .slice ka kn kc, .slice xa n xc, .slice sa sl sc] 26) (.cells #[.slice none 0 0] 22) 27 [.int .i64 0])
  have H00 := Lib.hid h00
  have HK := Lib.hid (hk.below h00)
  have HG := Lib.hid (hs.below h00)
  have HX := Lib.hid hx
  have HI := Lib.hid hib
  have HSB := Lib.hid hsb
  have HIS := Lib.hid his
  have HSU := Lib.hid hsu
  have HSN := Lib.hid hsn
  have HQZ := Lib.hid hq
  have HR := Lib.hid (show signE sn ib sb kn kb xs = .error (lkQ ib sb kn xs) by unfold signE; rw [if_pos hq])
  have HZ := HQZ
  clear h00 hk hib hsb his hsu hsn hx hs hq
  go_enter_defers Tryz.func13, Tryz.ntmps13
  generalize hW0 : ((w.alloc (.cells #[.int .u64 (sn : Nat), .string is, .string su, .slice ka kn kc, .slice xa n xc, .slice sa sl sc] 26)).alloc (.cells #[.slice none 0 0] 22)).alloc (.cells #[.int .i64 0] 27) = W0 at *
  go_wp2_with (first | (refine wpList_load_row (P := Tryz.prog) rfl 26 (.tmp 1) rfl w.heap.size rfl 26 _ _ _ HBX.out Tryz.underlying26 rfl info55 ?_) | (go_at_call 36; go_loud ((with_reducible refine (lk_bad (lookAtSigned_any _ _ _ _ _ _ _ _ _ _ _ _ _ ib sb xs HI.out HSB.out (HX.out.below H00.out)) HQZ.out).mono ?_); rintro e w3 ⟨rfl, hb3⟩; have hg3 : Gr W0 w3 := hb3; have HBX := Lib.hid (HBX.out.below' hg3); have HP := Lib.hid (HP.out.below' hg3); have HQ := Lib.hid (HQ.out.below' hg3); have H00 := Lib.hid (H00.out.trans (Below.mono hg3 H00.out.size)); have HK := Lib.hid (HK.out.below hg3); have HG := Lib.hid (HG.out.below hg3); clear hb3 hg3)))
  exact exitS_bad (w.heap.size + 1) (w.heap.size + 1 + 1) (lkQ ib sb kn xs : Nat) _ _ _ (by omega) HP.out HQ.out rfl rfl (BytIs.bad HR.out HZ.out ((H00.out.setCell (p := ⟨w.heap.size + 1, 0, none⟩) (by simp) _).setCell (p := ⟨w.heap.size + 1 + 1, 0, none⟩) (by simp; omega) _))
set_option maxRecDepth 100000 in
set_option maxHeartbeats 8000000 in
theorem Signed_enc (w : World) (sn : Nat) (hsn : sn < 18446744073709551616) (is su : ByteArray) (ib sb : List Nat) (hib : strL is = ib) (hsb : strL su = sb) (his : is.size ≤ 140737488355328) (hsu : su.size ≤ 140737488355328) (ka : Option Addr) (kn kc : Nat) (kb : List Nat) (hk : BIn w ka kn kc kb) (xa : Option Addr) (n xc : Nat) (xs : List XV) (hx : XIn w xa n xc xs) (sa : Option Addr) (sl sc : Nat) (sg : List Nat) (hs : BIn w sa sl sc sg) (hq : lkQ ib sb kn xs = 0) (x : Nat) (hl : encE 48 [] (tbsK sn ib sb kb (exT xs)) = .error x) (hxz : x ≠ 0) : Calls Tryz.prog 13 #[certV sn is su ka kn kc xa n xc sa sl sc] w (BytIs (signE sn ib sb kn kb xs) w) := by
  have hmf : ∀ (fn : Fn) (first cap : Array Value) (w : World), (Instr.makeFunc fn first cap).run Tryz.prog w = .ok (.func fn first cap) w := fun _ _ _ _ => rfl
  have h00 : Below w.heap.size w (((w.alloc (.cells #[.int .u64 (sn : Nat), .string is, .string su, .slice ka kn kc, .slice xa n xc, .slice sa sl sc] 26)).alloc (.cells #[.slice none 0 0] 22)).alloc (.cells #[.int .i64 0] 27)) := (((Below.refl _ w).alloc (Nat.le_refl _) _).alloc (by simp) _).alloc (by simp; omega) _
  have HBX := Lib.hid (((Blk.new w 26 [.int .u64 (sn : Nat), .string is, .string su, .slice ka kn kc, .slice xa n xc, .slice sa sl sc]).alloc (.cells #[.slice none 0 0] 22)).alloc (.cells #[.int .i64 0] 27))
  have HP := Lib.hid ((Blk.new2 w (.cells #[.int .u64 (sn : Nat), .string is, .string su, .slice ka kn kc, .slice xa n xc, .slice sa sl sc] 26) 22 [.slice none 0 0]).alloc (.cells #[.int .i64 0] 27))
  have HQ := Lib.hid (Blk.new3 w (.cells #[.int .u64 (sn : Nat), .string is, .string su, .slice ka kn kc, .slice xa n xc, .slice sa sl sc] 26) (.cells #[.slice none 0 0] 22) 27 [.int .i64 0])
  have H00 := Lib.hid h00
  have HK := Lib.hid (hk.below h00)
  have HG := Lib.hid (hs.below h00)
  have HX := Lib.hid hx
  have HI := Lib.hid hib
  have HSB := Lib.hid hsb
  have HIS := Lib.hid his
  have HSU := Lib.hid hsu
  have HSN := Lib.hid hsn
  have HQZ := Lib.hid hq
  obtain ⟨⟨_, _, h2017, h16⟩, hc2, _, _⟩ := lk_all hq
  have HKB := Lib.hid (show kn ≤ 140737488351232 by omega)
  have HN16 := Lib.hid (show n ≤ 16 by have := hx.1; omega)
  have HCC := Lib.hid hc2
  have HR := Lib.hid (show signE sn ib sb kn kb xs = .error x by unfold signE; rw [if_neg (fun h => h hq), hl])
  have HZ := Lib.hid hxz
  have HXZ := HZ
  have HL := Lib.hid hl
  clear hc2 h2017 h16
  clear h00 hk hib hsb his hsu hsn hx hs hq hl hxz
  go_enter_defers Tryz.func13, Tryz.ntmps13
  generalize hW0 : ((w.alloc (.cells #[.int .u64 (sn : Nat), .string is, .string su, .slice ka kn kc, .slice xa n xc, .slice sa sl sc] 26)).alloc (.cells #[.slice none 0 0] 22)).alloc (.cells #[.int .i64 0] 27) = W0 at *
  go_wp2_with (first | (refine wpList_load_row (P := Tryz.prog) rfl 26 (.tmp 1) rfl w.heap.size rfl 26 _ _ _ HBX.out Tryz.underlying26 rfl info55 ?_) | (go_at_call 36; go_loud ((with_reducible refine (lk_good (lookAtSigned_any _ _ _ _ _ _ _ _ _ _ _ _ _ ib sb xs HI.out HSB.out (HX.out.below H00.out)) HQZ.out).mono ?_); rintro e w3 ⟨rfl, hb3⟩; have hg3 : Gr W0 w3 := hb3; have HBX := Lib.hid (HBX.out.below' hg3); have HP := Lib.hid (HP.out.below' hg3); have HQ := Lib.hid (HQ.out.below' hg3); have H00 := Lib.hid (H00.out.trans (Below.mono hg3 H00.out.size)); have HK := Lib.hid (HK.out.below hg3); have HG := Lib.hid (HG.out.below hg3); clear hb3 hg3)) | (go_at_call 40; go_loud ((with_reducible refine (ofSigned_any w w3 H00.out sn HSN.out is su ib sb HI.out HSB.out HIS.out HSU.out ka kn kc kb HK.out HKB.out xa n xc xs HX.out HN16.out HCC.out sa sl sc).mono ?_); rintro e w4 ⟨a4, n4, c4, b4, m4, d4, hn4, hm4, rfl, hd4, hb4⟩; have HN4 := Lib.hid hn4; have HM4 := Lib.hid hm4; have HD4 := Lib.hid hd4.now; have hg4 : Gr w3 w4 := hb4; have HBX := Lib.hid (HBX.out.below' hg4); have HP := Lib.hid (HP.out.below' hg4); have HQ := Lib.hid (HQ.out.below' hg4); have H00 := Lib.hid (H00.out.trans (Below.mono hg4 H00.out.size)); have HK := Lib.hid (HK.out.below hg4); have HG := Lib.hid (HG.out.below hg4); clear hn4 hm4 hd4 hb4 hg4)) | (go_at_call 38; go_loud ((with_reducible refine (enc_x HL.out HD4.out HN4.out HM4.out).mono ?_); rintro e w5 ⟨rfl, hb5⟩; have hg5 : Gr w4 w5 := hb5; have HBX := Lib.hid (HBX.out.below' hg5); have HP := Lib.hid (HP.out.below' hg5); have HQ := Lib.hid (HQ.out.below' hg5); have H00 := Lib.hid (H00.out.trans (Below.mono hg5 H00.out.size)); have HK := Lib.hid (HK.out.below hg5); have HG := Lib.hid (HG.out.below hg5); clear hb5 hg5)) | (go_at_call 37; (with_reducible refine (passedB_bad (none, 0, 0) x HXZ.out _).mono ?_); rintro e w6 ⟨rfl, rfl⟩))
  exact exitS_bad (w.heap.size + 1) (w.heap.size + 1 + 1) (x : Nat) _ _ _ (by omega) HP.out HQ.out rfl rfl (BytIs.bad HR.out HZ.out ((H00.out.setCell (p := ⟨w.heap.size + 1, 0, none⟩) (by simp) _).setCell (p := ⟨w.heap.size + 1 + 1, 0, none⟩) (by simp; omega) _))
set_option maxRecDepth 100000 in
set_option maxHeartbeats 8000000 in
theorem Signed_ok (w : World) (sn : Nat) (hsn : sn < 18446744073709551616) (is su : ByteArray) (ib sb : List Nat) (hib : strL is = ib) (hsb : strL su = sb) (his : is.size ≤ 140737488355328) (hsu : su.size ≤ 140737488355328) (ka : Option Addr) (kn kc : Nat) (kb : List Nat) (hk : BIn w ka kn kc kb) (xa : Option Addr) (n xc : Nat) (xs : List XV) (hx : XIn w xa n xc xs) (sa : Option Addr) (sl sc : Nat) (sg : List Nat) (hs : BIn w sa sl sc sg) (hq : lkQ ib sb kn xs = 0) (l : List Nat) (hl : encE 48 [] (tbsK sn ib sb kb (exT xs)) = .ok l) : Calls Tryz.prog 13 #[certV sn is su ka kn kc xa n xc sa sl sc] w (BytIs (signE sn ib sb kn kb xs) w) := by
  have hmf : ∀ (fn : Fn) (first cap : Array Value) (w : World), (Instr.makeFunc fn first cap).run Tryz.prog w = .ok (.func fn first cap) w := fun _ _ _ _ => rfl
  have h00 : Below w.heap.size w (((w.alloc (.cells #[.int .u64 (sn : Nat), .string is, .string su, .slice ka kn kc, .slice xa n xc, .slice sa sl sc] 26)).alloc (.cells #[.slice none 0 0] 22)).alloc (.cells #[.int .i64 0] 27)) := (((Below.refl _ w).alloc (Nat.le_refl _) _).alloc (by simp) _).alloc (by simp; omega) _
  have HBX := Lib.hid (((Blk.new w 26 [.int .u64 (sn : Nat), .string is, .string su, .slice ka kn kc, .slice xa n xc, .slice sa sl sc]).alloc (.cells #[.slice none 0 0] 22)).alloc (.cells #[.int .i64 0] 27))
  have HP := Lib.hid ((Blk.new2 w (.cells #[.int .u64 (sn : Nat), .string is, .string su, .slice ka kn kc, .slice xa n xc, .slice sa sl sc] 26) 22 [.slice none 0 0]).alloc (.cells #[.int .i64 0] 27))
  have HQ := Lib.hid (Blk.new3 w (.cells #[.int .u64 (sn : Nat), .string is, .string su, .slice ka kn kc, .slice xa n xc, .slice sa sl sc] 26) (.cells #[.slice none 0 0] 22) 27 [.int .i64 0])
  have H00 := Lib.hid h00
  have HK := Lib.hid (hk.below h00)
  have HG := Lib.hid (hs.below h00)
  have HX := Lib.hid hx
  have HI := Lib.hid hib
  have HSB := Lib.hid hsb
  have HIS := Lib.hid his
  have HSU := Lib.hid hsu
  have HSN := Lib.hid hsn
  have HQZ := Lib.hid hq
  obtain ⟨⟨_, _, h2017, h16⟩, hc2, _, _⟩ := lk_all hq
  have HKB := Lib.hid (show kn ≤ 140737488351232 by omega)
  have HN16 := Lib.hid (show n ≤ 16 by have := hx.1; omega)
  have HCC := Lib.hid hc2
  have HR := Lib.hid (show signE sn ib sb kn kb xs = .ok l by unfold signE; rw [if_neg (fun h => h hq), hl])
  have HL := Lib.hid hl
  clear hc2 h2017 h16
  clear h00 hk hib hsb his hsu hsn hx hs hq hl
  go_enter_defers Tryz.func13, Tryz.ntmps13
  generalize hW0 : ((w.alloc (.cells #[.int .u64 (sn : Nat), .string is, .string su, .slice ka kn kc, .slice xa n xc, .slice sa sl sc] 26)).alloc (.cells #[.slice none 0 0] 22)).alloc (.cells #[.int .i64 0] 27) = W0 at *
  go_wp2_with (first | (refine wpList_load_row (P := Tryz.prog) rfl 26 (.tmp 1) rfl w.heap.size rfl 26 _ _ _ HBX.out Tryz.underlying26 rfl info55 ?_) | (go_at_call 36; go_loud ((with_reducible refine (lk_good (lookAtSigned_any _ _ _ _ _ _ _ _ _ _ _ _ _ ib sb xs HI.out HSB.out (HX.out.below H00.out)) HQZ.out).mono ?_); rintro e w3 ⟨rfl, hb3⟩; have hg3 : Gr W0 w3 := hb3; have HBX := Lib.hid (HBX.out.below' hg3); have HP := Lib.hid (HP.out.below' hg3); have HQ := Lib.hid (HQ.out.below' hg3); have H00 := Lib.hid (H00.out.trans (Below.mono hg3 H00.out.size)); have HK := Lib.hid (HK.out.below hg3); have HG := Lib.hid (HG.out.below hg3); clear hb3 hg3)) | (go_at_call 40; go_loud ((with_reducible refine (ofSigned_any w w3 H00.out sn HSN.out is su ib sb HI.out HSB.out HIS.out HSU.out ka kn kc kb HK.out HKB.out xa n xc xs HX.out HN16.out HCC.out sa sl sc).mono ?_); rintro e w4 ⟨a4, n4, c4, b4, m4, d4, hn4, hm4, rfl, hd4, hb4⟩; have HN4 := Lib.hid hn4; have HM4 := Lib.hid hm4; have HD4 := Lib.hid hd4.now; have hg4 : Gr w3 w4 := hb4; have HBX := Lib.hid (HBX.out.below' hg4); have HP := Lib.hid (HP.out.below' hg4); have HQ := Lib.hid (HQ.out.below' hg4); have H00 := Lib.hid (H00.out.trans (Below.mono hg4 H00.out.size)); have HK := Lib.hid (HK.out.below hg4); have HG := Lib.hid (HG.out.below hg4); clear hn4 hm4 hd4 hb4 hg4)) | (go_at_call 38; go_loud ((with_reducible refine (enc_k HL.out HD4.out HN4.out HM4.out).mono ?_); rintro e w5 ⟨x5, y5, rfl, hl5, hb5⟩; have HL5 := Lib.hid hl5; have hg5 : Gr w4 w5 := hb5; have HBX := Lib.hid (HBX.out.below' hg5); have HP := Lib.hid (HP.out.below' hg5); have HQ := Lib.hid (HQ.out.below' hg5); have H00 := Lib.hid (H00.out.trans (Below.mono hg5 H00.out.size)); have HK := Lib.hid (HK.out.below hg5); have HG := Lib.hid (HG.out.below hg5); have q1 := HP.out.cell 0; have q2 := HP.out.free 0; have HQ2 := HQ.out.other ⟨w.heap.size + 1, 0, none⟩ (.slice x5 l.length y5) (show w.heap.size + 1 + 1 ≠ w.heap.size + 1 by omega); have q3 := HQ2.cell 0; have q4 := HQ2.free 0; simp at q1 q3; clear HQ2 hl5 hb5 hg5)) | (go_at_call 37; (with_reducible refine (passedB_ok (x5, l.length, y5) _).mono ?_); rintro e w6 ⟨rfl, rfl⟩))
  have hpp := (HP.out.set 0 (.slice x5 l.length y5)).other ⟨w.heap.size + 1 + 1, 0, none⟩ (.int .i64 0) (show w.heap.size + 1 ≠ w.heap.size + 1 + 1 by omega)
  have hq3 := HQ.out.other ⟨w.heap.size + 1, 0, none⟩ (.slice x5 l.length y5) (show w.heap.size + 1 + 1 ≠ w.heap.size + 1 by omega)
  have hqq := hq3.set 0 (.int .i64 0)
  have hin1 := (HL5.out.cell1 (u := .slice x5 l.length y5) HP.out (fun z h => by cases h)).cell1 (u := .int .i64 0) hq3 (fun z h => by cases h)
  have hbel := ((H00.out.setCell (p := ⟨w.heap.size + 1, 0, none⟩) (by simp) (.slice x5 l.length y5)).setCell (p := ⟨w.heap.size + 1 + 1, 0, none⟩) (by simp; omega) (.int .i64 0))
  exact exitS_good (w.heap.size + 1) (w.heap.size + 1 + 1) x5 _ y5 0 _ hpp hqq rfl rfl (BytIs.good HR.out hbel hin1)
theorem Bytes_any (w : World) (sn : Nat) (hsn : sn < 18446744073709551616) (is su : ByteArray) (ib sb : List Nat) (hib : strL is = ib) (hsb : strL su = sb) (his : is.size ≤ 140737488355328) (hsu : su.size ≤ 140737488355328) (ka : Option Addr) (kn kc : Nat) (kb : List Nat) (hk : BIn w ka kn kc kb) (xa : Option Addr) (n xc : Nat) (xs : List XV) (hx : XIn w xa n xc xs) (sa : Option Addr) (sl sc : Nat) (sg : List Nat) (hs : BIn w sa sl sc sg) (hne : ∀ x, encE 48 [] (crtK sn ib sb kb sg (exT xs)) = .error x → x ≠ 0) : Calls Tryz.prog 14 #[certV sn is su ka kn kc xa n xc sa sl sc] w (BytIs (bytesE sn ib sb kn kb xs sl sg) w) := by
  by_cases hsl : sl = 3373
  · by_cases hq : lkQ ib sb kn xs = 0
    · cases hl : encE 48 [] (crtK sn ib sb kb sg (exT xs)) with
      | error x => exact Bytes_enc w sn hsn is su ib sb hib hsb his hsu ka kn kc kb hk xa n xc xs hx sa sl sc sg hs hsl hq x hl (hne x hl)
      | ok l => exact Bytes_ok w sn hsn is su ib sb hib hsb his hsu ka kn kc kb hk xa n xc xs hx sa sl sc sg hs hsl hq l hl
    · exact Bytes_lk w sn hsn is su ib sb hib hsb his hsu ka kn kc kb hk xa n xc xs hx sa sl sc sg hs hsl hq
  · exact Bytes_sig w sn hsn is su ib sb hib hsb his hsu ka kn kc kb hk xa n xc xs hx sa sl sc sg hs hsl
theorem Signed_any (w : World) (sn : Nat) (hsn : sn < 18446744073709551616) (is su : ByteArray) (ib sb : List Nat) (hib : strL is = ib) (hsb : strL su = sb) (his : is.size ≤ 140737488355328) (hsu : su.size ≤ 140737488355328) (ka : Option Addr) (kn kc : Nat) (kb : List Nat) (hk : BIn w ka kn kc kb) (xa : Option Addr) (n xc : Nat) (xs : List XV) (hx : XIn w xa n xc xs) (sa : Option Addr) (sl sc : Nat) (sg : List Nat) (hs : BIn w sa sl sc sg) (hne : ∀ x, encE 48 [] (tbsK sn ib sb kb (exT xs)) = .error x → x ≠ 0) : Calls Tryz.prog 13 #[certV sn is su ka kn kc xa n xc sa sl sc] w (BytIs (signE sn ib sb kn kb xs) w) := by
  by_cases hq : lkQ ib sb kn xs = 0
  · cases hl : encE 48 [] (tbsK sn ib sb kb (exT xs)) with
    | error x => exact Signed_enc w sn hsn is su ib sb hib hsb his hsu ka kn kc kb hk xa n xc xs hx sa sl sc sg hs hq x hl (hne x hl)
    | ok l => exact Signed_ok w sn hsn is su ib sb hib hsb his hsu ka kn kc kb hk xa n xc xs hx sa sl sc sg hs hq l hl
  · exact Signed_lk w sn hsn is su ib sb hib hsb his hsu ka kn kc kb hk xa n xc xs hx sa sl sc sg hs hq
end Go.Proofs.YtbabpmncdphnjaaGreat
