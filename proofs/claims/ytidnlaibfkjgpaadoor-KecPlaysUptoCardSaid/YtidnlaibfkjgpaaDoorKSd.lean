/- For KecPlays: any step (func 19) keeps what the loop keeps. Condition: the table of constants; sizes. -/
import Derived.Test.YtidnlaibfkjgpaaDoorKSc
namespace Go.Proofs.YtidnlaibfkjgpaaDoor
open Go.RowKit
set_option linter.unusedVariables false
set_option linter.unusedSimpArgs false
set_option maxRecDepth 100000 in
set_option maxHeartbeats 1600000 in
theorem step_2 (gt ga gb B k : Nat) (ph : Option Nat) (L : List Nat) (v : Value) (N : Int) (h64 : -9223372036854775808 ≤ N ∧ N ≤ 9223372036854775807) (a : Option Addr) (m c : Nat) (w : World) (ht : TwK w gt ga gb) (h : KT w B ga gb k ph L v) (hB : B ≤ w.heap.size) (hBa : B ≤ ga) (hBb : B ≤ gb) (hph : NK ph ≤ 10000000) (hL : L.length ≤ 10000000) (htab : Tabs w) :
    Calls Tryd.prog 19 #[.pointer (some ⟨gt, 0, none⟩), .agg #[.int .i64 2, .int .i64 N, .slice a m c]] w (StK B gt ga gb ph L v m w) := by
  obtain ⟨p1, p2, p3, p4, p5, p6⟩ := h.apart
  obtain ⟨sa, ss, hsp⟩ := h.sp
  obtain ⟨⟨cd, hcd⟩, _⟩ := h.doc
  have g1 : ga ≠ gt := blk_ne hsp.2.2.2.2 (show Blk w gt 44 _ from ht) (by decide)
  have g2 : gb ≠ gt := blk_ne hcd (show Blk w gt 44 _ from ht) (by decide)
  have hgtl : gt < w.heap.size := Blk.lt ht
  have hb1 := (Below.refl w.heap.size w).alloc (Nat.le_refl _) (.cells #[.int .i64 2, .int .i64 N, .slice a m c] 49)
  have HR := Lib.hid (read39_any gt ga gb B k ph L v N h64 _ (Blk.below ht hb1 hgtl) (h.fr (Fr.below hb1 : Fr w _ (fun _ => False)) (fun x => x) (fun x => x) (fun _ _ x => x)) (Nat.le_trans hB hb1.size) hph hL (htab.below hb1))
  have HF1 := Lib.hid (show ∀ F, Fr w (w.alloc (.cells #[.int .i64 2, .int .i64 N, .slice a m c] 49)) F from fun F => Fr.below hb1)
  have HT1 := Lib.hid (show TwK (w.alloc (.cells #[.int .i64 2, .int .i64 N, .slice a m c] 49)) gt ga gb from Blk.below ht hb1 hgtl)
  unfold RdIs at HR
  unfold StK
  clear ht h hb1 htab hsp hcd
  go_enter Tryd.func19, Tryd.ntmps19
  go_wp2_with fail
  refine HR.out.mono ?_
  rintro e w2 ⟨rfl, ph', hk, hf, hph'⟩
  have HK := Lib.hid hk
  have HT := Lib.hid (show TwK w2 gt ga gb from blk_fr HT1.out hf (by rintro (q | q); exact g1 q.symm; exact g2 q.symm))
  have HF := Lib.hid (((HF1.out (fun j => j = ga ∨ j = gb)).trans hf (fun j _ e => e)).mono (fun j _ e => (e.elim (fun q => .inr (.inl q)) (fun q => .inr (.inr (.inl q))) : j = gt ∨ j = ga ∨ j = gb ∨ v.ownBlock = some j)))
  have hn : NK ph' ≤ NK ph + 65536 := by
    rcases hph' with rfl | ⟨n, h1, rfl⟩
    · omega
    · show NK ph + n ≤ NK ph + 65536; omega
  clear hk hf hph'
  go_wp2_with fail
  go_ret
  exact ⟨rfl, ga, gb, k, ph', L, v, HT.out, HK.out, HF.out, hBa, hBb, by omega, hn⟩
set_option maxRecDepth 100000 in
set_option maxHeartbeats 1600000 in
theorem step_5 (gt ga gb B k : Nat) (ph : Option Nat) (L : List Nat) (v : Value) (N : Int) (a : Option Addr) (m c : Nat) (w : World) (ht : TwK w gt ga gb) (h : KT w B ga gb k ph L v) (hB : B ≤ w.heap.size) (hBa : B ≤ ga) (hBb : B ≤ gb) (htab : Tabs w) :
    Calls Tryd.prog 19 #[.pointer (some ⟨gt, 0, none⟩), .agg #[.int .i64 5, .int .i64 N, .slice a m c]] w (StK B gt ga gb ph L v m w) := by
  have hgtl : gt < w.heap.size := Blk.lt ht
  have hb1 := (Below.refl w.heap.size w).alloc (Nat.le_refl _) (.cells #[.int .i64 5, .int .i64 N, .slice a m c] 49)
  have HF1 := Lib.hid (show ∀ F, Fr w (w.alloc (.cells #[.int .i64 5, .int .i64 N, .slice a m c] 49)) F from fun F => Fr.below hb1)
  have HT1 := Lib.hid (show Blk (w.alloc (.cells #[.int .i64 5, .int .i64 N, .slice a m c] 49)) gt 44 _ from Blk.below ht hb1 hgtl)
  have HK1 := Lib.hid (h.fr (Fr.below hb1 : Fr w _ (fun _ => False)) (fun x => x) (fun x => x) (fun _ _ x => x))
  have hB1 : B ≤ (w.alloc (.cells #[.int .i64 5, .int .i64 N, .slice a m c] 49)).heap.size := Nat.le_trans hB hb1.size
  have HTAB := Lib.hid (htab.below hb1)
  unfold StK
  clear ht h hb1 htab
  by_cases hN : 1 ≤ N ∧ N ≤ 5
  · obtain ⟨k2, rfl⟩ := Int.eq_ofNat_of_zero_le (show 0 ≤ N by omega)
    have hk2 : IsKind k2 := by unfold IsKind; omega
    have HBG := Lib.hid (begun_yes gt B k2 hk2 _ _ _ HT1.out hB1 HTAB.out)
    unfold BegIs at HBG
    go_enter Tryd.func19, Tryd.ntmps19
    go_wp2_with fail
    refine HBG.out.mono ?_
    rintro e w2 ⟨rfl, ga2, gb2, q1, q2, q3, q4, q5⟩
    have H3 := Lib.hid q3
    have H4 := Lib.hid q4
    have HF := Lib.hid (((HF1.out (fun j => j = gt)).trans q5 (fun j _ e => e)).mono (fun j _ e => (.inl e : j = gt ∨ j = ga ∨ j = gb ∨ v.ownBlock = some j)))
    clear q3 q4 q5
    go_wp2_with fail
    go_ret
    exact ⟨rfl, ga2, gb2, k2, none, [], _, H3.out, H4.out, HF.out, q1, q2, by simp, by show 0 ≤ _; omega⟩
  · have HBG := Lib.hid (fun w => begun_no gt N (by omega) w)
    go_enter Tryd.func19, Tryd.ntmps19
    go_wp2_with fail
    refine (HBG.out _).mono ?_
    rintro e w' ⟨rfl, rfl⟩
    go_wp2_with fail
    go_ret
    exact ⟨rfl, ga, gb, k, ph, L, v, HT1.out, HK1.out, HF1.out _, hBa, hBb, by omega, by omega⟩
set_option maxRecDepth 100000 in
set_option maxHeartbeats 1600000 in
theorem step_no (gt ga gb B k : Nat) (ph : Option Nat) (L : List Nat) (v : Value) (kd N : Int) (hkd : kd < 1 ∨ 5 < kd) (a : Option Addr) (m c : Nat) (w : World) (ht : TwK w gt ga gb) (h : KT w B ga gb k ph L v) (hBa : B ≤ ga) (hBb : B ≤ gb) :
    Calls Tryd.prog 19 #[.pointer (some ⟨gt, 0, none⟩), .agg #[.int .i64 kd, .int .i64 N, .slice a m c]] w (StK B gt ga gb ph L v m w) := by
  have hgtl : gt < w.heap.size := Blk.lt ht
  have hb1 := (Below.refl w.heap.size w).alloc (Nat.le_refl _) (.cells #[.int .i64 kd, .int .i64 N, .slice a m c] 49)
  have HF1 := Lib.hid (show ∀ F, Fr w (w.alloc (.cells #[.int .i64 kd, .int .i64 N, .slice a m c] 49)) F from fun F => Fr.below hb1)
  have HT1 := Lib.hid (show TwK (w.alloc (.cells #[.int .i64 kd, .int .i64 N, .slice a m c] 49)) gt ga gb from Blk.below ht hb1 hgtl)
  have HK1 := Lib.hid (h.fr (Fr.below hb1 : Fr w _ (fun _ => False)) (fun x => x) (fun x => x) (fun _ _ x => x))
  have e1 : (kd == 1) = false := beq_eq_false_iff_ne.2 (by omega)
  have e2 : (kd == 2) = false := beq_eq_false_iff_ne.2 (by omega)
  have e3 : (kd == 3) = false := beq_eq_false_iff_ne.2 (by omega)
  have e4 : (kd == 4) = false := beq_eq_false_iff_ne.2 (by omega)
  have e5 : (kd == 5) = false := beq_eq_false_iff_ne.2 (by omega)
  unfold StK
  clear ht h hb1 hkd
  go_enter Tryd.func19, Tryd.ntmps19
  go_wp2_with fail
  go_ret
  exact ⟨rfl, ga, gb, k, ph, L, v, HT1.out, HK1.out, HF1.out _, hBa, hBb, by omega, by omega⟩
theorem stepK_any (gt ga gb B k : Nat) (ph : Option Nat) (L : List Nat) (v : Value) (kd N : Int) (h64 : -9223372036854775808 ≤ N ∧ N ≤ 9223372036854775807) (a : Option Addr) (m c : Nat) (l : List Nat) (w : World) (hb : BIn w a m c l) (ht : TwK w gt ga gb) (h : KT w B ga gb k ph L v) (hB : B ≤ w.heap.size) (hg1 : 1 ≤ gt) (hBa : B ≤ ga) (hBb : B ≤ gb) (hsep : ∀ b, a = some b → 0 < m → b.block ≠ ga ∧ b.block ≠ gb ∧ b.block < B) (h47 : m ≤ 10000000) (hph : NK ph ≤ 10000000) (hL : L.length ≤ 10000000) (htab : Tabs w) :
    Calls Tryd.prog 19 #[.pointer (some ⟨gt, 0, none⟩), .agg #[.int .i64 kd, .int .i64 N, .slice a m c]] w (StK B gt ga gb ph L v m w) := by
  have hgt : v.ownBlock ≠ some gt := (own_ne_t h.2.2.1 (show Blk w gt 44 _ from ht) (by decide)).symm
  by_cases k1 : kd = 1
  · subst k1
    cases hp : ph.isSome with
    | false => exact step1_fresh gt ga gb B k ph L v N a m c l w hp hb ht h hB hgt hBa hBb hsep h47 hL htab
    | true => exact step1_late gt ga gb B k ph L v N a m c l w hp hb ht h hB hgt hBa hBb hsep h47 hL htab
  by_cases k2 : kd = 2
  · subst k2; exact step_2 gt ga gb B k ph L v N h64 a m c w ht h hB hBa hBb hph hL htab
  by_cases k3 : kd = 3
  · subst k3; exact step_3 gt ga gb B k ph L v N a m c w ht h hB hgt hBa hBb hg1 htab
  by_cases k4 : kd = 4
  · subst k4; exact step_4 gt ga gb B k ph L v N a m c w ht h hB hgt hBa hBb hg1 htab
  by_cases k5 : kd = 5
  · subst k5; exact step_5 gt ga gb B k ph L v N a m c w ht h hB hBa hBb htab
  exact step_no gt ga gb B k ph L v kd N (by omega) a m c w ht h hBa hBb
end Go.Proofs.YtidnlaibfkjgpaaDoor
