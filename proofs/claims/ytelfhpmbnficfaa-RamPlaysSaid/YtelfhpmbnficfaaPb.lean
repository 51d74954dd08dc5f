/- The program's bytes: read, written, wiped. No condition. -/
import Derived.Test.YtelfhpmbnficfaaPm
import Derived.Test.YtelfhpmbnficfaaPd
import Derived.Test.YtelfhpmbnficfaaCl
import Derived.Test.YtelfhpmbnficfaaDr
namespace Go.Proofs.Ytelfhpmbnficfaa
open Go.RowKit
set_option linter.unusedVariables false
set_option maxRecDepth 100000
set_option linter.unusedSimpArgs false
/-- bytes in new memory, and a code -/
def RdIs (E : Int) (L : List Nat) (w : World) (e : Ending) (w' : World) : Prop := ∃ A c, e = .returned (.tuple #[.slice A L.length c, .int .i64 E]) ∧ w'.ownsRow w.heap.size 5 1 (.slice A L.length c) L.length (bytesV L) ∧ Below w.heap.size w w'
theorem RdIs.nil (E : Int) (w : World) : RdIs E [] w (.returned (.tuple #[.slice none 0 0, .int .i64 E])) w   := ⟨Option.none, 0, rfl, World.ownsRow_nil _ _ _ _, Below.refl _ _⟩
theorem RdIs.behind {E : Int} {L : List Nat} {w w1 w2 : World} {e : Ending} (h : RdIs E L w1 e w2) (hb : Below w.heap.size w w1) : RdIs E L w e w2 := by
  obtain ⟨A, c, h1, h2, h3⟩ := h
  exact ⟨A, c, h1, own_mono h2 hb.size, Gr.trans hb h3⟩
/-- where a part begins -/
def oo (o : Nat) : Nat := if o = 65536 then 0 else o
theorem slice_lo (w : World) (g o : Nat) (ho : o ≤ 65536) : (Instr.sliceAt 26 (.pointer (some ⟨g, 0, none⟩)) (some (.int .u64 (o : Nat))) none none).run Try.prog w = .ok (.slice (some ⟨g, oo o, none⟩) (65536 - o) (65536 - o)) w := by
  have hl : Try.prog.arrayLen 26 = 65536 := by kernel_rfl
  have he : Try.prog.elem 26 = 5 := by kernel_rfl
  have hs : (sizeOf 5).run Try.prog w = .ok 1 w := by kernel_rfl
  rw [run_sliceAt_array_l w 26 ⟨g, 0, none⟩ (by rw [hl, he]; exact Try.underlying26) .u64 o (by omega) (by rw [hl]; omega), he, hs, hl]
  simp only [Result.andThen, slicedAt, Int.toNat_natCast]
  unfold oo
  by_cases h64 : o = 65536
  · rw [if_pos (by omega), if_pos h64]
  · rw [if_neg (by omega), if_neg h64, Addr.add_mid, Nat.zero_add, Nat.mul_one]
theorem slice_all (w : World) (g : Nat) : (Instr.sliceAt 26 (.pointer (some ⟨g, 0, none⟩)) none none none).run Try.prog w = .ok (.slice (some ⟨g, 0, none⟩) 65536 65536) w := by
  have hl : Try.prog.arrayLen 26 = 65536 := by kernel_rfl
  have he : Try.prog.elem 26 = 5 := by kernel_rfl
  rw [run_sliceAt_array_all w 26 ⟨g, 0, none⟩ (by rw [hl, he]; exact Try.underlying26), hl]
  try rfl
section
variable {w : World} {base a : Nat} {m : List Nat} {t : List Reg} {A : Option Addr} {c : Nat}
theorem PAt.bin (h : PAt w base a m t A c) (k : MOk m) : BIn w (some ⟨a, 0, none⟩) 65536 65536 m :=
  ⟨⟨k.ln, by unfold maxLen; omega, k.bd, .inr ⟨a, 0, rfl, fun i hi => by rw [Nat.zero_add]; exact h.byt k i hi⟩⟩, Nat.le_refl _, by unfold maxLen; omega, by omega, fun h => by cases h⟩
end
theorem bin_part {w : World} {a o s : Nat} {m : List Nat} (h : BIn w (some ⟨a, 0, none⟩) 65536 65536 m) (hs : o + s ≤ 65536) : BIn w (some ⟨a, oo o, none⟩) s (65536 - o) ((m.drop o).take s) := by
  have h1 := bin_sub h (by omega) hs
  rw [Nat.zero_add] at h1
  unfold oo
  by_cases he : o = 65536
  · rw [if_pos he]
    obtain rfl : s = 0 := by omega
    have : (m.drop o).take 0 = [] := rfl
    rw [this]
    exact bin_empty w _ _ (by unfold maxLen; omega) (fun h => by cases h)
  · rw [if_neg he]; exact h1
set_option maxHeartbeats 1600000 in
theorem cut_any (a o s : Nat) (m : List Nat) (w : World) (h : BIn w (some ⟨a, 0, none⟩) 65536 65536 m) (hs : o + s ≤ 65536) : Calls Try.prog 32 #[.slice (some ⟨a, 0, none⟩) 65536 65536, .int .u64 (o : Nat), .int .u64 (s : Nat)] w (RdIs 0 ((m.drop o).take s) w) := by
  have hF := fits_any o s 65536 w (by unfold U64; omega) (by unfold U64; omega) (by unfold U64; omega)
  rw [decide_eq_true (by omega : o ≤ 65536 ∧ s ≤ 65536 - o)] at hF
  have HF := Lib.hid hF
  have hC := clone_any _ _ _ _ w (bin_part h hs)
  have HC := Lib.hid hC
  obtain ⟨q, hq⟩ : ∃ q, o + s = q := ⟨_, rfl⟩
  have hqs : q - o = s := by omega
  have hwq : IntKind.u64.wrap ((o : Int) + (s : Int)) = (q : Int) := u64w (by omega) (by omega)
  have hL : ((m.drop o).take s).length = s := by rw [List.length_take, List.length_drop, h.1.1]; omega
  have hLb : ∀ x ∈ (m.drop o).take s, x < 256 := fun x hx => h.1.2.2.1 x (List.mem_of_mem_drop (List.mem_of_mem_take hx))
  have HC1 := Lib.hid (show 65536 = o → Calls Try.prog 47 #[.slice (some ⟨a, 0, none⟩) (q - o) 0] w (Made ((m.drop o).take s) w) from fun he => by
    have := hC
    unfold oo at this
    rw [if_pos he.symm] at this
    rw [hqs]
    have e0 : 65536 - o = 0 := by omega
    rwa [e0] at this)
  have HC2 := Lib.hid (show ¬ 65536 = o → Calls Try.prog 47 #[.slice (some ⟨a, o, none⟩) (q - o) (65536 - o)] w (Made ((m.drop o).take s) w) from fun he => by
    have := hC
    unfold oo at this
    rw [if_neg (fun e => he e.symm)] at this
    rwa [hqs])
  obtain ⟨L, hLL⟩ : ∃ L, (m.drop o).take s = L := ⟨_, rfl⟩
  rw [hLL] at hL hLb HC1 HC2 ⊢
  have HLB := Lib.hid hLb
  have HL := Lib.hid (show L.length ≤ 140737488355328 from by omega)
  have hoq : (o : Int) ≤ (q : Int) := by omega
  have hq6 : (q : Int) ≤ 65536 := by omega
  clear hF hC hL hLL hLb HC h hs hq hqs
  go_enter Try.func32, Try.ntmps32
  go_wp2_with (go_at_call 46; refine HF.out.mono ?_; rintro e w9 ⟨rfl, rfl⟩)
  · skip
    refine (HC1.out (by assumption)).mono ?_
    rintro e w2 ⟨v, rfl, hown, hb⟩
    obtain ⟨A2, c2, rfl, _, _⟩ := own_in hown HLB.out HL.out
    have HO := Lib.hid hown
    have HB := Lib.hid hb
    clear hown hb
    go_wp2_with fail
    go_ret2
    exact ⟨A2, c2, rfl, HO.out, HB.out⟩
  · skip
    refine (HC2.out (by assumption)).mono ?_
    rintro e w2 ⟨v, rfl, hown, hb⟩
    obtain ⟨A2, c2, rfl, _, _⟩ := own_in hown HLB.out HL.out
    have HO := Lib.hid hown
    have HB := Lib.hid hb
    clear hown hb
    go_wp2_with fail
    go_ret2
    exact ⟨A2, c2, rfl, HO.out, HB.out⟩
/-- what Peek reads -/
def pkL (m : List Nat) (p s : Nat) : List Nat := if wiB p s = true then (m.drop (p - 1073741824)).take s else []
theorem pkL_length {m : List Nat} (k : MOk m) (p s : Nat) (h : wiB p s = true) : (pkL m p s).length = s := by
  have h2 := of_decide_eq_true h
  unfold pkL
  rw [if_pos h, List.length_take, List.length_drop, k.ln]
  omega
set_option maxHeartbeats 1600000 in
theorem peek_any (base a p s : Nat) (m : List Nat) (t : List Reg) (A : Option Addr) (c : Nat) (w : World) (hp : PAt w base a m t A c) (km : MOk m) (hpu : U64 p) (hsu : U64 s) :
    Calls Try.prog 10 #[.pointer (some ⟨a, 0, none⟩), .int .u64 (p : Nat), .int .u64 (s : Nat)] w (RdIs (clE p s) (pkL m p s) w) := by
  have hC := closed_any a p s w hpu hsu
  by_cases hw : wiB p s = true
  · have h2 := of_decide_eq_true hw
    have e1 : clE p s = 0 := by unfold clE; rw [if_pos hw]
    have e2 : pkL m p s = (m.drop (p - 1073741824)).take s := by unfold pkL; rw [if_pos hw]
    rw [e1] at hC ⊢
    rw [e2]
    obtain ⟨o, ho⟩ : ∃ o, p - 1073741824 = o := ⟨_, rfl⟩
    rw [ho]
    have hwo : IntKind.u64.wrap ((p : Int) - 1073741824) = (o : Int) := u64w (by omega) (by unfold U64 at hpu; omega)
    have HC := Lib.hid hC
    have HU := Lib.hid (cut_any a o s m w (hp.bin km) (by omega))
    have HS := Lib.hid (fun w => slice_all w a)
    clear e1 e2 hC hw h2 ho hp km hpu hsu
    go_enter Try.func10, Try.ntmps10
    go_wp2_with (go_at_call 31; refine HC.out.mono ?_; rintro e w9 ⟨rfl, rfl⟩)
    try rw [HS.out]
    go_wp2_with fail
    refine HU.out.mono ?_
    rintro e w2 ⟨A2, c2, rfl, hown, hb⟩
    have HO := Lib.hid hown
    have HB := Lib.hid hb
    clear hown hb
    generalize (m.drop o).take s = L at *
    go_wp2_with fail
    go_ret2
    exact ⟨A2, c2, rfl, HO.out, HB.out⟩
  · have e1 : clE p s = 161 := by unfold clE; rw [if_neg hw]
    have e2 : pkL m p s = [] := by unfold pkL; rw [if_neg hw]
    rw [e1] at hC ⊢
    rw [e2]
    have HC := Lib.hid hC
    clear e1 e2 hC hw hp km hpu hsu
    go_enter Try.func10, Try.ntmps10
    go_wp2_with (go_at_call 31; refine HC.out.mono ?_; rintro e w9 ⟨rfl, rfl⟩)
    go_ret2
    exact RdIs.nil 161 w
theorem peek_nil (x y : Value) (w : World) : Calls Try.prog 10 #[.pointer none, x, y] w fun e w' => e = .returned (.tuple #[.slice none 0 0, .int .i64 1]) ∧ w = w' := by
  go_enter Try.func10, Try.ntmps10
  go_wp2_with (go_at_call 31; refine (closed_nil _ _ w).mono ?_; rintro e w9 ⟨rfl, rfl⟩)
  go_ret2
  exact ⟨rfl, rfl⟩
end Go.Proofs.Ytelfhpmbnficfaa
