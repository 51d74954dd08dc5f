/- Filled, pick. No condition. -/
import Derived.Test.YtlgpaglkhgomiaaFn
import Derived.Deep.OwnRows
namespace Go.Proofs.Ytlgpaglkhgomiaa
open Go.RowKit
set_option linter.unusedVariables false
set_option maxRecDepth 100000
set_option linter.unusedSimpArgs false
theorem copy_in {w : World} {A : Option Addr} {n c : Nat} {L : List Nat} (h : BIn w A n c L) (d : Nat) : (natsV .u8 (L.take (Nat.min L.length d))).length = Nat.min n d ∧
    (0 < (natsV .u8 (L.take (Nat.min L.length d))).length → ∃ ad, A = some ad ∧ ∀ j v, (natsV .u8 (L.take (Nat.min L.length d)))[j]? = some v → w.cell? (ad.add j) = some v) := by
  have hl := h.1.1
  have h2 : Nat.min L.length d ≤ L.length := Nat.min_le_left _ _
  have e : (natsV .u8 (L.take (Nat.min L.length d))).length = Nat.min L.length d := by rw [natsV_length, List.length_take]; omega
  refine ⟨by rw [e, hl], fun hp => ?_⟩
  rw [e] at hp
  obtain ⟨b, off, rfl, hc⟩ := h.1.2.2.2.resolve_left (by omega)
  refine ⟨_, rfl, fun j v hj => ?_⟩
  have hjl : j < Nat.min L.length d := by
    have := (List.getElem?_eq_some_iff.1 hj).1; omega
  have hadd : (⟨b, off, none⟩ : Addr).add j = ⟨b, off + j, none⟩ := by
    simp only [Addr.add]; split
    · rename_i h; subst h; rfl
    · rfl
  rw [hadd, hc j (by omega), ← hj]
  simp [natsV, List.getD_eq_getElem?_getD, List.getElem?_take, hjl, List.getElem?_eq_getElem (show j < L.length by omega)]
theorem made_bytes (n : Nat) : madeCells #[Value.int .u8 0] n = (natsV .u8 (zeros n)).toArray := by
  apply Array.ext
  · simp [madeCells, natsV, zeros]
  · intro i h1 h2
    simp [madeCells, natsV, zeros, Nat.mod_one]
theorem mk_u8 (n : Nat) (hn : n ≤ 100000) (w : World) : (Instr.makeSlice 41 (.int .i64 (n : Int)) (.int .i64 (n : Int))).run Try.prog w = .ok (.slice (some ⟨w.heap.size, 0, none⟩) n n) (w.alloc (.cells (natsV .u8 (zeros n)).toArray 5)) := by
  rw [← made_bytes]
  exact run_make_row' 41 5 (.int .u8 0) 1 Try.underlying41 info5 rfl .i64 .i64 n (by omega) (by omega) w
theorem info5s : (Try.prog.info? 5).map (·.size) = some 1 := by kernel_rfl
/-- 512 bytes that begin so -/
def fillL (l : List Nat) : List Nat := l.take 512 ++ zeros (512 - l.length)
theorem fillL_is {l : List Nat} (h : ∀ x ∈ l, x < 256) : IsB (fillL l) := by
  refine ⟨?_, fun x hx => ?_⟩
  · unfold fillL zeros; simp; omega
  · unfold fillL at hx
    rcases List.mem_append.1 hx with h1 | h1
    · exact h x (List.mem_of_mem_take h1)
    · have := List.eq_of_mem_replicate h1; omega
theorem fillL_splice (l : List Nat) : splice (natsV .u8 (zeros 512)) 0 (natsV .u8 (l.take (Nat.min l.length 512))) = natsV .u8 (fillL l) := by
  unfold splice fillL
  rw [List.take_zero, List.nil_append, natsV_append, Nat.zero_add, natsV_drop]
  have e : l.take (Nat.min l.length 512) = l.take 512 := by
    rcases Nat.le_total l.length 512 with h | h
    · rw [show l.length.min 512 = l.length from Nat.min_eq_left h, List.take_of_length_le (Nat.le_refl _), List.take_of_length_le h]
    · rw [show l.length.min 512 = 512 from Nat.min_eq_right h]
  rw [e]
  congr 2
  unfold zeros
  rw [List.drop_replicate, natsV_length, List.length_take]
  congr 1
  omega
/-- a list of 512 bytes in new memory -/
def FillIs (l : List Nat) (w : World) (e : Ending) (w' : World) : Prop := ∃ g, e = .returned (.slice (some ⟨g, 0, none⟩) 512 512) ∧ w.heap.size ≤ g ∧ Blk w' g 5 (natsV .u8 (fillL l)) ∧ Below w.heap.size w w'
set_option maxHeartbeats 800000 in
theorem filled_any (A : Option Addr) (n c : Nat) (l : List Nat) (w : World) (h : BIn w A n c l) :
    Calls Try.prog 21 #[.slice A n c] w (FillIs l w) := by
  have hmk : ∀ w : World, (Instr.makeSlice 41 (.int .i64 512) (.int .i64 512)).run Try.prog w = .ok (.slice (some ⟨w.heap.size, 0, none⟩) 512 512) (w.alloc (.cells (natsV .u8 (zeros 512)).toArray 5)) := fun w => mk_u8 512 (by omega) w
  have ba := (Below.refl w.heap.size w).alloc (Nat.le_refl _) (.cells (natsV .u8 (zeros 512)).toArray 5)
  have HBa := Lib.hid (h.below ba)
  have BN := Lib.hid (Blk.new w 5 (natsV .u8 (zeros 512)))
  have HS := Lib.hid (fillL_splice l)
  have BA := Lib.hid ba
  have LZ := Lib.hid (show (zeros 512).length = 512 by simp [zeros])
  clear h ba
  generalize zeros 512 = Z at *
  unfold FillIs
  go_enter Try.func21, Try.ntmps21
  go_wp2_with (refine wpList_copy_blk rfl (.tmp 5) (.tmp 6) 41 41 rfl 5 Try.underlying41 info5s (some ⟨w.heap.size, 0, none⟩) A 512 512 n c rfl rfl w.heap.size 0 (natsV .u8 Z) 5 BN.out _ (copy_in HBa.out 512).1 (fun hp => ⟨rfl, (copy_in HBa.out 512).2 hp⟩) ?fit (natsV_one _ _) ?_)
  case fit => rw [(copy_in HBa.out 512).1, natsV_length, LZ.out, Nat.zero_add]; exact Nat.min_le_right _ _
  intro w2 hblk hgr
  rw [HS.out] at hblk
  have HB2 := Lib.hid hblk
  have HE2 := Lib.hid (BA.out.grown hgr (by have := BA.out.size; omega) (fun j hj => by injection hj with hj; omega))
  clear hblk hgr hmk
  go_wp2_with fail
  go_ret
  exact ⟨_, rfl, Nat.le_refl _, HB2.out, HE2.out⟩
/-- which of n things a number speaks of -/
def pickI (c n : Int) : Int := (if c < 0 then -(c + 1) else c) % n
theorem pickI_lt {c n : Int} (h : 0 < n) : 0 ≤ pickI c n ∧ pickI c n < n := ⟨Int.emod_nonneg _ (by omega), Int.emod_lt_of_pos _ h⟩
set_option maxHeartbeats 400000 in
theorem pick_any (c n : Int) (w : World) (hc : I64 c) (hn : 0 < n) (hn2 : n ≤ 9223372036854775807) :
    Calls Try.prog 19 #[.int .i64 c, .int .i64 n] w fun e w' => e = .returned (.int .i64 (pickI c n)) ∧ w = w' := by
  obtain ⟨h1, h2⟩ := hc
  by_cases q : c < 0
  · have e0 : pickI c n = (-(c + 1)) % n := by unfold pickI; rw [if_pos q]
    have b1 : 0 ≤ -(c + 1) := by omega
    have b2 : c + 1 ≤ 0 := by omega
    have b3 : -9223372036854775808 ≤ c + 1 := by omega
    have b4 : -(c + 1) ≤ 9223372036854775807 := by omega
    rw [e0]
    have HE := Lib.hid e0
    clear e0
    go_enter Try.func19, Try.ntmps19
    go_wp2
    go_ret
    exact ⟨ret1 (by first | rfl | (rw [Int.tmod_eq_emod_of_nonneg b1]) | (rw [← Int.neg_tmod, Int.tmod_eq_emod_of_nonneg b1])), rfl⟩
  · have e0 : pickI c n = c % n := by unfold pickI; rw [if_neg q]
    have b1 : 0 ≤ c := by omega
    rw [e0]
    clear e0
    go_enter Try.func19, Try.ntmps19
    go_wp2
    go_ret
    exact ⟨ret1 (by first | rfl | (rw [Int.tmod_eq_emod_of_nonneg b1]) | (rw [← Int.neg_tmod, Int.tmod_eq_emod_of_nonneg b1])), rfl⟩
end Go.Proofs.Ytlgpaglkhgomiaa
