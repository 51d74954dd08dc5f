/- Span. Condition: there is a flash. -/
import Derived.Test.YtlgpaglkhgomiaaFi
import Derived.Deep.CutRange
import Derived.IntWalk
namespace Go.Proofs.Ytlgpaglkhgomiaa
open Go.RowKit
set_option linter.unusedVariables false
set_option maxRecDepth 100000
set_option linter.unusedSimpArgs false
/-- the byte at a place of some blocks -/
def atB (c : Int → List Nat) (first : Int) (p : Nat) : Nat := (c (first + ((p / 512 : Nat) : Int))).getD (p % 512) 0
/-- so many bytes from a place on -/
def spanL (c : Int → List Nat) (first : Int) (from' size : Nat) : List Nat := tell (fun j => atB c first (from' + j)) size
theorem spanL_length (c : Int → List Nat) (first : Int) (f s : Nat) : (spanL c first f s).length = s := tell_length _ _
theorem tell_add (f : Nat → Nat) (k s : Nat) : tell f (k + s) = tell f k ++ (List.range s).map (fun j => f (k + j)) := by
  unfold tell
  rw [List.range_add, List.map_append, List.map_map]
  rfl
theorem piece_eq (l : List Nat) (b s : Nat) (h : b + s ≤ l.length) : (l.drop b).take s = (List.range s).map (fun j => l.getD (b + j) 0) := by
  apply List.ext_getElem
  · simp; omega
  · intro i h1 h2
    have hi : b + i < l.length := by simp at h1; omega
    simp [List.getD_eq_getElem?_getD, List.getElem?_eq_getElem hi]
theorem span_step (c : Int → List Nat) (first : Int) (f k s : Nat) (hc : ∀ x, IsB (c x)) (h : (f + k) % 512 + s ≤ 512) : spanL c first f k ++ ((c (first + (((f + k) / 512 : Nat) : Int))).drop ((f + k) % 512)).take s = spanL c first f (k + s) := by
  unfold spanL
  rw [tell_add, piece_eq _ _ _ (by rw [(hc _).1]; exact h)]
  congr 1
  refine List.map_congr_left fun j hj => ?_
  have hj' := List.mem_range.1 hj
  unfold atB
  have e1 : (f + (k + j)) / 512 = (f + k) / 512 := by omega
  have e2 : (f + (k + j)) % 512 = (f + k) % 512 + j := by omega
  rw [e1, e2]
theorem spanL_lt {c : Int → List Nat} (hc : ∀ x, IsB (c x)) (first : Int) (f s : Nat) : ∀ x ∈ spanL c first f s, x < 256 :=
  tell_lt _ _ (fun i => getD_lt (hc _).2 _) _
set_option maxHeartbeats 400000 in
theorem span_off (f mb : Nat) (N cut wr : Int) (dn : Bool) (a b x y : Value) (w : World) (h : FlB w f mb N false cut dn wr) :
    Calls Try.prog 26 #[.pointer (some ⟨f, 0, none⟩), a, b, x, y] w fun e w' => e = .returned (.tuple #[.slice none 0 0, .int .i64 143]) ∧ w = w' := by
  have c2 := h.c2
  clear h
  go_enter Try.func26, Try.ntmps26
  go_wp2
  go_ret2
  exact ⟨rfl, rfl⟩
set_option maxHeartbeats 800000 in
theorem span_block (f mb : Nat) (N cut wr a b : Int) (dn : Bool) (x y : Value) (w : World) (h : FlB w f mb N true cut dn wr) (hN0 : 0 ≤ N) (hN : N ≤ 1048576) (ha : I64 a) (hb : I64 b) (hbad : a < 0 ∨ b < 0 ∨ N - a < b) :
    Calls Try.prog 26 #[.pointer (some ⟨f, 0, none⟩), .int .i64 a, .int .i64 b, x, y] w fun e w' => e = .returned (.tuple #[.slice none 0 0, .int .i64 141]) ∧ w = w' := by
  have c2 := h.c2
  have c0 := h.c0
  obtain ⟨h1, h2⟩ := ha
  obtain ⟨h3, h4⟩ := hb
  clear h
  by_cases q1 : a < 0
  · clear hbad
    go_enter Try.func26, Try.ntmps26
    go_wp2
    go_ret2
    exact ⟨rfl, rfl⟩
  · by_cases q2 : b < 0
    · clear hbad
      go_enter Try.func26, Try.ntmps26
      go_wp2
      go_ret2
      exact ⟨rfl, rfl⟩
    · have q3 : N - a < b := by omega
      clear hbad
      go_enter Try.func26, Try.ntmps26
      go_wp2
      go_ret2
      exact ⟨rfl, rfl⟩
set_option maxHeartbeats 1600000 in
theorem span_size (f mb : Nat) (N cut wr a : Int) (b : Nat) (x y : Nat) (dn : Bool) (w : World) (h : FlB w f mb N true cut dn wr) (hN : N ≤ 1048576) (ha0 : 0 ≤ a) (hab : (b : Int) ≤ N - a) (hx : x < 18446744073709551616) (hy : y < 18446744073709551616) (hbad : 512 * b < x ∨ 512 * b - x < y ∨ 131072 < y) :
    Calls Try.prog 26 #[.pointer (some ⟨f, 0, none⟩), .int .i64 a, .int .i64 (b : Nat), .int .u64 (x : Nat), .int .u64 (y : Nat)] w fun e w' => e = .returned (.tuple #[.slice none 0 0, .int .i64 142]) ∧ w = w' := by
  have c2 := h.c2
  have c0 := h.c0
  have q1 : ¬ a < 0 := by omega
  have q3 : ¬ N - a < (b : Int) := by omega
  have b1 : 0 ≤ N - a := by omega
  have b2 : N - a ≤ 9223372036854775807 := by omega
  have b3 : (b : Int) ≤ 1048576 := by omega
  have q2 : ¬ (b : Int) < 0 := by omega
  obtain ⟨M, hM⟩ : ∃ M : Nat, 512 * b = M := ⟨_, rfl⟩
  have em : (512 : Int) * (b : Int) = (M : Int) := by omega
  have hMl : M ≤ 536870912 := by omega
  rw [hM] at hbad
  clear h hM
  by_cases hf : M < x ∨ M - x < y
  · have HF := Lib.hid (fits_no x y M w hf (by omega))
    clear hbad hf
    go_enter Try.func26, Try.ntmps26
    go_wp2_with (go_at_call 43; refine HF.out.mono ?_; rintro e w9 ⟨rfl, rfl⟩)
    go_ret2
    exact ⟨rfl, rfl⟩
  · have HF := Lib.hid (fits_yes x y M w (by omega) (by omega) (by omega))
    have q4 : (131072 : Int) < (y : Int) := by omega
    clear hbad hf
    go_enter Try.func26, Try.ntmps26
    go_wp2_with (go_at_call 43; refine HF.out.mono ?_; rintro e w9 ⟨rfl, rfl⟩)
    go_ret2
    exact ⟨rfl, rfl⟩
theorem slice_arr (w : World) (g b0 hi : Nat) (h0 : b0 < 512) (h1 : b0 ≤ hi) (h2 : hi ≤ 512) : (Instr.sliceAt 70 (.pointer (some ⟨g, 0, none⟩)) (some (.int .u64 (b0 : Nat))) (some (.int .u64 (hi : Nat))) none).run Try.prog w = .ok (.slice (some ⟨g, b0, none⟩) (hi - b0) (512 - b0)) w := by
  have hl : Try.prog.arrayLen 70 = 512 := by kernel_rfl
  have he : Try.prog.elem 70 = 5 := by kernel_rfl
  obtain ⟨i0, hi0, hz0, hz1, hz2⟩ := info_parts info5
  have hs : (sizeOf 5).run Try.prog w = .ok 1 w := by simp [sizeOf, typeInfo, hi0, hz1]
  rw [run_sliceAt_array_lh w 70 ⟨g, 0, none⟩ (by rw [hl, he]; exact Try.underlying70) .u64 .u64 b0 hi (by omega) (by omega) (by rw [hl]; omega), he, hs, hl]
  simp only [Result.andThen, slicedAt, Int.toNat_natCast, Nat.mul_one]
  rw [if_neg (by omega), Addr.add_mid, Nat.zero_add]
theorem own_ge {w : World} {base e size n j : Nat} {v : Value} {xs : List Value} (h : w.ownsRow base e size v n xs) (hj : v.ownBlock = some j) : base ≤ j := by
  rcases h.2 with ⟨rfl, _⟩ | ⟨g, cap, cur, rfl, hbg, _⟩
  · cases hj
  · have : g = j := Option.some.inj hj
    omega
/-- so many bytes in a row of the call's own -/
def SpanIs (l : List Nat) (w : World) (e : Ending) (w' : World) : Prop := ∃ a cp, e = .returned (.tuple #[.slice a l.length cp, .int .i64 0]) ∧ w'.ownsRow w.heap.size 5 1 (.slice a l.length cp) l.length (bytesV l) ∧ Below w.heap.size w w'
set_option maxHeartbeats 3200000 in
theorem span_ok (f mb m : Nat) (N cut wr a : Int) (b : Nat) (x y : Nat) (dn : Bool) (hs : Int → Bool) (c : Int → List Nat) (w : World) (h : FlB w f mb N true cut dn wr) (hm : MAt w mb m hs c) (hN : N ≤ 1048576) (ha0 : 0 ≤ a) (hab : (b : Int) ≤ N - a) (h1 : x ≤ 512 * b) (h2 : y ≤ 512 * b - x) (h3 : y ≤ 131072) :
    Calls Try.prog 26 #[.pointer (some ⟨f, 0, none⟩), .int .i64 a, .int .i64 (b : Nat), .int .u64 (x : Nat), .int .u64 (y : Nat)] w (SpanIs (spanL c a x y) w) := by
  obtain ⟨i0, hi0, hz0, hz1, hz2⟩ := info_parts info5
  have hIB : ∀ x, IsB (c x) := by obtain ⟨D, _, _, _, h4⟩ := hm; exact h4
  have c2 := h.c2
  have c0 := h.c0
  have q1 : ¬ a < 0 := by omega
  have q3 : ¬ N - a < (b : Int) := by omega
  have b1 : 0 ≤ N - a := by omega
  have b2 : N - a ≤ 9223372036854775807 := by omega
  have b3 : (b : Int) ≤ 1048576 := by omega
  have q2 : ¬ (b : Int) < 0 := by omega
  obtain ⟨M, hM⟩ : ∃ M : Nat, 512 * b = M := ⟨_, rfl⟩
  have em : (512 : Int) * (b : Int) = (M : Int) := by omega
  have hMl : M ≤ 536870912 := by omega
  have q4 : ¬ (131072 : Int) < (y : Int) := by omega
  have HF := Lib.hid (fits_yes x y M w (by omega) (by omega) (by omega))
  have HFL := Lib.hid h
  have HM := Lib.hid hm
  have HIB := Lib.hid hIB
  have HMM := Lib.hid hM
  clear h hm hIB hM
  unfold SpanIs
  rw [spanL_length]
  go_enter Try.func26, Try.ntmps26
  go_wp2_with (first | (go_at_call 43; refine HF.out.mono ?_; rintro e w9 ⟨rfl, rfl⟩) | (at_make; refine wpList_make_own w rfl _ (.tmp 55) 41 rfl w.heap.size 5 i0 (.int .u8 0) 1 Try.underlying41 hi0 hz0 hz1 .i64 .u64 _ y rfl rfl rfl (by rw [hz2]; omega) (by unfold maxLen; omega) (Nat.le_refl _) ?_; intro w1 hown1 hg1))
  have HO1 := Lib.hid hown1
  have HB1 := Lib.hid (show Below w.heap.size w w1 from ⟨hg1.os, hg1.tape, hg1.output, hg1.size, fun j hj => hg1.block j hj (by simp)⟩)
  clear hown1 hg1 HF q1 q2 q3 b1 b2 b3 em q4
  go_loopw [12, 13] (fun v12 v13 wr => ∃ (k p : Nat) (aa : Option Addr) (cp : Nat), v12 = .slice aa k cp ∧ v13 = .int .u64 (p : Nat) ∧ x + k = p ∧ k ≤ y ∧ wr.ownsRow w.heap.size 5 1 (.slice aa k cp) k (bytesV (spanL c a x k)) ∧ Below w.heap.size w wr) (fun _ v13 _ => x + y - (intOf v13).toNat)
  case atStart => exact ⟨0, x, _, _, rfl, rfl, rfl, Nat.zero_le _, HO1.out, HB1.out⟩
  case round =>
    obtain ⟨k, p, aa, cp, rfl, rfl, hp, hk, hown, hbel⟩ := hrel
    have HO := Lib.hid hown
    have HB := Lib.hid hbel
    have HP := Lib.hid hp
    clear hown hbel HO1 HB1
    by_cases hky : k < y
    · obtain ⟨q0, hq0⟩ : ∃ q0, p / 512 = q0 := ⟨_, rfl⟩
      obtain ⟨b0, hb0⟩ : ∃ b0, p % 512 = b0 := ⟨_, rfl⟩
      obtain ⟨hi, hhi⟩ : ∃ hi : Nat, min (b0 + (x + y) - p) 512 = hi := ⟨_, rfl⟩
      have hlt : (p : Int) < (x : Int) + (y : Int) := by omega
      have hd : (p : Int) / 512 = (q0 : Int) := by omega
      have hr : (p : Int) % 512 = (b0 : Int) := by omega
      have hmin : min ((b0 : Int) + ((x : Int) + (y : Int)) - (p : Int)) 512 = (hi : Int) := by omega
      have hb1 : b0 < hi := by omega
      have hb2 : hi ≤ 512 := by omega
      have hq : (q0 : Int) < (b : Int) := by have := HMM.out; omega
      have hp1 : (p : Int) ≤ 1073741824 := by have := HMM.out; omega
      have hx1 : (x : Int) + (y : Int) ≤ 1073741824 := by have := HMM.out; omega
      have hks : k + (hi - b0) ≤ y := by omega
      have hkn : k + (hi - b0) ≤ 140737488355328 := by omega
      have hsp : (p % 512) + (hi - b0) ≤ 512 := by omega
      have HST := Lib.hid (span_step c a x k (hi - b0) HIB.out (by rw [HP.out]; exact hsp))
      rw [HP.out, hq0, hb0] at HST
      clear hp hq0 hb0 hhi hsp
      have hfl := HFL.out.gr HB.out
      have c1 := hfl.c1
      have hlook := (HM.out.gr HB.out).run_look (x := a + (q0 : Int)) ⟨by omega, by omega⟩
      obtain ⟨l, hl⟩ : ∃ l, c (a + (q0 : Int)) = l := ⟨_, rfl⟩
      have hlB : IsB l := hl ▸ HIB.out _
      rw [hl] at hlook HST
      have HLB := Lib.hid hlB
      have hD := def_new wr l
      obtain ⟨W, hW⟩ : ∃ W, (wr.alloc (.cells Try.zeroCells70 70)).setRow wr.heap.size (natsV .u8 l).toArray = W := ⟨_, rfl⟩
      rw [hW] at hD
      have HW := Lib.hid hW
      have HD := Lib.hid hD
      have HZ := Lib.hid (zero_new wr)
      have HOW := Lib.hid (own_below HO.out hD.1)
      have HBN := Lib.hid (show BIn W (some ⟨wr.heap.size, b0, none⟩) (hi - b0) (512 - b0) ((l.drop b0).take (hi - b0)) from by have q := bin_sub (bin_blk hD.2.1 hlB) (by omega) (show b0 + (hi - b0) ≤ 512 by omega); rwa [Nat.zero_add] at q)
      have hbase : w.heap.size ≤ W.heap.size := Nat.le_trans HB.out.size hD.1.size
      have hsl : (Instr.sliceAt 70 (.pointer (some ⟨wr.heap.size, 0, none⟩)) (some (.int .u64 (b0 : Nat))) (some (.int .u64 (hi : Nat))) none).run Try.prog W = .ok (.slice (some ⟨wr.heap.size, b0, none⟩) (hi - b0) (512 - b0)) W := slice_arr W wr.heap.size b0 hi (by omega) (by omega) hb2
      clear hl hlB hD hW hfl
      go_wp2_with (first | (refine stB rfl 70 (.tmp 15) (.tmp 78) rfl wr.heap.size rfl (natsV .u8 l) rfl 70 (natsV .u8 zB) HZ.out (infoBl HLB.out) (by rw [natsV_length, natsV_length, HLB.out.1, zB_is.1]) (natsV_one _ _) ?_; rw [HW.out]) | (refine wpList_append_bytes W rfl (.tmp 81) (.tmp 89) rfl w.heap.size _ k _ rfl HOW.out (some ⟨wr.heap.size, b0, none⟩) (hi - b0) (512 - b0) _ rfl HBN.out hkn hbase ?_))
      intro v' w3 ho3 hg3
      rw [HST.out] at ho3
      obtain ⟨aa2, cp2, rfl, _, _⟩ := own_in ho3 (spanL_lt HIB.out _ _ _) hkn
      have HO3 := Lib.hid ho3
      have hbW : Below w.heap.size w W := HB.out.trans (HD.out.1.mono HB.out.size)
      have HB3 := Lib.hid (show Below w.heap.size w w3 from ⟨hg3.os.trans hbW.os, hg3.tape.trans hbW.tape, hg3.output.trans hbW.output, Nat.le_trans hbW.size hg3.size, fun j hj => (hg3.block j (Nat.lt_of_lt_of_le hj hbW.size) (fun e => by have := own_ge HOW.out e.symm; omega)).trans (hbW.block j hj)⟩)
      have hp3 : (x : Int) + ((k + (hi - b0) : Nat) : Int) = ((x + (k + (hi - b0)) : Nat) : Int) := by omega
      have HP3 := Lib.hid hp3
      obtain ⟨k3, hk3⟩ : ∃ k3, k + (hi - b0) = k3 := ⟨_, rfl⟩
      rw [hk3] at HO3 HP3 hks
      try rw [hk3]
      have hkk : k < k3 := by omega
      clear ho3 hg3 hbW HST HZ HW HD HBN HOW hsl hmin hd hr hlook c1 hk3 hp3 hkn
      go_wp2_with fail
      go_roundw
      case rel => exact ⟨k3, x + k3, _, _, rfl, by go_num, rfl, hks, HO3.out, HB3.out⟩
      case measure => simp [intOf]; have hpp := HP.out; omega
    · obtain rfl : k = y := by omega
      have hge : ¬ (p : Int) < (x : Int) + (k : Int) := by have := HP.out; omega
      clear hky
      go_wp2_with fail
      go_ret2
      exact ⟨aa, cp, rfl, HO.out, HB.out⟩
end Go.Proofs.Ytlgpaglkhgomiaa
