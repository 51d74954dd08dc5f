/- The padding of a message as the project lays it. No condition. -/
import Derived.Test.YtnikhnpigopihaaDoorHash
namespace Go.Proofs.YtnikhnpigopihaaDoor
open Go.RowKit
set_option linter.unusedVariables false
/-- how many noughts behind the byte 128 and ahead of the last eight bytes, n bytes taken in -/
def padZ (k n : Nat) : Nat := (2 * (2 * wW k) - n % (2 * wW k) - 1 - 2 * wB k) % (2 * wW k) + 2 * wB k - 8
/-- the padding behind n bytes -/
def padN (k n : Nat) : List Nat := (128 :: zeros (padZ k n)) ++ beB 8 (n * 8 % 2 ^ 64)
theorem info5m : (Tryd.prog.info? 5).map (fun i => (i.zero, i.size, i.bytes)) = some (some (.int .u8 0), 1, 1) := info5
theorem zeros_cells (n : Nat) : bytesV (zeros n) = List.replicate n (.int .u8 0) := by simp [bytesV, zeros]
theorem zeroCells_one (n : Nat) : Builtin.zeroCells (Value.int .u8 0).cells n = (bytesV (zeros n)).toArray := by
  apply Array.ext'
  simp only [Builtin.zeroCells, bytesV, zeros, Value.cells]
  apply List.ext_getElem
  · simp
  · intro i h1 h2; simp [Nat.mod_one]
/-- 'append' of so many noughts behind one byte that the call has just laid -/
theorem run_append_noughts (w : World) (G m : Nat) (ty : TypeId) (hm : m ≤ 1000) (hB : Blk w G 5 [.int .u8 128]) :
    ∃ v' w', (Builtin.append_ #[22, 3] ty #[.slice (some ⟨G, 0, none⟩) 1 1, .int .i64 (m : Nat)]).run Tryd.prog w = .ok v' w' ∧ (∀ base, base ≤ G → w'.ownsRow base 5 1 v' (1 + m) (bytesV (128 :: zeros m))) ∧ Below w.heap.size w w' := by
  obtain ⟨i, hi, hz0, hz1, hz2⟩ := info_parts info5
  have hw : IntKind.i64.wrap (m : Int) = (m : Int) := IntWalk.i64_in _ (by omega)
  have hneg : ¬ ((m : Int) < 0) := by omega
  have h48 : ¬ ((m : Int) * 1 > 281474976710656) := by omega
  have hlt := hB.lt
  by_cases h0 : m = 0
  · subst h0
    refine ⟨.slice (some ⟨G, 0, none⟩) 1 1, w, ?_, fun base hb => ⟨by simp [bytesV, zeros], .inr ⟨G, 1, _, rfl, hb, hB, by omega, by unfold maxLen; omega, rfl, by simp [bytesV, zeros]⟩⟩, Below.refl _ _⟩
    have e0 : IntKind.i64.wrap 0 = 0 := rfl
    simp [Builtin.append_, run_underlying Tryd.underlying22, run_underlying Tryd.underlying3, sizeOf, typeInfo, hi, hz2, asInt, asIntOf, e0, storeCells]
  · have hfo := run_firstCells_some (P := Tryd.prog) w.drew 1 1 ⟨G, 0, none⟩ 1 1 [.int .u8 128] rfl (by
      intro j v hj
      have : (⟨G, 0, none⟩ : Addr).add j = ⟨G, j, none⟩ := by unfold Addr.add; split <;> simp_all
      rw [this]
      have := hB.cell j
      simpa [this] using hj)
    have hn : ¬ (1 + m ≤ 1) := by omega
    have h63' : ¬ (9223372036854775807 < ((1 : Int) + (m : Int))) := by omega
    have h48' : ¬ (281474976710656 < Builtin.nextslicecap (1 + m) 1) := by
      have := growslice_fits (need := 1 + m) (old := 1) (bytes := 1) (by omega) (by omega); omega
    have hge := grownCap_ge w (1 + m) 1 5
    have hcm : grownCap w (1 + m) 1 5 ≤ maxLen := grownCap_le_maxLen w (1 + m) 1 5 (by unfold maxLen; omega)
    refine ⟨.slice (some ⟨w.heap.size, 0, none⟩) (1 + m) (grownCap w (1 + m) 1 5), w.drew.alloc (.cells (#[.int .u8 128] ++ (bytesV (zeros m)).toArray ++ (bytesV (zeros (grownCap w (1 + m) 1 5 - (1 + m)))).toArray) 5), ?_, fun base hb => ⟨by simp [bytesV, zeros]; omega, .inr ⟨w.heap.size, _, _, rfl, by omega, heap_alloc_new w.drew _, hge, hcm, ?_, ?_⟩⟩, ?_⟩
    · simp [Builtin.append_, run_underlying Tryd.underlying22, run_underlying Tryd.underlying3, sizeOf, typeInfo, zeroValue, hi, hz0, hz1, hz2, asInt, asIntOf, hw, hneg, h0, hn, h63', h48', Question.forced, hfo, newRow, grownCap, zeroCells_one]
      intro hh; omega
    · simp [bytesV, zeros]; omega
    · simp [bytesV, zeros]
      rw [Nat.add_comm 1 m, List.take_succ_cons, List.take_replicate]; congr 2; omega
    · exact ((Below.refl _ w).drew).alloc (Nat.le_refl _) _
theorem wpList_append_noughts {ops : Array Oper} {rest : List Oper} {o : Oper} {a : Act} {w : World} {Q : Exit → Act → World → Prop} (hgd : o.guard = none) (s x : Operand)
    (ho : o.op = .call { callee := .builtin .append, args := #[s, x], argTypes := #[22, 3] }) (G m : Nat) (hs : a.eval s = .slice (some ⟨G, 0, none⟩) 1 1) (hx : a.eval x = .int .i64 (m : Nat)) (hm : m ≤ 1000) (hB : Blk w G 5 [.int .u8 128])
    (h : ∀ v' w', (∀ base, base ≤ G → w'.ownsRow base 5 1 v' (1 + m) (bytesV (128 :: zeros m))) → Below w.heap.size w w' → wpList Tryd.prog ops Q rest (a.put o.dst v') w') : wpList Tryd.prog ops Q (o :: rest) a w := by
  refine wpList_plain hgd fun K hK => ?_
  obtain ⟨v', w', hrun, h1, h2⟩ := run_append_noughts w G m o.type hm hB
  have h3 := h v' w' h1 h2
  unfold Oper.wp
  simp [execOp, ho, resolve, invoke, builtin, hs, hx, hrun, Result.andThen]
  exact hK _ _ h3
theorem padMod (sz hd b : Nat) (h : hd + 1 + 2 * b ≤ 2 * sz) : (2 * (sz : Int) - (hd : Int) - 1 - 2 * (b : Int)) % (sz : Int) = (((2 * sz - hd - 1 - 2 * b) % sz : Nat) : Int) := by
  have e : ((2 * sz - hd - 1 - 2 * b : Nat) : Int) = 2 * (sz : Int) - (hd : Int) - 1 - 2 * (b : Int) := by omega
  rw [← e]; exact (Int.natCast_emod _ _).symm
set_option maxHeartbeats 1600000 in
theorem padding_any (g k n : Nat) (s r : List Nat) (hk : IsKind k) (hn : n < 2 ^ 64) (w : World) (h : Blk w g 72 (hashV k n s r)) :
    Calls Tryd.prog 46 #[.pointer (some ⟨g, 0, none⟩)] w (AppIs w.heap.size (padN k n) w) := by
  have HBS := Lib.hid (fun w => blockSize_any k hk w)
  have HWS := Lib.hid (fun w => wordSize_any k hk w)
  have HHELD := Lib.hid (fun w => held_any g k n s r hk hn w)
  have hW : 16 * wB k = 2 * wW k := by unfold wW wB; split <;> rfl
  rw [hW] at HBS HHELD
  have BLK := Lib.hid h
  have hb : wB k = 4 ∧ 2 * wW k = 64 ∨ wB k = 8 ∧ 2 * wW k = 128 := by unfold wW wB; split <;> simp
  have hdl : n % (2 * wW k) < 2 * wW k := Nat.mod_lt _ (by omega)
  have hp : padN k n = (128 :: zeros (padZ k n)) ++ beB 8 (n * 8 % 2 ^ 64) := rfl
  have hz : padZ k n = (2 * (2 * wW k) - n % (2 * wW k) - 1 - 2 * wB k) % (2 * wW k) + 2 * wB k - 8 := rfl
  have hnz : (2 * (2 * wW k) - n % (2 * wW k) - 1 - 2 * wB k) % (2 * wW k) < 2 * wW k := Nat.mod_lt _ (by omega)
  have hmod := padMod (2 * wW k) (n % (2 * wW k)) (wB k) (by omega)
  clear h hW
  generalize (2 * (2 * wW k) - n % (2 * wW k) - 1 - 2 * wB k) % (2 * wW k) = nz at *
  generalize n % (2 * wW k) = hd at *
  generalize 2 * wW k = sz at *
  generalize wB k = b at *
  generalize padZ k n = z at *
  have hzI : (nz : Int) + 2 * (b : Int) - 8 = ((z : Nat) : Int) := by omega
  have hzb : z ≤ 1000 := by omega
  have h8 : IntKind.u64.wrap ((n : Int) * 8) = ((n * 8 % 2 ^ 64 : Nat) : Int) := by rw [IntKind.wrap_u64]; omega
  have hx : n * 8 % 2 ^ 64 < 2 ^ 64 := Nat.mod_lt _ (by decide)
  have HP := Lib.hid hp
  have HX := Lib.hid hx
  clear hp hx
  generalize n * 8 % 2 ^ 64 = n8 at *
  have htc := hash_taken BLK.out
  have hkc := hash_kind BLK.out
  have hszb : sz ≤ 128 ∧ b ≤ 8 ∧ 4 ≤ b ∧ 64 ≤ sz := by omega
  clear hz hb
  go_enter Tryd.func46, Tryd.ntmps46
  go_wp2_with fail
  refine (HBS.out _).mono ?_
  rintro e w' ⟨rfl, rfl⟩
  go_wp2_with fail
  refine (HWS.out _).mono ?_
  rintro e w' ⟨rfl, rfl⟩
  go_wp2_with fail
  refine (HHELD.out _ BLK.out).mono ?_
  rintro e w' ⟨rfl, q, rfl⟩
  have HBN := Lib.hid (Blk.new (w.drewN q) 5 [.int .u8 128])
  have HBE := Lib.hid (((Below.refl w.heap.size (w.drewN q))).alloc (Nat.le_refl _) (.cells #[.int .u8 128] 5))
  have HT := Lib.hid htc
  clear htc
  go_wp2_with (refine wpList_append_noughts rfl (.tmp 28) (.tmp 32) rfl w.heap.size z rfl rfl hzb HBN.out ?_)
  intro v1 w1 h1 h2
  have hb2 : Below w.heap.size w w1 := by
    have h3 := h2.mono (B' := w.heap.size) (by simp)
    exact ⟨h3.os.trans HBE.out.os, h3.tape.trans HBE.out.tape, h3.output.trans HBE.out.output, Nat.le_trans HBE.out.size h3.size, fun k hk => (h3.block k hk).trans (HBE.out.block k hk)⟩
  have ho := h1 w.heap.size (Nat.le_refl _)
  have HO := Lib.hid (show w1.ownsRow w.heap.size 5 1 v1 (128 :: zeros z).length (bytesV (128 :: zeros z)) from by simpa [zeros, Nat.add_comm] using ho)
  have HC := Lib.hid (appendNumber_any w.heap.size v1 (128 :: zeros z) n8 8 w1 HO.out hb2.size (by simp [zeros]; omega) (Nat.le_refl _) HX.out)
  have htc : w1.cell? ⟨g, 1, none⟩ = some (.int .u64 (n : Nat)) := (hb2.cell (World.block_lt_of_cell? w _ HT.out)).trans HT.out
  clear h1 h2 ho
  go_wp2_with fail
  refine HC.out.mono ?_
  rintro e w' ⟨v', rfl, ho, hb3⟩
  have HO2 := Lib.hid ho
  clear ho
  go_wp2_with fail
  go_ret
  exact ⟨v', rfl, by rw [HP.out]; exact HO2.out, hb2.trans hb3⟩
end Go.Proofs.YtnikhnpigopihaaDoor
