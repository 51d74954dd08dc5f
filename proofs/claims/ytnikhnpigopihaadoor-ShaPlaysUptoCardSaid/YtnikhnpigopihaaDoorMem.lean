/- Blocks of the call's own that are known whole; the turns of words; a number of some bytes. No condition. -/
import Derived.Test.YtnikhnpigopihaaDoorBytes
import Derived.Test.YtnikhnpigopihaaDoorM
import Derived.Laws.Rows
import Derived.Laws.Tables
import Derived.OneCell
namespace Go.Proofs.YtnikhnpigopihaaDoor
open Go.RowKit
set_option linter.unusedVariables false

/-- numbers as the cells hold them -/
def natsV (k : IntKind) (l : List Nat) : List Value := l.map fun (x : Nat) => Value.int k (x : Int)
theorem natsV_length (k : IntKind) (l : List Nat) : (natsV k l).length = l.length := by simp [natsV]
theorem natsV_get (k : IntKind) (l : List Nat) (i : Nat) (h : i < l.length) : (natsV k l)[i]? = some (.int k (l.getD i 0 : Nat)) := by
  simp [natsV, List.getD_eq_getElem?_getD, List.getElem?_eq_getElem h]
theorem natsV_set (k : IntKind) (l : List Nat) (i x : Nat) : (natsV k l).set i (.int k (x : Nat)) = natsV k (l.set i x) := by simp [natsV, List.map_set]
theorem natsV_one (k : IntKind) (l : List Nat) : ∀ v ∈ natsV k l, v.oneCell' = true := by
  intro u hu; obtain ⟨y, _, rfl⟩ := List.mem_map.1 hu; rfl

/-- block g is just these cells, and may be written -/
def Blk (w : World) (g : Nat) (t : TypeId) (cs : List Value) : Prop := w.heap[g]? = some (.cells cs.toArray t (0, 0))

theorem Blk.lt {w : World} {g : Nat} {t : TypeId} {cs : List Value} (h : Blk w g t cs) : g < w.heap.size := (Array.getElem?_eq_some_iff.1 h).1
theorem Blk.cell {w : World} {g : Nat} {t : TypeId} {cs : List Value} (h : Blk w g t cs) (i : Nat) : w.cell? ⟨g, i, none⟩ = cs[i]? := by
  have := cell_of_row w g i cs.toArray t (0, 0) h; simpa using this
theorem Blk.free {w : World} {g : Nat} {t : TypeId} {cs : List Value} (h : Blk w g t cs) (i : Nat) : w.frozen? ⟨g, i, none⟩ = false := frozen_of_row w g i cs.toArray t h
theorem Blk.set {w : World} {g : Nat} {t : TypeId} {cs : List Value} (h : Blk w g t cs) (i : Nat) (v : Value) : Blk (w.setCell ⟨g, i, none⟩ v) g t (cs.set i v) := by
  have := heap_setCell_same w g i cs.toArray t v h
  unfold Blk; rw [this]; simp
theorem Blk.setRow {w : World} {g : Nat} {t : TypeId} {cs : List Value} (h : Blk w g t cs) (ds : List Value) : Blk (w.setRow g ds.toArray) g t ds := setRow_heap w g _ _ t _ h
theorem Blk.of {w w' : World} {g : Nat} {t : TypeId} {cs : List Value} (h : Blk w g t cs) (e : w'.heap[g]? = w.heap[g]?) : Blk w' g t cs := e.trans h
theorem Blk.other {w : World} {g : Nat} {t : TypeId} {cs : List Value} (h : Blk w g t cs) (a : Addr) (v : Value) (hne : g ≠ a.block) : Blk (w.setCell a v) g t cs := h.of (heap_setCell_other w a g v hne)
theorem Blk.below {w w' : World} {g B : Nat} {t : TypeId} {cs : List Value} (h : Blk w g t cs) (hb : Below B w w') (hg : g < B) : Blk w' g t cs := h.of (hb.block g hg)
theorem Blk.below' {w w' : World} {g : Nat} {t : TypeId} {cs : List Value} (h : Blk w g t cs) (hb : Below w.heap.size w w') : Blk w' g t cs := h.of (hb.block g h.lt)
theorem Blk.grown {w w' : World} {g : Nat} {r : Option Nat} {t : TypeId} {cs : List Value} (h : Blk w g t cs) (hb : w.grownBy w' r) (hg : some g ≠ r) : Blk w' g t cs := h.of (hb.block g h.lt hg)
theorem Blk.alloc {w : World} {g : Nat} {t : TypeId} {cs : List Value} (h : Blk w g t cs) (o : Obj) : Blk (w.alloc o) g t cs := h.of (Below.heap_alloc w o g h.lt)
theorem Blk.drewN {w : World} {g : Nat} {t : TypeId} {cs : List Value} (h : Blk w g t cs) (n : Nat) : Blk (w.drewN n) g t cs := h
theorem Blk.drew {w : World} {g : Nat} {t : TypeId} {cs : List Value} (h : Blk w g t cs) : Blk w.drew g t cs := h
theorem Blk.new (w : World) (t : TypeId) (cs : List Value) : Blk (w.alloc (.cells cs.toArray t)) w.heap.size t cs := heap_alloc_new w _
theorem Blk.nat {w : World} {g : Nat} {t : TypeId} {k : IntKind} {l : List Nat} (h : Blk w g t (natsV k l)) (i : Nat) (hi : i < l.length) : w.cell? ⟨g, i, none⟩ = some (.int k (l.getD i 0 : Nat)) := by
  rw [h.cell, natsV_get k l i hi]
theorem Blk.natSet {w : World} {g : Nat} {t : TypeId} {k : IntKind} {l : List Nat} (h : Blk w g t (natsV k l)) (i x : Nat) : Blk (w.setCell ⟨g, i, none⟩ (.int k (x : Nat))) g t (natsV k (l.set i x)) := by
  have := h.set i (.int k (x : Nat)); rwa [natsV_set] at this
theorem below_setRow' {B g : Nat} {w0 w : World} (hb : Below B w0 w) (hBg : B ≤ g) (cs : Array Value) : Below B w0 (w.setRow g cs) :=
  hb.trans ⟨rfl, rfl, rfl, by simp, fun k hk => setRow_other w g k cs (by omega)⟩
theorem grown_refl (w : World) (r : Option Nat) : w.grownBy w r := ⟨rfl, rfl, rfl, Nat.le_refl _, fun _ _ _ => rfl⟩
theorem grown_trans {a b c : World} {r : Option Nat} (h : a.grownBy b r) (k : b.grownBy c r) : a.grownBy c r :=
  ⟨k.os.trans h.os, k.tape.trans h.tape, k.output.trans h.output, Nat.le_trans h.size k.size, fun i hi hr => (k.block i (Nat.lt_of_lt_of_le hi h.size) hr).trans (h.block i hi hr)⟩
theorem grown_below {w w' : World} (h : Below w.heap.size w w') (r : Option Nat) : w.grownBy w' r := ⟨h.os, h.tape, h.output, h.size, fun k hk _ => h.block k hk⟩
theorem grown_setCell (w : World) (a : Addr) (v : Value) : w.grownBy (w.setCell a v) (some a.block) :=
  ⟨rfl, rfl, rfl, by simp [World.setCell], fun k hk hr => heap_setCell_other w a k v (fun e => hr (by rw [e]))⟩
theorem grown_setRow (w : World) (g : Nat) (cs : Array Value) : w.grownBy (w.setRow g cs) (some g) :=
  ⟨rfl, rfl, rfl, by simp, fun k hk hr => setRow_other w g k cs (fun e => hr (by rw [e]))⟩
theorem grown_drewN {w w' : World} {r : Option Nat} (h : w.grownBy w' r) (n : Nat) : w.grownBy (w'.drewN n) r := ⟨h.os, h.tape, h.output, h.size, h.block⟩
theorem grown_new {w w' : World} {r : Option Nat} {g : Nat} (h : w.grownBy w' (some g)) (hg : w.heap.size ≤ g) : Below w.heap.size w w' :=
  ⟨h.os, h.tape, h.output, h.size, fun k hk => h.block k hk (fun e => by injection e with e; omega)⟩

/-- what a call answers that gives an array of words -/
def WordsIs (l : List Nat) (w : World) (e : Ending) (w' : World) : Prop := e = .returned (.agg (natsV .u64 l).toArray) ∧ Below w.heap.size w w'

set_option maxHeartbeats 400000 in
theorem turn32_any (x n : Nat) (hn : n < 32) (hx : x < 2 ^ 32) (w : World) :
    Calls Tryd.prog 59 #[.int .u32 (x : Nat), .int .i64 (n : Nat)] w fun e w' => e = .returned (.int .u32 (rot 32 n x : Nat)) ∧ ∃ q, w' = w.drewN q := by
  have e1 : IntKind.i64.wrap (32 - (n : Int)) = ((32 - n : Nat) : Int) := by rw [IntWalk.i64_in _ (by omega)]; omega
  have e2 : min n 32 = n := by omega
  have e3 : min (32 - n) 32 = 32 - n := by omega
  have hr := rot_or (W := 32) (n := n) (by omega) hx
  have he := u32_or_nat (x / 2 ^ n) (x * 2 ^ (32 - n) % 2 ^ 32) (Nat.lt_of_le_of_lt (Nat.div_le_self _ _) hx) (Nat.mod_lt _ (by decide))
  rw [hr] at he
  have HE := Lib.hid he
  clear hr he
  generalize 32 - n = m at *
  go_enter Tryd.func59, Tryd.ntmps59
  go_wp2_with fail
  go_quiet (fail)
  go_wp2_with fail
  go_ret
  refine ⟨ret1 ?_, _, rfl⟩
  rw [← HE.out]
  congr 1 <;> simp
set_option maxHeartbeats 400000 in
theorem turn64_any (x n : Nat) (hn : n < 64) (hx : x < 2 ^ 64) (w : World) :
    Calls Tryd.prog 60 #[.int .u64 (x : Nat), .int .i64 (n : Nat)] w fun e w' => e = .returned (.int .u64 (rot 64 n x : Nat)) ∧ ∃ q, w' = w.drewN q := by
  have e1 : IntKind.i64.wrap (64 - (n : Int)) = ((64 - n : Nat) : Int) := by rw [IntWalk.i64_in _ (by omega)]; omega
  have e2 : min n 64 = n := by omega
  have e3 : min (64 - n) 64 = 64 - n := by omega
  have hr := rot_or (W := 64) (n := n) (by omega) hx
  have he := u64_or_nat (x / 2 ^ n) (x * 2 ^ (64 - n) % 2 ^ 64) (Nat.lt_of_le_of_lt (Nat.div_le_self _ _) hx) (Nat.mod_lt _ (by decide))
  rw [hr] at he
  have HE := Lib.hid he
  clear hr he
  generalize 64 - n = m at *
  go_enter Tryd.func60, Tryd.ntmps60
  go_wp2_with fail
  go_quiet (fail)
  go_wp2_with fail
  go_ret
  refine ⟨ret1 ?_, _, rfl⟩
  rw [← HE.out]
  congr 1 <;> simp

theorem turn32_lit (x : Nat) (m : Int) (n : Nat) (w : World) (hm : m = (n : Int)) (hn : n < 32) (hx : x < 2 ^ 32) :
    Calls Tryd.prog 59 #[.int .u32 (x : Nat), .int .i64 m] w fun e w' => e = .returned (.int .u32 (rot 32 n x : Nat)) ∧ ∃ q, w' = w.drewN q := hm ▸ turn32_any x n hn hx w
theorem turn64_lit (x : Nat) (m : Int) (n : Nat) (w : World) (hm : m = (n : Int)) (hn : n < 64) (hx : x < 2 ^ 64) :
    Calls Tryd.prog 60 #[.int .u64 (x : Nat), .int .i64 m] w fun e w' => e = .returned (.int .u64 (rot 64 n x : Nat)) ∧ ∃ q, w' = w.drewN q := hm ▸ turn64_any x n hn hx w
theorem num_step (m x : Nat) (hm : m < 2 ^ 56) (hx : x < 256) : bits .or .u64 (IntKind.u64.wrap ((m : Int) * 256)) (x : Int) = ((m * 256 + x : Nat) : Int) := by
  have h1 : IntKind.u64.wrap ((m : Int) * 256) = ((m * 256 : Nat) : Int) := by rw [IntKind.wrap_u64]; omega
  rw [h1, u64_or_nat _ _ (by omega) (by omega)]
  congr 1
  have := Nat.two_pow_add_eq_or_of_lt (i := 8) (b := x) (by omega) m
  rw [Nat.mul_comm m]; exact this.symm
set_option maxHeartbeats 400000 in
theorem number_any (b off n c : Nat) (l : List Nat) (size : Nat) (w : World) (hb : BIn w (some ⟨b, off, none⟩) n c l) (hs : size ≤ 8) (hn : size ≤ n) :
    Calls Tryd.prog 40 #[.slice (some ⟨b, off, none⟩) n c, .int .i64 (size : Nat)] w fun e w' => e = .returned (.int .u64 (be (l.take size) : Nat)) ∧ w = w' := by
  have hc := hb.2.1
  have hc2 := hb.2.2.1
  have HB := Lib.hid hb
  clear hb
  unfold maxLen at hc2
  go_enter Tryd.func40, Tryd.ntmps40
  go_wp2_with fail
  go_loop [5, 12] (fun v i => ∃ k : Nat, k ≤ size ∧ i = .int .i64 k ∧ v = .int .u64 (be (l.take k) : Nat)) (fun _ i => size - (intOf i).toNat)
  case atStart => exact ⟨0, by omega, rfl, rfl⟩
  case round =>
    obtain ⟨k, hk, rfl, rfl⟩ := hrel
    by_cases hlt : k < size
    · obtain ⟨b', o', he, hcell⟩ := HB.out.1.2.2.2.resolve_left (by omega)
      injection he with he
      injection he with e1 e2
      subst e1 e2
      have hcell := hcell k (by omega)
      have hx := getD_lt HB.out.1.2.2.1 k
      have hm : be (l.take k) < 2 ^ 56 := by
        refine Nat.lt_of_lt_of_le (be_lt _ (fun x hx => HB.out.1.2.2.1 x (List.mem_of_mem_take hx))) ?_
        have h1 : (l.take k).length ≤ 7 := Nat.le_trans (List.length_take_le _ _) (by omega)
        exact Nat.le_trans (Nat.pow_le_pow_right (by decide) h1) (by decide)
      have hst := be_append (l.take k) (l.getD k 0)
      rw [← take_snoc l k (by have := HB.out.1.1; omega)] at hst
      have HST := Lib.hid hst
      clear hst
      generalize be (l.take k) = m at *
      generalize l.getD k 0 = x at *
      have hstep := num_step m x hm hx
      rw [← HST.out] at hstep
      clear hm
      go_wp2_with fail
      go_round
      case rel => exact ⟨k + 1, by omega, by go_num, rfl⟩
      case measure => simp [intOf]; omega
    · obtain rfl : k = size := by omega
      go_wp2_with fail
      go_ret
      exact ⟨rfl, rfl⟩

theorem wpList_store_row {P : Program} {ops : Array Oper} {rest : List Oper} {o : Oper} {a : Act} {w : World} {Q : Exit → Act → World → Prop} (hgd : o.guard = none) (ty : TypeId) (x y : Operand) (ho : o.op = .store ty x y)
    (g : Nat) (cells : Array Value) (hx : a.eval x = .pointer (some ⟨g, 0, none⟩)) (hy : a.eval y = .agg cells)
    (t : TypeId) (old : Array Value) (hg : w.heap[g]? = some (.cells old t (0, 0))) (hi : (P.info? ty).map (·.size) = some cells.size)
    (hold : old.size = cells.size) (h1 : cells.all (·.oneCell') = true)
    (h : wpList P ops Q rest (a.put o.dst undef) (w.setRow g cells)) : wpList P ops Q (o :: rest) a w :=
  wpList_plain hgd fun _ hK => wp_store_row ty x y ho g cells hx hy t old hg hi hold h1 (hK _ _ h)
theorem all_nats (k : IntKind) (l : List Nat) : (natsV k l).toArray.all (·.oneCell') = true := Array.all_eq_true_iff_forall_mem.2 (fun v hv => natsV_one k l v (by simpa using hv))
theorem size_nats (k : IntKind) (l : List Nat) : (natsV k l).toArray.size = l.length := by simp [natsV]
theorem wpList_build_is {P : Program} {ops : Array Oper} {rest : List Oper} {o : Oper} {a : Act} {w : World} {Q : Exit → Act → World → Prop} (hg : o.guard = none) (t : TypeId) (parts : Array (Nat × Operand)) (ho : o.op = .build t parts)
    (cells : Array Value) (hc : P.built t (parts.map fun (i, x) => (i, a.eval x)).toList = some cells)
    (h : wpList P ops Q rest (a.put o.dst (.agg cells)) w) : wpList P ops Q (o :: rest) a w :=
  wpList_build hg t parts ho (by rw [hc]; rfl) (by rw [hc]; exact h)
theorem built93 (a b c d e f g h : Int) : Tryd.prog.built 93 [(0, .int .u32 a), (1, .int .u32 b), (2, .int .u32 c), (3, .int .u32 d), (4, .int .u32 e), (5, .int .u32 f), (6, .int .u32 g), (7, .int .u32 h)] = some #[.int .u32 a, .int .u32 b, .int .u32 c, .int .u32 d, .int .u32 e, .int .u32 f, .int .u32 g, .int .u32 h] := by kernel_rfl
theorem built66 (a b c d e f g h : Int) : Tryd.prog.built 66 [(0, .int .u64 a), (1, .int .u64 b), (2, .int .u64 c), (3, .int .u64 d), (4, .int .u64 e), (5, .int .u64 f), (6, .int .u64 g), (7, .int .u64 h)] = some #[.int .u64 a, .int .u64 b, .int .u64 c, .int .u64 d, .int .u64 e, .int .u64 f, .int .u64 g, .int .u64 h] := by kernel_rfl
theorem info89 : (Tryd.prog.info? 89).map (·.size) = some 1 := by kernel_rfl
theorem info48 : (Tryd.prog.info? 48).map (·.size) = some 1 := by kernel_rfl
theorem info66 : (Tryd.prog.info? 66).map (·.size) = some 8 := by kernel_rfl
/-- an array by value, at a place -/
theorem index_nats {P : Program} (w : World) (t e : TypeId) (n : Nat) (k : IntKind) (l : List Nat) (i : Nat) (hu : P.underlying t = some (.array n e)) (he : P.underlying e = some (.int k))
    (hz : (P.info? e).map (·.size) = some 1) (hi : i < n) (hl : l.length = n) : (Instr.index t (.agg (natsV k l).toArray) (.int .i64 (i : Nat))).run P w = .ok (.int k (l.getD i 0 : Nat)) w := by
  have hg := natsV_get k l i (by omega)
  cases hq : P.info? e with
  | none => simp [hq] at hz
  | some j =>
    have hs : j.size = 1 := by simpa [hq] using hz
    have hb : 0 ≤ (i : Int) ∧ (i : Int) < (n : Int) := by omega
    have h1 : (sizeOf e).run P w = .ok 1 w := by simp [sizeOf, typeInfo, hq, hs]
    have h2 : (isAgg e).run P w = .ok false w := by unfold isAgg; rw [Sem.run_bind, run_underlying he w]; rfl
    simp [Instr.index, run_underlying hu, asIntOf, hi, Sem.run_bind, part, h1, h2, hg]
end Go.Proofs.YtnikhnpigopihaaDoor
