/- Parts of proofs of statements, each text behind those that it stands on. No condition of its own. -/
import Derived.BigQuiet
import Derived.Deep.MidRow
import Derived.Deep.QuietTactic
import Derived.Deep.RegionLaw
import Derived.Deep.WholeRow
import Derived.Handy
import Derived.Laws.BitsAllLaws
import Derived.Laws.BytesArg
import Derived.Laws.CopyOwn
import Derived.Laws.Rows
import Derived.Laws.Tables
import Derived.Lib.Hide
import Derived.OneCell
import Derived.OrdersHeld
import Derived.ProofKit
import Derived.Test.YtdkkombpkojjaaaProg
import Derived.WalkKit
import Derived.WalkSmall
import Derived.WalkSpells
namespace Go.Proofs.Ytdkkombpkojjaaa
set_option maxRecDepth 100000
set_option maxHeartbeats 400000
open Go.RowKit
set_option linter.unusedVariables false
def ByteRow (w : World) (a : Option Addr) (len : Nat) (l : List Nat) : Prop :=
 l.length = len ∧ len ≤ maxLen ∧ (∀ x ∈ l, x < 256) ∧ (len = 0 ∨ ∃ b off, a = some ⟨b, off, none⟩ ∧ ∀ i, i < len → w.cell? ⟨b, off + i, none⟩ = some (.int .u8 (l.getD i 0 : Nat)))
theorem take_snoc (l : List Nat) (k : Nat) (h : k < l.length) : l.take (k + 1) = l.take k ++ [l.getD k 0] := by
 rw [List.take_succ_eq_append_getElem h]; simp [List.getD_eq_getElem?_getD, h]
theorem getD_lt {l : List Nat} (h : ∀ x ∈ l, x < 256) (k : Nat) : l.getD k 0 < 256 := by
 by_cases hk : k < l.length
 · rw [List.getD_eq_getElem?_getD, List.getElem?_eq_getElem hk]; exact h _ (List.getElem_mem hk)
 · rw [List.getD_eq_getElem?_getD, List.getElem?_eq_none (by omega)]; decide
theorem info5 : (Try.prog.info? 5).map (fun i => (i.zero, i.size, i.bytes)) = some (some (.int .u8 0), 1, 1) := by kernel_rfl
def bytesV (l : List Nat) : List Value := l.map fun (x : Nat) => Value.int .u8 (x : Int)
theorem own_cells {w : World} {B g n cap : Nat} {l : List Nat} (h : w.ownsRow B 5 1 (.slice (some ⟨g, 0, none⟩) n cap) n (bytesV l)) : l.length = n ∧ ∀ i, i < n → w.cell? ⟨g, 0 + i, none⟩ = some (.int .u8 (l.getD i 0 : Nat)) := by
 have hl : l.length = n := by have := h.1; simpa [bytesV] using this
 refine ⟨hl, fun i hi => ?_⟩
 have := h.cellAt i (by omega)
 rw [Nat.zero_add, this]
 simp [bytesV, List.getD_eq_getElem?_getD, List.getElem?_eq_getElem (show i < l.length by omega)]
def BIn (w : World) (a : Option Addr) (n c : Nat) (l : List Nat) : Prop :=
 ByteRow w a n l ∧ n ≤ c ∧ c ≤ maxLen ∧ n ≤ 140737488355328 ∧ (a = none → c = 0)
theorem ByteRow.below {w w' : World} {a : Option Addr} {n : Nat} {l : List Nat} (h : ByteRow w a n l) (hb : Below w.heap.size w w') : ByteRow w' a n l := by
 obtain ⟨h1, h2, h3, h4⟩ := h
 refine ⟨h1, h2, h3, ?_⟩
 rcases h4 with h4 | ⟨b, off, rfl, hc⟩
 · exact .inl h4
 · exact .inr ⟨b, off, rfl, fun i hi => (hb.cell (World.block_lt_of_cell? w _ (hc i hi))).trans (hc i hi)⟩
theorem BIn.below {w w' : World} {a : Option Addr} {n c : Nat} {l : List Nat} (h : BIn w a n c l) (hb : Below w.heap.size w w') : BIn w' a n c l :=
 ⟨h.1.below hb, h.2⟩
theorem own_in {w : World} {base n : Nat} {v : Value} {l : List Nat} (h : w.ownsRow base 5 1 v n (bytesV l)) (hl : ∀ x ∈ l, x < 256) (hn : n ≤ 140737488355328) :
   ∃ a c, v = .slice a n c ∧ BIn w a n c l ∧ l.length = n := by
 have hlen : l.length = n := by have := h.1; simpa [bytesV] using this
 rcases h.2 with ⟨rfl, rfl⟩ | ⟨g, cap, cur, rfl, hbg, hg, h1, h2, rest⟩
 · exact ⟨none, 0, rfl, ⟨⟨hlen, Nat.zero_le _, hl, .inl rfl⟩, Nat.le_refl _, Nat.zero_le _, hn, fun _ => rfl⟩, hlen⟩
 · refine ⟨some ⟨g, 0, none⟩, cap, rfl, ⟨⟨hlen, by omega, hl, .inr ⟨g, 0, rfl, ?_⟩⟩, h1, h2, hn, fun h => by cases h⟩, hlen⟩
   exact (own_cells h).2
section
variable {P : Program} (w : World)
theorem wpList_append_bytes {ops : Array Oper} {rest : List Oper} {o : Oper} {a : Act} {Q : Exit → Act → World → Prop} (hgd : o.guard = none) (s x : Operand)
   (ho : o.op = .call { callee := .builtin .append, args := #[s, x], argTypes := #[25, 25] })
   (base : Nat) (v : Value) (n : Nat) (xs : List Nat) (hs : a.eval s = v) (hown : w.ownsRow base 5 1 v n (bytesV xs))
   (A : Option Addr) (m c : Nat) (l : List Nat) (hx : a.eval x = .slice A m c) (hr : BIn w A m c l) (hb : n + m ≤ 140737488355328) (hbase : base ≤ w.heap.size)
   (h : ∀ v' w', w'.ownsRow base 5 1 v' (n + m) (bytesV (xs ++ l)) → w.grownBy w' v.ownBlock → wpList Try.prog ops Q rest (a.put o.dst v') w') : wpList Try.prog ops Q (o :: rest) a w := by
 obtain ⟨i0, hi, hz0, hz1, hz2⟩ := info_parts info5
 obtain ⟨⟨hl, hm, hlt, hrow⟩, hc1, hc2, _, hnil⟩ := hr
 have hone : ∀ u ∈ bytesV l, u.oneCell' = true := by
   intro u hu; obtain ⟨y, _, rfl⟩ := List.mem_map.1 hu; rfl
 rcases A with _ | ad
 · have := hnil rfl
   obtain rfl : m = 0 := by omega
   subst this
   obtain rfl : l = [] := List.eq_nil_of_length_eq_zero hl
   refine wpList_plain hgd fun K hK => ?_
   have hrun := run_append_owned_none (P := Try.prog) w base 25 o.type 5 i0 1 Try.underlying25 hi v n (bytesV xs) hown
   have h2 := h v w (by simpa using hown) ⟨rfl, rfl, rfl, Nat.le_refl _, fun _ _ _ => rfl⟩
   unfold Oper.wp
   simp [execOp, ho, resolve, invoke, builtin, hs, hx, hrun, Result.andThen]
   exact hK _ _ h2
 · refine wpList_append_own w hgd s x 25 ho base 5 i0 (.int .u8 0) 1 1 Try.underlying25 hi hz0 hz1 hz2 rfl (by decide) v n (bytesV xs) hs hown ad m c (bytesV l) hx (by simpa [bytesV] using hl) ?_ hone (by simp only [maxLen]; omega) (by omega) hbase ?_
   · intro j u hu
     have hj : j < l.length := by
       rcases Nat.lt_or_ge j l.length with h | h
       · exact h
       · rw [List.getElem?_eq_none (by simpa [bytesV] using h)] at hu; cases hu
     obtain ⟨b, off, hA, hc⟩ := hrow.resolve_left (by omega)
     injection hA with hA; subst hA
     have hadd : (⟨b, off, none⟩ : Addr).add j = ⟨b, off + j, none⟩ := by
       simp only [Addr.add]; split
       · rename_i h; subst h; rfl
       · rfl
     rw [hadd, hc j (by omega), ← hu]
     simp [bytesV, List.getD_eq_getElem?_getD, List.getElem?_eq_getElem hj]
   · intro v' w' h1 h2 _
     exact h v' w' (by simpa [bytesV] using h1) h2
end
theorem zero_row (w : World) : (w.alloc (.cells #[] 5)).ownsRow w.heap.size 5 1 (.slice (some ⟨w.heap.size, 0, none⟩) 0 0) 0 (bytesV []) :=
 World.ownsRow_made w #[] 0 (Nat.le_refl _) (Nat.zero_le _) rfl
theorem ret1 {k : IntKind} {a b : Int} (h : a = b) : Ending.returned (.int k a) = .returned (.int k b) := by rw [h]
theorem one_new (w : World) (a : Value) (t : TypeId) : ∀ j u, [a][j]? = some u → (w.alloc (.cells #[a] t)).cell? ((⟨w.heap.size, 0, none⟩ : Addr).add j) = some u := by
 intro j u hj
 match j, hj with
 | 0, hj => simp at hj; subst hj; simp [Addr.add]
 | j + 1, hj => simp at hj
theorem bin_sub {w : World} {b off n c f s : Nat} {l : List Nat} (h : BIn w (some ⟨b, off, none⟩) n c l) (hn : 0 < n) (hf : f + s ≤ n) : BIn w (some ⟨b, off + f, none⟩) s (c - f) ((l.drop f).take s) := by
 obtain ⟨⟨h1, h2, h3, h4⟩, h5, h6, h7, h8⟩ := h
 obtain ⟨b', o', he, hc⟩ := h4.resolve_left (by omega)
 injection he with he
 injection he with e1 e2
 subst e1 e2
 refine ⟨⟨by simp; omega, by omega, fun x hx => h3 x (List.mem_of_mem_drop (List.mem_of_mem_take hx)), .inr ⟨b, off + f, rfl, fun i hi => ?_⟩⟩, by omega, by omega, by omega, fun h => by cases h⟩
 have := hc (f + i) (by omega)
 rw [← Nat.add_assoc] at this
 rw [this]
 congr 3
 simp only [List.getD_eq_getElem?_getD, List.getElem?_take, List.getElem?_drop]
 rw [if_pos hi]
theorem bin_empty (w : World) (a : Option Addr) (c : Nat) (hc : c ≤ maxLen) (h : a = none → c = 0) : BIn w a 0 c [] := ⟨⟨rfl, Nat.zero_le _, by simp, .inl rfl⟩, Nat.zero_le _, hc, by omega, h⟩
theorem cast_pow (c : Nat) : (2 : Int) ^ c = ((2 ^ c : Nat) : Int) := by simp
def ListOwn (n : Nat) (l : List Nat) (w : World) (e : Ending) (w' : World) : Prop := ∃ g c, e = .returned (.tuple #[.slice (some ⟨g, 0, none⟩) n c, .int .i64 0]) ∧ w'.ownsRow w.heap.size 5 1 (.slice (some ⟨g, 0, none⟩) n c) n (bytesV l) ∧ Below w.heap.size w w'
theorem below_drewN {B : Nat} {a w : World} (h : Below B a w) (n : Nat) : Below B a (w.drewN n) := ⟨h.os, h.tape, h.output, h.size, h.block⟩
def rot (W n x : Nat) : Nat := x / 2 ^ n + (x % 2 ^ n) * 2 ^ (W - n)
def add (W x y : Nat) : Nat := (x + y) % 2 ^ W
def bx (W x y : Nat) : Nat := (x % 2 ^ W) ^^^ (y % 2 ^ W)
def ba (W x y : Nat) : Nat := (x % 2 ^ W) &&& (y % 2 ^ W)
def bn (W x : Nat) : Nat := 2 ^ W - 1 - x % 2 ^ W
def be (l : List Nat) : Nat := l.foldl (fun v x => v * 256 + x) 0
theorem be_append (l : List Nat) (x : Nat) : be (l ++ [x]) = be l * 256 + x := by simp [be]
theorem be_lt' (l : List Nat) (h : ∀ x ∈ l, x < 256) : ∀ v, l.foldl (fun v x => v * 256 + x) v < (v + 1) * 256 ^ l.length := by
 induction l with
 | nil => intro v; simp
 | cons x l ih =>
   intro v
   have h1 := ih (fun y hy => h y (by simp [hy])) (v * 256 + x)
   have h2 := h x (by simp)
   rw [List.foldl_cons, List.length_cons, Nat.pow_succ, Nat.mul_comm (256 ^ l.length), ← Nat.mul_assoc]
   exact Nat.lt_of_lt_of_le h1 (Nat.mul_le_mul_right _ (by omega))
theorem be_lt (l : List Nat) (h : ∀ x ∈ l, x < 256) : be l < 256 ^ l.length := by
 have := be_lt' l h 0
 simpa [be] using this
theorem getD_lt' {l : List Nat} {m : Nat} (h : ∀ x ∈ l, x < m) (hm : 0 < m) (k : Nat) : l.getD k 0 < m := by
 by_cases hk : k < l.length
 · rw [List.getD_eq_getElem?_getD, List.getElem?_eq_getElem hk]; exact h _ (List.getElem_mem hk)
 · rw [List.getD_eq_getElem?_getD, List.getElem?_eq_none (by omega)]; exact hm
theorem u64_add (a b : Nat) : IntKind.u64.wrap ((a : Int) + (b : Int)) = ((add 64 a b : Nat) : Int) := by
 rw [IntKind.wrap_u64]; unfold add; omega
theorem u64_cut (a : Nat) : IntKind.u64.wrap (a : Int) = ((a % 18446744073709551616 : Nat) : Int) := by
 rw [IntKind.wrap_u64]; omega
theorem ofInt_mod64 (a : Nat) : BitVec.ofInt 64 (a : Int) = BitVec.ofNat 64 (a % 2 ^ 64) := by
 apply BitVec.eq_of_toNat_eq; simp
theorem u64_bx (a b : Nat) : bits .xor .u64 (a : Int) (b : Int) = ((bx 64 a b : Nat) : Int) := by
 have h := u64_xor_nat (a % 2 ^ 64) (b % 2 ^ 64) (Nat.mod_lt _ (by decide)) (Nat.mod_lt _ (by decide))
 have e : bits .xor .u64 (a : Int) (b : Int) = bits .xor .u64 ((a % 2 ^ 64 : Nat) : Int) ((b % 2 ^ 64 : Nat) : Int) := by
   show IntKind.u64.wrap ((BitVec.ofInt 64 (a : Int) ^^^ BitVec.ofInt 64 (b : Int)).toNat : Int) = IntKind.u64.wrap ((BitVec.ofInt 64 ((a % 2 ^ 64 : Nat) : Int) ^^^ BitVec.ofInt 64 ((b % 2 ^ 64 : Nat) : Int)).toNat : Int)
   rw [ofInt_mod64 a, ofInt_mod64 b, ofInt_mod64 (a % 2 ^ 64), ofInt_mod64 (b % 2 ^ 64), Nat.mod_mod, Nat.mod_mod]
 rw [e, h]; rfl
theorem u64_ba (a b : Nat) : bits .and .u64 (a : Int) (b : Int) = ((ba 64 a b : Nat) : Int) := by
 have h := u64_and_nat (a % 2 ^ 64) (b % 2 ^ 64) (Nat.mod_lt _ (by decide)) (Nat.mod_lt _ (by decide))
 have e : bits .and .u64 (a : Int) (b : Int) = bits .and .u64 ((a % 2 ^ 64 : Nat) : Int) ((b % 2 ^ 64 : Nat) : Int) := by
   show IntKind.u64.wrap ((BitVec.ofInt 64 (a : Int) &&& BitVec.ofInt 64 (b : Int)).toNat : Int) = IntKind.u64.wrap ((BitVec.ofInt 64 ((a % 2 ^ 64 : Nat) : Int) &&& BitVec.ofInt 64 ((b % 2 ^ 64 : Nat) : Int)).toNat : Int)
   rw [ofInt_mod64 a, ofInt_mod64 b, ofInt_mod64 (a % 2 ^ 64), ofInt_mod64 (b % 2 ^ 64), Nat.mod_mod, Nat.mod_mod]
 rw [e, h]; rfl
theorem flip_xor (W x : Nat) (h : x < 2 ^ W) : (2 ^ W - 1) ^^^ x = 2 ^ W - 1 - x := by
 have h1 : (BitVec.allOnes W ^^^ BitVec.ofNat W x).toNat = (~~~ BitVec.ofNat W x).toNat := by rw [BitVec.allOnes_xor]
 rw [BitVec.toNat_xor, BitVec.toNat_not, BitVec.toNat_allOnes, BitVec.toNat_ofNat, Nat.mod_eq_of_lt h] at h1
 exact h1
theorem u64_bn (a : Nat) : bits .xor .u64 IntKind.u64.max (a : Int) = ((bn 64 a : Nat) : Int) := by
 have h := u64_bx 18446744073709551615 a
 refine Eq.trans h ?_
 congr 1
 unfold bx bn
 rw [Nat.mod_eq_of_lt (show 18446744073709551615 < 2 ^ 64 by decide)]
 have : a % 2 ^ 64 < 2 ^ 64 := Nat.mod_lt _ (by decide)
 exact flip_xor 64 _ this
def natsV (k : IntKind) (l : List Nat) : List Value := l.map fun (x : Nat) => Value.int k (x : Int)
theorem natsV_length (k : IntKind) (l : List Nat) : (natsV k l).length = l.length := by simp [natsV]
theorem natsV_get (k : IntKind) (l : List Nat) (i : Nat) (h : i < l.length) : (natsV k l)[i]? = some (.int k (l.getD i 0 : Nat)) := by
 simp [natsV, List.getD_eq_getElem?_getD, List.getElem?_eq_getElem h]
theorem natsV_set (k : IntKind) (l : List Nat) (i x : Nat) : (natsV k l).set i (.int k (x : Nat)) = natsV k (l.set i x) := by simp [natsV, List.map_set]
theorem natsV_one (k : IntKind) (l : List Nat) : ∀ v ∈ natsV k l, v.oneCell' = true := by
 intro u hu; obtain ⟨y, _, rfl⟩ := List.mem_map.1 hu; rfl
def Blk (w : World) (g : Nat) (t : TypeId) (cs : List Value) : Prop := w.heap[g]? = some (.cells cs.toArray t (0, 0))
theorem Blk.lt {w : World} {g : Nat} {t : TypeId} {cs : List Value} (h : Blk w g t cs) : g < w.heap.size := (Array.getElem?_eq_some_iff.1 h).1
theorem Blk.cell {w : World} {g : Nat} {t : TypeId} {cs : List Value} (h : Blk w g t cs) (i : Nat) : w.cell? ⟨g, i, none⟩ = cs[i]? := by
 have := cell_of_row w g i cs.toArray t (0, 0) h; simpa using this
theorem Blk.free {w : World} {g : Nat} {t : TypeId} {cs : List Value} (h : Blk w g t cs) (i : Nat) : w.frozen? ⟨g, i, none⟩ = false := frozen_of_row w g i cs.toArray t h
theorem Blk.set {w : World} {g : Nat} {t : TypeId} {cs : List Value} (h : Blk w g t cs) (i : Nat) (v : Value) : Blk (w.setCell ⟨g, i, none⟩ v) g t (cs.set i v) := by
 have := heap_setCell_same w g i cs.toArray t v h
 unfold Blk; rw [this]; simp
theorem Blk.setRow {w : World} {g : Nat} {t : TypeId} {cs : List Value} (h : Blk w g t cs) (ds : List Value) : Blk (w.setRow g ds.toArray) g t ds := setRow_heap w g _ _ t _ h
theorem Blk.of {w w' : World} {g : Nat} {t : TypeId} {cs : List Value} (h : Blk w g t cs) (e : w'.heap[g]? = w.heap[g]?) : Blk w' g t cs := e.trans h
theorem Blk.other {w : World} {g : Nat} {t : TypeId} {cs : List Value} (h : Blk w g t cs) (a : Addr) (v : Value) (hne : g ≠ a.block) : Blk (w.setCell a v) g t cs := h.of (heap_setCell_other w a g v hne)
theorem Blk.below {w w' : World} {g B : Nat} {t : TypeId} {cs : List Value} (h : Blk w g t cs) (hb : Below B w w') (hg : g < B) : Blk w' g t cs := h.of (hb.block g hg)
theorem Blk.below' {w w' : World} {g : Nat} {t : TypeId} {cs : List Value} (h : Blk w g t cs) (hb : Below w.heap.size w w') : Blk w' g t cs := h.of (hb.block g h.lt)
theorem Blk.grown {w w' : World} {g : Nat} {r : Option Nat} {t : TypeId} {cs : List Value} (h : Blk w g t cs) (hb : w.grownBy w' r) (hg : some g ≠ r) : Blk w' g t cs := h.of (hb.block g h.lt hg)
theorem Blk.alloc {w : World} {g : Nat} {t : TypeId} {cs : List Value} (h : Blk w g t cs) (o : Obj) : Blk (w.alloc o) g t cs := h.of (Below.heap_alloc w o g h.lt)
theorem Blk.drewN {w : World} {g : Nat} {t : TypeId} {cs : List Value} (h : Blk w g t cs) (n : Nat) : Blk (w.drewN n) g t cs := h
theorem Blk.drew {w : World} {g : Nat} {t : TypeId} {cs : List Value} (h : Blk w g t cs) : Blk w.drew g t cs := h
theorem Blk.new (w : World) (t : TypeId) (cs : List Value) : Blk (w.alloc (.cells cs.toArray t)) w.heap.size t cs := heap_alloc_new w _
theorem Blk.nat {w : World} {g : Nat} {t : TypeId} {k : IntKind} {l : List Nat} (h : Blk w g t (natsV k l)) (i : Nat) (hi : i < l.length) : w.cell? ⟨g, i, none⟩ = some (.int k (l.getD i 0 : Nat)) := by
 rw [h.cell, natsV_get k l i hi]
theorem Blk.natSet {w : World} {g : Nat} {t : TypeId} {k : IntKind} {l : List Nat} (h : Blk w g t (natsV k l)) (i x : Nat) : Blk (w.setCell ⟨g, i, none⟩ (.int k (x : Nat))) g t (natsV k (l.set i x)) := by
 have := h.set i (.int k (x : Nat)); rwa [natsV_set] at this
theorem below_setRow' {B g : Nat} {w0 w : World} (hb : Below B w0 w) (hBg : B ≤ g) (cs : Array Value) : Below B w0 (w.setRow g cs) :=
 hb.trans ⟨rfl, rfl, rfl, by simp, fun k hk => setRow_other w g k cs (by omega)⟩
theorem grown_refl (w : World) (r : Option Nat) : w.grownBy w r := ⟨rfl, rfl, rfl, Nat.le_refl _, fun _ _ _ => rfl⟩
theorem grown_trans {a b c : World} {r : Option Nat} (h : a.grownBy b r) (k : b.grownBy c r) : a.grownBy c r :=
 ⟨k.os.trans h.os, k.tape.trans h.tape, k.output.trans h.output, Nat.le_trans h.size k.size, fun i hi hr => (k.block i (Nat.lt_of_lt_of_le hi h.size) hr).trans (h.block i hi hr)⟩
theorem grown_below {w w' : World} (h : Below w.heap.size w w') (r : Option Nat) : w.grownBy w' r := ⟨h.os, h.tape, h.output, h.size, fun k hk _ => h.block k hk⟩
theorem grown_setCell (w : World) (a : Addr) (v : Value) : w.grownBy (w.setCell a v) (some a.block) :=
 ⟨rfl, rfl, rfl, by simp [World.setCell], fun k hk hr => heap_setCell_other w a k v (fun e => hr (by rw [e]))⟩
theorem grown_setRow (w : World) (g : Nat) (cs : Array Value) : w.grownBy (w.setRow g cs) (some g) :=
 ⟨rfl, rfl, rfl, by simp, fun k hk hr => setRow_other w g k cs (fun e => hr (by rw [e]))⟩
theorem wpList_store_row {P : Program} {ops : Array Oper} {rest : List Oper} {o : Oper} {a : Act} {w : World} {Q : Exit → Act → World → Prop} (hgd : o.guard = none) (ty : TypeId) (x y : Operand) (ho : o.op = .store ty x y)
   (g : Nat) (cells : Array Value) (hx : a.eval x = .pointer (some ⟨g, 0, none⟩)) (hy : a.eval y = .agg cells)
   (t : TypeId) (old : Array Value) (hg : w.heap[g]? = some (.cells old t (0, 0))) (hi : (P.info? ty).map (·.size) = some cells.size)
   (hold : old.size = cells.size) (h1 : cells.all (·.oneCell') = true)
   (h : wpList P ops Q rest (a.put o.dst undef) (w.setRow g cells)) : wpList P ops Q (o :: rest) a w :=
 wpList_plain hgd fun _ hK => wp_store_row ty x y ho g cells hx hy t old hg hi hold h1 (hK _ _ h)
theorem all_nats (k : IntKind) (l : List Nat) : (natsV k l).toArray.all (·.oneCell') = true := Array.all_eq_true_iff_forall_mem.2 (fun v hv => natsV_one k l v (by simpa using hv))
theorem size_nats (k : IntKind) (l : List Nat) : (natsV k l).toArray.size = l.length := by simp [natsV]
theorem index_nats {P : Program} (w : World) (t e : TypeId) (n : Nat) (k : IntKind) (l : List Nat) (i : Nat) (hu : P.underlying t = some (.array n e)) (he : P.underlying e = some (.int k))
   (hz : (P.info? e).map (·.size) = some 1) (hi : i < n) (hl : l.length = n) : (Instr.index t (.agg (natsV k l).toArray) (.int .i64 (i : Nat))).run P w = .ok (.int k (l.getD i 0 : Nat)) w := by
 have hg := natsV_get k l i (by omega)
 cases hq : P.info? e with
 | none => simp [hq] at hz
 | some j =>
   have hs : j.size = 1 := by simpa [hq] using hz
   have hb : 0 ≤ (i : Int) ∧ (i : Int) < (n : Int) := by omega
   have h1 : (sizeOf e).run P w = .ok 1 w := by simp [sizeOf, typeInfo, hq, hs]
   have h2 : (isAgg e).run P w = .ok false w := by unfold isAgg; rw [Sem.run_bind, run_underlying he w]; rfl
   simp [Instr.index, run_underlying hu, asIntOf, hi, Sem.run_bind, part, h1, h2, hg]
theorem Blk.new2 (w : World) (o : Obj) (t : TypeId) (cs : List Value) : Blk ((w.alloc o).alloc (.cells cs.toArray t)) (w.heap.size + 1) t cs := heap_alloc2_new w o _
theorem Blk.new3 (w : World) (o p : Obj) (t : TypeId) (cs : List Value) : Blk (((w.alloc o).alloc p).alloc (.cells cs.toArray t)) (w.heap.size + 1 + 1) t cs := by
 have := heap_alloc2_new (w.alloc o) p (.cells cs.toArray t)
 have e : (w.alloc o).heap.size = w.heap.size + 1 := by simp
 rw [e] at this; exact this
def zeros (n : Nat) : List Nat := List.replicate n 0
theorem fill_set (m : List Nat) (N t x : Nat) (hm : m.length = t) (ht : t < N) : (m ++ zeros (N - t)).set t x = (m ++ [x]) ++ zeros (N - (t + 1)) := by
 subst hm
 rw [List.set_append_right (h := Nat.le_refl _), Nat.sub_self, List.append_assoc]
 congr 1
 obtain ⟨k, hk⟩ : ∃ k, N - m.length = k + 1 := ⟨N - m.length - 1, by omega⟩
 have : N - (m.length + 1) = k := by omega
 rw [hk, this]
 rfl
def tell (f : Nat → Nat) (t : Nat) : List Nat := (List.range t).map f
theorem tell_succ (f : Nat → Nat) (t : Nat) : tell f (t + 1) = tell f t ++ [f t] := by simp [tell, List.range_succ]
theorem tell_length (f : Nat → Nat) (t : Nat) : (tell f t).length = t := by simp [tell]
theorem fill_tell (f : Nat → Nat) (N t : Nat) (ht : t < N) : (tell f t ++ zeros (N - t)).set t (f t) = tell f (t + 1) ++ zeros (N - (t + 1)) := by
 rw [fill_set _ N t _ (tell_length f t) ht, tell_succ]
theorem tell_lt (f : Nat → Nat) (m : Nat) (h : ∀ i, f i < m) (t : Nat) : ∀ x ∈ tell f t, x < m := by
 intro x hx; obtain ⟨i, _, rfl⟩ := List.mem_map.1 hx; exact h i
theorem bin_head {w : World} {b off n c f : Nat} {l : List Nat} (h : BIn w (some ⟨b, off, none⟩) n c l) (hf : f ≤ n) (hn : 0 < n) : BIn w (some ⟨b, off, none⟩) f c (l.take f) := by
 obtain ⟨⟨h1, h2, h3, h4⟩, h5, h6, h7, h8⟩ := h
 obtain ⟨b', o', he, hc⟩ := h4.resolve_left (by omega)
 injection he with he
 injection he with e1 e2
 subst e1 e2
 refine ⟨⟨by simp; omega, by omega, fun x hx => h3 x (List.mem_of_mem_take hx), .inr ⟨b, off, rfl, fun i hi => ?_⟩⟩, by omega, h6, by omega, fun h => by cases h⟩
 rw [hc i (by omega)]
 congr 3
 simp only [List.getD_eq_getElem?_getD, List.getElem?_take]
 rw [if_pos hi]
theorem BIn.grown {w w' : World} {a : Option Addr} {n c g : Nat} {l : List Nat} (h : BIn w a n c l) (hg : w.grownBy w' (some g)) (ha : ∀ b, a = some b → 0 < n → b.block ≠ g) : BIn w' a n c l := by
 obtain ⟨⟨h1, h2, h3, h4⟩, h5⟩ := h
 refine ⟨⟨h1, h2, h3, ?_⟩, h5⟩
 rcases h4 with h4 | ⟨b, off, rfl, hc⟩
 · exact .inl h4
 · exact .inr ⟨b, off, rfl, fun i hi => hg.cell (hc i hi) (fun e => by injection e with e; exact ha _ rfl (by omega) e)⟩
theorem wpList_copy_blk {P : Program} {w : World} {ops : Array Oper} {rest : List Oper} {o : Oper} {a : Act} {Q : Exit → Act → World → Prop} (hgd : o.guard = none) (d s : Operand) (dT sT : TypeId)
   (ho : o.op = .call { callee := .builtin .copy, args := #[d, s], argTypes := #[dT, sT] }) (elem : TypeId) (hu : P.underlying dT = some (.slice elem)) (hsz : (P.info? elem).map (·.size) = some 1)
   (dp sp : Option Addr) (dLen dCap sLen sCap : Nat) (hd : a.eval d = .slice dp dLen dCap) (hs : a.eval s = .slice sp sLen sCap)
   (g off : Nat) (cur : List Value) (t : TypeId) (hg : Blk w g t cur) (cs : List Value) (hn : cs.length = Nat.min sLen dLen)
   (hpos : 0 < cs.length → dp = some ⟨g, off, none⟩ ∧ ∃ ad, sp = some ad ∧ ∀ j v, cs[j]? = some v → w.cell? (ad.add j) = some v)
   (hfit : off + cs.length ≤ cur.length) (h1 : ∀ v ∈ cs, v.oneCell' = true)
   (h : ∀ w', Blk w' g t (splice cur off cs) → w.grownBy w' (some g) → wpList P ops Q rest (a.put o.dst (goInt cs.length)) w') :
   wpList P ops Q (o :: rest) a w := by
 by_cases h0 : cs.length = 0
 · obtain rfl : cs = [] := List.eq_nil_of_length_eq_zero h0
   refine wpList_copy_nothing hgd d s dT sT ho elem hu hsz dp sp dLen dCap sLen sCap hd hs (by simpa using hn.symm) ?_
   exact h w (by simpa [splice] using hg) (grown_refl w _)
 · obtain ⟨rfl, ad, rfl, hsrc⟩ := hpos (by omega)
   refine wpList_copy_own hgd d s dT sT ho elem hu hsz g off dLen dCap ad sLen sCap hd hs cur.toArray t hg cs hn hsrc (by simpa using hfit) h1 ?_
   exact h _ (by have := setRow_heap w g _ (cur.toArray.toList.take off ++ (cs ++ cur.toArray.toList.drop (off + cs.length))).toArray t _ hg; unfold Blk; simpa [splice] using this) (grown_setRow w g _)
theorem natsV_append (k : IntKind) (a b : List Nat) : natsV k (a ++ b) = natsV k a ++ natsV k b := by simp [natsV]
theorem Hd {p : Prop} (h : p) : Go.RowKit.Hid p := Lib.hid h
def Ans (f : FuncId) (args : Array Value) (v : Value) : Prop := ∀ w : World, Calls Try.prog f args w fun e w' => e = .returned v ∧ Below w.heap.size w w'
theorem z4l : (zeros 4).length = 4 := rfl
theorem lm' {P : Program} {ops : Array Oper} {rest : List Oper} {op : Oper} {a : Act} {w : World} {Q : Exit → Act → World → Prop} {ty : TypeId} {x : Operand} {b o : Nat} {cs : List Value} {d : TypeDesc} (hc : w.rangeAt b o cs)
   (hu : P.underlying ty = some d) (hi : (P.info? ty).map (·.size) = some cs.length)
   (h : wpList P ops Q rest (a.put op.dst (.agg cs.toArray)) w) (hgd : op.guard = none := by rfl) (ho : op.op = .load ty x := by rfl) (hx : a.eval x = .pointer (some ⟨b, o, none⟩) := by rfl) (hd : d.isRow = true := by rfl) : wpList P ops Q (op :: rest) a w :=
 wpList_load_mid hgd ty x ho b o hx cs d hc hu hd hi h
theorem th0 {P : Program} {ops : Array Oper} {Q : Exit → Act → World → Prop} {md : Region.Mode} {S : World → Prop} (i : Nat) {oi : Oper} {v : Value} {fuel : Nat} {listed : Array Bool} {a : Act} {w : World} (hi : ops[i]? = some oi)
   (hy : YieldsIf P ops S oi v a) (hS : S w) (h : wpAnyH P md ops Q S fuel (listed.setIfInBounds i true) (a.put oi.dst v) w)
   (hs : Region.noSelect ops = true := by kernel_rfl) (hf : Region.free md ops listed i = true := by kernel_rfl) (hr : (Region.ready md ops listed).contains i = true := by kernel_rfl)
   (hQ : ∀ c a w, Q (.panic c) (a.put oi.dst v) w → Q (.panic c) a w := by exact fun _ _ _ h => h) : wpAnyH P md ops Q S (fuel + 1) listed a w := wpAnyH_take hi hs hf hr hQ hy hS h
theorem th1 {P : Program} {ops : Array Oper} {Q : Exit → Act → World → Prop} {md : Region.Mode} {S : World → Prop} (i : Nat) {oi : Oper} {v : Value} {fuel : Nat} {listed : Array Bool} {a : Act} {w : World} (hi : ops[i]? = some oi)
   (hS : S w) (h : wpAnyH P md ops Q S fuel (listed.setIfInBounds i true) (a.put oi.dst v) w)
   (hs : Region.noSelect ops = true := by kernel_rfl) (hf : Region.free md ops listed i = true := by kernel_rfl) (hr : (Region.ready md ops listed).contains i = true := by kernel_rfl)
   (hw : Region.wanted oi (yielded ops a.tmps) = true := by rfl) (hrun : ∀ w, S w → (execOp a.eval oi).run P w = .ok (.value v) w := by intro w hSw; (try dsimp only at hSw); go_simp; first | done | with_reducible rfl)
   (hQ : ∀ c a w, Q (.panic c) (a.put oi.dst v) w → Q (.panic c) a w := by exact fun _ _ _ h => h) : wpAnyH P md ops Q S (fuel + 1) listed a w := wpAnyH_take hi hs hf hr hQ (.inl ⟨hw, hrun⟩) hS h
def dgt (B v i : Nat) : Nat := v / B ^ i % B
def val (B : Nat) : List Nat → Nat
 | [] => 0
 | x :: l => x + B * val B l
def wds (n v : Nat) : List Nat := tell (dgt (2 ^ 64) v) n
theorem dgt_lt {B : Nat} (hB : 0 < B) (v i : Nat) : dgt B v i < B := Nat.mod_lt _ hB
theorem mod_pow_succ (B v k : Nat) : v % B ^ (k + 1) = v % B ^ k + B ^ k * dgt B v k := by
 rw [Nat.pow_succ, Nat.mod_mul]; rfl
theorem tell_zero (f : Nat → Nat) : tell f 0 = [] := rfl
theorem tell_getD (f : Nat → Nat) (n i : Nat) (h : i < n) : (tell f n).getD i 0 = f i := by
 simp [tell, List.getD_eq_getElem?_getD, List.getElem?_map, List.getElem?_range h]
theorem val_append (B : Nat) (a b : List Nat) : val B (a ++ b) = val B a + B ^ a.length * val B b := by
 induction a with
 | nil => simp [val]
 | cons x l ih => simp only [List.cons_append, val, ih, List.length_cons, Nat.pow_succ]; rw [Nat.mul_add, Nat.add_assoc, Nat.mul_comm (B ^ l.length) B, Nat.mul_assoc]
theorem val_tell (B v n : Nat) : val B (tell (dgt B v) n) = v % B ^ n := by
 induction n with
 | zero => simp [tell_zero, val, Nat.mod_one]
 | succ n ih => rw [tell_succ, val_append, ih, tell_length, mod_pow_succ]; simp [val]
theorem val_lt {B : Nat} : ∀ (l : List Nat), (∀ x ∈ l, x < B) → val B l < B ^ l.length
 | [], _ => by simp [val]
 | x :: l, h => by
   have h1 := val_lt l (fun y hy => h y (by simp [hy]))
   have h2 := h x (by simp)
   simp only [val, List.length_cons, Nat.pow_succ]
   have : B * (val B l + 1) ≤ B * B ^ l.length := Nat.mul_le_mul_left _ h1
   rw [Nat.mul_add, Nat.mul_one] at this
   rw [Nat.mul_comm (B ^ l.length)]; omega
theorem dgt_zero (B v : Nat) : dgt B v 0 = v % B := by simp [dgt]
theorem dgt_succ (B v i : Nat) : dgt B v (i + 1) = dgt B (v / B) i := by
 simp only [dgt, Nat.pow_succ, Nat.mul_comm (B ^ i) B, ← Nat.div_div_eq_div_mul]
theorem tell_cons (f : Nat → Nat) (n : Nat) : tell f (n + 1) = f 0 :: tell (fun i => f (i + 1)) n := by
 simp [tell, List.range_succ_eq_map, List.map_map, Function.comp_def]
theorem tell_congr {f g : Nat → Nat} {n : Nat} (h : ∀ i, i < n → f i = g i) : tell f n = tell g n := by
 unfold tell; exact List.map_congr_left fun i hi => h i (List.mem_range.1 hi)
theorem tell_val {B : Nat} (hB : 0 < B) : ∀ (l : List Nat), (∀ x ∈ l, x < B) → tell (dgt B (val B l)) l.length = l
 | [], _ => rfl
 | x :: l, h => by
   have ih := tell_val hB l (fun y hy => h y (by simp [hy]))
   have h2 := h x (by simp)
   rw [List.length_cons, tell_cons, dgt_zero]
   have e1 : val B (x :: l) % B = x := by simp only [val]; rw [Nat.add_mul_mod_self_left, Nat.mod_eq_of_lt h2]
   have e2 : val B (x :: l) / B = val B l := by simp only [val]; rw [Nat.add_mul_div_left _ _ hB, Nat.div_eq_of_lt h2, Nat.zero_add]
   rw [e1]
   congr 1
   refine (tell_congr (g := dgt B (val B l)) fun i _ => ?_).trans ih
   rw [dgt_succ, e2]
theorem tell_mod (B v n m : Nat) (h : n ≤ m) : tell (dgt B (v % B ^ m)) n = tell (dgt B v) n := by
 refine tell_congr fun i hi => ?_
 unfold dgt
 obtain ⟨d, rfl⟩ : ∃ d, m = i + 1 + d := ⟨m - (i + 1), by omega⟩
 have e : B ^ (i + 1 + d) = B ^ i * (B * B ^ d) := by rw [Nat.pow_add, Nat.pow_succ, Nat.mul_assoc]
 rw [e, Nat.mod_mul_right_div_self, Nat.mod_mul_right_mod]
theorem tell_inj (B a b n : Nat) (ha : a < B ^ n) (hb : b < B ^ n) (h : tell (dgt B a) n = tell (dgt B b) n) : a = b := by
 have := val_tell B a n
 rw [h, val_tell, Nat.mod_eq_of_lt ha, Nat.mod_eq_of_lt hb] at this
 exact this.symm
theorem wds_len (n v : Nat) : (wds n v).length = n := tell_length _ _
theorem wds_at (n v i : Nat) (h : i < n) : (wds n v).getD i 0 = dgt (2 ^ 64) v i := tell_getD _ _ _ h
theorem wds_of (l : List Nat) (h : ∀ x ∈ l, x < 2 ^ 64) : wds l.length (val (2 ^ 64) l) = l := tell_val (by decide) l h
theorem wds_inj (n a b : Nat) (ha : a < 2 ^ (64 * n)) (hb : b < 2 ^ (64 * n)) : decide (wds n a = wds n b) = decide (a = b) := by
 rw [decide_eq_decide]
 exact ⟨fun h => tell_inj (2 ^ 64) a b n (by rwa [← Nat.pow_mul]) (by rwa [← Nat.pow_mul]) h, fun h => by rw [h]⟩
theorem wds_mod (n m v : Nat) (h : n ≤ m) : wds n (v % 2 ^ (64 * m)) = wds n v := by
 have := tell_mod (2 ^ 64) v n m h
 rwa [← Nat.pow_mul] at this
def cyA (B a b c k : Nat) : Nat := (a % B ^ k + b % B ^ k + c) / B ^ k
theorem cyA_zero (B a b c : Nat) : cyA B a b c 0 = c := by simp [cyA, Nat.mod_one]
theorem cyA_succ {B : Nat} (hB : 0 < B) (a b c k : Nat) : cyA B a b c (k + 1) = (dgt B a k + dgt B b k + cyA B a b c k) / B := by
 have hM : 0 < B ^ k := Nat.pow_pos hB
 unfold cyA
 rw [mod_pow_succ, mod_pow_succ, Nat.pow_succ, ← Nat.div_div_eq_div_mul]
 congr 1
 have : a % B ^ k + B ^ k * dgt B a k + (b % B ^ k + B ^ k * dgt B b k) + c = (a % B ^ k + b % B ^ k + c) + B ^ k * (dgt B a k + dgt B b k) := by rw [Nat.mul_add]; omega
 rw [this, Nat.add_mul_div_left _ _ hM]; omega
theorem dgt_sum {B : Nat} (hB : 0 < B) (a b c k : Nat) : dgt B (a + b + c) k = (dgt B a k + dgt B b k + cyA B a b c k) % B := by
 have hM : 0 < B ^ k := Nat.pow_pos hB
 have e : a + b + c = (a % B ^ k + b % B ^ k + c) + B ^ k * (a / B ^ k + b / B ^ k) := by
   have h1 := Nat.mod_add_div a (B ^ k)
   have h2 := Nat.mod_add_div b (B ^ k)
   rw [Nat.mul_add]; omega
 unfold dgt cyA
 rw [e, Nat.add_mul_div_left _ _ hM]
 conv => lhs; rw [Nat.add_comm, Nat.add_mod, Nat.add_mod (a / B ^ k)]
 conv => rhs; rw [Nat.add_mod]
theorem cyA_le {B : Nat} (hB : 0 < B) (a b c k : Nat) (hc : c ≤ 1) : cyA B a b c k ≤ 1 := by
 have hM : 0 < B ^ k := Nat.pow_pos hB
 have h1 := Nat.mod_lt a hM
 have h2 := Nat.mod_lt b hM
 unfold cyA
 rw [← Nat.lt_succ_iff, Nat.div_lt_iff_lt_mul hM]
 omega
theorem cyA_top {B a b c n : Nat} (ha : a < B ^ n) (hb : b < B ^ n) : cyA B a b c n = (a + b + c) / B ^ n := by
 unfold cyA; rw [Nat.mod_eq_of_lt ha, Nat.mod_eq_of_lt hb]
theorem tb63 (x : Nat) (h : x < 2 ^ 64) : x / 2 ^ 63 = (x.testBit 63).toNat := by
 rw [Nat.testBit_eq_decide_div_mod_eq]
 have : x / 2 ^ 63 < 2 := by rw [Nat.div_lt_iff_lt_mul (by decide)]; omega
 have h2 : x / 2 ^ 63 = 0 ∨ x / 2 ^ 63 = 1 := by omega
 rcases h2 with h2 | h2 <;> simp [h2]
theorem carry_bits (a b c : Nat) (ha : a < 2 ^ 64) (hb : b < 2 ^ 64) (hc : c ≤ 1) :
   ((a &&& b) ||| ((a ||| b) &&& (2 ^ 64 - 1 - (a + b + c) % 2 ^ 64))) / 2 ^ 63 = (a + b + c) / 2 ^ 64 := by
 have h1 : (a &&& b) < 2 ^ 64 := Nat.and_lt_two_pow _ hb
 have h2 : (a ||| b) < 2 ^ 64 := Nat.or_lt_two_pow ha hb
 have h3 : ((a ||| b) &&& (2 ^ 64 - 1 - (a + b + c) % 2 ^ 64)) < 2 ^ 64 := Nat.lt_of_le_of_lt Nat.and_le_left h2
 have h4 : ((a &&& b) ||| ((a ||| b) &&& (2 ^ 64 - 1 - (a + b + c) % 2 ^ 64))) < 2 ^ 64 := Nat.or_lt_two_pow h1 h3
 rw [tb63 _ h4, Nat.testBit_or, Nat.testBit_and, Nat.testBit_and, Nat.testBit_or]
 have hs : (a + b + c) % 2 ^ 64 < 2 ^ 64 := Nat.mod_lt _ (by decide)
 have hn : (2 ^ 64 - 1 - (a + b + c) % 2 ^ 64).testBit 63 = !((a + b + c) % 2 ^ 64).testBit 63 := by
   rw [show 2 ^ 64 - 1 - (a + b + c) % 2 ^ 64 = 2 ^ 64 - ((a + b + c) % 2 ^ 64 + 1) by omega, Nat.testBit_two_pow_sub_succ hs]
   simp
 rw [hn]
 simp only [Nat.testBit_eq_decide_div_mod_eq]
 have e1 : a / 2 ^ 63 = 0 ∨ a / 2 ^ 63 = 1 := by omega
 have e2 : b / 2 ^ 63 = 0 ∨ b / 2 ^ 63 = 1 := by omega
 have e3 : (a + b + c) % 2 ^ 64 / 2 ^ 63 = 0 ∨ (a + b + c) % 2 ^ 64 / 2 ^ 63 = 1 := by omega
 rcases e1 with e1 | e1 <;> rcases e2 with e2 | e2 <;> rcases e3 with e3 | e3 <;> simp [e1, e2, e3] <;> omega
theorem fill_get (f : Nat → Nat) (n i : Nat) (h : i < n) (l : List Nat) : (tell f n ++ l).getD i 0 = f i := by
 rw [← tell_getD f n i h, List.getD_eq_getElem?_getD, List.getD_eq_getElem?_getD, List.getElem?_append_left (by rw [tell_length]; exact h)]
theorem mix_get (a b : List Nat) (t n : Nat) (ha : a.length = n) (hb : b.length = n) (h : t < n) : (a.take t ++ b.drop t).getD t 0 = b.getD t 0 := by
 rw [List.getD_eq_getElem?_getD, List.getElem?_append_right (by simp; omega)]
 simp [ha, List.getD_eq_getElem?_getD, show min t n = t by omega]
theorem mix_set (a b : List Nat) (t n : Nat) (ha : a.length = n) (hb : b.length = n) (h : t < n) : (a.take t ++ b.drop t).set t (a.getD t 0) = a.take (t + 1) ++ b.drop (t + 1) := by
 have h1 : t < a.length := by omega
 have h2 : t < b.length := by omega
 rw [List.set_append_right (h := by simp; omega), List.take_succ_eq_append_getElem h1, List.drop_eq_getElem_cons (i := t) h2, List.append_assoc]
 have e : t - (a.take t).length = 0 := by simp; omega
 rw [e]
 generalize b.drop (t + 1) = r
 generalize b[t] = y
 simp [List.getD_eq_getElem?_getD, List.getElem?_eq_getElem h1]
theorem mix_len (a b : List Nat) (t n : Nat) (ha : a.length = n) (hb : b.length = n) (h : t ≤ n) : (a.take t ++ b.drop t).length = n := by simp; omega
def bo (W x y : Nat) : Nat := (x % 2 ^ W) ||| (y % 2 ^ W)
def bd (W x y : Nat) : Nat := (x % 2 ^ W) &&& (2 ^ W - 1 - y % 2 ^ W)
theorem u64_bo (a b : Nat) : bits .or .u64 (a : Int) (b : Int) = ((bo 64 a b : Nat) : Int) := by
 have h := u64_or_nat (a % 2 ^ 64) (b % 2 ^ 64) (Nat.mod_lt _ (by decide)) (Nat.mod_lt _ (by decide))
 have e : bits .or .u64 (a : Int) (b : Int) = bits .or .u64 ((a % 2 ^ 64 : Nat) : Int) ((b % 2 ^ 64 : Nat) : Int) := by
   show IntKind.u64.wrap ((BitVec.ofInt 64 (a : Int) ||| BitVec.ofInt 64 (b : Int)).toNat : Int) = IntKind.u64.wrap ((BitVec.ofInt 64 ((a % 2 ^ 64 : Nat) : Int) ||| BitVec.ofInt 64 ((b % 2 ^ 64 : Nat) : Int)).toNat : Int)
   rw [ofInt_mod64 a, ofInt_mod64 b, ofInt_mod64 (a % 2 ^ 64), ofInt_mod64 (b % 2 ^ 64), Nat.mod_mod, Nat.mod_mod]
 rw [e, h]; rfl
theorem u64_bd (a b : Nat) : bits .andNot .u64 (a : Int) (b : Int) = ((bd 64 a b : Nat) : Int) := by
 have h := u64_andNot_nat (a % 2 ^ 64) (b % 2 ^ 64) (Nat.mod_lt _ (by decide)) (Nat.mod_lt _ (by decide))
 have e : bits .andNot .u64 (a : Int) (b : Int) = bits .andNot .u64 ((a % 2 ^ 64 : Nat) : Int) ((b % 2 ^ 64 : Nat) : Int) := by
   show IntKind.u64.wrap ((BitVec.ofInt 64 (a : Int) &&& ~~~ BitVec.ofInt 64 (b : Int)).toNat : Int) = IntKind.u64.wrap ((BitVec.ofInt 64 ((a % 2 ^ 64 : Nat) : Int) &&& ~~~ BitVec.ofInt 64 ((b % 2 ^ 64 : Nat) : Int)).toNat : Int)
   rw [ofInt_mod64 a, ofInt_mod64 b, ofInt_mod64 (a % 2 ^ 64), ofInt_mod64 (b % 2 ^ 64), Nat.mod_mod, Nat.mod_mod]
 rw [e, h]; rfl
def cyW (x y s : Nat) : Nat := bo 64 (ba 64 x y) (bd 64 (bo 64 x y) s) / 2 ^ 63
theorem cyW_eq (x y c s : Nat) (hx : x < 2 ^ 64) (hy : y < 2 ^ 64) (hc : c ≤ 1) (hs : s = (x + y + c) % 2 ^ 64) : cyW x y s = (x + y + c) / 2 ^ 64 := by
 have hsl : s < 2 ^ 64 := by rw [hs]; exact Nat.mod_lt _ (by decide)
 have h1 : ba 64 x y = x &&& y := by unfold ba; rw [Nat.mod_eq_of_lt hx, Nat.mod_eq_of_lt hy]
 have h2 : bo 64 x y = x ||| y := by unfold bo; rw [Nat.mod_eq_of_lt hx, Nat.mod_eq_of_lt hy]
 have h3 : (x ||| y) < 2 ^ 64 := Nat.or_lt_two_pow hx hy
 have h4 : bd 64 (x ||| y) s = (x ||| y) &&& (2 ^ 64 - 1 - s) := by unfold bd; rw [Nat.mod_eq_of_lt h3, Nat.mod_eq_of_lt hsl]
 have h5 : (x &&& y) < 2 ^ 64 := Nat.and_lt_two_pow _ hy
 have h6 : ((x ||| y) &&& (2 ^ 64 - 1 - s)) < 2 ^ 64 := Nat.lt_of_le_of_lt Nat.and_le_left h3
 unfold cyW
 rw [h1, h2, h4]
 unfold bo
 rw [Nat.mod_eq_of_lt h5, Nat.mod_eq_of_lt h6, hs]
 exact carry_bits x y c hx hy hc
end Go.Proofs.Ytdkkombpkojjaaa
