/- Lists of bytes in memory and as plain naturals: what the walks of this seat share. No condition. -/
import Derived.Test.YtelfhpmbnficfaaProg
import Derived.WalkKit
import Derived.ProofKit
import Derived.Lib.Hide
import Derived.Handy
import Derived.Laws.BitsAllLaws
import Derived.Laws.BytesArg
import Derived.WalkSmall
import Derived.WalkSpells
import Derived.Deep.RegionLaw
import Derived.Deep.QuietTactic
import Derived.BigQuiet
namespace Go.Proofs.Ytelfhpmbnficfaa
open Go.RowKit
set_option linter.unusedVariables false
set_option maxRecDepth 100000

/-- A slice's value leads to these bytes. -/
def ByteRow (w : World) (a : Option Addr) (len : Nat) (l : List Nat) : Prop :=
  l.length = len ∧ len ≤ maxLen ∧ (∀ x ∈ l, x < 256) ∧ (len = 0 ∨ ∃ b off, a = some ⟨b, off, none⟩ ∧ ∀ i, i < len → w.cell? ⟨b, off + i, none⟩ = some (.int .u8 (l.getD i 0 : Nat)))

theorem take_snoc (l : List Nat) (k : Nat) (h : k < l.length) : l.take (k + 1) = l.take k ++ [l.getD k 0] := by
  rw [List.take_succ_eq_append_getElem h]; simp [List.getD_eq_getElem?_getD, h]

theorem getD_lt {l : List Nat} (h : ∀ x ∈ l, x < 256) (k : Nat) : l.getD k 0 < 256 := by
  by_cases hk : k < l.length
  · rw [List.getD_eq_getElem?_getD, List.getElem?_eq_getElem hk]; exact h _ (List.getElem_mem hk)
  · rw [List.getD_eq_getElem?_getD, List.getElem?_eq_none (by omega)]; decide

theorem info5 : (Try.prog.info? 5).map (fun i => (i.zero, i.size, i.bytes)) = some (some (.int .u8 0), 1, 1) := by kernel_rfl

/-- bytes as the cells hold them -/
def bytesV (l : List Nat) : List Value := l.map fun (x : Nat) => Value.int .u8 (x : Int)

/-- bytes as a text -/
def strV (l : List Nat) : ByteArray := strOfNums (l.map Nat.cast)

/-- 'append' of what fits onto a row of the call's own, as one step of a region that draws. -/
theorem step_append_fits {P : Program} {ops : Array Oper} {o : Oper} {a : Act} {w : World} {K : Act → World → Prop} {Q : Exit → Act → World → Prop} {E : Prop}
    (hg : o.guard = none) (s x : Operand) (t : TypeId) (hop : o.op = Op.call { callee := Callee.builtin Builtin.append, args := #[s, x], argTypes := #[t, t] })
    (base : Nat) (e : TypeId) (i : TypeInfo) (size : Nat) (h1 : P.underlying t = some (.slice e)) (h2 : P.info? e = some i) (h4 : i.size = size)
    (g k cap : Nat) (xs : List Value) (hs : a.eval s = .slice (some ⟨g, 0, none⟩) k cap) (hown : w.ownsRow base e size (.slice (some ⟨g, 0, none⟩) k cap) k xs) (ad : Addr) (m c : Nat) (news : List Value) (hx : a.eval x = .slice (some ad) m c) (hn : news.length = m * size)
    (hc : ∀ j u, news[j]? = some u → w.cell? (ad.add j) = some u) (h1c : ∀ u ∈ news, u.oneCell' = true) (b1 : k + m ≤ cap)
    (hK : ∀ w', w'.ownsRow base e size (.slice (some ⟨g, 0, none⟩) (k + m) cap) (k + m) (xs ++ news) → w.grownBy w' (some g) → K (a.put o.dst (.slice (some ⟨g, 0, none⟩) (k + m) cap)) w') :
    if Region.wanted o (yielded ops a.tmps) = true then Oper.wp P o a w K Q else E := by
  have hw : Region.wanted o (yielded ops a.tmps) = true := by simp [Region.wanted, hg]
  rw [if_pos hw]
  obtain ⟨w', hrun, r1, r2⟩ := run_append_fits (P := P) w base t o.type e i size h1 h2 h4 g k cap xs hown ad m c news hn hc h1c b1
  unfold Oper.wp
  simp [execOp, hop, resolve, invoke, builtin, hs, hx, hrun, Result.andThen]
  exact hK w' r1 r2

theorem own_cells {w : World} {B g n cap : Nat} {l : List Nat} (h : w.ownsRow B 5 1 (.slice (some ⟨g, 0, none⟩) n cap) n (bytesV l)) : l.length = n ∧ ∀ i, i < n → w.cell? ⟨g, 0 + i, none⟩ = some (.int .u8 (l.getD i 0 : Nat)) := by
  have hl : l.length = n := by have := h.1; simpa [bytesV] using this
  refine ⟨hl, fun i hi => ?_⟩
  have := h.cellAt i (by omega)
  rw [Nat.zero_add, this]
  simp [bytesV, List.getD_eq_getElem?_getD, List.getElem?_eq_getElem (show i < l.length by omega)]

theorem own_str {w : World} {B g n cap : Nat} {l : List Nat} (h : w.ownsRow B 5 1 (.slice (some ⟨g, 0, none⟩) n cap) n (bytesV l)) : (convert 36 9 (.slice (some ⟨g, 0, none⟩) n cap)).run Try.prog w = .ok (.string (strV l)) w := by
  obtain ⟨h1, h2⟩ := own_cells h
  refine run_convert_bytes_arg (P := Try.prog) w 36 5 Try.underlying36 Try.underlying5 g 0 n cap (l.map Nat.cast) (by simpa using h1) (fun i hi => ?_) 9 Try.underlying9
  rw [h2 i hi]
  have : i < l.length := by omega
  simp [List.getD_eq_getElem?_getD, List.getElem?_eq_getElem this]

/-- A slice value of bytes, nil let in: its list, its length, its capacity. -/
def BIn (w : World) (a : Option Addr) (n c : Nat) (l : List Nat) : Prop :=
  ByteRow w a n l ∧ n ≤ c ∧ c ≤ maxLen ∧ n ≤ 140737488355328 ∧ (a = none → c = 0)

theorem ByteRow.below {w w' : World} {a : Option Addr} {n : Nat} {l : List Nat} (h : ByteRow w a n l) (hb : Below w.heap.size w w') : ByteRow w' a n l := by
  obtain ⟨h1, h2, h3, h4⟩ := h
  refine ⟨h1, h2, h3, ?_⟩
  rcases h4 with h4 | ⟨b, off, rfl, hc⟩
  · exact .inl h4
  · exact .inr ⟨b, off, rfl, fun i hi => (hb.cell (World.block_lt_of_cell? w _ (hc i hi))).trans (hc i hi)⟩
theorem BIn.below {w w' : World} {a : Option Addr} {n c : Nat} {l : List Nat} (h : BIn w a n c l) (hb : Below w.heap.size w w') : BIn w' a n c l :=
  ⟨h.1.below hb, h.2⟩
theorem own_below {w w' : World} {base e size n : Nat} {v : Value} {xs : List Value} (h : w.ownsRow base e size v n xs) (hb : Below w.heap.size w w') : w'.ownsRow base e size v n xs := by
  refine ⟨h.1, ?_⟩
  rcases h.2 with h2 | ⟨g, cap, cur, rfl, hbg, hg, rest⟩
  · exact .inl h2
  · exact .inr ⟨g, cap, cur, rfl, hbg, (hb.block g (Array.getElem?_eq_some_iff.1 hg).1).trans hg, rest⟩

/-- What the call made, as a slice value that leads to bytes. -/
theorem own_in {w : World} {base n : Nat} {v : Value} {l : List Nat} (h : w.ownsRow base 5 1 v n (bytesV l)) (hl : ∀ x ∈ l, x < 256) (hn : n ≤ 140737488355328) :
    ∃ a c, v = .slice a n c ∧ BIn w a n c l ∧ l.length = n := by
  have hlen : l.length = n := by have := h.1; simpa [bytesV] using this
  rcases h.2 with ⟨rfl, rfl⟩ | ⟨g, cap, cur, rfl, hbg, hg, h1, h2, rest⟩
  · exact ⟨none, 0, rfl, ⟨⟨hlen, Nat.zero_le _, hl, .inl rfl⟩, Nat.le_refl _, Nat.zero_le _, hn, fun _ => rfl⟩, hlen⟩
  · refine ⟨some ⟨g, 0, none⟩, cap, rfl, ⟨⟨hlen, by omega, hl, .inr ⟨g, 0, rfl, ?_⟩⟩, h1, h2, hn, fun h => by cases h⟩, hlen⟩
    exact (own_cells h).2

section
variable {P : Program} (w : World)
theorem wpList_append_bytes {ops : Array Oper} {rest : List Oper} {o : Oper} {a : Act} {Q : Exit → Act → World → Prop} (hgd : o.guard = none) (s x : Operand)
    (ho : o.op = .call { callee := .builtin .append, args := #[s, x], argTypes := #[36, 36] })
    (base : Nat) (v : Value) (n : Nat) (xs : List Nat) (hs : a.eval s = v) (hown : w.ownsRow base 5 1 v n (bytesV xs))
    (A : Option Addr) (m c : Nat) (l : List Nat) (hx : a.eval x = .slice A m c) (hr : BIn w A m c l) (hb : n + m ≤ 140737488355328) (hbase : base ≤ w.heap.size)
    (h : ∀ v' w', w'.ownsRow base 5 1 v' (n + m) (bytesV (xs ++ l)) → w.grownBy w' v.ownBlock → wpList Try.prog ops Q rest (a.put o.dst v') w') : wpList Try.prog ops Q (o :: rest) a w := by
  obtain ⟨i0, hi, hz0, hz1, hz2⟩ := info_parts info5
  obtain ⟨⟨hl, hm, hlt, hrow⟩, hc1, hc2, _, hnil⟩ := hr
  have hone : ∀ u ∈ bytesV l, u.oneCell' = true := by
    intro u hu; obtain ⟨y, _, rfl⟩ := List.mem_map.1 hu; rfl
  rcases A with _ | ad
  · have := hnil rfl
    obtain rfl : m = 0 := by omega
    subst this
    obtain rfl : l = [] := List.eq_nil_of_length_eq_zero hl
    refine wpList_plain hgd fun K hK => ?_
    have hrun := run_append_owned_none (P := Try.prog) w base 36 o.type 5 i0 1 Try.underlying36 hi v n (bytesV xs) hown
    have h2 := h v w (by simpa using hown) ⟨rfl, rfl, rfl, Nat.le_refl _, fun _ _ _ => rfl⟩
    unfold Oper.wp
    simp [execOp, ho, resolve, invoke, builtin, hs, hx, hrun, Result.andThen]
    exact hK _ _ h2
  · refine wpList_append_own w hgd s x 36 ho base 5 i0 (.int .u8 0) 1 1 Try.underlying36 hi hz0 hz1 hz2 rfl (by decide) v n (bytesV xs) hs hown ad m c (bytesV l) hx (by simpa [bytesV] using hl) ?_ hone (by simp only [maxLen]; omega) (by omega) hbase ?_
    · intro j u hu
      have hj : j < l.length := by
        rcases Nat.lt_or_ge j l.length with h | h
        · exact h
        · rw [List.getElem?_eq_none (by simpa [bytesV] using h)] at hu; cases hu
      obtain ⟨b, off, hA, hc⟩ := hrow.resolve_left (by omega)
      injection hA with hA; subst hA
      have hadd : (⟨b, off, none⟩ : Addr).add j = ⟨b, off + j, none⟩ := by
        simp only [Addr.add]; split
        · rename_i h; subst h; rfl
        · rfl
      rw [hadd, hc j (by omega), ← hu]
      simp [bytesV, List.getD_eq_getElem?_getD, List.getElem?_eq_getElem hj]
    · intro v' w' h1 h2 _
      exact h v' w' (by simpa [bytesV] using h1) h2
end


/-- what a call answers that made a list of these bytes -/
def Made (l : List Nat) (w : World) (e : Ending) (w' : World) : Prop := ∃ v, e = .returned v ∧ w'.ownsRow w.heap.size 5 1 v l.length (bytesV l) ∧ Below w.heap.size w w'

theorem zero_row (w : World) : (w.alloc (.cells #[] 5)).ownsRow w.heap.size 5 1 (.slice (some ⟨w.heap.size, 0, none⟩) 0 0) 0 (bytesV []) :=
  World.ownsRow_made w #[] 0 (Nat.le_refl _) (Nat.zero_le _) rfl

theorem ret2b {k : IntKind} {a b : Int} {t : Bool} (h : a = b) : Ending.returned (.tuple #[.int k a, .bool t]) = .returned (.tuple #[.int k b, .bool t]) := by rw [h]

theorem ret1 {k : IntKind} {a b : Int} (h : a = b) : Ending.returned (.int k a) = .returned (.int k b) := by rw [h]

theorem one_new (w : World) (a : Value) (t : TypeId) : ∀ j u, [a][j]? = some u → (w.alloc (.cells #[a] t)).cell? ((⟨w.heap.size, 0, none⟩ : Addr).add j) = some u := by
  intro j u hj
  match j, hj with
  | 0, hj => simp at hj; subst hj; simp [Addr.add]
  | j + 1, hj => simp at hj

theorem bytesV_snoc (l : List Nat) (z : Nat) : bytesV l ++ [.int .u8 (z : Nat)] = bytesV (l ++ [z]) := by simp [bytesV]

/-- so many bytes in new memory, with OK -/
def ListIs (n : Nat) (l : List Nat) (w : World) (e : Ending) (w' : World) : Prop := ∃ a c, e = .returned (.tuple #[.slice a n c, .int .i64 0]) ∧ BIn w' a n c l ∧ Below w.heap.size w w'

/-- a text's bytes -/
def strL (s : ByteArray) : List Nat := s.data.toList.map UInt8.toNat

theorem strL_length (s : ByteArray) : (strL s).length = s.size := by simp [strL]

theorem strL_at (s : ByteArray) (k : Nat) (h : k < s.size) : (s[k]'h).toNat = (strL s).getD k 0 := by
  have h' : k < s.data.toList.length := h
  simp only [strL, List.getD_eq_getElem?_getD, List.getElem?_map, List.getElem?_eq_getElem h', Option.map_some, Option.getD_some]
  rfl

theorem strL_lt (s : ByteArray) (k : Nat) : (strL s).getD k 0 < 256 := getD_lt (fun x hx => by obtain ⟨u, _, rfl⟩ := List.mem_map.1 hx; exact u.toNat_lt) k

theorem strL_strV {l : List Nat} (h : ∀ x ∈ l, x < 256) : strL (strV l) = l := by
  unfold strL strV
  rw [strOfNums_data, List.map_map, List.map_map]
  conv => rhs; rw [← List.map_id l]
  refine List.map_congr_left fun x hx => ?_
  have := h x hx
  simp
  omega

theorem strV_strL (s : ByteArray) : strV (strL s) = s := by
  apply ByteArray.ext
  apply Array.ext'
  unfold strL strV
  rw [strOfNums_data, List.map_map, List.map_map]
  conv => rhs; rw [← List.map_id s.data.toList]
  refine List.map_congr_left fun x hx => ?_
  simp

theorem bin_sub {w : World} {b off n c f s : Nat} {l : List Nat} (h : BIn w (some ⟨b, off, none⟩) n c l) (hn : 0 < n) (hf : f + s ≤ n) : BIn w (some ⟨b, off + f, none⟩) s (c - f) ((l.drop f).take s) := by
  obtain ⟨⟨h1, h2, h3, h4⟩, h5, h6, h7, h8⟩ := h
  obtain ⟨b', o', he, hc⟩ := h4.resolve_left (by omega)
  injection he with he
  injection he with e1 e2
  subst e1 e2
  refine ⟨⟨by simp; omega, by omega, fun x hx => h3 x (List.mem_of_mem_drop (List.mem_of_mem_take hx)), .inr ⟨b, off + f, rfl, fun i hi => ?_⟩⟩, by omega, by omega, by omega, fun h => by cases h⟩
  have := hc (f + i) (by omega)
  rw [← Nat.add_assoc] at this
  rw [this]
  congr 3
  simp only [List.getD_eq_getElem?_getD, List.getElem?_take, List.getElem?_drop]
  rw [if_pos hi]

theorem bin_empty (w : World) (a : Option Addr) (c : Nat) (hc : c ≤ maxLen) (h : a = none → c = 0) : BIn w a 0 c [] := ⟨⟨rfl, Nat.zero_le _, by simp, .inl rfl⟩, Nat.zero_le _, hc, by omega, h⟩

theorem ret2_congr {k1 k2 : IntKind} {a b c d : Int} (h1 : a = b) (h2 : c = d) : Ending.returned (.tuple #[.int k1 a, .int k2 c]) = .returned (.tuple #[.int k1 b, .int k2 d]) := by rw [h1, h2]

theorem cast_pow (c : Nat) : (2 : Int) ^ c = ((2 ^ c : Nat) : Int) := by simp

/-- so many bytes in a row of the call's own, with OK -/
def ListOwn (n : Nat) (l : List Nat) (w : World) (e : Ending) (w' : World) : Prop := ∃ g c, e = .returned (.tuple #[.slice (some ⟨g, 0, none⟩) n c, .int .i64 0]) ∧ w'.ownsRow w.heap.size 5 1 (.slice (some ⟨g, 0, none⟩) n c) n (bytesV l) ∧ Below w.heap.size w w'

theorem bytesV_set (l : List Nat) (i y : Nat) : (bytesV l).set i (.int .u8 (y : Nat)) = bytesV (l.set i y) := by simp [bytesV, List.map_set]

theorem below_drewN {B : Nat} {a w : World} (h : Below B a w) (n : Nat) : Below B a (w.drewN n) := ⟨h.os, h.tape, h.output, h.size, h.block⟩
end Go.Proofs.Ytelfhpmbnficfaa
