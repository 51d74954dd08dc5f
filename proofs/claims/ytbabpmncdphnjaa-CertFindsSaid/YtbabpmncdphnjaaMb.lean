/- Extensions in memory, and how they are found. No condition. An extension is found, on both sides. No condition. -/
import Derived.Test.YtbabpmncdphnjaaKm
namespace Go.Proofs.Ytbabpmncdphnjaa
open Go.RowKit
set_option linter.unusedVariables false
set_option maxRecDepth 100000
set_option linter.unusedSimpArgs false

abbrev XV := Int × Bool × List Nat
/-- extensions lie in block g from o on -/
def XRow (w : World) : List XV → Nat → Nat → Prop
  | [], _, _ => True
  | x :: r, g, o => (-9223372036854775808 ≤ x.1 ∧ x.1 ≤ 9223372036854775807) ∧ (∃ a c, w.rangeAt g o [.int .i64 x.1, .bool x.2.1, .slice a x.2.2.length c] ∧ BIn w a x.2.2.length c x.2.2) ∧ XRow w r g (o + 3)
def XIn (w : World) (a : Option Addr) (n c : Nat) (xs : List XV) : Prop := xs.length = n ∧ n ≤ c ∧ n ≤ 140737488355328 ∧ (a = none → c = 0) ∧ (n = 0 ∨ ∃ g o, a = some ⟨g, o, none⟩ ∧ XRow w xs g o)
theorem XRow.below {w w' : World} (hb : Below w.heap.size w w') : ∀ {xs : List XV} {g o : Nat}, XRow w xs g o → XRow w' xs g o
  | [], _, _, _ => trivial
  | x :: r, g, o, ⟨h0, ⟨a, c, h1, h2⟩, h3⟩ => ⟨h0, ⟨a, c, rangeAt_below h1 hb, h2.below hb⟩, XRow.below hb h3⟩
theorem XIn.below {w w' : World} {a : Option Addr} {n c : Nat} {xs : List XV} (h : XIn w a n c xs) (hb : Below w.heap.size w w') : XIn w' a n c xs := by
  obtain ⟨h1, h2, h3, h4, h5⟩ := h
  refine ⟨h1, h2, h3, h4, ?_⟩
  rcases h5 with h5 | ⟨g, o, rfl, h5⟩
  · exact .inl h5
  · exact .inr ⟨g, o, rfl, h5.below hb⟩
theorem XRow.at {w : World} : ∀ {xs : List XV} {g o i : Nat} {x : XV}, XRow w xs g o → xs[i]? = some x → (-9223372036854775808 ≤ x.1 ∧ x.1 ≤ 9223372036854775807) ∧ ∃ a c, w.rangeAt g (o + i * 3) [.int .i64 x.1, .bool x.2.1, .slice a x.2.2.length c] ∧ BIn w a x.2.2.length c x.2.2
  | y :: r, g, o, 0, x, ⟨h0, ⟨a, c, h1, h2⟩, h3⟩, he => by
    obtain rfl : y = x := by simpa using he
    exact ⟨h0, a, c, by simpa using h1, h2⟩
  | y :: r, g, o, i + 1, x, ⟨h0, _, h3⟩, he => by
    have := XRow.at h3 (i := i) (x := x) (by simpa using he)
    rwa [show o + 3 + i * 3 = o + (i + 1) * 3 by omega] at this
/-- the first with that number is the i-th -/
def FirstX (xs : List XV) (z : Int) (i : Nat) (x : XV) : Prop := xs[i]? = some x ∧ x.1 = z ∧ ∀ (j : Nat) (y : XV), j < i → xs[j]? = some y → y.1 ≠ z
def NoX (xs : List XV) (z : Int) : Prop := ∀ (j : Nat) (y : XV), xs[j]? = some y → y.1 ≠ z
theorem first_or (xs : List XV) (z : Int) : (∃ i x, FirstX xs z i x) ∨ NoX xs z := by
  induction xs with
  | nil => right; intro j y h; simp at h
  | cons y r ih =>
    by_cases hy : y.1 = z
    · exact .inl ⟨0, y, rfl, hy, fun j _ h => by omega⟩
    · rcases ih with ⟨i, x, h1, h2, h3⟩ | h
      · refine .inl ⟨i + 1, x, by simpa using h1, h2, fun j q hj hq => ?_⟩
        cases j with
        | zero => obtain rfl : y = q := by simpa using hq
                  exact hy
        | succ j => exact h3 j q (by omega) (by simpa using hq)
      · right
        intro j q hq
        cases j with
        | zero => obtain rfl : y = q := by simpa using hq
                  exact hy
        | succ j => exact h j q (by simpa using hq)
theorem info65 : (Try.prog.info? 65).map (·.size) = some 3 := by kernel_rfl
theorem all_ext (z : Int) (b : Bool) (a : Option Addr) (n c : Nat) : (#[Value.int .i64 z, .bool b, .slice a n c] : Array Value).all (·.oneCell') = true := by simp [Value.oneCell']
section
variable {w : World} {ops : Array Oper} {rest : List Oper} {o : Oper} {a : Act} {Q : Exit → Act → World → Prop}
theorem ldX (hgd : o.guard = none) (x : Operand) (ho : o.op = .load 65 x) (b off : Nat) (hx : a.eval x = .pointer (some ⟨b, off, none⟩)) (v0 v1 v2 : Value) (hr : w.rangeAt b off [v0, v1, v2])
    (h : wpList Try.prog ops Q rest (a.put o.dst (.agg #[v0, v1, v2])) w) : wpList Try.prog ops Q (o :: rest) a w :=
  wpList_load_mid hgd 65 x ho b off hx [v0, v1, v2] _ hr Try.underlying65 rfl info65 h
end
theorem isX_any (x z : Int) (b : Bool) (a : Option Addr) (n c B : Nat) (w : World) (r : Bool) (hr : decide (x = z) = r) (hc : w.cell? ⟨B, 0, none⟩ = some (.int .i64 z)) : Calls Try.prog 111 #[.agg #[.int .i64 x, .bool b, .slice a n c], .pointer (some ⟨B, 0, none⟩)] w fun e w' => e = .returned (.bool r) ∧ Below w.heap.size w w' := by
  have hb := (Below.refl _ w).alloc (Nat.le_refl _) (.cells #[.int .i64 x, .bool b, .slice a n c] 65)
  have HB := Lib.hid hb
  have hcz := (hb.cell (World.block_lt_of_cell? w _ hc)).trans hc
  have HX := Lib.hid (Blk.new w 65 [.int .i64 x, .bool b, .slice a n c])
  have hq : (x == z) = r := by rw [← hr]; rfl
  have HQ := Lib.hid hq
  clear hb hc hr
  go_enter Try.func111, Try.ntmps111
  generalize hW0 : w.alloc (.cells #[.int .i64 x, .bool b, .slice a n c] 65) = W0 at *
  have kx := blkc HX.out (i := 0) rfl
  go_wp2
  go_ret
  exact ⟨by first | rfl | (rw [HQ.out]; done) | (simp [HQ.out]; done), HB.out⟩

set_option maxRecDepth 100000 in
set_option maxHeartbeats 4000000 in
theorem index_found (w : World) (xs : List XV) (z : Int) (a : Option Addr) (n c B : Nat) (i : Nat) (x0 : XV) (hf : FirstX xs z i x0) (hin : XIn w a n c xs) (hc : w.cell? ⟨B, 0, none⟩ = some (.int .i64 z)) :
    Calls Try.prog 110 #[.slice a n c, .func (.func 111) #[] #[.pointer (some ⟨B, 0, none⟩)]] w fun e w' => e = .returned (.int .i64 (i : Nat)) ∧ Below w.heap.size w w' := by
  have hm : n ≤ 140737488355328 := hin.2.2.1
  have hl : xs.length = n := hin.1
  have HI := Lib.hid hin
  have HC := Lib.hid hc
  have HL := Lib.hid hl
  have HF := Lib.hid hf
  clear hin hc hl hf
  go_enter Try.func110, Try.ntmps110
  go_wp2
  go_loopw [8] (fun v wr => ∃ j : Nat, v = .int .i64 (j : Nat) ∧ j ≤ i ∧ Below w.heap.size w wr) (fun v _ => n - (intOf v).toNat)
  case atStart => exact ⟨0, rfl, Nat.zero_le _, Below.refl _ _⟩
  case round =>
    obtain ⟨j, rfl, hj, hbel⟩ := hrel
    have HB := Lib.hid hbel
    have HZ := Lib.hid ((hbel.cell (World.block_lt_of_cell? w _ HC.out)).trans HC.out)
    clear hbel
    by_cases hjn : j < n
    · have hji : (j : Int) < (n : Int) := by omega
      obtain ⟨x, hx⟩ : ∃ x, xs[j]? = some x := ⟨xs[j]'(by have := HL.out; omega), List.getElem?_eq_getElem _⟩
      obtain ⟨g, o, rfl, hrow⟩ := HI.out.2.2.2.2.resolve_left (by omega)
      obtain ⟨hxb, a2, c2, hr, _⟩ := hrow.at hx
      have HR := Lib.hid (rangeAt_below hr HB.out)
      have HX := Lib.hid hx
      obtain ⟨m2, hm2⟩ : ∃ q, x.2.2.length = q := ⟨_, rfl⟩
      rw [hm2] at HR
      clear hr hrow hx hm2
      by_cases hji2 : j = i
      · subst hji2
        have he : x = x0 := by have := HF.out.1; rw [HX.out] at this; injection this
        have hq := Lib.hid (show decide (x.1 = z) = true by rw [he]; exact decide_eq_true HF.out.2.1)
        clear he
        go_wp2_with (first | (refine ldX rfl (.tmp 14) rfl g (o + j * 3) rfl _ _ _ HR.out ?_) | (go_at_call 111; ((with_reducible refine (isX_any _ _ _ _ _ _ _ _ true hq.out HZ.out).mono ?_); rintro e w2 ⟨rfl, hb2⟩; have HB2 := Lib.hid (HB.out.trans (hb2.mono HB.out.size)); clear hb2)))
        go_ret
        exact ⟨rfl, HB2.out⟩
      · have hq := Lib.hid (show decide (x.1 = z) = false from decide_eq_false (HF.out.2.2 j x (by omega) HX.out))
        go_wp2_with (first | (refine ldX rfl (.tmp 14) rfl g (o + j * 3) rfl _ _ _ HR.out ?_) | (go_at_call 111; ((with_reducible refine (isX_any _ _ _ _ _ _ _ _ false hq.out HZ.out).mono ?_); rintro e w2 ⟨rfl, hb2⟩; have HB2 := Lib.hid (HB.out.trans (hb2.mono HB.out.size)); clear hb2)))
        go_roundw
        case rel => exact ⟨j + 1, by go_num, by omega, HB2.out⟩
        case measure => simp [intOf]; omega
    · have hji : ¬ (j : Int) < (n : Int) := by omega
      have h1 := (List.getElem?_eq_some_iff.1 HF.out.1).1
      have h2 := HL.out
      exfalso; omega

set_option maxRecDepth 100000 in
set_option maxHeartbeats 4000000 in
theorem index_none (w : World) (xs : List XV) (z : Int) (a : Option Addr) (n c B : Nat) (hf : NoX xs z) (hin : XIn w a n c xs) (hc : w.cell? ⟨B, 0, none⟩ = some (.int .i64 z)) :
    Calls Try.prog 110 #[.slice a n c, .func (.func 111) #[] #[.pointer (some ⟨B, 0, none⟩)]] w fun e w' => e = .returned (.int .i64 (-1)) ∧ Below w.heap.size w w' := by
  have hm : n ≤ 140737488355328 := hin.2.2.1
  have hl : xs.length = n := hin.1
  have HI := Lib.hid hin
  have HC := Lib.hid hc
  have HL := Lib.hid hl
  have HF := Lib.hid hf
  clear hin hc hl hf
  go_enter Try.func110, Try.ntmps110
  go_wp2
  go_loopw [8] (fun v wr => ∃ j : Nat, v = .int .i64 (j : Nat) ∧ j ≤ n ∧ Below w.heap.size w wr) (fun v _ => n - (intOf v).toNat)
  case atStart => exact ⟨0, rfl, Nat.zero_le _, Below.refl _ _⟩
  case round =>
    obtain ⟨j, rfl, hj, hbel⟩ := hrel
    have HB := Lib.hid hbel
    have HZ := Lib.hid ((hbel.cell (World.block_lt_of_cell? w _ HC.out)).trans HC.out)
    clear hbel
    by_cases hjn : j < n
    · have hji : (j : Int) < (n : Int) := by omega
      obtain ⟨x, hx⟩ : ∃ x, xs[j]? = some x := ⟨xs[j]'(by have := HL.out; omega), List.getElem?_eq_getElem _⟩
      obtain ⟨g, o, rfl, hrow⟩ := HI.out.2.2.2.2.resolve_left (by omega)
      obtain ⟨hxb, a2, c2, hr, _⟩ := hrow.at hx
      have HR := Lib.hid (rangeAt_below hr HB.out)
      have HX := Lib.hid hx
      obtain ⟨m2, hm2⟩ : ∃ q, x.2.2.length = q := ⟨_, rfl⟩
      rw [hm2] at HR
      clear hr hrow hx hm2
      have hq := Lib.hid (show decide (x.1 = z) = false from decide_eq_false (HF.out j x HX.out))
      go_wp2_with (first | (refine ldX rfl (.tmp 14) rfl g (o + j * 3) rfl _ _ _ HR.out ?_) | (go_at_call 111; ((with_reducible refine (isX_any _ _ _ _ _ _ _ _ false hq.out HZ.out).mono ?_); rintro e w2 ⟨rfl, hb2⟩; have HB2 := Lib.hid (HB.out.trans (hb2.mono HB.out.size)); clear hb2)))
      go_roundw
      case rel => exact ⟨j + 1, by go_num, by omega, HB2.out⟩
      case measure => simp [intOf]; omega
    · have hji : ¬ (j : Int) < (n : Int) := by omega
      go_wp2_with fail
      go_ret
      exact ⟨rfl, HB.out⟩

set_option maxRecDepth 100000 in
theorem place_found (w : World) (xs : List XV) (z : Int) (a : Option Addr) (n c : Nat) (i : Nat) (x0 : XV) (hf : FirstX xs z i x0) (hin : XIn w a n c xs) : Calls Try.prog 74 #[.slice a n c, .int .i64 z] w fun e w' => e = .returned (.int .i64 (i : Nat)) ∧ Below w.heap.size w w' := by
  have hmf : ∀ (fn : Fn) (first cap : Array Value) (w : World), (Instr.makeFunc fn first cap).run Try.prog w = .ok (.func fn first cap) w := fun _ _ _ _ => rfl
  have hb := (Below.refl _ w).alloc (Nat.le_refl _) (.cells #[.int .i64 z] 3)
  have HB := Lib.hid hb
  have HC := Lib.hid (blkc (Blk.new w 3 [.int .i64 z]) (i := 0) rfl)
  have HI := Lib.hid (hin.below hb)
  have HF := Lib.hid hf
  clear hb hin hf
  go_enter Try.func74, Try.ntmps74
  generalize hW0 : w.alloc (.cells #[.int .i64 z] 3) = W0 at *
  go_wp2_with (go_at_call 110; (with_reducible refine (index_found _ xs z _ _ _ _ i x0 HF.out HI.out HC.out).mono ?_); rintro e w2 ⟨rfl, hb2⟩; have HB2 := Lib.hid (HB.out.trans (hb2.mono HB.out.size)); clear hb2)
  go_ret
  exact ⟨rfl, HB2.out⟩

set_option maxRecDepth 100000 in
theorem place_none (w : World) (xs : List XV) (z : Int) (a : Option Addr) (n c : Nat) (hf : NoX xs z) (hin : XIn w a n c xs) : Calls Try.prog 74 #[.slice a n c, .int .i64 z] w fun e w' => e = .returned (.int .i64 (-1)) ∧ Below w.heap.size w w' := by
  have hmf : ∀ (fn : Fn) (first cap : Array Value) (w : World), (Instr.makeFunc fn first cap).run Try.prog w = .ok (.func fn first cap) w := fun _ _ _ _ => rfl
  have hb := (Below.refl _ w).alloc (Nat.le_refl _) (.cells #[.int .i64 z] 3)
  have HB := Lib.hid hb
  have HC := Lib.hid (blkc (Blk.new w 3 [.int .i64 z]) (i := 0) rfl)
  have HI := Lib.hid (hin.below hb)
  have HF := Lib.hid hf
  clear hb hin hf
  go_enter Try.func74, Try.ntmps74
  generalize hW0 : w.alloc (.cells #[.int .i64 z] 3) = W0 at *
  go_wp2_with (go_at_call 110; (with_reducible refine (index_none _ xs z _ _ _ _ HF.out HI.out HC.out).mono ?_); rintro e w2 ⟨rfl, hb2⟩; have HB2 := Lib.hid (HB.out.trans (hb2.mono HB.out.size)); clear hb2)
  go_ret
  exact ⟨rfl, HB2.out⟩
end Go.Proofs.Ytbabpmncdphnjaa
namespace Go.Proofs.Ytbabpmncdphnjaa
open Go.RowKit
set_option linter.unusedVariables false
set_option maxRecDepth 100000
set_option linter.unusedSimpArgs false

theorem built65 : Try.prog.built 65 [] = some #[.int .i64 0, .bool false, .slice none 0 0] := by kernel_rfl
/-- what Find answers where there is one: its value in new memory -/
def FoundX (x : XV) (w : World) (e : Ending) (w' : World) : Prop := ∃ a m c, x.2.2.length = m ∧ e = .returned (.tuple #[.agg #[.int .i64 x.1, .bool x.2.1, .slice a m c], .bool true]) ∧ w'.ownsRow w.heap.size 5 1 (.slice a m c) m (bytesV x.2.2) ∧ BIn w' a m c x.2.2 ∧ Below w.heap.size w w'
def SeenX (x : XV) (w : World) (e : Ending) (w' : World) : Prop := ∃ a m c, x.2.2.length = m ∧ e = .returned (.tuple #[.agg #[.int .i64 x.1, .bool x.2.1, .slice a m c], .bool true]) ∧ BIn w' a m c x.2.2 ∧ Below w.heap.size w w'
def NoneX (w : World) (e : Ending) (w' : World) : Prop := e = .returned (.tuple #[.agg #[.int .i64 0, .bool false, .slice none 0 0], .bool false]) ∧ Below w.heap.size w w'
set_option maxRecDepth 100000 in
set_option maxHeartbeats 4000000 in
theorem Find_found (w : World) (sn : Int) (is su : ByteArray) (ka : Option Addr) (kn kc : Nat) (xa : Option Addr) (n xc : Nat) (sa : Option Addr) (sl sc : Nat) (xs : List XV) (z : Int) (i : Nat) (x : XV) (hf : FirstX xs z i x) (hin : XIn w xa n xc xs) : Calls Try.prog 38 #[.agg #[.int .u64 sn, .string is, .string su, .slice ka kn kc, .slice xa n xc, .slice sa sl sc], .int .i64 z] w (FoundX x w) := by
  have hil : i < n := by have h1 := (List.getElem?_eq_some_iff.1 hf.1).1; have h2 := hin.1; omega
  have hnm : n ≤ 140737488355328 := hin.2.2.1
  obtain ⟨g, o, rfl, hrow⟩ := hin.2.2.2.2.resolve_left (by omega)
  obtain ⟨hxb, a2, c2, hr, hbi⟩ := hrow.at hf.1
  obtain ⟨m2, hm2⟩ : ∃ q, x.2.2.length = q := ⟨_, rfl⟩
  rw [hm2] at hr hbi
  have hb := ((Below.refl _ w).alloc (Nat.le_refl _) (.cells #[.int .u64 sn, .string is, .string su, .slice ka kn kc, .slice (some ⟨g, o, none⟩) n xc, .slice sa sl sc] 55)).alloc (by simp) (.cells #[.int .i64 0, .bool false, .slice none 0 0] 65)
  have H00 := Lib.hid hb
  have HI := Lib.hid (hin.below hb)
  have HR := Lib.hid hr
  have HBI := Lib.hid hbi
  have HF := Lib.hid hf
  have HM := Lib.hid hm2
  have HBX := Lib.hid ((Blk.new w 55 [.int .u64 sn, .string is, .string su, .slice ka kn kc, .slice (some ⟨g, o, none⟩) n xc, .slice sa sl sc]).alloc (.cells #[.int .i64 0, .bool false, .slice none 0 0] 65))
  have HRS := Lib.hid (Blk.new2 w (.cells #[.int .u64 sn, .string is, .string su, .slice ka kn kc, .slice (some ⟨g, o, none⟩) n xc, .slice sa sl sc] 55) 65 [.int .i64 0, .bool false, .slice none 0 0])
  have HSZ := Lib.hid (show w.heap.size + 2 ≤ ((w.alloc (.cells #[.int .u64 sn, .string is, .string su, .slice ka kn kc, .slice (some ⟨g, o, none⟩) n xc, .slice sa sl sc] 55)).alloc (.cells #[.int .i64 0, .bool false, .slice none 0 0] 65)).heap.size by simp)
  have hi0 : ¬ (i : Int) < 0 := by omega
  have hi1 : (i : Int) < (n : Int) := by omega
  have HPL := Lib.hid (fun (W : World) (hW : Below ((w.alloc (.cells #[.int .u64 sn, .string is, .string su, .slice ka kn kc, .slice (some ⟨g, o, none⟩) n xc, .slice sa sl sc] 55)).alloc (.cells #[.int .i64 0, .bool false, .slice none 0 0] 65)).heap.size ((w.alloc (.cells #[.int .u64 sn, .string is, .string su, .slice ka kn kc, .slice (some ⟨g, o, none⟩) n xc, .slice sa sl sc] 55)).alloc (.cells #[.int .i64 0, .bool false, .slice none 0 0] 65)) W) => place_found W xs z (some ⟨g, o, none⟩) n xc i x hf ((hin.below hb).below hW))
  clear hb hin hf hr hbi hm2 hrow
  go_enter Try.func38, Try.ntmps38
  generalize hW0 : (w.alloc (.cells #[.int .u64 sn, .string is, .string su, .slice ka kn kc, .slice (some ⟨g, o, none⟩) n xc, .slice sa sl sc] 55)).alloc (.cells #[.int .i64 0, .bool false, .slice none 0 0] 65) = W0 at *
  have k4 := blkc HBX.out (i := 4) rfl
  go_wp2_with (first | (go_at_call 74; (with_reducible refine (HPL.out _ (Below.refl _ _)).mono ?_); rintro e w2 ⟨rfl, hb2⟩; have H02 := Lib.hid (H00.out.trans (hb2.mono H00.out.size)); have HRS := Lib.hid (HRS.out.below' hb2); have k42 := blkc (HBX.out.below' hb2) (i := 4) rfl; have HLE := Lib.hid hb2.size; clear hb2) | (refine ldX rfl (.tmp 18) rfl g (o + i * 3) rfl _ _ _ (rangeAt_below HR.out H02.out) ?_) | (refine wpList_store_row (P := Try.prog) rfl 65 (.tmp 7) (.tmp 19) rfl w2.heap.size #[.int .i64 x.1, .bool x.2.1, .slice a2 m2 c2] rfl rfl 65 _ (Blk.new w2 65 [.int .i64 0, .bool false, .slice none 0 0]) info65 rfl (all_ext _ _ _ _ _) ?_; have hb3 : Gr w2 ((w2.alloc (.cells #[.int .i64 0, .bool false, .slice none 0 0] 65)).setRow w2.heap.size #[.int .i64 x.1, .bool x.2.1, .slice a2 m2 c2]) := below_setRow' (Gr.alloc w2 _) (Nat.le_refl _) _; have HE := Lib.hid ((Blk.new w2 65 [.int .i64 0, .bool false, .slice none 0 0]).setRow [.int .i64 x.1, .bool x.2.1, .slice a2 m2 c2]); have H03 := Lib.hid (H02.out.trans (Below.mono hb3 H02.out.size)); have HRS := Lib.hid (HRS.out.below' hb3); have HG2 := Lib.hid (show w.heap.size + 1 < w2.heap.size from (by { have h1 := HLE.out; have h2 := HSZ.out; omega })); clear hb3; generalize (w2.alloc (.cells #[.int .i64 0, .bool false, .slice none 0 0] 65)).setRow w2.heap.size #[.int .i64 x.1, .bool x.2.1, .slice a2 m2 c2] = w3 at *; have k5 := blkc HE.out (i := 2) rfl) | (go_at_call 75; (with_reducible refine (clone_any a2 m2 c2 x.2.2 _ (HBI.out.below H03.out)).mono ?_); rintro e w4 ⟨v4, rfl, ho4, hb4⟩; rw [HM.out] at ho4; obtain ⟨a4, c4, rfl⟩ := own_slice ho4; have HO := Lib.hid (ownsMono ho4 H03.out.size); have HE := Lib.hid (HE.out.below' hb4); have HRS := Lib.hid (HRS.out.below' hb4); have H04 := Lib.hid (H03.out.trans (Below.mono hb4 H03.out.size)); have k6 := blkc HE.out (i := 2) rfl; have f6 := HE.out.free 2; clear ho4 hb4) | (refine wpList_load_row (P := Try.prog) rfl 65 (.tmp 7) rfl w2.heap.size rfl 65 _ _ _ (HE.out.set 2 (.slice a4 m2 c4)) Try.underlying65 rfl info65 ?_) | (refine wpList_store_row (P := Try.prog) rfl 65 (.tmp 4) (.tmp 24) rfl (w.heap.size + 1) #[.int .i64 x.1, .bool x.2.1, .slice a4 m2 c4] rfl rfl 65 _ (HRS.out.other ⟨w2.heap.size, 2, none⟩ (.slice a4 m2 c4) (show w.heap.size + 1 ≠ w2.heap.size by { have := HG2.out; omega })) info65 rfl (all_ext _ _ _ _ _) ?_))
  have hres := HRS.out.other ⟨w2.heap.size, 2, none⟩ (.slice a4 m2 c4) (show w.heap.size + 1 ≠ w2.heap.size by have := HG2.out; omega)
  have D3 := hres.setRow [.int .i64 x.1, .bool x.2.1, .slice a4 m2 c4]
  have ho5 := own_keep HO.out (w' := w4.setCell ⟨w2.heap.size, 2, none⟩ (.slice a4 m2 c4)) (fun g hg => heap_setCell_other _ _ g _ (own_other HO.out HE.out (by decide) g hg))
  have ho6 := own_set ho5 hres (by decide) #[.int .i64 x.1, .bool x.2.1, .slice a4 m2 c4]
  have hb5 := H04.out.setCell (p := ⟨w2.heap.size, 2, none⟩) (by have := HG2.out; simp; omega) (.slice a4 m2 c4)
  have h8 := HBI.out.1.2.2.1
  obtain ⟨a6, c6, e6, hin6, _⟩ := own_in ho6 h8 (by have := HBI.out.2.2.2.1; omega)
  injection e6 with e1 _ e3
  subst e1 e3
  refine bodyPost_ret (results_two Try.results38 _ _ (w.heap.size + 1) 65 _ (0, 0) _ _ rfl rfl D3 Try.underlying65 rfl info65) rfl ?_
  exact ⟨a4, m2, c4, HM.out, rfl, ho6, hin6, below_setRow' hb5 (by omega) _⟩
set_option maxRecDepth 100000 in
theorem Find_none (w : World) (sn : Int) (is su : ByteArray) (ka : Option Addr) (kn kc : Nat) (xa : Option Addr) (n xc : Nat) (sa : Option Addr) (sl sc : Nat) (xs : List XV) (z : Int) (hf : NoX xs z) (hin : XIn w xa n xc xs) : Calls Try.prog 38 #[.agg #[.int .u64 sn, .string is, .string su, .slice ka kn kc, .slice xa n xc, .slice sa sl sc], .int .i64 z] w (NoneX w) := by
  have hb := ((Below.refl _ w).alloc (Nat.le_refl _) (.cells #[.int .u64 sn, .string is, .string su, .slice ka kn kc, .slice xa n xc, .slice sa sl sc] 55)).alloc (by simp) (.cells #[.int .i64 0, .bool false, .slice none 0 0] 65)
  have H00 := Lib.hid hb
  have HBX := Lib.hid ((Blk.new w 55 [.int .u64 sn, .string is, .string su, .slice ka kn kc, .slice xa n xc, .slice sa sl sc]).alloc (.cells #[.int .i64 0, .bool false, .slice none 0 0] 65))
  have HRS := Lib.hid (Blk.new2 w (.cells #[.int .u64 sn, .string is, .string su, .slice ka kn kc, .slice xa n xc, .slice sa sl sc] 55) 65 [.int .i64 0, .bool false, .slice none 0 0])
  have HPL := Lib.hid (fun (W : World) (hW : Below ((w.alloc (.cells #[.int .u64 sn, .string is, .string su, .slice ka kn kc, .slice xa n xc, .slice sa sl sc] 55)).alloc (.cells #[.int .i64 0, .bool false, .slice none 0 0] 65)).heap.size ((w.alloc (.cells #[.int .u64 sn, .string is, .string su, .slice ka kn kc, .slice xa n xc, .slice sa sl sc] 55)).alloc (.cells #[.int .i64 0, .bool false, .slice none 0 0] 65)) W) => place_none W xs z xa n xc hf ((hin.below hb).below hW))
  have hb0 := built65
  clear hb hin hf
  go_enter Try.func38, Try.ntmps38
  generalize hW0 : (w.alloc (.cells #[.int .u64 sn, .string is, .string su, .slice ka kn kc, .slice xa n xc, .slice sa sl sc] 55)).alloc (.cells #[.int .i64 0, .bool false, .slice none 0 0] 65) = W0 at *
  have k4 := blkc HBX.out (i := 4) rfl
  go_wp2_with (first | (go_at_call 74; (with_reducible refine (HPL.out _ (Below.refl _ _)).mono ?_); rintro e w2 ⟨rfl, hb2⟩; have H02 := Lib.hid (H00.out.trans (hb2.mono H00.out.size)); have HRS := Lib.hid (HRS.out.below' hb2); clear hb2) | (refine wpList_store_row (P := Try.prog) rfl 65 (.tmp 4) (.tmp 14) rfl (w.heap.size + 1) #[.int .i64 0, .bool false, .slice none 0 0] rfl rfl 65 _ HRS.out info65 rfl (all_ext _ _ _ _ _) ?_))
  have D3 := HRS.out.setRow [.int .i64 0, .bool false, .slice none 0 0]
  refine bodyPost_ret (results_two Try.results38 _ _ (w.heap.size + 1) 65 _ (0, 0) _ _ rfl rfl D3 Try.underlying65 rfl info65) rfl ?_
  exact ⟨rfl, below_setRow' H02.out (by omega) _⟩

set_option maxRecDepth 100000 in
set_option maxHeartbeats 4000000 in
theorem refFind_found (w : World) (sn : Int) (is su : ByteArray) (ka : Option Addr) (kn kc : Nat) (xa : Option Addr) (n xc : Nat) (sa : Option Addr) (sl sc : Nat) (xs : List XV) (z : Int) (i : Nat) (x : XV) (hf : FirstX xs z i x) (hin : XIn w xa n xc xs) : Calls Try.prog 39 #[.agg #[.int .u64 sn, .string is, .string su, .slice ka kn kc, .slice xa n xc, .slice sa sl sc], .int .i64 z] w (SeenX x w) := by
  have hb := ((Below.refl _ w).alloc (Nat.le_refl _) (.cells #[.int .u64 sn, .string is, .string su, .slice ka kn kc, .slice xa n xc, .slice sa sl sc] 55)).alloc (by simp) (.cells #[.int .i64 0, .bool false, .slice none 0 0] 65)
  have H00 := Lib.hid hb
  have HI := Lib.hid (hin.below hb)
  have HL := Lib.hid hin.1
  have hnm : n ≤ 140737488355328 := hin.2.2.1
  have HF := Lib.hid hf
  have HBX := Lib.hid ((Blk.new w 55 [.int .u64 sn, .string is, .string su, .slice ka kn kc, .slice xa n xc, .slice sa sl sc]).alloc (.cells #[.int .i64 0, .bool false, .slice none 0 0] 65))
  have HRS := Lib.hid (Blk.new2 w (.cells #[.int .u64 sn, .string is, .string su, .slice ka kn kc, .slice xa n xc, .slice sa sl sc] 55) 65 [.int .i64 0, .bool false, .slice none 0 0])
  have hb0 := built65
  clear hb hin hf
  go_enter Try.func39, Try.ntmps39
  generalize hW0 : (w.alloc (.cells #[.int .u64 sn, .string is, .string su, .slice ka kn kc, .slice xa n xc, .slice sa sl sc] 55)).alloc (.cells #[.int .i64 0, .bool false, .slice none 0 0] 65) = W0 at *
  go_wp2_with fail
  go_loopw [6] (fun v wr => ∃ j : Nat, v = .int .i64 (j : Nat) ∧ j ≤ i ∧ Below W0.heap.size W0 wr) (fun v _ => n - (intOf v).toNat)
  case atStart => exact ⟨0, rfl, Nat.zero_le _, Below.refl _ _⟩
  case round =>
    obtain ⟨j, rfl, hj, hbel⟩ := hrel
    have HB := Lib.hid hbel
    have k4 := blkc (HBX.out.below' hbel) (i := 4) rfl
    have HRSr := Lib.hid (HRS.out.below' hbel)
    have HBr := Lib.hid (H00.out.trans (hbel.mono H00.out.size))
    clear hbel
    by_cases hjn : j < n
    · have hji : (j : Int) < (n : Int) := by omega
      obtain ⟨y, hy⟩ : ∃ y, xs[j]? = some y := ⟨xs[j]'(by have := HL.out; omega), List.getElem?_eq_getElem _⟩
      obtain ⟨g, o, rfl, hrow⟩ := HI.out.2.2.2.2.resolve_left (by omega)
      obtain ⟨hxb, a2, c2, hr, hbi⟩ := hrow.at hy
      have hrr := rangeAt_below hr HB.out
      have kx : wr.cell? ⟨g, o + j * 3 + 0, none⟩ = some (.int .i64 y.1) := hrr 0 _ rfl
      rw [Nat.add_zero] at kx
      have HR := Lib.hid hrr
      have HX := Lib.hid hy
      obtain ⟨m2, hm2⟩ : ∃ q, y.2.2.length = q := ⟨_, rfl⟩
      have HM := Lib.hid hm2
      rw [hm2] at HR hbi
      have HBI := Lib.hid (hbi.below HB.out)
      clear hr hrow hy hm2 hrr hbi
      by_cases hji2 : j = i
      · subst hji2
        have he : y = x := by have := HF.out.1; rw [HX.out] at this; injection this
        subst he
        have hq : (y.1 == z) = true := by simpa using HF.out.2.1
        have hq2 : y.1 = z := HF.out.2.1
        have HQ2 := Lib.hid hq2
        clear hq2
        go_wp2_with (first | (refine ldX rfl (.tmp 25) rfl g (o + j * 3) rfl _ _ _ HR.out ?_) | (refine wpList_store_row (P := Try.prog) rfl 65 (.tmp 4) (.tmp 26) rfl (w.heap.size + 1) #[.int .i64 y.1, .bool y.2.1, .slice a2 m2 c2] rfl rfl 65 _ HRSr.out info65 rfl (all_ext _ _ _ _ _) ?_))
        have D3 := HRSr.out.setRow [.int .i64 y.1, .bool y.2.1, .slice a2 m2 c2]
        refine bodyPost_ret (results_two Try.results39 _ _ (w.heap.size + 1) 65 _ (0, 0) _ _ rfl rfl D3 Try.underlying65 rfl info65) rfl ?_
        exact ⟨a2, m2, c2, HM.out, rfl, HBI.out.rowK HRSr.out (by intro v hv z; simp at hv; rcases hv with rfl | rfl | rfl <;> simp) _, below_setRow' HBr.out (by omega) _⟩
      · have hq : (y.1 == z) = false := by simpa using HF.out.2.2 j y (by omega) HX.out
        have hq2 : ¬ y.1 = z := HF.out.2.2 j y (by omega) HX.out
        go_wp2_with fail
        go_roundw
        case rel => exact ⟨j + 1, by go_num, by omega, HB.out⟩
        case measure => simp [intOf]; omega
    · have hji : ¬ (j : Int) < (n : Int) := by omega
      have h1 := (List.getElem?_eq_some_iff.1 HF.out.1).1
      have h2 := HL.out
      exfalso; omega

set_option maxRecDepth 100000 in
set_option maxHeartbeats 4000000 in
theorem refFind_none (w : World) (sn : Int) (is su : ByteArray) (ka : Option Addr) (kn kc : Nat) (xa : Option Addr) (n xc : Nat) (sa : Option Addr) (sl sc : Nat) (xs : List XV) (z : Int) (hf : NoX xs z) (hin : XIn w xa n xc xs) : Calls Try.prog 39 #[.agg #[.int .u64 sn, .string is, .string su, .slice ka kn kc, .slice xa n xc, .slice sa sl sc], .int .i64 z] w (NoneX w) := by
  have hb := ((Below.refl _ w).alloc (Nat.le_refl _) (.cells #[.int .u64 sn, .string is, .string su, .slice ka kn kc, .slice xa n xc, .slice sa sl sc] 55)).alloc (by simp) (.cells #[.int .i64 0, .bool false, .slice none 0 0] 65)
  have H00 := Lib.hid hb
  have HI := Lib.hid (hin.below hb)
  have HL := Lib.hid hin.1
  have hnm : n ≤ 140737488355328 := hin.2.2.1
  have HF := Lib.hid hf
  have HBX := Lib.hid ((Blk.new w 55 [.int .u64 sn, .string is, .string su, .slice ka kn kc, .slice xa n xc, .slice sa sl sc]).alloc (.cells #[.int .i64 0, .bool false, .slice none 0 0] 65))
  have HRS := Lib.hid (Blk.new2 w (.cells #[.int .u64 sn, .string is, .string su, .slice ka kn kc, .slice xa n xc, .slice sa sl sc] 55) 65 [.int .i64 0, .bool false, .slice none 0 0])
  have hb0 := built65
  clear hb hin hf
  go_enter Try.func39, Try.ntmps39
  generalize hW0 : (w.alloc (.cells #[.int .u64 sn, .string is, .string su, .slice ka kn kc, .slice xa n xc, .slice sa sl sc] 55)).alloc (.cells #[.int .i64 0, .bool false, .slice none 0 0] 65) = W0 at *
  go_wp2_with fail
  go_loopw [6] (fun v wr => ∃ j : Nat, v = .int .i64 (j : Nat) ∧ j ≤ n ∧ Below W0.heap.size W0 wr) (fun v _ => n - (intOf v).toNat)
  case atStart => exact ⟨0, rfl, Nat.zero_le _, Below.refl _ _⟩
  case round =>
    obtain ⟨j, rfl, hj, hbel⟩ := hrel
    have HB := Lib.hid hbel
    have k4 := blkc (HBX.out.below' hbel) (i := 4) rfl
    have HRSr := Lib.hid (HRS.out.below' hbel)
    have HBr := Lib.hid (H00.out.trans (hbel.mono H00.out.size))
    clear hbel
    by_cases hjn : j < n
    · have hji : (j : Int) < (n : Int) := by omega
      obtain ⟨y, hy⟩ : ∃ y, xs[j]? = some y := ⟨xs[j]'(by have := HL.out; omega), List.getElem?_eq_getElem _⟩
      obtain ⟨g, o, rfl, hrow⟩ := HI.out.2.2.2.2.resolve_left (by omega)
      obtain ⟨hxb, a2, c2, hr, hbi⟩ := hrow.at hy
      have hrr := rangeAt_below hr HB.out
      have kx : wr.cell? ⟨g, o + j * 3 + 0, none⟩ = some (.int .i64 y.1) := hrr 0 _ rfl
      rw [Nat.add_zero] at kx
      have HR := Lib.hid hrr
      have HX := Lib.hid hy
      obtain ⟨m2, hm2⟩ : ∃ q, y.2.2.length = q := ⟨_, rfl⟩
      have HM := Lib.hid hm2
      rw [hm2] at HR hbi
      have HBI := Lib.hid (hbi.below HB.out)
      clear hr hrow hy hm2 hrr hbi
      have hq : (y.1 == z) = false := by simpa using HF.out j y HX.out
      have hq2 : ¬ y.1 = z := HF.out j y HX.out
      go_wp2_with fail
      go_roundw
      case rel => exact ⟨j + 1, by go_num, by omega, HB.out⟩
      case measure => simp [intOf]; omega
    · have hji : ¬ (j : Int) < (n : Int) := by omega
      go_wp2_with (refine wpList_store_row (P := Try.prog) rfl 65 (.tmp 4) (.tmp 27) rfl (w.heap.size + 1) #[.int .i64 0, .bool false, .slice none 0 0] rfl rfl 65 _ HRSr.out info65 rfl (all_ext _ _ _ _ _) ?_)
      have D3 := HRSr.out.setRow [.int .i64 0, .bool false, .slice none 0 0]
      refine bodyPost_ret (results_two Try.results39 _ _ (w.heap.size + 1) 65 _ (0, 0) _ _ rfl rfl D3 Try.underlying65 rfl info65) rfl ?_
      exact ⟨rfl, below_setRow' HBr.out (by omega) _⟩
end Go.Proofs.Ytbabpmncdphnjaa
