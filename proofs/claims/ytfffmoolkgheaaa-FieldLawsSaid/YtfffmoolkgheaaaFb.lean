/- A modulus in memory, and plain arithmetic of the two moduli. No condition. -/
import Derived.Test.YtfffmoolkgheaaaA
import Derived.Test.YtfffmoolkgheaaaPm
import Derived.Test.YtfffmoolkgheaaaAw
import Derived.Test.YtfffmoolkgheaaaG
import Derived.Test.YtfffmoolkgheaaaDr
namespace Go.Proofs.Ytfffmoolkgheaaa
open Go.RowKit
set_option linter.unusedVariables false
set_option linter.unusedSimpArgs false
set_option maxRecDepth 100000
/-- a modulus as the project has it: its words and its factor -/
def primL (lm : List Nat) (f : Nat) : List Value := natsV .u64 lm ++ [.int .u32 (f : Nat)]
theorem primL_len (lm : List Nat) (f : Nat) (h : lm.length = 4) : (primL lm f).length = 5 := by simp [primL, natsV_length, h]
theorem primL_one (lm : List Nat) (f : Nat) : (primL lm f).toArray.all (·.oneCell') = true := Array.all_eq_true_iff_forall_mem.2 (fun v hv => by
  have hv' : v ∈ natsV .u64 lm ++ [.int .u32 (f : Nat)] := by simpa [primL] using hv
  rcases List.mem_append.1 hv' with h | h
  · exact natsV_one _ _ v h
  · have := List.mem_singleton.1 h; subst this; rfl)
theorem info83 : (Try.prog.info? 83).map (·.size) = some 5 := by kernel_rfl
theorem primL_range {w : World} {g : Nat} {lm : List Nat} {f : Nat} (h : Blk w g 83 (primL lm f)) : w.rangeAt g 0 (natsV .u64 lm) := by
  intro j v hv
  have hj : j < (natsV .u64 lm).length := (List.getElem?_eq_some_iff.1 hv).1
  rw [Nat.zero_add, h.cell, primL, List.getElem?_append_left hj]
  exact hv
theorem primL_fac {w : World} {g : Nat} {lm : List Nat} {f : Nat} (h : Blk w g 83 (primL lm f)) (hl : lm.length = 4) : w.cell? ⟨g, 4, none⟩ = some (.int .u32 (f : Nat)) := by
  rw [h.cell, primL, List.getElem?_append_right (by rw [natsV_length, hl]; exact Nat.le_refl _)]
  rw [natsV_length, hl]; rfl
section
variable {w : World} {ops : Array Oper} {rest : List Oper} {o : Oper} {a : Act} {Q : Exit → Act → World → Prop}
theorem ld83 (hgd : o.guard = none) (x : Operand) (ho : o.op = .load 83 x) (g : Nat) (hx : a.eval x = .pointer (some ⟨g, 0, none⟩)) (cs : List Value) (hg : Blk w g 83 cs) (hl : cs.length = 5)
    (h : wpList Try.prog ops Q rest (a.put o.dst (.agg cs.toArray)) w) : wpList Try.prog ops Q (o :: rest) a w :=
  wpList_load_row hgd 83 x ho g hx 83 cs.toArray (0, 0) _ hg Try.underlying83 rfl (by rw [info83]; simp [hl]) h
theorem ldm (hgd : o.guard = none) (x : Operand) (ho : o.op = .load 24 x) (g : Nat) (hx : a.eval x = .pointer (some ⟨g, 0, none⟩)) (lm : List Nat) (f : Nat) (hg : Blk w g 83 (primL lm f)) (hl : lm.length = 4)
    (h : wpList Try.prog ops Q rest (a.put o.dst (.agg (natsV .u64 lm).toArray)) w) : wpList Try.prog ops Q (o :: rest) a w :=
  wpList_load_mid hgd 24 x ho g 0 hx (natsV .u64 lm) _ (primL_range hg) Try.underlying24 rfl (by rw [info24, natsV_length, hl]) h
theorem st83 (hgd : o.guard = none) (x y : Operand) (ho : o.op = .store 83 x y) (g : Nat) (hx : a.eval x = .pointer (some ⟨g, 0, none⟩)) (cs : List Value) (hy : a.eval y = .agg cs.toArray) (hl : cs.length = 5 ∧ cs.toArray.all (·.oneCell') = true) (old : List Value) (hg : Blk w g 83 old) (ho4 : old.length = 5)
    (h : wpList Try.prog ops Q rest (a.put o.dst undef) (w.setRow g cs.toArray)) : wpList Try.prog ops Q (o :: rest) a w :=
  wpList_store_row hgd 83 x y ho g cs.toArray hx hy 83 old.toArray hg (by rw [info83]; simp [hl.1]) (by simp [hl.1, ho4]) hl.2 h
end
theorem ret83x {fn : Func} {p q : Tmp} (h : fn.results = #[.cell p 83, .tmp q]) (tmps : Array Value) (w : World) (g : Nat) (cs : List Value) (v : Value) (hp : tmps.getD p undef = .pointer (some ⟨g, 0, none⟩)) (hv : tmps.getD q undef = v) (hg : Blk w g 83 cs) (hl : cs.length = 5) :
    (results fn tmps).run Try.prog w = .ok (.tuple #[.agg cs.toArray, v]) w :=
  results_two h tmps w g 83 _ (0, 0) _ v hp hv hg Try.underlying83 rfl (by rw [info83]; simp [hl])
/-- m is a prime of 256 bits, f what turns it into -1 modulo 2^32, v what turns 2^256 into 1 modulo m -/
structure Fld (m f v : Nat) : Prop where
  lt : m < 2 ^ 256
  gt : 2 ^ 255 < m
  fl : f < 4294967296
  neg : (m * f + 1) % 4294967296 = 0
  inv : v * 2 ^ 256 % m = 1
  prime : IsPrime m
def fN : Nat := 3993025615
def vP : Nat := 115792089183396302114378112356516095823261736990586219612555396166510339686400
def vN : Nat := 43790243014242295660885426880012836369732278457577312309071968676491870960761
theorem fld_P : Fld mP 1 vP := ⟨by decide +kernel, by decide +kernel, by decide +kernel, by decide +kernel, by decide +kernel, prime_mP⟩
theorem fld_N : Fld mN fN vN := ⟨by decide +kernel, by decide +kernel, by decide +kernel, by decide +kernel, by decide +kernel, prime_mN⟩
/-- what a whole number's form and the number of a form are -/
def toF (m x : Nat) : Nat := x * 2 ^ 256 % m
def ofF (m v x : Nat) : Nat := x * v % m
theorem Fld.pos {m f v : Nat} (h : Fld m f v) : 0 < m := by have := h.gt; omega
theorem mulmod_left (a b m : Nat) : a % m * b % m = a * b % m := by rw [Nat.mul_mod, Nat.mod_mod, ← Nat.mul_mod]
theorem mulmod_right (a b m : Nat) : a * (b % m) % m = a * b % m := by rw [Nat.mul_mod, Nat.mod_mod, ← Nat.mul_mod]
theorem Fld.of_to {m f v : Nat} (h : Fld m f v) (x : Nat) : ofF m v (toF m x) = x % m := by
  unfold ofF toF
  rw [mulmod_left, Nat.mul_assoc, Nat.mul_comm (2 ^ 256) v, ← mulmod_right, h.inv, Nat.mul_one]
theorem Fld.to_of {m f v : Nat} (h : Fld m f v) (x : Nat) : toF m (ofF m v x) = x % m := by
  unfold ofF toF
  rw [mulmod_left, Nat.mul_assoc, ← mulmod_right, h.inv, Nat.mul_one]
theorem toF_lt {m f v : Nat} (h : Fld m f v) (x : Nat) : toF m x < m := Nat.mod_lt _ h.pos
theorem ofF_lt {m f v : Nat} (h : Fld m f v) (x : Nat) : ofF m v x < m := Nat.mod_lt _ h.pos
end Go.Proofs.Ytfffmoolkgheaaa
