/- Pieces cut out of a list: the project's function and the document's answer the same bytes in new memory, or refuse. -/
import Derived.Test.YtgoackkmjfgneaaUp
import Derived.Test.YtgoackkmjfgneaaMem
namespace Go.Proofs.Ytgoackkmjfgneaa
open Go.RowKit
set_option linter.unusedVariables false

set_option maxHeartbeats 400000 in
theorem cut20_no (a : Option Addr) (n c f s : Nat) (w : World) (hn : n ≤ 140737488355328) (h : n < f + s) :
    Calls Try.prog 20 #[.slice a n c, .int .u64 (f : Nat), .int .u64 (s : Nat)] w (fun e w' => e = .returned (.tuple #[.slice none 0 0, .int .i64 11]) ∧ w = w') := by
  go_enter Try.func20, Try.ntmps20
  go_wp2_with fail
  refine (fits_no f s n _ (by omega) h).1.mono ?_
  rintro e w' ⟨rfl, rfl⟩
  go_wp2
  go_ret2
  exact ⟨rfl, rfl⟩
set_option maxHeartbeats 400000 in
theorem cut22_no (a : Option Addr) (n c f s : Nat) (w : World) (hn : n ≤ 140737488355328) (h : n < f + s) :
    Calls Try.prog 22 #[.slice a n c, .int .u64 (f : Nat), .int .u64 (s : Nat)] w (fun e w' => e = .returned (.tuple #[.slice none 0 0, .int .i64 11]) ∧ w = w') := by
  go_enter Try.func22, Try.ntmps22
  go_wp2_with fail
  refine (fits_no f s n _ (by omega) h).2.mono ?_
  rintro e w' ⟨rfl, rfl⟩
  go_wp2
  go_ret2
  exact ⟨rfl, rfl⟩

/-- what a call answers that made a list of these bytes, with OK -/
def MadeOk (l : List Nat) (w : World) (e : Ending) (w' : World) : Prop := ∃ v, e = .returned (.tuple #[v, .int .i64 0]) ∧ w'.ownsRow w.heap.size 5 1 v l.length (bytesV l) ∧ Below w.heap.size w w'

theorem bin_sub {w : World} {b off n c f s : Nat} {l : List Nat} (h : BIn w (some ⟨b, off, none⟩) n c l) (hn : 0 < n) (hf : f + s ≤ n) : BIn w (some ⟨b, off + f, none⟩) s (c - f) ((l.drop f).take s) := by
  obtain ⟨⟨h1, h2, h3, h4⟩, h5, h6, h7, h8⟩ := h
  obtain ⟨b', o', he, hc⟩ := h4.resolve_left (by omega)
  injection he with he
  injection he with e1 e2
  subst e1 e2
  refine ⟨⟨by simp; omega, by omega, fun x hx => h3 x (List.mem_of_mem_drop (List.mem_of_mem_take hx)), .inr ⟨b, off + f, rfl, fun i hi => ?_⟩⟩, by omega, by omega, by omega, fun h => by cases h⟩
  have := hc (f + i) (by omega)
  rw [← Nat.add_assoc] at this
  rw [this]
  congr 3
  simp only [List.getD_eq_getElem?_getD, List.getElem?_take, List.getElem?_drop]
  rw [if_pos hi]
theorem bin_empty (w : World) (a : Option Addr) (c : Nat) (hc : c ≤ maxLen) (h : a = none → c = 0) : BIn w a 0 c [] := ⟨⟨rfl, Nat.zero_le _, by simp, .inl rfl⟩, Nat.zero_le _, hc, by omega, h⟩
theorem cut_none {l : List Nat} (f : Nat) : (l.drop f).take 0 = [] := rfl

set_option maxHeartbeats 400000 in
theorem cut20_yes (a : Option Addr) (n c f s : Nat) (l : List Nat) (w : World) (hb : BIn w a n c l) (h : f + s ≤ n) :
    Calls Try.prog 20 #[.slice a n c, .int .u64 (f : Nat), .int .u64 (s : Nat)] w (MadeOk ((l.drop f).take s) w) := by
  have HB := Lib.hid hb
  have h1 := hb.2.1
  have h2 := hb.2.2.1
  have h3 := hb.2.2.2.1
  unfold maxLen at h2
  by_cases hcf : c = f
  · subst hcf
    obtain rfl : s = 0 := by omega
    clear hb
    go_enter Try.func20, Try.ntmps20
    go_wp2_with fail
    refine (fits_yes c 0 n _ (by omega) h).1.mono ?_
    rintro e w' ⟨rfl, rfl⟩
    go_wp2_with fail
    refine (clone37 _ _ _ _ _ (bin_empty w a 0 (by decide) (fun _ => rfl))).mono ?_
    rintro e w' ⟨v, rfl, hown, hbel⟩
    go_wp2
    go_ret2
    exact ⟨v, rfl, hown, hbel⟩
  · by_cases hn : n = 0
    · subst hn
      obtain rfl : s = 0 := by omega
      obtain rfl : f = 0 := by omega
      clear hb
      go_enter Try.func20, Try.ntmps20
      go_wp2_with fail
      refine (fits_yes 0 0 0 _ (by omega) h).1.mono ?_
      rintro e w' ⟨rfl, rfl⟩
      go_wp2_with fail
      refine (clone37 _ _ _ _ _ (bin_empty w a c HB.out.2.2.1 HB.out.2.2.2.2)).mono ?_
      rintro e w' ⟨v, rfl, hown, hbel⟩
      go_wp2
      go_ret2
      exact ⟨v, rfl, hown, hbel⟩
    · obtain ⟨b, off, rfl, _⟩ := hb.1.2.2.2.resolve_left hn
      clear hb
      go_enter Try.func20, Try.ntmps20
      go_wp2_with fail
      refine (fits_yes f s n _ (by omega) h).1.mono ?_
      rintro e w' ⟨rfl, rfl⟩
      go_wp2_with fail
      refine (clone37 _ _ _ _ _ (bin_sub HB.out (by omega) h)).mono ?_
      rintro e w' ⟨v, rfl, hown, hbel⟩
      go_wp2
      go_ret2
      exact ⟨v, rfl, hown, hbel⟩

set_option maxHeartbeats 400000 in
theorem cut22_yes (a : Option Addr) (n c f s : Nat) (l : List Nat) (w : World) (hb : BIn w a n c l) (h : f + s ≤ n) :
    Calls Try.prog 22 #[.slice a n c, .int .u64 (f : Nat), .int .u64 (s : Nat)] w (MadeOk ((l.drop f).take s) w) := by
  have HB := Lib.hid hb
  have h1 := hb.2.1
  have h2 := hb.2.2.1
  have h3 := hb.2.2.2.1
  unfold maxLen at h2
  by_cases hcf : c = f
  · subst hcf
    obtain rfl : s = 0 := by omega
    clear hb
    go_enter Try.func22, Try.ntmps22
    go_wp2_with fail
    refine (fits_yes c 0 n _ (by omega) h).2.mono ?_
    rintro e w' ⟨rfl, rfl⟩
    go_wp2_with (at_builtin; refine wpList_append_bytes _ rfl (.tmp 17) (.tmp 23) rfl w.heap.size _ 0 [] rfl (zero_row w) a 0 0 [] rfl (bin_empty _ a 0 (by decide) (fun _ => rfl)) (by omega) (by simp) ?_)
    intro v' w' hown hg
    go_wp2
    go_ret2
    exact ⟨v', rfl, by simpa using hown, ((Below.refl _ _).alloc (Nat.le_refl _) _).grown hg (by simp) (by simp [Value.ownBlock])⟩
  · by_cases hn : n = 0
    · subst hn
      obtain rfl : s = 0 := by omega
      obtain rfl : f = 0 := by omega
      clear hb
      go_enter Try.func22, Try.ntmps22
      go_wp2_with fail
      refine (fits_yes 0 0 0 _ (by omega) h).2.mono ?_
      rintro e w' ⟨rfl, rfl⟩
      go_wp2_with (at_builtin; refine wpList_append_bytes _ rfl (.tmp 17) (.tmp 23) rfl w.heap.size _ 0 [] rfl (zero_row w) a 0 c [] rfl (bin_empty _ a c HB.out.2.2.1 HB.out.2.2.2.2) (by omega) (by simp) ?_)
      intro v' w' hown hg
      go_wp2
      go_ret2
      exact ⟨v', rfl, by simpa using hown, ((Below.refl _ _).alloc (Nat.le_refl _) _).grown hg (by simp) (by simp [Value.ownBlock])⟩
    · obtain ⟨b, off, rfl, _⟩ := hb.1.2.2.2.resolve_left hn
      have hll : l.length = n := hb.1.1
      have HFS := Lib.hid (show f + s - f = s by omega)
      have HL := Lib.hid (show ((l.drop f).take s).length = s by simp; omega)
      clear hb hll
      go_enter Try.func22, Try.ntmps22
      go_wp2_with fail
      refine (fits_yes f s n _ (by omega) h).2.mono ?_
      rintro e w' ⟨rfl, rfl⟩
      go_wp2_with (at_builtin; refine wpList_append_bytes _ rfl (.tmp 17) (.tmp 23) rfl w.heap.size _ 0 [] rfl (zero_row w) (some ⟨b, off + f, none⟩) (f + s - f) (c - f) ((l.drop f).take s) rfl (by rw [HFS.out]; exact (bin_sub HB.out (by omega) h).below ((Below.refl _ _).alloc (Nat.le_refl _) _)) (by omega) (by simp) ?_)
      intro v' w' hown hg
      go_wp2
      go_ret2
      exact ⟨v', rfl, by rw [HL.out]; exact hown, ((Below.refl _ _).alloc (Nat.le_refl _) _).grown hg (by simp) (by simp [Value.ownBlock])⟩
end Go.Proofs.Ytgoackkmjfgneaa
