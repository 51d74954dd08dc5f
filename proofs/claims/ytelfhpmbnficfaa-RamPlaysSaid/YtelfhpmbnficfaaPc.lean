/- The program's bytes: placed, loaded, stored, fetched, wiped; a new memory. No condition. -/
import Derived.Test.YtelfhpmbnficfaaPb
namespace Go.Proofs.Ytelfhpmbnficfaa
open Go.RowKit
set_option linter.unusedVariables false
set_option maxRecDepth 100000
set_option linter.unusedSimpArgs false
/-- bytes laid over others -/
def putM (m : List Nat) (o : Nat) (b : List Nat) : List Nat := m.take o ++ (b ++ m.drop (o + b.length))
theorem putM_ok {m b : List Nat} {o : Nat} (k : MOk m) (hb : ∀ x ∈ b, x < 256) (h : o + b.length ≤ 65536) : MOk (putM m o b) := by
  refine ⟨by unfold putM; rw [List.length_append, List.length_append, List.length_take, List.length_drop, k.ln]; omega, fun x hx => ?_⟩
  unfold putM at hx
  rcases List.mem_append.1 hx with hx | hx
  · exact k.bd x (List.mem_of_mem_take hx)
  · rcases List.mem_append.1 hx with hx | hx
    · exact hb x hx
    · exact k.bd x (List.mem_of_mem_drop hx)
theorem putM_get {m b : List Nat} {o : Nat} (k : MOk m) (h : o + b.length ≤ 65536) (i : Nat) (hi : i < 65536) : (putM m o b).getD i 0 = if o ≤ i ∧ i < o + b.length then b.getD (i - o) 0 else m.getD i 0 := by
  unfold putM
  have hl : (m.take o).length = o := by rw [List.length_take, k.ln]; omega
  simp only [List.getD_eq_getElem?_getD]
  by_cases h1 : i < o
  · rw [if_neg (by omega), List.getElem?_append_left (by omega), List.getElem?_take, if_pos h1]
  · rw [List.getElem?_append_right (by omega), hl]
    by_cases h2 : i < o + b.length
    · rw [if_pos (by omega), List.getElem?_append_left (by omega)]
    · rw [if_neg (by omega), List.getElem?_append_right (by omega), List.getElem?_drop, show o + b.length + (i - o - b.length) = i by omega]
theorem splice_put (m b : List Nat) (v : Value) (o : Nat) (hm : m.length = 65536) (h : o + b.length ≤ 65536) : splice (natsV .u8 m ++ [v]) o (bytesV b) = natsV .u8 (putM m o b) ++ [v] := by
  have hb : (bytesV b).length = b.length := by simp [bytesV]
  have e : bytesV b = natsV .u8 b := rfl
  unfold splice putM
  rw [hb, e, List.take_append_of_le_length (by rw [natsV_length]; omega), List.drop_append_of_le_length (by rw [natsV_length]; omega), natsV_take, natsV_drop, natsV_append, natsV_append]
  simp [List.append_assoc]
/-- what placing leaves -/
def plM (m : List Nat) (p : Nat) (b : List Nat) : List Nat := if wiB p b.length = true then putM m (p - 1073741824) b else m
theorem plM_ok {m b : List Nat} {p : Nat} (k : MOk m) (hb : ∀ x ∈ b, x < 256) : MOk (plM m p b) := by
  unfold plM
  split
  · rename_i h
    have h2 := of_decide_eq_true h
    exact putM_ok k hb (by omega)
  · exact k
set_option maxHeartbeats 3200000 in
theorem place_any (base a p n cb : Nat) (B : Option Addr) (b m : List Nat) (t : List Reg) (A : Option Addr) (c : Nat) (w : World) (hp : PAt w base a m t A c) (km : MOk m) (hba : base ≤ a) (hpu : U64 p) (hB : BIn w B n cb b) :
    Calls Try.prog 18 #[.pointer (some ⟨a, 0, none⟩), .int .u64 (p : Nat), .slice B n cb] w (PDone base a (.int .i64 (clE p n)) (plM m p b) t w) := by
  have hn := hB.1.1
  have hn47 := hB.2.2.2.1
  have hC := closed_any a p n w hpu (by unfold U64; omega)
  have HP := Lib.hid hp
  have hcv : IntKind.u64.wrap (n : Int) = (n : Int) := u64w rfl (by omega)
  by_cases hw : wiB p n = true
  · have h2 := of_decide_eq_true hw
    have e1 : clE p n = 0 := by unfold clE; rw [if_pos hw]
    have e2 : plM m p b = putM m (p - 1073741824) b := by unfold plM; rw [hn, if_pos hw]
    rw [e1] at hC ⊢
    rw [e2]
    obtain ⟨o, ho⟩ : ∃ o, p - 1073741824 = o := ⟨_, rfl⟩
    rw [ho]
    have hwo : IntKind.u64.wrap ((p : Int) - 1073741824) = (o : Int) := u64w (by omega) (by unfold U64 at hpu; omega)
    have HC := Lib.hid hC
    have HS := Lib.hid (fun w => slice_lo w a o (by omega))
    have hcs : (bytesV b).length = Nat.min n (65536 - o) := by rw [show (bytesV b).length = n by simp [bytesV]; exact hn]; simp only [Nat.min_def]; split <;> omega
    have hpos : 0 < (bytesV b).length → (some ⟨a, oo o, none⟩ : Option Addr) = some ⟨a, o, none⟩ ∧ ∃ ad, B = some ad ∧ ∀ j v, (bytesV b)[j]? = some v → w.cell? (ad.add j) = some v := fun h0 => by
      have hbl : (bytesV b).length = n := by simp [bytesV]; exact hn
      refine ⟨by unfold oo; rw [if_neg (by omega)], ?_⟩
      obtain ⟨bb, off, hA, hc⟩ := hB.1.2.2.2.resolve_left (by omega)
      refine ⟨_, hA, fun j v hj => ?_⟩
      have hjl := (List.getElem?_eq_some_iff.1 hj).1
      rw [hbl] at hjl
      rw [Addr.add_mid, hc j hjl, ← hj]
      simp [bytesV, List.getD_eq_getElem?_getD, List.getElem?_eq_getElem (show j < b.length by omega)]
    have HCS := Lib.hid hcs
    have HPOS := Lib.hid hpos
    have HFIT := Lib.hid (show o + (bytesV b).length ≤ (natsV .u8 m ++ [Value.slice A t.length c]).length from by rw [List.length_append, natsV_length, km.ln, show (bytesV b).length = n by simp [bytesV]; exact hn]; simp; omega)
    have HSP := Lib.hid (splice_put m b (Value.slice A t.length c) o km.ln (by omega))
    have HONE := Lib.hid (show ∀ v ∈ bytesV b, v.oneCell' = true from fun v hv => natsV_one .u8 b v hv)
    have HBA := Lib.hid hba
    clear e1 e2 hC hw h2 ho hp km hpu hba hB hn hcs hpos
    go_enter Try.func18, Try.ntmps18
    go_wp2_with (go_at_call 31; (try rw [hcv]); refine HC.out.mono ?_; rintro e w9 ⟨rfl, rfl⟩)
    try rw [HS.out]
    go_wp2_with (refine wpList_copy_blk rfl (.tmp 22) (.tmp 23) 36 36 rfl 5 Try.underlying36 (by kernel_rfl) (some ⟨a, oo o, none⟩) B (65536 - o) (65536 - o) n cb rfl rfl a o _ 61 HP.out.blk (bytesV b) HCS.out HPOS.out HFIT.out HONE.out ?_; intro w2 hb2 hg2)
    rw [HSP.out] at hb2
    have HFIN := Lib.hid (show PAt w2 base a (putM m o b) t A c from ⟨hb2, own_grown HP.out.row hg2 (fun q hq e => by
      obtain ⟨sp, hbq, _⟩ := own_is HP.out.row hq
      injection e with e
      exact blk_ne HP.out.blk hbq (by decide) e)⟩)
    have HFR := Lib.hid (show FrT base tyP w w2 from FrT.grown HP.out.blk HBA.out (by decide) hg2)
    clear hb2 hg2
    go_wp2_with fail
    go_ret
    exact ⟨rfl, ⟨_, _, HFIN.out⟩, HFR.out⟩
  · have e1 : clE p n = 161 := by unfold clE; rw [if_neg hw]
    have e2 : plM m p b = m := by unfold plM; rw [hn, if_neg hw]
    rw [e1] at hC ⊢
    rw [e2]
    have HC := Lib.hid hC
    clear e1 e2 hC hw hp km hpu hba hB hn
    go_enter Try.func18, Try.ntmps18
    go_wp2_with (go_at_call 31; (try rw [hcv]); refine HC.out.mono ?_; rintro e w9 ⟨rfl, rfl⟩)
    go_ret
    exact PDone.same HP.out (Below.refl _ _)
theorem place_nil (x : Value) (B : Option Addr) (n cb : Nat) (w : World) : Calls Try.prog 18 #[.pointer none, x, .slice B n cb] w fun e w' => e = .returned (.int .i64 1) ∧ w = w' := by
  go_enter Try.func18, Try.ntmps18
  go_wp2_with (go_at_call 31; refine (closed_nil _ _ w).mono ?_; rintro e w9 ⟨rfl, rfl⟩)
  go_ret
  exact ⟨rfl, rfl⟩
theorem clE_of {t : List Reg} {sec : Bool} {ac : Int} {p s : Nat} (h : mayE t sec ac p s = 0) : clE p s = 0 ∧ wiB p s = true := by
  have := (mayE_ok h).1
  exact ⟨by unfold clE; rw [if_pos this], this⟩
/-- what Load and Fetch read -/
def ldL (m : List Nat) (t : List Reg) (sec : Bool) (ac : Int) (p s : Nat) : List Nat := if mayE t sec ac p s = 0 then (m.drop (p - 1073741824)).take s else []
set_option maxHeartbeats 1600000 in
theorem load_any (base a p s : Nat) (sec : Bool) (m : List Nat) (t : List Reg) (A : Option Addr) (c : Nat) (w : World) (hp : PAt w base a m t A c) (km : MOk m) (kt : TOk t) (hpu : U64 p) (hsu : U64 s) :
    Calls Try.prog 20 #[.pointer (some ⟨a, 0, none⟩), .bool sec, .int .u64 (p : Nat), .int .u64 (s : Nat)] w (RdIs (mayE t sec 1 p s) (ldL m t sec 1 p s) w) := by
  have HM := Lib.hid (may_any base a p s sec 1 m t A c w hp km kt hpu hsu (by unfold I64; omega))
  have HK := Lib.hid (fun (w' : World) (hb : Gr w w') => peek_any base a p s m t A c w' (hp.bel hb) km hpu hsu)
  clear hp km kt hpu hsu
  by_cases he : mayE t sec 1 p s = 0
  · have e2 : ldL m t sec 1 p s = pkL m p s := by unfold ldL pkL; rw [if_pos he, if_pos (clE_of he).2]
    have e3 := (clE_of he).1
    rw [e2]
    rw [he] at HM ⊢
    rw [e3] at HK
    clear he e2 e3
    go_enter Try.func20, Try.ntmps20
    go_wp2_with fail
    refine HM.out.mono ?_
    rintro e w1 ⟨rfl, hb1⟩
    have HB1 := Lib.hid hb1
    have HK1 := Lib.hid (HK.out w1 hb1)
    clear hb1
    generalize pkL m p s = L at *
    go_wp2_with fail
    refine HK1.out.mono ?_
    rintro e w2 hr
    obtain ⟨A2, c2, rfl, h1, h2⟩ := hr.behind HB1.out
    have H1 := Lib.hid h1
    have H2 := Lib.hid h2
    clear h1 h2 hr
    go_wp2_with fail
    go_ret2
    exact ⟨A2, c2, rfl, H1.out, H2.out⟩
  · have e2 : ldL m t sec 1 p s = [] := by unfold ldL; rw [if_neg he]
    rw [e2]
    obtain ⟨E, hE⟩ : ∃ E, mayE t sec 1 p s = E := ⟨_, rfl⟩
    rw [hE] at HM he ⊢
    have hne : (E != 0) = true := by simpa using he
    clear hE e2 he
    go_enter Try.func20, Try.ntmps20
    go_wp2_with fail
    refine HM.out.mono ?_
    rintro e w1 ⟨rfl, hb1⟩
    have HB1 := Lib.hid hb1
    clear hb1
    go_wp2_with fail
    go_ret2
    exact (RdIs.nil E w1).behind HB1.out
set_option maxHeartbeats 1600000 in
theorem fetch_any (base a p s : Nat) (sec : Bool) (m : List Nat) (t : List Reg) (A : Option Addr) (c : Nat) (w : World) (hp : PAt w base a m t A c) (km : MOk m) (kt : TOk t) (hpu : U64 p) (hsu : U64 s) :
    Calls Try.prog 21 #[.pointer (some ⟨a, 0, none⟩), .bool sec, .int .u64 (p : Nat), .int .u64 (s : Nat)] w (RdIs (mayE t sec 3 p s) (ldL m t sec 3 p s) w) := by
  have HM := Lib.hid (may_any base a p s sec 3 m t A c w hp km kt hpu hsu (by unfold I64; omega))
  have HK := Lib.hid (fun (w' : World) (hb : Gr w w') => peek_any base a p s m t A c w' (hp.bel hb) km hpu hsu)
  clear hp km kt hpu hsu
  by_cases he : mayE t sec 3 p s = 0
  · have e2 : ldL m t sec 3 p s = pkL m p s := by unfold ldL pkL; rw [if_pos he, if_pos (clE_of he).2]
    have e3 := (clE_of he).1
    rw [e2]
    rw [he] at HM ⊢
    rw [e3] at HK
    clear he e2 e3
    go_enter Try.func21, Try.ntmps21
    go_wp2_with fail
    refine HM.out.mono ?_
    rintro e w1 ⟨rfl, hb1⟩
    have HB1 := Lib.hid hb1
    have HK1 := Lib.hid (HK.out w1 hb1)
    clear hb1
    generalize pkL m p s = L at *
    go_wp2_with fail
    refine HK1.out.mono ?_
    rintro e w2 hr
    obtain ⟨A2, c2, rfl, h1, h2⟩ := hr.behind HB1.out
    have H1 := Lib.hid h1
    have H2 := Lib.hid h2
    clear h1 h2 hr
    go_wp2_with fail
    go_ret2
    exact ⟨A2, c2, rfl, H1.out, H2.out⟩
  · have e2 : ldL m t sec 3 p s = [] := by unfold ldL; rw [if_neg he]
    rw [e2]
    obtain ⟨E, hE⟩ : ∃ E, mayE t sec 3 p s = E := ⟨_, rfl⟩
    rw [hE] at HM he ⊢
    have hne : (E != 0) = true := by simpa using he
    clear hE e2 he
    go_enter Try.func21, Try.ntmps21
    go_wp2_with fail
    refine HM.out.mono ?_
    rintro e w1 ⟨rfl, hb1⟩
    have HB1 := Lib.hid hb1
    clear hb1
    go_wp2_with fail
    go_ret2
    exact (RdIs.nil E w1).behind HB1.out
theorem load_nil (sec : Bool) (x y : Value) (w : World) : Calls Try.prog 20 #[.pointer none, .bool sec, x, y] w fun e w' => e = .returned (.tuple #[.slice none 0 0, .int .i64 1]) ∧ w = w' := by
  go_enter Try.func20, Try.ntmps20
  go_wp2_with (go_at_call 23; refine (may_nil _ _ _ _ w (by omega)).mono ?_; rintro e w9 ⟨rfl, rfl⟩)
  go_ret2
  exact ⟨rfl, rfl⟩
theorem fetch_nil (sec : Bool) (x y : Value) (w : World) : Calls Try.prog 21 #[.pointer none, .bool sec, x, y] w fun e w' => e = .returned (.tuple #[.slice none 0 0, .int .i64 1]) ∧ w = w' := by
  go_enter Try.func21, Try.ntmps21
  go_wp2_with (go_at_call 23; refine (may_nil _ _ _ _ w (by omega)).mono ?_; rintro e w9 ⟨rfl, rfl⟩)
  go_ret2
  exact ⟨rfl, rfl⟩
theorem store_nil (sec : Bool) (x : Value) (B : Option Addr) (n cb : Nat) (w : World) : Calls Try.prog 19 #[.pointer none, .bool sec, x, .slice B n cb] w fun e w' => e = .returned (.int .i64 1) ∧ w = w' := by
  go_enter Try.func19, Try.ntmps19
  go_wp2_with (go_at_call 23; refine (may_nil _ _ _ _ w (by omega)).mono ?_; rintro e w9 ⟨rfl, rfl⟩)
  go_ret
  exact ⟨rfl, rfl⟩
/-- what a store leaves -/
def stM (m : List Nat) (t : List Reg) (sec : Bool) (p : Nat) (b : List Nat) : List Nat := if mayE t sec 2 p b.length = 0 then putM m (p - 1073741824) b else m
theorem stM_ok {m b : List Nat} {t : List Reg} {sec : Bool} {p : Nat} (k : MOk m) (hb : ∀ x ∈ b, x < 256) : MOk (stM m t sec p b) := by
  unfold stM
  split
  · rename_i h
    have h2 := of_decide_eq_true (clE_of h).2
    exact putM_ok k hb (by omega)
  · exact k
set_option maxHeartbeats 1600000 in
theorem store_any (base a p n cb : Nat) (sec : Bool) (B : Option Addr) (b m : List Nat) (t : List Reg) (A : Option Addr) (c : Nat) (w : World) (hp : PAt w base a m t A c) (km : MOk m) (kt : TOk t) (hba : base ≤ a) (hpu : U64 p) (hB : BIn w B n cb b) :
    Calls Try.prog 19 #[.pointer (some ⟨a, 0, none⟩), .bool sec, .int .u64 (p : Nat), .slice B n cb] w (PDone base a (.int .i64 (mayE t sec 2 p n)) (stM m t sec p b) t w) := by
  have hn := hB.1.1
  have hn47 := hB.2.2.2.1
  have hcv : IntKind.u64.wrap (n : Int) = (n : Int) := u64w rfl (by omega)
  have HM := Lib.hid (may_any base a p n sec 2 m t A c w hp km kt hpu (by unfold U64; omega) (by unfold I64; omega))
  have HK := Lib.hid (fun (w' : World) (hb : Gr w w') => place_any base a p n cb B b m t A c w' (hp.bel hb) km hba hpu (hB.below hb))
  have HP := Lib.hid hp
  have HN := Lib.hid hn
  clear hp km kt hpu hB hba
  by_cases he : mayE t sec 2 p n = 0
  · have e2 : stM m t sec p b = plM m p b := by unfold stM plM; rw [hn, if_pos he, if_pos (clE_of he).2]
    have e3 := (clE_of he).1
    rw [e2]
    rw [he] at HM ⊢
    rw [e3] at HK
    clear he e2 e3 hn
    go_enter Try.func19, Try.ntmps19
    go_wp2_with fail
    try rw [hcv]
    refine HM.out.mono ?_
    rintro e w1 ⟨rfl, hb1⟩
    have HB1 := Lib.hid hb1
    have HK1 := Lib.hid (HK.out w1 hb1)
    clear hb1
    generalize plM m p b = L at *
    go_wp2_with fail
    refine HK1.out.mono ?_
    rintro e w2 ⟨rfl, h1, h2⟩
    have H1 := Lib.hid h1
    have H2 := Lib.hid h2
    clear h1 h2
    go_wp2_with fail
    go_ret
    exact ⟨rfl, H1.out, (FrT.bel HB1.out).trans H2.out⟩
  · have e2 : stM m t sec p b = m := by unfold stM; rw [hn, if_neg he]
    rw [e2]
    obtain ⟨E, hE⟩ : ∃ E, mayE t sec 2 p n = E := ⟨_, rfl⟩
    rw [hE] at HM he ⊢
    have hne : (E != 0) = true := by simpa using he
    clear hE e2 he hn
    go_enter Try.func19, Try.ntmps19
    go_wp2_with fail
    try rw [hcv]
    refine HM.out.mono ?_
    rintro e w1 ⟨rfl, hb1⟩
    have HB1 := Lib.hid hb1
    clear hb1
    go_wp2_with fail
    go_ret
    exact PDone.same HP.out HB1.out
theorem all_zero : (natsV .u8 m0 ++ [Value.slice none 0 0]).toArray.all (·.oneCell') = true := Array.all_eq_true_iff_forall_mem.2 (fun v hv => by
  have hv' : v ∈ natsV .u8 m0 ++ [Value.slice none 0 0] := by simpa using hv
  rcases List.mem_append.1 hv' with h | h
  · exact natsV_one .u8 m0 v h
  · rw [List.mem_singleton.1 h]; rfl)
theorem zlen : (natsV .u8 m0 ++ [Value.slice none 0 0]).toArray.size = 65537 := by rw [List.size_toArray, List.length_append, natsV_length, m0_ok.ln]; rfl
theorem plen {m : List Nat} (k : MOk m) (v : Value) : (natsV .u8 m ++ [v]).toArray.size = 65537 := by rw [List.size_toArray, List.length_append, natsV_length, k.ln]; rfl
theorem exec_build {P : Program} {a : Act} {w : World} {o : Oper} {t : TypeId} {parts : Array (Nat × Operand)} {cs : Array Value} (ho : o.op = .build t parts) (hp : parts = #[]) (hc : P.built t [] = some cs) : (execOp a.eval o).run P w = .ok (.value (.agg cs)) w := by
  subst hp
  unfold execOp
  simp only [ho]
  have := run_build (P := P) w t #[] cs hc
  simp [this]
set_option maxHeartbeats 1600000 in
theorem wipe_any (base a : Nat) (m : List Nat) (t : List Reg) (A : Option Addr) (c : Nat) (w : World) (hp : PAt w base a m t A c) (km : MOk m) (hba : base ≤ a) :
    Calls Try.prog 22 #[.pointer (some ⟨a, 0, none⟩)] w (PDone base a (.tuple #[]) m0 [] w) := by
  have HP := Lib.hid hp
  have HZ := Lib.hid (plen km (.slice A t.length c))
  have HBA := Lib.hid hba
  clear hp km hba
  go_enter Try.func22, Try.ntmps22
  go_wp2_with (first
    | (refine wpList_run rfl (exec_build (cs := (natsV .u8 m0 ++ [Value.slice none 0 0]).toArray) rfl rfl bldP) ?_)
    | (refine wpList_store_row rfl 61 (.tmp 6) (.tmp 5) rfl a (natsV .u8 m0 ++ [Value.slice none 0 0]).toArray rfl rfl 61 _ HP.out.blk (by rw [zlen]; exact size61) (by rw [zlen]; exact HZ.out) all_zero ?_))
  refine bodyPost_ret (v := .tuple #[]) (by simp [results, Try.results22]) rfl ⟨rfl, ⟨none, 0, ?_⟩, FrT.grown HP.out.blk HBA.out (by decide) (grown_setRow w a _)⟩
  exact ⟨HP.out.blk.setRow _, own_nil _ _ _ _⟩
theorem wipe_nil (w : World) : Calls Try.prog 22 #[.pointer none] w fun e w' => e = .returned (.tuple #[]) ∧ w = w' := by
  go_enter Try.func22, Try.ntmps22
  go_wp2
  refine ⟨rfl, .tuple #[], ?_, rfl, rfl⟩
  simp [results, Try.results22]
set_option maxHeartbeats 1600000 in
theorem new_any (w : World) : Calls Try.prog 7 #[] w fun e w' => e = .returned (.pointer (some ⟨w.heap.size, 0, none⟩)) ∧ PAt w' w.heap.size w.heap.size m0 [] none 0 ∧ Below w.heap.size w w' := by
  go_enter Try.func7, Try.ntmps7
  go_wp2_with (refine wpList_run rfl (exec_build (cs := (natsV .u8 m0 ++ [Value.slice none 0 0]).toArray) rfl rfl bldP) ?_)
  go_ret
  exact ⟨rfl, ⟨Blk.new w _ _, own_nil _ _ _ _⟩, Gr.alloc w _⟩
end Go.Proofs.Ytelfhpmbnficfaa
