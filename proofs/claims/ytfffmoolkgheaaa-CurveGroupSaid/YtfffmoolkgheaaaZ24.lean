/- Parts of proofs of statements, each text behind those that it stands on. No condition of its own. -/
import Derived.Test.YtfffmoolkgheaaaZ21
import Derived.Test.YtfffmoolkgheaaaZ23
namespace Go.Proofs.Ytfffmoolkgheaaa
open Go.RowKit
set_option linter.unusedVariables false
set_option linter.unusedSimpArgs false
def fv4 (px py pz qx qy qz sx sy sz : List Nat) : List Value := natsV .u64 (zeros 12) ++ (tv px py pz ++ (tv qx qy qz ++ tv sx sy sz))
theorem fv4_len {px py pz qx qy qz sx sy sz : List Nat} (a : px.length = 4) (b : py.length = 4) (c : pz.length = 4) (d : qx.length = 4) (e : qy.length = 4) (f : qz.length = 4) (g : sx.length = 4) (h : sy.length = 4) (i : sz.length = 4) : (fv4 px py pz qx qy qz sx sy sz).length = 48 := by
  unfold fv4; simp only [List.length_append, natsV_length, tv_len a b c, tv_len d e f, tv_len g h i]; rfl
theorem fv4_one (px py pz qx qy qz sx sy sz : List Nat) : ∀ v ∈ fv4 px py pz qx qy qz sx sy sz, v.oneCell' = true := by
  intro v hv
  simp only [fv4, List.mem_append] at hv
  rcases hv with h | h | h | h
  · exact natsV_one _ _ v h
  · exact tv_one _ _ _ v h
  · exact tv_one _ _ _ v h
  · exact tv_one _ _ _ v h
theorem info133 : (Try.prog.info? 133).map (·.size) = some 48 := by kernel_rfl
theorem i133 {px py pz qx qy qz sx sy sz : List Nat} (a : px.length = 4) (b : py.length = 4) (c : pz.length = 4) (d : qx.length = 4) (e : qy.length = 4) (f : qz.length = 4) (g : sx.length = 4) (h : sy.length = 4) (i : sz.length = 4) : (Try.prog.info? 133).map (·.size) = some (fv4 px py pz qx qy qz sx sy sz).length := by rw [info133, fv4_len a b c d e f g h i]
theorem alloc133 (w : World) : (Instr.alloc 133 true (.tuple #[])).run Try.prog w = .ok (.pointer (some ⟨w.heap.size, 0, none⟩)) (w.alloc (.cells (natsV .u64 (zeros 48)).toArray 133)) := by go_simp; rfl
theorem built133 {px py pz qx qy qz sx sy sz : List Nat} (a : px.length = 4) (b : py.length = 4) (c : pz.length = 4) (d : qx.length = 4) (e : qy.length = 4) (f : qz.length = 4) (g : sx.length = 4) (h : sy.length = 4) (i : sz.length = 4) : Try.prog.built 133 [(1, .agg (tv px py pz).toArray), (2, .agg (tv qx qy qz).toArray), (3, .agg (tv sx sy sz).toArray)] = some (fv4 px py pz qx qy qz sx sy sz).toArray := by
  obtain ⟨_, _, _, _, rfl⟩ := four_ol a; obtain ⟨_, _, _, _, rfl⟩ := four_ol b; obtain ⟨_, _, _, _, rfl⟩ := four_ol c
  obtain ⟨_, _, _, _, rfl⟩ := four_ol d; obtain ⟨_, _, _, _, rfl⟩ := four_ol e; obtain ⟨_, _, _, _, rfl⟩ := four_ol f
  obtain ⟨_, _, _, _, rfl⟩ := four_ol g; obtain ⟨_, _, _, _, rfl⟩ := four_ol h; obtain ⟨_, _, _, _, rfl⟩ := four_ol i
  kernel_rfl
def ad (k : Nat) (z p q s : List Nat) : List Nat := if k = 0 then z else if k = 1 then p else if k = 2 then q else s
theorem fv4_at {w : World} {g : Nat} {t : TypeId} {px py pz qx qy qz sx sy sz : List Nat} (a : px.length = 4) (b : py.length = 4) (c : pz.length = 4) (d : qx.length = 4) (e : qy.length = 4) (f : qz.length = 4) (hb : Blk w g t (fv4 px py pz qx qy qz sx sy sz)) (k : Nat) (hk : k < 4) :
    w.rangeAt g (k * 12) (tv (ad k (zeros 4) px qx sx) (ad k (zeros 4) py qy sy) (ad k (zeros 4) pz qz sz)) := by
  have hk4 : k = 0 ∨ k = 1 ∨ k = 2 ∨ k = 3 := by omega
  rcases hk4 with rfl | rfl | rfl | rfl
  · exact blk_part (a := []) (b := natsV .u64 (zeros 12)) hb rfl
  · exact blk_part (a := natsV .u64 (zeros 12)) (b := tv px py pz) hb rfl
  · have hb2 : Blk w g t ((natsV .u64 (zeros 12) ++ tv px py pz) ++ (tv qx qy qz ++ tv sx sy sz)) := by rw [List.append_assoc]; exact hb
    exact blk_part hb2 (by rw [List.length_append, tv_len a b c]; rfl)
  · have hb2 : Blk w g t ((natsV .u64 (zeros 12) ++ (tv px py pz ++ tv qx qy qz)) ++ (tv sx sy sz ++ [])) := by rw [List.append_nil, List.append_assoc, List.append_assoc]; exact hb
    exact blk_part hb2 (by rw [List.length_append, List.length_append, tv_len a b c, tv_len d e f]; rfl)
theorem ad_len {k : Nat} {z p q s : List Nat} (hz : z.length = 4) (hp : p.length = 4) (hq : q.length = 4) (hs : s.length = 4) : (ad k z p q s).length = 4 := by unfold ad; split; exact hz; split; exact hp; split; exact hq; exact hs
set_option maxRecDepth 100000 in
set_option maxHeartbeats 6400000 in
theorem multiples_w {lu lv px py pz qx qy qz sx sy sz : List Nat} {X Y Z DX DY DZ : Nat → List Nat} {bu bv : Nat → Nat} {nu nv T : Nat} (hlu : lu.length = 4) (hlv : lv.length = 4) (hpx : px.length = 4) (hpy : py.length = 4) (hpz : pz.length = 4) (hqx : qx.length = 4) (hqy : qy.length = 4) (hqz : qz.length = 4) (hsx : sx.length = 4) (hsy : sy.length = 4) (hsz : sz.length = 4) (hFX : ∀ t, (X t).length = 4) (hFY : ∀ t, (Y t).length = 4) (hFZ : ∀ t, (Z t).length = 4) (hFDX : ∀ t, (DX t).length = 4) (hFDY : ∀ t, (DY t).length = 4) (hFDZ : ∀ t, (DZ t).length = 4)
    (hbu : ∀ t, bu t ≤ 1) (hbv : ∀ t, bv t ≤ 1) (hT : T ≤ 256) (hm : max (nu : Int) (nv : Int) = (T : Int)) (hX : X T = zeros 4) (hY : Y T = zeros 4) (hZ : Z T = zeros 4)
    (c0 : ∀ w, Calls Try.prog 82 #[.agg (tv px py pz).toArray, .agg (tv qx qy qz).toArray] w fun e w' => e = .returned (.agg (tv sx sy sz).toArray) ∧ Below w.heap.size w w')
    (cu : ∀ w, Calls Try.prog 49 #[.agg (natsV .u64 lu).toArray] w fun e w' => e = .returned (.int .i64 (nu : Nat)) ∧ Below w.heap.size w w')
    (cv : ∀ w, Calls Try.prog 49 #[.agg (natsV .u64 lv).toArray] w fun e w' => e = .returned (.int .i64 (nv : Nat)) ∧ Below w.heap.size w w')
    (cd : ∀ t, t < T → ∀ w, Calls Try.prog 117 #[.agg (tv (X (t + 1)) (Y (t + 1)) (Z (t + 1))).toArray] w fun e w' => e = .returned (.agg (tv (DX t) (DY t) (DZ t)).toArray) ∧ Below w.heap.size w w')
    (ku : ∀ t, t < T → ∀ w, Calls Try.prog 69 #[.agg (natsV .u64 lu).toArray, .int .i64 (t : Nat)] w fun e w' => e = .returned (.int .i64 (bu t : Nat)) ∧ Below w.heap.size w w')
    (kv : ∀ t, t < T → ∀ w, Calls Try.prog 69 #[.agg (natsV .u64 lv).toArray, .int .i64 (t : Nat)] w fun e w' => e = .returned (.int .i64 (bv t : Nat)) ∧ Below w.heap.size w w')
    (cp : ∀ t, t < T → ∀ w, Calls Try.prog 82 #[.agg (tv (DX t) (DY t) (DZ t)).toArray, .agg (tv (ad (bu t + 2 * bv t) (zeros 4) px qx sx) (ad (bu t + 2 * bv t) (zeros 4) py qy sy) (ad (bu t + 2 * bv t) (zeros 4) pz qz sz)).toArray] w fun e w' => e = .returned (.agg (tv (X t) (Y t) (Z t)).toArray) ∧ Below w.heap.size w w') (w : World) :
    Calls Try.prog 85 #[.agg (natsV .u64 lu).toArray, .agg (tv px py pz).toArray, .agg (natsV .u64 lv).toArray, .agg (tv qx qy qz).toArray] w fun e w' => e = .returned (.agg (tv (X 0) (Y 0) (Z 0)).toArray) ∧ Below w.heap.size w w' := by
  have L_lu := Lib.hid hlu
  clear hlu
  have L_lv := Lib.hid hlv
  clear hlv
  have L_px := Lib.hid hpx
  clear hpx
  have L_py := Lib.hid hpy
  clear hpy
  have L_pz := Lib.hid hpz
  clear hpz
  have L_qx := Lib.hid hqx
  clear hqx
  have L_qy := Lib.hid hqy
  clear hqy
  have L_qz := Lib.hid hqz
  clear hqz
  have L_sx := Lib.hid hsx
  clear hsx
  have L_sy := Lib.hid hsy
  clear hsy
  have L_sz := Lib.hid hsz
  clear hsz
  have LF_X := Lib.hid hFX
  clear hFX
  have LF_Y := Lib.hid hFY
  clear hFY
  have LF_Z := Lib.hid hFZ
  clear hFZ
  have LF_DX := Lib.hid hFDX
  clear hFDX
  have LF_DY := Lib.hid hFDY
  clear hFDY
  have LF_DZ := Lib.hid hFDZ
  clear hFDZ
  have Hc0 := Lib.hid c0
  clear c0
  have Hcu := Lib.hid cu
  clear cu
  have Hcv := Lib.hid cv
  clear cv
  have Hcd := Lib.hid cd
  clear cd
  have Hku := Lib.hid ku
  clear ku
  have Hkv := Lib.hid kv
  clear kv
  have Hcp := Lib.hid cp
  clear cp
  have Hhbu := Lib.hid hbu
  clear hbu
  have Hhbv := Lib.hid hbv
  clear hbv
  have Hhm := Lib.hid hm
  clear hm
  have HhX := Lib.hid hX
  clear hX
  have HhY := Lib.hid hY
  clear hY
  have HhZ := Lib.hid hZ
  clear hZ
  have B0_ := Lib.hid (((((Blk.new w  24 (natsV .u64 lu)).alloc (.cells (tv px py pz).toArray 103)).alloc (.cells (natsV .u64 lv).toArray 24)).alloc (.cells (tv qx qy qz).toArray 103)).alloc (.cells (natsV .u64 (zeros 12)).toArray 103))
  have B1_ := Lib.hid ((((Blk.new2 w (.cells (natsV .u64 lu).toArray 24) 103 (tv px py pz)).alloc (.cells (natsV .u64 lv).toArray 24)).alloc (.cells (tv qx qy qz).toArray 103)).alloc (.cells (natsV .u64 (zeros 12)).toArray 103))
  have B2_ := Lib.hid (((Blk.new3 w (.cells (natsV .u64 lu).toArray 24) (.cells (tv px py pz).toArray 103) 24 (natsV .u64 lv)).alloc (.cells (tv qx qy qz).toArray 103)).alloc (.cells (natsV .u64 (zeros 12)).toArray 103))
  have B3_ := Lib.hid ((Blk.new4 w (.cells (natsV .u64 lu).toArray 24) (.cells (tv px py pz).toArray 103) (.cells (natsV .u64 lv).toArray 24) 103 (tv qx qy qz)).alloc (.cells (natsV .u64 (zeros 12)).toArray 103))
  have B4_ := Lib.hid (Blk.new5 w (.cells (natsV .u64 lu).toArray 24) (.cells (tv px py pz).toArray 103) (.cells (natsV .u64 lv).toArray 24) (.cells (tv qx qy qz).toArray 103) 103 (natsV .u64 (zeros 12)))
  have bel_ := ((((((Below.refl w.heap.size w).alloc (Nat.le_refl _) (.cells (natsV .u64 lu).toArray 24)).alloc (by simp) (.cells (tv px py pz).toArray 103)).alloc (by simp; omega) (.cells (natsV .u64 lv).toArray 24)).alloc (by simp; omega) (.cells (tv qx qy qz).toArray 103)).alloc (by simp; omega) (.cells (natsV .u64 (zeros 12)).toArray 103))
  go_enter Try.func85, Try.ntmps85
  go_wp2_with fail
  as_aux_lemma =>
  refine wp_region_G (fun w_ => Blk w_ (w.heap.size + 1) 103 (tv px py pz) ∧ Blk w_ (w.heap.size + 1 + 1 + 1) 103 (tv qx qy qz)) 7 (by kernel_rfl) ⟨B1_.out.drew, B3_.out.drew⟩ ?_
  refine wpAnyG_take (fun _ _ hS_ hb_ => ⟨hS_.1.gr hb_, hS_.2.gr hb_⟩) (i := 0) rfl (by kernel_rfl) (fun _ _ _ h => h) (loadG (by rfl) _ _ rfl _ _ rfl (tv px py pz) _ (fun _ hS_ => blk_all (hS_.1)) Try.underlying103 rfl (i103 L_px.out L_py.out L_pz.out)) ?_
  try simp only [Act.put, zq1, zq2, zq3, zq4, zq5, zq6]
  refine wpAnyG_take (fun _ _ hS_ hb_ => ⟨hS_.1.gr hb_, hS_.2.gr hb_⟩) (i := 1) rfl (by kernel_rfl) (fun _ _ _ h => h) (loadG (by rfl) _ _ rfl _ _ rfl (tv qx qy qz) _ (fun _ hS_ => blk_all (hS_.2)) Try.underlying103 rfl (i103 L_qx.out L_qy.out L_qz.out)) ?_
  try simp only [Act.put, zq1, zq2, zq3, zq4, zq5, zq6]
  refine wpAnyG_take (fun _ _ hS_ hb_ => ⟨hS_.1.gr hb_, hS_.2.gr hb_⟩) (i := 2) rfl (by kernel_rfl) (fun _ _ _ h => h) (loadG (by rfl) _ _ rfl _ _ rfl (tv px py pz) _ (fun _ hS_ => blk_all (hS_.1)) Try.underlying103 rfl (i103 L_px.out L_py.out L_pz.out)) ?_
  try simp only [Act.put, zq1, zq2, zq3, zq4, zq5, zq6]
  refine wpAnyG_take (fun _ _ hS_ hb_ => ⟨hS_.1.gr hb_, hS_.2.gr hb_⟩) (i := 3) rfl (by kernel_rfl) (fun _ _ _ h => h) (loadG (by rfl) _ _ rfl _ _ rfl (tv qx qy qz) _ (fun _ hS_ => blk_all (hS_.2)) Try.underlying103 rfl (i103 L_qx.out L_qy.out L_qz.out)) ?_
  try simp only [Act.put, zq1, zq2, zq3, zq4, zq5, zq6]
  refine wpAnyG_take (fun _ _ hS_ hb_ => ⟨hS_.1.gr hb_, hS_.2.gr hb_⟩) (i := 4) rfl (by kernel_rfl) (fun _ _ _ h => h) (callG (by rfl) rfl Try.func82 (by kernel_rfl) (by kernel_rfl) (#[.agg (tv px py pz).toArray, .agg (tv qx qy qz).toArray]) (by simp [Act.eval]) (fun w _ => Hc0.out w)) ?_
  try simp only [Act.put, zq1, zq2, zq3, zq4, zq5, zq6]
  refine wpAnyG_take (fun _ _ hS_ hb_ => ⟨hS_.1.gr hb_, hS_.2.gr hb_⟩) (i := 5) rfl (by kernel_rfl) (fun _ _ _ h => h) (buildG (by rfl) _ _ rfl _ (built133 L_px.out L_py.out L_pz.out L_qx.out L_qy.out L_qz.out L_sx.out L_sy.out L_sz.out) (by simp [Act.eval])) ?_
  try simp only [Act.put, zq1, zq2, zq3, zq4, zq5, zq6]
  refine wpAnyG_def (i := 6) (j := 7) (fun _ _ hS_ hb_ => ⟨hS_.1.gr hb_, hS_.2.gr hb_⟩) (by kernel_rfl) (by kernel_rfl) (by kernel_rfl) rfl rfl rfl (allocG (by rfl) rfl _ alloc133) (lenEq (show (natsV .u64 (zeros 48)).length = 48 from rfl) (fv4_len L_px.out L_py.out L_pz.out L_qx.out L_qy.out L_qz.out L_sx.out L_sy.out L_sz.out)) (fun _ => StoresG.mk (cs := (fv4 px py pz qx qy qz sx sy sz)) (by rfl) 133 _ _ rfl rfl rfl (i133 L_px.out L_py.out L_pz.out L_qx.out L_qy.out L_qz.out L_sx.out L_sy.out L_sz.out) (fv4_one _ _ _ _ _ _ _ _ _)) ?_
  intro w1 G2 hgw1 hz_ hn_
  try simp only [Act.put, zq1, zq2, zq3, zq4, zq5, zq6]
  have E3 := Lib.hid (B0_.out.drew.gr hgw1)
  clear B0_
  have E4 := Lib.hid (B1_.out.drew.gr hgw1)
  clear B1_
  have E5 := Lib.hid (B2_.out.drew.gr hgw1)
  clear B2_
  have E6 := Lib.hid (B3_.out.drew.gr hgw1)
  clear B3_
  have E7 := Lib.hid (B4_.out.drew.gr hgw1)
  clear B4_
  have hbel8 := bel_.drew.trans (Below.mono hgw1 bel_.drew.size)
  clear bel_
  have D9 := Lib.hid hn_
  clear hn_ hz_ hgw1
  as_aux_lemma =>
  go_wp2_with fail
  have NE10 := Lib.hid (Nat.ne_of_lt E3.out.lt)
  have NE11 := Lib.hid (Nat.ne_of_lt E4.out.lt)
  have NE12 := Lib.hid (Nat.ne_of_lt E5.out.lt)
  have NE13 := Lib.hid (Nat.ne_of_lt E6.out.lt)
  have NE14 := Lib.hid (Nat.ne_of_lt E7.out.lt)
  have NE15 := Lib.hid (Nat.ne_of_lt D9.out.lt)
  have GE10 := Lib.hid hbel8.size
  have C16 := Lib.hid (E3.out.alloc (.cells (natsV .u64 (zeros 12)).toArray 103))
  clear E3
  have C17 := Lib.hid (E4.out.alloc (.cells (natsV .u64 (zeros 12)).toArray 103))
  clear E4
  have C18 := Lib.hid (E5.out.alloc (.cells (natsV .u64 (zeros 12)).toArray 103))
  clear E5
  have C19 := Lib.hid (E6.out.alloc (.cells (natsV .u64 (zeros 12)).toArray 103))
  clear E6
  have C20 := Lib.hid (E7.out.alloc (.cells (natsV .u64 (zeros 12)).toArray 103))
  clear E7
  have C21 := Lib.hid (D9.out.alloc (.cells (natsV .u64 (zeros 12)).toArray 103))
  clear D9
  have Z10 := Lib.hid (Blk.new w1 103 (natsV .u64 (zeros 12)))
  have bel10 := hbel8.alloc hbel8.size (.cells (natsV .u64 (zeros 12)).toArray 103)
  clear hbel8
  generalize w1.heap.size = G10 at *
  as_aux_lemma =>
  refine wp_region_G (fun w_ => Blk w_ w.heap.size 24 (natsV .u64 lu) ∧ Blk w_ (w.heap.size + 1 + 1) 24 (natsV .u64 lv)) 7 (by kernel_rfl) ⟨C16.out.drew, C18.out.drew⟩ ?_
  refine wpAnyG_take (fun _ _ hS_ hb_ => ⟨hS_.1.gr hb_, hS_.2.gr hb_⟩) (i := 0) rfl (by kernel_rfl) (fun _ _ _ h => h) (loadG (by rfl) _ _ rfl _ _ rfl (natsV .u64 lu) _ (fun _ hS_ => blk_all (hS_.1)) Try.underlying24 rfl (i24 L_lu.out)) ?_
  try simp only [Act.put, zq1, zq2, zq3, zq4, zq5, zq6]
  refine wpAnyG_take (fun _ _ hS_ hb_ => ⟨hS_.1.gr hb_, hS_.2.gr hb_⟩) (i := 1) rfl (by kernel_rfl) (fun _ _ _ h => h) (callG (by rfl) rfl Try.func49 (by kernel_rfl) (by kernel_rfl) (#[.agg (natsV .u64 lu).toArray]) (by simp [Act.eval]) (fun w _ => Hcu.out w)) ?_
  try simp only [Act.put, zq1, zq2, zq3, zq4, zq5, zq6]
  refine wpAnyG_take (fun _ _ hS_ hb_ => ⟨hS_.1.gr hb_, hS_.2.gr hb_⟩) (i := 2) rfl (by kernel_rfl) (fun _ _ _ h => h) (loadG (by rfl) _ _ rfl _ _ rfl (natsV .u64 lv) _ (fun _ hS_ => blk_all (hS_.2)) Try.underlying24 rfl (i24 L_lv.out)) ?_
  try simp only [Act.put, zq1, zq2, zq3, zq4, zq5, zq6]
  refine wpAnyG_take (fun _ _ hS_ hb_ => ⟨hS_.1.gr hb_, hS_.2.gr hb_⟩) (i := 3) rfl (by kernel_rfl) (fun _ _ _ h => h) (callG (by rfl) rfl Try.func49 (by kernel_rfl) (by kernel_rfl) (#[.agg (natsV .u64 lv).toArray]) (by simp [Act.eval]) (fun w _ => Hcv.out w)) ?_
  try simp only [Act.put, zq1, zq2, zq3, zq4, zq5, zq6]
  refine wpAnyG_take (fun _ _ hS_ hb_ => ⟨hS_.1.gr hb_, hS_.2.gr hb_⟩) (i := 4) rfl (by kernel_rfl) (fun _ _ _ h => h) (pureG (by rfl) (by intro w; go_simp; first | done | with_reducible rfl)) ?_
  try simp only [Act.put, zq1, zq2, zq3, zq4, zq5, zq6]
  refine wpAnyG_take (fun _ _ hS_ hb_ => ⟨hS_.1.gr hb_, hS_.2.gr hb_⟩) (i := 5) rfl (by kernel_rfl) (fun _ _ _ h => h) (pureG (by rfl) (by intro w; go_simp; first | done | with_reducible rfl)) ?_
  try simp only [Act.put, zq1, zq2, zq3, zq4, zq5, zq6]
  refine wpAnyG_take (fun _ _ hS_ hb_ => ⟨hS_.1.gr hb_, hS_.2.gr hb_⟩) (i := 6) rfl (by kernel_rfl) (fun _ _ _ h => h) (pureG (by rfl) (by intro w; go_simp; first | done | with_reducible rfl)) ?_
  try simp only [Act.put, zq1, zq2, zq3, zq4, zq5, zq6]
  refine wpAnyG_done (by kernel_rfl) ?_ _
  intro w22 hgw22
  try simp only [Act.put, zq1, zq2, zq3, zq4, zq5, zq6]
  have E23 := Lib.hid (C16.out.drew.gr hgw22)
  clear C16
  have E24 := Lib.hid (C17.out.drew.gr hgw22)
  clear C17
  have E25 := Lib.hid (C18.out.drew.gr hgw22)
  clear C18
  have E26 := Lib.hid (C19.out.drew.gr hgw22)
  clear C19
  have E27 := Lib.hid (C20.out.drew.gr hgw22)
  clear C20
  have E28 := Lib.hid (C21.out.drew.gr hgw22)
  clear C21
  have E29 := Lib.hid (Z10.out.drew.gr hgw22)
  clear Z10
  have hbel30 := bel10.drew.trans (Below.mono hgw22 bel10.drew.size)
  clear bel10
  clear hgw22
  as_aux_lemma =>
  rw [show IntKind.i64.wrap (max (nu : Int) (nv : Int) - 1) = (T : Int) - 1 from by rw [Hhm.out]; exact IntWalk.i64_in _ (by omega)]
  go_wp2_with fail
  go_loopw [11] (fun i wr => ∃ t : Nat, t ≤ T ∧ i = .int .i64 ((t : Int) - 1) ∧ Blk wr w.heap.size 24 (natsV .u64 lu) ∧ Blk wr (w.heap.size + 1 + 1) 24 (natsV .u64 lv) ∧ Blk wr (w.heap.size + 1 + 1 + 1 + 1) 103 (natsV .u64 (zeros 12)) ∧ Blk wr G2 133 (fv4 px py pz qx qy qz sx sy sz) ∧ Blk wr G10 103 (tv (X t) (Y t) (Z t)) ∧ Below w.heap.size w wr) (fun i _ => (intOf i + 1).toNat)
  case atStart => exact ⟨T, Nat.le_refl _, rfl, E23.out, E25.out, E27.out, E28.out, by rw [HhX.out, HhY.out, HhZ.out]; exact E29.out, hbel30⟩
  case round =>
    clear E23 E24 E25 E26 E27 E28 E29 hbel30
    obtain ⟨t, ht, rfl, ku_, kv_, k8_, k9_, k10_, hbel⟩ := hrel
    have Ku := Lib.hid ku_
    clear ku_
    have Kv := Lib.hid kv_
    clear kv_
    have Kr8 := Lib.hid k8_
    clear k8_
    have Kv9 := Lib.hid k9_
    clear k9_
    have Kv10 := Lib.hid k10_
    clear k10_
    rcases t with _ | t
    · as_aux_lemma =>
      rw [show (((0 : Nat) : Int) - 1) = -1 from rfl]
      go_wp2_with (first | (refine wpList_load_mid rfl 103 (.tmp 10) rfl G10 0 rfl (tv (X 0) (Y 0) (Z 0)) _ (blk_all (Kv10.out)) Try.underlying103 rfl (i103 (LF_X.out 0) (LF_Y.out 0) (LF_Z.out 0)) ?_) | (refine stB rfl 103 (.tmp 8) (.tmp 41) rfl (w.heap.size + 1 + 1 + 1 + 1) rfl (tv (X 0) (Y 0) (Z 0)) rfl 103 (natsV .u64 (zeros 12)) Kr8.out (i103 (LF_X.out 0) (LF_Y.out 0) (LF_Z.out 0)) (lenEq (show (natsV .u64 (zeros 12)).length = 12 from rfl) (tv_len (LF_X.out 0) (LF_Y.out 0) (LF_Z.out 0))) (tv_one _ _ _) ?_))
      refine bodyPost_ret (v := .agg (tv (X 0) (Y 0) (Z 0)).toArray) ?_ rfl ⟨rfl, below_setRow' hbel (by first | exact Nat.le_refl _ | omega) _⟩
      exact results_cell_row Try.results85 _ _ (w.heap.size + 1 + 1 + 1 + 1) 103 _ (0, 0) _ rfl (Kr8.out.setRow _) Try.underlying103 rfl (by simpa using (i103 (LF_X.out 0) (LF_Y.out 0) (LF_Z.out 0)))
    · as_aux_lemma =>
      have ht1 : t < T := by omega
      have e1 : ((t + 1 : Nat) : Int) - 1 = (t : Int) := by omega
      rw [e1]
      clear e1
      have HD := Lib.hid (Hcd.out t ht1)
      have HU := Lib.hid (Hku.out t ht1)
      have HV := Lib.hid (Hkv.out t ht1)
      have HP := Lib.hid (Hcp.out t ht1)
      have h1 := Hhbu.out t
      have h2 := Hhbv.out t
      generalize bu t = ut at *
      generalize bv t = vt at *
      obtain ⟨k, hk⟩ : ∃ k, k = ut + 2 * vt := ⟨_, rfl⟩
      rw [← hk] at HP
      have hk4 : k < 4 := by omega
      have AX := ad_len (k := k) (z := zeros 4) rfl L_px.out L_qx.out L_sx.out
      have AY := ad_len (k := k) (z := zeros 4) rfl L_py.out L_qy.out L_sy.out
      have AZ := ad_len (k := k) (z := zeros 4) rfl L_pz.out L_qz.out L_sz.out
      have em : IntKind.i64.wrap (2 * (vt : Int)) = 2 * (vt : Int) := IntWalk.i64_in _ (by omega)
      have ea : IntKind.i64.wrap ((ut : Int) + 2 * (vt : Int)) = (k : Int) := by rw [IntWalk.i64_in _ (by omega)]; omega
      clear hk h1 h2
      have AT := Lib.hid (fun (w : World) (h : Blk w G2 133 (fv4 px py pz qx qy qz sx sy sz)) => fv4_at L_px.out L_py.out L_pz.out L_qx.out L_qy.out L_qz.out h k hk4)
      generalize ad k (zeros 4) px qx sx = adx at *
      generalize ad k (zeros 4) py qy sy = ady at *
      generalize ad k (zeros 4) pz qz sz = adz at *
      have L_adx := Lib.hid AX
      have L_ady := Lib.hid AY
      have L_adz := Lib.hid AZ
      clear AX AY AZ
      have ht0 : (0 : Int) ≤ (t : Int) := by omega
      have hk4i : (k : Int) < 4 := by omega
      have hk0i : (0 : Int) ≤ (k : Int) := by omega
      go_wp2_with fail
      as_aux_lemma =>
      refine wp_region_G (fun w_ => Blk w_ G10 103 (tv (X (t + 1)) (Y (t + 1)) (Z (t + 1))) ∧ Blk w_ w.heap.size 24 (natsV .u64 lu) ∧ Blk w_ (w.heap.size + 1 + 1) 24 (natsV .u64 lv) ∧ Blk w_ G2 133 (fv4 px py pz qx qy qz sx sy sz)) 13 (by kernel_rfl) ⟨Kv10.out.drew, Ku.out.drew, Kv.out.drew, Kv9.out.drew⟩ ?_
      refine wpAnyG_take (fun _ _ hS_ hb_ => ⟨hS_.1.gr hb_, hS_.2.1.gr hb_, hS_.2.2.1.gr hb_, hS_.2.2.2.gr hb_⟩) (i := 0) rfl (by kernel_rfl) (fun _ _ _ h => h) (loadG (by rfl) _ _ rfl _ _ rfl (tv (X (t + 1)) (Y (t + 1)) (Z (t + 1))) _ (fun _ hS_ => blk_all (hS_.1)) Try.underlying103 rfl (i103 (LF_X.out (t + 1)) (LF_Y.out (t + 1)) (LF_Z.out (t + 1)))) ?_
      try simp only [Act.put, zq1, zq2, zq3, zq4, zq5, zq6]
      refine wpAnyG_take (fun _ _ hS_ hb_ => ⟨hS_.1.gr hb_, hS_.2.1.gr hb_, hS_.2.2.1.gr hb_, hS_.2.2.2.gr hb_⟩) (i := 1) rfl (by kernel_rfl) (fun _ _ _ h => h) (callG (by rfl) rfl Try.func117 (by kernel_rfl) (by kernel_rfl) (#[.agg (tv (X (t + 1)) (Y (t + 1)) (Z (t + 1))).toArray]) (by simp [Act.eval]) (fun w _ => HD.out w)) ?_
      try simp only [Act.put, zq1, zq2, zq3, zq4, zq5, zq6]
      refine wpAnyG_take (fun _ _ hS_ hb_ => ⟨hS_.1.gr hb_, hS_.2.1.gr hb_, hS_.2.2.1.gr hb_, hS_.2.2.2.gr hb_⟩) (i := 2) rfl (by kernel_rfl) (fun _ _ _ h => h) (loadG (by rfl) _ _ rfl _ _ rfl (natsV .u64 lu) _ (fun _ hS_ => blk_all (hS_.2.1)) Try.underlying24 rfl (i24 L_lu.out)) ?_
      try simp only [Act.put, zq1, zq2, zq3, zq4, zq5, zq6]
      refine wpAnyG_take (fun _ _ hS_ hb_ => ⟨hS_.1.gr hb_, hS_.2.1.gr hb_, hS_.2.2.1.gr hb_, hS_.2.2.2.gr hb_⟩) (i := 3) rfl (by kernel_rfl) (fun _ _ _ h => h) (pureG (by rfl) (by intro w; go_simp; first | done | with_reducible rfl)) ?_
      try simp only [Act.put, zq1, zq2, zq3, zq4, zq5, zq6]
      refine wpAnyG_take (fun _ _ hS_ hb_ => ⟨hS_.1.gr hb_, hS_.2.1.gr hb_, hS_.2.2.1.gr hb_, hS_.2.2.2.gr hb_⟩) (i := 4) rfl (by kernel_rfl) (fun _ _ _ h => h) (callG (by rfl) rfl Try.func69 (by kernel_rfl) (by kernel_rfl) (#[.agg (natsV .u64 lu).toArray, .int .i64 (t : Nat)]) (by simp [Act.eval]) (fun w _ => HU.out w)) ?_
      try simp only [Act.put, zq1, zq2, zq3, zq4, zq5, zq6]
      refine wpAnyG_take (fun _ _ hS_ hb_ => ⟨hS_.1.gr hb_, hS_.2.1.gr hb_, hS_.2.2.1.gr hb_, hS_.2.2.2.gr hb_⟩) (i := 5) rfl (by kernel_rfl) (fun _ _ _ h => h) (loadG (by rfl) _ _ rfl _ _ rfl (natsV .u64 lv) _ (fun _ hS_ => blk_all (hS_.2.2.1)) Try.underlying24 rfl (i24 L_lv.out)) ?_
      try simp only [Act.put, zq1, zq2, zq3, zq4, zq5, zq6]
      refine wpAnyG_take (fun _ _ hS_ hb_ => ⟨hS_.1.gr hb_, hS_.2.1.gr hb_, hS_.2.2.1.gr hb_, hS_.2.2.2.gr hb_⟩) (i := 6) rfl (by kernel_rfl) (fun _ _ _ h => h) (pureG (by rfl) (by intro w; go_simp; first | done | with_reducible rfl)) ?_
      try simp only [Act.put, zq1, zq2, zq3, zq4, zq5, zq6]
      refine wpAnyG_take (fun _ _ hS_ hb_ => ⟨hS_.1.gr hb_, hS_.2.1.gr hb_, hS_.2.2.1.gr hb_, hS_.2.2.2.gr hb_⟩) (i := 7) rfl (by kernel_rfl) (fun _ _ _ h => h) (callG (by rfl) rfl Try.func69 (by kernel_rfl) (by kernel_rfl) (#[.agg (natsV .u64 lv).toArray, .int .i64 (t : Nat)]) (by simp [Act.eval]) (fun w _ => HV.out w)) ?_
      try simp only [Act.put, zq1, zq2, zq3, zq4, zq5, zq6]
      refine wpAnyG_take (fun _ _ hS_ hb_ => ⟨hS_.1.gr hb_, hS_.2.1.gr hb_, hS_.2.2.1.gr hb_, hS_.2.2.2.gr hb_⟩) (i := 8) rfl (by kernel_rfl) (fun _ _ _ h => h) (pureG (by rfl) (by intro w; go_simp; first | done | with_reducible rfl)) ?_
      try simp only [Act.put, zq1, zq2, zq3, zq4, zq5, zq6]
      refine wpAnyG_take (fun _ _ hS_ hb_ => ⟨hS_.1.gr hb_, hS_.2.1.gr hb_, hS_.2.2.1.gr hb_, hS_.2.2.2.gr hb_⟩) (i := 9) rfl (by kernel_rfl) (fun _ _ _ h => h) (pureG (by rfl) (by intro w; go_simp; first | done | with_reducible rfl)) ?_
      try simp only [Act.put, zq1, zq2, zq3, zq4, zq5, zq6]
      refine wpAnyG_take (fun _ _ hS_ hb_ => ⟨hS_.1.gr hb_, hS_.2.1.gr hb_, hS_.2.2.1.gr hb_, hS_.2.2.2.gr hb_⟩) (i := 10) rfl (by kernel_rfl) (fun _ _ _ h => h) (pureG (by rfl) (by intro w; go_simp; first | done | with_reducible rfl)) ?_
      try simp only [Act.put, zq1, zq2, zq3, zq4, zq5, zq6]
      refine wpAnyG_take (fun _ _ hS_ hb_ => ⟨hS_.1.gr hb_, hS_.2.1.gr hb_, hS_.2.2.1.gr hb_, hS_.2.2.2.gr hb_⟩) (i := 11) rfl (by kernel_rfl) (fun _ _ _ h => h) (loadG (by rfl) _ _ rfl _ _ rfl (tv adx ady adz) _ (fun _ hS_ => AT.out _ (hS_.2.2.2)) Try.underlying103 rfl (i103 L_adx.out L_ady.out L_adz.out)) ?_
      try simp only [Act.put, zq1, zq2, zq3, zq4, zq5, zq6]
      refine wpAnyG_take (fun _ _ hS_ hb_ => ⟨hS_.1.gr hb_, hS_.2.1.gr hb_, hS_.2.2.1.gr hb_, hS_.2.2.2.gr hb_⟩) (i := 12) rfl (by kernel_rfl) (fun _ _ _ h => h) (callG (by rfl) rfl Try.func82 (by kernel_rfl) (by kernel_rfl) (#[.agg (tv (DX t) (DY t) (DZ t)).toArray, .agg (tv adx ady adz).toArray]) (by simp [Act.eval]) (fun w _ => HP.out w)) ?_
      try simp only [Act.put, zq1, zq2, zq3, zq4, zq5, zq6]
      refine wpAnyG_set (i := 13) (by kernel_rfl) (by kernel_rfl) rfl rfl Kv10.out.drew (lenEq (tv_len (LF_X.out (t + 1)) (LF_Y.out (t + 1)) (LF_Z.out (t + 1))) (tv_len (LF_X.out t) (LF_Y.out t) (LF_Z.out t))) (StoresG.mk (cs := (tv (X t) (Y t) (Z t))) (by rfl) 103 _ _ rfl rfl rfl (i103 (LF_X.out t) (LF_Y.out t) (LF_Z.out t)) (tv_one _ _ _)) ?_
      intro w31 hgw31 hn_
      try simp only [Act.put, zq1, zq2, zq3, zq4, zq5, zq6]
      have E32 := Lib.hid (Ku.out.drew.grown hgw31 (fun e => NE10.out (Option.some.inj e)))
      clear Ku
      have E33 := Lib.hid (Kv.out.drew.grown hgw31 (fun e => NE12.out (Option.some.inj e)))
      clear Kv
      have E34 := Lib.hid (Kr8.out.drew.grown hgw31 (fun e => NE14.out (Option.some.inj e)))
      clear Kr8
      have E35 := Lib.hid (Kv9.out.drew.grown hgw31 (fun e => NE15.out (Option.some.inj e)))
      clear Kv9
      have D36 := Lib.hid hn_
      clear hn_ Kv10
      have hbel37 := belStore hbel.drew hgw31 (GE10.out)
      clear hgw31
      as_aux_lemma =>
      have i1 := IntWalk.i64_in ((t : Int) - 1) (by omega)
      go_wp2_with fail
      go_roundw
      case rel => exact ⟨t, by omega, rfl, E32.out, E33.out, E34.out, E35.out, D36.out, hbel37⟩
      case measure => simp [intOf] <;> omega
end Go.Proofs.Ytfffmoolkgheaaa
namespace Go.Proofs.Ytfffmoolkgheaaa
open Go.RowKit
set_option linter.unusedVariables false
theorem three {n : Nat} [NeZero n] (x b : Fin n) : x * x * x - (x + x + x) + b = x * x * x - 3 * x + b := by grobner
def rsF (x : FP) : FP := x * x * x - 3 * x + bP
theorem k_rs (x : FP) : Ans 73 #[.agg (natsV .u64 (cw x)).toArray] (.agg (natsV .u64 (cw (rsF x))).toArray) := fun w => by
  have h := rside (cw_len x) (cw_len (fv bP.val)) (cw_len _) (cw_len _) (cw_len _) (cw_len _) (cw_len _) (cw_len _) (fun w => by rw [lit_B]; exact k_of bP.val (lt256 bP) w) (k_dbl x) (k_add _ x) (k_sq x) (k_mul _ x) (k_sub _ _) (k_add _ _) w
  rw [fv_of, three] at h
  exact h
def onB (x y : Nat) (i : Bool) : Bool := if i then decide (x = 0 ∧ y = 0) else decide (x < mP) && (decide (y < mP) && decide (fv y * fv y = rsF (fv x)))
theorem wds0 {x : Nat} (hx : x < 2 ^ 256) : wds 4 x = zeros 4 ↔ x = 0 := by
  rw [← num_zero]; exact ⟨fun h => wds_in4 hx (by decide) h, fun h => by rw [h]⟩
theorem k_on (x y : Nat) (i : Bool) (hx : x < 2 ^ 256) (hy : y < 2 ^ 256) : Ans 29 #[.agg (pv (wds 4 x) (wds 4 y) i).toArray] (.bool (onB x y i)) := fun w => by
  cases i with
  | true =>
    have h := on_inf (wds_len 4 x) (wds_len 4 y) cinf_any w
    rw [show decide (wds 4 x = zeros 4 ∧ wds 4 y = zeros 4) = decide (x = 0 ∧ y = 0) from by rw [decide_eq_decide, wds0 hx, wds0 hy]] at h
    exact h
  | false =>
    unfold onB
    rw [if_neg (by decide)]
    by_cases h1 : x < mP
    · have c1 : Ans 70 #[.agg (natsV .u64 (wds 4 x)).toArray] (.bool true) := fun w => by have k := cbelow_any x hx w; rw [decide_eq_true h1] at k; exact k
      rw [decide_eq_true h1, Bool.true_and]
      by_cases h2 : y < mP
      · have c2 : Ans 70 #[.agg (natsV .u64 (wds 4 y)).toArray] (.bool true) := fun w => by have k := cbelow_any y hy w; rw [decide_eq_true h2] at k; exact k
        rw [decide_eq_true h2, Bool.true_and]
        have h := on_c (wds_len 4 x) (wds_len 4 y) (cw_len _) (cw_len _) (cw_len _) (cw_len _) c1 c2 (k_of y hy) (k_sq _) (k_of x hx) (k_rs _) w
        rw [show decide (cw (fv y * fv y) = cw (rsF (fv x))) = decide (fv y * fv y = rsF (fv x)) from decide_eq_decide.2 ⟨cw_inj, fun h => by rw [h]⟩] at h
        exact h
      · have c2 : Ans 70 #[.agg (natsV .u64 (wds 4 y)).toArray] (.bool false) := fun w => by have k := cbelow_any y hy w; rw [decide_eq_false h2] at k; exact k
        rw [decide_eq_false h2, Bool.false_and]
        exact on_b (wds_len 4 x) (wds_len 4 y) c1 c2 w
    · have c1 : Ans 70 #[.agg (natsV .u64 (wds 4 x)).toArray] (.bool false) := fun w => by have k := cbelow_any x hx w; rw [decide_eq_false h1] at k; exact k
      rw [decide_eq_false h1, Bool.false_and]
      exact on_a (wds_len 4 x) (wds_len 4 y) c1 w
theorem onB_pt {x y : Nat} {i : Bool} (h : onB x y i = true) : ∃ P, EC.On bP P ∧ (.agg (pv (wds 4 x) (wds 4 y) i).toArray : Value) = ptV P := by
  cases i with
  | true =>
    have h2 : x = 0 ∧ y = 0 := of_decide_eq_true h
    obtain ⟨rfl, rfl⟩ := h2
    exact ⟨.inf, trivial, by rw [num_zero]; rfl⟩
  | false =>
    unfold onB at h
    rw [if_neg (by decide)] at h
    simp only [Bool.and_eq_true, decide_eq_true_eq] at h
    obtain ⟨h1, h2, h3⟩ := h
    refine ⟨.aff (fv x) (fv y), h3, ?_⟩
    show _ = Value.agg (pv (nw (fv x)) (nw (fv y)) false).toArray
    unfold nw
    rw [fv_val, fv_val, Nat.mod_eq_of_lt h1, Nat.mod_eq_of_lt h2]
theorem k_onP {P : EC.Pt mP} (h : EC.On bP P) : Ans 29 #[ptV P] (.bool true) := fun w => by
  cases P with
  | inf =>
    have k := k_on 0 0 true (by decide) (by decide) w
    rw [num_zero] at k; exact k
  | aff X Y =>
    have k := k_on X.val Y.val false (lt256 X) (lt256 Y) w
    have e : onB X.val Y.val false = true := by
      unfold onB
      rw [if_neg (by decide), decide_eq_true X.isLt, decide_eq_true Y.isLt, fv_of, fv_of, Bool.true_and, Bool.true_and]
      exact decide_eq_true h
    rw [e] at k; exact k
def pX : EC.Pt mP → List Nat | .inf => zeros 4 | .aff x _ => nw x
def pY : EC.Pt mP → List Nat | .inf => zeros 4 | .aff _ y => nw y
def pI : EC.Pt mP → Bool | .inf => true | .aff _ _ => false
theorem ptV_eq (P : EC.Pt mP) : ptV P = .agg (pv (pX P) (pY P) (pI P)).toArray := by cases P <;> rfl
theorem pX_len (P : EC.Pt mP) : (pX P).length = 4 := by cases P; rfl; exact nw_len _
theorem pY_len (P : EC.Pt mP) : (pY P).length = 4 := by cases P; rfl; exact nw_len _
theorem k_al {P Q : EC.Pt mP} (hP : EC.On bP P) (hQ : EC.On bP Q) (g : Nat) (w : World) (h1 : w.rangeAt g 0 (pv (pX P) (pY P) (pI P))) (h2 : w.rangeAt g 9 (pv (pX Q) (pY Q) (pI Q))) :
    Calls Try.prog 80 #[.slice (some ⟨g, 0, none⟩) 2 2] w fun e w' => e = .returned (.bool true) ∧ Below w.heap.size w w' :=
  allon (b1 := true) (b2 := true) (pX_len P) (pY_len P) (pX_len Q) (pY_len Q) (fun w => by rw [← ptV_eq]; exact k_onP hP w) (fun w => by rw [← ptV_eq]; exact k_onP hQ w) g w h1 h2
theorem k_addP {P Q : EC.Pt mP} (hP : EC.On bP P) (hQ : EC.On bP Q) : Ans 38 #[ptV P, ptV Q] (.tuple #[ptV (EC.sum P Q), .int .i64 0]) := fun w => by
  have hJ := (trOf_jac P).plus okP hP hQ (trOf_jac Q)
  rw [ptV_eq P, ptV_eq Q, ptV_eq (EC.sum P Q)]
  exact add_ok (pX_len P) (pY_len P) (pX_len Q) (pY_len Q) (cw_len _) (cw_len _) (cw_len _) (cw_len _) (cw_len _) (cw_len _) (cw_len _) (cw_len _) (cw_len _) (pX_len _) (pY_len _)
    (fun w => by rw [← ptV_eq]; exact k_tof P w) (fun w => by rw [← ptV_eq]; exact k_tof Q w) (k_plus (trOf P) (trOf Q)) (fun w => by rw [← ptV_eq]; exact k_point hJ w) (k_al hP hQ) w
def adT (P Q : EC.Pt mP) (k : Nat) : EC.Tr mP := if k = 0 then ⟨0, 0, 0⟩ else if k = 1 then trOf P else if k = 2 then trOf Q else EC.plusF (trOf P) (trOf Q)
def digit2 (u v s : Nat) : Nat := u / 2 ^ s % 2 + 2 * (v / 2 ^ s % 2)
def accT (P Q : EC.Pt mP) (u v T : Nat) : Nat → EC.Tr mP
  | 0 => ⟨0, 0, 0⟩
  | n + 1 => EC.plusF (EC.twiceF (accT P Q u v T n)) (adT P Q (digit2 u v (T - (n + 1))))
theorem adT_jac {P Q : EC.Pt mP} (hP : EC.On bP P) (hQ : EC.On bP Q) (i j : Nat) (hi : i < 2) (hj : j < 2) : EC.Jac (adT P Q (i + 2 * j)) (EC.sum (EC.mul i P) (EC.mul j Q)) := by
  have h1 : EC.mul 1 P = P := EC.inf_sum P
  have h2 : EC.mul 1 Q = Q := EC.inf_sum Q
  have hi' : i = 0 ∨ i = 1 := by omega
  have hj' : j = 0 ∨ j = 1 := by omega
  rcases hi' with rfl | rfl <;> rcases hj' with rfl | rfl
  · exact (rfl : (0 : FP) = 0)
  · rw [h2]; show EC.Jac (trOf Q) (EC.sum .inf Q); rw [EC.inf_sum]; exact trOf_jac Q
  · rw [h1]; show EC.Jac (trOf P) (EC.sum P .inf); rw [EC.sum_inf]; exact trOf_jac P
  · rw [h1, h2]; exact (trOf_jac P).plus okP hP hQ (trOf_jac Q)
theorem half_bit (u T n : Nat) (h : n + 1 ≤ T) : u / 2 ^ (T - (n + 1)) = 2 * (u / 2 ^ (T - n)) + u / 2 ^ (T - (n + 1)) % 2 := by
  have e : T - n = (T - (n + 1)) + 1 := by omega
  rw [e, Nat.pow_succ, ← Nat.div_div_eq_div_mul]; omega
theorem accT_jac {P Q : EC.Pt mP} (hP : EC.On bP P) (hQ : EC.On bP Q) {u v T : Nat} (hu : u < 2 ^ T) (hv : v < 2 ^ T) : ∀ n, n ≤ T → EC.Jac (accT P Q u v T n) (EC.sum (EC.mul (u / 2 ^ (T - n)) P) (EC.mul (v / 2 ^ (T - n)) Q))
  | 0, _ => by
    rw [Nat.sub_zero, Nat.div_eq_of_lt hu, Nat.div_eq_of_lt hv]
    exact (rfl : (0 : FP) = 0)
  | n + 1, hn => by
    have ih := accT_jac hP hQ hu hv n (by omega)
    have m := fun k => EC.mul.on okP hP k
    have m2 := fun k => EC.mul.on okP hQ k
    have h1 := ih.twice okP (EC.sum.on okP (m _) (m2 _))
    have h2 := h1.plus okP (EC.sum.on okP (EC.sum.on okP (m _) (m2 _)) (EC.sum.on okP (m _) (m2 _))) (EC.sum.on okP (m _) (m2 _)) (adT_jac hP hQ (u / 2 ^ (T - (n + 1)) % 2) (v / 2 ^ (T - (n + 1)) % 2) (Nat.mod_lt _ (by decide)) (Nat.mod_lt _ (by decide)))
    rw [EC.swap4 okP (m _) (m2 _) (m _) (m2 _), ← EC.mul_bit okP hP, ← EC.mul_bit okP hQ, EC.swap4 okP (m _) (m2 _) (m _) (m2 _), ← EC.mul_add okP hP, ← EC.mul_add okP hQ, ← half_bit u T n hn, ← half_bit v T n hn] at h2
    exact h2
theorem ad_cw (P Q : EC.Pt mP) (f : EC.Tr mP → FP) (hf : f ⟨0, 0, 0⟩ = 0) (k : Nat) : ad k (zeros 4) (cw (f (trOf P))) (cw (f (trOf Q))) (cw (f (EC.plusF (trOf P) (trOf Q)))) = cw (f (adT P Q k)) := by
  unfold ad adT
  split
  · rw [hf, cw_zero]
  · split
    · rfl
    · split <;> rfl
theorem k_multi (P Q : EC.Pt mP) (u v : Nat) (hu : u < 2 ^ 256) (hv : v < 2 ^ 256) :
    Ans 85 #[.agg (natsV .u64 (wds 4 u)).toArray, tj (trOf P), .agg (natsV .u64 (wds 4 v)).toArray, tj (trOf Q)] (tj (accT P Q u v (max (bl u) (bl v)) (max (bl u) (bl v)))) := fun w => by
  have hbu := (bl_le_iff 256 u).2 hu
  have hbv := (bl_le_iff 256 v).2 hv
  obtain ⟨T, hT⟩ : ∃ T, T = max (bl u) (bl v) := ⟨_, rfl⟩
  have hT2 : T ≤ 256 := by omega
  rw [← hT]
  have S : ∀ t, t < T → T - t = (T - (t + 1)) + 1 := fun t h => by omega
  have h := multiples_w (X := fun t => cw (accT P Q u v T (T - t)).x) (Y := fun t => cw (accT P Q u v T (T - t)).y) (Z := fun t => cw (accT P Q u v T (T - t)).z)
    (DX := fun t => cw (EC.twiceF (accT P Q u v T (T - (t + 1)))).x) (DY := fun t => cw (EC.twiceF (accT P Q u v T (T - (t + 1)))).y) (DZ := fun t => cw (EC.twiceF (accT P Q u v T (T - (t + 1)))).z)
    (bu := fun t => u / 2 ^ t % 2) (bv := fun t => v / 2 ^ t % 2) (T := T)
    (wds_len 4 u) (wds_len 4 v) (cw_len _) (cw_len _) (cw_len _) (cw_len _) (cw_len _) (cw_len _) (cw_len _) (cw_len _) (cw_len _) (fun _ => cw_len _) (fun _ => cw_len _) (fun _ => cw_len _) (fun _ => cw_len _) (fun _ => cw_len _) (fun _ => cw_len _)
    (fun t => by have := Nat.mod_lt (u / 2 ^ t) (show 0 < 2 by decide); omega) (fun t => by have := Nat.mod_lt (v / 2 ^ t) (show 0 < 2 by decide); omega) hT2 (by omega)
    (by rw [Nat.sub_self]; exact cw_zero) (by rw [Nat.sub_self]; exact cw_zero) (by rw [Nat.sub_self]; exact cw_zero)
    (k_plus (trOf P) (trOf Q)) (fun w => Bits_any u w hu) (fun w => Bits_any v w hv)
    (fun t ht w => k_twice (accT P Q u v T (T - (t + 1))) w)
    (fun t ht w => by have k := Bit_any u (t : Int) w (by omega) (by omega); rw [bitZ_in u t (by omega)] at k; exact k)
    (fun t ht w => by have k := Bit_any v (t : Int) w (by omega) (by omega); rw [bitZ_in v t (by omega)] at k; exact k)
    (fun t ht w => by
      have k := k_plus (EC.twiceF (accT P Q u v T (T - (t + 1)))) (adT P Q (digit2 u v t)) w
      have e : accT P Q u v T (T - t) = EC.plusF (EC.twiceF (accT P Q u v T (T - (t + 1)))) (adT P Q (digit2 u v t)) := by
        rw [S t ht]
        show EC.plusF _ (adT P Q (digit2 u v (T - (T - (t + 1) + 1)))) = _
        rw [show T - (T - (t + 1) + 1) = t by omega]
      rw [← e] at k
      have ax := ad_cw P Q EC.Tr.x rfl (digit2 u v t)
      have ay := ad_cw P Q EC.Tr.y rfl (digit2 u v t)
      have az := ad_cw P Q EC.Tr.z rfl (digit2 u v t)
      have k2 : Calls Try.prog 82 #[.agg (tv (cw (EC.twiceF (accT P Q u v T (T - (t + 1)))).x) (cw (EC.twiceF (accT P Q u v T (T - (t + 1)))).y) (cw (EC.twiceF (accT P Q u v T (T - (t + 1)))).z)).toArray, .agg (tv (cw (adT P Q (digit2 u v t)).x) (cw (adT P Q (digit2 u v t)).y) (cw (adT P Q (digit2 u v t)).z)).toArray] w fun e w' => e = .returned (.agg (tv (cw (accT P Q u v T (T - t)).x) (cw (accT P Q u v T (T - t)).y) (cw (accT P Q u v T (T - t)).z)).toArray) ∧ Below w.heap.size w w' := k
      rw [← ax, ← ay, ← az] at k2
      exact k2) w
  exact h
theorem k_twoP {P Q : EC.Pt mP} (hP : EC.On bP P) (hQ : EC.On bP Q) (u v : Nat) (hu : u < 2 ^ 256) (hv : v < 2 ^ 256) :
    Ans 41 #[.agg (natsV .u64 (wds 4 u)).toArray, ptV P, .agg (natsV .u64 (wds 4 v)).toArray, ptV Q] (.tuple #[ptV (EC.sum (EC.mul u P) (EC.mul v Q)), .int .i64 0]) := fun w => by
  have hJ := accT_jac hP hQ (u := u) (v := v) (T := max (bl u) (bl v)) ((bl_le_iff _ u).1 (by omega)) ((bl_le_iff _ v).1 (by omega)) _ (Nat.le_refl _)
  rw [Nat.sub_self, Nat.pow_zero, Nat.div_one, Nat.div_one] at hJ
  rw [ptV_eq P, ptV_eq Q, ptV_eq (EC.sum (EC.mul u P) (EC.mul v Q))]
  exact two_ok (wds_len 4 u) (wds_len 4 v) (pX_len P) (pY_len P) (pX_len Q) (pY_len Q) (cw_len _) (cw_len _) (cw_len _) (cw_len _) (cw_len _) (cw_len _) (cw_len _) (cw_len _) (cw_len _) (pX_len _) (pY_len _)
    (fun w => by rw [← ptV_eq]; exact k_tof P w) (fun w => by rw [← ptV_eq]; exact k_tof Q w) (k_multi P Q u v hu hv) (fun w => by rw [← ptV_eq]; exact k_point hJ w) (k_al hP hQ) w
theorem k_mulP {P : EC.Pt mP} (hP : EC.On bP P) (u : Nat) (hu : u < 2 ^ 256) : Ans 40 #[.agg (natsV .u64 (wds 4 u)).toArray, ptV P] (.tuple #[ptV (EC.mul u P), .int .i64 0]) := fun w => by
  have h := k_twoP hP (Q := .inf) trivial u 0 hu (by decide)
  rw [show EC.mul 0 (.inf : EC.Pt mP) = .inf from rfl, EC.sum_inf, ptV_eq P, ptV_eq (EC.mul u P)] at h
  rw [ptV_eq P, ptV_eq (EC.mul u P)]
  exact mul_w (wds_len 4 u) (pX_len P) (pY_len P) (pX_len _) (pY_len _) cinf_any (fun w => by have k := h w; rw [num_zero] at k; exact k) w
end Go.Proofs.Ytfffmoolkgheaaa
