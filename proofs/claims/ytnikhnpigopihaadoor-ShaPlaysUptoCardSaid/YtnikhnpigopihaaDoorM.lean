/- SHA-256, SHA-384 and SHA-512 as plain arithmetic on naturals: words, the schedule of a block, its rounds, the state behind a block. No condition. -/
import Derived.Laws.BitsAllLaws
namespace Go.Proofs.YtnikhnpigopihaaDoor

/-- x turned right by n within W bits -/
def rot (W n x : Nat) : Nat := x / 2 ^ n + (x % 2 ^ n) * 2 ^ (W - n)
def shr (n x : Nat) : Nat := x / 2 ^ n
def add (W x y : Nat) : Nat := (x + y) % 2 ^ W
def bx (W x y : Nat) : Nat := (x % 2 ^ W) ^^^ (y % 2 ^ W)
def ba (W x y : Nat) : Nat := (x % 2 ^ W) &&& (y % 2 ^ W)
def bn (W x : Nat) : Nat := 2 ^ W - 1 - x % 2 ^ W
/-- the number of some bytes, the highest one first -/
def be (l : List Nat) : Nat := l.foldl (fun v x => v * 256 + x) 0

structure St where
  a : Nat
  b : Nat
  c : Nat
  d : Nat
  e : Nat
  f : Nat
  g : Nat
  h : Nat

def St.list (s : St) : List Nat := [s.a, s.b, s.c, s.d, s.e, s.f, s.g, s.h]
def St.of (l : List Nat) : St := ⟨l.getD 0 0, l.getD 1 0, l.getD 2 0, l.getD 3 0, l.getD 4 0, l.getD 5 0, l.getD 6 0, l.getD 7 0⟩
def St.ok (W : Nat) (s : St) : Prop := s.a < 2 ^ W ∧ s.b < 2 ^ W ∧ s.c < 2 ^ W ∧ s.d < 2 ^ W ∧ s.e < 2 ^ W ∧ s.f < 2 ^ W ∧ s.g < 2 ^ W ∧ s.h < 2 ^ W

def bigA (W x : Nat) : Nat := if W = 32 then bx 32 (bx 32 (rot 32 2 x) (rot 32 13 x)) (rot 32 22 x) else bx 64 (bx 64 (rot 64 28 x) (rot 64 34 x)) (rot 64 39 x)
def bigE (W x : Nat) : Nat := if W = 32 then bx 32 (bx 32 (rot 32 6 x) (rot 32 11 x)) (rot 32 25 x) else bx 64 (bx 64 (rot 64 14 x) (rot 64 18 x)) (rot 64 41 x)
def smA (W x : Nat) : Nat := if W = 32 then bx 32 (bx 32 (rot 32 7 x) (rot 32 18 x)) (shr 3 x) else bx 64 (bx 64 (rot 64 1 x) (rot 64 8 x)) (shr 7 x)
def smE (W x : Nat) : Nat := if W = 32 then bx 32 (bx 32 (rot 32 17 x) (rot 32 19 x)) (shr 10 x) else bx 64 (bx 64 (rot 64 19 x) (rot 64 61 x)) (shr 6 x)
def ch (W e f g : Nat) : Nat := bx W (ba W e f) (ba W (bn W e) g)
def maj (W a b c : Nat) : Nat := bx W (bx W (ba W a b) (ba W a c)) (ba W b c)

def cubesN : List Nat := [4794697086780616226, 8158064640168781261, 13096744586834688815, 16840607885511220156, 4131703408338449720, 6480981068601479193, 10538285296894168987, 12329834152419229976, 15566598209576043074, 1334009975649890238, 2608012711638119052, 6128411473006802146, 8268148722764581231, 9286055187155687089, 11230858885718282805, 13951009754708518548, 16472876342353939154, 17275323862435702243, 1135362057144423861, 2597628984639134821, 3308224258029322869, 5365058923640841347, 6679025012923562964, 8573033837759648693, 10970295158949994411, 12119686244451234320, 12683024718118986047, 13788192230050041572, 14330467153632333762, 15395433587784984357, 489312712824947311, 1452737877330783856, 2861767655752347644, 3322285676063803686, 5560940570517711597, 5996557281743188959, 7280758554555802590, 8532644243296465576, 9350256976987008742, 10552545826968843579, 11727347734174303076, 12113106623233404929, 14000437183269869457, 14369950271660146224, 15101387698204529176, 15463397548674623760, 17586052441742319658, 1182934255886127544, 1847814050463011016, 2177327727835720531, 2830643537854262169, 3796741975233480872, 4115178125766777443, 5681478168544905931, 6601373596472566643, 7507060721942968483, 8399075790359081724, 8693463985226723168, 9568029438360202098, 10144078919501101548, 10430055236837252648, 11840083180663258601, 13761210420658862357, 14299343276471374635, 14566680578165727644, 15097957966210449927, 16922976911328602910, 17689382322260857208, 500013540394364858, 748580250866718886, 1242879168328830382, 1977374033974150939, 2944078676154940804, 3659926193048069267, 4368137639120453308, 4836135668995329356, 5532061633213252278, 6448918945643986474, 6902733635092675308, 7801388544844847127]
def rootsN : List Nat := [7640891576956012808, 13503953896175478587, 4354685564936845355, 11912009170470909681, 5840696475078001361, 11170449401992604703, 2270897969802886507, 6620516959819538809, 14680500436340154072, 7105036623409894663, 10473403895298186519, 1526699215303891257, 7436329637833083697, 10282925794625328401, 15784041429090275239, 5167115440072839076]
def kc (W t : Nat) : Nat := if W = 32 then cubesN.getD t 0 / 4294967296 else cubesN.getD t 0

/-- the block's word at place t -/
def wd (W : Nat) (b : List Nat) (t : Nat) : Nat := be ((b.drop (W / 8 * t)).take (W / 8))
/-- the word of the schedule behind these -/
def nextW (W : Nat) (b m : List Nat) (t : Nat) : Nat :=
  if t < 16 then wd W b t else add W (add W (add W (smE W (m.getD (t - 2) 0)) (m.getD (t - 7) 0)) (smA W (m.getD (t - 15) 0))) (m.getD (t - 16) 0)
/-- the first t words of the schedule -/
def wds (W : Nat) (b : List Nat) : Nat → List Nat
  | 0 => []
  | t + 1 => wds W b t ++ [nextW W b (wds W b t) t]

def rnd1 (W k w : Nat) (s : St) : Nat := add W (add W (add W (add W s.h (bigE W s.e)) (ch W s.e s.f s.g)) k) w
def rnd2 (W : Nat) (s : St) : Nat := add W (bigA W s.a) (maj W s.a s.b s.c)
def rnd (W k w : Nat) (s : St) : St := ⟨add W (rnd1 W k w s) (rnd2 W s), s.a, s.b, s.c, add W s.d (rnd1 W k w s), s.e, s.f, s.g⟩
def rnds (W : Nat) (ws : List Nat) (s : St) : Nat → St
  | 0 => s
  | t + 1 => rnd W (kc W t) (ws.getD t 0) (rnds W ws s t)
def rounds (W : Nat) : Nat := if W = 32 then 64 else 80
/-- the state behind a block -/
def mix (W : Nat) (s b : List Nat) : List Nat := List.zipWith (add W) s (rnds W (wds W b (rounds W)) (St.of s) (rounds W)).list

theorem smA32 (x : Nat) : smA 32 x = bx 32 (bx 32 (rot 32 7 x) (rot 32 18 x)) (shr 3 x) := if_pos rfl
theorem smE32 (x : Nat) : smE 32 x = bx 32 (bx 32 (rot 32 17 x) (rot 32 19 x)) (shr 10 x) := if_pos rfl
theorem bigA32 (x : Nat) : bigA 32 x = bx 32 (bx 32 (rot 32 2 x) (rot 32 13 x)) (rot 32 22 x) := if_pos rfl
theorem bigE32 (x : Nat) : bigE 32 x = bx 32 (bx 32 (rot 32 6 x) (rot 32 11 x)) (rot 32 25 x) := if_pos rfl
theorem smA64 (x : Nat) : smA 64 x = bx 64 (bx 64 (rot 64 1 x) (rot 64 8 x)) (shr 7 x) := if_neg (by decide)
theorem smE64 (x : Nat) : smE 64 x = bx 64 (bx 64 (rot 64 19 x) (rot 64 61 x)) (shr 6 x) := if_neg (by decide)
theorem bigA64 (x : Nat) : bigA 64 x = bx 64 (bx 64 (rot 64 28 x) (rot 64 34 x)) (rot 64 39 x) := if_neg (by decide)
theorem bigE64 (x : Nat) : bigE 64 x = bx 64 (bx 64 (rot 64 14 x) (rot 64 18 x)) (rot 64 41 x) := if_neg (by decide)
theorem kc32 (t : Nat) : kc 32 t = cubesN.getD t 0 / 4294967296 := if_pos rfl
theorem kc64 (t : Nat) : kc 64 t = cubesN.getD t 0 := if_neg (by decide)
theorem rounds32 : rounds 32 = 64 := if_pos rfl
theorem rounds64 : rounds 64 = 80 := if_neg (by decide)
theorem shr_eq (n x : Nat) : shr n x = x / 2 ^ n := rfl
theorem nextW_lo (W : Nat) (b m : List Nat) (t : Nat) (h : t < 16) : nextW W b m t = wd W b t := if_pos h
theorem nextW_hi (W : Nat) (b m : List Nat) (t : Nat) (h : ¬ t < 16) : nextW W b m t = add W (add W (add W (smE W (m.getD (t - 2) 0)) (m.getD (t - 7) 0)) (smA W (m.getD (t - 15) 0))) (m.getD (t - 16) 0) := if_neg h

theorem rnd_eq (W k w a b c d e f g h : Nat) : rnd W k w ⟨a, b, c, d, e, f, g, h⟩ =
    ⟨add W (add W (add W (add W (add W h (bigE W e)) (bx W (ba W e f) (ba W (bn W e) g))) k) w) (add W (bigA W a) (bx W (bx W (ba W a b) (ba W a c)) (ba W b c))), a, b, c,
     add W d (add W (add W (add W (add W h (bigE W e)) (bx W (ba W e f) (ba W (bn W e) g))) k) w), e, f, g⟩ := rfl
theorem rnds_succ (W : Nat) (ws : List Nat) (s : St) (t : Nat) : rnds W ws s (t + 1) = rnd W (kc W t) (ws.getD t 0) (rnds W ws s t) := rfl

/-! ### bounds -/
theorem two_pow_pos' (W : Nat) : 0 < 2 ^ W := Nat.two_pow_pos W
theorem add_lt (W x y : Nat) : add W x y < 2 ^ W := Nat.mod_lt _ (two_pow_pos' W)
theorem bx_lt (W x y : Nat) : bx W x y < 2 ^ W := Nat.xor_lt_two_pow (Nat.mod_lt _ (two_pow_pos' W)) (Nat.mod_lt _ (two_pow_pos' W))
theorem ba_lt (W x y : Nat) : ba W x y < 2 ^ W := Nat.and_lt_two_pow _ (Nat.mod_lt _ (two_pow_pos' W))
theorem bn_lt (W x : Nat) : bn W x < 2 ^ W := by have := two_pow_pos' W; unfold bn; omega
theorem be_append (l : List Nat) (x : Nat) : be (l ++ [x]) = be l * 256 + x := by simp [be]
theorem be_lt' (l : List Nat) (h : ∀ x ∈ l, x < 256) : ∀ v, l.foldl (fun v x => v * 256 + x) v < (v + 1) * 256 ^ l.length := by
  induction l with
  | nil => intro v; simp
  | cons x l ih =>
    intro v
    have h1 := ih (fun y hy => h y (by simp [hy])) (v * 256 + x)
    have h2 := h x (by simp)
    rw [List.foldl_cons, List.length_cons, Nat.pow_succ, Nat.mul_comm (256 ^ l.length), ← Nat.mul_assoc]
    exact Nat.lt_of_lt_of_le h1 (Nat.mul_le_mul_right _ (by omega))
theorem be_lt (l : List Nat) (h : ∀ x ∈ l, x < 256) : be l < 256 ^ l.length := by
  have := be_lt' l h 0
  simpa [be] using this
theorem rot_lt {W n x : Nat} (hn : n ≤ W) (hx : x < 2 ^ W) : rot W n x < 2 ^ W := by
  unfold rot
  have e : 2 ^ W = 2 ^ n * 2 ^ (W - n) := by rw [← Nat.pow_add]; congr 1; omega
  have h1 : x / 2 ^ n < 2 ^ (W - n) := by rw [Nat.div_lt_iff_lt_mul (two_pow_pos' n), Nat.mul_comm, ← e]; exact hx
  have h2 : x % 2 ^ n < 2 ^ n := Nat.mod_lt _ (two_pow_pos' n)
  have h3 : (x % 2 ^ n + 1) * 2 ^ (W - n) ≤ 2 ^ n * 2 ^ (W - n) := Nat.mul_le_mul_right _ h2
  rw [Nat.add_mul, Nat.one_mul] at h3
  omega
theorem rot_or {W n x : Nat} (hn : n ≤ W) (hx : x < 2 ^ W) : (x / 2 ^ n) ||| (x * 2 ^ (W - n) % 2 ^ W) = rot W n x := by
  have e : 2 ^ W = 2 ^ n * 2 ^ (W - n) := by rw [← Nat.pow_add]; congr 1; omega
  have h1 : x / 2 ^ n < 2 ^ (W - n) := by rw [Nat.div_lt_iff_lt_mul (two_pow_pos' n), Nat.mul_comm, ← e]; exact hx
  have h2 : x * 2 ^ (W - n) % 2 ^ W = (x % 2 ^ n) * 2 ^ (W - n) := by rw [e, Nat.mul_mod_mul_right]
  rw [h2, Nat.or_comm, Nat.mul_comm, ← Nat.two_pow_add_eq_or_of_lt h1]
  unfold rot
  rw [Nat.mul_comm (x % 2 ^ n)]; omega
theorem shr_lt {W n x : Nat} (hx : x < 2 ^ W) : shr n x < 2 ^ W := Nat.lt_of_le_of_lt (Nat.div_le_self _ _) hx
theorem cubes_lt (t : Nat) : cubesN.getD t 0 < 18446744073709551616 := by
  by_cases h : t < 80
  · have : ∀ i, i < 80 → cubesN.getD i 0 < 18446744073709551616 := by decide +kernel
    exact this t h
  · rw [List.getD_eq_getElem?_getD, List.getElem?_eq_none (by simp [cubesN]; omega)]; decide
theorem kc_lt {W : Nat} (hW : W = 32 ∨ W = 64) (t : Nat) : kc W t < 2 ^ W := by
  have := cubes_lt t
  rcases hW with rfl | rfl
  · simp only [kc, if_true]; omega
  · simp only [kc]; rw [if_neg (by decide)]; exact this
theorem wds_length (W : Nat) (b : List Nat) (t : Nat) : (wds W b t).length = t := by
  induction t with
  | zero => rfl
  | succ t ih => simp [wds, ih]
theorem wd_lt {W : Nat} (hW : W = 32 ∨ W = 64) {b : List Nat} (hb : ∀ x ∈ b, x < 256) (t : Nat) : wd W b t < 2 ^ W := by
  have h := be_lt ((b.drop (W / 8 * t)).take (W / 8)) (fun x hx => hb x (List.mem_of_mem_drop (List.mem_of_mem_take hx)))
  have h2 : ((b.drop (W / 8 * t)).take (W / 8)).length ≤ W / 8 := List.length_take_le _ _
  refine Nat.lt_of_lt_of_le h (Nat.le_trans (Nat.pow_le_pow_right (by decide) h2) ?_)
  rcases hW with rfl | rfl <;> decide
theorem nextW_lt {W : Nat} (hW : W = 32 ∨ W = 64) {b : List Nat} (hb : ∀ x ∈ b, x < 256) (m : List Nat) (t : Nat) : nextW W b m t < 2 ^ W := by
  unfold nextW; split
  · exact wd_lt hW hb t
  · exact add_lt _ _ _
theorem wds_lt {W : Nat} (hW : W = 32 ∨ W = 64) {b : List Nat} (hb : ∀ x ∈ b, x < 256) (t : Nat) : ∀ x ∈ wds W b t, x < 2 ^ W := by
  induction t with
  | zero => intro x hx; cases hx
  | succ t ih =>
    intro x hx
    rcases List.mem_append.1 hx with hx | hx
    · exact ih x hx
    · obtain rfl := List.mem_singleton.1 hx; exact nextW_lt hW hb _ _
theorem getD_lt' {l : List Nat} {m : Nat} (h : ∀ x ∈ l, x < m) (hm : 0 < m) (k : Nat) : l.getD k 0 < m := by
  by_cases hk : k < l.length
  · rw [List.getD_eq_getElem?_getD, List.getElem?_eq_getElem hk]; exact h _ (List.getElem_mem hk)
  · rw [List.getD_eq_getElem?_getD, List.getElem?_eq_none (by omega)]; exact hm
theorem rnd_ok {W k w : Nat} {s : St} (h : s.ok W) : (rnd W k w s).ok W :=
  ⟨add_lt _ _ _, h.1, h.2.1, h.2.2.1, add_lt _ _ _, h.2.2.2.2.1, h.2.2.2.2.2.1, h.2.2.2.2.2.2.1⟩
theorem rnds_ok {W : Nat} {ws : List Nat} {s : St} (h : s.ok W) (t : Nat) : (rnds W ws s t).ok W := by
  induction t with
  | zero => exact h
  | succ t ih => exact rnd_ok ih
theorem St.of_ok {W : Nat} {l : List Nat} (h : ∀ x ∈ l, x < 2 ^ W) : (St.of l).ok W := by
  have g := getD_lt' h (two_pow_pos' W)
  exact ⟨g 0, g 1, g 2, g 3, g 4, g 5, g 6, g 7⟩
theorem mix_length {W : Nat} {s b : List Nat} (h : s.length = 8) : (mix W s b).length = 8 := by simp [mix, St.list, h]
theorem mix_lt {W : Nat} (s b : List Nat) : ∀ x ∈ mix W s b, x < 2 ^ W := by
  intro x hx
  unfold mix at hx
  obtain ⟨i, hi, rfl⟩ := List.mem_iff_getElem.1 hx
  rw [List.getElem_zipWith]
  exact add_lt _ _ _

/-- the first k sums, and the rest as it was -/
def sumTo (W : Nat) (s v : List Nat) (k : Nat) : List Nat := (List.zipWith (add W) s v).take k ++ s.drop k
theorem sumTo_zero (W : Nat) (s v : List Nat) : sumTo W s v 0 = s := by simp [sumTo]
theorem sumTo_all (W : Nat) (s v : List Nat) (hs : s.length = 8) (hv : v.length = 8) : sumTo W s v 8 = List.zipWith (add W) s v := by
  unfold sumTo; rw [List.take_of_length_le (by simp [hs, hv]), List.drop_of_length_le (by omega), List.append_nil]
theorem sumTo_length (W : Nat) (s v : List Nat) (k : Nat) (h : v.length = s.length) (hk : k ≤ s.length) : (sumTo W s v k).length = s.length := by simp [sumTo, h]; omega
theorem sumTo_get (W : Nat) (s v : List Nat) (k : Nat) (h : v.length = s.length) (hk : k < s.length) : (sumTo W s v k).getD k 0 = s.getD k 0 := by
  unfold sumTo
  simp only [List.getD_eq_getElem?_getD]
  rw [List.getElem?_append_right (by simp [h]; omega), List.getElem?_drop]
  congr 2; simp [h]; omega
theorem sumTo_set (W : Nat) (s v : List Nat) (k : Nat) (h : v.length = s.length) (hk : k < s.length) : (sumTo W s v k).set k (add W (s.getD k 0) (v.getD k 0)) = sumTo W s v (k + 1) := by
  have hz : (List.zipWith (add W) s v).length = s.length := by simp [h]
  have e : (List.zipWith (add W) s v)[k]'(by omega) = add W (s.getD k 0) (v.getD k 0) := by
    rw [List.getElem_zipWith]; simp [List.getD_eq_getElem?_getD, hk, h]
  unfold sumTo
  rw [List.set_append_right (h := by simp [h]; omega), List.take_succ_eq_append_getElem (by omega), e, List.append_assoc]
  congr 1
  have e2 : k - (List.take k (List.zipWith (add W) s v)).length = 0 := by simp [h]; omega
  rw [e2, List.drop_eq_getElem_cons hk]
  rfl

/-! ### the model's words for it -/
theorem u32_add (a b : Nat) : IntKind.u32.wrap ((a : Int) + (b : Int)) = ((add 32 a b : Nat) : Int) := by
  rw [IntKind.wrap_u32']; unfold add; omega
theorem u32_add' (a b : Nat) : ((a : Int) + (b : Int)) % 4294967296 = ((add 32 a b : Nat) : Int) := by
  unfold add; omega
theorem u64_add (a b : Nat) : IntKind.u64.wrap ((a : Int) + (b : Int)) = ((add 64 a b : Nat) : Int) := by
  rw [IntKind.wrap_u64]; unfold add; omega
theorem u32_cut (a : Nat) : IntKind.u32.wrap (a : Int) = ((a % 4294967296 : Nat) : Int) := by
  rw [IntKind.wrap_u32']; omega
theorem u64_cut (a : Nat) : IntKind.u64.wrap (a : Int) = ((a % 18446744073709551616 : Nat) : Int) := by
  rw [IntKind.wrap_u64]; omega
theorem ofInt_mod32 (a : Nat) : BitVec.ofInt 32 (a : Int) = BitVec.ofNat 32 (a % 2 ^ 32) := by
  apply BitVec.eq_of_toNat_eq; simp
theorem ofInt_mod64 (a : Nat) : BitVec.ofInt 64 (a : Int) = BitVec.ofNat 64 (a % 2 ^ 64) := by
  apply BitVec.eq_of_toNat_eq; simp
theorem u32_bx (a b : Nat) : bits .xor .u32 (a : Int) (b : Int) = ((bx 32 a b : Nat) : Int) := by
  have h := u32_xor_nat (a % 2 ^ 32) (b % 2 ^ 32) (Nat.mod_lt _ (by decide)) (Nat.mod_lt _ (by decide))
  have e : bits .xor .u32 (a : Int) (b : Int) = bits .xor .u32 ((a % 2 ^ 32 : Nat) : Int) ((b % 2 ^ 32 : Nat) : Int) := by
    show IntKind.u32.wrap ((BitVec.ofInt 32 (a : Int) ^^^ BitVec.ofInt 32 (b : Int)).toNat : Int) = IntKind.u32.wrap ((BitVec.ofInt 32 ((a % 2 ^ 32 : Nat) : Int) ^^^ BitVec.ofInt 32 ((b % 2 ^ 32 : Nat) : Int)).toNat : Int)
    rw [ofInt_mod32 a, ofInt_mod32 b, ofInt_mod32 (a % 2 ^ 32), ofInt_mod32 (b % 2 ^ 32), Nat.mod_mod, Nat.mod_mod]
  rw [e, h]; rfl
theorem u64_bx (a b : Nat) : bits .xor .u64 (a : Int) (b : Int) = ((bx 64 a b : Nat) : Int) := by
  have h := u64_xor_nat (a % 2 ^ 64) (b % 2 ^ 64) (Nat.mod_lt _ (by decide)) (Nat.mod_lt _ (by decide))
  have e : bits .xor .u64 (a : Int) (b : Int) = bits .xor .u64 ((a % 2 ^ 64 : Nat) : Int) ((b % 2 ^ 64 : Nat) : Int) := by
    show IntKind.u64.wrap ((BitVec.ofInt 64 (a : Int) ^^^ BitVec.ofInt 64 (b : Int)).toNat : Int) = IntKind.u64.wrap ((BitVec.ofInt 64 ((a % 2 ^ 64 : Nat) : Int) ^^^ BitVec.ofInt 64 ((b % 2 ^ 64 : Nat) : Int)).toNat : Int)
    rw [ofInt_mod64 a, ofInt_mod64 b, ofInt_mod64 (a % 2 ^ 64), ofInt_mod64 (b % 2 ^ 64), Nat.mod_mod, Nat.mod_mod]
  rw [e, h]; rfl
theorem u32_ba (a b : Nat) : bits .and .u32 (a : Int) (b : Int) = ((ba 32 a b : Nat) : Int) := by
  have h := u32_and_nat (a % 2 ^ 32) (b % 2 ^ 32) (Nat.mod_lt _ (by decide)) (Nat.mod_lt _ (by decide))
  have e : bits .and .u32 (a : Int) (b : Int) = bits .and .u32 ((a % 2 ^ 32 : Nat) : Int) ((b % 2 ^ 32 : Nat) : Int) := by
    show IntKind.u32.wrap ((BitVec.ofInt 32 (a : Int) &&& BitVec.ofInt 32 (b : Int)).toNat : Int) = IntKind.u32.wrap ((BitVec.ofInt 32 ((a % 2 ^ 32 : Nat) : Int) &&& BitVec.ofInt 32 ((b % 2 ^ 32 : Nat) : Int)).toNat : Int)
    rw [ofInt_mod32 a, ofInt_mod32 b, ofInt_mod32 (a % 2 ^ 32), ofInt_mod32 (b % 2 ^ 32), Nat.mod_mod, Nat.mod_mod]
  rw [e, h]; rfl
theorem u64_ba (a b : Nat) : bits .and .u64 (a : Int) (b : Int) = ((ba 64 a b : Nat) : Int) := by
  have h := u64_and_nat (a % 2 ^ 64) (b % 2 ^ 64) (Nat.mod_lt _ (by decide)) (Nat.mod_lt _ (by decide))
  have e : bits .and .u64 (a : Int) (b : Int) = bits .and .u64 ((a % 2 ^ 64 : Nat) : Int) ((b % 2 ^ 64 : Nat) : Int) := by
    show IntKind.u64.wrap ((BitVec.ofInt 64 (a : Int) &&& BitVec.ofInt 64 (b : Int)).toNat : Int) = IntKind.u64.wrap ((BitVec.ofInt 64 ((a % 2 ^ 64 : Nat) : Int) &&& BitVec.ofInt 64 ((b % 2 ^ 64 : Nat) : Int)).toNat : Int)
    rw [ofInt_mod64 a, ofInt_mod64 b, ofInt_mod64 (a % 2 ^ 64), ofInt_mod64 (b % 2 ^ 64), Nat.mod_mod, Nat.mod_mod]
  rw [e, h]; rfl
theorem flip_xor (W x : Nat) (h : x < 2 ^ W) : (2 ^ W - 1) ^^^ x = 2 ^ W - 1 - x := by
  have h1 : (BitVec.allOnes W ^^^ BitVec.ofNat W x).toNat = (~~~ BitVec.ofNat W x).toNat := by rw [BitVec.allOnes_xor]
  rw [BitVec.toNat_xor, BitVec.toNat_not, BitVec.toNat_allOnes, BitVec.toNat_ofNat, Nat.mod_eq_of_lt h] at h1
  exact h1
theorem u32_bn (a : Nat) : bits .xor .u32 IntKind.u32.max (a : Int) = ((bn 32 a : Nat) : Int) := by
  have h := u32_bx 4294967295 a
  refine Eq.trans h ?_
  congr 1
  unfold bx bn
  rw [Nat.mod_eq_of_lt (show 4294967295 < 2 ^ 32 by decide)]
  have : a % 2 ^ 32 < 2 ^ 32 := Nat.mod_lt _ (by decide)
  exact flip_xor 32 _ this
theorem u64_bn (a : Nat) : bits .xor .u64 IntKind.u64.max (a : Int) = ((bn 64 a : Nat) : Int) := by
  have h := u64_bx 18446744073709551615 a
  refine Eq.trans h ?_
  congr 1
  unfold bx bn
  rw [Nat.mod_eq_of_lt (show 18446744073709551615 < 2 ^ 64 by decide)]
  have : a % 2 ^ 64 < 2 ^ 64 := Nat.mod_lt _ (by decide)
  exact flip_xor 64 _ this
end Go.Proofs.YtnikhnpigopihaaDoor
