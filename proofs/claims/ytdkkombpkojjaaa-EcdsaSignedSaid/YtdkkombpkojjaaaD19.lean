/- Parts of proofs of statements, each text behind those that it stands on. No condition of its own. -/
import Derived.Test.YtdkkombpkojjaaaD05
namespace Go.Proofs.Ytdkkombpkojjaaa
namespace EC
set_option linter.unusedVariables false
variable {n : Nat} [NeZero n]
theorem lc0 {A B : Fin n} (e : A - B = 0) : A = B := by
 have h : A = (A - B) + B := by grobner
 rw [h, e]; grobner
theorem dd {l r : Fin n} (h : l = r) : l - r = 0 := by subst h; grobner
theorem lc1 {A B c l r : Fin n} (h : l = r) (e : A - B = c * (l - r)) : A = B := by
 rw [dd h] at e; exact lc0 (e.trans (by clear e h; grobner))
theorem lc2 {A B c l r c2 l2 r2 : Fin n} (h : l = r) (h2 : l2 = r2) (e : A - B = c * (l - r) + c2 * (l2 - r2)) : A = B := by
 rw [dd h, dd h2] at e; exact lc0 (e.trans (by clear e h h2; grobner))
theorem lc3 {A B c l r c2 l2 r2 c3 l3 r3 : Fin n} (h : l = r) (h2 : l2 = r2) (h3 : l3 = r3) (e : A - B = c * (l - r) + c2 * (l2 - r2) + c3 * (l3 - r3)) : A = B := by
 rw [dd h, dd h2, dd h3] at e; exact lc0 (e.trans (by clear e h h2 h3; grobner))
theorem lc4 {A B c l r c2 l2 r2 c3 l3 r3 c4 l4 r4 : Fin n} (h : l = r) (h2 : l2 = r2) (h3 : l3 = r3) (h4 : l4 = r4) (e : A - B = c * (l - r) + c2 * (l2 - r2) + c3 * (l3 - r3) + c4 * (l4 - r4)) : A = B := by
 rw [dd h, dd h2, dd h3, dd h4] at e; exact lc0 (e.trans (by clear e h h2 h3 h4; grobner))
theorem id1 (x1 x2 y1 y2 i : Fin n) : ((y2 - y1) * i * (x2 - x1)) - (y2 - y1) = (y2 - y1) * (((x2 - x1) * i) - (1)) := by grobner
theorem id2 (b x1 x2 y1 y2 i : Fin n) : ((y2 - y1) * i * (y1 + y2)) - (x1 * x1 + x1 * x2 + x2 * x2 - 3) = (i) * ((y2 * y2) - (x2 * x2 * x2 - 3 * x2 + b)) + (-i) * ((y1 * y1) - (x1 * x1 * x1 - 3 * x1 + b)) + (x1 * x1 + x1 * x2 + x2 * x2 - 3) * (((x2 - x1) * i) - (1)) := by grobner
theorem id3 (l x1 x2 y1 y2 : Fin n) : (y2) - (l * x2 + (y1 - l * x1)) = (-1) * ((l * (x2 - x1)) - (y2 - y1)) := by grobner
theorem id4 (l x1 y1 : Fin n) : y1 = l * x1 + (y1 - l * x1) := by grobner
theorem id5 (l x1 x2 y1 : Fin n) : l * (l * l - x1 - x2 - x1) + y1 = l * (l * l - x1 - x2) + (y1 - l * x1) := by grobner
theorem id6 (l x1 x2 : Fin n) : x1 + x2 + (l * l - x1 - x2) = l * l := by grobner
theorem id7 (l x1 x2 y1 y2 : Fin n) : (x1 * x2 + x1 * (l * l - x1 - x2) + x2 * (l * l - x1 - x2)) - (-3 - 2 * l * (y1 - l * x1)) = (l) * ((l * (x2 - x1)) - (y2 - y1)) + (1) * ((l * (y1 + y2)) - (x1 * x1 + x1 * x2 + x2 * x2 - 3)) := by grobner
theorem id8 (b l x1 x2 y1 y2 : Fin n) : (x1 * x2 * (l * l - x1 - x2)) - ((y1 - l * x1) * (y1 - l * x1) - b) = (x1 * l) * ((l * (x2 - x1)) - (y2 - y1)) + (x1) * ((l * (y1 + y2)) - (x1 * x1 + x1 * x2 + x2 * x2 - 3)) + (-1) * ((y1 * y1) - (x1 * x1 * x1 - 3 * x1 + b)) := by grobner
theorem id9 (x1 y1 i : Fin n) : (3 * (x1 * x1 - 1) * i * (y1 + y1)) - (3 * (x1 * x1 - 1)) = (3 * (x1 * x1 - 1)) * (((y1 + y1) * i) - (1)) := by grobner
theorem id10 (l x1 y1 : Fin n) : (x1 * x1 + x1 * (l * l - x1 - x1) + x1 * (l * l - x1 - x1)) - (-3 - 2 * l * (y1 - l * x1)) = (1) * ((l * (y1 + y1)) - (3 * (x1 * x1 - 1))) := by grobner
theorem id11 (b l x1 y1 : Fin n) : (x1 * x1 * (l * l - x1 - x1)) - ((y1 - l * x1) * (y1 - l * x1) - b) = (x1) * ((l * (y1 + y1)) - (3 * (x1 * x1 - 1))) + (-1) * ((y1 * y1) - (x1 * x1 * x1 - 3 * x1 + b)) := by grobner
theorem id12 (l x1 y1 : Fin n) : l * (l * l - x1 - x1 - x1) + y1 = l * (l * l - x1 - x1) + (y1 - l * x1) := by grobner
theorem id13 (l x1 : Fin n) : x1 + x1 + (l * l - x1 - x1) = l * l := by grobner
def Col (b x1 y1 x2 y2 x3 y3 : Fin n) : Prop := ∃ l c : Fin n, y1 = l * x1 + c ∧ y2 = l * x2 + c ∧ y3 = l * x3 + c ∧ x1 + x2 + x3 = l * l ∧ x1 * x2 + x1 * x3 + x2 * x3 = -3 - 2 * l * c ∧ x1 * x2 * x3 = c * c - b
theorem Col.rot {b x1 y1 x2 y2 x3 y3 : Fin n} (h : Col b x1 y1 x2 y2 x3 y3) : Col b x2 y2 x3 y3 x1 y1 := by
 obtain ⟨l, c, h1, h2, h3, h4, h5, h6⟩ := h
 exact ⟨l, c, h2, h3, h1, by rw [← h4]; clear h1 h2 h3 h4 h5 h6; grobner, by rw [← h5]; clear h1 h2 h3 h4 h5 h6; grobner, by rw [← h6]; clear h1 h2 h3 h4 h5 h6; grobner⟩
theorem Col.swap {b x1 y1 x2 y2 x3 y3 : Fin n} (h : Col b x1 y1 x2 y2 x3 y3) : Col b x2 y2 x1 y1 x3 y3 := by
 obtain ⟨l, c, h1, h2, h3, h4, h5, h6⟩ := h
 exact ⟨l, c, h2, h1, h3, by rw [← h4]; clear h1 h2 h3 h4 h5 h6; grobner, by rw [← h5]; clear h1 h2 h3 h4 h5 h6; grobner, by rw [← h6]; clear h1 h2 h3 h4 h5 h6; grobner⟩
theorem neg1 (l x c : Fin n) : -(l * x + c) = -l * x + -c := by grobner
theorem neg2 (l : Fin n) : l * l = -l * -l := by grobner
theorem neg3 (l c : Fin n) : -3 - 2 * l * c = -3 - 2 * -l * -c := by grobner
theorem neg4 (b c : Fin n) : c * c - b = -c * -c - b := by grobner
theorem Col.neg {b x1 y1 x2 y2 x3 y3 : Fin n} (h : Col b x1 y1 x2 y2 x3 y3) : Col b x1 (-y1) x2 (-y2) x3 (-y3) := by
 obtain ⟨l, c, h1, h2, h3, h4, h5, h6⟩ := h
 exact ⟨-l, -c, by rw [h1, neg1], by rw [h2, neg1], by rw [h3, neg1], by rw [h4, neg2], by rw [h5, neg3], by rw [h6, neg4]⟩
theorem Col.on {b x1 y1 x2 y2 x3 y3 : Fin n} (h : Col b x1 y1 x2 y2 x3 y3) : y1 * y1 = x1 * x1 * x1 - 3 * x1 + b := by
 obtain ⟨l, c, h1, h2, h3, h4, h5, h6⟩ := h
 clear h2 h3
 subst h1
 have e : (l * x1 + c) * (l * x1 + c) = x1 * x1 * x1 - 3 * x1 + b + (x1 * x1 * (l * l - (x1 + x2 + x3)) + x1 * (x1 * x2 + x1 * x3 + x2 * x3 - (-3 - 2 * l * c)) + (c * c - b - x1 * x2 * x3)) := by clear h4 h5 h6; grobner
 rw [e, h4, h5, h6]
 clear e h4 h5 h6
 grobner
theorem Col.chord {b x1 y1 x2 y2 l i : Fin n} (h1 : y1 * y1 = x1 * x1 * x1 - 3 * x1 + b) (h2 : y2 * y2 = x2 * x2 * x2 - 3 * x2 + b) (hi : (x2 - x1) * i = 1) (hl : l = (y2 - y1) * i) :
   Col b x1 y1 x2 y2 (l * l - x1 - x2) (l * (l * l - x1 - x2 - x1) + y1) := by
 have hl2 : l * (x2 - x1) = y2 - y1 := by rw [hl]; exact (lc1 hi (id1 x1 x2 y1 y2 i))
 have e : l * (y1 + y2) = x1 * x1 + x1 * x2 + x2 * x2 - 3 := by rw [hl]; exact (lc3 h2 h1 hi (id2 b x1 x2 y1 y2 i))
 exact ⟨l, y1 - l * x1, (id4 l x1 y1), (lc1 hl2 (id3 l x1 x2 y1 y2)), (id5 l x1 x2 y1), (id6 l x1 x2), (lc2 hl2 e (id7 l x1 x2 y1 y2)), (lc3 hl2 e h1 (id8 b l x1 x2 y1 y2))⟩
theorem Col.tangent {b x1 y1 l i : Fin n} (h1 : y1 * y1 = x1 * x1 * x1 - 3 * x1 + b) (hi : (y1 + y1) * i = 1) (hl : l = 3 * (x1 * x1 - 1) * i) :
   Col b x1 y1 x1 y1 (l * l - x1 - x1) (l * (l * l - x1 - x1 - x1) + y1) := by
 have hl2 : l * (y1 + y1) = 3 * (x1 * x1 - 1) := by rw [hl]; exact (lc1 hi (id9 x1 y1 i))
 exact ⟨l, y1 - l * x1, (id4 l x1 y1), (id4 l x1 y1), (id12 l x1 y1), (id13 l x1), (lc1 hl2 (id10 l x1 y1)), (lc2 hl2 h1 (id11 b l x1 y1))⟩
theorem id14 (l x1 x2 c i : Fin n) : ((l * x2 + c - (l * x1 + c)) * i) - (l) = (l) * (((x2 - x1) * i) - (1)) := by grobner
theorem id15 (l x1 x2 x3 : Fin n) : (l * l - x1 - x2) - (x3) = (-1) * ((x1 + x2 + x3) - (l * l)) := by grobner
theorem id16 (l x1 x3 c : Fin n) : l * (x1 - x3) - (l * x1 + c) = -(l * x3 + c) := by grobner
theorem id17 (l c x1 x3 i : Fin n) : 3 * (x1 * x1 - 1) * i - l = l * ((l * x1 + c + (l * x1 + c)) * i - 1) + i * (x1 * x1 + x1 * x3 + x1 * x3 - (-3 - 2 * l * c)) * (-1) + (2 * x1 * i) * (x1 + x1 + x3 - l * l) := by grobner
noncomputable def iv (a : Fin n) : Fin n := if h : ∃ b, a * b = 1 then Classical.choose h else 0
theorem iv_eq {a b : Fin n} (h : a * b = 1) : iv a = b := by
 have h2 : ∃ b, a * b = 1 := ⟨b, h⟩
 have h3 := Classical.choose_spec h2
 have e : iv a = Classical.choose h2 := by unfold iv; rw [dif_pos h2]
 rw [e]
 generalize Classical.choose h2 = c at *
 have e1 : c = (a * b) * c := by rw [h]; grobner
 have e2 : (a * b) * c = (a * c) * b := by grobner
 rw [e1, e2, h3]; grobner
structure Ok (b : Fin n) : Prop where
 inv : ∀ a : Fin n, a ≠ 0 → a * iv a = 1
 two : (2 : Fin n) ≠ 0
 root : ∀ x : Fin n, x * x * x - 3 * x + b ≠ 0
inductive Pt (n : Nat) where
 | inf : Pt n
 | aff (x y : Fin n) : Pt n
noncomputable def slope (x1 y1 x2 y2 : Fin n) : Fin n := if x1 = x2 then 3 * (x1 * x1 - 1) * iv (y1 + y1) else (y2 - y1) * iv (x2 - x1)
def third (l x1 y1 x2 : Fin n) : Pt n := .aff (l * l - x1 - x2) (l * (x1 - (l * l - x1 - x2)) - y1)
noncomputable def sum : Pt n → Pt n → Pt n
 | .inf, q => q
 | .aff x y, .inf => .aff x y
 | .aff x1 y1, .aff x2 y2 =>
   if x1 = x2 ∧ y1 + y2 = 0 then .inf else third (slope x1 y1 x2 y2) x1 y1 x2
theorem sum_aff (x1 y1 x2 y2 : Fin n) : sum (.aff x1 y1) (.aff x2 y2) = if x1 = x2 ∧ y1 + y2 = 0 then .inf else third (slope x1 y1 x2 y2) x1 y1 x2 := rfl
def neg : Pt n → Pt n
 | .inf => .inf
 | .aff x y => .aff x (-y)
def On (b : Fin n) : Pt n → Prop
 | .inf => True
 | .aff x y => y * y = x * x * x - 3 * x + b
theorem mul_0 {b a c : Fin n} (H : Ok b) (h : a * c = 0) (h0 : a ≠ 0) : c = 0 := by
 have h1 := H.inv a h0
 have e : c = (a * iv a) * c := by rw [h1]; grobner
 have e2 : a * iv a * c = iv a * (a * c) := by grobner
 rw [e, e2, h]; grobner
theorem On.y0 {b x y : Fin n} (H : Ok b) (h : y * y = x * x * x - 3 * x + b) : y ≠ 0 := by
 intro h0; subst h0
 exact H.root x (h.symm.trans (by clear h; grobner))
theorem On.yy {b x y : Fin n} (H : Ok b) (h : y * y = x * x * x - 3 * x + b) : y + y ≠ 0 := by
 intro h0
 have e : (2 : Fin n) * y = 0 := by rw [← h0]; clear h0 h; grobner
 exact On.y0 H h (mul_0 H e H.two)
theorem sub_ne {x y : Fin n} (h : x ≠ y) : y - x ≠ 0 := fun h0 => h (lc0 (show x - y = 0 by
 have e : x - y = -(y - x) := by clear h0; grobner
 rw [e, h0]; grobner))
theorem two_of {b x y z : Fin n} (H : Ok b) (h1 : y * y = x * x * x - 3 * x + b) (h2 : z * z = x * x * x - 3 * x + b) : y = z ∨ y + z = 0 := by
 by_cases h : y - z = 0
 · exact .inl (lc0 h)
 · refine .inr (mul_0 H (a := y - z) ?_ h)
   have e : (y - z) * (y + z) = y * y - z * z := by clear h h1 h2; grobner
   rw [e, h1, h2]; clear e h h1 h2; grobner
theorem Col.sum {b x1 y1 x2 y2 x3 y3 : Fin n} (H : Ok b) (h : Col b x1 y1 x2 y2 x3 y3) : EC.sum (.aff x1 y1) (.aff x2 y2) = .aff x3 (-y3) := by
 have hon := h.on
 have hyy := On.yy H hon
 obtain ⟨l, c, h1, h2, h3, h4, h5, h6⟩ := h
 by_cases hx : x1 = x2
 · subst hx
   obtain rfl : y1 = y2 := h1.trans h2.symm
   have hi := H.inv _ hyy
   rw [sum_aff, if_neg (fun hh => hyy hh.2)]
   unfold slope third
   rw [if_pos rfl]
   generalize iv (y1 + y1) = i at *
   clear hyy hon
   subst h1 h3
   have hl : 3 * (x1 * x1 - 1) * i = l := by
     have e := id17 l c x1 x3 i
     rw [dd hi, dd h5, dd h4] at e
     exact lc0 (e.trans (by clear e hi h5 h4 h6 h2; grobner))
   rw [hl]
   have hx3 : l * l - x1 - x1 = x3 := by
     have e : l * l - x1 - x1 - x3 = -1 * (x1 + x1 + x3 - l * l) := by clear hl hi h2 h4 h5 h6; grobner
     rw [dd h4] at e
     exact lc0 (e.trans (by clear e hl hi h2 h4 h5 h6; grobner))
   rw [hx3, (id16 l x1 x3 c)]
 · have hi := H.inv _ (sub_ne hx)
   rw [sum_aff, if_neg (fun hh => hx hh.1)]
   unfold slope third
   rw [if_neg hx]
   generalize iv (x2 - x1) = i at *
   clear hyy hon
   subst h1 h2 h3
   have hl : (l * x2 + c - (l * x1 + c)) * i = l := (lc1 hi (id14 l x1 x2 c i))
   rw [hl]
   have hx3 : l * l - x1 - x2 = x3 := (lc1 h4 (id15 l x1 x2 x3))
   rw [hx3, (id16 l x1 x3 c)]
theorem id18 (p q r l1 c2 al : Fin n) : (r - p) * (al * ((l1 + al * (r - p)) * r + c2 + (l1 * r + ((l1 + al * (r - p)) * q + c2 - l1 * q))) - (r - (l1 * l1 - p - q))) = (-1) * (p * q + p * (l1 * l1 - p - q) + q * (l1 * l1 - p - q) - (-3 - 2 * l1 * ((l1 + al * (r - p)) * q + c2 - l1 * q))) + (q * r + q * ((l1 + al * (r - p)) * (l1 + al * (r - p)) - r - q) + r * ((l1 + al * (r - p)) * (l1 + al * (r - p)) - r - q) - (-3 - 2 * (l1 + al * (r - p)) * c2)) := by grobner
theorem id19 (a l1 p q : Fin n) : (a) - (l1 * l1 - p - q) = (1) * ((p + q + a) - (l1 * l1)) := by grobner
theorem id20 (c l2 r q : Fin n) : (c) - (l2 * l2 - r - q) = (1) * ((q + r + c) - (l2 * l2)) := by grobner
theorem id21 (c1 l1 q l2 c2 : Fin n) : (c1) - (l2 * q + c2 - l1 * q) = (1) * ((l1 * q + c1) - (l2 * q + c2)) := by grobner
theorem id22 (l1 l2 al r p : Fin n) : (l2) - (l1 + al * (r - p)) = (-1) * ((al * (r - p)) - (l2 - l1)) := by grobner
theorem star {p q r a c l1 c1 l2 c2 al j : Fin n} (E1 : p + q + a = l1 * l1) (E2 : p * q + p * a + q * a = -3 - 2 * l1 * c1) (F1 : q + r + c = l2 * l2) (F2 : q * r + q * c + r * c = -3 - 2 * l2 * c2)
   (G : l1 * q + c1 = l2 * q + c2) (H1 : al * (r - p) = l2 - l1) (hj : (r - p) * j = 1) : al * (l2 * r + c2 + (l1 * r + c1)) = r - a := by
 have ea : a = l1 * l1 - p - q := (lc1 E1 (id19 a l1 p q))
 have ec : c = l2 * l2 - r - q := (lc1 F1 (id20 c l2 r q))
 have e1 : c1 = l2 * q + c2 - l1 * q := (lc1 G (id21 c1 l1 q l2 c2))
 have e2 : l2 = l1 + al * (r - p) := (lc1 H1 (id22 l1 l2 al r p))
 clear E1 F1 G H1
 subst ea ec e1
 subst e2
 have e := id18 p q r l1 c2 al
 rw [dd E2, dd F2] at e
 have e3 := congrArg (j * ·) e
 exact lc0 (by
   have k : ∀ X : Fin n, X = ((r - p) * j) * X := fun X => by rw [hj]; clear e3 e hj E2 F2; grobner
   have k2 : ∀ X : Fin n, ((r - p) * j) * X = j * ((r - p) * X) := fun X => by clear k e3 e hj E2 F2; grobner
   rw [k (_ - _), k2, e]; clear k k2 e e3 hj E2 F2; grobner)
theorem id23 (l1 c1 u a : Fin n) : -(l1 * a + c1) = (u - l1) * a + (-(a * u) - c1) := by grobner
theorem id24 (r a l1 c1 l2 c2 al u : Fin n) : (l2 * r + c2) - ((u - l1) * r + (-(a * u) - c1)) = (u) * ((al * (l2 * r + c2 + (l1 * r + c1))) - (r - a)) + (-(l2 * r + c2 + (l1 * r + c1))) * ((al * u) - (1)) := by grobner
theorem id25 (p q r a l1 u : Fin n) : (a + r + (p + q - r + u * u - 2 * u * l1)) - ((u - l1) * (u - l1)) = (1) * ((p + q + a) - (l1 * l1)) := by grobner
theorem id26 (p q r a l1 c1 l2 c2 al u : Fin n) : (r * (p + q - r + u * u - 2 * u * l1)) - (p * q + 2 * u * c1 + a * (u * u)) = (-(u * u)) * ((al * (l2 * r + c2 + (l1 * r + c1))) - (r - a)) + (u * (l2 * r + c2 + (l1 * r + c1)) + (r - p) * (r - q)) * ((al * u) - (1)) + (-u * (r - q)) * ((al * (r - p)) - (l2 - l1)) + (-u) * ((l1 * q + c1) - (l2 * q + c2)) := by grobner
theorem id27 (p q r a l1 c1 u : Fin n) : (a * r + a * (p + q - r + u * u - 2 * u * l1) + r * (p + q - r + u * u - 2 * u * l1)) - (-3 - 2 * (u - l1) * (-(a * u) - c1)) = (1) * ((r * (p + q - r + u * u - 2 * u * l1)) - (p * q + 2 * u * c1 + a * (u * u))) + (1) * ((p * q + p * a + q * a) - (-3 - 2 * l1 * c1)) := by grobner
theorem id28 (b p q r a l1 c1 u : Fin n) : (a * r * (p + q - r + u * u - 2 * u * l1)) - ((-(a * u) - c1) * (-(a * u) - c1) - b) = (a) * ((r * (p + q - r + u * u - 2 * u * l1)) - (p * q + 2 * u * c1 + a * (u * u))) + (1) * ((p * q * a) - (c1 * c1 - b)) := by grobner
theorem fourth {b p q r a c l1 c1 l2 c2 al j u : Fin n} (E1 : p + q + a = l1 * l1) (E2 : p * q + p * a + q * a = -3 - 2 * l1 * c1) (E3 : p * q * a = c1 * c1 - b) (F1 : q + r + c = l2 * l2) (F2 : q * r + q * c + r * c = -3 - 2 * l2 * c2)
   (G : l1 * q + c1 = l2 * q + c2) (H1 : al * (r - p) = l2 - l1) (hj : (r - p) * j = 1) (hu : al * u = 1) :
   Col b a (-(l1 * a + c1)) r (l2 * r + c2) (p + q - r + u * u - 2 * u * l1) ((u - l1) * (p + q - r + u * u - 2 * u * l1) + (-(a * u) - c1)) := by
 have S := star E1 E2 F1 F2 G H1 hj
 have RS : r * (p + q - r + u * u - 2 * u * l1) = p * q + 2 * u * c1 + a * (u * u) := (lc4 S hu H1 G (id26 p q r a l1 c1 l2 c2 al u))
 exact ⟨u - l1, -(a * u) - c1, (id23 l1 c1 u a), (lc2 S hu (id24 r a l1 c1 l2 c2 al u)), rfl, (lc1 E1 (id25 p q r a l1 u)), (lc2 RS E2 (id27 p q r a l1 c1 u)), (lc2 RS E3 (id28 b p q r a l1 c1 u))⟩
theorem id29 (p q r l1 l2 al u : Fin n) : (p + q - r + u * u - 2 * u * l1) - (r + q - p + u * u - 2 * u * l2) = (-2 * u) * ((al * (r - p)) - (l2 - l1)) + (2 * (r - p)) * ((al * u) - (1)) := by grobner
theorem id30 (l1 l2 r p j : Fin n) : ((l2 - l1) * j * (r - p)) - (l2 - l1) = (l2 - l1) * (((r - p) * j) - (1)) := by grobner
theorem id31 (l1 l2 r p al : Fin n) : (al * (p - r)) - (l1 - l2) = (-1) * ((al * (r - p)) - (l2 - l1)) := by grobner
theorem id32 (r p j : Fin n) : ((p - r) * (-j)) - (1) = (1) * (((r - p) * j) - (1)) := by grobner
theorem id33 (a l1 p q : Fin n) : (a) - (l1 * l1 - p - q) = (1) * ((p + q + a) - (l1 * l1)) := by grobner
theorem id34 (c l2 r q : Fin n) : (c) - (l2 * l2 - r - q) = (1) * ((q + r + c) - (l2 * l2)) := by grobner
theorem id35 (c1 l1 q l2 c2 : Fin n) : (c1) - (l2 * q + c2 - l1 * q) = (1) * ((l1 * q + c1) - (l2 * q + c2)) := by grobner
theorem id36 (l1 l2 al r p : Fin n) : (l2) - (l1 + al * (r - p)) = (-1) * ((al * (r - p)) - (l2 - l1)) := by grobner
theorem id37 (p q r l1 al u c2 : Fin n) : ((u - l1) * (p + q - r + u * u - 2 * u * l1) + (-((l1 * l1 - p - q) * u) - ((l1 + al * (r - p)) * q + c2 - l1 * q))) - ((u - (l1 + al * (r - p))) * (p + q - r + u * u - 2 * u * l1) + (-(((l1 + al * (r - p)) * (l1 + al * (r - p)) - r - q) * u) - c2)) = ((p - r) * (al * p - al * r - u)) * ((al * u) - (1)) := by grobner
theorem grouped {b p q r a c l1 c1 l2 c2 : Fin n} (H : Ok b) (hpr : p ≠ r) (hl : l1 ≠ l2) (hP : l1 * p + c1 = l1 * p + c1)
   (E1 : p + q + a = l1 * l1) (E2 : p * q + p * a + q * a = -3 - 2 * l1 * c1) (E3 : p * q * a = c1 * c1 - b) (F1 : q + r + c = l2 * l2) (F2 : q * r + q * c + r * c = -3 - 2 * l2 * c2) (F3 : q * r * c = c2 * c2 - b)
   (G : l1 * q + c1 = l2 * q + c2) : EC.sum (.aff a (-(l1 * a + c1))) (.aff r (l2 * r + c2)) = EC.sum (.aff c (-(l2 * c + c2))) (.aff p (l1 * p + c1)) := by
 have hj := H.inv _ (sub_ne hpr)
 generalize iv (r - p) = j at *
 obtain ⟨al, hal⟩ : ∃ al, al = (l2 - l1) * j := ⟨_, rfl⟩
 have H1 : al * (r - p) = l2 - l1 := by rw [hal]; exact (lc1 hj (id30 l1 l2 r p j))
 have h0 : al ≠ 0 := fun h => sub_ne hl (by rw [← H1, h]; clear H1 hal hj E1 E2 E3 F1 F2 F3 G; grobner)
 have hu := H.inv _ h0
 generalize iv al = u at *
 have k1 := fourth E1 E2 E3 F1 F2 G H1 hj hu
 clear hal
 have E1' : r + q + c = l2 * l2 := by rw [← F1]; clear E1 E2 E3 F1 F2 F3 G H1 hj hu k1; grobner
 have E2' : r * q + r * c + q * c = -3 - 2 * l2 * c2 := by rw [← F2]; clear E1 E2 E3 F1 F2 F3 G H1 hj hu k1 E1'; grobner
 have E3' : r * q * c = c2 * c2 - b := by rw [← F3]; clear E1 E2 E3 F1 F2 F3 G H1 hj hu k1 E1' E2'; grobner
 have F1' : q + p + a = l1 * l1 := by rw [← E1]; clear E1 E2 E3 F1 F2 F3 G H1 hj hu k1 E1' E2' E3'; grobner
 have F2' : q * p + q * a + p * a = -3 - 2 * l1 * c1 := by rw [← E2]; clear E1 E2 E3 F1 F2 F3 G H1 hj hu k1 E1' E2' E3' F1'; grobner
 have H1' : al * (p - r) = l1 - l2 := (lc1 H1 (id31 l1 l2 r p al))
 have hj' : (p - r) * (-j) = 1 := (lc1 hj (id32 r p j))
 have k2 := fourth E1' E2' E3' F1' F2' G.symm H1' hj' hu
 have s1 : p + q - r + u * u - 2 * u * l1 = r + q - p + u * u - 2 * u * l2 := (lc2 H1 hu (id29 p q r l1 l2 al u))
 have s2 : (u - l1) * (p + q - r + u * u - 2 * u * l1) + (-(a * u) - c1) = (u - l2) * (r + q - p + u * u - 2 * u * l2) + (-(c * u) - c2) := by
   rw [← s1]
   clear k1 k2 E1' E2' E3' F1' F2' H1' hj' s1
   have ea : a = l1 * l1 - p - q := (lc1 E1 (id33 a l1 p q))
   have ec : c = l2 * l2 - r - q := (lc1 F1 (id34 c l2 r q))
   have e1 : c1 = l2 * q + c2 - l1 * q := (lc1 G (id35 c1 l1 q l2 c2))
   have e2 : l2 = l1 + al * (r - p) := (lc1 H1 (id36 l1 l2 al r p))
   clear E1 E2 E3 F1 F2 F3 G H1 hj
   subst ea ec e1
   subst e2
   exact (lc1 hu (id37 p q r l1 al u c2))
 rw [k1.sum H, k2.sum H, s2, s1]
theorem id38 (c1 c2 l1 q : Fin n) : (c1) - (c2) = (1) * ((l1 * q + c1) - (l1 * q + c2)) := by grobner
theorem id39 (p q r a l1 : Fin n) : (a) - (r) = (1) * ((p + q + a) - (l1 * l1)) + (-1) * ((q + r + p) - (l1 * l1)) := by grobner
theorem neg_on {b x y : Fin n} (h : y * y = x * x * x - 3 * x + b) : -y * -y = x * x * x - 3 * x + b := by rw [← h]; clear h; grobner
theorem neg_neg' (y : Fin n) : - -y = y := by grobner
theorem add_neg' (y : Fin n) : y + -y = 0 := by grobner
theorem neg_of {y z : Fin n} (h : y + z = 0) : z = -y := by
 have e : z - -y = y + z := by clear h; grobner
 rw [h] at e
 exact lc0 e
theorem col_of {b x1 y1 x2 y2 : Fin n} (H : Ok b) (h1 : y1 * y1 = x1 * x1 * x1 - 3 * x1 + b) (h2 : y2 * y2 = x2 * x2 * x2 - 3 * x2 + b) (hne : ¬ (x1 = x2 ∧ y1 + y2 = 0)) : ∃ x3 y3, Col b x1 y1 x2 y2 x3 y3 := by
 by_cases hx : x1 = x2
 · subst hx
   obtain rfl : y1 = y2 := (two_of H h1 h2).resolve_right (fun h => hne ⟨rfl, h⟩)
   exact ⟨_, _, Col.tangent h1 (H.inv _ (On.yy H h1)) rfl⟩
 · exact ⟨_, _, Col.chord h1 h2 (H.inv _ (sub_ne hx)) rfl⟩
theorem sum_inf (P : Pt n) : sum P .inf = P := by cases P <;> rfl
theorem inf_sum (P : Pt n) : sum .inf P = P := by cases P <;> rfl
theorem neg_neg (P : Pt n) : neg (neg P) = P := by
 cases P with
 | inf => rfl
 | aff x y => show Pt.aff x (- -y) = _; rw [neg_neg']
theorem neg.on {b : Fin n} {P : Pt n} (h : On b P) : On b (neg P) := by
 cases P with
 | inf => exact h
 | aff x y => exact neg_on h
theorem opp {x1 y1 x2 y2 : Fin n} (h : x1 = x2 ∧ y1 + y2 = 0) : Pt.aff x2 y2 = neg (.aff x1 y1) := by
 obtain ⟨rfl, h⟩ := h
 show _ = Pt.aff x1 (-y1)
 rw [neg_of h]
theorem sum_neg (P : Pt n) : sum P (neg P) = .inf := by
 cases P with
 | inf => rfl
 | aff x y => show sum (.aff x y) (.aff x (-y)) = _; rw [sum_aff, if_pos ⟨rfl, add_neg' y⟩]
theorem sum_comm {b : Fin n} (H : Ok b) {P Q : Pt n} (hP : On b P) (hQ : On b Q) : sum P Q = sum Q P := by
 cases P with
 | inf => rw [sum_inf, inf_sum]
 | aff x1 y1 =>
   cases Q with
   | inf => rw [sum_inf, inf_sum]
   | aff x2 y2 =>
     by_cases h : x1 = x2 ∧ y1 + y2 = 0
     · have h' : x2 = x1 ∧ y2 + y1 = 0 := ⟨h.1.symm, by rw [← h.2]; clear h; grobner⟩
       rw [sum_aff, sum_aff, if_pos h, if_pos h']
     · obtain ⟨x3, y3, hc⟩ := col_of H hP hQ h
       rw [hc.sum H, hc.swap.sum H]
theorem sum.on {b : Fin n} (H : Ok b) {P Q : Pt n} (hP : On b P) (hQ : On b Q) : On b (sum P Q) := by
 cases P with
 | inf => rw [inf_sum]; exact hQ
 | aff x1 y1 =>
   cases Q with
   | inf => rw [sum_inf]; exact hP
   | aff x2 y2 =>
     by_cases h : x1 = x2 ∧ y1 + y2 = 0
     · rw [sum_aff, if_pos h]; trivial
     · obtain ⟨x3, y3, hc⟩ := col_of H hP hQ h
       rw [hc.sum H]; exact neg_on hc.rot.rot.on
theorem cancel {b : Fin n} (H : Ok b) {P R : Pt n} (hP : On b P) (hR : On b R) : sum (neg P) (sum P R) = R := by
 cases P with
 | inf => show sum .inf (sum .inf R) = R; rw [inf_sum, inf_sum]
 | aff x1 y1 =>
   cases R with
   | inf => rw [sum_inf, sum_comm H (neg.on hP) hP, sum_neg]
   | aff x2 y2 =>
     by_cases h : x1 = x2 ∧ y1 + y2 = 0
     · rw [sum_aff, if_pos h, sum_inf, opp h]
     · obtain ⟨x3, y3, hc⟩ := col_of H hP hR h
       rw [hc.sum H]
       show sum (.aff x1 (-y1)) (.aff x3 (-y3)) = _
       rw [hc.neg.swap.rot.sum H, neg_neg']
theorem cancel' {b : Fin n} (H : Ok b) {P R : Pt n} (hP : On b P) (hR : On b R) : sum P (sum (neg P) R) = R := by
 have := cancel H (neg.on hP) hR
 rwa [neg_neg] at this
theorem id40 (p q r a c l1 c1 : Fin n) : (p - r) * (p - c) - 0 = (p + q) * ((p + q + a) - l1 * l1) - (p + q) * ((q + r + c) - l1 * l1) + ((q * r + q * c + r * c) - (-3 - 2 * l1 * c1)) + (-1) * ((p * q + p * a + q * a) - (-3 - 2 * l1 * c1)) := by grobner
theorem assoc {b : Fin n} (H : Ok b) {P Q R : Pt n} (hP : On b P) (hQ : On b Q) (hR : On b R) : sum (sum P Q) R = sum P (sum Q R) := by
 cases P with
 | inf => rw [inf_sum, inf_sum]
 | aff p yp =>
 cases Q with
 | inf => rw [sum_inf, inf_sum]
 | aff q yq =>
 cases R with
 | inf => rw [sum_inf, sum_inf]
 | aff r yr =>
 by_cases h : p = q ∧ yp + yq = 0
 · rw [opp h] at hQ ⊢
   rw [sum_neg, inf_sum, cancel' H hP hR]
 by_cases h2 : q = r ∧ yq + yr = 0
 · rw [opp h2] at hR ⊢
   rw [sum_neg, sum_inf, sum_comm H (sum.on H hP hQ) hR, sum_comm H hP hQ, cancel H hQ hP]
 by_cases hpr : p = r
 · subst hpr
   rcases two_of H hP hR with rfl | h3
   · rw [sum_comm H (sum.on H hP hQ) hR, sum_comm H hP hQ]
   · have h4 := opp (x1 := p) (x2 := p) ⟨rfl, h3⟩
     rw [h4] at hR ⊢
     rw [sum_comm H (sum.on H hP hQ) hR, cancel H hP hQ, sum_comm H hQ hR, cancel' H hP hQ]
 · obtain ⟨a, ya, k1⟩ := col_of H hP hQ h
   obtain ⟨c, yc, k2⟩ := col_of H hQ hR h2
   rw [k1.sum H, k2.sum H]
   have hA := neg_on k1.rot.rot.on
   have hC := neg_on k2.rot.rot.on
   rw [sum_comm H (P := .aff p yp) hP (show On b (.aff c (-yc)) from hC)]
   obtain ⟨l1, c1, e1, e2, e3, E1, E2, E3⟩ := k1
   obtain ⟨l2, c2, f1, f2, f3, F1, F2, F3⟩ := k2
   have G : l1 * q + c1 = l2 * q + c2 := e2.symm.trans f1
   clear e2 f1 hA hC hQ h h2
   subst e1 e3 f2 f3
   by_cases hl : l1 = l2
   · subst hl
     have hc : c1 = c2 := (lc1 G (id38 c1 c2 l1 q))
     subst hc
     have e0 : (p - r) * (p - c) = 0 := by
       have e := id40 p q r a c l1 c1
       rw [dd E1, dd F1, dd E2, dd F2] at e
       exact lc0 (e.trans (by clear e E1 E2 E3 F1 F2 F3 G hP hR; grobner))
     have hpr' : p - r ≠ 0 := sub_ne (Ne.symm hpr)
     have hpc : p = c := lc0 (mul_0 H e0 hpr')
     subst hpc
     have har : a = r := (lc2 E1 F1 (id39 p q r a l1))
     subst har
     rw [sum_comm H (P := .aff a (-(l1 * a + c1))) ?_ ?_]
     · have k := sum_neg (Pt.aff a (l1 * a + c1))
       have k2 := sum_neg (Pt.aff p (l1 * p + c1))
       rw [sum_comm H (P := .aff p (-(l1 * p + c1))) ?_ ?_]
       · exact k.trans k2.symm
       · exact neg_on hP
       · exact hP
     · exact neg_on hR
     · exact hR
   · exact grouped H hpr hl rfl E1 E2 E3 F1 F2 F3 G
structure Tr (n : Nat) where
 x : Fin n
 y : Fin n
 z : Fin n
def Jac (s : Tr n) : Pt n → Prop
 | .inf => s.z = 0
 | .aff X Y => s.z ≠ 0 ∧ s.x = X * (s.z * s.z) ∧ s.y = Y * (s.z * s.z) * s.z
def twiceF (s : Tr n) : Tr n :=
 let sy := s.y * s.y
 let sz := s.z * s.z
 let th := (s.x + sz) * (s.x - sz)
 let sl := th + th + th
 let a1 := s.x * sy
 let a2 := a1 + a1
 let sh := a2 + a2
 let x := sl * sl - (sh + sh)
 let d := sy + sy
 let e := d * d
 ⟨x, sl * (sh - x) - (e + e), s.y * s.z + s.y * s.z⟩
def genF (s t : Tr n) : Tr n :=
 let ss := s.z * s.z
 let st := t.z * t.z
 let xs := s.x * st
 let xt := t.x * ss
 let ys := s.y * st * t.z
 let yt := t.y * ss * s.z
 let run := xt - xs
 let rise := yt - ys
 let sq := run * run
 let cu := sq * run
 let sh := xs * sq
 let x := rise * rise - cu - (sh + sh)
 ⟨x, rise * (sh - x) - ys * cu, s.z * t.z * run⟩
def plusF (s t : Tr n) : Tr n :=
 if s.z = 0 then t else if t.z = 0 then s else
 if s.x * (t.z * t.z) = t.x * (s.z * s.z) ∧ s.y * (t.z * t.z) * t.z = t.y * (s.z * s.z) * s.z then twiceF s else genF s t
theorem mul_ne {b x y : Fin n} (H : Ok b) (hx : x ≠ 0) (hy : y ≠ 0) : x * y ≠ 0 := fun h => hy (mul_0 H h hx)
theorem mul_cancel {b a c d : Fin n} (H : Ok b) (ha : a ≠ 0) (h : c * a = d * a) : c = d := lc0 (mul_0 H (a := a) (by
 have e : a * (c - d) = c * a - d * a := by clear h; grobner
 rw [e, h]; clear e h; grobner) ha)
theorem pt1 {X z i : Fin n} (h : z * i = 1) : X * (z * z) * (i * i) = X := by
 have e : X * (z * z) * (i * i) = X * ((z * i) * (z * i)) := by clear h; grobner
 rw [e, h]; clear e h; grobner
theorem pt2 {Y z i : Fin n} (h : z * i = 1) : Y * (z * z) * z * (i * i) * i = Y := by
 have e : Y * (z * z) * z * (i * i) * i = Y * ((z * i) * (z * i) * (z * i)) := by clear h; grobner
 rw [e, h]; clear e h; grobner
theorem mul_z (x : Fin n) : x * 0 = 0 := by grobner
theorem z_mul (x : Fin n) : 0 * x = 0 := by grobner
theorem add_z (x : Fin n) : x + 0 = x := by grobner
theorem id41 (X Y z l : Fin n) : ((X * (z * z) + z * z) * (X * (z * z) - z * z) + (X * (z * z) + z * z) * (X * (z * z) - z * z) + (X * (z * z) + z * z) * (X * (z * z) - z * z)) - l * (Y + Y) * (z * z * z * z) = (-1) * (z * z * z * z) * (l * (Y + Y) - 3 * (X * X - 1)) := by grobner
theorem id42 (X Y z l : Fin n) : l * (Y + Y) * (z * z * z * z) * (l * (Y + Y) * (z * z * z * z)) - (X * (z * z) * (Y * (z * z) * z * (Y * (z * z) * z)) + X * (z * z) * (Y * (z * z) * z * (Y * (z * z) * z)) + (X * (z * z) * (Y * (z * z) * z * (Y * (z * z) * z)) + X * (z * z) * (Y * (z * z) * z * (Y * (z * z) * z))) + (X * (z * z) * (Y * (z * z) * z * (Y * (z * z) * z)) + X * (z * z) * (Y * (z * z) * z * (Y * (z * z) * z)) + (X * (z * z) * (Y * (z * z) * z * (Y * (z * z) * z)) + X * (z * z) * (Y * (z * z) * z * (Y * (z * z) * z))))) = (l * l - X - X) * ((Y * (z * z) * z * z + Y * (z * z) * z * z) * (Y * (z * z) * z * z + Y * (z * z) * z * z)) := by grobner
theorem id43 (X Y z l : Fin n) : l * (Y + Y) * (z * z * z * z) * ((X * (z * z) * (Y * (z * z) * z * (Y * (z * z) * z)) + X * (z * z) * (Y * (z * z) * z * (Y * (z * z) * z)) + (X * (z * z) * (Y * (z * z) * z * (Y * (z * z) * z)) + X * (z * z) * (Y * (z * z) * z * (Y * (z * z) * z)))) - (l * l - X - X) * ((Y * (z * z) * z * z + Y * (z * z) * z * z) * (Y * (z * z) * z * z + Y * (z * z) * z * z))) - ((Y * (z * z) * z * (Y * (z * z) * z) + Y * (z * z) * z * (Y * (z * z) * z)) * (Y * (z * z) * z * (Y * (z * z) * z) + Y * (z * z) * z * (Y * (z * z) * z)) + (Y * (z * z) * z * (Y * (z * z) * z) + Y * (z * z) * z * (Y * (z * z) * z)) * (Y * (z * z) * z * (Y * (z * z) * z) + Y * (z * z) * z * (Y * (z * z) * z))) = (l * (X - (l * l - X - X)) - Y) * ((Y * (z * z) * z * z + Y * (z * z) * z * z) * (Y * (z * z) * z * z + Y * (z * z) * z * z)) * (Y * (z * z) * z * z + Y * (z * z) * z * z) := by grobner
theorem id44 (Y z : Fin n) : (Y * (z * z) * z * z + Y * (z * z) * z * z) = (Y + Y) * (z * (z * (z * z))) := by grobner
theorem Jac.twice {b : Fin n} (H : Ok b) {s : Tr n} {P : Pt n} (hP : On b P) (h : Jac s P) : Jac (twiceF s) (sum P P) := by
 obtain ⟨x, y, z⟩ := s
 cases P with
 | inf =>
   show y * z + y * z = 0
   have hz : z = 0 := h
   rw [hz, mul_z, add_z]
 | aff X Y =>
   obtain ⟨hz, hx, hy⟩ := h
   replace hz : z ≠ 0 := hz
   replace hx : x = X * (z * z) := hx
   replace hy : y = Y * (z * z) * z := hy
   have hon : Y * Y = X * X * X - 3 * X + b := hP
   have hyy := On.yy H hon
   rw [sum_aff, if_neg (fun hh => hyy hh.2)]
   have hi := H.inv _ hyy
   obtain ⟨l, hl⟩ : ∃ l, l = slope X Y X Y := ⟨_, rfl⟩
   have hl2 : l * (Y + Y) = 3 * (X * X - 1) := by
     rw [hl]; unfold slope; rw [if_pos rfl]
     generalize iv (Y + Y) = i at *
     clear hl hon hyy hP hx hy hz
     have e : 3 * (X * X - 1) * i * (Y + Y) = 3 * (X * X - 1) * ((Y + Y) * i) := by clear hi; grobner
     rw [e, hi]; clear e hi; grobner
   rw [← hl]
   have k := id41 X Y z l
   clear hl hi hP hon
   rw [dd hl2] at k
   have hs := lc0 (k.trans (by clear k hl2 hx hy; grobner))
   clear k hl2
   subst hx hy
   have zz : Y * (z * z) * z * z + Y * (z * z) * z * z ≠ 0 := by
     rw [id44 Y z]
     exact mul_ne H hyy (mul_ne H hz (mul_ne H hz (mul_ne H hz hz)))
   refine ⟨zz, ?_, ?_⟩
   · show (_ + _ + _) * (_ + _ + _) - _ = _
     rw [hs]
     exact id42 X Y z l
   · show (_ + _ + _) * (_ - ((_ + _ + _) * (_ + _ + _) - _)) - _ = _
     rw [hs, id42 X Y z l]
     exact id43 X Y z l
theorem id45 (X X2 Y Y2 z v l : Fin n) : (Y2 * (v * v) * v * (z * z) * z - Y * (z * z) * z * (v * v) * v) - l * (X2 - X) * (z * z * z) * (v * v * v) = (-1) * (z * z * z) * (v * v * v) * (l * (X2 - X) - (Y2 - Y)) := by grobner
theorem id46 (X X2 z v l : Fin n) : (l * (X2 - X) * (z * z * z) * (v * v * v)) * (l * (X2 - X) * (z * z * z) * (v * v * v)) - (X2 * (v * v) * (z * z) - X * (z * z) * (v * v)) * (X2 * (v * v) * (z * z) - X * (z * z) * (v * v)) * (X2 * (v * v) * (z * z) - X * (z * z) * (v * v)) - ((X * (z * z) * (v * v)) * ((X2 * (v * v) * (z * z) - X * (z * z) * (v * v)) * (X2 * (v * v) * (z * z) - X * (z * z) * (v * v))) + (X * (z * z) * (v * v)) * ((X2 * (v * v) * (z * z) - X * (z * z) * (v * v)) * (X2 * (v * v) * (z * z) - X * (z * z) * (v * v)))) = (l * l - X - X2) * ((z * v * (X2 * (v * v) * (z * z) - X * (z * z) * (v * v))) * (z * v * (X2 * (v * v) * (z * z) - X * (z * z) * (v * v)))) := by grobner
theorem id47 (X X2 Y z v l : Fin n) : (l * (X2 - X) * (z * z * z) * (v * v * v)) * ((X * (z * z) * (v * v)) * ((X2 * (v * v) * (z * z) - X * (z * z) * (v * v)) * (X2 * (v * v) * (z * z) - X * (z * z) * (v * v))) - (l * l - X - X2) * ((z * v * (X2 * (v * v) * (z * z) - X * (z * z) * (v * v))) * (z * v * (X2 * (v * v) * (z * z) - X * (z * z) * (v * v))))) - (Y * (z * z) * z * (v * v) * v) * ((X2 * (v * v) * (z * z) - X * (z * z) * (v * v)) * (X2 * (v * v) * (z * z) - X * (z * z) * (v * v)) * (X2 * (v * v) * (z * z) - X * (z * z) * (v * v))) = (l * (X - (l * l - X - X2)) - Y) * ((z * v * (X2 * (v * v) * (z * z) - X * (z * z) * (v * v))) * (z * v * (X2 * (v * v) * (z * z) - X * (z * z) * (v * v)))) * (z * v * (X2 * (v * v) * (z * z) - X * (z * z) * (v * v))) := by grobner
theorem id48 (X X2 z v : Fin n) : (z * v * (X2 * (v * v) * (z * z) - X * (z * z) * (v * v))) = (X2 - X) * (z * (z * (z * (v * (v * v))))) := by grobner
theorem id49 (X z v : Fin n) : X * (z * z) * (v * v) = X * (z * z * (v * v)) := by grobner
theorem id50 (X z v : Fin n) : X * (v * v) * (z * z) = X * (z * z * (v * v)) := by grobner
theorem id51 (Y z v : Fin n) : Y * (z * z) * z * (v * v) * v = Y * (z * z * (v * v) * (z * v)) := by grobner
theorem id52 (Y z v : Fin n) : Y * (v * v) * v * (z * z) * z = Y * (z * z * (v * v) * (z * v)) := by grobner
theorem id53 (X z v : Fin n) : z * v * (X * (v * v) * (z * z) - X * (z * z) * (v * v)) = 0 := by grobner
theorem Jac.plus {b : Fin n} (H : Ok b) {s t : Tr n} {P Q : Pt n} (hP : On b P) (hQ : On b Q) (h : Jac s P) (k : Jac t Q) : Jac (plusF s t) (sum P Q) := by
 cases P with
 | inf =>
   have hz : s.z = 0 := h
   unfold plusF
   rw [if_pos hz, inf_sum]; exact k
 | aff X Y =>
 cases Q with
 | inf =>
   have hz : t.z = 0 := k
   unfold plusF
   rw [if_neg h.1, if_pos hz, sum_inf]; exact h
 | aff X2 Y2 =>
   unfold plusF
   rw [if_neg h.1, if_neg k.1]
   by_cases hXY : X = X2 ∧ Y = Y2
   · obtain ⟨rfl, rfl⟩ := hXY
     rw [if_pos]
     · exact Jac.twice H hP h
     · obtain ⟨x, y, z⟩ := s
       obtain ⟨x2, y2, v⟩ := t
       obtain ⟨hz, hx, hy⟩ := h
       obtain ⟨hv, hx2, hy2⟩ := k
       show x * (v * v) = x2 * (z * z) ∧ y * (v * v) * v = y2 * (z * z) * z
       replace hx : x = X * (z * z) := hx
       replace hy : y = Y * (z * z) * z := hy
       replace hx2 : x2 = X * (v * v) := hx2
       replace hy2 : y2 = Y * (v * v) * v := hy2
       rw [hx, hy, hx2, hy2]
       exact ⟨(id49 X z v).trans (id50 X z v).symm, (id51 Y z v).trans (id52 Y z v).symm⟩
   · obtain ⟨x, y, z⟩ := s
     obtain ⟨x2, y2, v⟩ := t
     obtain ⟨hz, hx, hy⟩ := h
     obtain ⟨hv, hx2, hy2⟩ := k
     replace hz : z ≠ 0 := hz
     replace hv : v ≠ 0 := hv
     replace hx : x = X * (z * z) := hx
     replace hy : y = Y * (z * z) * z := hy
     replace hx2 : x2 = X2 * (v * v) := hx2
     replace hy2 : y2 = Y2 * (v * v) * v := hy2
     have w2 : z * z * (v * v) ≠ 0 := mul_ne H (mul_ne H hz hz) (mul_ne H hv hv)
     have w3 : z * z * (v * v) * (z * v) ≠ 0 := mul_ne H w2 (mul_ne H hz hv)
     rw [if_neg (show ¬ (x * (v * v) = x2 * (z * z) ∧ y * (v * v) * v = y2 * (z * z) * z) from by
       rw [hx, hy, hx2, hy2, id49 X z v, id50 X2 z v, id51 Y z v, id52 Y2 z v]
       exact fun hh => hXY ⟨mul_cancel H w2 hh.1, mul_cancel H w3 hh.2⟩)]
     by_cases hX : X = X2
     · subst hX
       have hY : Y + Y2 = 0 := (two_of H hP hQ).resolve_left (fun e => hXY ⟨rfl, e⟩)
       rw [sum_aff, if_pos ⟨rfl, hY⟩]
       show z * v * (x2 * (z * z) - x * (v * v)) = 0
       rw [hx, hx2]
       exact id53 X z v
     · rw [sum_aff, if_neg (fun hh => hX hh.1)]
       have hi := H.inv _ (sub_ne hX)
       obtain ⟨l, hl⟩ : ∃ l, l = slope X Y X2 Y2 := ⟨_, rfl⟩
       have hl2 : l * (X2 - X) = Y2 - Y := by
         rw [hl]; unfold slope; rw [if_neg hX]
         generalize iv (X2 - X) = i at *
         have e : (Y2 - Y) * i * (X2 - X) = (Y2 - Y) * ((X2 - X) * i) := by clear hi hl hP hQ hx hy hx2 hy2 hz hv w2 w3 hX hXY; grobner
         rw [e, hi]; clear e hi hl hP hQ hx hy hx2 hy2 hz hv w2 w3 hX hXY; grobner
       rw [← hl]
       have k := id45 X X2 Y Y2 z v l
       clear hl hi hP hQ
       rw [dd hl2] at k
       have hs := lc0 (k.trans (by clear k hl2 hx hy hx2 hy2 hz hv w2 w3 hX hXY; grobner))
       clear k hl2
       subst hx hy hx2 hy2
       refine ⟨?_, ?_, ?_⟩
       · show z * v * (_ - _) ≠ 0
         rw [id48 X X2 z v]
         exact mul_ne H (sub_ne hX) (mul_ne H hz (mul_ne H hz (mul_ne H hz (mul_ne H hv (mul_ne H hv hv)))))
       · show (_ - _) * (_ - _) - _ - _ = _
         rw [hs]
         exact id46 X X2 z v l
       · show (_ - _) * (_ - ((_ - _) * (_ - _) - _ - _)) - _ = _
         rw [hs, id46 X X2 z v l]
         exact id47 X X2 Y z v l
theorem id54 (X z v : Fin n) : X * z * v = X * (z * v) := by grobner
theorem id55 (X z v : Fin n) : X * v * z = X * (z * v) := by grobner
theorem id56 (X X2 Y Y2 z v l : Fin n) : (Y2 * v * z - Y * z * v) - l * (X2 - X) * (z * v) = (-1) * (z * v) * (l * (X2 - X) - (Y2 - Y)) := by grobner
theorem id57 (X X2 z v l : Fin n) : (l * (X2 - X) * (z * v)) * (l * (X2 - X) * (z * v)) * (z * v) - (X2 * v * z - X * z * v) * (X2 * v * z - X * z * v) * (X * z * v + X2 * v * z) = (l * l - X - X2) * ((X2 * v * z - X * z * v) * (X2 * v * z - X * z * v) * (z * v)) := by grobner
theorem id58 (X X2 z v l : Fin n) : (l * l - X - X2) * ((X2 * v * z - X * z * v) * (X2 * v * z - X * z * v) * (z * v)) * (X2 * v * z - X * z * v) = (l * l - X - X2) * ((X2 * v * z - X * z * v) * (X2 * v * z - X * z * v) * (X2 * v * z - X * z * v) * (z * v)) := by grobner
theorem id59 (X X2 Y z v l : Fin n) : (l * (X2 - X) * (z * v)) * (X * z * v * ((X2 * v * z - X * z * v) * (X2 * v * z - X * z * v)) - (l * l - X - X2) * ((X2 * v * z - X * z * v) * (X2 * v * z - X * z * v) * (z * v))) - Y * z * v * ((X2 * v * z - X * z * v) * (X2 * v * z - X * z * v) * (X2 * v * z - X * z * v)) = (l * (X - (l * l - X - X2)) - Y) * ((X2 * v * z - X * z * v) * (X2 * v * z - X * z * v) * (X2 * v * z - X * z * v) * (z * v)) := by grobner
theorem id60 (X X2 z v : Fin n) : (X2 * v * z - X * z * v) = (X2 - X) * (z * v) := by grobner
theorem id61 (X Y z v l : Fin n) : (X * z * v * (X * z * v) - z * v * (z * v)) + (X * z * v * (X * z * v) - z * v * (z * v)) + (X * z * v * (X * z * v) - z * v * (z * v)) - l * (Y + Y) * (z * v) * (z * v) = (-1) * (z * v) * (z * v) * (l * (Y + Y) - 3 * (X * X - 1)) := by grobner
theorem id62 (X Y z v l : Fin n) : (l * (Y + Y) * (z * v) * (z * v)) * (l * (Y + Y) * (z * v) * (z * v)) * (z * v) - ((Y * z * v + Y * z * v) * (z * v)) * ((Y * z * v + Y * z * v) * (z * v)) * (X * z * v + X * v * z) = (l * l - X - X) * (((Y * z * v + Y * z * v) * (z * v)) * ((Y * z * v + Y * z * v) * (z * v)) * (z * v)) := by grobner
theorem id63 (X Y z v l : Fin n) : (l * l - X - X) * (((Y * z * v + Y * z * v) * (z * v)) * ((Y * z * v + Y * z * v) * (z * v)) * (z * v)) * ((Y * z * v + Y * z * v) * (z * v)) = (l * l - X - X) * (((Y * z * v + Y * z * v) * (z * v)) * ((Y * z * v + Y * z * v) * (z * v)) * ((Y * z * v + Y * z * v) * (z * v)) * (z * v)) := by grobner
theorem id64 (X Y z v l : Fin n) : (l * (Y + Y) * (z * v) * (z * v)) * (X * z * v * (((Y * z * v + Y * z * v) * (z * v)) * ((Y * z * v + Y * z * v) * (z * v))) - (l * l - X - X) * (((Y * z * v + Y * z * v) * (z * v)) * ((Y * z * v + Y * z * v) * (z * v)) * (z * v))) - Y * z * v * (((Y * z * v + Y * z * v) * (z * v)) * ((Y * z * v + Y * z * v) * (z * v)) * ((Y * z * v + Y * z * v) * (z * v))) = (l * (X - (l * l - X - X)) - Y) * (((Y * z * v + Y * z * v) * (z * v)) * ((Y * z * v + Y * z * v) * (z * v)) * ((Y * z * v + Y * z * v) * (z * v)) * (z * v)) := by grobner
theorem id65 (Y z v : Fin n) : ((Y * z * v + Y * z * v) * (z * v)) = (Y + Y) * (z * v * (z * v)) := by grobner
def Lin (s : Tr n) : Pt n → Prop
 | .inf => s.z = 0
 | .aff X Y => s.z ≠ 0 ∧ s.x = X * s.z ∧ s.y = Y * s.z
def lineEnd (up down z xa xb ya : Fin n) : Tr n :=
 let ddn := down * down
 let x := up * up * z - ddn * (xa + xb)
 ⟨x * down, up * (xa * ddn - x) - ya * (ddn * down), ddn * down * z⟩
def lineF (s t : Tr n) : Tr n :=
 if s.z = 0 then t else if t.z = 0 then s else
 let ya := s.y * t.z
 let yb := t.y * s.z
 let xa := s.x * t.z
 let xb := t.x * s.z
 let z := s.z * t.z
 if xa = xb then
   if ya + yb = 0 then ⟨0, 0, 0⟩ else
   let q := xa * xa - z * z
   lineEnd (q + q + q) ((ya + ya) * z) z xa xb ya
 else lineEnd (yb - ya) (xb - xa) z xa xb ya
theorem Lin.plus {b : Fin n} (H : Ok b) {s t : Tr n} {P Q : Pt n} (hP : On b P) (hQ : On b Q) (h : Lin s P) (k : Lin t Q) : Lin (lineF s t) (sum P Q) := by
 cases P with
 | inf =>
   have hz : s.z = 0 := h
   unfold lineF
   rw [if_pos hz, inf_sum]; exact k
 | aff X Y =>
 cases Q with
 | inf =>
   have hz : t.z = 0 := k
   unfold lineF
   rw [if_neg h.1, if_pos hz, sum_inf]; exact h
 | aff X2 Y2 =>
   unfold lineF
   rw [if_neg h.1, if_neg k.1]
   obtain ⟨x, y, z⟩ := s
   obtain ⟨x2, y2, v⟩ := t
   obtain ⟨hz, hx, hy⟩ := h
   obtain ⟨hv, hx2, hy2⟩ := k
   replace hz : z ≠ 0 := hz
   replace hv : v ≠ 0 := hv
   replace hx : x = X * z := hx
   replace hy : y = Y * z := hy
   replace hx2 : x2 = X2 * v := hx2
   replace hy2 : y2 = Y2 * v := hy2
   have w1 : z * v ≠ 0 := mul_ne H hz hv
   by_cases hX : X = X2
   · subst hX
     rw [if_pos (show x * v = x2 * z by rw [hx, hx2]; exact (id54 X z v).trans (id55 X z v).symm)]
     by_cases hY : Y + Y2 = 0
     · rw [sum_aff, if_pos (show X = X ∧ Y + Y2 = 0 from ⟨rfl, hY⟩), if_pos (show y * v + y2 * z = 0 by
         have e : y * v + y2 * z = (Y + Y2) * (z * v) := by
           rw [hy, hy2]; clear hP hQ hx hy hx2 hy2 hz hv w1 hY; grobner
         rw [e, hY, z_mul])]
       rfl
     · have hYY : Y = Y2 := (two_of H hP hQ).resolve_right hY
       subst hYY
       have hyy := On.yy H hP
       rw [sum_aff, if_neg (show ¬ (X = X ∧ Y + Y = 0) from fun hh => hyy hh.2), if_neg (show ¬ (y * v + y2 * z = 0) from fun hh => by
         have e : y * v + y2 * z = (Y + Y) * (z * v) := by
           rw [hy, hy2]; clear hP hQ hx hy hx2 hy2 hz hv w1 hY hh; grobner
         rw [e] at hh
         exact mul_ne H hyy w1 hh)]
       have hi := H.inv _ hyy
       obtain ⟨l, hl⟩ : ∃ l, l = slope X Y X Y := ⟨_, rfl⟩
       have hl2 : l * (Y + Y) = 3 * (X * X - 1) := by
         rw [hl]; unfold slope; rw [if_pos rfl]
         generalize iv (Y + Y) = i at *
         have e : 3 * (X * X - 1) * i * (Y + Y) = 3 * (X * X - 1) * ((Y + Y) * i) := by clear hi hl hP hQ hx hy hx2 hy2 hz hv w1 hY hyy; grobner
         rw [e, hi]; clear e hi hl hP hQ hx hy hx2 hy2 hz hv w1 hY hyy; grobner
       rw [← hl]
       have k := id61 X Y z v l
       clear hl hi hP hQ hY
       rw [dd hl2] at k
       have hs := lc0 (k.trans (by clear k hl2 hx hy hx2 hy2 hz hv w1 hyy; grobner))
       clear k hl2
       subst hx hy hx2 hy2
       have hd : (Y * z * v + Y * z * v) * (z * v) ≠ 0 := by
         rw [id65 Y z v]; exact mul_ne H hyy (mul_ne H w1 w1)
       refine ⟨?_, ?_, ?_⟩
       · show _ * _ * _ * _ ≠ 0
         exact mul_ne H (mul_ne H (mul_ne H hd hd) hd) w1
       · show ((_ + _ + _) * (_ + _ + _) * _ - _) * _ = _
         rw [hs, id62 X Y z v l]
         exact id63 X Y z v l
       · show (_ + _ + _) * (_ - ((_ + _ + _) * (_ + _ + _) * _ - _)) - _ = _
         rw [hs, id62 X Y z v l]
         exact id64 X Y z v l
   · rw [if_neg (show ¬ (x * v = x2 * z) from fun hh => by
       rw [hx, hx2, id54 X z v, id55 X2 z v] at hh
       exact hX (mul_cancel H w1 hh))]
     rw [sum_aff, if_neg (show ¬ (X = X2 ∧ Y + Y2 = 0) from fun hh => hX hh.1)]
     have hi := H.inv _ (sub_ne hX)
     obtain ⟨l, hl⟩ : ∃ l, l = slope X Y X2 Y2 := ⟨_, rfl⟩
     have hl2 : l * (X2 - X) = Y2 - Y := by
       rw [hl]; unfold slope; rw [if_neg hX]
       generalize iv (X2 - X) = i at *
       have e : (Y2 - Y) * i * (X2 - X) = (Y2 - Y) * ((X2 - X) * i) := by clear hi hl hP hQ hx hy hx2 hy2 hz hv w1 hX; grobner
       rw [e, hi]; clear e hi hl hP hQ hx hy hx2 hy2 hz hv w1 hX; grobner
     rw [← hl]
     have k := id56 X X2 Y Y2 z v l
     clear hl hi hP hQ
     rw [dd hl2] at k
     have hs := lc0 (k.trans (by clear k hl2 hx hy hx2 hy2 hz hv w1 hX; grobner))
     clear k hl2
     subst hx hy hx2 hy2
     have hd : X2 * v * z - X * z * v ≠ 0 := by
       rw [id60 X X2 z v]; exact mul_ne H (sub_ne hX) w1
     refine ⟨?_, ?_, ?_⟩
     · show _ * _ * _ * _ ≠ 0
       exact mul_ne H (mul_ne H (mul_ne H hd hd) hd) w1
     · show ((_ - _) * (_ - _) * _ - _) * _ = _
       rw [hs, id57 X X2 z v l]
       exact id58 X X2 z v l
     · show (_ - _) * (_ - ((_ - _) * (_ - _) * _ - _)) - _ = _
       rw [hs, id57 X X2 z v l]
       exact id59 X X2 Y z v l
noncomputable def mul : Nat → Pt n → Pt n
 | 0, _ => .inf
 | k + 1, P => sum (mul k P) P
theorem mul.on {b : Fin n} (H : Ok b) {P : Pt n} (hP : On b P) : ∀ k, On b (mul k P)
 | 0 => trivial
 | k + 1 => sum.on H (mul.on H hP k) hP
theorem mul_add {b : Fin n} (H : Ok b) {P : Pt n} (hP : On b P) (i : Nat) : ∀ k, mul (i + k) P = sum (mul i P) (mul k P)
 | 0 => (sum_inf _).symm
 | k + 1 => by
   show sum (mul (i + k) P) P = sum (mul i P) (sum (mul k P) P)
   rw [mul_add H hP i k, assoc H (mul.on H hP i) (mul.on H hP k) hP]
theorem mul_inf : ∀ k, mul k (.inf : Pt n) = .inf
 | 0 => rfl
 | k + 1 => by show sum (mul k .inf) .inf = .inf; rw [mul_inf k]; rfl
theorem mul_mul {b : Fin n} (H : Ok b) {P : Pt n} (hP : On b P) (i : Nat) : ∀ k, mul (i * k) P = mul k (mul i P)
 | 0 => rfl
 | k + 1 => by
   show mul (i * k + i) P = sum (mul k (mul i P)) (mul i P)
   rw [mul_add H hP, mul_mul H hP i k]
theorem mul_bit {b : Fin n} (H : Ok b) {P : Pt n} (hP : On b P) (k : Nat) : mul (2 * k) P = sum (mul k P) (mul k P) := by
 rw [Nat.two_mul, mul_add H hP]
theorem swap4 {b : Fin n} (H : Ok b) {P Q R S : Pt n} (hP : On b P) (hQ : On b Q) (hR : On b R) (hS : On b S) : sum (sum P Q) (sum R S) = sum (sum P R) (sum Q S) := by
 rw [assoc H hP hQ (sum.on H hR hS), ← assoc H hQ hR hS, sum_comm H hQ hR, assoc H hR hQ hS, ← assoc H hP hR (sum.on H hQ hS)]
end EC
end Go.Proofs.Ytdkkombpkojjaaa
