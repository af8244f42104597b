/- How segments meet, told by their heights; right strips show that nothing crosses, and the other way. -/
import Derived.Test.YtpdfbboagaflhaaGreatM50
import Derived.Test.YtpdfbboagaflhaaGreatM16
import Derived.Test.YtpdfbboagaflhaaGreatM15
import Derived.Test.YtpdfbboagaflhaaGreatM51
import Derived.Deep.SlicePairs
import Derived.Carry
import Derived.Deep.Slices

set_option linter.unusedSimpArgs false
set_option linter.unusedVariables false
namespace Go.Proofs.YtpdfbboagaflhaaGreat
open Go.RowKit

/-! signs -/
theorem turnI_sign (a b c d p q : Int) : turnI a b c d p q = Int.sign ((c - a) * (q - b) - (d - b) * (p - a)) := by
  unfold turnI; rw [← cmpI_sub]; unfold cmpI
  rcases Int.lt_trichotomy ((c - a) * (q - b) - (d - b) * (p - a)) 0 with h | h | h
  · rw [if_pos h, Int.sign_eq_neg_one_of_neg h]
  · rw [h]; rfl
  · rw [if_neg (by omega), if_pos h, Int.sign_eq_one_of_pos h]
theorem sign_cases (x : Int) : (Int.sign x = -1 ∧ x < 0) ∨ (Int.sign x = 0 ∧ x = 0) ∨ (Int.sign x = 1 ∧ 0 < x) := by
  rcases Int.lt_trichotomy x 0 with h | h | h
  · exact .inl ⟨Int.sign_eq_neg_one_of_neg h, h⟩
  · exact .inr (.inl ⟨by rw [h]; rfl, h⟩)
  · exact .inr (.inr ⟨Int.sign_eq_one_of_pos h, h⟩)
theorem btw_sign (e a c : Int) : (min a c ≤ e ∧ e ≤ max a c) ↔ Int.sign (a - e) * Int.sign (c - e) ≤ 0 := by
  rcases sign_cases (a - e) with ⟨h, k⟩ | ⟨h, k⟩ | ⟨h, k⟩ <;> rcases sign_cases (c - e) with ⟨h', k'⟩ | ⟨h', k'⟩ | ⟨h', k'⟩ <;> rw [h, h'] <;> omega
theorem sgn3 (s1 s2 ux vx uy vy dx dy D : Int) (hs1 : s1 = -1 ∨ s1 = 0 ∨ s1 = 1) (hs2 : s2 = -1 ∨ s2 = 0 ∨ s2 = 1) (hdx : dx = -1 ∨ dx = 0 ∨ dx = 1) (hdy : dy = -1 ∨ dy = 0 ∨ dy = 1) (hD : D = -1 ∨ D = 1)
    (h0 : ¬ (dx = 0 ∧ dy = 0)) (e1 : s1 * dx = -(ux * D)) (e2 : s2 * dx = -(vx * D)) (e3 : s1 * dy = -(uy * D)) (e4 : s2 * dy = -(vy * D)) : (ux * vx ≤ 0 ∧ uy * vy ≤ 0) ↔ s1 * s2 ≤ 0 := by
  have k1 : ux = -(s1 * dx * D) := by rcases hD with rfl | rfl <;> omega
  have k2 : vx = -(s2 * dx * D) := by rcases hD with rfl | rfl <;> omega
  have k3 : uy = -(s1 * dy * D) := by rcases hD with rfl | rfl <;> omega
  have k4 : vy = -(s2 * dy * D) := by rcases hD with rfl | rfl <;> omega
  subst k1; subst k2; subst k3; subst k4
  clear e1 e2 e3 e4
  rcases hs1 with rfl | rfl | rfl <;> rcases hs2 with rfl | rfl | rfl <;> rcases hdx with rfl | rfl | rfl <;> rcases hdy with rfl | rfl | rfl <;> rcases hD with rfl | rfl <;> first | (exfalso; omega) | omega

/-- a point p on the line of s: it lies on s if and only if the ends of s do not lie on one side of the line through p with the direction (x, y) -/
theorem onR_cross {a b c d p q x y : Int} (hD : (c - a) * y - (d - b) * x ≠ 0) (hA : (c - a) * (q - b) - (d - b) * (p - a) = 0) :
    (onR p q a b c d = true ↔ Int.sign (x * (b - q) - y * (a - p)) * Int.sign (x * (d - q) - y * (c - p)) ≤ 0) := by
  have hon : onR p q a b c d = true ↔ ((min a c ≤ p ∧ p ≤ max a c) ∧ (min b d ≤ q ∧ q ≤ max b d)) := by
    simp only [onR, btwB, Bool.and_eq_true, beq_iff_eq, decide_eq_true_eq, turnI_sign, hA]
    simp
  rw [hon, btw_sign, btw_sign]
  have e1 : (x * (b - q) - y * (a - p)) * (c - a) = -((a - p) * ((c - a) * y - (d - b) * x)) := by grind
  have e2 : (x * (d - q) - y * (c - p)) * (c - a) = -((c - p) * ((c - a) * y - (d - b) * x)) := by grind
  have e3 : (x * (b - q) - y * (a - p)) * (d - b) = -((b - q) * ((c - a) * y - (d - b) * x)) := by grind
  have e4 : (x * (d - q) - y * (c - p)) * (d - b) = -((d - q) * ((c - a) * y - (d - b) * x)) := by grind
  have g1 := congrArg Int.sign e1
  have g2 := congrArg Int.sign e2
  have g3 := congrArg Int.sign e3
  have g4 := congrArg Int.sign e4
  rw [Int.sign_neg, Int.sign_mul, Int.sign_mul] at g1 g2 g3 g4
  have tri : ∀ z : Int, Int.sign z = -1 ∨ Int.sign z = 0 ∨ Int.sign z = 1 := fun z => by rcases sign_cases z with h | h | h <;> omega
  refine sgn3 _ _ _ _ _ _ _ _ _ (tri _) (tri _) (tri _) (tri _) ?_ ?_ g1 g2 g3 g4
  · rcases sign_cases ((c - a) * y - (d - b) * x) with h | h | h <;> omega
  · rintro ⟨h1, h2⟩
    have h3 : c - a = 0 := by rcases sign_cases (c - a) with h | h | h <;> omega
    have h4 : d - b = 0 := by rcases sign_cases (d - b) with h | h | h <;> omega
    rw [h3, h4] at hD; simp at hD

theorem onR_off {a b c d p q : Int} (hA : (c - a) * (q - b) - (d - b) * (p - a) ≠ 0) : onR p q a b c d = false := by
  rw [Bool.eq_false_iff]; intro h
  simp only [onR, Bool.and_eq_true, beq_iff_eq, turnI_sign] at h
  rcases sign_cases ((c - a) * (q - b) - (d - b) * (p - a)) with k | k | k <;> omega

/-- the point of two lines -/
theorem line_pt {dx dy x y ux uy : Int} (hD : dx * y - dy * x ≠ 0) (h1 : dx * uy - dy * ux = 0) (h2 : x * uy - y * ux = 0) : ux = 0 ∧ uy = 0 := by
  have e1 : ux * (dx * y - dy * x) = 0 := by grind
  have e2 : uy * (dx * y - dy * x) = 0 := by grind
  rcases Int.mul_eq_zero.1 e1 with h | h
  · rcases Int.mul_eq_zero.1 e2 with k | k
    · exact ⟨h, k⟩
    · exact absurd k hD
  · exact absurd h hD
theorem par_trans {dx dy x y ux uy : Int} (h0 : ¬ (x = 0 ∧ y = 0)) (h1 : dx * y - dy * x = 0) (h2 : x * uy - y * ux = 0) : dx * uy - dy * ux = 0 := by
  have e1 : (dx * uy - dy * ux) * x = 0 := by grind
  have e2 : (dx * uy - dy * ux) * y = 0 := by grind
  rcases Int.mul_eq_zero.1 e1 with h | h
  · exact h
  · rcases Int.mul_eq_zero.1 e2 with k | k
    · exact k
    · exact absurd ⟨h, k⟩ h0

/-- the key by which points of one line are ordered -/
def kap (x y : Int) : Int := 10001 * x + y
theorem kap_cmp {x y x' y' : Int} (h : 0 ≤ y ∧ y ≤ 10000) (h' : 0 ≤ y' ∧ y' ≤ 10000) : orI (cmpI x x') (cmpI y y') = cmpI (kap x y) (kap x' y') := by
  unfold orI cmpI kap
  by_cases h1 : x < x'
  · rw [if_pos h1, if_pos (by omega), if_pos (by omega)]
  · by_cases h2 : x' < x
    · rw [if_neg h1, if_pos h2, if_pos (by omega), if_neg (by omega), if_pos (by omega)]
    · rw [if_neg h1, if_neg h2, if_neg (by omega)]
      by_cases h3 : y < y'
      · rw [if_pos h3, if_pos (by omega)]
      · by_cases h4 : y' < y
        · rw [if_neg h3, if_pos h4, if_neg (by omega), if_pos (by omega)]
        · rw [if_neg h3, if_neg h4, if_neg (by omega), if_neg (by omega)]
theorem kap_inj {x y x' y' : Int} (h : 0 ≤ y ∧ y ≤ 10000) (h' : 0 ≤ y' ∧ y' ≤ 10000) : kap x y = kap x' y' ↔ (x = x' ∧ y = y') := by unfold kap; omega

theorem onR_key {a b c d p q : Int} (hb : 0 ≤ b ∧ b ≤ 10000) (hd : 0 ≤ d ∧ d ≤ 10000) (hq : 0 ≤ q ∧ q ≤ 10000) (hA : (c - a) * (q - b) - (d - b) * (p - a) = 0) :
    (onR p q a b c d = true ↔ min (kap a b) (kap c d) ≤ kap p q ∧ kap p q ≤ max (kap a b) (kap c d)) := by
  have hon : onR p q a b c d = true ↔ ((min a c ≤ p ∧ p ≤ max a c) ∧ (min b d ≤ q ∧ q ≤ max b d)) := by
    simp only [onR, btwB, Bool.and_eq_true, beq_iff_eq, decide_eq_true_eq, turnI_sign, hA]
    simp
  rw [hon]
  by_cases hl : a < c ∨ (a = c ∧ b ≤ d)
  · rw [← on_asc hl (by omega)]
    unfold kap; omega
  · have e : (a - c) * (q - d) - (b - d) * (p - c) = 0 := by grind
    have := on_asc (a := c) (b := d) (c := a) (d := b) (p := p) (q := q) (by omega) (by omega)
    rw [show min a c = min c a by omega, show max a c = max c a by omega, show min b d = min d b by omega, show max b d = max d b by omega, ← this]
    unfold kap; omega

theorem f_key {a b c d : Int} (hb : 0 ≤ b ∧ b ≤ 10000) (hd : 0 ≤ d ∧ d ≤ 10000) : kap (f1 a b c d) (f2 a b c d) = min (kap a b) (kap c d) ∧ kap (f3 a b c d) (f4 a b c d) = max (kap a b) (kap c d) := by
  unfold f1 f2 f3 f4
  rw [kap_cmp hb hd]
  unfold cmpI
  by_cases h1 : kap a b < kap c d
  · simp [h1]; omega
  · by_cases h2 : kap c d < kap a b
    · simp [h1, h2]; omega
    · simp [h1, h2]; omega

theorem cmpI_lt (a b : Int) : cmpI a b < 0 ↔ a < b := by unfold cmpI; by_cases h1 : a < b <;> by_cases h2 : b < a <;> simp [h1, h2] <;> omega
theorem cmpI_gt (a b : Int) : 0 < cmpI a b ↔ b < a := by unfold cmpI; by_cases h1 : a < b <;> by_cases h2 : b < a <;> simp [h1, h2] <;> omega
theorem codeI_cmp (a b : Int) : codeI (cmpI a b) = if a < b then 4 else if a = b then 1 else 0 := by
  unfold codeI cmpI
  by_cases h1 : a < b
  · simp [h1]
  · by_cases h2 : b < a
    · have h3 : a ≠ b := by omega
      simp [h1, h2, h3]
    · have h3 : a = b := by omega
      simp [h3]
theorem onLine_key {a b c d e f g h : Int} (hb : 0 ≤ b ∧ b ≤ 10000) (hd : 0 ≤ d ∧ d ≤ 10000) (hf : 0 ≤ f ∧ f ≤ 10000) (hh : 0 ≤ h ∧ h ≤ 10000) :
    onLineI a b c d e f g h = (if max (kap a b) (kap e f) < min (kap c d) (kap g h) then 4 else if max (kap a b) (kap e f) = min (kap c d) (kap g h) then 1 else 0) := by
  unfold onLineI
  rw [kap_cmp hb hf, kap_cmp hd hh, kap_cmp hf hh, kap_cmp hf hd, kap_cmp hb hh, kap_cmp hb hd]
  simp only [cmpI_lt, cmpI_gt]
  by_cases h1 : kap a b < kap e f
  · by_cases h2 : kap g h < kap c d
    · rw [if_pos h1, if_pos h2, codeI_cmp, show max (kap a b) (kap e f) = kap e f by omega, show min (kap c d) (kap g h) = kap g h by omega]
    · rw [if_pos h1, if_neg h2, codeI_cmp, show max (kap a b) (kap e f) = kap e f by omega, show min (kap c d) (kap g h) = kap c d by omega]
  · by_cases h2 : kap g h < kap c d
    · rw [if_neg h1, if_pos h2, codeI_cmp, show max (kap a b) (kap e f) = kap a b by omega, show min (kap c d) (kap g h) = kap g h by omega]
    · rw [if_neg h1, if_neg h2, codeI_cmp, show max (kap a b) (kap e f) = kap a b by omega, show min (kap c d) (kap g h) = kap c d by omega]

/-! the ends that two segments share -/
def bothB (a b c d e f g h : Int) (p : P2) : Bool := onR p.1 p.2 a b c d && onR p.1 p.2 e f g h
def endStep (a b c d e f g h : Int) (out : List P2) (p : P2) : List P2 := if bothB a b c d e f g h p && !out.contains p then out ++ [p] else out
def endsL (a b c d e f g h : Int) : List P2 := [(a, b), (c, d), (e, f), (g, h)].foldl (endStep a b c d e f g h) []
def meetOf (l : List P2) (a b c d e f g h : Int) : Int :=
  match l with
  | [] => if turnI a b c d e f * turnI a b c d g h < 0 ∧ turnI e f g h a b * turnI e f g h c d < 0 then 3 else 0
  | [p] => if (p = (a, b) ∨ p = (c, d)) ∧ (p = (e, f) ∨ p = (g, h)) then 1 else 2
  | _ => 4
def meetR (a b c d e f g h : Int) : Int := meetOf (endsL a b c d e f g h) a b c d e f g h

theorem onR_A (a b c d : Int) : onR a b a b c d = true := by
  simp only [onR, btwB, Bool.and_eq_true, beq_iff_eq, decide_eq_true_eq, turnI_sign]
  refine ⟨⟨by omega, by omega⟩, ?_⟩
  simp
theorem onR_B (a b c d : Int) : onR c d a b c d = true := by
  simp only [onR, btwB, Bool.and_eq_true, beq_iff_eq, decide_eq_true_eq, turnI_sign]
  refine ⟨⟨by omega, by omega⟩, ?_⟩
  rw [Int.mul_comm]; simp

/-- the same list, part by part -/
theorem endsL_parts {a b c d e f g h : Int} {s1 s2 t1 t2 : Bool} (hs1 : onR a b e f g h = s1) (hs2 : onR c d e f g h = s2) (ht1 : onR e f a b c d = t1) (ht2 : onR g h a b c d = t2)
    (h1 : (a, b) ≠ (c, d)) (h2 : (e, f) ≠ (g, h)) :
    endsL a b c d e f g h = (if s1 then [(a, b)] else []) ++ (if s2 then [(c, d)] else []) ++ (if t1 && !((e, f) == (a, b)) && !((e, f) == (c, d)) then [(e, f)] else []) ++ (if t2 && !((g, h) == (a, b)) && !((g, h) == (c, d)) then [(g, h)] else []) := by
  have b1 : bothB a b c d e f g h (a, b) = s1 := by simp [bothB, onR_A, hs1]
  have b2 : bothB a b c d e f g h (c, d) = s2 := by simp [bothB, onR_B, hs2]
  have b3 : bothB a b c d e f g h (e, f) = t1 := by simp [bothB, onR_A, ht1]
  have b4 : bothB a b c d e f g h (g, h) = t2 := by simp [bothB, onR_B, ht2]
  have c1 : (e, f) = (a, b) → t1 = true ∧ s1 = true := by
    intro hh; simp only [Prod.mk.injEq] at hh; obtain ⟨rfl, rfl⟩ := hh; exact ⟨by rw [← ht1, onR_A], by rw [← hs1, onR_A]⟩
  have c2 : (e, f) = (c, d) → t1 = true ∧ s2 = true := by
    intro hh; simp only [Prod.mk.injEq] at hh; obtain ⟨rfl, rfl⟩ := hh; exact ⟨by rw [← ht1, onR_B], by rw [← hs2, onR_A]⟩
  have c3 : (g, h) = (a, b) → t2 = true ∧ s1 = true := by
    intro hh; simp only [Prod.mk.injEq] at hh; obtain ⟨rfl, rfl⟩ := hh; exact ⟨by rw [← ht2, onR_A], by rw [← hs1, onR_B]⟩
  have c4 : (g, h) = (c, d) → t2 = true ∧ s2 = true := by
    intro hh; simp only [Prod.mk.injEq] at hh; obtain ⟨rfl, rfl⟩ := hh; exact ⟨by rw [← ht2, onR_B], by rw [← hs2, onR_B]⟩
  simp only [endsL, List.foldl_cons, List.foldl_nil, endStep, b1, b2, b3, b4]
  clear b1 b2 b3 b4 hs1 hs2 ht1 ht2
  generalize (a, b) = P at *
  generalize (c, d) = Q at *
  generalize (e, f) = U at *
  generalize (g, h) = V at *
  have h1' : Q ≠ P := fun hh => h1 hh.symm
  have h2' : V ≠ U := fun hh => h2 hh.symm
  by_cases e1 : U = P <;> by_cases e2 : U = Q <;> by_cases e3 : V = P <;> by_cases e4 : V = Q <;> cases s1 <;> cases s2 <;> cases t1 <;> cases t2 <;> simp_all

/-- parallel, and not on one line -/
theorem meet_par {a b c d e f g h : Int} (k2 : ¬ (e = g ∧ f = h)) (k1 : ¬ (a = c ∧ b = d)) (hD : (c - a) * (h - f) - (d - b) * (g - e) = 0) (hA : (c - a) * (f - b) - (d - b) * (e - a) ≠ 0) :
    meetR a b c d e f g h = meetI a b c d e f g h := by
  have hA2 : (c - a) * (h - b) - (d - b) * (g - a) = (c - a) * (f - b) - (d - b) * (e - a) := by grind
  have hB2 : (g - e) * (d - f) - (h - f) * (c - e) = (g - e) * (b - f) - (h - f) * (a - e) := by grind
  have hB : (g - e) * (b - f) - (h - f) * (a - e) ≠ 0 := by
    intro hh
    have := par_trans (dx := c - a) (dy := d - b) (x := g - e) (y := h - f) (ux := a - e) (uy := b - f) (by omega) hD hh
    exact hA (by grind)
  have hA2' : (c - a) * (h - b) - (d - b) * (g - a) ≠ 0 := by omega
  have hB2' : (g - e) * (d - f) - (h - f) * (c - e) ≠ 0 := by omega
  have he := endsL_parts (onR_off hB) (onR_off hB2') (onR_off hA) (onR_off hA2') (by simpa using k1) (by simpa using k2)
  simp at he
  rw [meetR, he, meetOf, meetI, turnI_sign, turnI_sign, turnI_sign, turnI_sign, hA2, hB2]
  rcases sign_cases ((c - a) * (f - b) - (d - b) * (e - a)) with ⟨h1, h2⟩ | ⟨h1, h2⟩ | ⟨h1, h2⟩
  · rw [h1]; simp
  · exact absurd h2 hA
  · rw [h1]; simp

/-- on one line -/
theorem meet_line {a b c d e f g h : Int} (k1 : okS a b c d = true) (k2 : okS e f g h = true) (hA1 : (c - a) * (f - b) - (d - b) * (e - a) = 0) (hA2 : (c - a) * (h - b) - (d - b) * (g - a) = 0) :
    meetR a b c d e f g h = meetI a b c d e f g h := by
  obtain ⟨⟨ha, hb⟩, ⟨hc, hd⟩, hs⟩ := okS_iff.1 k1
  obtain ⟨⟨he, hf⟩, ⟨hg, hh⟩, ht⟩ := okS_iff.1 k2
  have hD : (g - e) * (d - b) - (h - f) * (c - a) = 0 := by grind
  have hB1 : (g - e) * (b - f) - (h - f) * (a - e) = 0 := par_trans (dx := g - e) (dy := h - f) (x := c - a) (y := d - b) (ux := a - e) (uy := b - f) (by omega) hD (by grind)
  have hB2 : (g - e) * (d - f) - (h - f) * (c - e) = 0 := by grind
  have t1 := onR_key hb hd hf hA1
  have t2 := onR_key hb hd hh hA2
  have s1 := onR_key hf hh hb hB1
  have s2 := onR_key hf hh hd hB2
  have w1 := kap_inj (x := a) (x' := c) hb hd
  have w2 := kap_inj (x := e) (x' := g) hf hh
  have w3 := kap_inj (x := e) (x' := a) hf hb
  have w4 := kap_inj (x := e) (x' := c) hf hd
  have w5 := kap_inj (x := g) (x' := a) hh hb
  have w6 := kap_inj (x := g) (x' := c) hh hd
  have hI : meetI a b c d e f g h = (if max (min (kap a b) (kap c d)) (min (kap e f) (kap g h)) < min (max (kap a b) (kap c d)) (max (kap e f) (kap g h)) then 4 else if max (min (kap a b) (kap c d)) (min (kap e f) (kap g h)) = min (max (kap a b) (kap c d)) (max (kap e f) (kap g h)) then 1 else 0) := by
    have fb := f_bd 0 10000 a b c d ha hb hc hd
    have fb' := f_bd 0 10000 e f g h he hf hg hh
    rw [meetI, turnI_sign, turnI_sign, hA1, hA2, if_pos ⟨rfl, rfl⟩, onLine_key fb.2.1 fb.2.2.2 fb'.2.1 fb'.2.2.2, (f_key hb hd).1, (f_key hb hd).2, (f_key hf hh).1, (f_key hf hh).2]
  rw [hI, meetR]
  have hp := endsL_parts (a := a) (b := b) (c := c) (d := d) (e := e) (f := f) (g := g) (h := h) rfl rfl rfl rfl (by simpa using hs) (by simpa using ht)
  rw [hp, meetOf.eq_def, turnI_sign, turnI_sign, hA1, hA2]
  have v1 : (((e, f) : P2) == (a, b)) = decide (kap e f = kap a b) := by rw [Bool.eq_iff_iff]; simp [w3]
  have v2 : (((e, f) : P2) == (c, d)) = decide (kap e f = kap c d) := by rw [Bool.eq_iff_iff]; simp [w4]
  have v3 : (((g, h) : P2) == (a, b)) = decide (kap g h = kap a b) := by rw [Bool.eq_iff_iff]; simp [w5]
  have v4 : (((g, h) : P2) == (c, d)) = decide (kap g h = kap c d) := by rw [Bool.eq_iff_iff]; simp [w6]
  rw [v1, v2, v3, v4]
  have n1 : kap a b ≠ kap c d := fun hh => hs (w1.1 hh)
  have n2 : kap e f ≠ kap g h := fun hh => ht (w2.1 hh)
  have x1 : ((e, f) : P2) = (a, b) ↔ kap e f = kap a b := by rw [w3]; simp
  have x2 : ((e, f) : P2) = (c, d) ↔ kap e f = kap c d := by rw [w4]; simp
  have x3 : ((g, h) : P2) = (a, b) ↔ kap g h = kap a b := by rw [w5]; simp
  have x4 : ((g, h) : P2) = (c, d) ↔ kap g h = kap c d := by rw [w6]; simp
  have x1' : ((a, b) : P2) = (e, f) ↔ kap e f = kap a b := by rw [← x1]; exact eq_comm
  have x2' : ((c, d) : P2) = (e, f) ↔ kap e f = kap c d := by rw [← x2]; exact eq_comm
  have x3' : ((a, b) : P2) = (g, h) ↔ kap g h = kap a b := by rw [← x3]; exact eq_comm
  have x4' : ((c, d) : P2) = (g, h) ↔ kap g h = kap c d := by rw [← x4]; exact eq_comm
  clear v1 v2 v3 v4 hp hI w1 w2 w3 w4 w5 w6 hA1 hA2 hB1 hB2 hD k1 k2 hs ht ha hb hc hd he hf hg hh
  generalize onR a b e f g h = S1 at *
  generalize onR c d e f g h = S2 at *
  generalize onR e f a b c d = T1 at *
  generalize onR g h a b c d = T2 at *
  generalize kap a b = P at *
  generalize kap c d = Q at *
  generalize kap e f = U at *
  generalize kap g h = V at *
  generalize ((a, b) : P2) = pp at *
  generalize ((c, d) : P2) = qq at *
  generalize ((e, f) : P2) = uu at *
  generalize ((g, h) : P2) = vv at *
  have z : Int.sign 0 * Int.sign 0 < 0 ↔ False := by decide
  cases S1 <;> cases S2 <;> cases T1 <;> cases T2 <;> simp only [Bool.false_eq_true, false_iff, true_iff, Bool.false_and, Bool.true_and, if_false, if_true] at * <;>
    by_cases e1 : U = P <;> by_cases e2 : U = Q <;> by_cases e3 : V = P <;> by_cases e4 : V = Q <;> first
    | (exfalso; omega)
    | (simp [e1, e2, e3, e4, x1', x2', x3', x4', x1, x2, x3, x4]; omega)
    | (simp [e1, e2, e3, e4, x1', x2', x3', x4', x1, x2, x3, x4])

theorem sign_cases' (x : Int) : (Int.sign x = -1 ∧ x < 0 ∧ (x = 0) = False) ∨ (Int.sign x = 0 ∧ x = 0 ∧ (x = 0) = True) ∨ (Int.sign x = 1 ∧ 0 < x ∧ (x = 0) = False) := by
  rcases sign_cases x with ⟨h, k⟩ | ⟨h, k⟩ | ⟨h, k⟩
  · exact .inl ⟨h, k, eq_false (by omega)⟩
  · exact .inr (.inl ⟨h, k, eq_true k⟩)
  · exact .inr (.inr ⟨h, k, eq_false (by omega)⟩)

set_option maxHeartbeats 1000000 in
/-- the lines cross -/
theorem meet_skew {a b c d e f g h : Int} (k2 : ¬ (e = g ∧ f = h)) (k1 : ¬ (a = c ∧ b = d)) (hD : (c - a) * (h - f) - (d - b) * (g - e) ≠ 0) :
    meetR a b c d e f g h = meetI a b c d e f g h := by
  have hD' : (g - e) * (d - b) - (h - f) * (c - a) ≠ 0 := by
    intro hh; apply hD; grind
  -- the four numbers
  obtain ⟨A1, hA1⟩ : ∃ x, x = (c - a) * (f - b) - (d - b) * (e - a) := ⟨_, rfl⟩
  obtain ⟨A2, hA2⟩ : ∃ x, x = (c - a) * (h - b) - (d - b) * (g - a) := ⟨_, rfl⟩
  obtain ⟨B1, hB1⟩ : ∃ x, x = (g - e) * (b - f) - (h - f) * (a - e) := ⟨_, rfl⟩
  obtain ⟨B2, hB2⟩ : ∃ x, x = (g - e) * (d - f) - (h - f) * (c - e) := ⟨_, rfl⟩
  have r1 : A2 - A1 = (c - a) * (h - f) - (d - b) * (g - e) := by rw [hA1, hA2]; grind
  have r2 : B1 - B2 = (c - a) * (h - f) - (d - b) * (g - e) := by rw [hB1, hB2]; grind
  have T1 : onR e f a b c d = true ↔ A1 = 0 ∧ Int.sign B1 * Int.sign B2 ≤ 0 := by
    by_cases z : A1 = 0
    · have := onR_cross (p := e) (q := f) (x := g - e) (y := h - f) hD (by omega)
      rw [← hB1, ← hB2] at this; rw [this]; simp [z]
    · rw [onR_off (by omega)]; simp [z]
  have T2 : onR g h a b c d = true ↔ A2 = 0 ∧ Int.sign B1 * Int.sign B2 ≤ 0 := by
    by_cases z : A2 = 0
    · have := onR_cross (p := g) (q := h) (x := g - e) (y := h - f) hD (by omega)
      rw [show (g - e) * (b - h) - (h - f) * (a - g) = B1 by rw [hB1]; grind, show (g - e) * (d - h) - (h - f) * (c - g) = B2 by rw [hB2]; grind] at this; rw [this]; simp [z]
    · rw [onR_off (by omega)]; simp [z]
  have S1 : onR a b e f g h = true ↔ B1 = 0 ∧ Int.sign A1 * Int.sign A2 ≤ 0 := by
    by_cases z : B1 = 0
    · have := onR_cross (p := a) (q := b) (x := c - a) (y := d - b) hD' (by omega)
      rw [← hA1, ← hA2] at this; rw [this]; simp [z]
    · rw [onR_off (by omega)]; simp [z]
  have S2 : onR c d e f g h = true ↔ B2 = 0 ∧ Int.sign A1 * Int.sign A2 ≤ 0 := by
    by_cases z : B2 = 0
    · have := onR_cross (p := c) (q := d) (x := c - a) (y := d - b) hD' (by omega)
      rw [show (c - a) * (f - d) - (d - b) * (e - c) = A1 by rw [hA1]; grind, show (c - a) * (h - d) - (d - b) * (g - c) = A2 by rw [hA2]; grind] at this; rw [this]; simp [z]
    · rw [onR_off (by omega)]; simp [z]
  have E1 : ((e, f) : P2) = (a, b) ↔ A1 = 0 ∧ B1 = 0 := by
    constructor
    · intro hh; simp only [Prod.mk.injEq] at hh; obtain ⟨rfl, rfl⟩ := hh; rw [hA1, hB1]; simp
    · rintro ⟨z1, z2⟩; have := line_pt (ux := a - e) (uy := b - f) hD (by grind) (by omega); simp only [Prod.mk.injEq]; omega
  have E2 : ((e, f) : P2) = (c, d) ↔ A1 = 0 ∧ B2 = 0 := by
    constructor
    · intro hh; simp only [Prod.mk.injEq] at hh; obtain ⟨rfl, rfl⟩ := hh; rw [hA1, hB2]; constructor <;> grind
    · rintro ⟨z1, z2⟩; have := line_pt (ux := c - e) (uy := d - f) hD (by grind) (by omega); simp only [Prod.mk.injEq]; omega
  have E3 : ((g, h) : P2) = (a, b) ↔ A2 = 0 ∧ B1 = 0 := by
    constructor
    · intro hh; simp only [Prod.mk.injEq] at hh; obtain ⟨rfl, rfl⟩ := hh; rw [hA2, hB1]; constructor <;> grind
    · rintro ⟨z1, z2⟩; have := line_pt (ux := a - g) (uy := b - h) hD (by grind) (by grind); simp only [Prod.mk.injEq]; omega
  have E4 : ((g, h) : P2) = (c, d) ↔ A2 = 0 ∧ B2 = 0 := by
    constructor
    · intro hh; simp only [Prod.mk.injEq] at hh; obtain ⟨rfl, rfl⟩ := hh; rw [hA2, hB2]; constructor <;> grind
    · rintro ⟨z1, z2⟩; have := line_pt (ux := c - g) (uy := d - h) hD (by grind) (by grind); simp only [Prod.mk.injEq]; omega
  have F1 : ((a, b) : P2) = (e, f) ↔ A1 = 0 ∧ B1 = 0 := by rw [← E1]; exact eq_comm
  have F2 : ((c, d) : P2) = (e, f) ↔ A1 = 0 ∧ B2 = 0 := by rw [← E2]; exact eq_comm
  have F3 : ((a, b) : P2) = (g, h) ↔ A2 = 0 ∧ B1 = 0 := by rw [← E3]; exact eq_comm
  have F4 : ((c, d) : P2) = (g, h) ↔ A2 = 0 ∧ B2 = 0 := by rw [← E4]; exact eq_comm
  have hp := endsL_parts (a := a) (b := b) (c := c) (d := d) (e := e) (f := f) (g := g) (h := h) rfl rfl rfl rfl (by simpa using k1) (by simpa using k2)
  rw [meetR, hp, meetOf.eq_def, meetI, turnI_sign, turnI_sign, turnI_sign, turnI_sign, ← hA1, ← hA2, ← hB1, ← hB2]
  have v1 : (((e, f) : P2) == (a, b)) = decide (A1 = 0 ∧ B1 = 0) := by rw [Bool.eq_iff_iff, beq_iff_eq, E1]; simp
  have v2 : (((e, f) : P2) == (c, d)) = decide (A1 = 0 ∧ B2 = 0) := by rw [Bool.eq_iff_iff, beq_iff_eq, E2]; simp
  have v3 : (((g, h) : P2) == (a, b)) = decide (A2 = 0 ∧ B1 = 0) := by rw [Bool.eq_iff_iff, beq_iff_eq, E3]; simp
  have v4 : (((g, h) : P2) == (c, d)) = decide (A2 = 0 ∧ B2 = 0) := by rw [Bool.eq_iff_iff, beq_iff_eq, E4]; simp
  have w1 : onR a b e f g h = decide (B1 = 0 ∧ Int.sign A1 * Int.sign A2 ≤ 0) := by rw [Bool.eq_iff_iff, S1]; simp
  have w2 : onR c d e f g h = decide (B2 = 0 ∧ Int.sign A1 * Int.sign A2 ≤ 0) := by rw [Bool.eq_iff_iff, S2]; simp
  have w3 : onR e f a b c d = decide (A1 = 0 ∧ Int.sign B1 * Int.sign B2 ≤ 0) := by rw [Bool.eq_iff_iff, T1]; simp
  have w4 : onR g h a b c d = decide (A2 = 0 ∧ Int.sign B1 * Int.sign B2 ≤ 0) := by rw [Bool.eq_iff_iff, T2]; simp
  rw [v1, v2, v3, v4, w1, w2, w3, w4]
  have q1 : A2 - A1 ≠ 0 := by rw [r1]; exact hD
  have q2 : B1 - B2 ≠ 0 := by rw [r2]; exact hD
  have q3 : A2 - A1 = B1 - B2 := by rw [r1, r2]
  clear v1 v2 v3 v4 w1 w2 w3 w4 hp S1 S2 T1 T2 r1 r2 hA1 hA2 hB1 hB2 hD hD' k1 k2
  generalize ((a, b) : P2) = pp at *
  generalize ((c, d) : P2) = qq at *
  generalize ((e, f) : P2) = uu at *
  generalize ((g, h) : P2) = vv at *
  rcases sign_cases' A1 with ⟨h1, z1, n1⟩ | ⟨h1, z1, n1⟩ | ⟨h1, z1, n1⟩ <;> rcases sign_cases' A2 with ⟨h2, z2, n2⟩ | ⟨h2, z2, n2⟩ | ⟨h2, z2, n2⟩ <;> rcases sign_cases' B1 with ⟨h3, z3, n3⟩ | ⟨h3, z3, n3⟩ | ⟨h3, z3, n3⟩ <;> rcases sign_cases' B2 with ⟨h4, z4, n4⟩ | ⟨h4, z4, n4⟩ | ⟨h4, z4, n4⟩ <;> first
    | (exfalso; clear E1 E2 E3 E4 F1 F2 F3 F4 n1 n2 n3 n4; omega)
    | (rw [h1, h2, h3, h4]
       simp only [n1, n2, n3, n4, and_false, and_true, false_and, true_and] at E1 E2 E3 E4 F1 F2 F3 F4 ⊢
       simp [E1, E2, E3, E4, F1, F2, F3, F4])

theorem meet_eq {a b c d e f g h : Int} (k1 : okS a b c d = true) (k2 : okS e f g h = true) : meetR a b c d e f g h = meetI a b c d e f g h := by
  obtain ⟨_, _, hs⟩ := okS_iff.1 k1
  obtain ⟨_, _, ht⟩ := okS_iff.1 k2
  by_cases hD : (c - a) * (h - f) - (d - b) * (g - e) = 0
  · by_cases hA : (c - a) * (f - b) - (d - b) * (e - a) = 0
    · exact meet_line k1 k2 hA (by grind)
    · exact meet_par ht hs hD hA
  · exact meet_skew ht hs hD

/-! turning the ends round, exchanging the segments -/
theorem cross_rev (a b c d p q : Int) : (a - c) * (q - d) - (b - d) * (p - c) = -((c - a) * (q - b) - (d - b) * (p - a)) := by grind
theorem turnI_rev (a b c d p q : Int) : turnI c d a b p q = - turnI a b c d p q := by rw [turnI_sign, turnI_sign, cross_rev, Int.sign_neg]
theorem onR_rev (p q a b c d : Int) : onR p q c d a b = onR p q a b c d := by
  rw [Bool.eq_iff_iff]
  simp only [onR, btwB, Bool.and_eq_true, beq_iff_eq, decide_eq_true_eq]
  rw [turnI_rev a b c d]
  omega
theorem collin_comm {a b c d e f g h : Int} (k1 : ¬ (a = c ∧ b = d)) (h1 : turnI a b c d e f = 0) (h2 : turnI a b c d g h = 0) : turnI e f g h a b = 0 ∧ turnI e f g h c d = 0 := by
  rw [turnI_sign, Int.sign_eq_zero_iff_zero] at h1 h2
  have hD : (g - e) * (d - b) - (h - f) * (c - a) = 0 := by grind
  have hB1 : (g - e) * (b - f) - (h - f) * (a - e) = 0 := par_trans (dx := g - e) (dy := h - f) (x := c - a) (y := d - b) (ux := a - e) (uy := b - f) (by omega) hD (by grind)
  have hB2 : (g - e) * (d - f) - (h - f) * (c - e) = 0 := by grind
  rw [turnI_sign, turnI_sign, hB1, hB2]; exact ⟨rfl, rfl⟩
theorem fkey2 {a b c d : Int} (hb : 0 ≤ b ∧ b ≤ 10000) (hd : 0 ≤ d ∧ d ≤ 10000) : kap (f1 c d a b) (f2 c d a b) = kap (f1 a b c d) (f2 a b c d) ∧ kap (f3 c d a b) (f4 c d a b) = kap (f3 a b c d) (f4 a b c d) := by
  rw [(f_key hb hd).1, (f_key hb hd).2, (f_key hd hb).1, (f_key hd hb).2]; omega
theorem onLine_f {a b c d e f g h : Int} (k1 : okS a b c d = true) (k2 : okS e f g h = true) :
    onLineI (f1 a b c d) (f2 a b c d) (f3 a b c d) (f4 a b c d) (f1 e f g h) (f2 e f g h) (f3 e f g h) (f4 e f g h) =
      (if max (min (kap a b) (kap c d)) (min (kap e f) (kap g h)) < min (max (kap a b) (kap c d)) (max (kap e f) (kap g h)) then 4 else if max (min (kap a b) (kap c d)) (min (kap e f) (kap g h)) = min (max (kap a b) (kap c d)) (max (kap e f) (kap g h)) then 1 else 0) := by
  obtain ⟨⟨ha, hb⟩, ⟨hc, hd⟩, hs⟩ := okS_iff.1 k1
  obtain ⟨⟨he, hf⟩, ⟨hg, hh⟩, ht⟩ := okS_iff.1 k2
  have fb := f_bd 0 10000 a b c d ha hb hc hd
  have fb' := f_bd 0 10000 e f g h he hf hg hh
  rw [onLine_key fb.2.1 fb.2.2.2 fb'.2.1 fb'.2.2.2, (f_key hb hd).1, (f_key hb hd).2, (f_key hf hh).1, (f_key hf hh).2]
theorem okS_swap (a b c d : Int) : okS c d a b = okS a b c d := by
  rw [Bool.eq_iff_iff, okS_iff, okS_iff]; omega
theorem meetI_comm {a b c d e f g h : Int} (k1 : okS a b c d = true) (k2 : okS e f g h = true) : meetI e f g h a b c d = meetI a b c d e f g h := by
  have hs := (okS_iff.1 k1).2.2
  have ht := (okS_iff.1 k2).2.2
  unfold meetI
  by_cases h1 : turnI a b c d e f = 0 ∧ turnI a b c d g h = 0
  · rw [if_pos (collin_comm hs h1.1 h1.2), if_pos h1, onLine_f k2 k1, onLine_f k1 k2, Int.max_comm (min (kap e f) _), Int.min_comm (max (kap e f) _)]
  · have h2 : ¬ (turnI e f g h a b = 0 ∧ turnI e f g h c d = 0) := fun hh => h1 (collin_comm ht hh.1 hh.2)
    rw [if_neg h1, if_neg h2]
    simp only [or_comm (a := 0 < turnI e f g h a b * turnI e f g h c d), and_comm (a := turnI e f g h a b * turnI e f g h c d = 0), or_comm (a := turnI e f g h a b * turnI e f g h c d = 0)]
theorem meetI_rev {a b c d e f g h : Int} (k1 : okS a b c d = true) (k2 : okS e f g h = true) : meetI a b c d g h e f = meetI a b c d e f g h := by
  have k3 : okS g h e f = true := by rw [okS_swap]; exact k2
  unfold meetI
  by_cases h1 : turnI a b c d e f = 0 ∧ turnI a b c d g h = 0
  · rw [if_pos ⟨h1.2, h1.1⟩, if_pos h1, onLine_f k1 k3, onLine_f k1 k2, Int.max_comm (kap g h), Int.min_comm (kap g h)]
  · have h2 : ¬ (turnI a b c d g h = 0 ∧ turnI a b c d e f = 0) := fun hh => h1 ⟨hh.2, hh.1⟩
    rw [if_neg h1, if_neg h2, Int.mul_comm (turnI a b c d g h), turnI_rev e f g h a b, turnI_rev e f g h c d, Int.neg_mul_neg]
theorem meetI_rev1 {a b c d e f g h : Int} (k1 : okS a b c d = true) (k2 : okS e f g h = true) : meetI c d a b e f g h = meetI a b c d e f g h := by
  have k3 : okS c d a b = true := by rw [okS_swap]; exact k1
  rw [← meetI_comm k3 k2, meetI_rev k2 k1, meetI_comm k1 k2]

/-! the one point that is an end -/
def cEnd (a b c d e f g h : Int) : P2 := if onR a b e f g h then (a, b) else if onR c d e f g h then (c, d) else if onR e f a b c d then (e, f) else (g, h)
theorem meetOf_end {l : List P2} {a b c d e f g h : Int} (hk : meetOf l a b c d e f g h = 1 ∨ meetOf l a b c d e f g h = 2) : ∃ p, l = [p] := by
  unfold meetOf at hk
  match l, hk with
  | [], hk => simp only at hk; split at hk <;> omega
  | [p], _ => exact ⟨p, rfl⟩
  | _ :: _ :: _, hk => simp at hk
theorem ends_mem {a b c d e f g h : Int} (k1 : ¬ (a = c ∧ b = d)) (k2 : ¬ (e = g ∧ f = h)) (p : P2) (hp : p = (a, b) ∨ p = (c, d) ∨ p = (e, f) ∨ p = (g, h)) (hb : bothB a b c d e f g h p = true) : p ∈ endsL a b c d e f g h := by
  rw [endsL_parts rfl rfl rfl rfl (by simpa using k1) (by simpa using k2)]
  simp only [bothB, Bool.and_eq_true] at hb
  have m1 : p = (a, b) → p ∈ (if onR a b e f g h = true then [(a, b)] else []) := by
    rintro rfl; rw [if_pos hb.2]; simp
  have m2 : p = (c, d) → p ∈ (if onR c d e f g h = true then [(c, d)] else []) := by
    rintro rfl; rw [if_pos hb.2]; simp
  simp only [List.mem_append]
  by_cases e1 : p = (a, b)
  · exact .inl (.inl (.inl (m1 e1)))
  · by_cases e2 : p = (c, d)
    · exact .inl (.inl (.inr (m2 e2)))
    · rcases hp with h1 | h1 | h1 | h1
      · exact absurd h1 e1
      · exact absurd h1 e2
      · subst h1
        refine .inl (.inr ?_)
        have n1 : (((e, f) : P2) == (a, b)) = false := by simpa using e1
        have n2 : (((e, f) : P2) == (c, d)) = false := by simpa using e2
        rw [n1, n2, hb.1]; simp
      · subst h1
        refine .inr ?_
        have n1 : (((g, h) : P2) == (a, b)) = false := by simpa using e1
        have n2 : (((g, h) : P2) == (c, d)) = false := by simpa using e2
        rw [n1, n2, hb.1]; simp
theorem ends_sub {a b c d e f g h : Int} (k1 : ¬ (a = c ∧ b = d)) (k2 : ¬ (e = g ∧ f = h)) (p : P2) (hp : p ∈ endsL a b c d e f g h) : (p = (a, b) ∨ p = (c, d) ∨ p = (e, f) ∨ p = (g, h)) ∧ bothB a b c d e f g h p = true := by
  rw [endsL_parts rfl rfl rfl rfl (by simpa using k1) (by simpa using k2)] at hp
  simp only [List.mem_append, or_assoc] at hp
  rcases hp with h1 | h1 | h1 | h1
  · split at h1
    · rename_i hh; simp at h1; subst h1; exact ⟨.inl rfl, by simp [bothB, onR_A, hh]⟩
    · simp at h1
  · split at h1
    · rename_i hh; simp at h1; subst h1; exact ⟨.inr (.inl rfl), by simp [bothB, onR_B, hh]⟩
    · simp at h1
  · split at h1
    · rename_i hh; simp at h1; subst h1; simp only [Bool.and_eq_true] at hh; exact ⟨.inr (.inr (.inl rfl)), by simp [bothB, onR_A, hh.1.1]⟩
    · simp at h1
  · split at h1
    · rename_i hh; simp at h1; subst h1; simp only [Bool.and_eq_true] at hh; exact ⟨.inr (.inr (.inr rfl)), by simp [bothB, onR_B, hh.1.1]⟩
    · simp at h1
/-- where both have just one such point it is cEnd -/
theorem cEnd_one {a b c d e f g h : Int} (k1 : okS a b c d = true) (k2 : okS e f g h = true) (hk : meetI a b c d e f g h = 1 ∨ meetI a b c d e f g h = 2) : endsL a b c d e f g h = [cEnd a b c d e f g h] := by
  rw [← meet_eq k1 k2, meetR] at hk
  obtain ⟨p, hp⟩ := meetOf_end hk
  have hs := (okS_iff.1 k1).2.2
  have ht := (okS_iff.1 k2).2.2
  have sub := ends_sub hs ht p (by rw [hp]; simp)
  have one : ∀ q : P2, (q = (a, b) ∨ q = (c, d) ∨ q = (e, f) ∨ q = (g, h)) → bothB a b c d e f g h q = true → q = p := fun q h1 h2 => by
    have := ends_mem hs ht q h1 h2; rw [hp] at this; simpa using this
  rw [hp, cEnd]
  congr 1
  by_cases s1 : onR a b e f g h = true
  · rw [if_pos s1]; exact (one _ (.inl rfl) (by simp [bothB, onR_A, s1])).symm
  · by_cases s2 : onR c d e f g h = true
    · rw [if_neg s1, if_pos s2]; exact (one _ (.inr (.inl rfl)) (by simp [bothB, onR_B, s2])).symm
    · by_cases s3 : onR e f a b c d = true
      · rw [if_neg s1, if_neg s2, if_pos s3]; exact (one _ (.inr (.inr (.inl rfl))) (by simp [bothB, onR_A, s3])).symm
      · rw [if_neg s1, if_neg s2, if_neg s3]
        obtain ⟨h1, h2⟩ := sub
        simp only [bothB, Bool.and_eq_true] at h2
        rcases h1 with rfl | rfl | rfl | rfl
        · exact absurd h2.2 s1
        · exact absurd h2.2 s2
        · exact absurd h2.1 s3
        · rfl
theorem bothB_turn (a b c d e f g h : Int) (p : P2) : bothB g h e f a b c d p = bothB a b c d e f g h p := by
  unfold bothB; rw [onR_rev p.1 p.2 e f g h, Bool.and_comm]
theorem cEnd_turn {a b c d e f g h : Int} (k1 : okS a b c d = true) (k2 : okS e f g h = true) (hk : meetI a b c d e f g h = 1 ∨ meetI a b c d e f g h = 2) : cEnd g h e f a b c d = cEnd a b c d e f g h := by
  have k3 : okS g h e f = true := by rw [okS_swap]; exact k2
  have he := cEnd_one k1 k2 hk
  have hk' : meetI g h e f a b c d = 1 ∨ meetI g h e f a b c d = 2 := by rw [meetI_rev1 k2 k1, meetI_comm k1 k2]; exact hk
  have he' := cEnd_one k3 k1 hk'
  have hs := (okS_iff.1 k1).2.2
  have ht := (okS_iff.1 k2).2.2
  have ht' := (okS_iff.1 k3).2.2
  have sub := ends_sub ht' hs (cEnd g h e f a b c d) (by rw [he']; simp)
  have := ends_mem hs ht (cEnd g h e f a b c d) (by rcases sub.1 with x | x | x | x <;> simp [x]) (by rw [← bothB_turn]; exact sub.2)
  rw [he] at this
  simpa using this

/-! which of two segments is above -/
def Fd (a b c d e f g h m : Int) : Int := (b * (2 * (c - a)) + (d - b) * (m - 2 * a)) * (2 * (g - e)) - (f * (2 * (g - e)) + (h - f) * (m - 2 * e)) * (2 * (c - a))
theorem Fd_lin (a b c d e f g h m n : Int) : Fd a b c d e f g h n = Fd a b c d e f g h m + (2 * ((d - b) * (g - e) - (h - f) * (c - a))) * (n - m) := by unfold Fd; grind
theorem Fd_e (a b c d e f g h : Int) : Fd a b c d e f g h (2 * e) = (g - e) * (-4 * ((c - a) * (f - b) - (d - b) * (e - a))) := by unfold Fd; grind
theorem Fd_g (a b c d e f g h : Int) : Fd a b c d e f g h (2 * g) = (g - e) * (-4 * ((c - a) * (h - b) - (d - b) * (g - a))) := by unfold Fd; grind
theorem Fd_a (a b c d e f g h : Int) : Fd a b c d e f g h (2 * a) = (c - a) * (4 * ((g - e) * (b - f) - (h - f) * (a - e))) := by unfold Fd; grind
theorem Fd_c (a b c d e f g h : Int) : Fd a b c d e f g h (2 * c) = (c - a) * (4 * ((g - e) * (d - f) - (h - f) * (c - e))) := by unfold Fd; grind
theorem pos_of_mul {x y : Int} (hx : 0 < x) (h : 0 < x * y) : 0 < y := by
  rcases Int.lt_trichotomy y 0 with k | k | k
  · have := Int.mul_nonneg (a := x) (b := -y) (by omega) (by omega); rw [Int.mul_neg] at this; omega
  · rw [k, Int.mul_zero] at h; omega
  · exact k
theorem neg_of_mul {x y : Int} (hx : 0 < x) (h : x * y < 0) : y < 0 := by
  have h2 : 0 < x * (-y) := by rw [Int.mul_neg]; omega
  have := pos_of_mul hx h2; omega
theorem zero_of_mul {x y : Int} (hx : 0 < x) (h : x * y = 0) : y = 0 := by
  rcases Int.mul_eq_zero.1 h with k | k <;> omega
theorem mul_np {x y : Int} (hx : x ≤ 0) (hy : y ≤ 0) : 0 ≤ x * y := Int.mul_nonneg_of_nonpos_of_nonpos hx hy
theorem mul_pn {x y : Int} (hx : x ≤ 0) (hy : 0 ≤ y) : x * y ≤ 0 := Int.mul_nonpos_of_nonpos_of_nonneg hx hy

section
variable {a b c d e f g h u v : Int}
theorem Fd_dec (hac : a < c) (heg : e < g) (ha : a ≤ u) (he : e ≤ u) (hc : v ≤ c) (hg : v ≤ g) (huv : u < v) (h1 : 0 < Fd a b c d e f g h (2 * u)) (h2 : Fd a b c d e f g h (2 * v) < 0) :
    ((c - a) * (f - b) - (d - b) * (e - a) < 0 ∧ 0 < (c - a) * (h - b) - (d - b) * (g - a)) ∧ (0 < (g - e) * (b - f) - (h - f) * (a - e) ∧ (g - e) * (d - f) - (h - f) * (c - e) < 0) := by
  have l1 := Fd_lin a b c d e f g h (2 * u) (2 * v)
  have l2 := Fd_lin a b c d e f g h (2 * u) (2 * a)
  have l3 := Fd_lin a b c d e f g h (2 * u) (2 * e)
  have l4 := Fd_lin a b c d e f g h (2 * v) (2 * c)
  have l5 := Fd_lin a b c d e f g h (2 * v) (2 * g)
  have k1 := Fd_e a b c d e f g h
  have k2 := Fd_g a b c d e f g h
  have k3 := Fd_a a b c d e f g h
  have k4 := Fd_c a b c d e f g h
  generalize 2 * ((d - b) * (g - e) - (h - f) * (c - a)) = B at *
  have hB : B < 0 := neg_of_mul (x := 2 * v - 2 * u) (by omega) (by rw [Int.mul_comm]; omega)
  have m1 := mul_np (x := B) (y := 2 * a - 2 * u) (by omega) (by omega)
  have m2 := mul_np (x := B) (y := 2 * e - 2 * u) (by omega) (by omega)
  have m3 := mul_pn (x := B) (y := 2 * c - 2 * v) (by omega) (by omega)
  have m4 := mul_pn (x := B) (y := 2 * g - 2 * v) (by omega) (by omega)
  have r1 := pos_of_mul (x := g - e) (by omega) (show 0 < _ by rw [← k1]; omega)
  have r2 := neg_of_mul (x := g - e) (by omega) (show _ < 0 by rw [← k2]; omega)
  have r3 := pos_of_mul (x := c - a) (by omega) (show 0 < _ by rw [← k3]; omega)
  have r4 := neg_of_mul (x := c - a) (by omega) (show _ < 0 by rw [← k4]; omega)
  omega
theorem Fd_inc (hac : a < c) (heg : e < g) (ha : a ≤ u) (he : e ≤ u) (hc : v ≤ c) (hg : v ≤ g) (huv : u < v) (h1 : Fd a b c d e f g h (2 * u) < 0) (h2 : 0 < Fd a b c d e f g h (2 * v)) :
    (0 < (c - a) * (f - b) - (d - b) * (e - a) ∧ (c - a) * (h - b) - (d - b) * (g - a) < 0) ∧ ((g - e) * (b - f) - (h - f) * (a - e) < 0 ∧ 0 < (g - e) * (d - f) - (h - f) * (c - e)) := by
  have l1 := Fd_lin a b c d e f g h (2 * u) (2 * v)
  have l2 := Fd_lin a b c d e f g h (2 * u) (2 * a)
  have l3 := Fd_lin a b c d e f g h (2 * u) (2 * e)
  have l4 := Fd_lin a b c d e f g h (2 * v) (2 * c)
  have l5 := Fd_lin a b c d e f g h (2 * v) (2 * g)
  have k1 := Fd_e a b c d e f g h
  have k2 := Fd_g a b c d e f g h
  have k3 := Fd_a a b c d e f g h
  have k4 := Fd_c a b c d e f g h
  generalize 2 * ((d - b) * (g - e) - (h - f) * (c - a)) = B at *
  have hB : 0 < B := pos_of_mul (x := 2 * v - 2 * u) (by omega) (by rw [Int.mul_comm]; omega)
  have m1 := mul_pn (y := B) (x := 2 * a - 2 * u) (by omega) (by omega)
  have m2 := mul_pn (y := B) (x := 2 * e - 2 * u) (by omega) (by omega)
  have m3 := Int.mul_nonneg (a := B) (b := 2 * c - 2 * v) (by omega) (by omega)
  have m4 := Int.mul_nonneg (a := B) (b := 2 * g - 2 * v) (by omega) (by omega)
  rw [Int.mul_comm] at m1 m2
  have r1 := neg_of_mul (x := g - e) (by omega) (show _ < 0 by rw [← k1]; omega)
  have r2 := pos_of_mul (x := g - e) (by omega) (show 0 < _ by rw [← k2]; omega)
  have r3 := neg_of_mul (x := c - a) (by omega) (show _ < 0 by rw [← k3]; omega)
  have r4 := pos_of_mul (x := c - a) (by omega) (show 0 < _ by rw [← k4]; omega)
  omega
theorem Fd_nil (hac : a < c) (heg : e < g) (huv : u < v) (h1 : Fd a b c d e f g h (2 * u) = 0) (h2 : Fd a b c d e f g h (2 * v) = 0) :
    (c - a) * (f - b) - (d - b) * (e - a) = 0 ∧ (c - a) * (h - b) - (d - b) * (g - a) = 0 := by
  have l1 := Fd_lin a b c d e f g h (2 * u) (2 * v)
  have l3 := Fd_lin a b c d e f g h (2 * u) (2 * e)
  have l5 := Fd_lin a b c d e f g h (2 * v) (2 * g)
  have k1 := Fd_e a b c d e f g h
  have k2 := Fd_g a b c d e f g h
  generalize 2 * ((d - b) * (g - e) - (h - f) * (c - a)) = B at *
  have hB : B = 0 := zero_of_mul (x := 2 * v - 2 * u) (by omega) (by rw [Int.mul_comm]; omega)
  rw [hB, Int.zero_mul] at l3 l5
  have r1 := zero_of_mul (x := g - e) (by omega) (show _ = 0 by rw [← k1]; omega)
  have r2 := zero_of_mul (x := g - e) (by omega) (show _ = 0 by rw [← k2]; omega)
  omega
end

def aFrom (a b c d e f g h : Int) : Int := max (f1 a b c d) (f1 e f g h)
def aTo (a b c d e f g h : Int) : Int := min (f3 a b c d) (f3 e f g h)
def aCmp (a b c d e f g h m : Int) : Int := cmpR (hN a b c d m) (hW a b c d) (hN e f g h m) (hW e f g h)
def aOk (a b c d e f g h : Int) : Bool := okS a b c d && okS e f g h && decide (aFrom a b c d e f g h < aTo a b c d e f g h) && !(meetI a b c d e f g h == 3 || meetI a b c d e f g h == 4)
def aVal (a b c d e f g h : Int) : Int := if aCmp a b c d e f g h (2 * aFrom a b c d e f g h) ≠ 0 then aCmp a b c d e f g h (2 * aFrom a b c d e f g h) else aCmp a b c d e f g h (2 * aTo a b c d e f g h)
def aN (a b c d e f g h : Int) : Int := if aOk a b c d e f g h = true then aVal a b c d e f g h else 0
theorem f_minmax (a b c d : Int) : f1 a b c d = min a c ∧ f3 a b c d = max a c := by
  unfold f1 f3
  by_cases hl : 0 < orI (cmpI a c) (cmpI b d)
  · have : ¬ (a < c ∨ (a = c ∧ b ≤ d)) := by rw [← orI_le]; omega
    rw [if_pos hl, if_pos hl]; omega
  · have : a < c ∨ (a = c ∧ b ≤ d) := by rw [← orI_le]; omega
    rw [if_neg hl, if_neg hl]; omega
theorem cmpI_zero (x : Int) : cmpI x 0 = Int.sign x := by
  unfold cmpI
  rcases sign_cases x with ⟨h, k⟩ | ⟨h, k⟩ | ⟨h, k⟩
  · rw [if_pos k, h]
  · rw [k]; rfl
  · rw [if_neg (by omega), if_pos k, h]
theorem aCmp_sign (a b c d e f g h m : Int) : aCmp a b c d e f g h m = Int.sign (Fd (f1 a b c d) (f2 a b c d) (f3 a b c d) (f4 a b c d) (f1 e f g h) (f2 e f g h) (f3 e f g h) (f4 e f g h) m) := by
  unfold aCmp cmpR
  rw [← cmpI_sub, cmpI_zero]
  rfl
theorem meetI_f {a b c d e f g h : Int} (k1 : okS a b c d = true) (k2 : okS e f g h = true) : meetI (f1 a b c d) (f2 a b c d) (f3 a b c d) (f4 a b c d) (f1 e f g h) (f2 e f g h) (f3 e f g h) (f4 e f g h) = meetI a b c d e f g h := by
  have k1' : okS c d a b = true := by rw [okS_swap]; exact k1
  have k2' : okS g h e f = true := by rw [okS_swap]; exact k2
  by_cases h1 : 0 < orI (cmpI a c) (cmpI b d) <;> by_cases h2 : 0 < orI (cmpI e g) (cmpI f h)
  · simp only [f1, f2, f3, f4, if_pos h1, if_pos h2]; rw [meetI_rev k1' k2, meetI_rev1 k1 k2]
  · simp only [f1, f2, f3, f4, if_pos h1, if_neg h2]; rw [meetI_rev1 k1 k2]
  · simp only [f1, f2, f3, f4, if_neg h1, if_pos h2]; rw [meetI_rev k1 k2]
  · simp only [f1, f2, f3, f4, if_neg h1, if_neg h2]
theorem okS_f {a b c d : Int} (k1 : okS a b c d = true) : okS (f1 a b c d) (f2 a b c d) (f3 a b c d) (f4 a b c d) = true := by
  by_cases h1 : 0 < orI (cmpI a c) (cmpI b d)
  · simp only [f1, f2, f3, f4, if_pos h1]; rw [okS_swap]; exact k1
  · simp only [f1, f2, f3, f4, if_neg h1]; exact k1

/-- ascending segments: what they say at the two ends of what both have goes together -/
theorem Fd_ends {a b c d e f g h : Int} (k1 : okS a b c d = true) (k2 : okS e f g h = true) (hac : a < c) (heg : e < g) (huv : max a e < min c g) (hk : meetI a b c d e f g h ≠ 3 ∧ meetI a b c d e f g h ≠ 4) :
    ¬ (0 < Fd a b c d e f g h (2 * max a e) ∧ Fd a b c d e f g h (2 * min c g) < 0) ∧ ¬ (Fd a b c d e f g h (2 * max a e) < 0 ∧ 0 < Fd a b c d e f g h (2 * min c g)) ∧ ¬ (Fd a b c d e f g h (2 * max a e) = 0 ∧ Fd a b c d e f g h (2 * min c g) = 0) := by
  obtain ⟨⟨ha, hb⟩, ⟨hc, hd⟩, hs⟩ := okS_iff.1 k1
  obtain ⟨⟨he, hf⟩, ⟨hg, hh⟩, ht⟩ := okS_iff.1 k2
  refine ⟨?_, ?_, ?_⟩
  · rintro ⟨h1, h2⟩
    obtain ⟨⟨r1, r2⟩, r3, r4⟩ := Fd_dec hac heg (Int.le_max_left a e) (Int.le_max_right a e) (Int.min_le_left c g) (Int.min_le_right c g) huv h1 h2
    apply hk.1
    unfold meetI
    rw [turnI_sign, turnI_sign, turnI_sign, turnI_sign, Int.sign_eq_neg_one_of_neg r1, Int.sign_eq_one_of_pos r2, Int.sign_eq_one_of_pos r3, Int.sign_eq_neg_one_of_neg r4]
    simp
  · rintro ⟨h1, h2⟩
    obtain ⟨⟨r1, r2⟩, r3, r4⟩ := Fd_inc hac heg (Int.le_max_left a e) (Int.le_max_right a e) (Int.min_le_left c g) (Int.min_le_right c g) huv h1 h2
    apply hk.1
    unfold meetI
    rw [turnI_sign, turnI_sign, turnI_sign, turnI_sign, Int.sign_eq_one_of_pos r1, Int.sign_eq_neg_one_of_neg r2, Int.sign_eq_neg_one_of_neg r3, Int.sign_eq_one_of_pos r4]
    simp
  · rintro ⟨h1, h2⟩
    obtain ⟨r1, r2⟩ := Fd_nil hac heg huv h1 h2
    apply hk.2
    have t1 : turnI a b c d e f = 0 := by rw [turnI_sign, r1]; rfl
    have t2 : turnI a b c d g h = 0 := by rw [turnI_sign, r2]; rfl
    unfold meetI
    rw [if_pos ⟨t1, t2⟩, onLine_f k1 k2, if_pos (by unfold kap; omega)]

/-- the middle says what the ends say -/
theorem aCmp_mid {a b c d e f g h : Int} (ho : aOk a b c d e f g h = true) : aCmp a b c d e f g h (aFrom a b c d e f g h + aTo a b c d e f g h) = aVal a b c d e f g h ∧ aVal a b c d e f g h ≠ 0 := by
  simp only [aOk, Bool.and_eq_true, decide_eq_true_eq, Bool.not_eq_true', Bool.or_eq_false_iff, beq_eq_false_iff_ne] at ho
  obtain ⟨⟨⟨k1, k2⟩, h1⟩, h2⟩ := ho
  unfold aVal
  rw [aCmp_sign, aCmp_sign, aCmp_sign]
  rw [← meetI_f k1 k2] at h2
  have p1 := okS_f k1
  have p2 := okS_f k2
  have hm : f1 a b c d ≤ f3 a b c d ∧ f1 e f g h ≤ f3 e f g h := by
    obtain ⟨x1, x2⟩ := f_minmax a b c d
    obtain ⟨x3, x4⟩ := f_minmax e f g h
    omega
  unfold aFrom aTo at *
  generalize f1 a b c d = A at *
  generalize f2 a b c d = B at *
  generalize f3 a b c d = C at *
  generalize f4 a b c d = D at *
  generalize f1 e f g h = E at *
  generalize f2 e f g h = F at *
  generalize f3 e f g h = G at *
  generalize f4 e f g h = H at *
  obtain ⟨n1, n2, n3⟩ := Fd_ends p1 p2 (by omega) (by omega) h1 h2
  have l1 := Fd_lin A B C D E F G H (2 * max A E) (max A E + min C G)
  have l2 := Fd_lin A B C D E F G H (max A E + min C G) (2 * min C G)
  have l3 : (2 * ((D - B) * (G - E) - (H - F) * (C - A))) * (max A E + min C G - 2 * max A E) = (2 * ((D - B) * (G - E) - (H - F) * (C - A))) * (2 * min C G - (max A E + min C G)) := by
    congr 1; omega
  rw [l3] at l1
  generalize (2 * ((D - B) * (G - E) - (H - F) * (C - A))) * (2 * min C G - (max A E + min C G)) = Z at *
  generalize Fd A B C D E F G H (2 * max A E) = X at *
  generalize Fd A B C D E F G H (2 * min C G) = Y at *
  generalize Fd A B C D E F G H (max A E + min C G) = M at *
  rcases sign_cases X with ⟨s1, z1⟩ | ⟨s1, z1⟩ | ⟨s1, z1⟩ <;> rcases sign_cases Y with ⟨s2, z2⟩ | ⟨s2, z2⟩ | ⟨s2, z2⟩ <;> rcases sign_cases M with ⟨s3, z3⟩ | ⟨s3, z3⟩ | ⟨s3, z3⟩ <;> first
    | (exfalso; omega)
    | (rw [s1, s2, s3]; decide)

theorem aCmp_swap (a b c d e f g h m : Int) : aCmp e f g h a b c d m = - aCmp a b c d e f g h m := by
  rw [aCmp_sign, aCmp_sign, ← Int.sign_neg]; congr 1; unfold Fd; omega
theorem aOk_swap (a b c d e f g h : Int) : aOk e f g h a b c d = aOk a b c d e f g h := by
  unfold aOk
  by_cases k1 : okS a b c d = true
  · by_cases k2 : okS e f g h = true
    · rw [k1, k2, meetI_comm k1 k2]
      unfold aFrom aTo
      rw [Int.max_comm, Int.min_comm]
    · simp [k2]
  · simp [k1]
theorem aN_swap (a b c d e f g h : Int) : aN e f g h a b c d = - aN a b c d e f g h := by
  unfold aN
  rw [aOk_swap]
  split
  · unfold aVal
    rw [aCmp_swap a b c d e f g h (2 * aFrom e f g h a b c d), aCmp_swap a b c d e f g h (2 * aTo e f g h a b c d), show aFrom e f g h a b c d = aFrom a b c d e f g h from Int.max_comm _ _, show aTo e f g h a b c d = aTo a b c d e f g h from Int.min_comm _ _]
    split <;> split <;> omega
  · rfl

end Go.Proofs.YtpdfbboagaflhaaGreat

set_option linter.unusedSimpArgs false
set_option linter.unusedVariables false
set_option linter.constructorNameAsVariable false
set_option maxRecDepth 100000
namespace Go.Proofs.YtpdfbboagaflhaaGreat
open Go.ChangeShapes Go.WideShapes Go.ChangeAt Go.RowKit Go.Joins Go.Deep

theorem cell_lt {w : World} {b o : Nat} {v : Value} (h : w.cell? ⟨b, o, none⟩ = some v) : b < w.heap.size := by
  rcases Nat.lt_or_ge b w.heap.size with hh | hh
  · exact hh
  · simp [World.cell?, Array.getElem?_eq_none hh] at h
section
variable {H : Type} {enc : TypeId × Value → H} {W : World} {base b0 : Nat} {spare : Nat → Bool} {held : Bool} {v : Value} {d : DataW H} {p : List MemPlace}
theorem open_int (hv : Value.okWide Tryz.prog W .any b0 3 v) (h : DataW.Trod enc Tryz.prog W base spare held 3 v d p) : ∃ x, v = .int .i64 x ∧ (Lit.int .i64 x).wf = true := by
  obtain ⟨fuel, hf⟩ := h
  obtain ⟨a, e0, _, wa⟩ := DataW.trod_int Tryz.underlying3 hf
  have hv' := hv
  simp only [Value.okWide, Tryz.underlying3, Cell.okWide] at hv'
  cases v <;> simp_all [Cell.ok, Value.cells]
theorem open_pts (hv : Value.okWide Tryz.prog W .any b0 40 v) (h : DataW.Trod enc Tryz.prog W base spare held 40 v d p) :
    ∃ av n cap l, v = .slice av n cap ∧ l.length = n ∧ (0 < n → ∃ b off, av = some ⟨b, off, none⟩ ∧ Pts W b off n l) := by
  obtain ⟨av, n, cap, rfl⟩ := okWide_slice Tryz.underlying40 hv
  obtain ⟨fuel, hf⟩ := h
  rcases open_slice_pairs Tryz.underlying40 Tryz.underlying23 cells_23 rfl rfl cells_3 cells_3 hf with ⟨hcs, _⟩ | ⟨a, len, cap', m, n', V0, V1, D0, D1, P0, P1, hcs, _, hlc, _, hm, _, hi⟩
  · simp only [Value.cells, List.cons.injEq, Value.slice.injEq, and_true] at hcs
    obtain ⟨rfl, rfl, rfl⟩ := hcs
    exact ⟨none, 0, 0, [], rfl, rfl, fun h => absurd h (by omega)⟩
  · simp only [Value.cells, List.cons.injEq, Value.slice.injEq, and_true] at hcs
    obtain ⟨rfl, rfl, rfl⟩ := hcs
    have hnm : n ≤ m := by rw [hm]; split <;> omega
    have hx : ∀ i, i < n → ∃ q : P2, V0 i = .int .i64 q.1 ∧ V1 i = .int .i64 q.2 := fun i hi' => by
      obtain ⟨_, _, t0, t1⟩ := hi i (by omega)
      obtain ⟨x, e0, _, _⟩ := DataW.trod_int Tryz.underlying3 t0
      obtain ⟨y, e1, _, _⟩ := DataW.trod_int Tryz.underlying3 t1
      simp only [List.cons.injEq, and_true] at e0 e1
      exact ⟨(x, y), e0, e1⟩
    obtain ⟨q, hq⟩ := choose_lt hx
    refine ⟨some a, n, cap, (List.range n).map q, rfl, by simp, fun h0 => ?_⟩
    obtain ⟨b, off, spot⟩ := a
    have hspot : spot = none := by simpa [Addr.add] using World.cell?_spot (hi 0 (by omega)).1
    subst hspot
    have hcell : ∀ i, i < n → W.cell? ⟨b, off + i * 2, none⟩ = some (.int .i64 (q i).1) ∧ W.cell? ⟨b, off + i * 2 + 1, none⟩ = some (.int .i64 (q i).2) := fun i hi' => by
      obtain ⟨k0, k1, _, _⟩ := hi i (by omega)
      rw [(hq i hi').1] at k0
      rw [(hq i hi').2] at k1
      rw [add_plain] at k0 k1
      exact ⟨k0, k1⟩
    refine ⟨b, off, rfl, by simp, cell_lt (hcell 0 h0).1, fun i hi' => ?_⟩
    have e1 : px ((List.range n).map q) i = (q i).1 := by simp [px, List.getD_eq_getElem?_getD, hi']
    have e2 : py ((List.range n).map q) i = (q i).2 := by simp [py, List.getD_eq_getElem?_getD, hi']
    rw [e1, e2]
    exact hcell i hi'
end
end Go.Proofs.YtpdfbboagaflhaaGreat

set_option linter.unusedSimpArgs false
set_option linter.unusedVariables false
set_option linter.constructorNameAsVariable false
set_option maxRecDepth 100000
namespace Go.Proofs.YtpdfbboagaflhaaGreat
open Go.ChangeShapes Go.WideShapes Go.ChangeAt Go.RowKit Go.Joins Go.Deep

section
variable {H : Type} {enc : TypeId × Value → H} {W : World} {base b0 fuel : Nat} {spare : Nat → Bool} {held : Bool} {v : Value} {d : DataW H} {p : List MemPlace}
theorem sg_trod {cs : List Value} {x : DataW H × List MemPlace} (h : DataW.trod enc Tryz.prog W base spare held fuel 30 cs = some x) :
    ∃ q : S4, cs = [.int .i64 q.1, .int .i64 q.2.1, .int .i64 q.2.2.1, .int .i64 q.2.2.2] := by
  obtain ⟨y0, y1, n, hx, hl, h0, h1⟩ := trod_struct2 Tryz.underlying30 h
  rw [cells_30] at hl
  obtain ⟨c0, c1, c2, c3, rfl⟩ := list_4 hl
  simp only [cells_23, List.drop, List.take] at h0 h1
  obtain ⟨a, b, e0, _, _, _⟩ := pt_trod h0
  obtain ⟨a', b', e1, _, _, _⟩ := pt_trod h1
  simp only [List.cons.injEq, and_true] at e0 e1
  obtain ⟨rfl, rfl⟩ := e0
  obtain ⟨rfl, rfl⟩ := e1
  exact ⟨(a, b, a', b'), rfl⟩
theorem open_segs (hv : Value.okWide Tryz.prog W .any b0 58 v) (h : DataW.Trod enc Tryz.prog W base spare held 58 v d p) :
    ∃ av n cap l, v = .slice av n cap ∧ l.length = n ∧ (0 < n → ∃ b off, av = some ⟨b, off, none⟩ ∧ Segs W b off n l) := by
  obtain ⟨av, n, cap, rfl⟩ := okWide_slice Tryz.underlying58 hv
  obtain ⟨fuel, hf⟩ := h
  rcases open_slice Tryz.underlying58 hf with ⟨hcs, _⟩ | ⟨a, len, cap', m, n', D, Pl, hcs, _, hlc, _, hm, _, hi⟩
  · simp only [Value.cells, List.cons.injEq, Value.slice.injEq, and_true] at hcs
    obtain ⟨rfl, rfl, rfl⟩ := hcs
    exact ⟨none, 0, 0, [], rfl, rfl, fun h => absurd h (by omega)⟩
  · simp only [Value.cells, List.cons.injEq, Value.slice.injEq, and_true] at hcs
    obtain ⟨rfl, rfl, rfl⟩ := hcs
    have hnm : n ≤ m := by rw [hm]; split <;> omega
    have hx : ∀ i, i < n → ∃ q : S4, W.cell? (a.add (i * 4)) = some (.int .i64 q.1) ∧ W.cell? (a.add (i * 4 + 1)) = some (.int .i64 q.2.1) ∧ W.cell? (a.add (i * 4 + 2)) = some (.int .i64 q.2.2.1) ∧ W.cell? (a.add (i * 4 + 3)) = some (.int .i64 q.2.2.2) := fun i hi' => by
      obtain ⟨cs', hc, ht⟩ := hi i (by omega)
      rw [cells_30] at hc
      obtain ⟨q, rfl⟩ := sg_trod ht
      obtain ⟨_, _, hat⟩ := World.cells?_some hc
      have g0 := hat 0 (by omega)
      have g1 := hat 1 (by omega)
      have g2 := hat 2 (by omega)
      have g3 := hat 3 (by omega)
      rw [add_add] at g0 g1 g2 g3
      exact ⟨q, by simpa using g0, by simpa using g1, by simpa using g2, by simpa using g3⟩
    obtain ⟨q, hq⟩ := choose_lt hx
    refine ⟨some a, n, cap, (List.range n).map q, rfl, by simp, fun h0 => ?_⟩
    obtain ⟨b, off, spot⟩ := a
    have hspot : spot = none := by simpa [Addr.add] using World.cell?_spot (hq 0 h0).1
    subst hspot
    have hcell : ∀ i, i < n → W.cell? ⟨b, off + i * 4, none⟩ = some (.int .i64 (q i).1) ∧ W.cell? ⟨b, off + i * 4 + 1, none⟩ = some (.int .i64 (q i).2.1) ∧ W.cell? ⟨b, off + i * 4 + 2, none⟩ = some (.int .i64 (q i).2.2.1) ∧ W.cell? ⟨b, off + i * 4 + 3, none⟩ = some (.int .i64 (q i).2.2.2) := fun i hi' => by
      obtain ⟨k0, k1, k2, k3⟩ := hq i hi'
      rw [add_plain] at k0 k1 k2 k3
      exact ⟨k0, k1, k2, k3⟩
    refine ⟨b, off, rfl, by simp, cell_lt (hcell 0 h0).1, fun i hi' => ?_⟩
    have e1 : q1 ((List.range n).map q) i = (q i).1 := by simp [q1, List.getD_eq_getElem?_getD, hi']
    have e2 : q2 ((List.range n).map q) i = (q i).2.1 := by simp [q2, List.getD_eq_getElem?_getD, hi']
    have e3 : q3 ((List.range n).map q) i = (q i).2.2.1 := by simp [q3, List.getD_eq_getElem?_getD, hi']
    have e4 : q4 ((List.range n).map q) i = (q i).2.2.2 := by simp [q4, List.getD_eq_getElem?_getD, hi']
    rw [e1, e2, e3, e4]
    exact hcell i hi'
end
end Go.Proofs.YtpdfbboagaflhaaGreat

set_option linter.unusedSimpArgs false
set_option linter.unusedVariables false
namespace Go.Proofs.YtpdfbboagaflhaaGreat
def eA (s : S4) : P2 := (s.1, s.2.1)
def eB (s : S4) : P2 := (s.2.2.1, s.2.2.2)
def okSeg (s : S4) : Bool := okS s.1 s.2.1 s.2.2.1 s.2.2.2
namespace Geo
def TT (a b c : P2) : Int := (b.1 - a.1) * (c.2 - a.2) - (b.2 - a.2) * (c.1 - a.1)
def Cr (a b c d : P2) : Prop := TT a b c * TT a b d < 0 ∧ TT c d a * TT c d b < 0
theorem pos_of_mul {a b : Int} (h : 0 < a * b) (ha : 0 < a) : 0 < b := by
  rcases Int.lt_trichotomy b 0 with h1 | h1 | h1
  · have := Int.mul_neg_of_pos_of_neg ha h1; omega
  · subst h1; simp at h
  · exact h1
theorem mul_neg_cases {a b : Int} (h : a * b < 0) : (0 < a ∧ b < 0) ∨ (a < 0 ∧ 0 < b) := by
  rcases Int.lt_trichotomy a 0 with h1 | h1 | h1
  · right; refine ⟨h1, ?_⟩
    rcases Int.lt_or_le 0 b with h2 | h2
    · exact h2
    · have := Int.mul_nonneg_of_nonpos_of_nonpos (Int.le_of_lt h1) h2; omega
  · subst h1; simp at h
  · left; refine ⟨h1, ?_⟩
    rcases Int.lt_or_le b 0 with h2 | h2
    · exact h2
    · have := Int.mul_nonneg (Int.le_of_lt h1) h2; omega
theorem turn_sgn (a b c : P2) : turnI a.1 a.2 b.1 b.2 c.1 c.2 = Int.sign (TT a b c) := turnI_sign _ _ _ _ _ _
theorem sgn_neg (x y : Int) : Int.sign x * Int.sign y < 0 ↔ x * y < 0 := by
  rw [← Int.sign_mul]; exact Int.sign_neg_iff
theorem cr_turn (a b c d : P2) : Cr a b c d ↔ (turnI a.1 a.2 b.1 b.2 c.1 c.2 * turnI a.1 a.2 b.1 b.2 d.1 d.2 < 0 ∧ turnI c.1 c.2 d.1 d.2 a.1 a.2 * turnI c.1 c.2 d.1 d.2 b.1 b.2 < 0) := by
  unfold Cr; rw [turn_sgn, turn_sgn, turn_sgn, turn_sgn, sgn_neg, sgn_neg]
theorem codeI_3 (k : Int) : codeI k ≠ 3 := by unfold codeI; split; omega; split <;> omega
theorem meet3 (e f : P2 × P2) : meetI e.1.1 e.1.2 e.2.1 e.2.2 f.1.1 f.1.2 f.2.1 f.2.2 = 3 ↔ Cr e.1 e.2 f.1 f.2 := by
  rw [cr_turn]
  unfold meetI
  generalize turnI e.1.1 e.1.2 e.2.1 e.2.2 f.1.1 f.1.2 = a
  generalize turnI e.1.1 e.1.2 e.2.1 e.2.2 f.2.1 f.2.2 = b
  generalize turnI f.1.1 f.1.2 f.2.1 f.2.2 e.1.1 e.1.2 = c
  generalize turnI f.1.1 f.1.2 f.2.1 f.2.2 e.2.1 e.2.2 = d
  split
  · rename_i h
    obtain ⟨rfl, rfl⟩ := h
    constructor
    · intro h; unfold onLineI at h; exact absurd h (codeI_3 _)
    · rintro ⟨h, _⟩; simp at h
  · generalize a * b = X
    generalize c * d = Y
    split
    · omega
    · split
      · omega
      · split <;> omega
end Geo
end Go.Proofs.YtpdfbboagaflhaaGreat

set_option linter.unusedSimpArgs false
set_option linter.unusedVariables false
set_option linter.unusedSectionVars false
namespace Go.Proofs.YtpdfbboagaflhaaGreat
namespace Geo

/-! how segments meet, told by their heights -/
/-- a segment by its ends, the lesser one first -/
def fwd (s : S4) : S4 := (f1 s.1 s.2.1 s.2.2.1 s.2.2.2, f2 s.1 s.2.1 s.2.2.1 s.2.2.2, f3 s.1 s.2.1 s.2.2.1 s.2.2.2, f4 s.1 s.2.1 s.2.2.1 s.2.2.2)
def meet4 (s t : S4) : Int := meetI s.1 s.2.1 s.2.2.1 s.2.2.2 t.1 t.2.1 t.2.2.1 t.2.2.2
/-- the doubled width, and the height at a doubled X times it -/
def WW (s : S4) : Int := 2 * (s.2.2.1 - s.1)
def NN (s : S4) (X : Int) : Int := s.2.1 * WW s + (s.2.2.2 - s.2.1) * (X - 2 * s.1)
def DD (s t : S4) (X : Int) : Int := NN s X * WW t - NN t X * WW s
theorem DD_affine (s t : S4) (X Y Z : Int) : (Y - X) * DD s t Z = (Y - Z) * DD s t X + (Z - X) * DD s t Y := by unfold DD NN; grind
theorem DD_swap (s t : S4) (X : Int) : DD t s X = - DD s t X := by unfold DD; grind
theorem cmpI_sub (a b : Int) : (cmpI a b < 0 ↔ a - b < 0) ∧ (0 < cmpI a b ↔ 0 < a - b) ∧ (cmpI a b = 0 ↔ a - b = 0) := by unfold cmpI; split; omega; split <;> omega
theorem cmpI_mul (a b c d : Int) : (cmpI a b * cmpI c d < 0 ↔ (a - b) * (c - d) < 0) ∧ (0 < cmpI a b * cmpI c d ↔ 0 < (a - b) * (c - d)) := by
  obtain ⟨p1, p2, p3⟩ := cmpI_sub a b
  obtain ⟨q1, q2, q3⟩ := cmpI_sub c d
  generalize cmpI a b = u at *
  generalize cmpI c d = v at *
  generalize a - b = x at *
  generalize c - d = y at *
  rcases Int.lt_trichotomy x 0 with h | h | h
  · have h1 := p1.2 h
    rcases Int.lt_trichotomy y 0 with g | g | g
    · have := Int.mul_pos_of_neg_of_neg h g; have := Int.mul_pos_of_neg_of_neg h1 (q1.2 g); omega
    · rw [g, q3.2 g]; simp
    · have := Int.mul_neg_of_neg_of_pos h g; have := Int.mul_neg_of_neg_of_pos h1 (q2.2 g); omega
  · rw [h, p3.2 h]; simp
  · have h1 := p2.2 h
    rcases Int.lt_trichotomy y 0 with g | g | g
    · have := Int.mul_neg_of_pos_of_neg h g; have := Int.mul_neg_of_pos_of_neg h1 (q1.2 g); omega
    · rw [g, q3.2 g]; simp
    · have := Int.mul_pos h g; have := Int.mul_pos h1 (q2.2 g); omega
/-- the turn of a point about a segment, times 2 -/
theorem turn2 (s : S4) (x y : Int) : 2 * ((s.2.2.1 - s.1) * (y - s.2.1) - (s.2.2.2 - s.2.1) * (x - s.1)) = y * WW s - NN s (2 * x) := by unfold NN WW; grind
theorem DD_at1 (s t : S4) : DD s t (2 * t.1) = - (WW t * (t.2.1 * WW s - NN s (2 * t.1))) := by unfold DD NN WW; grind
theorem DD_at2 (s t : S4) : DD s t (2 * t.2.2.1) = - (WW t * (t.2.2.2 * WW s - NN s (2 * t.2.2.1))) := by unfold DD NN WW; grind
theorem DD_bt1 (s t : S4) : DD s t (2 * s.1) = WW s * (s.2.1 * WW t - NN t (2 * s.1)) := by unfold DD NN WW; grind
theorem DD_bt2 (s t : S4) : DD s t (2 * s.2.2.1) = WW s * (s.2.2.2 * WW t - NN t (2 * s.2.2.1)) := by unfold DD NN WW; grind
def tn (s : S4) (x y : Int) : Int := turnI s.1 s.2.1 s.2.2.1 s.2.2.2 x y
theorem tn_sub (s : S4) (x y : Int) : (tn s x y < 0 ↔ y * WW s - NN s (2 * x) < 0) ∧ (0 < tn s x y ↔ 0 < y * WW s - NN s (2 * x)) ∧ (tn s x y = 0 ↔ y * WW s - NN s (2 * x) = 0) := by
  have h := turn2 s x y
  obtain ⟨p1, p2, p3⟩ := cmpI_sub ((s.2.2.1 - s.1) * (y - s.2.1)) ((s.2.2.2 - s.2.1) * (x - s.1))
  unfold tn turnI
  rw [p1, p2, p3]
  generalize (s.2.2.1 - s.1) * (y - s.2.1) - (s.2.2.2 - s.2.1) * (x - s.1) = u at *
  rw [← h]
  omega
/-- two factors have opposite signs -/
def Opp (x y : Int) : Prop := (x < 0 ∧ 0 < y) ∨ (0 < x ∧ y < 0)
theorem opp_mul {x y : Int} : x * y < 0 ↔ Opp x y := by
  constructor
  · intro h; rcases mul_neg_cases h with g | g; exact .inr g; exact .inl g
  · rintro (⟨h, g⟩ | ⟨h, g⟩)
    · exact Int.mul_neg_of_neg_of_pos h g
    · exact Int.mul_neg_of_pos_of_neg h g
/-- crossing, by turns -/
theorem meet_three (s t : S4) : meet4 s t = 3 ↔ Opp (tn s t.1 t.2.1) (tn s t.2.2.1 t.2.2.2) ∧ Opp (tn t s.1 s.2.1) (tn t s.2.2.1 s.2.2.2) := by
  rw [show meet4 s t = meetI (eA s).1 (eA s).2 (eB s).1 (eB s).2 (eA t).1 (eA t).2 (eB t).1 (eB t).2 from rfl, meet3 (eA s, eB s) (eA t, eB t), cr_turn, ← opp_mul, ← opp_mul]
  rfl
theorem cmp_sgn (a b : Int) : (cmpI a b = -1 ∧ a < b) ∨ (cmpI a b = 0 ∧ a = b) ∨ (cmpI a b = 1 ∧ b < a) := by unfold cmpI; split; omega; split <;> omega
def lexB (a b c d : Int) : Prop := a < c ∨ (a = c ∧ b < d)
theorem or_lt (a b c d : Int) : (orI (cmpI a c) (cmpI b d) < 0 ↔ lexB a b c d) ∧ (orI (cmpI a c) (cmpI b d) = -1 ↔ lexB a b c d) ∧ (0 < orI (cmpI a c) (cmpI b d) ↔ lexB c d a b) := by
  unfold orI lexB
  rcases cmp_sgn a c with ⟨h, g⟩ | ⟨h, g⟩ | ⟨h, g⟩ <;> rcases cmp_sgn b d with ⟨h', g'⟩ | ⟨h', g'⟩ | ⟨h', g'⟩ <;> rw [h, h'] <;> refine ⟨?_, ?_, ?_⟩ <;> simp <;> omega
/-- overlapping, of segments whose lesser end is the first -/
theorem meet_four {s t : S4} (hs : fwd s = s) (ht : fwd t = t) : meet4 s t = 4 ↔ (tn s t.1 t.2.1 = 0 ∧ tn s t.2.2.1 t.2.2.2 = 0) ∧ ((lexB s.1 s.2.1 t.2.2.1 t.2.2.2 ∧ lexB t.1 t.2.1 s.2.2.1 s.2.2.2) ∧ lexB s.1 s.2.1 s.2.2.1 s.2.2.2 ∧ lexB t.1 t.2.1 t.2.2.1 t.2.2.2) := by
  obtain ⟨a, b, c, d⟩ := s
  obtain ⟨e, f, g, h⟩ := t
  simp only [fwd, Prod.mk.injEq] at hs ht
  obtain ⟨a1, a2, a3, a4⟩ := hs
  obtain ⟨b1, b2, b3, b4⟩ := ht
  unfold meet4 meetI tn
  simp only
  rw [a1, a2, a3, a4, b1, b2, b3, b4]
  by_cases h0 : turnI a b c d e f = 0 ∧ turnI a b c d g h = 0
  · rw [if_pos h0]
    simp only [h0, and_self, true_and]
    unfold onLineI
    have hc : ∀ k : Int, codeI k = 4 ↔ k = -1 := by intro k; unfold codeI; split; simp [*]; split <;> omega
    rw [hc]
    obtain ⟨p1, _, p3⟩ := or_lt a b e f
    obtain ⟨_, _, q3⟩ := or_lt c d g h
    have r1 := (or_lt e f g h).2.1
    have r2 := (or_lt e f c d).2.1
    have r3 := (or_lt a b g h).2.1
    have r4 := (or_lt a b c d).2.1
    by_cases u : orI (cmpI a e) (cmpI b f) < 0 <;> by_cases v : 0 < orI (cmpI c g) (cmpI d h)
    · rw [if_pos u, if_pos v, r1]; rw [p1] at u; rw [q3] at v; unfold lexB at *; omega
    · rw [if_pos u, if_neg v, r2]; rw [p1] at u; rw [q3] at v; unfold lexB at *; omega
    · rw [if_neg u, if_pos v, r3]; rw [p1] at u; rw [q3] at v; unfold lexB at *; omega
    · rw [if_neg u, if_neg v, r4]; rw [p1] at u; rw [q3] at v; unfold lexB at *; omega
  · rw [if_neg h0]
    constructor
    · intro hh
      repeat (split at hh <;> try omega)
    · intro hh; exact absurd hh.1 h0
theorem mul_sgn {w x y : Int} (hw : 0 < w) (h : y = w * x) : (y < 0 ↔ x < 0) ∧ (0 < y ↔ 0 < x) ∧ (y = 0 ↔ x = 0) := by
  subst h
  rcases Int.lt_trichotomy x 0 with g | g | g
  · have := Int.mul_neg_of_pos_of_neg hw g; omega
  · subst g; simp
  · have := Int.mul_pos hw g; omega
theorem mul_sgn' {w x y : Int} (hw : 0 < w) (h : y = - (w * x)) : (y < 0 ↔ 0 < x) ∧ (0 < y ↔ x < 0) ∧ (y = 0 ↔ x = 0) := by
  have := mul_sgn hw (show -y = w * x by omega)
  omega
section
variable {s t : S4}
theorem DD_sgn_t (nt : t.1 < t.2.2.1) : ((DD s t (2 * t.1) < 0 ↔ 0 < tn s t.1 t.2.1) ∧ (0 < DD s t (2 * t.1) ↔ tn s t.1 t.2.1 < 0) ∧ (DD s t (2 * t.1) = 0 ↔ tn s t.1 t.2.1 = 0)) ∧
    ((DD s t (2 * t.2.2.1) < 0 ↔ 0 < tn s t.2.2.1 t.2.2.2) ∧ (0 < DD s t (2 * t.2.2.1) ↔ tn s t.2.2.1 t.2.2.2 < 0) ∧ (DD s t (2 * t.2.2.1) = 0 ↔ tn s t.2.2.1 t.2.2.2 = 0)) := by
  have hw : 0 < WW t := by unfold WW; omega
  have p := mul_sgn' hw (DD_at1 s t)
  have q := mul_sgn' hw (DD_at2 s t)
  have p2 := tn_sub s t.1 t.2.1
  have q2 := tn_sub s t.2.2.1 t.2.2.2
  omega
theorem DD_sgn_s (ns : s.1 < s.2.2.1) : ((DD s t (2 * s.1) < 0 ↔ tn t s.1 s.2.1 < 0) ∧ (0 < DD s t (2 * s.1) ↔ 0 < tn t s.1 s.2.1) ∧ (DD s t (2 * s.1) = 0 ↔ tn t s.1 s.2.1 = 0)) ∧
    ((DD s t (2 * s.2.2.1) < 0 ↔ tn t s.2.2.1 s.2.2.2 < 0) ∧ (0 < DD s t (2 * s.2.2.1) ↔ 0 < tn t s.2.2.1 s.2.2.2) ∧ (DD s t (2 * s.2.2.1) = 0 ↔ tn t s.2.2.1 s.2.2.2 = 0)) := by
  have hw : 0 < WW s := by unfold WW; omega
  have p := mul_sgn hw (DD_bt1 s t)
  have q := mul_sgn hw (DD_bt2 s t)
  have p2 := tn_sub t s.1 s.2.1
  have q2 := tn_sub t s.2.2.1 s.2.2.2
  omega
theorem three_nn (ns : s.1 < s.2.2.1) (nt : t.1 < t.2.2.1) : meet4 s t = 3 ↔ Opp (DD s t (2 * t.1)) (DD s t (2 * t.2.2.1)) ∧ Opp (DD s t (2 * s.1)) (DD s t (2 * s.2.2.1)) := by
  rw [meet_three]
  have p := DD_sgn_t (s := s) nt
  have q := DD_sgn_s (t := t) ns
  unfold Opp
  omega
theorem NN_left (s : S4) : NN s (2 * s.1) = s.2.1 * WW s := by unfold NN; grind
theorem NN_right (s : S4) : NN s (2 * s.2.2.1) = s.2.2.2 * WW s := by unfold NN WW; grind
theorem tn_same {x y x' y' : Int} (ns : s.1 < s.2.2.1) (h : x = x') (h1 : tn s x y = 0) (h2 : tn s x' y' = 0) : y = y' := by
  subst h
  rw [(tn_sub s x y).2.2] at h1
  rw [(tn_sub s x y').2.2] at h2
  have hw : 0 < WW s := by unfold WW; omega
  have : (y - y') * WW s = 0 := by grind
  rcases Int.mul_eq_zero.1 this with g | g <;> omega
theorem tn_left (s : S4) : tn s s.1 s.2.1 = 0 := by rw [(tn_sub s _ _).2.2, NN_left]; omega
theorem tn_right (s : S4) : tn s s.2.2.1 s.2.2.2 = 0 := by rw [(tn_sub s _ _).2.2, NN_right]; omega
theorem four_nn (hs : fwd s = s) (ht : fwd t = t) (ns : s.1 < s.2.2.1) (nt : t.1 < t.2.2.1) : meet4 s t = 4 ↔ (DD s t (2 * t.1) = 0 ∧ DD s t (2 * t.2.2.1) = 0) ∧ s.1 < t.2.2.1 ∧ t.1 < s.2.2.1 := by
  rw [meet_four hs ht]
  have p := DD_sgn_t (s := s) nt
  rw [p.1.2.2, p.2.2.2]
  constructor
  · rintro ⟨h, ⟨h1, h2⟩, h3, h4⟩
    refine ⟨h, ?_, ?_⟩
    · rcases h1 with g | ⟨g, g'⟩
      · exact g
      · have := tn_same ns g (tn_left s) h.2; omega
    · rcases h2 with g | ⟨g, g'⟩
      · exact g
      · have := tn_same ns g h.1 (tn_right s); omega
  · rintro ⟨h, h1, h2⟩
    exact ⟨h, ⟨.inl h1, .inl h2⟩, .inl ns, .inl nt⟩
/-- neither crossing nor overlapping -/
def Ap (s t : S4) : Prop := meet4 s t ≠ 3 ∧ meet4 s t ≠ 4
theorem aff_zero {X Y Z : Int} (h1 : X < Z) (h2 : Z < Y) {x y : Int} (h : 0 = (Y - Z) * x + (Z - X) * y) : (x = 0 ∧ y = 0) ∨ Opp x y := by
  unfold Opp
  rcases Int.lt_trichotomy x 0 with g | g | g
  · have := Int.mul_neg_of_pos_of_neg (show 0 < Y - Z by omega) g
    have : 0 < (Z - X) * y := by omega
    have := pos_of_mul this (by omega)
    omega
  · subst g
    have : (Z - X) * y = 0 := by omega
    rcases Int.mul_eq_zero.1 this with k | k <;> omega
  · have := Int.mul_pos (show 0 < Y - Z by omega) g
    have : 0 < (Z - X) * (-y) := by rw [Int.mul_neg]; omega
    have := pos_of_mul this (by omega)
    omega
theorem aff_all {X Y Z : Int} (s t : S4) (h : X ≠ Y) (h1 : DD s t X = 0) (h2 : DD s t Y = 0) : DD s t Z = 0 := by
  have := DD_affine s t X Y Z
  rw [h1, h2, Int.mul_zero, Int.mul_zero, Int.add_zero] at this
  rcases Int.mul_eq_zero.1 this with g | g
  · omega
  · exact g
/-- where they do not cross, their heights differ inside both -/
theorem ap_ne (hs : fwd s = s) (ht : fwd t = t) (ns : s.1 < s.2.2.1) (nt : t.1 < t.2.2.1) (h : Ap s t) {X : Int} (a1 : 2 * s.1 < X) (a2 : X < 2 * s.2.2.1) (b1 : 2 * t.1 < X) (b2 : X < 2 * t.2.2.1) : DD s t X ≠ 0 := by
  intro e
  have p := DD_affine s t (2 * t.1) (2 * t.2.2.1) X
  have q := DD_affine s t (2 * s.1) (2 * s.2.2.1) X
  rw [e, Int.mul_zero] at p q
  rcases aff_zero b1 b2 p with h1 | h1
  · exact h.2 ((four_nn hs ht ns nt).2 ⟨h1, by omega, by omega⟩)
  · rcases aff_zero a1 a2 q with h2 | h2
    · have := aff_all (Z := 2 * t.1) s t (show 2 * s.1 ≠ 2 * s.2.2.1 by omega) h2.1 h2.2
      unfold Opp at h1
      omega
    · exact h.1 ((three_nn ns nt).2 ⟨h1, h2⟩)
/-- the sign at Z, between X and Y, of what has signs at X and Y -/
theorem aff_neg {X Y Z : Int} (s t : S4) (h1 : X < Z) (h2 : Z < Y) (hx : DD s t X ≤ 0) (hy : DD s t Y ≤ 0) (hn : DD s t X < 0 ∨ DD s t Y < 0) : DD s t Z < 0 := by
  have p := DD_affine s t X Y Z
  generalize DD s t X = x at *
  generalize DD s t Y = y at *
  generalize DD s t Z = z at *
  have k1 := Int.mul_nonpos_of_nonneg_of_nonpos (show 0 ≤ Y - Z by omega) hx
  have k2 := Int.mul_nonpos_of_nonneg_of_nonpos (show 0 ≤ Z - X by omega) hy
  have k3 : (Y - X) * z < 0 := by
    rcases hn with g | g
    · have := Int.mul_neg_of_pos_of_neg (show 0 < Y - Z by omega) g; omega
    · have := Int.mul_neg_of_pos_of_neg (show 0 < Z - X by omega) g; omega
  rcases Int.lt_or_le z 0 with g | g
  · exact g
  · have := Int.mul_nonneg (show 0 ≤ Y - X by omega) g; omega
/-- crossing shows at the ends of what both have -/
theorem three_ends (ns : s.1 < s.2.2.1) (nt : t.1 < t.2.2.1) (h : meet4 s t = 3) : max s.1 t.1 < min s.2.2.1 t.2.2.1 ∧ Opp (DD s t (2 * max s.1 t.1)) (DD s t (2 * min s.2.2.1 t.2.2.1)) := by
  obtain ⟨h1, h2⟩ := (three_nn ns nt).1 h
  have key : ∀ (X Y Z : Int), X < Y → X ≤ Z → Z ≤ Y → True := fun _ _ _ _ _ _ => trivial
  -- signs along the line
  have neg : ∀ X Y Z : Int, X < Z → Z < Y → DD s t X ≤ 0 → DD s t Y ≤ 0 → (DD s t X < 0 ∨ DD s t Y < 0) → DD s t Z < 0 := fun X Y Z a b c d e => aff_neg s t a b c d e
  have pos : ∀ X Y Z : Int, X < Z → Z < Y → 0 ≤ DD s t X → 0 ≤ DD s t Y → (0 < DD s t X ∨ 0 < DD s t Y) → 0 < DD s t Z := fun X Y Z a b c d e => by
    have := aff_neg (X := X) (Y := Y) (Z := Z) t s a b (by rw [DD_swap]; omega) (by rw [DD_swap]; omega) (by rw [DD_swap, DD_swap s t]; omega)
    rw [DD_swap] at this; omega
  unfold Opp at *
  obtain ⟨a, b, c, d⟩ := s
  obtain ⟨e, f, g, i⟩ := t
  simp only at *
  generalize hD : DD (a, b, c, d) (e, f, g, i) = D at *
  have x1 : a < g := by
    rcases Int.lt_or_le a g with k | k
    · exact k
    · exfalso
      rcases Int.lt_or_eq_of_le k with k | k
      · rcases h1 with ⟨u, v⟩ | ⟨u, v⟩ <;> rcases h2 with ⟨u', v'⟩ | ⟨u', v'⟩
        · have := neg (2 * e) (2 * a) (2 * g) (by omega) (by omega) (by omega) (by omega) (by omega); omega
        · have := pos (2 * g) (2 * c) (2 * a) (by omega) (by omega); have := neg (2 * a) (2 * c) (2 * c)
          have := neg (2 * e) (2 * c) (2 * g) (by omega) (by omega) (by omega) (by omega) (by omega); omega
        · have := pos (2 * e) (2 * c) (2 * g) (by omega) (by omega) (by omega) (by omega) (by omega); omega
        · have := pos (2 * e) (2 * a) (2 * g) (by omega) (by omega) (by omega) (by omega) (by omega); omega
      · rw [k] at h1
        rcases h1 with ⟨u, v⟩ | ⟨u, v⟩ <;> rcases h2 with ⟨u', v'⟩ | ⟨u', v'⟩
        · omega
        · have := neg (2 * e) (2 * c) (2 * a) (by omega) (by omega) (by omega) (by omega) (by omega); omega
        · have := pos (2 * e) (2 * c) (2 * a) (by omega) (by omega) (by omega) (by omega) (by omega); omega
        · omega
  have x2 : e < c := by
    rcases Int.lt_or_le e c with k | k
    · exact k
    · exfalso
      rcases Int.lt_or_eq_of_le k with k | k
      · rcases h1 with ⟨u, v⟩ | ⟨u, v⟩ <;> rcases h2 with ⟨u', v'⟩ | ⟨u', v'⟩
        · have := neg (2 * a) (2 * e) (2 * c) (by omega) (by omega) (by omega) (by omega) (by omega); omega
        · have := pos (2 * a) (2 * g) (2 * c) (by omega) (by omega) (by omega) (by omega) (by omega); omega
        · have := neg (2 * a) (2 * g) (2 * c) (by omega) (by omega) (by omega) (by omega) (by omega); omega
        · have := pos (2 * a) (2 * e) (2 * c) (by omega) (by omega) (by omega) (by omega) (by omega); omega
      · rw [k] at h2
        rcases h1 with ⟨u, v⟩ | ⟨u, v⟩ <;> rcases h2 with ⟨u', v'⟩ | ⟨u', v'⟩
        · omega
        · have := pos (2 * a) (2 * g) (2 * e) (by omega) (by omega) (by omega) (by omega) (by omega); omega
        · have := neg (2 * a) (2 * g) (2 * e) (by omega) (by omega) (by omega) (by omega) (by omega); omega
        · omega
  refine ⟨by omega, ?_⟩
  rcases Int.le_total a e with k | k <;> rcases Int.le_total c g with k' | k'
  · rw [Int.max_eq_right k, Int.min_eq_left k']
    rcases Int.lt_or_eq_of_le k with k | k
    · rcases Int.lt_or_eq_of_le k' with k' | k'
      · rcases h1 with ⟨u, v⟩ | ⟨u, v⟩ <;> rcases h2 with ⟨u', v'⟩ | ⟨u', v'⟩
        · omega
        · have := neg (2 * e) (2 * g) (2 * c); have := pos (2 * a) (2 * g) (2 * e) (by omega) (by omega) (by omega) (by omega) (by omega); omega
        · have := neg (2 * a) (2 * g) (2 * e) (by omega) (by omega) (by omega) (by omega) (by omega); omega
        · omega
      · subst k'; omega
    · subst k; omega
  · rw [Int.max_eq_right k, Int.min_eq_right k']; exact h1
  · rw [Int.max_eq_left k, Int.min_eq_left k']; exact h2
  · rw [Int.max_eq_left k, Int.min_eq_right k']
    rcases Int.lt_or_eq_of_le k with k | k
    · rcases Int.lt_or_eq_of_le k' with k' | k'
      · rcases h1 with ⟨u, v⟩ | ⟨u, v⟩ <;> rcases h2 with ⟨u', v'⟩ | ⟨u', v'⟩
        · omega
        · have := neg (2 * e) (2 * c) (2 * a) (by omega) (by omega) (by omega) (by omega) (by omega); omega
        · have := pos (2 * e) (2 * c) (2 * a) (by omega) (by omega) (by omega) (by omega) (by omega); omega
        · omega
      · subst k'; omega
    · subst k; omega
theorem four_all (hs : fwd s = s) (ht : fwd t = t) (ns : s.1 < s.2.2.1) (nt : t.1 < t.2.2.1) (h : meet4 s t = 4) : max s.1 t.1 < min s.2.2.1 t.2.2.1 ∧ ∀ X, DD s t X = 0 := by
  obtain ⟨h1, h2, h3⟩ := (four_nn hs ht ns nt).1 h
  exact ⟨by omega, fun X => aff_all s t (show 2 * t.1 ≠ 2 * t.2.2.1 by omega) h1.1 h1.2⟩
/-! vertical ones -/
theorem WW_vert (v : s.1 = s.2.2.1) : WW s = 0 ∧ ∀ X, NN s X = (s.2.2.2 - s.2.1) * (X - 2 * s.1) := by
  have : WW s = 0 := by unfold WW; omega
  exact ⟨this, fun X => by unfold NN; rw [this]; omega⟩
theorem three_vn (hs : s.2.1 < s.2.2.2) (v : s.1 = s.2.2.1) (nt : t.1 < t.2.2.1) : meet4 s t = 3 ↔ (t.1 < s.1 ∧ s.1 < t.2.2.1) ∧ (s.2.1 * WW t < NN t (2 * s.1) ∧ NN t (2 * s.1) < s.2.2.2 * WW t) := by
  rw [meet_three]
  obtain ⟨w0, n0⟩ := WW_vert v
  have p := tn_sub s t.1 t.2.1
  have p' := tn_sub s t.2.2.1 t.2.2.2
  have q := tn_sub t s.1 s.2.1
  have q' := tn_sub t s.2.2.1 s.2.2.2
  rw [w0, n0] at p p'
  have hw : 0 < WW t := by unfold WW; omega
  have m1 := mul_sgn (w := 2 * (s.2.2.2 - s.2.1)) (x := s.1 - t.1) (y := t.2.1 * 0 - (s.2.2.2 - s.2.1) * (2 * t.1 - 2 * s.1)) (by omega) (by grind)
  have m2 := mul_sgn (w := 2 * (s.2.2.2 - s.2.1)) (x := s.1 - t.2.2.1) (y := t.2.2.2 * 0 - (s.2.2.2 - s.2.1) * (2 * t.2.2.1 - 2 * s.1)) (by omega) (by grind)
  have m3 : s.2.1 * WW t < s.2.2.2 * WW t := Int.mul_lt_mul_of_pos_right hs hw
  rw [← v] at q' ⊢
  unfold Opp
  omega
theorem four_vn (hs : s.2.1 < s.2.2.2) (v : s.1 = s.2.2.1) (fs : fwd s = s) (ft : fwd t = t) (nt : t.1 < t.2.2.1) : meet4 s t ≠ 4 := by
  rw [Ne, meet_four fs ft]
  rintro ⟨⟨h1, h2⟩, _⟩
  obtain ⟨w0, n0⟩ := WW_vert v
  have p := (tn_sub s t.1 t.2.1).2.2.1 h1
  have p' := (tn_sub s t.2.2.1 t.2.2.2).2.2.1 h2
  rw [w0, n0] at p p'
  have m1 := mul_sgn (w := 2 * (s.2.2.2 - s.2.1)) (x := s.1 - t.1) (y := t.2.1 * 0 - (s.2.2.2 - s.2.1) * (2 * t.1 - 2 * s.1)) (by omega) (by grind)
  have m2 := mul_sgn (w := 2 * (s.2.2.2 - s.2.1)) (x := s.1 - t.2.2.1) (y := t.2.2.2 * 0 - (s.2.2.2 - s.2.1) * (2 * t.2.2.1 - 2 * s.1)) (by omega) (by grind)
  omega
theorem three_vv (hs : s.2.1 < s.2.2.2) (v : s.1 = s.2.2.1) (v' : t.1 = t.2.2.1) : meet4 s t ≠ 3 := by
  rw [Ne, meet_three]
  rintro ⟨h1, _⟩
  obtain ⟨w0, n0⟩ := WW_vert v
  have p := tn_sub s t.1 t.2.1
  have p' := tn_sub s t.2.2.1 t.2.2.2
  rw [w0, n0] at p p'
  have m1 := mul_sgn (w := 2 * (s.2.2.2 - s.2.1)) (x := s.1 - t.1) (y := t.2.1 * 0 - (s.2.2.2 - s.2.1) * (2 * t.1 - 2 * s.1)) (by omega) (by grind)
  have m2 := mul_sgn (w := 2 * (s.2.2.2 - s.2.1)) (x := s.1 - t.2.2.1) (y := t.2.2.2 * 0 - (s.2.2.2 - s.2.1) * (2 * t.2.2.1 - 2 * s.1)) (by omega) (by grind)
  unfold Opp at h1
  omega
theorem four_vv (hs : s.2.1 < s.2.2.2) (v : s.1 = s.2.2.1) (ht : t.2.1 < t.2.2.2) (v' : t.1 = t.2.2.1) (fs : fwd s = s) (ft : fwd t = t) : meet4 s t = 4 ↔ s.1 = t.1 ∧ s.2.1 < t.2.2.2 ∧ t.2.1 < s.2.2.2 := by
  rw [meet_four fs ft]
  obtain ⟨w0, n0⟩ := WW_vert v
  have p := (tn_sub s t.1 t.2.1).2.2
  have p' := (tn_sub s t.2.2.1 t.2.2.2).2.2
  rw [w0, n0] at p p'
  have m1 := mul_sgn (w := 2 * (s.2.2.2 - s.2.1)) (x := s.1 - t.1) (y := t.2.1 * 0 - (s.2.2.2 - s.2.1) * (2 * t.1 - 2 * s.1)) (by omega) (by grind)
  have m2 := mul_sgn (w := 2 * (s.2.2.2 - s.2.1)) (x := s.1 - t.2.2.1) (y := t.2.2.2 * 0 - (s.2.2.2 - s.2.1) * (2 * t.2.2.1 - 2 * s.1)) (by omega) (by grind)
  unfold lexB
  omega
end
/-! what the strips of a sweep show -/
/-- a segment whose lesser end is the first -/
def FwdOk (s : S4) : Prop := fwd s = s ∧ (s.1 < s.2.2.1 ∨ (s.1 = s.2.2.1 ∧ s.2.1 < s.2.2.2))
theorem aff_opp {X Y X' Y' : Int} (s t : S4) (h : X < Y) (h1 : X' ≤ X) (h2 : Y ≤ Y') (hx : 0 < DD s t X) (hy : DD s t Y < 0) : 0 < DD s t X' ∧ DD s t Y' < 0 := by
  have p := DD_affine s t X' Y X
  have q := DD_affine s t X Y' Y
  generalize DD s t X = x at *
  generalize DD s t Y = y at *
  generalize DD s t X' = x' at *
  generalize DD s t Y' = y' at *
  constructor
  · rcases Int.lt_or_le 0 x' with g | g
    · exact g
    · have k1 := Int.mul_nonpos_of_nonneg_of_nonpos (show 0 ≤ Y - X by omega) g
      have k2 := Int.mul_nonpos_of_nonneg_of_nonpos (show 0 ≤ X - X' by omega) (show y ≤ 0 by omega)
      have k3 := Int.mul_pos (show 0 < Y - X' by omega) hx
      omega
  · rcases Int.lt_or_le y' 0 with g | g
    · exact g
    · have k1 := Int.mul_nonneg (show 0 ≤ Y - X by omega) g
      have k2 := Int.mul_nonneg (show 0 ≤ Y' - Y by omega) (show 0 ≤ x by omega)
      have k3 := Int.mul_neg_of_pos_of_neg (show 0 < Y' - X by omega) hy
      omega
/-- where two do not cross, the one that is lower in the middle of a strip is nowhere higher in it -/
theorem ap_order {s t : S4} (ns : s.1 < s.2.2.1) (nt : t.1 < t.2.2.1) (h : Ap s t) {f u : Int} (hfu : f < u) (a1 : s.1 ≤ f) (a2 : u ≤ s.2.2.1) (b1 : t.1 ≤ f) (b2 : u ≤ t.2.2.1) (hm : DD s t (f + u) < 0) : DD s t (2 * f) ≤ 0 ∧ DD s t (2 * u) ≤ 0 ∧ ¬ (DD s t (2 * f) = 0 ∧ DD s t (2 * u) = 0) := by
  have p := DD_affine s t (2 * f) (2 * u) (f + u)
  have p' : 2 * DD s t (f + u) = DD s t (2 * f) + DD s t (2 * u) := by
    have hp : (u - f) * (2 * DD s t (f + u) - (DD s t (2 * f) + DD s t (2 * u))) = 0 := by grind
    rcases Int.mul_eq_zero.1 hp with g | g <;> omega
  refine ⟨?_, ?_, by omega⟩
  · rcases Int.lt_or_le 0 (DD s t (2 * f)) with g | g
    · exfalso
      have g2 : DD s t (2 * u) < 0 := by omega
      have c1 := aff_opp s t (show 2 * f < 2 * u by omega) (show 2 * s.1 ≤ 2 * f by omega) (show 2 * u ≤ 2 * s.2.2.1 by omega) g g2
      have c2 := aff_opp s t (show 2 * f < 2 * u by omega) (show 2 * t.1 ≤ 2 * f by omega) (show 2 * u ≤ 2 * t.2.2.1 by omega) g g2
      exact h.1 ((three_nn ns nt).2 ⟨.inr c2, .inr c1⟩)
    · exact g
  · rcases Int.lt_or_le 0 (DD s t (2 * u)) with g | g
    · exfalso
      have g2 : DD s t (2 * f) < 0 := by omega
      have c1 := aff_opp t s (show 2 * f < 2 * u by omega) (show 2 * s.1 ≤ 2 * f by omega) (show 2 * u ≤ 2 * s.2.2.1 by omega) (by rw [DD_swap]; omega) (by rw [DD_swap]; omega)
      have c2 := aff_opp t s (show 2 * f < 2 * u by omega) (show 2 * t.1 ≤ 2 * f by omega) (show 2 * u ≤ 2 * t.2.2.1 by omega) (by rw [DD_swap]; omega) (by rw [DD_swap]; omega)
      rw [DD_swap s t, DD_swap s t] at c1 c2
      exact h.1 ((three_nn ns nt).2 ⟨.inl (by omega), .inl (by omega)⟩)
    · exact g
theorem DD_mid (s t u : S4) (X : Int) : WW t * DD s u X = WW u * DD s t X + WW s * DD t u X := by unfold DD; grind
theorem DD_trans {s t u : S4} (ns : 0 < WW s) (nt : 0 < WW t) (nu : 0 < WW u) {X : Int} (h1 : DD s t X ≤ 0) (h2 : DD t u X ≤ 0) : DD s u X ≤ 0 ∧ (DD s u X = 0 → DD s t X = 0 ∧ DD t u X = 0) := by
  have := DD_mid s t u X
  generalize DD s t X = x at *
  generalize DD t u X = y at *
  generalize DD s u X = z at *
  have k1 := Int.mul_nonpos_of_nonneg_of_nonpos (Int.le_of_lt nu) h1
  have k2 := Int.mul_nonpos_of_nonneg_of_nonpos (Int.le_of_lt ns) h2
  constructor
  · rcases Int.lt_or_le 0 z with g | g
    · have := Int.mul_pos nt g; omega
    · exact g
  · rintro rfl
    rw [Int.mul_zero] at this
    have e1 : WW u * x = 0 := by omega
    have e2 : WW s * y = 0 := by omega
    constructor
    · rcases Int.mul_eq_zero.1 e1 with g | g <;> omega
    · rcases Int.mul_eq_zero.1 e2 with g | g <;> omega
section
variable (n m : Nat) (F : Nat → S4) (xs : Nat → Int)
/-- the events of segments: ascending, the X of all ends -/
structure Ev2 : Prop where
  up : ∀ k, k + 1 < m → xs k < xs (k + 1)
  mem : ∀ x, (∃ k, k < m ∧ xs k = x) ↔ ∃ i, i < n ∧ (x = (F i).1 ∨ x = (F i).2.2.1)
  ok : ∀ i, i < n → FwdOk (F i)
/-- segment i spans strip k -/
def Span (k i : Nat) : Prop := (F i).1 ≤ xs k ∧ xs (k + 1) ≤ (F i).2.2.1
def EndAt (x : Int) (i : Nat) : Prop := (F i).1 = x ∨ (F i).2.2.1 = x
def Rise (L : List Nat) (f u : Int) : Prop := ∀ p, p + 1 < L.length → DD (F (L.getD p 0)) (F (L.getD (p + 1) 0)) (2 * f) ≤ 0 ∧ DD (F (L.getD p 0)) (F (L.getD (p + 1) 0)) (2 * u) ≤ 0 ∧ ¬ (DD (F (L.getD p 0)) (F (L.getD (p + 1) 0)) (2 * f) = 0 ∧ DD (F (L.getD p 0)) (F (L.getD (p + 1) 0)) (2 * u) = 0)
def Lone (L : List Nat) (x : Int) : Prop := ∀ i ∈ L, ∀ j ∈ L, i ≠ j → DD (F i) (F j) (2 * x) = 0 → EndAt F x i ∨ EndAt F x j
/-- the strip k is right -/
structure StripOk (k : Nat) (L : List Nat) : Prop where
  nd : L.Nodup
  mem : ∀ i, i ∈ L ↔ i < n ∧ Span F xs k i
  rise : Rise F L (xs k) (xs (k + 1))
  low : Lone F L (xs k)
  high : Lone F L (xs (k + 1))
/-- vertical segments are right -/
def VertOk : Prop := ∀ i, i < n → (F i).1 = (F i).2.2.1 → ∀ j, j < n → j ≠ i → ¬ ((F j).1 = (F j).2.2.1 ∧ (F i).1 = (F j).1 ∧ (F i).2.1 < (F j).2.2.2 ∧ (F j).2.1 < (F i).2.2.2) ∧
  ¬ (((F j).1 < (F i).1 ∧ (F i).1 < (F j).2.2.1) ∧ (F i).2.1 * WW (F j) < NN (F j) (2 * (F i).1) ∧ NN (F j) (2 * (F i).1) < (F i).2.2.2 * WW (F j))
def NoBad : Prop := ∀ i j, i < n → j < n → i ≠ j → Ap (F i) (F j)
variable {n m F xs}
theorem Ev2.lt (h : Ev2 n m F xs) {a b : Nat} (hab : a < b) : b < m → xs a < xs b := by
  induction b with
  | zero => omega
  | succ b ih =>
    intro hb
    rcases Nat.lt_or_ge a b with g | g
    · have := ih g (by omega); have := h.up b hb; omega
    · obtain rfl : a = b := by omega
      exact h.up a hb
theorem Ev2.le (h : Ev2 n m F xs) {a b : Nat} (hab : a ≤ b) (hb : b < m) : xs a ≤ xs b := by
  rcases Nat.lt_or_ge a b with g | g
  · have := h.lt g hb; omega
  · obtain rfl : a = b := by omega
    exact Int.le_refl _
theorem Ev2.lt_iff (h : Ev2 n m F xs) {a b : Nat} (ha : a < m) (hb : b < m) : xs a < xs b ↔ a < b := by
  rcases Nat.lt_or_ge a b with g | g
  · have := h.lt g hb; omega
  · have := h.le g ha; omega
theorem Ev2.nv (h : Ev2 n m F xs) {k i : Nat} (hk : k + 1 < m) (hi : i < n) (hs : Span F xs k i) : (F i).1 < (F i).2.2.1 := by
  have := h.up k hk; unfold Span at hs; omega
theorem ww_pos {s : S4} (h : s.1 < s.2.2.1) : 0 < WW s := by unfold WW; omega
/-- strips in which the middles are in order are right, where nothing crosses -/
theorem strip_of (h : Ev2 n m F xs) (hb : NoBad n F) {k : Nat} (hk : k + 1 < m) {L : List Nat} (nd : L.Nodup) (mem : ∀ i, i ∈ L ↔ i < n ∧ Span F xs k i)
    (so : ∀ p, p + 1 < L.length → DD (F (L.getD p 0)) (F (L.getD (p + 1) 0)) (xs k + xs (k + 1)) ≤ 0) : StripOk n F xs k L := by
  have hup := h.up k hk
  have lo : ∀ x, (x = xs k ∨ x = xs (k + 1)) → Lone F L x := by
    intro x hx i hi j hj hij h0
    obtain ⟨i1, i2⟩ := (mem i).1 hi
    obtain ⟨j1, j2⟩ := (mem j).1 hj
    have ni := h.nv hk i1 i2
    have nj := h.nv hk j1 j2
    unfold EndAt
    unfold Span at i2 j2
    rcases Decidable.em ((F i).1 = x ∨ (F i).2.2.1 = x) with e | e
    · exact .inl e
    · rcases Decidable.em ((F j).1 = x ∨ (F j).2.2.1 = x) with e' | e'
      · exact .inr e'
      · exact absurd h0 (ap_ne (h.ok i i1).1 (h.ok j j1).1 ni nj (hb i j i1 j1 hij) (by omega) (by omega) (by omega) (by omega))
  refine ⟨nd, mem, fun p hp => ?_, lo _ (.inl rfl), lo _ (.inr rfl)⟩
  have e1 : L.getD p 0 = L[p] := by rw [List.getD_eq_getElem?_getD, List.getElem?_eq_getElem (by omega)]; rfl
  have e2 : L.getD (p + 1) 0 = L[p + 1] := by rw [List.getD_eq_getElem?_getD, List.getElem?_eq_getElem hp]; rfl
  have so' := so p hp
  rw [e1, e2] at so' ⊢
  obtain ⟨i1, i2⟩ := (mem L[p]).1 (List.getElem_mem _)
  obtain ⟨j1, j2⟩ := (mem L[p + 1]).1 (List.getElem_mem _)
  have hij : L[p] ≠ L[p + 1] := fun e => by have := (List.getElem_inj nd).1 e; omega
  have ap := hb _ _ i1 j1 hij
  have ni := h.nv hk i1 i2
  have nj := h.nv hk j1 j2
  unfold Span at i2 j2
  have hne := ap_ne (X := xs k + xs (k + 1)) (h.ok _ i1).1 (h.ok _ j1).1 ni nj ap (by omega) (by omega) (by omega) (by omega)
  exact ap_order ni nj ap hup i2.1 i2.2 j2.1 j2.2 (by omega)
theorem vert_of (h : Ev2 n m F xs) (hb : NoBad n F) : VertOk n F := by
  intro i hi hv j hj hji
  have ap := hb i j hi hj (Ne.symm hji)
  obtain ⟨fi, oi⟩ := h.ok i hi
  obtain ⟨fj, oj⟩ := h.ok j hj
  have yi : (F i).2.1 < (F i).2.2.2 := by omega
  constructor
  · rintro ⟨v, e, h1, h2⟩
    exact ap.2 ((four_vv yi hv (by omega) v fi fj).2 ⟨e, h1, h2⟩)
  · rintro ⟨h1, h2⟩
    exact ap.1 ((three_vn yi hv (by omega)).2 ⟨h1, h2⟩)
/-- the order in a right strip holds of any two -/
theorem StripOk.pair (h : Ev2 n m F xs) {k : Nat} (hk : k + 1 < m) {L : List Nat} (s : StripOk n F xs k L) {p : Nat} : ∀ q, p < q → q < L.length →
    DD (F (L.getD p 0)) (F (L.getD q 0)) (2 * xs k) ≤ 0 ∧ DD (F (L.getD p 0)) (F (L.getD q 0)) (2 * xs (k + 1)) ≤ 0 ∧ ¬ (DD (F (L.getD p 0)) (F (L.getD q 0)) (2 * xs k) = 0 ∧ DD (F (L.getD p 0)) (F (L.getD q 0)) (2 * xs (k + 1)) = 0) := by
  have pos : ∀ p, p < L.length → 0 < WW (F (L.getD p 0)) := fun p hp => by
    have e1 : L.getD p 0 = L[p] := by rw [List.getD_eq_getElem?_getD, List.getElem?_eq_getElem hp]; rfl
    rw [e1]
    obtain ⟨i1, i2⟩ := (s.mem L[p]).1 (List.getElem_mem _)
    exact ww_pos (h.nv hk i1 i2)
  intro q
  induction q with
  | zero => omega
  | succ q ih =>
    intro h1 h2
    rcases Nat.lt_or_ge p q with g | g
    · obtain ⟨a1, a2, a3⟩ := ih g (by omega)
      obtain ⟨b1, b2, b3⟩ := s.rise q h2
      obtain ⟨c1, c2⟩ := DD_trans (pos p (by omega)) (pos q (by omega)) (pos (q + 1) h2) a1 b1
      obtain ⟨d1, d2⟩ := DD_trans (pos p (by omega)) (pos q (by omega)) (pos (q + 1) h2) a2 b2
      refine ⟨c1, d1, fun ⟨x, y⟩ => ?_⟩
      exact a3 ⟨(c2 x).1, (d2 y).1⟩
    · obtain rfl : p = q := by omega
      exact s.rise p h2
theorem StripOk.two (h : Ev2 n m F xs) {k : Nat} (hk : k + 1 < m) {L : List Nat} (s : StripOk n F xs k L) {i j : Nat} (hi : i < n) (hj : j < n) (hij : i ≠ j) (si : Span F xs k i) (sj : Span F xs k j) :
    (DD (F i) (F j) (2 * xs k) ≤ 0 ∧ DD (F i) (F j) (2 * xs (k + 1)) ≤ 0 ∧ ¬ (DD (F i) (F j) (2 * xs k) = 0 ∧ DD (F i) (F j) (2 * xs (k + 1)) = 0)) ∨
    (0 ≤ DD (F i) (F j) (2 * xs k) ∧ 0 ≤ DD (F i) (F j) (2 * xs (k + 1)) ∧ ¬ (DD (F i) (F j) (2 * xs k) = 0 ∧ DD (F i) (F j) (2 * xs (k + 1)) = 0)) := by
  obtain ⟨p, hp, ep⟩ := List.getElem_of_mem ((s.mem i).2 ⟨hi, si⟩)
  obtain ⟨q, hq, eq⟩ := List.getElem_of_mem ((s.mem j).2 ⟨hj, sj⟩)
  have e1 : L.getD p 0 = i := by rw [List.getD_eq_getElem?_getD, List.getElem?_eq_getElem hp]; exact ep
  have e2 : L.getD q 0 = j := by rw [List.getD_eq_getElem?_getD, List.getElem?_eq_getElem hq]; exact eq
  rcases Nat.lt_trichotomy p q with g | g | g
  · have := s.pair h hk q g hq
    rw [e1, e2] at this
    exact .inl this
  · subst g; omega
  · have := s.pair h hk p g hp
    rw [e1, e2, DD_swap, DD_swap (F i) (F j)] at this
    right; omega
/-- the signs along the strips that two segments share -/
theorem signs (h : Ev2 n m F xs) {st : Nat → List Nat} (hs : ∀ k, k + 1 < m → StripOk n F xs k (st k)) {i j : Nat} (hi : i < n) (hj : j < n) (hij : i ≠ j) {a b : Nat} (hb : b < m)
    (ha1 : (F i).1 ≤ xs a) (ha2 : (F j).1 ≤ xs a) (hb1 : xs b ≤ (F i).2.2.1) (hb2 : xs b ≤ (F j).2.2.1) (h0 : DD (F i) (F j) (2 * xs a) < 0) : ∀ k, a ≤ k → k ≤ b → DD (F i) (F j) (2 * xs k) ≤ 0 ∧ (k < b → DD (F i) (F j) (2 * xs k) < 0) := by
  intro k
  induction k with
  | zero => intro h1 h2; obtain rfl : a = 0 := by omega
            exact ⟨by omega, fun _ => h0⟩
  | succ k ih =>
    intro h1 h2
    rcases Nat.lt_or_ge k a with g | g
    · obtain rfl : a = k + 1 := by omega
      exact ⟨by omega, fun _ => h0⟩
    · have p := (ih g (by omega)).2 (by omega)
      have xa := h.le g (show k < m by omega)
      have xb := h.le h2 hb
      have t := (hs k (by omega)).two h (by omega) hi hj hij ⟨by omega, by omega⟩ ⟨by omega, by omega⟩
      refine ⟨by omega, fun hlt => ?_⟩
      have xk := h.lt hlt hb
      have xk2 := h.lt (show a < k + 1 by omega) (by omega)
      rcases Int.lt_or_le (DD (F i) (F j) (2 * xs (k + 1))) 0 with q | q
      · exact q
      · exfalso
        have e0 : DD (F i) (F j) (2 * xs (k + 1)) = 0 := by omega
        have mi := ((hs k (by omega)).mem i).2 ⟨hi, by omega, by omega⟩
        have mj := ((hs k (by omega)).mem j).2 ⟨hj, by omega, by omega⟩
        have := (hs k (by omega)).high i mi j mj hij e0
        unfold EndAt at this
        omega
theorem meet4_comm {s t : S4} (h1 : okSeg s = true) (h2 : okSeg t = true) : meet4 t s = meet4 s t := meetI_comm h1 h2
/-- right strips and right vertical segments show that nothing crosses -/
theorem no_bad (h : Ev2 n m F xs) (hok : ∀ i, i < n → okSeg (F i) = true) {st : Nat → List Nat} (hs : ∀ k, k + 1 < m → StripOk n F xs k (st k)) (hv : VertOk n F) : NoBad n F := by
  have evi : ∀ i, i < n → (∃ a, a < m ∧ xs a = (F i).1) ∧ (∃ b, b < m ∧ xs b = (F i).2.2.1) := fun i hi => ⟨(h.mem _).2 ⟨i, hi, .inl rfl⟩, (h.mem _).2 ⟨i, hi, .inr rfl⟩⟩
  -- two that are not vertical
  have nn : ∀ i j, i < n → j < n → i ≠ j → (F i).1 < (F i).2.2.1 → (F j).1 < (F j).2.2.1 → Ap (F i) (F j) := by
    intro i j hi hj hij ni nj
    have ab : max (F i).1 (F j).1 < min (F i).2.2.1 (F j).2.2.1 → ∃ a b, a < b ∧ b < m ∧ xs a = max (F i).1 (F j).1 ∧ xs b = min (F i).2.2.1 (F j).2.2.1 := by
      intro hlt
      obtain ⟨a, ha, ea⟩ : ∃ a, a < m ∧ xs a = max (F i).1 (F j).1 := by
        rcases Int.le_total (F i).1 (F j).1 with g | g
        · rw [Int.max_eq_right g]; exact (evi j hj).1
        · rw [Int.max_eq_left g]; exact (evi i hi).1
      obtain ⟨b, hb, eb⟩ : ∃ b, b < m ∧ xs b = min (F i).2.2.1 (F j).2.2.1 := by
        rcases Int.le_total (F i).2.2.1 (F j).2.2.1 with g | g
        · rw [Int.min_eq_left g]; exact (evi i hi).2
        · rw [Int.min_eq_right g]; exact (evi j hj).2
      exact ⟨a, b, (h.lt_iff ha hb).1 (by omega), hb, ea, eb⟩
    refine ⟨fun e => ?_, fun e => ?_⟩
    · obtain ⟨hlt, ho⟩ := three_ends ni nj e
      obtain ⟨a, b, hab, hb, ea, eb⟩ := ab hlt
      rw [← ea, ← eb] at ho
      rcases ho with ⟨o1, o2⟩ | ⟨o1, o2⟩
      · have := (signs h hs hi hj hij hb (by omega) (by omega) (by omega) (by omega) o1 b (by omega) (by omega)).1
        omega
      · have := (signs (a := a) h hs hj hi (Ne.symm hij) hb (by omega) (by omega) (by omega) (by omega) (by rw [DD_swap]; omega) b (by omega) (by omega)).1
        rw [DD_swap] at this
        omega
    · obtain ⟨hlt, ho⟩ := four_all (h.ok i hi).1 (h.ok j hj).1 ni nj e
      obtain ⟨a, b, hab, hb, ea, eb⟩ := ab hlt
      have x1 := h.le (show a + 1 ≤ b by omega) hb
      have t := (hs a (by omega)).two h (by omega) hi hj hij ⟨by omega, by omega⟩ ⟨by omega, by omega⟩
      have := ho (2 * xs a)
      have := ho (2 * xs (a + 1))
      omega
  have vn : ∀ i j, i < n → j < n → i ≠ j → (F i).1 = (F i).2.2.1 → (F j).1 < (F j).2.2.1 → Ap (F i) (F j) := by
    intro i j hi hj hij vi nj
    have yi : (F i).2.1 < (F i).2.2.2 := by have := (h.ok i hi).2; omega
    exact ⟨fun e => (hv i hi vi j hj (Ne.symm hij)).2 ((three_vn yi vi nj).1 e), four_vn yi vi (h.ok i hi).1 (h.ok j hj).1 nj⟩
  intro i j hi hj hij
  have oi := (h.ok i hi).2
  have oj := (h.ok j hj).2
  rcases oi with ni | ⟨vi, yi⟩
  · rcases oj with nj | ⟨vj, yj⟩
    · exact nn i j hi hj hij ni nj
    · have := vn j i hj hi (Ne.symm hij) vj ni
      unfold Ap at this ⊢
      rw [meet4_comm (hok i hi) (hok j hj)] at this
      exact this
  · rcases oj with nj | ⟨vj, yj⟩
    · exact vn i j hi hj hij vi nj
    · exact ⟨three_vv yi vi vj, fun e => (hv i hi vi j hj (Ne.symm hij)).1 (by
        obtain ⟨e1, e2, e3⟩ := (four_vv yi vi yj vj (h.ok i hi).1 (h.ok j hj).1).1 e
        exact ⟨vj, e1, e2, e3⟩)⟩
end

end Geo
end Go.Proofs.YtpdfbboagaflhaaGreat
