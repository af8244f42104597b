/- How two segments meet, said in two ways, and which of two is above, said in two ways: both say the same. Plain lemmas on numbers; no program. -/
import Derived.Test.YtpdfbboagaflhaaGreatM50
import Derived.Test.YtpdfbboagaflhaaGreatM16
import Derived.Test.YtpdfbboagaflhaaGreatM15

set_option linter.unusedSimpArgs false
set_option linter.unusedVariables false
namespace Go.Proofs.YtpdfbboagaflhaaGreat
open Go.RowKit

/-! signs -/
theorem turnI_sign (a b c d p q : Int) : turnI a b c d p q = Int.sign ((c - a) * (q - b) - (d - b) * (p - a)) := by
  unfold turnI; rw [← cmpI_sub]; unfold cmpI
  rcases Int.lt_trichotomy ((c - a) * (q - b) - (d - b) * (p - a)) 0 with h | h | h
  · rw [if_pos h, Int.sign_eq_neg_one_of_neg h]
  · rw [h]; rfl
  · rw [if_neg (by omega), if_pos h, Int.sign_eq_one_of_pos h]
theorem sign_cases (x : Int) : (Int.sign x = -1 ∧ x < 0) ∨ (Int.sign x = 0 ∧ x = 0) ∨ (Int.sign x = 1 ∧ 0 < x) := by
  rcases Int.lt_trichotomy x 0 with h | h | h
  · exact .inl ⟨Int.sign_eq_neg_one_of_neg h, h⟩
  · exact .inr (.inl ⟨by rw [h]; rfl, h⟩)
  · exact .inr (.inr ⟨Int.sign_eq_one_of_pos h, h⟩)
theorem btw_sign (e a c : Int) : (min a c ≤ e ∧ e ≤ max a c) ↔ Int.sign (a - e) * Int.sign (c - e) ≤ 0 := by
  rcases sign_cases (a - e) with ⟨h, k⟩ | ⟨h, k⟩ | ⟨h, k⟩ <;> rcases sign_cases (c - e) with ⟨h', k'⟩ | ⟨h', k'⟩ | ⟨h', k'⟩ <;> rw [h, h'] <;> omega
theorem sgn3 (s1 s2 ux vx uy vy dx dy D : Int) (hs1 : s1 = -1 ∨ s1 = 0 ∨ s1 = 1) (hs2 : s2 = -1 ∨ s2 = 0 ∨ s2 = 1) (hdx : dx = -1 ∨ dx = 0 ∨ dx = 1) (hdy : dy = -1 ∨ dy = 0 ∨ dy = 1) (hD : D = -1 ∨ D = 1)
    (h0 : ¬ (dx = 0 ∧ dy = 0)) (e1 : s1 * dx = -(ux * D)) (e2 : s2 * dx = -(vx * D)) (e3 : s1 * dy = -(uy * D)) (e4 : s2 * dy = -(vy * D)) : (ux * vx ≤ 0 ∧ uy * vy ≤ 0) ↔ s1 * s2 ≤ 0 := by
  have k1 : ux = -(s1 * dx * D) := by rcases hD with rfl | rfl <;> omega
  have k2 : vx = -(s2 * dx * D) := by rcases hD with rfl | rfl <;> omega
  have k3 : uy = -(s1 * dy * D) := by rcases hD with rfl | rfl <;> omega
  have k4 : vy = -(s2 * dy * D) := by rcases hD with rfl | rfl <;> omega
  subst k1; subst k2; subst k3; subst k4
  clear e1 e2 e3 e4
  rcases hs1 with rfl | rfl | rfl <;> rcases hs2 with rfl | rfl | rfl <;> rcases hdx with rfl | rfl | rfl <;> rcases hdy with rfl | rfl | rfl <;> rcases hD with rfl | rfl <;> first | (exfalso; omega) | omega

/-- a point p on the line of s: it lies on s if and only if the ends of s do not lie on one side of the line through p with the direction (x, y) -/
theorem onR_cross {a b c d p q x y : Int} (hD : (c - a) * y - (d - b) * x ≠ 0) (hA : (c - a) * (q - b) - (d - b) * (p - a) = 0) :
    (onR p q a b c d = true ↔ Int.sign (x * (b - q) - y * (a - p)) * Int.sign (x * (d - q) - y * (c - p)) ≤ 0) := by
  have hon : onR p q a b c d = true ↔ ((min a c ≤ p ∧ p ≤ max a c) ∧ (min b d ≤ q ∧ q ≤ max b d)) := by
    simp only [onR, btwB, Bool.and_eq_true, beq_iff_eq, decide_eq_true_eq, turnI_sign, hA]
    simp
  rw [hon, btw_sign, btw_sign]
  have e1 : (x * (b - q) - y * (a - p)) * (c - a) = -((a - p) * ((c - a) * y - (d - b) * x)) := by grind
  have e2 : (x * (d - q) - y * (c - p)) * (c - a) = -((c - p) * ((c - a) * y - (d - b) * x)) := by grind
  have e3 : (x * (b - q) - y * (a - p)) * (d - b) = -((b - q) * ((c - a) * y - (d - b) * x)) := by grind
  have e4 : (x * (d - q) - y * (c - p)) * (d - b) = -((d - q) * ((c - a) * y - (d - b) * x)) := by grind
  have g1 := congrArg Int.sign e1
  have g2 := congrArg Int.sign e2
  have g3 := congrArg Int.sign e3
  have g4 := congrArg Int.sign e4
  rw [Int.sign_neg, Int.sign_mul, Int.sign_mul] at g1 g2 g3 g4
  have tri : ∀ z : Int, Int.sign z = -1 ∨ Int.sign z = 0 ∨ Int.sign z = 1 := fun z => by rcases sign_cases z with h | h | h <;> omega
  refine sgn3 _ _ _ _ _ _ _ _ _ (tri _) (tri _) (tri _) (tri _) ?_ ?_ g1 g2 g3 g4
  · rcases sign_cases ((c - a) * y - (d - b) * x) with h | h | h <;> omega
  · rintro ⟨h1, h2⟩
    have h3 : c - a = 0 := by rcases sign_cases (c - a) with h | h | h <;> omega
    have h4 : d - b = 0 := by rcases sign_cases (d - b) with h | h | h <;> omega
    rw [h3, h4] at hD; simp at hD

theorem onR_off {a b c d p q : Int} (hA : (c - a) * (q - b) - (d - b) * (p - a) ≠ 0) : onR p q a b c d = false := by
  rw [Bool.eq_false_iff]; intro h
  simp only [onR, Bool.and_eq_true, beq_iff_eq, turnI_sign] at h
  rcases sign_cases ((c - a) * (q - b) - (d - b) * (p - a)) with k | k | k <;> omega

/-- the point of two lines -/
theorem line_pt {dx dy x y ux uy : Int} (hD : dx * y - dy * x ≠ 0) (h1 : dx * uy - dy * ux = 0) (h2 : x * uy - y * ux = 0) : ux = 0 ∧ uy = 0 := by
  have e1 : ux * (dx * y - dy * x) = 0 := by grind
  have e2 : uy * (dx * y - dy * x) = 0 := by grind
  rcases Int.mul_eq_zero.1 e1 with h | h
  · rcases Int.mul_eq_zero.1 e2 with k | k
    · exact ⟨h, k⟩
    · exact absurd k hD
  · exact absurd h hD
theorem par_trans {dx dy x y ux uy : Int} (h0 : ¬ (x = 0 ∧ y = 0)) (h1 : dx * y - dy * x = 0) (h2 : x * uy - y * ux = 0) : dx * uy - dy * ux = 0 := by
  have e1 : (dx * uy - dy * ux) * x = 0 := by grind
  have e2 : (dx * uy - dy * ux) * y = 0 := by grind
  rcases Int.mul_eq_zero.1 e1 with h | h
  · exact h
  · rcases Int.mul_eq_zero.1 e2 with k | k
    · exact k
    · exact absurd ⟨h, k⟩ h0

/-- the key by which points of one line are ordered -/
def kap (x y : Int) : Int := 10001 * x + y
theorem kap_cmp {x y x' y' : Int} (h : 0 ≤ y ∧ y ≤ 10000) (h' : 0 ≤ y' ∧ y' ≤ 10000) : orI (cmpI x x') (cmpI y y') = cmpI (kap x y) (kap x' y') := by
  unfold orI cmpI kap
  by_cases h1 : x < x'
  · rw [if_pos h1, if_pos (by omega), if_pos (by omega)]
  · by_cases h2 : x' < x
    · rw [if_neg h1, if_pos h2, if_pos (by omega), if_neg (by omega), if_pos (by omega)]
    · rw [if_neg h1, if_neg h2, if_neg (by omega)]
      by_cases h3 : y < y'
      · rw [if_pos h3, if_pos (by omega)]
      · by_cases h4 : y' < y
        · rw [if_neg h3, if_pos h4, if_neg (by omega), if_pos (by omega)]
        · rw [if_neg h3, if_neg h4, if_neg (by omega), if_neg (by omega)]
theorem kap_inj {x y x' y' : Int} (h : 0 ≤ y ∧ y ≤ 10000) (h' : 0 ≤ y' ∧ y' ≤ 10000) : kap x y = kap x' y' ↔ (x = x' ∧ y = y') := by unfold kap; omega

theorem onR_key {a b c d p q : Int} (hb : 0 ≤ b ∧ b ≤ 10000) (hd : 0 ≤ d ∧ d ≤ 10000) (hq : 0 ≤ q ∧ q ≤ 10000) (hA : (c - a) * (q - b) - (d - b) * (p - a) = 0) :
    (onR p q a b c d = true ↔ min (kap a b) (kap c d) ≤ kap p q ∧ kap p q ≤ max (kap a b) (kap c d)) := by
  have hon : onR p q a b c d = true ↔ ((min a c ≤ p ∧ p ≤ max a c) ∧ (min b d ≤ q ∧ q ≤ max b d)) := by
    simp only [onR, btwB, Bool.and_eq_true, beq_iff_eq, decide_eq_true_eq, turnI_sign, hA]
    simp
  rw [hon]
  by_cases hl : a < c ∨ (a = c ∧ b ≤ d)
  · rw [← on_asc hl (by omega)]
    unfold kap; omega
  · have e : (a - c) * (q - d) - (b - d) * (p - c) = 0 := by grind
    have := on_asc (a := c) (b := d) (c := a) (d := b) (p := p) (q := q) (by omega) (by omega)
    rw [show min a c = min c a by omega, show max a c = max c a by omega, show min b d = min d b by omega, show max b d = max d b by omega, ← this]
    unfold kap; omega

theorem f_key {a b c d : Int} (hb : 0 ≤ b ∧ b ≤ 10000) (hd : 0 ≤ d ∧ d ≤ 10000) : kap (f1 a b c d) (f2 a b c d) = min (kap a b) (kap c d) ∧ kap (f3 a b c d) (f4 a b c d) = max (kap a b) (kap c d) := by
  unfold f1 f2 f3 f4
  rw [kap_cmp hb hd]
  unfold cmpI
  by_cases h1 : kap a b < kap c d
  · simp [h1]; omega
  · by_cases h2 : kap c d < kap a b
    · simp [h1, h2]; omega
    · simp [h1, h2]; omega

theorem cmpI_lt (a b : Int) : cmpI a b < 0 ↔ a < b := by unfold cmpI; by_cases h1 : a < b <;> by_cases h2 : b < a <;> simp [h1, h2] <;> omega
theorem cmpI_gt (a b : Int) : 0 < cmpI a b ↔ b < a := by unfold cmpI; by_cases h1 : a < b <;> by_cases h2 : b < a <;> simp [h1, h2] <;> omega
theorem codeI_cmp (a b : Int) : codeI (cmpI a b) = if a < b then 4 else if a = b then 1 else 0 := by
  unfold codeI cmpI
  by_cases h1 : a < b
  · simp [h1]
  · by_cases h2 : b < a
    · have h3 : a ≠ b := by omega
      simp [h1, h2, h3]
    · have h3 : a = b := by omega
      simp [h3]
theorem onLine_key {a b c d e f g h : Int} (hb : 0 ≤ b ∧ b ≤ 10000) (hd : 0 ≤ d ∧ d ≤ 10000) (hf : 0 ≤ f ∧ f ≤ 10000) (hh : 0 ≤ h ∧ h ≤ 10000) :
    onLineI a b c d e f g h = (if max (kap a b) (kap e f) < min (kap c d) (kap g h) then 4 else if max (kap a b) (kap e f) = min (kap c d) (kap g h) then 1 else 0) := by
  unfold onLineI
  rw [kap_cmp hb hf, kap_cmp hd hh, kap_cmp hf hh, kap_cmp hf hd, kap_cmp hb hh, kap_cmp hb hd]
  simp only [cmpI_lt, cmpI_gt]
  by_cases h1 : kap a b < kap e f
  · by_cases h2 : kap g h < kap c d
    · rw [if_pos h1, if_pos h2, codeI_cmp, show max (kap a b) (kap e f) = kap e f by omega, show min (kap c d) (kap g h) = kap g h by omega]
    · rw [if_pos h1, if_neg h2, codeI_cmp, show max (kap a b) (kap e f) = kap e f by omega, show min (kap c d) (kap g h) = kap c d by omega]
  · by_cases h2 : kap g h < kap c d
    · rw [if_neg h1, if_pos h2, codeI_cmp, show max (kap a b) (kap e f) = kap a b by omega, show min (kap c d) (kap g h) = kap g h by omega]
    · rw [if_neg h1, if_neg h2, codeI_cmp, show max (kap a b) (kap e f) = kap a b by omega, show min (kap c d) (kap g h) = kap c d by omega]

/-! the ends that two segments share -/
def bothB (a b c d e f g h : Int) (p : P2) : Bool := onR p.1 p.2 a b c d && onR p.1 p.2 e f g h
def endStep (a b c d e f g h : Int) (out : List P2) (p : P2) : List P2 := if bothB a b c d e f g h p && !out.contains p then out ++ [p] else out
def endsL (a b c d e f g h : Int) : List P2 := [(a, b), (c, d), (e, f), (g, h)].foldl (endStep a b c d e f g h) []
def meetOf (l : List P2) (a b c d e f g h : Int) : Int :=
  match l with
  | [] => if turnI a b c d e f * turnI a b c d g h < 0 ∧ turnI e f g h a b * turnI e f g h c d < 0 then 3 else 0
  | [p] => if (p = (a, b) ∨ p = (c, d)) ∧ (p = (e, f) ∨ p = (g, h)) then 1 else 2
  | _ => 4
def meetR (a b c d e f g h : Int) : Int := meetOf (endsL a b c d e f g h) a b c d e f g h

theorem onR_A (a b c d : Int) : onR a b a b c d = true := by
  simp only [onR, btwB, Bool.and_eq_true, beq_iff_eq, decide_eq_true_eq, turnI_sign]
  refine ⟨⟨by omega, by omega⟩, ?_⟩
  simp
theorem onR_B (a b c d : Int) : onR c d a b c d = true := by
  simp only [onR, btwB, Bool.and_eq_true, beq_iff_eq, decide_eq_true_eq, turnI_sign]
  refine ⟨⟨by omega, by omega⟩, ?_⟩
  rw [Int.mul_comm]; simp

/-- the same list, part by part -/
theorem endsL_parts {a b c d e f g h : Int} {s1 s2 t1 t2 : Bool} (hs1 : onR a b e f g h = s1) (hs2 : onR c d e f g h = s2) (ht1 : onR e f a b c d = t1) (ht2 : onR g h a b c d = t2)
    (h1 : (a, b) ≠ (c, d)) (h2 : (e, f) ≠ (g, h)) :
    endsL a b c d e f g h = (if s1 then [(a, b)] else []) ++ (if s2 then [(c, d)] else []) ++ (if t1 && !((e, f) == (a, b)) && !((e, f) == (c, d)) then [(e, f)] else []) ++ (if t2 && !((g, h) == (a, b)) && !((g, h) == (c, d)) then [(g, h)] else []) := by
  have b1 : bothB a b c d e f g h (a, b) = s1 := by simp [bothB, onR_A, hs1]
  have b2 : bothB a b c d e f g h (c, d) = s2 := by simp [bothB, onR_B, hs2]
  have b3 : bothB a b c d e f g h (e, f) = t1 := by simp [bothB, onR_A, ht1]
  have b4 : bothB a b c d e f g h (g, h) = t2 := by simp [bothB, onR_B, ht2]
  have c1 : (e, f) = (a, b) → t1 = true ∧ s1 = true := by
    intro hh; simp only [Prod.mk.injEq] at hh; obtain ⟨rfl, rfl⟩ := hh; exact ⟨by rw [← ht1, onR_A], by rw [← hs1, onR_A]⟩
  have c2 : (e, f) = (c, d) → t1 = true ∧ s2 = true := by
    intro hh; simp only [Prod.mk.injEq] at hh; obtain ⟨rfl, rfl⟩ := hh; exact ⟨by rw [← ht1, onR_B], by rw [← hs2, onR_A]⟩
  have c3 : (g, h) = (a, b) → t2 = true ∧ s1 = true := by
    intro hh; simp only [Prod.mk.injEq] at hh; obtain ⟨rfl, rfl⟩ := hh; exact ⟨by rw [← ht2, onR_A], by rw [← hs1, onR_B]⟩
  have c4 : (g, h) = (c, d) → t2 = true ∧ s2 = true := by
    intro hh; simp only [Prod.mk.injEq] at hh; obtain ⟨rfl, rfl⟩ := hh; exact ⟨by rw [← ht2, onR_B], by rw [← hs2, onR_B]⟩
  simp only [endsL, List.foldl_cons, List.foldl_nil, endStep, b1, b2, b3, b4]
  clear b1 b2 b3 b4 hs1 hs2 ht1 ht2
  generalize (a, b) = P at *
  generalize (c, d) = Q at *
  generalize (e, f) = U at *
  generalize (g, h) = V at *
  have h1' : Q ≠ P := fun hh => h1 hh.symm
  have h2' : V ≠ U := fun hh => h2 hh.symm
  by_cases e1 : U = P <;> by_cases e2 : U = Q <;> by_cases e3 : V = P <;> by_cases e4 : V = Q <;> cases s1 <;> cases s2 <;> cases t1 <;> cases t2 <;> simp_all

/-- parallel, and not on one line -/
theorem meet_par {a b c d e f g h : Int} (k2 : ¬ (e = g ∧ f = h)) (k1 : ¬ (a = c ∧ b = d)) (hD : (c - a) * (h - f) - (d - b) * (g - e) = 0) (hA : (c - a) * (f - b) - (d - b) * (e - a) ≠ 0) :
    meetR a b c d e f g h = meetI a b c d e f g h := by
  have hA2 : (c - a) * (h - b) - (d - b) * (g - a) = (c - a) * (f - b) - (d - b) * (e - a) := by grind
  have hB2 : (g - e) * (d - f) - (h - f) * (c - e) = (g - e) * (b - f) - (h - f) * (a - e) := by grind
  have hB : (g - e) * (b - f) - (h - f) * (a - e) ≠ 0 := by
    intro hh
    have := par_trans (dx := c - a) (dy := d - b) (x := g - e) (y := h - f) (ux := a - e) (uy := b - f) (by omega) hD hh
    exact hA (by grind)
  have hA2' : (c - a) * (h - b) - (d - b) * (g - a) ≠ 0 := by omega
  have hB2' : (g - e) * (d - f) - (h - f) * (c - e) ≠ 0 := by omega
  have he := endsL_parts (onR_off hB) (onR_off hB2') (onR_off hA) (onR_off hA2') (by simpa using k1) (by simpa using k2)
  simp at he
  rw [meetR, he, meetOf, meetI, turnI_sign, turnI_sign, turnI_sign, turnI_sign, hA2, hB2]
  rcases sign_cases ((c - a) * (f - b) - (d - b) * (e - a)) with ⟨h1, h2⟩ | ⟨h1, h2⟩ | ⟨h1, h2⟩
  · rw [h1]; simp
  · exact absurd h2 hA
  · rw [h1]; simp

/-- on one line -/
theorem meet_line {a b c d e f g h : Int} (k1 : okS a b c d = true) (k2 : okS e f g h = true) (hA1 : (c - a) * (f - b) - (d - b) * (e - a) = 0) (hA2 : (c - a) * (h - b) - (d - b) * (g - a) = 0) :
    meetR a b c d e f g h = meetI a b c d e f g h := by
  obtain ⟨⟨ha, hb⟩, ⟨hc, hd⟩, hs⟩ := okS_iff.1 k1
  obtain ⟨⟨he, hf⟩, ⟨hg, hh⟩, ht⟩ := okS_iff.1 k2
  have hD : (g - e) * (d - b) - (h - f) * (c - a) = 0 := by grind
  have hB1 : (g - e) * (b - f) - (h - f) * (a - e) = 0 := par_trans (dx := g - e) (dy := h - f) (x := c - a) (y := d - b) (ux := a - e) (uy := b - f) (by omega) hD (by grind)
  have hB2 : (g - e) * (d - f) - (h - f) * (c - e) = 0 := by grind
  have t1 := onR_key hb hd hf hA1
  have t2 := onR_key hb hd hh hA2
  have s1 := onR_key hf hh hb hB1
  have s2 := onR_key hf hh hd hB2
  have w1 := kap_inj (x := a) (x' := c) hb hd
  have w2 := kap_inj (x := e) (x' := g) hf hh
  have w3 := kap_inj (x := e) (x' := a) hf hb
  have w4 := kap_inj (x := e) (x' := c) hf hd
  have w5 := kap_inj (x := g) (x' := a) hh hb
  have w6 := kap_inj (x := g) (x' := c) hh hd
  have hI : meetI a b c d e f g h = (if max (min (kap a b) (kap c d)) (min (kap e f) (kap g h)) < min (max (kap a b) (kap c d)) (max (kap e f) (kap g h)) then 4 else if max (min (kap a b) (kap c d)) (min (kap e f) (kap g h)) = min (max (kap a b) (kap c d)) (max (kap e f) (kap g h)) then 1 else 0) := by
    have fb := f_bd 0 10000 a b c d ha hb hc hd
    have fb' := f_bd 0 10000 e f g h he hf hg hh
    rw [meetI, turnI_sign, turnI_sign, hA1, hA2, if_pos ⟨rfl, rfl⟩, onLine_key fb.2.1 fb.2.2.2 fb'.2.1 fb'.2.2.2, (f_key hb hd).1, (f_key hb hd).2, (f_key hf hh).1, (f_key hf hh).2]
  rw [hI, meetR]
  have hp := endsL_parts (a := a) (b := b) (c := c) (d := d) (e := e) (f := f) (g := g) (h := h) rfl rfl rfl rfl (by simpa using hs) (by simpa using ht)
  rw [hp, meetOf.eq_def, turnI_sign, turnI_sign, hA1, hA2]
  have v1 : (((e, f) : P2) == (a, b)) = decide (kap e f = kap a b) := by rw [Bool.eq_iff_iff]; simp [w3]
  have v2 : (((e, f) : P2) == (c, d)) = decide (kap e f = kap c d) := by rw [Bool.eq_iff_iff]; simp [w4]
  have v3 : (((g, h) : P2) == (a, b)) = decide (kap g h = kap a b) := by rw [Bool.eq_iff_iff]; simp [w5]
  have v4 : (((g, h) : P2) == (c, d)) = decide (kap g h = kap c d) := by rw [Bool.eq_iff_iff]; simp [w6]
  rw [v1, v2, v3, v4]
  have n1 : kap a b ≠ kap c d := fun hh => hs (w1.1 hh)
  have n2 : kap e f ≠ kap g h := fun hh => ht (w2.1 hh)
  have x1 : ((e, f) : P2) = (a, b) ↔ kap e f = kap a b := by rw [w3]; simp
  have x2 : ((e, f) : P2) = (c, d) ↔ kap e f = kap c d := by rw [w4]; simp
  have x3 : ((g, h) : P2) = (a, b) ↔ kap g h = kap a b := by rw [w5]; simp
  have x4 : ((g, h) : P2) = (c, d) ↔ kap g h = kap c d := by rw [w6]; simp
  have x1' : ((a, b) : P2) = (e, f) ↔ kap e f = kap a b := by rw [← x1]; exact eq_comm
  have x2' : ((c, d) : P2) = (e, f) ↔ kap e f = kap c d := by rw [← x2]; exact eq_comm
  have x3' : ((a, b) : P2) = (g, h) ↔ kap g h = kap a b := by rw [← x3]; exact eq_comm
  have x4' : ((c, d) : P2) = (g, h) ↔ kap g h = kap c d := by rw [← x4]; exact eq_comm
  clear v1 v2 v3 v4 hp hI w1 w2 w3 w4 w5 w6 hA1 hA2 hB1 hB2 hD k1 k2 hs ht ha hb hc hd he hf hg hh
  generalize onR a b e f g h = S1 at *
  generalize onR c d e f g h = S2 at *
  generalize onR e f a b c d = T1 at *
  generalize onR g h a b c d = T2 at *
  generalize kap a b = P at *
  generalize kap c d = Q at *
  generalize kap e f = U at *
  generalize kap g h = V at *
  generalize ((a, b) : P2) = pp at *
  generalize ((c, d) : P2) = qq at *
  generalize ((e, f) : P2) = uu at *
  generalize ((g, h) : P2) = vv at *
  have z : Int.sign 0 * Int.sign 0 < 0 ↔ False := by decide
  cases S1 <;> cases S2 <;> cases T1 <;> cases T2 <;> simp only [Bool.false_eq_true, false_iff, true_iff, Bool.false_and, Bool.true_and, if_false, if_true] at * <;>
    by_cases e1 : U = P <;> by_cases e2 : U = Q <;> by_cases e3 : V = P <;> by_cases e4 : V = Q <;> first
    | (exfalso; omega)
    | (simp [e1, e2, e3, e4, x1', x2', x3', x4', x1, x2, x3, x4]; omega)
    | (simp [e1, e2, e3, e4, x1', x2', x3', x4', x1, x2, x3, x4])

theorem sign_cases' (x : Int) : (Int.sign x = -1 ∧ x < 0 ∧ (x = 0) = False) ∨ (Int.sign x = 0 ∧ x = 0 ∧ (x = 0) = True) ∨ (Int.sign x = 1 ∧ 0 < x ∧ (x = 0) = False) := by
  rcases sign_cases x with ⟨h, k⟩ | ⟨h, k⟩ | ⟨h, k⟩
  · exact .inl ⟨h, k, eq_false (by omega)⟩
  · exact .inr (.inl ⟨h, k, eq_true k⟩)
  · exact .inr (.inr ⟨h, k, eq_false (by omega)⟩)

set_option maxHeartbeats 1000000 in
/-- the lines cross -/
theorem meet_skew {a b c d e f g h : Int} (k2 : ¬ (e = g ∧ f = h)) (k1 : ¬ (a = c ∧ b = d)) (hD : (c - a) * (h - f) - (d - b) * (g - e) ≠ 0) :
    meetR a b c d e f g h = meetI a b c d e f g h := by
  have hD' : (g - e) * (d - b) - (h - f) * (c - a) ≠ 0 := by
    intro hh; apply hD; grind
  -- the four numbers
  obtain ⟨A1, hA1⟩ : ∃ x, x = (c - a) * (f - b) - (d - b) * (e - a) := ⟨_, rfl⟩
  obtain ⟨A2, hA2⟩ : ∃ x, x = (c - a) * (h - b) - (d - b) * (g - a) := ⟨_, rfl⟩
  obtain ⟨B1, hB1⟩ : ∃ x, x = (g - e) * (b - f) - (h - f) * (a - e) := ⟨_, rfl⟩
  obtain ⟨B2, hB2⟩ : ∃ x, x = (g - e) * (d - f) - (h - f) * (c - e) := ⟨_, rfl⟩
  have r1 : A2 - A1 = (c - a) * (h - f) - (d - b) * (g - e) := by rw [hA1, hA2]; grind
  have r2 : B1 - B2 = (c - a) * (h - f) - (d - b) * (g - e) := by rw [hB1, hB2]; grind
  have T1 : onR e f a b c d = true ↔ A1 = 0 ∧ Int.sign B1 * Int.sign B2 ≤ 0 := by
    by_cases z : A1 = 0
    · have := onR_cross (p := e) (q := f) (x := g - e) (y := h - f) hD (by omega)
      rw [← hB1, ← hB2] at this; rw [this]; simp [z]
    · rw [onR_off (by omega)]; simp [z]
  have T2 : onR g h a b c d = true ↔ A2 = 0 ∧ Int.sign B1 * Int.sign B2 ≤ 0 := by
    by_cases z : A2 = 0
    · have := onR_cross (p := g) (q := h) (x := g - e) (y := h - f) hD (by omega)
      rw [show (g - e) * (b - h) - (h - f) * (a - g) = B1 by rw [hB1]; grind, show (g - e) * (d - h) - (h - f) * (c - g) = B2 by rw [hB2]; grind] at this; rw [this]; simp [z]
    · rw [onR_off (by omega)]; simp [z]
  have S1 : onR a b e f g h = true ↔ B1 = 0 ∧ Int.sign A1 * Int.sign A2 ≤ 0 := by
    by_cases z : B1 = 0
    · have := onR_cross (p := a) (q := b) (x := c - a) (y := d - b) hD' (by omega)
      rw [← hA1, ← hA2] at this; rw [this]; simp [z]
    · rw [onR_off (by omega)]; simp [z]
  have S2 : onR c d e f g h = true ↔ B2 = 0 ∧ Int.sign A1 * Int.sign A2 ≤ 0 := by
    by_cases z : B2 = 0
    · have := onR_cross (p := c) (q := d) (x := c - a) (y := d - b) hD' (by omega)
      rw [show (c - a) * (f - d) - (d - b) * (e - c) = A1 by rw [hA1]; grind, show (c - a) * (h - d) - (d - b) * (g - c) = A2 by rw [hA2]; grind] at this; rw [this]; simp [z]
    · rw [onR_off (by omega)]; simp [z]
  have E1 : ((e, f) : P2) = (a, b) ↔ A1 = 0 ∧ B1 = 0 := by
    constructor
    · intro hh; simp only [Prod.mk.injEq] at hh; obtain ⟨rfl, rfl⟩ := hh; rw [hA1, hB1]; simp
    · rintro ⟨z1, z2⟩; have := line_pt (ux := a - e) (uy := b - f) hD (by grind) (by omega); simp only [Prod.mk.injEq]; omega
  have E2 : ((e, f) : P2) = (c, d) ↔ A1 = 0 ∧ B2 = 0 := by
    constructor
    · intro hh; simp only [Prod.mk.injEq] at hh; obtain ⟨rfl, rfl⟩ := hh; rw [hA1, hB2]; constructor <;> grind
    · rintro ⟨z1, z2⟩; have := line_pt (ux := c - e) (uy := d - f) hD (by grind) (by omega); simp only [Prod.mk.injEq]; omega
  have E3 : ((g, h) : P2) = (a, b) ↔ A2 = 0 ∧ B1 = 0 := by
    constructor
    · intro hh; simp only [Prod.mk.injEq] at hh; obtain ⟨rfl, rfl⟩ := hh; rw [hA2, hB1]; constructor <;> grind
    · rintro ⟨z1, z2⟩; have := line_pt (ux := a - g) (uy := b - h) hD (by grind) (by grind); simp only [Prod.mk.injEq]; omega
  have E4 : ((g, h) : P2) = (c, d) ↔ A2 = 0 ∧ B2 = 0 := by
    constructor
    · intro hh; simp only [Prod.mk.injEq] at hh; obtain ⟨rfl, rfl⟩ := hh; rw [hA2, hB2]; constructor <;> grind
    · rintro ⟨z1, z2⟩; have := line_pt (ux := c - g) (uy := d - h) hD (by grind) (by grind); simp only [Prod.mk.injEq]; omega
  have F1 : ((a, b) : P2) = (e, f) ↔ A1 = 0 ∧ B1 = 0 := by rw [← E1]; exact eq_comm
  have F2 : ((c, d) : P2) = (e, f) ↔ A1 = 0 ∧ B2 = 0 := by rw [← E2]; exact eq_comm
  have F3 : ((a, b) : P2) = (g, h) ↔ A2 = 0 ∧ B1 = 0 := by rw [← E3]; exact eq_comm
  have F4 : ((c, d) : P2) = (g, h) ↔ A2 = 0 ∧ B2 = 0 := by rw [← E4]; exact eq_comm
  have hp := endsL_parts (a := a) (b := b) (c := c) (d := d) (e := e) (f := f) (g := g) (h := h) rfl rfl rfl rfl (by simpa using k1) (by simpa using k2)
  rw [meetR, hp, meetOf.eq_def, meetI, turnI_sign, turnI_sign, turnI_sign, turnI_sign, ← hA1, ← hA2, ← hB1, ← hB2]
  have v1 : (((e, f) : P2) == (a, b)) = decide (A1 = 0 ∧ B1 = 0) := by rw [Bool.eq_iff_iff, beq_iff_eq, E1]; simp
  have v2 : (((e, f) : P2) == (c, d)) = decide (A1 = 0 ∧ B2 = 0) := by rw [Bool.eq_iff_iff, beq_iff_eq, E2]; simp
  have v3 : (((g, h) : P2) == (a, b)) = decide (A2 = 0 ∧ B1 = 0) := by rw [Bool.eq_iff_iff, beq_iff_eq, E3]; simp
  have v4 : (((g, h) : P2) == (c, d)) = decide (A2 = 0 ∧ B2 = 0) := by rw [Bool.eq_iff_iff, beq_iff_eq, E4]; simp
  have w1 : onR a b e f g h = decide (B1 = 0 ∧ Int.sign A1 * Int.sign A2 ≤ 0) := by rw [Bool.eq_iff_iff, S1]; simp
  have w2 : onR c d e f g h = decide (B2 = 0 ∧ Int.sign A1 * Int.sign A2 ≤ 0) := by rw [Bool.eq_iff_iff, S2]; simp
  have w3 : onR e f a b c d = decide (A1 = 0 ∧ Int.sign B1 * Int.sign B2 ≤ 0) := by rw [Bool.eq_iff_iff, T1]; simp
  have w4 : onR g h a b c d = decide (A2 = 0 ∧ Int.sign B1 * Int.sign B2 ≤ 0) := by rw [Bool.eq_iff_iff, T2]; simp
  rw [v1, v2, v3, v4, w1, w2, w3, w4]
  have q1 : A2 - A1 ≠ 0 := by rw [r1]; exact hD
  have q2 : B1 - B2 ≠ 0 := by rw [r2]; exact hD
  have q3 : A2 - A1 = B1 - B2 := by rw [r1, r2]
  clear v1 v2 v3 v4 w1 w2 w3 w4 hp S1 S2 T1 T2 r1 r2 hA1 hA2 hB1 hB2 hD hD' k1 k2
  generalize ((a, b) : P2) = pp at *
  generalize ((c, d) : P2) = qq at *
  generalize ((e, f) : P2) = uu at *
  generalize ((g, h) : P2) = vv at *
  rcases sign_cases' A1 with ⟨h1, z1, n1⟩ | ⟨h1, z1, n1⟩ | ⟨h1, z1, n1⟩ <;> rcases sign_cases' A2 with ⟨h2, z2, n2⟩ | ⟨h2, z2, n2⟩ | ⟨h2, z2, n2⟩ <;> rcases sign_cases' B1 with ⟨h3, z3, n3⟩ | ⟨h3, z3, n3⟩ | ⟨h3, z3, n3⟩ <;> rcases sign_cases' B2 with ⟨h4, z4, n4⟩ | ⟨h4, z4, n4⟩ | ⟨h4, z4, n4⟩ <;> first
    | (exfalso; clear E1 E2 E3 E4 F1 F2 F3 F4 n1 n2 n3 n4; omega)
    | (rw [h1, h2, h3, h4]
       simp only [n1, n2, n3, n4, and_false, and_true, false_and, true_and] at E1 E2 E3 E4 F1 F2 F3 F4 ⊢
       simp [E1, E2, E3, E4, F1, F2, F3, F4])

theorem meet_eq {a b c d e f g h : Int} (k1 : okS a b c d = true) (k2 : okS e f g h = true) : meetR a b c d e f g h = meetI a b c d e f g h := by
  obtain ⟨_, _, hs⟩ := okS_iff.1 k1
  obtain ⟨_, _, ht⟩ := okS_iff.1 k2
  by_cases hD : (c - a) * (h - f) - (d - b) * (g - e) = 0
  · by_cases hA : (c - a) * (f - b) - (d - b) * (e - a) = 0
    · exact meet_line k1 k2 hA (by grind)
    · exact meet_par ht hs hD hA
  · exact meet_skew ht hs hD

/-! turning the ends round, exchanging the segments -/
theorem cross_rev (a b c d p q : Int) : (a - c) * (q - d) - (b - d) * (p - c) = -((c - a) * (q - b) - (d - b) * (p - a)) := by grind
theorem turnI_rev (a b c d p q : Int) : turnI c d a b p q = - turnI a b c d p q := by rw [turnI_sign, turnI_sign, cross_rev, Int.sign_neg]
theorem onR_rev (p q a b c d : Int) : onR p q c d a b = onR p q a b c d := by
  rw [Bool.eq_iff_iff]
  simp only [onR, btwB, Bool.and_eq_true, beq_iff_eq, decide_eq_true_eq]
  rw [turnI_rev a b c d]
  omega
theorem collin_comm {a b c d e f g h : Int} (k1 : ¬ (a = c ∧ b = d)) (h1 : turnI a b c d e f = 0) (h2 : turnI a b c d g h = 0) : turnI e f g h a b = 0 ∧ turnI e f g h c d = 0 := by
  rw [turnI_sign, Int.sign_eq_zero_iff_zero] at h1 h2
  have hD : (g - e) * (d - b) - (h - f) * (c - a) = 0 := by grind
  have hB1 : (g - e) * (b - f) - (h - f) * (a - e) = 0 := par_trans (dx := g - e) (dy := h - f) (x := c - a) (y := d - b) (ux := a - e) (uy := b - f) (by omega) hD (by grind)
  have hB2 : (g - e) * (d - f) - (h - f) * (c - e) = 0 := by grind
  rw [turnI_sign, turnI_sign, hB1, hB2]; exact ⟨rfl, rfl⟩
theorem fkey2 {a b c d : Int} (hb : 0 ≤ b ∧ b ≤ 10000) (hd : 0 ≤ d ∧ d ≤ 10000) : kap (f1 c d a b) (f2 c d a b) = kap (f1 a b c d) (f2 a b c d) ∧ kap (f3 c d a b) (f4 c d a b) = kap (f3 a b c d) (f4 a b c d) := by
  rw [(f_key hb hd).1, (f_key hb hd).2, (f_key hd hb).1, (f_key hd hb).2]; omega
theorem onLine_f {a b c d e f g h : Int} (k1 : okS a b c d = true) (k2 : okS e f g h = true) :
    onLineI (f1 a b c d) (f2 a b c d) (f3 a b c d) (f4 a b c d) (f1 e f g h) (f2 e f g h) (f3 e f g h) (f4 e f g h) =
      (if max (min (kap a b) (kap c d)) (min (kap e f) (kap g h)) < min (max (kap a b) (kap c d)) (max (kap e f) (kap g h)) then 4 else if max (min (kap a b) (kap c d)) (min (kap e f) (kap g h)) = min (max (kap a b) (kap c d)) (max (kap e f) (kap g h)) then 1 else 0) := by
  obtain ⟨⟨ha, hb⟩, ⟨hc, hd⟩, hs⟩ := okS_iff.1 k1
  obtain ⟨⟨he, hf⟩, ⟨hg, hh⟩, ht⟩ := okS_iff.1 k2
  have fb := f_bd 0 10000 a b c d ha hb hc hd
  have fb' := f_bd 0 10000 e f g h he hf hg hh
  rw [onLine_key fb.2.1 fb.2.2.2 fb'.2.1 fb'.2.2.2, (f_key hb hd).1, (f_key hb hd).2, (f_key hf hh).1, (f_key hf hh).2]
theorem okS_swap (a b c d : Int) : okS c d a b = okS a b c d := by
  rw [Bool.eq_iff_iff, okS_iff, okS_iff]; omega
theorem meetI_comm {a b c d e f g h : Int} (k1 : okS a b c d = true) (k2 : okS e f g h = true) : meetI e f g h a b c d = meetI a b c d e f g h := by
  have hs := (okS_iff.1 k1).2.2
  have ht := (okS_iff.1 k2).2.2
  unfold meetI
  by_cases h1 : turnI a b c d e f = 0 ∧ turnI a b c d g h = 0
  · rw [if_pos (collin_comm hs h1.1 h1.2), if_pos h1, onLine_f k2 k1, onLine_f k1 k2, Int.max_comm (min (kap e f) _), Int.min_comm (max (kap e f) _)]
  · have h2 : ¬ (turnI e f g h a b = 0 ∧ turnI e f g h c d = 0) := fun hh => h1 (collin_comm ht hh.1 hh.2)
    rw [if_neg h1, if_neg h2]
    simp only [or_comm (a := 0 < turnI e f g h a b * turnI e f g h c d), and_comm (a := turnI e f g h a b * turnI e f g h c d = 0), or_comm (a := turnI e f g h a b * turnI e f g h c d = 0)]
theorem meetI_rev {a b c d e f g h : Int} (k1 : okS a b c d = true) (k2 : okS e f g h = true) : meetI a b c d g h e f = meetI a b c d e f g h := by
  have k3 : okS g h e f = true := by rw [okS_swap]; exact k2
  unfold meetI
  by_cases h1 : turnI a b c d e f = 0 ∧ turnI a b c d g h = 0
  · rw [if_pos ⟨h1.2, h1.1⟩, if_pos h1, onLine_f k1 k3, onLine_f k1 k2, Int.max_comm (kap g h), Int.min_comm (kap g h)]
  · have h2 : ¬ (turnI a b c d g h = 0 ∧ turnI a b c d e f = 0) := fun hh => h1 ⟨hh.2, hh.1⟩
    rw [if_neg h1, if_neg h2, Int.mul_comm (turnI a b c d g h), turnI_rev e f g h a b, turnI_rev e f g h c d, Int.neg_mul_neg]
theorem meetI_rev1 {a b c d e f g h : Int} (k1 : okS a b c d = true) (k2 : okS e f g h = true) : meetI c d a b e f g h = meetI a b c d e f g h := by
  have k3 : okS c d a b = true := by rw [okS_swap]; exact k1
  rw [← meetI_comm k3 k2, meetI_rev k2 k1, meetI_comm k1 k2]

/-! the one point that is an end -/
def cEnd (a b c d e f g h : Int) : P2 := if onR a b e f g h then (a, b) else if onR c d e f g h then (c, d) else if onR e f a b c d then (e, f) else (g, h)
theorem meetOf_end {l : List P2} {a b c d e f g h : Int} (hk : meetOf l a b c d e f g h = 1 ∨ meetOf l a b c d e f g h = 2) : ∃ p, l = [p] := by
  unfold meetOf at hk
  match l, hk with
  | [], hk => simp only at hk; split at hk <;> omega
  | [p], _ => exact ⟨p, rfl⟩
  | _ :: _ :: _, hk => simp at hk
theorem ends_mem {a b c d e f g h : Int} (k1 : ¬ (a = c ∧ b = d)) (k2 : ¬ (e = g ∧ f = h)) (p : P2) (hp : p = (a, b) ∨ p = (c, d) ∨ p = (e, f) ∨ p = (g, h)) (hb : bothB a b c d e f g h p = true) : p ∈ endsL a b c d e f g h := by
  rw [endsL_parts rfl rfl rfl rfl (by simpa using k1) (by simpa using k2)]
  simp only [bothB, Bool.and_eq_true] at hb
  have m1 : p = (a, b) → p ∈ (if onR a b e f g h = true then [(a, b)] else []) := by
    rintro rfl; rw [if_pos hb.2]; simp
  have m2 : p = (c, d) → p ∈ (if onR c d e f g h = true then [(c, d)] else []) := by
    rintro rfl; rw [if_pos hb.2]; simp
  simp only [List.mem_append]
  by_cases e1 : p = (a, b)
  · exact .inl (.inl (.inl (m1 e1)))
  · by_cases e2 : p = (c, d)
    · exact .inl (.inl (.inr (m2 e2)))
    · rcases hp with h1 | h1 | h1 | h1
      · exact absurd h1 e1
      · exact absurd h1 e2
      · subst h1
        refine .inl (.inr ?_)
        have n1 : (((e, f) : P2) == (a, b)) = false := by simpa using e1
        have n2 : (((e, f) : P2) == (c, d)) = false := by simpa using e2
        rw [n1, n2, hb.1]; simp
      · subst h1
        refine .inr ?_
        have n1 : (((g, h) : P2) == (a, b)) = false := by simpa using e1
        have n2 : (((g, h) : P2) == (c, d)) = false := by simpa using e2
        rw [n1, n2, hb.1]; simp
theorem ends_sub {a b c d e f g h : Int} (k1 : ¬ (a = c ∧ b = d)) (k2 : ¬ (e = g ∧ f = h)) (p : P2) (hp : p ∈ endsL a b c d e f g h) : (p = (a, b) ∨ p = (c, d) ∨ p = (e, f) ∨ p = (g, h)) ∧ bothB a b c d e f g h p = true := by
  rw [endsL_parts rfl rfl rfl rfl (by simpa using k1) (by simpa using k2)] at hp
  simp only [List.mem_append, or_assoc] at hp
  rcases hp with h1 | h1 | h1 | h1
  · split at h1
    · rename_i hh; simp at h1; subst h1; exact ⟨.inl rfl, by simp [bothB, onR_A, hh]⟩
    · simp at h1
  · split at h1
    · rename_i hh; simp at h1; subst h1; exact ⟨.inr (.inl rfl), by simp [bothB, onR_B, hh]⟩
    · simp at h1
  · split at h1
    · rename_i hh; simp at h1; subst h1; simp only [Bool.and_eq_true] at hh; exact ⟨.inr (.inr (.inl rfl)), by simp [bothB, onR_A, hh.1.1]⟩
    · simp at h1
  · split at h1
    · rename_i hh; simp at h1; subst h1; simp only [Bool.and_eq_true] at hh; exact ⟨.inr (.inr (.inr rfl)), by simp [bothB, onR_B, hh.1.1]⟩
    · simp at h1
/-- where both have just one such point it is cEnd -/
theorem cEnd_one {a b c d e f g h : Int} (k1 : okS a b c d = true) (k2 : okS e f g h = true) (hk : meetI a b c d e f g h = 1 ∨ meetI a b c d e f g h = 2) : endsL a b c d e f g h = [cEnd a b c d e f g h] := by
  rw [← meet_eq k1 k2, meetR] at hk
  obtain ⟨p, hp⟩ := meetOf_end hk
  have hs := (okS_iff.1 k1).2.2
  have ht := (okS_iff.1 k2).2.2
  have sub := ends_sub hs ht p (by rw [hp]; simp)
  have one : ∀ q : P2, (q = (a, b) ∨ q = (c, d) ∨ q = (e, f) ∨ q = (g, h)) → bothB a b c d e f g h q = true → q = p := fun q h1 h2 => by
    have := ends_mem hs ht q h1 h2; rw [hp] at this; simpa using this
  rw [hp, cEnd]
  congr 1
  by_cases s1 : onR a b e f g h = true
  · rw [if_pos s1]; exact (one _ (.inl rfl) (by simp [bothB, onR_A, s1])).symm
  · by_cases s2 : onR c d e f g h = true
    · rw [if_neg s1, if_pos s2]; exact (one _ (.inr (.inl rfl)) (by simp [bothB, onR_B, s2])).symm
    · by_cases s3 : onR e f a b c d = true
      · rw [if_neg s1, if_neg s2, if_pos s3]; exact (one _ (.inr (.inr (.inl rfl))) (by simp [bothB, onR_A, s3])).symm
      · rw [if_neg s1, if_neg s2, if_neg s3]
        obtain ⟨h1, h2⟩ := sub
        simp only [bothB, Bool.and_eq_true] at h2
        rcases h1 with rfl | rfl | rfl | rfl
        · exact absurd h2.2 s1
        · exact absurd h2.2 s2
        · exact absurd h2.1 s3
        · rfl
theorem bothB_turn (a b c d e f g h : Int) (p : P2) : bothB g h e f a b c d p = bothB a b c d e f g h p := by
  unfold bothB; rw [onR_rev p.1 p.2 e f g h, Bool.and_comm]
theorem cEnd_turn {a b c d e f g h : Int} (k1 : okS a b c d = true) (k2 : okS e f g h = true) (hk : meetI a b c d e f g h = 1 ∨ meetI a b c d e f g h = 2) : cEnd g h e f a b c d = cEnd a b c d e f g h := by
  have k3 : okS g h e f = true := by rw [okS_swap]; exact k2
  have he := cEnd_one k1 k2 hk
  have hk' : meetI g h e f a b c d = 1 ∨ meetI g h e f a b c d = 2 := by rw [meetI_rev1 k2 k1, meetI_comm k1 k2]; exact hk
  have he' := cEnd_one k3 k1 hk'
  have hs := (okS_iff.1 k1).2.2
  have ht := (okS_iff.1 k2).2.2
  have ht' := (okS_iff.1 k3).2.2
  have sub := ends_sub ht' hs (cEnd g h e f a b c d) (by rw [he']; simp)
  have := ends_mem hs ht (cEnd g h e f a b c d) (by rcases sub.1 with x | x | x | x <;> simp [x]) (by rw [← bothB_turn]; exact sub.2)
  rw [he] at this
  simpa using this

/-! which of two segments is above -/
def Fd (a b c d e f g h m : Int) : Int := (b * (2 * (c - a)) + (d - b) * (m - 2 * a)) * (2 * (g - e)) - (f * (2 * (g - e)) + (h - f) * (m - 2 * e)) * (2 * (c - a))
theorem Fd_lin (a b c d e f g h m n : Int) : Fd a b c d e f g h n = Fd a b c d e f g h m + (2 * ((d - b) * (g - e) - (h - f) * (c - a))) * (n - m) := by unfold Fd; grind
theorem Fd_e (a b c d e f g h : Int) : Fd a b c d e f g h (2 * e) = (g - e) * (-4 * ((c - a) * (f - b) - (d - b) * (e - a))) := by unfold Fd; grind
theorem Fd_g (a b c d e f g h : Int) : Fd a b c d e f g h (2 * g) = (g - e) * (-4 * ((c - a) * (h - b) - (d - b) * (g - a))) := by unfold Fd; grind
theorem Fd_a (a b c d e f g h : Int) : Fd a b c d e f g h (2 * a) = (c - a) * (4 * ((g - e) * (b - f) - (h - f) * (a - e))) := by unfold Fd; grind
theorem Fd_c (a b c d e f g h : Int) : Fd a b c d e f g h (2 * c) = (c - a) * (4 * ((g - e) * (d - f) - (h - f) * (c - e))) := by unfold Fd; grind
theorem pos_of_mul {x y : Int} (hx : 0 < x) (h : 0 < x * y) : 0 < y := by
  rcases Int.lt_trichotomy y 0 with k | k | k
  · have := Int.mul_nonneg (a := x) (b := -y) (by omega) (by omega); rw [Int.mul_neg] at this; omega
  · rw [k, Int.mul_zero] at h; omega
  · exact k
theorem neg_of_mul {x y : Int} (hx : 0 < x) (h : x * y < 0) : y < 0 := by
  have h2 : 0 < x * (-y) := by rw [Int.mul_neg]; omega
  have := pos_of_mul hx h2; omega
theorem zero_of_mul {x y : Int} (hx : 0 < x) (h : x * y = 0) : y = 0 := by
  rcases Int.mul_eq_zero.1 h with k | k <;> omega
theorem mul_np {x y : Int} (hx : x ≤ 0) (hy : y ≤ 0) : 0 ≤ x * y := Int.mul_nonneg_of_nonpos_of_nonpos hx hy
theorem mul_pn {x y : Int} (hx : x ≤ 0) (hy : 0 ≤ y) : x * y ≤ 0 := Int.mul_nonpos_of_nonpos_of_nonneg hx hy

section
variable {a b c d e f g h u v : Int}
theorem Fd_dec (hac : a < c) (heg : e < g) (ha : a ≤ u) (he : e ≤ u) (hc : v ≤ c) (hg : v ≤ g) (huv : u < v) (h1 : 0 < Fd a b c d e f g h (2 * u)) (h2 : Fd a b c d e f g h (2 * v) < 0) :
    ((c - a) * (f - b) - (d - b) * (e - a) < 0 ∧ 0 < (c - a) * (h - b) - (d - b) * (g - a)) ∧ (0 < (g - e) * (b - f) - (h - f) * (a - e) ∧ (g - e) * (d - f) - (h - f) * (c - e) < 0) := by
  have l1 := Fd_lin a b c d e f g h (2 * u) (2 * v)
  have l2 := Fd_lin a b c d e f g h (2 * u) (2 * a)
  have l3 := Fd_lin a b c d e f g h (2 * u) (2 * e)
  have l4 := Fd_lin a b c d e f g h (2 * v) (2 * c)
  have l5 := Fd_lin a b c d e f g h (2 * v) (2 * g)
  have k1 := Fd_e a b c d e f g h
  have k2 := Fd_g a b c d e f g h
  have k3 := Fd_a a b c d e f g h
  have k4 := Fd_c a b c d e f g h
  generalize 2 * ((d - b) * (g - e) - (h - f) * (c - a)) = B at *
  have hB : B < 0 := neg_of_mul (x := 2 * v - 2 * u) (by omega) (by rw [Int.mul_comm]; omega)
  have m1 := mul_np (x := B) (y := 2 * a - 2 * u) (by omega) (by omega)
  have m2 := mul_np (x := B) (y := 2 * e - 2 * u) (by omega) (by omega)
  have m3 := mul_pn (x := B) (y := 2 * c - 2 * v) (by omega) (by omega)
  have m4 := mul_pn (x := B) (y := 2 * g - 2 * v) (by omega) (by omega)
  have r1 := pos_of_mul (x := g - e) (by omega) (show 0 < _ by rw [← k1]; omega)
  have r2 := neg_of_mul (x := g - e) (by omega) (show _ < 0 by rw [← k2]; omega)
  have r3 := pos_of_mul (x := c - a) (by omega) (show 0 < _ by rw [← k3]; omega)
  have r4 := neg_of_mul (x := c - a) (by omega) (show _ < 0 by rw [← k4]; omega)
  omega
theorem Fd_inc (hac : a < c) (heg : e < g) (ha : a ≤ u) (he : e ≤ u) (hc : v ≤ c) (hg : v ≤ g) (huv : u < v) (h1 : Fd a b c d e f g h (2 * u) < 0) (h2 : 0 < Fd a b c d e f g h (2 * v)) :
    (0 < (c - a) * (f - b) - (d - b) * (e - a) ∧ (c - a) * (h - b) - (d - b) * (g - a) < 0) ∧ ((g - e) * (b - f) - (h - f) * (a - e) < 0 ∧ 0 < (g - e) * (d - f) - (h - f) * (c - e)) := by
  have l1 := Fd_lin a b c d e f g h (2 * u) (2 * v)
  have l2 := Fd_lin a b c d e f g h (2 * u) (2 * a)
  have l3 := Fd_lin a b c d e f g h (2 * u) (2 * e)
  have l4 := Fd_lin a b c d e f g h (2 * v) (2 * c)
  have l5 := Fd_lin a b c d e f g h (2 * v) (2 * g)
  have k1 := Fd_e a b c d e f g h
  have k2 := Fd_g a b c d e f g h
  have k3 := Fd_a a b c d e f g h
  have k4 := Fd_c a b c d e f g h
  generalize 2 * ((d - b) * (g - e) - (h - f) * (c - a)) = B at *
  have hB : 0 < B := pos_of_mul (x := 2 * v - 2 * u) (by omega) (by rw [Int.mul_comm]; omega)
  have m1 := mul_pn (y := B) (x := 2 * a - 2 * u) (by omega) (by omega)
  have m2 := mul_pn (y := B) (x := 2 * e - 2 * u) (by omega) (by omega)
  have m3 := Int.mul_nonneg (a := B) (b := 2 * c - 2 * v) (by omega) (by omega)
  have m4 := Int.mul_nonneg (a := B) (b := 2 * g - 2 * v) (by omega) (by omega)
  rw [Int.mul_comm] at m1 m2
  have r1 := neg_of_mul (x := g - e) (by omega) (show _ < 0 by rw [← k1]; omega)
  have r2 := pos_of_mul (x := g - e) (by omega) (show 0 < _ by rw [← k2]; omega)
  have r3 := neg_of_mul (x := c - a) (by omega) (show _ < 0 by rw [← k3]; omega)
  have r4 := pos_of_mul (x := c - a) (by omega) (show 0 < _ by rw [← k4]; omega)
  omega
theorem Fd_nil (hac : a < c) (heg : e < g) (huv : u < v) (h1 : Fd a b c d e f g h (2 * u) = 0) (h2 : Fd a b c d e f g h (2 * v) = 0) :
    (c - a) * (f - b) - (d - b) * (e - a) = 0 ∧ (c - a) * (h - b) - (d - b) * (g - a) = 0 := by
  have l1 := Fd_lin a b c d e f g h (2 * u) (2 * v)
  have l3 := Fd_lin a b c d e f g h (2 * u) (2 * e)
  have l5 := Fd_lin a b c d e f g h (2 * v) (2 * g)
  have k1 := Fd_e a b c d e f g h
  have k2 := Fd_g a b c d e f g h
  generalize 2 * ((d - b) * (g - e) - (h - f) * (c - a)) = B at *
  have hB : B = 0 := zero_of_mul (x := 2 * v - 2 * u) (by omega) (by rw [Int.mul_comm]; omega)
  rw [hB, Int.zero_mul] at l3 l5
  have r1 := zero_of_mul (x := g - e) (by omega) (show _ = 0 by rw [← k1]; omega)
  have r2 := zero_of_mul (x := g - e) (by omega) (show _ = 0 by rw [← k2]; omega)
  omega
end

def aFrom (a b c d e f g h : Int) : Int := max (f1 a b c d) (f1 e f g h)
def aTo (a b c d e f g h : Int) : Int := min (f3 a b c d) (f3 e f g h)
def aCmp (a b c d e f g h m : Int) : Int := cmpR (hN a b c d m) (hW a b c d) (hN e f g h m) (hW e f g h)
def aOk (a b c d e f g h : Int) : Bool := okS a b c d && okS e f g h && decide (aFrom a b c d e f g h < aTo a b c d e f g h) && !(meetI a b c d e f g h == 3 || meetI a b c d e f g h == 4)
def aVal (a b c d e f g h : Int) : Int := if aCmp a b c d e f g h (2 * aFrom a b c d e f g h) ≠ 0 then aCmp a b c d e f g h (2 * aFrom a b c d e f g h) else aCmp a b c d e f g h (2 * aTo a b c d e f g h)
def aN (a b c d e f g h : Int) : Int := if aOk a b c d e f g h = true then aVal a b c d e f g h else 0
theorem f_minmax (a b c d : Int) : f1 a b c d = min a c ∧ f3 a b c d = max a c := by
  unfold f1 f3
  by_cases hl : 0 < orI (cmpI a c) (cmpI b d)
  · have : ¬ (a < c ∨ (a = c ∧ b ≤ d)) := by rw [← orI_le]; omega
    rw [if_pos hl, if_pos hl]; omega
  · have : a < c ∨ (a = c ∧ b ≤ d) := by rw [← orI_le]; omega
    rw [if_neg hl, if_neg hl]; omega
theorem cmpI_zero (x : Int) : cmpI x 0 = Int.sign x := by
  unfold cmpI
  rcases sign_cases x with ⟨h, k⟩ | ⟨h, k⟩ | ⟨h, k⟩
  · rw [if_pos k, h]
  · rw [k]; rfl
  · rw [if_neg (by omega), if_pos k, h]
theorem aCmp_sign (a b c d e f g h m : Int) : aCmp a b c d e f g h m = Int.sign (Fd (f1 a b c d) (f2 a b c d) (f3 a b c d) (f4 a b c d) (f1 e f g h) (f2 e f g h) (f3 e f g h) (f4 e f g h) m) := by
  unfold aCmp cmpR
  rw [← cmpI_sub, cmpI_zero]
  rfl
theorem meetI_f {a b c d e f g h : Int} (k1 : okS a b c d = true) (k2 : okS e f g h = true) : meetI (f1 a b c d) (f2 a b c d) (f3 a b c d) (f4 a b c d) (f1 e f g h) (f2 e f g h) (f3 e f g h) (f4 e f g h) = meetI a b c d e f g h := by
  have k1' : okS c d a b = true := by rw [okS_swap]; exact k1
  have k2' : okS g h e f = true := by rw [okS_swap]; exact k2
  by_cases h1 : 0 < orI (cmpI a c) (cmpI b d) <;> by_cases h2 : 0 < orI (cmpI e g) (cmpI f h)
  · simp only [f1, f2, f3, f4, if_pos h1, if_pos h2]; rw [meetI_rev k1' k2, meetI_rev1 k1 k2]
  · simp only [f1, f2, f3, f4, if_pos h1, if_neg h2]; rw [meetI_rev1 k1 k2]
  · simp only [f1, f2, f3, f4, if_neg h1, if_pos h2]; rw [meetI_rev k1 k2]
  · simp only [f1, f2, f3, f4, if_neg h1, if_neg h2]
theorem okS_f {a b c d : Int} (k1 : okS a b c d = true) : okS (f1 a b c d) (f2 a b c d) (f3 a b c d) (f4 a b c d) = true := by
  by_cases h1 : 0 < orI (cmpI a c) (cmpI b d)
  · simp only [f1, f2, f3, f4, if_pos h1]; rw [okS_swap]; exact k1
  · simp only [f1, f2, f3, f4, if_neg h1]; exact k1

/-- ascending segments: what they say at the two ends of what both have goes together -/
theorem Fd_ends {a b c d e f g h : Int} (k1 : okS a b c d = true) (k2 : okS e f g h = true) (hac : a < c) (heg : e < g) (huv : max a e < min c g) (hk : meetI a b c d e f g h ≠ 3 ∧ meetI a b c d e f g h ≠ 4) :
    ¬ (0 < Fd a b c d e f g h (2 * max a e) ∧ Fd a b c d e f g h (2 * min c g) < 0) ∧ ¬ (Fd a b c d e f g h (2 * max a e) < 0 ∧ 0 < Fd a b c d e f g h (2 * min c g)) ∧ ¬ (Fd a b c d e f g h (2 * max a e) = 0 ∧ Fd a b c d e f g h (2 * min c g) = 0) := by
  obtain ⟨⟨ha, hb⟩, ⟨hc, hd⟩, hs⟩ := okS_iff.1 k1
  obtain ⟨⟨he, hf⟩, ⟨hg, hh⟩, ht⟩ := okS_iff.1 k2
  refine ⟨?_, ?_, ?_⟩
  · rintro ⟨h1, h2⟩
    obtain ⟨⟨r1, r2⟩, r3, r4⟩ := Fd_dec hac heg (Int.le_max_left a e) (Int.le_max_right a e) (Int.min_le_left c g) (Int.min_le_right c g) huv h1 h2
    apply hk.1
    unfold meetI
    rw [turnI_sign, turnI_sign, turnI_sign, turnI_sign, Int.sign_eq_neg_one_of_neg r1, Int.sign_eq_one_of_pos r2, Int.sign_eq_one_of_pos r3, Int.sign_eq_neg_one_of_neg r4]
    simp
  · rintro ⟨h1, h2⟩
    obtain ⟨⟨r1, r2⟩, r3, r4⟩ := Fd_inc hac heg (Int.le_max_left a e) (Int.le_max_right a e) (Int.min_le_left c g) (Int.min_le_right c g) huv h1 h2
    apply hk.1
    unfold meetI
    rw [turnI_sign, turnI_sign, turnI_sign, turnI_sign, Int.sign_eq_one_of_pos r1, Int.sign_eq_neg_one_of_neg r2, Int.sign_eq_neg_one_of_neg r3, Int.sign_eq_one_of_pos r4]
    simp
  · rintro ⟨h1, h2⟩
    obtain ⟨r1, r2⟩ := Fd_nil hac heg huv h1 h2
    apply hk.2
    have t1 : turnI a b c d e f = 0 := by rw [turnI_sign, r1]; rfl
    have t2 : turnI a b c d g h = 0 := by rw [turnI_sign, r2]; rfl
    unfold meetI
    rw [if_pos ⟨t1, t2⟩, onLine_f k1 k2, if_pos (by unfold kap; omega)]

/-- the middle says what the ends say -/
theorem aCmp_mid {a b c d e f g h : Int} (ho : aOk a b c d e f g h = true) : aCmp a b c d e f g h (aFrom a b c d e f g h + aTo a b c d e f g h) = aVal a b c d e f g h ∧ aVal a b c d e f g h ≠ 0 := by
  simp only [aOk, Bool.and_eq_true, decide_eq_true_eq, Bool.not_eq_true', Bool.or_eq_false_iff, beq_eq_false_iff_ne] at ho
  obtain ⟨⟨⟨k1, k2⟩, h1⟩, h2⟩ := ho
  unfold aVal
  rw [aCmp_sign, aCmp_sign, aCmp_sign]
  rw [← meetI_f k1 k2] at h2
  have p1 := okS_f k1
  have p2 := okS_f k2
  have hm : f1 a b c d ≤ f3 a b c d ∧ f1 e f g h ≤ f3 e f g h := by
    obtain ⟨x1, x2⟩ := f_minmax a b c d
    obtain ⟨x3, x4⟩ := f_minmax e f g h
    omega
  unfold aFrom aTo at *
  generalize f1 a b c d = A at *
  generalize f2 a b c d = B at *
  generalize f3 a b c d = C at *
  generalize f4 a b c d = D at *
  generalize f1 e f g h = E at *
  generalize f2 e f g h = F at *
  generalize f3 e f g h = G at *
  generalize f4 e f g h = H at *
  obtain ⟨n1, n2, n3⟩ := Fd_ends p1 p2 (by omega) (by omega) h1 h2
  have l1 := Fd_lin A B C D E F G H (2 * max A E) (max A E + min C G)
  have l2 := Fd_lin A B C D E F G H (max A E + min C G) (2 * min C G)
  have l3 : (2 * ((D - B) * (G - E) - (H - F) * (C - A))) * (max A E + min C G - 2 * max A E) = (2 * ((D - B) * (G - E) - (H - F) * (C - A))) * (2 * min C G - (max A E + min C G)) := by
    congr 1; omega
  rw [l3] at l1
  generalize (2 * ((D - B) * (G - E) - (H - F) * (C - A))) * (2 * min C G - (max A E + min C G)) = Z at *
  generalize Fd A B C D E F G H (2 * max A E) = X at *
  generalize Fd A B C D E F G H (2 * min C G) = Y at *
  generalize Fd A B C D E F G H (max A E + min C G) = M at *
  rcases sign_cases X with ⟨s1, z1⟩ | ⟨s1, z1⟩ | ⟨s1, z1⟩ <;> rcases sign_cases Y with ⟨s2, z2⟩ | ⟨s2, z2⟩ | ⟨s2, z2⟩ <;> rcases sign_cases M with ⟨s3, z3⟩ | ⟨s3, z3⟩ | ⟨s3, z3⟩ <;> first
    | (exfalso; omega)
    | (rw [s1, s2, s3]; decide)

theorem aCmp_swap (a b c d e f g h m : Int) : aCmp e f g h a b c d m = - aCmp a b c d e f g h m := by
  rw [aCmp_sign, aCmp_sign, ← Int.sign_neg]; congr 1; unfold Fd; omega
theorem aOk_swap (a b c d e f g h : Int) : aOk e f g h a b c d = aOk a b c d e f g h := by
  unfold aOk
  by_cases k1 : okS a b c d = true
  · by_cases k2 : okS e f g h = true
    · rw [k1, k2, meetI_comm k1 k2]
      unfold aFrom aTo
      rw [Int.max_comm, Int.min_comm]
    · simp [k2]
  · simp [k1]
theorem aN_swap (a b c d e f g h : Int) : aN e f g h a b c d = - aN a b c d e f g h := by
  unfold aN
  rw [aOk_swap]
  split
  · unfold aVal
    rw [aCmp_swap a b c d e f g h (2 * aFrom e f g h a b c d), aCmp_swap a b c d e f g h (2 * aTo e f g h a b c d), show aFrom e f g h a b c d = aFrom a b c d e f g h from Int.max_comm _ _, show aTo e f g h a b c d = aTo a b c d e f g h from Int.min_comm _ _]
    split <;> split <;> omega
  · rfl

end Go.Proofs.YtpdfbboagaflhaaGreat
