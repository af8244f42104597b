/- The doubled area as the reference reckons it. -/
import Derived.Test.YtpdfbboagaflhaaGreatM50
import Derived.Test.YtpdfbboagaflhaaGreatM16
import Derived.Test.YtpdfbboagaflhaaGreatM15
import Derived.Test.YtpdfbboagaflhaaGreatM21
import Derived.Deep.RegionHeld3
import Derived.Deep.RegionWith
import Derived.BigRegion
import Derived.LoopTactic
import Derived.Deep.AppendLies
import Derived.Deep.RegionLaw
import Derived.Test.YtpdfbboagaflhaaGreatM51
import Derived.Deep.SlicePairs
import Derived.Carry
import Derived.Test.YtpdfbboagaflhaaGreatM05

set_option linter.unusedSimpArgs false
set_option linter.unusedVariables false
namespace Go.Proofs.YtpdfbboagaflhaaGreat
open Go.RowKit

/-! signs -/
theorem turnI_sign (a b c d p q : Int) : turnI a b c d p q = Int.sign ((c - a) * (q - b) - (d - b) * (p - a)) := by
  unfold turnI; rw [← cmpI_sub]; unfold cmpI
  rcases Int.lt_trichotomy ((c - a) * (q - b) - (d - b) * (p - a)) 0 with h | h | h
  · rw [if_pos h, Int.sign_eq_neg_one_of_neg h]
  · rw [h]; rfl
  · rw [if_neg (by omega), if_pos h, Int.sign_eq_one_of_pos h]
theorem sign_cases (x : Int) : (Int.sign x = -1 ∧ x < 0) ∨ (Int.sign x = 0 ∧ x = 0) ∨ (Int.sign x = 1 ∧ 0 < x) := by
  rcases Int.lt_trichotomy x 0 with h | h | h
  · exact .inl ⟨Int.sign_eq_neg_one_of_neg h, h⟩
  · exact .inr (.inl ⟨by rw [h]; rfl, h⟩)
  · exact .inr (.inr ⟨Int.sign_eq_one_of_pos h, h⟩)
theorem btw_sign (e a c : Int) : (min a c ≤ e ∧ e ≤ max a c) ↔ Int.sign (a - e) * Int.sign (c - e) ≤ 0 := by
  rcases sign_cases (a - e) with ⟨h, k⟩ | ⟨h, k⟩ | ⟨h, k⟩ <;> rcases sign_cases (c - e) with ⟨h', k'⟩ | ⟨h', k'⟩ | ⟨h', k'⟩ <;> rw [h, h'] <;> omega
theorem sgn3 (s1 s2 ux vx uy vy dx dy D : Int) (hs1 : s1 = -1 ∨ s1 = 0 ∨ s1 = 1) (hs2 : s2 = -1 ∨ s2 = 0 ∨ s2 = 1) (hdx : dx = -1 ∨ dx = 0 ∨ dx = 1) (hdy : dy = -1 ∨ dy = 0 ∨ dy = 1) (hD : D = -1 ∨ D = 1)
    (h0 : ¬ (dx = 0 ∧ dy = 0)) (e1 : s1 * dx = -(ux * D)) (e2 : s2 * dx = -(vx * D)) (e3 : s1 * dy = -(uy * D)) (e4 : s2 * dy = -(vy * D)) : (ux * vx ≤ 0 ∧ uy * vy ≤ 0) ↔ s1 * s2 ≤ 0 := by
  have k1 : ux = -(s1 * dx * D) := by rcases hD with rfl | rfl <;> omega
  have k2 : vx = -(s2 * dx * D) := by rcases hD with rfl | rfl <;> omega
  have k3 : uy = -(s1 * dy * D) := by rcases hD with rfl | rfl <;> omega
  have k4 : vy = -(s2 * dy * D) := by rcases hD with rfl | rfl <;> omega
  subst k1; subst k2; subst k3; subst k4
  clear e1 e2 e3 e4
  rcases hs1 with rfl | rfl | rfl <;> rcases hs2 with rfl | rfl | rfl <;> rcases hdx with rfl | rfl | rfl <;> rcases hdy with rfl | rfl | rfl <;> rcases hD with rfl | rfl <;> first | (exfalso; omega) | omega

/-- a point p on the line of s: it lies on s if and only if the ends of s do not lie on one side of the line through p with the direction (x, y) -/
theorem onR_cross {a b c d p q x y : Int} (hD : (c - a) * y - (d - b) * x ≠ 0) (hA : (c - a) * (q - b) - (d - b) * (p - a) = 0) :
    (onR p q a b c d = true ↔ Int.sign (x * (b - q) - y * (a - p)) * Int.sign (x * (d - q) - y * (c - p)) ≤ 0) := by
  have hon : onR p q a b c d = true ↔ ((min a c ≤ p ∧ p ≤ max a c) ∧ (min b d ≤ q ∧ q ≤ max b d)) := by
    simp only [onR, btwB, Bool.and_eq_true, beq_iff_eq, decide_eq_true_eq, turnI_sign, hA]
    simp
  rw [hon, btw_sign, btw_sign]
  have e1 : (x * (b - q) - y * (a - p)) * (c - a) = -((a - p) * ((c - a) * y - (d - b) * x)) := by grind
  have e2 : (x * (d - q) - y * (c - p)) * (c - a) = -((c - p) * ((c - a) * y - (d - b) * x)) := by grind
  have e3 : (x * (b - q) - y * (a - p)) * (d - b) = -((b - q) * ((c - a) * y - (d - b) * x)) := by grind
  have e4 : (x * (d - q) - y * (c - p)) * (d - b) = -((d - q) * ((c - a) * y - (d - b) * x)) := by grind
  have g1 := congrArg Int.sign e1
  have g2 := congrArg Int.sign e2
  have g3 := congrArg Int.sign e3
  have g4 := congrArg Int.sign e4
  rw [Int.sign_neg, Int.sign_mul, Int.sign_mul] at g1 g2 g3 g4
  have tri : ∀ z : Int, Int.sign z = -1 ∨ Int.sign z = 0 ∨ Int.sign z = 1 := fun z => by rcases sign_cases z with h | h | h <;> omega
  refine sgn3 _ _ _ _ _ _ _ _ _ (tri _) (tri _) (tri _) (tri _) ?_ ?_ g1 g2 g3 g4
  · rcases sign_cases ((c - a) * y - (d - b) * x) with h | h | h <;> omega
  · rintro ⟨h1, h2⟩
    have h3 : c - a = 0 := by rcases sign_cases (c - a) with h | h | h <;> omega
    have h4 : d - b = 0 := by rcases sign_cases (d - b) with h | h | h <;> omega
    rw [h3, h4] at hD; simp at hD

theorem onR_off {a b c d p q : Int} (hA : (c - a) * (q - b) - (d - b) * (p - a) ≠ 0) : onR p q a b c d = false := by
  rw [Bool.eq_false_iff]; intro h
  simp only [onR, Bool.and_eq_true, beq_iff_eq, turnI_sign] at h
  rcases sign_cases ((c - a) * (q - b) - (d - b) * (p - a)) with k | k | k <;> omega

/-- the point of two lines -/
theorem line_pt {dx dy x y ux uy : Int} (hD : dx * y - dy * x ≠ 0) (h1 : dx * uy - dy * ux = 0) (h2 : x * uy - y * ux = 0) : ux = 0 ∧ uy = 0 := by
  have e1 : ux * (dx * y - dy * x) = 0 := by grind
  have e2 : uy * (dx * y - dy * x) = 0 := by grind
  rcases Int.mul_eq_zero.1 e1 with h | h
  · rcases Int.mul_eq_zero.1 e2 with k | k
    · exact ⟨h, k⟩
    · exact absurd k hD
  · exact absurd h hD
theorem par_trans {dx dy x y ux uy : Int} (h0 : ¬ (x = 0 ∧ y = 0)) (h1 : dx * y - dy * x = 0) (h2 : x * uy - y * ux = 0) : dx * uy - dy * ux = 0 := by
  have e1 : (dx * uy - dy * ux) * x = 0 := by grind
  have e2 : (dx * uy - dy * ux) * y = 0 := by grind
  rcases Int.mul_eq_zero.1 e1 with h | h
  · exact h
  · rcases Int.mul_eq_zero.1 e2 with k | k
    · exact k
    · exact absurd ⟨h, k⟩ h0

/-- the key by which points of one line are ordered -/
def kap (x y : Int) : Int := 10001 * x + y
theorem kap_cmp {x y x' y' : Int} (h : 0 ≤ y ∧ y ≤ 10000) (h' : 0 ≤ y' ∧ y' ≤ 10000) : orI (cmpI x x') (cmpI y y') = cmpI (kap x y) (kap x' y') := by
  unfold orI cmpI kap
  by_cases h1 : x < x'
  · rw [if_pos h1, if_pos (by omega), if_pos (by omega)]
  · by_cases h2 : x' < x
    · rw [if_neg h1, if_pos h2, if_pos (by omega), if_neg (by omega), if_pos (by omega)]
    · rw [if_neg h1, if_neg h2, if_neg (by omega)]
      by_cases h3 : y < y'
      · rw [if_pos h3, if_pos (by omega)]
      · by_cases h4 : y' < y
        · rw [if_neg h3, if_pos h4, if_neg (by omega), if_pos (by omega)]
        · rw [if_neg h3, if_neg h4, if_neg (by omega), if_neg (by omega)]
theorem kap_inj {x y x' y' : Int} (h : 0 ≤ y ∧ y ≤ 10000) (h' : 0 ≤ y' ∧ y' ≤ 10000) : kap x y = kap x' y' ↔ (x = x' ∧ y = y') := by unfold kap; omega

theorem onR_key {a b c d p q : Int} (hb : 0 ≤ b ∧ b ≤ 10000) (hd : 0 ≤ d ∧ d ≤ 10000) (hq : 0 ≤ q ∧ q ≤ 10000) (hA : (c - a) * (q - b) - (d - b) * (p - a) = 0) :
    (onR p q a b c d = true ↔ min (kap a b) (kap c d) ≤ kap p q ∧ kap p q ≤ max (kap a b) (kap c d)) := by
  have hon : onR p q a b c d = true ↔ ((min a c ≤ p ∧ p ≤ max a c) ∧ (min b d ≤ q ∧ q ≤ max b d)) := by
    simp only [onR, btwB, Bool.and_eq_true, beq_iff_eq, decide_eq_true_eq, turnI_sign, hA]
    simp
  rw [hon]
  by_cases hl : a < c ∨ (a = c ∧ b ≤ d)
  · rw [← on_asc hl (by omega)]
    unfold kap; omega
  · have e : (a - c) * (q - d) - (b - d) * (p - c) = 0 := by grind
    have := on_asc (a := c) (b := d) (c := a) (d := b) (p := p) (q := q) (by omega) (by omega)
    rw [show min a c = min c a by omega, show max a c = max c a by omega, show min b d = min d b by omega, show max b d = max d b by omega, ← this]
    unfold kap; omega

theorem f_key {a b c d : Int} (hb : 0 ≤ b ∧ b ≤ 10000) (hd : 0 ≤ d ∧ d ≤ 10000) : kap (f1 a b c d) (f2 a b c d) = min (kap a b) (kap c d) ∧ kap (f3 a b c d) (f4 a b c d) = max (kap a b) (kap c d) := by
  unfold f1 f2 f3 f4
  rw [kap_cmp hb hd]
  unfold cmpI
  by_cases h1 : kap a b < kap c d
  · simp [h1]; omega
  · by_cases h2 : kap c d < kap a b
    · simp [h1, h2]; omega
    · simp [h1, h2]; omega

theorem cmpI_lt (a b : Int) : cmpI a b < 0 ↔ a < b := by unfold cmpI; by_cases h1 : a < b <;> by_cases h2 : b < a <;> simp [h1, h2] <;> omega
theorem cmpI_gt (a b : Int) : 0 < cmpI a b ↔ b < a := by unfold cmpI; by_cases h1 : a < b <;> by_cases h2 : b < a <;> simp [h1, h2] <;> omega
theorem codeI_cmp (a b : Int) : codeI (cmpI a b) = if a < b then 4 else if a = b then 1 else 0 := by
  unfold codeI cmpI
  by_cases h1 : a < b
  · simp [h1]
  · by_cases h2 : b < a
    · have h3 : a ≠ b := by omega
      simp [h1, h2, h3]
    · have h3 : a = b := by omega
      simp [h3]
theorem onLine_key {a b c d e f g h : Int} (hb : 0 ≤ b ∧ b ≤ 10000) (hd : 0 ≤ d ∧ d ≤ 10000) (hf : 0 ≤ f ∧ f ≤ 10000) (hh : 0 ≤ h ∧ h ≤ 10000) :
    onLineI a b c d e f g h = (if max (kap a b) (kap e f) < min (kap c d) (kap g h) then 4 else if max (kap a b) (kap e f) = min (kap c d) (kap g h) then 1 else 0) := by
  unfold onLineI
  rw [kap_cmp hb hf, kap_cmp hd hh, kap_cmp hf hh, kap_cmp hf hd, kap_cmp hb hh, kap_cmp hb hd]
  simp only [cmpI_lt, cmpI_gt]
  by_cases h1 : kap a b < kap e f
  · by_cases h2 : kap g h < kap c d
    · rw [if_pos h1, if_pos h2, codeI_cmp, show max (kap a b) (kap e f) = kap e f by omega, show min (kap c d) (kap g h) = kap g h by omega]
    · rw [if_pos h1, if_neg h2, codeI_cmp, show max (kap a b) (kap e f) = kap e f by omega, show min (kap c d) (kap g h) = kap c d by omega]
  · by_cases h2 : kap g h < kap c d
    · rw [if_neg h1, if_pos h2, codeI_cmp, show max (kap a b) (kap e f) = kap a b by omega, show min (kap c d) (kap g h) = kap g h by omega]
    · rw [if_neg h1, if_neg h2, codeI_cmp, show max (kap a b) (kap e f) = kap a b by omega, show min (kap c d) (kap g h) = kap c d by omega]

/-! the ends that two segments share -/
def bothB (a b c d e f g h : Int) (p : P2) : Bool := onR p.1 p.2 a b c d && onR p.1 p.2 e f g h
def endStep (a b c d e f g h : Int) (out : List P2) (p : P2) : List P2 := if bothB a b c d e f g h p && !out.contains p then out ++ [p] else out
def endsL (a b c d e f g h : Int) : List P2 := [(a, b), (c, d), (e, f), (g, h)].foldl (endStep a b c d e f g h) []
def meetOf (l : List P2) (a b c d e f g h : Int) : Int :=
  match l with
  | [] => if turnI a b c d e f * turnI a b c d g h < 0 ∧ turnI e f g h a b * turnI e f g h c d < 0 then 3 else 0
  | [p] => if (p = (a, b) ∨ p = (c, d)) ∧ (p = (e, f) ∨ p = (g, h)) then 1 else 2
  | _ => 4
def meetR (a b c d e f g h : Int) : Int := meetOf (endsL a b c d e f g h) a b c d e f g h

theorem onR_A (a b c d : Int) : onR a b a b c d = true := by
  simp only [onR, btwB, Bool.and_eq_true, beq_iff_eq, decide_eq_true_eq, turnI_sign]
  refine ⟨⟨by omega, by omega⟩, ?_⟩
  simp
theorem onR_B (a b c d : Int) : onR c d a b c d = true := by
  simp only [onR, btwB, Bool.and_eq_true, beq_iff_eq, decide_eq_true_eq, turnI_sign]
  refine ⟨⟨by omega, by omega⟩, ?_⟩
  rw [Int.mul_comm]; simp

/-- the same list, part by part -/
theorem endsL_parts {a b c d e f g h : Int} {s1 s2 t1 t2 : Bool} (hs1 : onR a b e f g h = s1) (hs2 : onR c d e f g h = s2) (ht1 : onR e f a b c d = t1) (ht2 : onR g h a b c d = t2)
    (h1 : (a, b) ≠ (c, d)) (h2 : (e, f) ≠ (g, h)) :
    endsL a b c d e f g h = (if s1 then [(a, b)] else []) ++ (if s2 then [(c, d)] else []) ++ (if t1 && !((e, f) == (a, b)) && !((e, f) == (c, d)) then [(e, f)] else []) ++ (if t2 && !((g, h) == (a, b)) && !((g, h) == (c, d)) then [(g, h)] else []) := by
  have b1 : bothB a b c d e f g h (a, b) = s1 := by simp [bothB, onR_A, hs1]
  have b2 : bothB a b c d e f g h (c, d) = s2 := by simp [bothB, onR_B, hs2]
  have b3 : bothB a b c d e f g h (e, f) = t1 := by simp [bothB, onR_A, ht1]
  have b4 : bothB a b c d e f g h (g, h) = t2 := by simp [bothB, onR_B, ht2]
  have c1 : (e, f) = (a, b) → t1 = true ∧ s1 = true := by
    intro hh; simp only [Prod.mk.injEq] at hh; obtain ⟨rfl, rfl⟩ := hh; exact ⟨by rw [← ht1, onR_A], by rw [← hs1, onR_A]⟩
  have c2 : (e, f) = (c, d) → t1 = true ∧ s2 = true := by
    intro hh; simp only [Prod.mk.injEq] at hh; obtain ⟨rfl, rfl⟩ := hh; exact ⟨by rw [← ht1, onR_B], by rw [← hs2, onR_A]⟩
  have c3 : (g, h) = (a, b) → t2 = true ∧ s1 = true := by
    intro hh; simp only [Prod.mk.injEq] at hh; obtain ⟨rfl, rfl⟩ := hh; exact ⟨by rw [← ht2, onR_A], by rw [← hs1, onR_B]⟩
  have c4 : (g, h) = (c, d) → t2 = true ∧ s2 = true := by
    intro hh; simp only [Prod.mk.injEq] at hh; obtain ⟨rfl, rfl⟩ := hh; exact ⟨by rw [← ht2, onR_B], by rw [← hs2, onR_B]⟩
  simp only [endsL, List.foldl_cons, List.foldl_nil, endStep, b1, b2, b3, b4]
  clear b1 b2 b3 b4 hs1 hs2 ht1 ht2
  generalize (a, b) = P at *
  generalize (c, d) = Q at *
  generalize (e, f) = U at *
  generalize (g, h) = V at *
  have h1' : Q ≠ P := fun hh => h1 hh.symm
  have h2' : V ≠ U := fun hh => h2 hh.symm
  by_cases e1 : U = P <;> by_cases e2 : U = Q <;> by_cases e3 : V = P <;> by_cases e4 : V = Q <;> cases s1 <;> cases s2 <;> cases t1 <;> cases t2 <;> simp_all

/-- parallel, and not on one line -/
theorem meet_par {a b c d e f g h : Int} (k2 : ¬ (e = g ∧ f = h)) (k1 : ¬ (a = c ∧ b = d)) (hD : (c - a) * (h - f) - (d - b) * (g - e) = 0) (hA : (c - a) * (f - b) - (d - b) * (e - a) ≠ 0) :
    meetR a b c d e f g h = meetI a b c d e f g h := by
  have hA2 : (c - a) * (h - b) - (d - b) * (g - a) = (c - a) * (f - b) - (d - b) * (e - a) := by grind
  have hB2 : (g - e) * (d - f) - (h - f) * (c - e) = (g - e) * (b - f) - (h - f) * (a - e) := by grind
  have hB : (g - e) * (b - f) - (h - f) * (a - e) ≠ 0 := by
    intro hh
    have := par_trans (dx := c - a) (dy := d - b) (x := g - e) (y := h - f) (ux := a - e) (uy := b - f) (by omega) hD hh
    exact hA (by grind)
  have hA2' : (c - a) * (h - b) - (d - b) * (g - a) ≠ 0 := by omega
  have hB2' : (g - e) * (d - f) - (h - f) * (c - e) ≠ 0 := by omega
  have he := endsL_parts (onR_off hB) (onR_off hB2') (onR_off hA) (onR_off hA2') (by simpa using k1) (by simpa using k2)
  simp at he
  rw [meetR, he, meetOf, meetI, turnI_sign, turnI_sign, turnI_sign, turnI_sign, hA2, hB2]
  rcases sign_cases ((c - a) * (f - b) - (d - b) * (e - a)) with ⟨h1, h2⟩ | ⟨h1, h2⟩ | ⟨h1, h2⟩
  · rw [h1]; simp
  · exact absurd h2 hA
  · rw [h1]; simp

/-- on one line -/
theorem meet_line {a b c d e f g h : Int} (k1 : okS a b c d = true) (k2 : okS e f g h = true) (hA1 : (c - a) * (f - b) - (d - b) * (e - a) = 0) (hA2 : (c - a) * (h - b) - (d - b) * (g - a) = 0) :
    meetR a b c d e f g h = meetI a b c d e f g h := by
  obtain ⟨⟨ha, hb⟩, ⟨hc, hd⟩, hs⟩ := okS_iff.1 k1
  obtain ⟨⟨he, hf⟩, ⟨hg, hh⟩, ht⟩ := okS_iff.1 k2
  have hD : (g - e) * (d - b) - (h - f) * (c - a) = 0 := by grind
  have hB1 : (g - e) * (b - f) - (h - f) * (a - e) = 0 := par_trans (dx := g - e) (dy := h - f) (x := c - a) (y := d - b) (ux := a - e) (uy := b - f) (by omega) hD (by grind)
  have hB2 : (g - e) * (d - f) - (h - f) * (c - e) = 0 := by grind
  have t1 := onR_key hb hd hf hA1
  have t2 := onR_key hb hd hh hA2
  have s1 := onR_key hf hh hb hB1
  have s2 := onR_key hf hh hd hB2
  have w1 := kap_inj (x := a) (x' := c) hb hd
  have w2 := kap_inj (x := e) (x' := g) hf hh
  have w3 := kap_inj (x := e) (x' := a) hf hb
  have w4 := kap_inj (x := e) (x' := c) hf hd
  have w5 := kap_inj (x := g) (x' := a) hh hb
  have w6 := kap_inj (x := g) (x' := c) hh hd
  have hI : meetI a b c d e f g h = (if max (min (kap a b) (kap c d)) (min (kap e f) (kap g h)) < min (max (kap a b) (kap c d)) (max (kap e f) (kap g h)) then 4 else if max (min (kap a b) (kap c d)) (min (kap e f) (kap g h)) = min (max (kap a b) (kap c d)) (max (kap e f) (kap g h)) then 1 else 0) := by
    have fb := f_bd 0 10000 a b c d ha hb hc hd
    have fb' := f_bd 0 10000 e f g h he hf hg hh
    rw [meetI, turnI_sign, turnI_sign, hA1, hA2, if_pos ⟨rfl, rfl⟩, onLine_key fb.2.1 fb.2.2.2 fb'.2.1 fb'.2.2.2, (f_key hb hd).1, (f_key hb hd).2, (f_key hf hh).1, (f_key hf hh).2]
  rw [hI, meetR]
  have hp := endsL_parts (a := a) (b := b) (c := c) (d := d) (e := e) (f := f) (g := g) (h := h) rfl rfl rfl rfl (by simpa using hs) (by simpa using ht)
  rw [hp, meetOf.eq_def, turnI_sign, turnI_sign, hA1, hA2]
  have v1 : (((e, f) : P2) == (a, b)) = decide (kap e f = kap a b) := by rw [Bool.eq_iff_iff]; simp [w3]
  have v2 : (((e, f) : P2) == (c, d)) = decide (kap e f = kap c d) := by rw [Bool.eq_iff_iff]; simp [w4]
  have v3 : (((g, h) : P2) == (a, b)) = decide (kap g h = kap a b) := by rw [Bool.eq_iff_iff]; simp [w5]
  have v4 : (((g, h) : P2) == (c, d)) = decide (kap g h = kap c d) := by rw [Bool.eq_iff_iff]; simp [w6]
  rw [v1, v2, v3, v4]
  have n1 : kap a b ≠ kap c d := fun hh => hs (w1.1 hh)
  have n2 : kap e f ≠ kap g h := fun hh => ht (w2.1 hh)
  have x1 : ((e, f) : P2) = (a, b) ↔ kap e f = kap a b := by rw [w3]; simp
  have x2 : ((e, f) : P2) = (c, d) ↔ kap e f = kap c d := by rw [w4]; simp
  have x3 : ((g, h) : P2) = (a, b) ↔ kap g h = kap a b := by rw [w5]; simp
  have x4 : ((g, h) : P2) = (c, d) ↔ kap g h = kap c d := by rw [w6]; simp
  have x1' : ((a, b) : P2) = (e, f) ↔ kap e f = kap a b := by rw [← x1]; exact eq_comm
  have x2' : ((c, d) : P2) = (e, f) ↔ kap e f = kap c d := by rw [← x2]; exact eq_comm
  have x3' : ((a, b) : P2) = (g, h) ↔ kap g h = kap a b := by rw [← x3]; exact eq_comm
  have x4' : ((c, d) : P2) = (g, h) ↔ kap g h = kap c d := by rw [← x4]; exact eq_comm
  clear v1 v2 v3 v4 hp hI w1 w2 w3 w4 w5 w6 hA1 hA2 hB1 hB2 hD k1 k2 hs ht ha hb hc hd he hf hg hh
  generalize onR a b e f g h = S1 at *
  generalize onR c d e f g h = S2 at *
  generalize onR e f a b c d = T1 at *
  generalize onR g h a b c d = T2 at *
  generalize kap a b = P at *
  generalize kap c d = Q at *
  generalize kap e f = U at *
  generalize kap g h = V at *
  generalize ((a, b) : P2) = pp at *
  generalize ((c, d) : P2) = qq at *
  generalize ((e, f) : P2) = uu at *
  generalize ((g, h) : P2) = vv at *
  have z : Int.sign 0 * Int.sign 0 < 0 ↔ False := by decide
  cases S1 <;> cases S2 <;> cases T1 <;> cases T2 <;> simp only [Bool.false_eq_true, false_iff, true_iff, Bool.false_and, Bool.true_and, if_false, if_true] at * <;>
    by_cases e1 : U = P <;> by_cases e2 : U = Q <;> by_cases e3 : V = P <;> by_cases e4 : V = Q <;> first
    | (exfalso; omega)
    | (simp [e1, e2, e3, e4, x1', x2', x3', x4', x1, x2, x3, x4]; omega)
    | (simp [e1, e2, e3, e4, x1', x2', x3', x4', x1, x2, x3, x4])

theorem sign_cases' (x : Int) : (Int.sign x = -1 ∧ x < 0 ∧ (x = 0) = False) ∨ (Int.sign x = 0 ∧ x = 0 ∧ (x = 0) = True) ∨ (Int.sign x = 1 ∧ 0 < x ∧ (x = 0) = False) := by
  rcases sign_cases x with ⟨h, k⟩ | ⟨h, k⟩ | ⟨h, k⟩
  · exact .inl ⟨h, k, eq_false (by omega)⟩
  · exact .inr (.inl ⟨h, k, eq_true k⟩)
  · exact .inr (.inr ⟨h, k, eq_false (by omega)⟩)

set_option maxHeartbeats 1000000 in
/-- the lines cross -/
theorem meet_skew {a b c d e f g h : Int} (k2 : ¬ (e = g ∧ f = h)) (k1 : ¬ (a = c ∧ b = d)) (hD : (c - a) * (h - f) - (d - b) * (g - e) ≠ 0) :
    meetR a b c d e f g h = meetI a b c d e f g h := by
  have hD' : (g - e) * (d - b) - (h - f) * (c - a) ≠ 0 := by
    intro hh; apply hD; grind
  -- the four numbers
  obtain ⟨A1, hA1⟩ : ∃ x, x = (c - a) * (f - b) - (d - b) * (e - a) := ⟨_, rfl⟩
  obtain ⟨A2, hA2⟩ : ∃ x, x = (c - a) * (h - b) - (d - b) * (g - a) := ⟨_, rfl⟩
  obtain ⟨B1, hB1⟩ : ∃ x, x = (g - e) * (b - f) - (h - f) * (a - e) := ⟨_, rfl⟩
  obtain ⟨B2, hB2⟩ : ∃ x, x = (g - e) * (d - f) - (h - f) * (c - e) := ⟨_, rfl⟩
  have r1 : A2 - A1 = (c - a) * (h - f) - (d - b) * (g - e) := by rw [hA1, hA2]; grind
  have r2 : B1 - B2 = (c - a) * (h - f) - (d - b) * (g - e) := by rw [hB1, hB2]; grind
  have T1 : onR e f a b c d = true ↔ A1 = 0 ∧ Int.sign B1 * Int.sign B2 ≤ 0 := by
    by_cases z : A1 = 0
    · have := onR_cross (p := e) (q := f) (x := g - e) (y := h - f) hD (by omega)
      rw [← hB1, ← hB2] at this; rw [this]; simp [z]
    · rw [onR_off (by omega)]; simp [z]
  have T2 : onR g h a b c d = true ↔ A2 = 0 ∧ Int.sign B1 * Int.sign B2 ≤ 0 := by
    by_cases z : A2 = 0
    · have := onR_cross (p := g) (q := h) (x := g - e) (y := h - f) hD (by omega)
      rw [show (g - e) * (b - h) - (h - f) * (a - g) = B1 by rw [hB1]; grind, show (g - e) * (d - h) - (h - f) * (c - g) = B2 by rw [hB2]; grind] at this; rw [this]; simp [z]
    · rw [onR_off (by omega)]; simp [z]
  have S1 : onR a b e f g h = true ↔ B1 = 0 ∧ Int.sign A1 * Int.sign A2 ≤ 0 := by
    by_cases z : B1 = 0
    · have := onR_cross (p := a) (q := b) (x := c - a) (y := d - b) hD' (by omega)
      rw [← hA1, ← hA2] at this; rw [this]; simp [z]
    · rw [onR_off (by omega)]; simp [z]
  have S2 : onR c d e f g h = true ↔ B2 = 0 ∧ Int.sign A1 * Int.sign A2 ≤ 0 := by
    by_cases z : B2 = 0
    · have := onR_cross (p := c) (q := d) (x := c - a) (y := d - b) hD' (by omega)
      rw [show (c - a) * (f - d) - (d - b) * (e - c) = A1 by rw [hA1]; grind, show (c - a) * (h - d) - (d - b) * (g - c) = A2 by rw [hA2]; grind] at this; rw [this]; simp [z]
    · rw [onR_off (by omega)]; simp [z]
  have E1 : ((e, f) : P2) = (a, b) ↔ A1 = 0 ∧ B1 = 0 := by
    constructor
    · intro hh; simp only [Prod.mk.injEq] at hh; obtain ⟨rfl, rfl⟩ := hh; rw [hA1, hB1]; simp
    · rintro ⟨z1, z2⟩; have := line_pt (ux := a - e) (uy := b - f) hD (by grind) (by omega); simp only [Prod.mk.injEq]; omega
  have E2 : ((e, f) : P2) = (c, d) ↔ A1 = 0 ∧ B2 = 0 := by
    constructor
    · intro hh; simp only [Prod.mk.injEq] at hh; obtain ⟨rfl, rfl⟩ := hh; rw [hA1, hB2]; constructor <;> grind
    · rintro ⟨z1, z2⟩; have := line_pt (ux := c - e) (uy := d - f) hD (by grind) (by omega); simp only [Prod.mk.injEq]; omega
  have E3 : ((g, h) : P2) = (a, b) ↔ A2 = 0 ∧ B1 = 0 := by
    constructor
    · intro hh; simp only [Prod.mk.injEq] at hh; obtain ⟨rfl, rfl⟩ := hh; rw [hA2, hB1]; constructor <;> grind
    · rintro ⟨z1, z2⟩; have := line_pt (ux := a - g) (uy := b - h) hD (by grind) (by grind); simp only [Prod.mk.injEq]; omega
  have E4 : ((g, h) : P2) = (c, d) ↔ A2 = 0 ∧ B2 = 0 := by
    constructor
    · intro hh; simp only [Prod.mk.injEq] at hh; obtain ⟨rfl, rfl⟩ := hh; rw [hA2, hB2]; constructor <;> grind
    · rintro ⟨z1, z2⟩; have := line_pt (ux := c - g) (uy := d - h) hD (by grind) (by grind); simp only [Prod.mk.injEq]; omega
  have F1 : ((a, b) : P2) = (e, f) ↔ A1 = 0 ∧ B1 = 0 := by rw [← E1]; exact eq_comm
  have F2 : ((c, d) : P2) = (e, f) ↔ A1 = 0 ∧ B2 = 0 := by rw [← E2]; exact eq_comm
  have F3 : ((a, b) : P2) = (g, h) ↔ A2 = 0 ∧ B1 = 0 := by rw [← E3]; exact eq_comm
  have F4 : ((c, d) : P2) = (g, h) ↔ A2 = 0 ∧ B2 = 0 := by rw [← E4]; exact eq_comm
  have hp := endsL_parts (a := a) (b := b) (c := c) (d := d) (e := e) (f := f) (g := g) (h := h) rfl rfl rfl rfl (by simpa using k1) (by simpa using k2)
  rw [meetR, hp, meetOf.eq_def, meetI, turnI_sign, turnI_sign, turnI_sign, turnI_sign, ← hA1, ← hA2, ← hB1, ← hB2]
  have v1 : (((e, f) : P2) == (a, b)) = decide (A1 = 0 ∧ B1 = 0) := by rw [Bool.eq_iff_iff, beq_iff_eq, E1]; simp
  have v2 : (((e, f) : P2) == (c, d)) = decide (A1 = 0 ∧ B2 = 0) := by rw [Bool.eq_iff_iff, beq_iff_eq, E2]; simp
  have v3 : (((g, h) : P2) == (a, b)) = decide (A2 = 0 ∧ B1 = 0) := by rw [Bool.eq_iff_iff, beq_iff_eq, E3]; simp
  have v4 : (((g, h) : P2) == (c, d)) = decide (A2 = 0 ∧ B2 = 0) := by rw [Bool.eq_iff_iff, beq_iff_eq, E4]; simp
  have w1 : onR a b e f g h = decide (B1 = 0 ∧ Int.sign A1 * Int.sign A2 ≤ 0) := by rw [Bool.eq_iff_iff, S1]; simp
  have w2 : onR c d e f g h = decide (B2 = 0 ∧ Int.sign A1 * Int.sign A2 ≤ 0) := by rw [Bool.eq_iff_iff, S2]; simp
  have w3 : onR e f a b c d = decide (A1 = 0 ∧ Int.sign B1 * Int.sign B2 ≤ 0) := by rw [Bool.eq_iff_iff, T1]; simp
  have w4 : onR g h a b c d = decide (A2 = 0 ∧ Int.sign B1 * Int.sign B2 ≤ 0) := by rw [Bool.eq_iff_iff, T2]; simp
  rw [v1, v2, v3, v4, w1, w2, w3, w4]
  have q1 : A2 - A1 ≠ 0 := by rw [r1]; exact hD
  have q2 : B1 - B2 ≠ 0 := by rw [r2]; exact hD
  have q3 : A2 - A1 = B1 - B2 := by rw [r1, r2]
  clear v1 v2 v3 v4 w1 w2 w3 w4 hp S1 S2 T1 T2 r1 r2 hA1 hA2 hB1 hB2 hD hD' k1 k2
  generalize ((a, b) : P2) = pp at *
  generalize ((c, d) : P2) = qq at *
  generalize ((e, f) : P2) = uu at *
  generalize ((g, h) : P2) = vv at *
  rcases sign_cases' A1 with ⟨h1, z1, n1⟩ | ⟨h1, z1, n1⟩ | ⟨h1, z1, n1⟩ <;> rcases sign_cases' A2 with ⟨h2, z2, n2⟩ | ⟨h2, z2, n2⟩ | ⟨h2, z2, n2⟩ <;> rcases sign_cases' B1 with ⟨h3, z3, n3⟩ | ⟨h3, z3, n3⟩ | ⟨h3, z3, n3⟩ <;> rcases sign_cases' B2 with ⟨h4, z4, n4⟩ | ⟨h4, z4, n4⟩ | ⟨h4, z4, n4⟩ <;> first
    | (exfalso; clear E1 E2 E3 E4 F1 F2 F3 F4 n1 n2 n3 n4; omega)
    | (rw [h1, h2, h3, h4]
       simp only [n1, n2, n3, n4, and_false, and_true, false_and, true_and] at E1 E2 E3 E4 F1 F2 F3 F4 ⊢
       simp [E1, E2, E3, E4, F1, F2, F3, F4])

theorem meet_eq {a b c d e f g h : Int} (k1 : okS a b c d = true) (k2 : okS e f g h = true) : meetR a b c d e f g h = meetI a b c d e f g h := by
  obtain ⟨_, _, hs⟩ := okS_iff.1 k1
  obtain ⟨_, _, ht⟩ := okS_iff.1 k2
  by_cases hD : (c - a) * (h - f) - (d - b) * (g - e) = 0
  · by_cases hA : (c - a) * (f - b) - (d - b) * (e - a) = 0
    · exact meet_line k1 k2 hA (by grind)
    · exact meet_par ht hs hD hA
  · exact meet_skew ht hs hD

/-! turning the ends round, exchanging the segments -/
theorem cross_rev (a b c d p q : Int) : (a - c) * (q - d) - (b - d) * (p - c) = -((c - a) * (q - b) - (d - b) * (p - a)) := by grind
theorem turnI_rev (a b c d p q : Int) : turnI c d a b p q = - turnI a b c d p q := by rw [turnI_sign, turnI_sign, cross_rev, Int.sign_neg]
theorem onR_rev (p q a b c d : Int) : onR p q c d a b = onR p q a b c d := by
  rw [Bool.eq_iff_iff]
  simp only [onR, btwB, Bool.and_eq_true, beq_iff_eq, decide_eq_true_eq]
  rw [turnI_rev a b c d]
  omega
theorem collin_comm {a b c d e f g h : Int} (k1 : ¬ (a = c ∧ b = d)) (h1 : turnI a b c d e f = 0) (h2 : turnI a b c d g h = 0) : turnI e f g h a b = 0 ∧ turnI e f g h c d = 0 := by
  rw [turnI_sign, Int.sign_eq_zero_iff_zero] at h1 h2
  have hD : (g - e) * (d - b) - (h - f) * (c - a) = 0 := by grind
  have hB1 : (g - e) * (b - f) - (h - f) * (a - e) = 0 := par_trans (dx := g - e) (dy := h - f) (x := c - a) (y := d - b) (ux := a - e) (uy := b - f) (by omega) hD (by grind)
  have hB2 : (g - e) * (d - f) - (h - f) * (c - e) = 0 := by grind
  rw [turnI_sign, turnI_sign, hB1, hB2]; exact ⟨rfl, rfl⟩
theorem fkey2 {a b c d : Int} (hb : 0 ≤ b ∧ b ≤ 10000) (hd : 0 ≤ d ∧ d ≤ 10000) : kap (f1 c d a b) (f2 c d a b) = kap (f1 a b c d) (f2 a b c d) ∧ kap (f3 c d a b) (f4 c d a b) = kap (f3 a b c d) (f4 a b c d) := by
  rw [(f_key hb hd).1, (f_key hb hd).2, (f_key hd hb).1, (f_key hd hb).2]; omega
theorem onLine_f {a b c d e f g h : Int} (k1 : okS a b c d = true) (k2 : okS e f g h = true) :
    onLineI (f1 a b c d) (f2 a b c d) (f3 a b c d) (f4 a b c d) (f1 e f g h) (f2 e f g h) (f3 e f g h) (f4 e f g h) =
      (if max (min (kap a b) (kap c d)) (min (kap e f) (kap g h)) < min (max (kap a b) (kap c d)) (max (kap e f) (kap g h)) then 4 else if max (min (kap a b) (kap c d)) (min (kap e f) (kap g h)) = min (max (kap a b) (kap c d)) (max (kap e f) (kap g h)) then 1 else 0) := by
  obtain ⟨⟨ha, hb⟩, ⟨hc, hd⟩, hs⟩ := okS_iff.1 k1
  obtain ⟨⟨he, hf⟩, ⟨hg, hh⟩, ht⟩ := okS_iff.1 k2
  have fb := f_bd 0 10000 a b c d ha hb hc hd
  have fb' := f_bd 0 10000 e f g h he hf hg hh
  rw [onLine_key fb.2.1 fb.2.2.2 fb'.2.1 fb'.2.2.2, (f_key hb hd).1, (f_key hb hd).2, (f_key hf hh).1, (f_key hf hh).2]
theorem okS_swap (a b c d : Int) : okS c d a b = okS a b c d := by
  rw [Bool.eq_iff_iff, okS_iff, okS_iff]; omega
theorem meetI_comm {a b c d e f g h : Int} (k1 : okS a b c d = true) (k2 : okS e f g h = true) : meetI e f g h a b c d = meetI a b c d e f g h := by
  have hs := (okS_iff.1 k1).2.2
  have ht := (okS_iff.1 k2).2.2
  unfold meetI
  by_cases h1 : turnI a b c d e f = 0 ∧ turnI a b c d g h = 0
  · rw [if_pos (collin_comm hs h1.1 h1.2), if_pos h1, onLine_f k2 k1, onLine_f k1 k2, Int.max_comm (min (kap e f) _), Int.min_comm (max (kap e f) _)]
  · have h2 : ¬ (turnI e f g h a b = 0 ∧ turnI e f g h c d = 0) := fun hh => h1 (collin_comm ht hh.1 hh.2)
    rw [if_neg h1, if_neg h2]
    simp only [or_comm (a := 0 < turnI e f g h a b * turnI e f g h c d), and_comm (a := turnI e f g h a b * turnI e f g h c d = 0), or_comm (a := turnI e f g h a b * turnI e f g h c d = 0)]
theorem meetI_rev {a b c d e f g h : Int} (k1 : okS a b c d = true) (k2 : okS e f g h = true) : meetI a b c d g h e f = meetI a b c d e f g h := by
  have k3 : okS g h e f = true := by rw [okS_swap]; exact k2
  unfold meetI
  by_cases h1 : turnI a b c d e f = 0 ∧ turnI a b c d g h = 0
  · rw [if_pos ⟨h1.2, h1.1⟩, if_pos h1, onLine_f k1 k3, onLine_f k1 k2, Int.max_comm (kap g h), Int.min_comm (kap g h)]
  · have h2 : ¬ (turnI a b c d g h = 0 ∧ turnI a b c d e f = 0) := fun hh => h1 ⟨hh.2, hh.1⟩
    rw [if_neg h1, if_neg h2, Int.mul_comm (turnI a b c d g h), turnI_rev e f g h a b, turnI_rev e f g h c d, Int.neg_mul_neg]
theorem meetI_rev1 {a b c d e f g h : Int} (k1 : okS a b c d = true) (k2 : okS e f g h = true) : meetI c d a b e f g h = meetI a b c d e f g h := by
  have k3 : okS c d a b = true := by rw [okS_swap]; exact k1
  rw [← meetI_comm k3 k2, meetI_rev k2 k1, meetI_comm k1 k2]

/-! the one point that is an end -/
def cEnd (a b c d e f g h : Int) : P2 := if onR a b e f g h then (a, b) else if onR c d e f g h then (c, d) else if onR e f a b c d then (e, f) else (g, h)
theorem meetOf_end {l : List P2} {a b c d e f g h : Int} (hk : meetOf l a b c d e f g h = 1 ∨ meetOf l a b c d e f g h = 2) : ∃ p, l = [p] := by
  unfold meetOf at hk
  match l, hk with
  | [], hk => simp only at hk; split at hk <;> omega
  | [p], _ => exact ⟨p, rfl⟩
  | _ :: _ :: _, hk => simp at hk
theorem ends_mem {a b c d e f g h : Int} (k1 : ¬ (a = c ∧ b = d)) (k2 : ¬ (e = g ∧ f = h)) (p : P2) (hp : p = (a, b) ∨ p = (c, d) ∨ p = (e, f) ∨ p = (g, h)) (hb : bothB a b c d e f g h p = true) : p ∈ endsL a b c d e f g h := by
  rw [endsL_parts rfl rfl rfl rfl (by simpa using k1) (by simpa using k2)]
  simp only [bothB, Bool.and_eq_true] at hb
  have m1 : p = (a, b) → p ∈ (if onR a b e f g h = true then [(a, b)] else []) := by
    rintro rfl; rw [if_pos hb.2]; simp
  have m2 : p = (c, d) → p ∈ (if onR c d e f g h = true then [(c, d)] else []) := by
    rintro rfl; rw [if_pos hb.2]; simp
  simp only [List.mem_append]
  by_cases e1 : p = (a, b)
  · exact .inl (.inl (.inl (m1 e1)))
  · by_cases e2 : p = (c, d)
    · exact .inl (.inl (.inr (m2 e2)))
    · rcases hp with h1 | h1 | h1 | h1
      · exact absurd h1 e1
      · exact absurd h1 e2
      · subst h1
        refine .inl (.inr ?_)
        have n1 : (((e, f) : P2) == (a, b)) = false := by simpa using e1
        have n2 : (((e, f) : P2) == (c, d)) = false := by simpa using e2
        rw [n1, n2, hb.1]; simp
      · subst h1
        refine .inr ?_
        have n1 : (((g, h) : P2) == (a, b)) = false := by simpa using e1
        have n2 : (((g, h) : P2) == (c, d)) = false := by simpa using e2
        rw [n1, n2, hb.1]; simp
theorem ends_sub {a b c d e f g h : Int} (k1 : ¬ (a = c ∧ b = d)) (k2 : ¬ (e = g ∧ f = h)) (p : P2) (hp : p ∈ endsL a b c d e f g h) : (p = (a, b) ∨ p = (c, d) ∨ p = (e, f) ∨ p = (g, h)) ∧ bothB a b c d e f g h p = true := by
  rw [endsL_parts rfl rfl rfl rfl (by simpa using k1) (by simpa using k2)] at hp
  simp only [List.mem_append, or_assoc] at hp
  rcases hp with h1 | h1 | h1 | h1
  · split at h1
    · rename_i hh; simp at h1; subst h1; exact ⟨.inl rfl, by simp [bothB, onR_A, hh]⟩
    · simp at h1
  · split at h1
    · rename_i hh; simp at h1; subst h1; exact ⟨.inr (.inl rfl), by simp [bothB, onR_B, hh]⟩
    · simp at h1
  · split at h1
    · rename_i hh; simp at h1; subst h1; simp only [Bool.and_eq_true] at hh; exact ⟨.inr (.inr (.inl rfl)), by simp [bothB, onR_A, hh.1.1]⟩
    · simp at h1
  · split at h1
    · rename_i hh; simp at h1; subst h1; simp only [Bool.and_eq_true] at hh; exact ⟨.inr (.inr (.inr rfl)), by simp [bothB, onR_B, hh.1.1]⟩
    · simp at h1
/-- where both have just one such point it is cEnd -/
theorem cEnd_one {a b c d e f g h : Int} (k1 : okS a b c d = true) (k2 : okS e f g h = true) (hk : meetI a b c d e f g h = 1 ∨ meetI a b c d e f g h = 2) : endsL a b c d e f g h = [cEnd a b c d e f g h] := by
  rw [← meet_eq k1 k2, meetR] at hk
  obtain ⟨p, hp⟩ := meetOf_end hk
  have hs := (okS_iff.1 k1).2.2
  have ht := (okS_iff.1 k2).2.2
  have sub := ends_sub hs ht p (by rw [hp]; simp)
  have one : ∀ q : P2, (q = (a, b) ∨ q = (c, d) ∨ q = (e, f) ∨ q = (g, h)) → bothB a b c d e f g h q = true → q = p := fun q h1 h2 => by
    have := ends_mem hs ht q h1 h2; rw [hp] at this; simpa using this
  rw [hp, cEnd]
  congr 1
  by_cases s1 : onR a b e f g h = true
  · rw [if_pos s1]; exact (one _ (.inl rfl) (by simp [bothB, onR_A, s1])).symm
  · by_cases s2 : onR c d e f g h = true
    · rw [if_neg s1, if_pos s2]; exact (one _ (.inr (.inl rfl)) (by simp [bothB, onR_B, s2])).symm
    · by_cases s3 : onR e f a b c d = true
      · rw [if_neg s1, if_neg s2, if_pos s3]; exact (one _ (.inr (.inr (.inl rfl))) (by simp [bothB, onR_A, s3])).symm
      · rw [if_neg s1, if_neg s2, if_neg s3]
        obtain ⟨h1, h2⟩ := sub
        simp only [bothB, Bool.and_eq_true] at h2
        rcases h1 with rfl | rfl | rfl | rfl
        · exact absurd h2.2 s1
        · exact absurd h2.2 s2
        · exact absurd h2.1 s3
        · rfl
theorem bothB_turn (a b c d e f g h : Int) (p : P2) : bothB g h e f a b c d p = bothB a b c d e f g h p := by
  unfold bothB; rw [onR_rev p.1 p.2 e f g h, Bool.and_comm]
theorem cEnd_turn {a b c d e f g h : Int} (k1 : okS a b c d = true) (k2 : okS e f g h = true) (hk : meetI a b c d e f g h = 1 ∨ meetI a b c d e f g h = 2) : cEnd g h e f a b c d = cEnd a b c d e f g h := by
  have k3 : okS g h e f = true := by rw [okS_swap]; exact k2
  have he := cEnd_one k1 k2 hk
  have hk' : meetI g h e f a b c d = 1 ∨ meetI g h e f a b c d = 2 := by rw [meetI_rev1 k2 k1, meetI_comm k1 k2]; exact hk
  have he' := cEnd_one k3 k1 hk'
  have hs := (okS_iff.1 k1).2.2
  have ht := (okS_iff.1 k2).2.2
  have ht' := (okS_iff.1 k3).2.2
  have sub := ends_sub ht' hs (cEnd g h e f a b c d) (by rw [he']; simp)
  have := ends_mem hs ht (cEnd g h e f a b c d) (by rcases sub.1 with x | x | x | x <;> simp [x]) (by rw [← bothB_turn]; exact sub.2)
  rw [he] at this
  simpa using this

/-! which of two segments is above -/
def Fd (a b c d e f g h m : Int) : Int := (b * (2 * (c - a)) + (d - b) * (m - 2 * a)) * (2 * (g - e)) - (f * (2 * (g - e)) + (h - f) * (m - 2 * e)) * (2 * (c - a))
theorem Fd_lin (a b c d e f g h m n : Int) : Fd a b c d e f g h n = Fd a b c d e f g h m + (2 * ((d - b) * (g - e) - (h - f) * (c - a))) * (n - m) := by unfold Fd; grind
theorem Fd_e (a b c d e f g h : Int) : Fd a b c d e f g h (2 * e) = (g - e) * (-4 * ((c - a) * (f - b) - (d - b) * (e - a))) := by unfold Fd; grind
theorem Fd_g (a b c d e f g h : Int) : Fd a b c d e f g h (2 * g) = (g - e) * (-4 * ((c - a) * (h - b) - (d - b) * (g - a))) := by unfold Fd; grind
theorem Fd_a (a b c d e f g h : Int) : Fd a b c d e f g h (2 * a) = (c - a) * (4 * ((g - e) * (b - f) - (h - f) * (a - e))) := by unfold Fd; grind
theorem Fd_c (a b c d e f g h : Int) : Fd a b c d e f g h (2 * c) = (c - a) * (4 * ((g - e) * (d - f) - (h - f) * (c - e))) := by unfold Fd; grind
theorem pos_of_mul {x y : Int} (hx : 0 < x) (h : 0 < x * y) : 0 < y := by
  rcases Int.lt_trichotomy y 0 with k | k | k
  · have := Int.mul_nonneg (a := x) (b := -y) (by omega) (by omega); rw [Int.mul_neg] at this; omega
  · rw [k, Int.mul_zero] at h; omega
  · exact k
theorem neg_of_mul {x y : Int} (hx : 0 < x) (h : x * y < 0) : y < 0 := by
  have h2 : 0 < x * (-y) := by rw [Int.mul_neg]; omega
  have := pos_of_mul hx h2; omega
theorem zero_of_mul {x y : Int} (hx : 0 < x) (h : x * y = 0) : y = 0 := by
  rcases Int.mul_eq_zero.1 h with k | k <;> omega
theorem mul_np {x y : Int} (hx : x ≤ 0) (hy : y ≤ 0) : 0 ≤ x * y := Int.mul_nonneg_of_nonpos_of_nonpos hx hy
theorem mul_pn {x y : Int} (hx : x ≤ 0) (hy : 0 ≤ y) : x * y ≤ 0 := Int.mul_nonpos_of_nonpos_of_nonneg hx hy

section
variable {a b c d e f g h u v : Int}
theorem Fd_dec (hac : a < c) (heg : e < g) (ha : a ≤ u) (he : e ≤ u) (hc : v ≤ c) (hg : v ≤ g) (huv : u < v) (h1 : 0 < Fd a b c d e f g h (2 * u)) (h2 : Fd a b c d e f g h (2 * v) < 0) :
    ((c - a) * (f - b) - (d - b) * (e - a) < 0 ∧ 0 < (c - a) * (h - b) - (d - b) * (g - a)) ∧ (0 < (g - e) * (b - f) - (h - f) * (a - e) ∧ (g - e) * (d - f) - (h - f) * (c - e) < 0) := by
  have l1 := Fd_lin a b c d e f g h (2 * u) (2 * v)
  have l2 := Fd_lin a b c d e f g h (2 * u) (2 * a)
  have l3 := Fd_lin a b c d e f g h (2 * u) (2 * e)
  have l4 := Fd_lin a b c d e f g h (2 * v) (2 * c)
  have l5 := Fd_lin a b c d e f g h (2 * v) (2 * g)
  have k1 := Fd_e a b c d e f g h
  have k2 := Fd_g a b c d e f g h
  have k3 := Fd_a a b c d e f g h
  have k4 := Fd_c a b c d e f g h
  generalize 2 * ((d - b) * (g - e) - (h - f) * (c - a)) = B at *
  have hB : B < 0 := neg_of_mul (x := 2 * v - 2 * u) (by omega) (by rw [Int.mul_comm]; omega)
  have m1 := mul_np (x := B) (y := 2 * a - 2 * u) (by omega) (by omega)
  have m2 := mul_np (x := B) (y := 2 * e - 2 * u) (by omega) (by omega)
  have m3 := mul_pn (x := B) (y := 2 * c - 2 * v) (by omega) (by omega)
  have m4 := mul_pn (x := B) (y := 2 * g - 2 * v) (by omega) (by omega)
  have r1 := pos_of_mul (x := g - e) (by omega) (show 0 < _ by rw [← k1]; omega)
  have r2 := neg_of_mul (x := g - e) (by omega) (show _ < 0 by rw [← k2]; omega)
  have r3 := pos_of_mul (x := c - a) (by omega) (show 0 < _ by rw [← k3]; omega)
  have r4 := neg_of_mul (x := c - a) (by omega) (show _ < 0 by rw [← k4]; omega)
  omega
theorem Fd_inc (hac : a < c) (heg : e < g) (ha : a ≤ u) (he : e ≤ u) (hc : v ≤ c) (hg : v ≤ g) (huv : u < v) (h1 : Fd a b c d e f g h (2 * u) < 0) (h2 : 0 < Fd a b c d e f g h (2 * v)) :
    (0 < (c - a) * (f - b) - (d - b) * (e - a) ∧ (c - a) * (h - b) - (d - b) * (g - a) < 0) ∧ ((g - e) * (b - f) - (h - f) * (a - e) < 0 ∧ 0 < (g - e) * (d - f) - (h - f) * (c - e)) := by
  have l1 := Fd_lin a b c d e f g h (2 * u) (2 * v)
  have l2 := Fd_lin a b c d e f g h (2 * u) (2 * a)
  have l3 := Fd_lin a b c d e f g h (2 * u) (2 * e)
  have l4 := Fd_lin a b c d e f g h (2 * v) (2 * c)
  have l5 := Fd_lin a b c d e f g h (2 * v) (2 * g)
  have k1 := Fd_e a b c d e f g h
  have k2 := Fd_g a b c d e f g h
  have k3 := Fd_a a b c d e f g h
  have k4 := Fd_c a b c d e f g h
  generalize 2 * ((d - b) * (g - e) - (h - f) * (c - a)) = B at *
  have hB : 0 < B := pos_of_mul (x := 2 * v - 2 * u) (by omega) (by rw [Int.mul_comm]; omega)
  have m1 := mul_pn (y := B) (x := 2 * a - 2 * u) (by omega) (by omega)
  have m2 := mul_pn (y := B) (x := 2 * e - 2 * u) (by omega) (by omega)
  have m3 := Int.mul_nonneg (a := B) (b := 2 * c - 2 * v) (by omega) (by omega)
  have m4 := Int.mul_nonneg (a := B) (b := 2 * g - 2 * v) (by omega) (by omega)
  rw [Int.mul_comm] at m1 m2
  have r1 := neg_of_mul (x := g - e) (by omega) (show _ < 0 by rw [← k1]; omega)
  have r2 := pos_of_mul (x := g - e) (by omega) (show 0 < _ by rw [← k2]; omega)
  have r3 := neg_of_mul (x := c - a) (by omega) (show _ < 0 by rw [← k3]; omega)
  have r4 := pos_of_mul (x := c - a) (by omega) (show 0 < _ by rw [← k4]; omega)
  omega
theorem Fd_nil (hac : a < c) (heg : e < g) (huv : u < v) (h1 : Fd a b c d e f g h (2 * u) = 0) (h2 : Fd a b c d e f g h (2 * v) = 0) :
    (c - a) * (f - b) - (d - b) * (e - a) = 0 ∧ (c - a) * (h - b) - (d - b) * (g - a) = 0 := by
  have l1 := Fd_lin a b c d e f g h (2 * u) (2 * v)
  have l3 := Fd_lin a b c d e f g h (2 * u) (2 * e)
  have l5 := Fd_lin a b c d e f g h (2 * v) (2 * g)
  have k1 := Fd_e a b c d e f g h
  have k2 := Fd_g a b c d e f g h
  generalize 2 * ((d - b) * (g - e) - (h - f) * (c - a)) = B at *
  have hB : B = 0 := zero_of_mul (x := 2 * v - 2 * u) (by omega) (by rw [Int.mul_comm]; omega)
  rw [hB, Int.zero_mul] at l3 l5
  have r1 := zero_of_mul (x := g - e) (by omega) (show _ = 0 by rw [← k1]; omega)
  have r2 := zero_of_mul (x := g - e) (by omega) (show _ = 0 by rw [← k2]; omega)
  omega
end

def aFrom (a b c d e f g h : Int) : Int := max (f1 a b c d) (f1 e f g h)
def aTo (a b c d e f g h : Int) : Int := min (f3 a b c d) (f3 e f g h)
def aCmp (a b c d e f g h m : Int) : Int := cmpR (hN a b c d m) (hW a b c d) (hN e f g h m) (hW e f g h)
def aOk (a b c d e f g h : Int) : Bool := okS a b c d && okS e f g h && decide (aFrom a b c d e f g h < aTo a b c d e f g h) && !(meetI a b c d e f g h == 3 || meetI a b c d e f g h == 4)
def aVal (a b c d e f g h : Int) : Int := if aCmp a b c d e f g h (2 * aFrom a b c d e f g h) ≠ 0 then aCmp a b c d e f g h (2 * aFrom a b c d e f g h) else aCmp a b c d e f g h (2 * aTo a b c d e f g h)
def aN (a b c d e f g h : Int) : Int := if aOk a b c d e f g h = true then aVal a b c d e f g h else 0
theorem f_minmax (a b c d : Int) : f1 a b c d = min a c ∧ f3 a b c d = max a c := by
  unfold f1 f3
  by_cases hl : 0 < orI (cmpI a c) (cmpI b d)
  · have : ¬ (a < c ∨ (a = c ∧ b ≤ d)) := by rw [← orI_le]; omega
    rw [if_pos hl, if_pos hl]; omega
  · have : a < c ∨ (a = c ∧ b ≤ d) := by rw [← orI_le]; omega
    rw [if_neg hl, if_neg hl]; omega
theorem cmpI_zero (x : Int) : cmpI x 0 = Int.sign x := by
  unfold cmpI
  rcases sign_cases x with ⟨h, k⟩ | ⟨h, k⟩ | ⟨h, k⟩
  · rw [if_pos k, h]
  · rw [k]; rfl
  · rw [if_neg (by omega), if_pos k, h]
theorem aCmp_sign (a b c d e f g h m : Int) : aCmp a b c d e f g h m = Int.sign (Fd (f1 a b c d) (f2 a b c d) (f3 a b c d) (f4 a b c d) (f1 e f g h) (f2 e f g h) (f3 e f g h) (f4 e f g h) m) := by
  unfold aCmp cmpR
  rw [← cmpI_sub, cmpI_zero]
  rfl
theorem meetI_f {a b c d e f g h : Int} (k1 : okS a b c d = true) (k2 : okS e f g h = true) : meetI (f1 a b c d) (f2 a b c d) (f3 a b c d) (f4 a b c d) (f1 e f g h) (f2 e f g h) (f3 e f g h) (f4 e f g h) = meetI a b c d e f g h := by
  have k1' : okS c d a b = true := by rw [okS_swap]; exact k1
  have k2' : okS g h e f = true := by rw [okS_swap]; exact k2
  by_cases h1 : 0 < orI (cmpI a c) (cmpI b d) <;> by_cases h2 : 0 < orI (cmpI e g) (cmpI f h)
  · simp only [f1, f2, f3, f4, if_pos h1, if_pos h2]; rw [meetI_rev k1' k2, meetI_rev1 k1 k2]
  · simp only [f1, f2, f3, f4, if_pos h1, if_neg h2]; rw [meetI_rev1 k1 k2]
  · simp only [f1, f2, f3, f4, if_neg h1, if_pos h2]; rw [meetI_rev k1 k2]
  · simp only [f1, f2, f3, f4, if_neg h1, if_neg h2]
theorem okS_f {a b c d : Int} (k1 : okS a b c d = true) : okS (f1 a b c d) (f2 a b c d) (f3 a b c d) (f4 a b c d) = true := by
  by_cases h1 : 0 < orI (cmpI a c) (cmpI b d)
  · simp only [f1, f2, f3, f4, if_pos h1]; rw [okS_swap]; exact k1
  · simp only [f1, f2, f3, f4, if_neg h1]; exact k1

/-- ascending segments: what they say at the two ends of what both have goes together -/
theorem Fd_ends {a b c d e f g h : Int} (k1 : okS a b c d = true) (k2 : okS e f g h = true) (hac : a < c) (heg : e < g) (huv : max a e < min c g) (hk : meetI a b c d e f g h ≠ 3 ∧ meetI a b c d e f g h ≠ 4) :
    ¬ (0 < Fd a b c d e f g h (2 * max a e) ∧ Fd a b c d e f g h (2 * min c g) < 0) ∧ ¬ (Fd a b c d e f g h (2 * max a e) < 0 ∧ 0 < Fd a b c d e f g h (2 * min c g)) ∧ ¬ (Fd a b c d e f g h (2 * max a e) = 0 ∧ Fd a b c d e f g h (2 * min c g) = 0) := by
  obtain ⟨⟨ha, hb⟩, ⟨hc, hd⟩, hs⟩ := okS_iff.1 k1
  obtain ⟨⟨he, hf⟩, ⟨hg, hh⟩, ht⟩ := okS_iff.1 k2
  refine ⟨?_, ?_, ?_⟩
  · rintro ⟨h1, h2⟩
    obtain ⟨⟨r1, r2⟩, r3, r4⟩ := Fd_dec hac heg (Int.le_max_left a e) (Int.le_max_right a e) (Int.min_le_left c g) (Int.min_le_right c g) huv h1 h2
    apply hk.1
    unfold meetI
    rw [turnI_sign, turnI_sign, turnI_sign, turnI_sign, Int.sign_eq_neg_one_of_neg r1, Int.sign_eq_one_of_pos r2, Int.sign_eq_one_of_pos r3, Int.sign_eq_neg_one_of_neg r4]
    simp
  · rintro ⟨h1, h2⟩
    obtain ⟨⟨r1, r2⟩, r3, r4⟩ := Fd_inc hac heg (Int.le_max_left a e) (Int.le_max_right a e) (Int.min_le_left c g) (Int.min_le_right c g) huv h1 h2
    apply hk.1
    unfold meetI
    rw [turnI_sign, turnI_sign, turnI_sign, turnI_sign, Int.sign_eq_one_of_pos r1, Int.sign_eq_neg_one_of_neg r2, Int.sign_eq_neg_one_of_neg r3, Int.sign_eq_one_of_pos r4]
    simp
  · rintro ⟨h1, h2⟩
    obtain ⟨r1, r2⟩ := Fd_nil hac heg huv h1 h2
    apply hk.2
    have t1 : turnI a b c d e f = 0 := by rw [turnI_sign, r1]; rfl
    have t2 : turnI a b c d g h = 0 := by rw [turnI_sign, r2]; rfl
    unfold meetI
    rw [if_pos ⟨t1, t2⟩, onLine_f k1 k2, if_pos (by unfold kap; omega)]

/-- the middle says what the ends say -/
theorem aCmp_mid {a b c d e f g h : Int} (ho : aOk a b c d e f g h = true) : aCmp a b c d e f g h (aFrom a b c d e f g h + aTo a b c d e f g h) = aVal a b c d e f g h ∧ aVal a b c d e f g h ≠ 0 := by
  simp only [aOk, Bool.and_eq_true, decide_eq_true_eq, Bool.not_eq_true', Bool.or_eq_false_iff, beq_eq_false_iff_ne] at ho
  obtain ⟨⟨⟨k1, k2⟩, h1⟩, h2⟩ := ho
  unfold aVal
  rw [aCmp_sign, aCmp_sign, aCmp_sign]
  rw [← meetI_f k1 k2] at h2
  have p1 := okS_f k1
  have p2 := okS_f k2
  have hm : f1 a b c d ≤ f3 a b c d ∧ f1 e f g h ≤ f3 e f g h := by
    obtain ⟨x1, x2⟩ := f_minmax a b c d
    obtain ⟨x3, x4⟩ := f_minmax e f g h
    omega
  unfold aFrom aTo at *
  generalize f1 a b c d = A at *
  generalize f2 a b c d = B at *
  generalize f3 a b c d = C at *
  generalize f4 a b c d = D at *
  generalize f1 e f g h = E at *
  generalize f2 e f g h = F at *
  generalize f3 e f g h = G at *
  generalize f4 e f g h = H at *
  obtain ⟨n1, n2, n3⟩ := Fd_ends p1 p2 (by omega) (by omega) h1 h2
  have l1 := Fd_lin A B C D E F G H (2 * max A E) (max A E + min C G)
  have l2 := Fd_lin A B C D E F G H (max A E + min C G) (2 * min C G)
  have l3 : (2 * ((D - B) * (G - E) - (H - F) * (C - A))) * (max A E + min C G - 2 * max A E) = (2 * ((D - B) * (G - E) - (H - F) * (C - A))) * (2 * min C G - (max A E + min C G)) := by
    congr 1; omega
  rw [l3] at l1
  generalize (2 * ((D - B) * (G - E) - (H - F) * (C - A))) * (2 * min C G - (max A E + min C G)) = Z at *
  generalize Fd A B C D E F G H (2 * max A E) = X at *
  generalize Fd A B C D E F G H (2 * min C G) = Y at *
  generalize Fd A B C D E F G H (max A E + min C G) = M at *
  rcases sign_cases X with ⟨s1, z1⟩ | ⟨s1, z1⟩ | ⟨s1, z1⟩ <;> rcases sign_cases Y with ⟨s2, z2⟩ | ⟨s2, z2⟩ | ⟨s2, z2⟩ <;> rcases sign_cases M with ⟨s3, z3⟩ | ⟨s3, z3⟩ | ⟨s3, z3⟩ <;> first
    | (exfalso; omega)
    | (rw [s1, s2, s3]; decide)

theorem aCmp_swap (a b c d e f g h m : Int) : aCmp e f g h a b c d m = - aCmp a b c d e f g h m := by
  rw [aCmp_sign, aCmp_sign, ← Int.sign_neg]; congr 1; unfold Fd; omega
theorem aOk_swap (a b c d e f g h : Int) : aOk e f g h a b c d = aOk a b c d e f g h := by
  unfold aOk
  by_cases k1 : okS a b c d = true
  · by_cases k2 : okS e f g h = true
    · rw [k1, k2, meetI_comm k1 k2]
      unfold aFrom aTo
      rw [Int.max_comm, Int.min_comm]
    · simp [k2]
  · simp [k1]
theorem aN_swap (a b c d e f g h : Int) : aN e f g h a b c d = - aN a b c d e f g h := by
  unfold aN
  rw [aOk_swap]
  split
  · unfold aVal
    rw [aCmp_swap a b c d e f g h (2 * aFrom e f g h a b c d), aCmp_swap a b c d e f g h (2 * aTo e f g h a b c d), show aFrom e f g h a b c d = aFrom a b c d e f g h from Int.max_comm _ _, show aTo e f g h a b c d = aTo a b c d e f g h from Int.min_comm _ _]
    split <;> split <;> omega
  · rfl

end Go.Proofs.YtpdfbboagaflhaaGreat

set_option linter.unusedSimpArgs false
set_option linter.unusedVariables false
set_option maxRecDepth 100000
namespace Go.Proofs.YtpdfbboagaflhaaGreat
open Go.RowKit

def fourP (a b c d e f g h : Int) : List P2 := [(a, b), (c, d), (e, f), (g, h)]
def endTo (a b c d e f g h : Int) (k : Nat) : List P2 := ((fourP a b c d e f g h).take k).foldl (endStep a b c d e f g h) []
theorem endTo_succ (a b c d e f g h : Int) (k : Nat) (hk : k < 4) : endTo a b c d e f g h (k + 1) = endStep a b c d e f g h (endTo a b c d e f g h k) (px (fourP a b c d e f g h) k, py (fourP a b c d e f g h) k) := by
  unfold endTo
  rw [take_snoc _ _ (by simpa [fourP] using hk), List.foldl_append]; rfl
theorem endTo_le (a b c d e f g h : Int) : ∀ k, k ≤ 4 → (endTo a b c d e f g h k).length ≤ k
  | 0, _ => by simp [endTo]
  | k + 1, hk => by
    have := endTo_le a b c d e f g h k (by omega)
    rw [endTo_succ _ _ _ _ _ _ _ _ _ (by omega), endStep]
    split <;> simp <;> omega
theorem endTo_four (a b c d e f g h : Int) : endTo a b c d e f g h 4 = endsL a b c d e f g h := rfl
theorem four_bd {a b c d e f g h : Int} (ha : 0 ≤ a ∧ a ≤ 10000) (hb : 0 ≤ b ∧ b ≤ 10000) (hc : 0 ≤ c ∧ c ≤ 10000) (hd : 0 ≤ d ∧ d ≤ 10000) (he : 0 ≤ e ∧ e ≤ 10000) (hf : 0 ≤ f ∧ f ≤ 10000) (hg : 0 ≤ g ∧ g ≤ 10000) (hh : 0 ≤ h ∧ h ≤ 10000) (k : Nat) :
    (-40000 ≤ px (fourP a b c d e f g h) k ∧ px (fourP a b c d e f g h) k ≤ 40000) ∧ (-40000 ≤ py (fourP a b c d e f g h) k ∧ py (fourP a b c d e f g h) k ≤ 40000) := by
  match k with
  | 0 => simp [px, py, fourP]; omega
  | 1 => simp [px, py, fourP]; omega
  | 2 => simp [px, py, fourP]; omega
  | 3 => simp [px, py, fourP]; omega
  | k + 4 => simp [px, py, fourP]
/-- whether a point lies among the first m of a list -/
def inTo (l : List P2) (x y : Int) (m : Nat) : Bool := (l.take m).contains (x, y)
theorem inTo_succ (l : List P2) (x y : Int) (m : Nat) (h : m < l.length) : inTo l x y (m + 1) = (inTo l x y m || (px l m == x && py l m == y)) := by
  unfold inTo
  rw [take_snoc l m h, List.contains_append]
  congr 1
  simp only [List.contains_cons, List.contains_nil, Bool.or_false]
  rw [Bool.eq_iff_iff]; simp; constructor <;> (rintro ⟨h1, h2⟩; exact ⟨h1.symm, h2.symm⟩)
theorem inTo_all (l : List P2) (x y : Int) (m : Nat) (h : l.length ≤ m) : inTo l x y m = l.contains (x, y) := by unfold inTo; rw [List.take_of_length_le h]

theorem own_low {w : World} {B B' e size n : Nat} {v : Value} {xs : List Value} (h : w.ownsRow B e size v n xs) (hB : B' ≤ B) : w.ownsRow B' e size v n xs := by
  obtain ⟨h1, h2⟩ := h
  refine ⟨h1, ?_⟩
  rcases h2 with h3 | ⟨g, cap, cur, rfl, hg⟩
  · exact .inl h3
  · exact .inr ⟨g, cap, cur, rfl, Nat.le_trans hB hg.1, hg.2⟩

theorem own_form {w : World} {B : Nat} {v : Value} {l : List P2} (h : w.ownsRow B 23 2 v l.length (ptCells l)) : ∃ av cap, v = .slice av l.length cap ∧ (0 < l.length → ∃ g, av = some ⟨g, 0, none⟩ ∧ Pts w g 0 l.length l) := by
  have h0 := h
  obtain ⟨h1, h2⟩ := h
  rcases h2 with ⟨rfl, h3⟩ | ⟨g, cap, cur, rfl, hg⟩
  · exact ⟨none, 0, by rw [h3], fun hh => absurd hh (by omega)⟩
  · exact ⟨_, cap, rfl, fun _ => ⟨g, rfl, pts_own h0 rfl⟩⟩

set_option maxHeartbeats 8000000 in
theorem ref_ends (a b c d e f g h : Int) (w : World) (ha : 0 ≤ a ∧ a ≤ 10000) (hb : 0 ≤ b ∧ b ≤ 10000) (hc : 0 ≤ c ∧ c ≤ 10000) (hd : 0 ≤ d ∧ d ≤ 10000) (he : 0 ≤ e ∧ e ≤ 10000) (hf : 0 ≤ f ∧ f ≤ 10000) (hg : 0 ≤ g ∧ g ≤ 10000) (hh : 0 ≤ h ∧ h ≤ 10000) :
    Calls Tryz.prog 95 #[sv a b c d, sv e f g h] w fun en w' => ∃ v, en = .returned v ∧ w'.ownsRow w.heap.size 23 2 v (endsL a b c d e f g h).length (ptCells (endsL a b c d e f g h)) ∧ New w w' := by
  obtain ⟨i0, hi, hz0, hz1, hz2⟩ := info_parts info23
  have HBD := Lib.hid (four_bd ha hb hc hd he hf hg hh)
  have HON1 := Lib.hid (fun (p q : Int) (w1 : World) (hp : -40000 ≤ p ∧ p ≤ 40000) (hq : -40000 ≤ q ∧ q ≤ 40000) => ref_on p q a b c d w1 hp hq (by omega) (by omega) (by omega) (by omega))
  have HON2 := Lib.hid (fun (p q : Int) (w1 : World) (hp : -40000 ≤ p ∧ p ≤ 40000) (hq : -40000 ≤ q ∧ q ≤ 40000) => ref_on p q e f g h w1 hp hq (by omega) (by omega) (by omega) (by omega))
  go_enter Tryz.func95, Tryz.ntmps95
  go_wp2_with fail
  generalize hwo : ((w.alloc _).alloc _).alloc _ = wo
  have HNO := Lib.hid (show New w wo by rw [← hwo]; (repeat (first | exact New.refl _ | apply New.alloc | apply New.aft | apply New.drew | refine New.setCell ?_ ?_ _)))
  have HPO := Lib.hid (show Pts wo (w.heap.size + 1 + 1) 0 4 (fourP a b c d e f g h) by rw [← hwo]; exact pts4 _ _ _ _ _ _ _ _ _ _ (by simp [go_sem]))
  have z1 : w.heap.size < wo.heap.size := by rw [← hwo]; simp [go_sem]
  have z2 : w.heap.size + 1 < wo.heap.size := by rw [← hwo]; simp [go_sem]
  have s1 : wo.cell? ⟨w.heap.size, 0, none⟩ = some (.int .i64 a) := by rw [← hwo]; simp [go_sem]
  have s2 : wo.cell? ⟨w.heap.size, 1, none⟩ = some (.int .i64 b) := by rw [← hwo]; simp [go_sem]
  have s3 : wo.cell? ⟨w.heap.size, 2, none⟩ = some (.int .i64 c) := by rw [← hwo]; simp [go_sem]
  have s4 : wo.cell? ⟨w.heap.size, 3, none⟩ = some (.int .i64 d) := by rw [← hwo]; simp [go_sem]
  have t1 : wo.cell? ⟨w.heap.size + 1, 0, none⟩ = some (.int .i64 e) := by rw [← hwo]; simp [go_sem]
  have t2 : wo.cell? ⟨w.heap.size + 1, 1, none⟩ = some (.int .i64 f) := by rw [← hwo]; simp [go_sem]
  have t3 : wo.cell? ⟨w.heap.size + 1, 2, none⟩ = some (.int .i64 g) := by rw [← hwo]; simp [go_sem]
  have t4 : wo.cell? ⟨w.heap.size + 1, 3, none⟩ = some (.int .i64 h) := by rw [← hwo]; simp [go_sem]
  clear hwo
  obtain ⟨hPl, hPb, hPc⟩ := HPO.out
  clear hPl
  go_loopw [5, 7] (fun v i wr => ∃ k : Nat, k ≤ 4 ∧ i = .int .i64 k ∧ wr.ownsRow wo.heap.size 23 2 v (endTo a b c d e f g h k).length (ptCells (endTo a b c d e f g h k)) ∧ New wo wr) (fun _ i _ => 4 - (intOf i).toNat)
  case atStart => exact ⟨0, Nat.zero_le _, rfl, World.ownsRow_nil _ _ _ _, New.refl _⟩
  case round =>
    obtain ⟨k, hk, rfl, hown, pr, rfl⟩ := hrel
    have HNR0 := Lib.hid (show New wo (Aft wo pr.d pr.os) from ⟨pr, rfl⟩)
    generalize Aft wo pr.d pr.os = wk at *
    have HNR := HNR0
    clear HNR0
    have HO := Lib.hid hown
    obtain ⟨av, cap, rfl, hav⟩ := own_form hown
    have HAV := Lib.hid hav
    clear hown hav
    have zz1 : w.heap.size < wk.heap.size := Nat.lt_of_lt_of_le z1 HNR.out.size
    have zz2 : w.heap.size + 1 < wk.heap.size := Nat.lt_of_lt_of_le z2 HNR.out.size
    have zz3 : w.heap.size + 1 + 1 < wk.heap.size := Nat.lt_of_lt_of_le hPb HNR.out.size
    have ss1 := (HNR.out.cell z1).trans s1
    have ss2 := (HNR.out.cell z1).trans s2
    have ss3 := (HNR.out.cell z1).trans s3
    have ss4 := (HNR.out.cell z1).trans s4
    have tt1 := (HNR.out.cell z2).trans t1
    have tt2 := (HNR.out.cell z2).trans t2
    have tt3 := (HNR.out.cell z2).trans t3
    have tt4 := (HNR.out.cell z2).trans t4
    by_cases hlt : k < 4
    · obtain ⟨c1, c2⟩ := hPc k hlt
      simp only [Nat.zero_add] at c1 c2
      have cc1 := (HNR.out.cell hPb).trans c1
      have cc2 := (HNR.out.cell hPb).trans c2
      clear c1 c2
      have hle := endTo_le a b c d e f g h k (by omega)
      have HS := Lib.hid (endTo_succ a b c d e f g h k hlt)
      have b1 := HBD.out k
      have H1 := Lib.hid (fun w1 : World => HON1.out (px (fourP a b c d e f g h) k) (py (fourP a b c d e f g h) k) w1 b1.1 b1.2)
      have H2 := Lib.hid (fun w1 : World => HON2.out (px (fourP a b c d e f g h) k) (py (fourP a b c d e f g h) k) w1 b1.1 b1.2)
      have hk4 : (k : Int) < 4 := by omega
      have HB := Lib.hid (show bothB a b c d e f g h (px (fourP a b c d e f g h) k, py (fourP a b c d e f g h) k) = (onR (px (fourP a b c d e f g h) k) (py (fourP a b c d e f g h) k) a b c d && onR (px (fourP a b c d e f g h) k) (py (fourP a b c d e f g h) k) e f g h) from rfl)
      clear b1
      generalize onR (px (fourP a b c d e f g h) k) (py (fourP a b c d e f g h) k) a b c d = S at *
      generalize onR (px (fourP a b c d e f g h) k) (py (fourP a b c d e f g h) k) e f g h = T at *
      generalize hX : px (fourP a b c d e f g h) k = X at *
      generalize hY : py (fourP a b c d e f g h) k = Y at *
      generalize hE : endTo a b c d e f g h k = E at *
      clear hX hY hE
      go_wp2_with fail
      first | refine wp_region_at2 (by kernel_rfl) (by kernel_rfl) ?_ | refine wp_region_at (by kernel_rfl) (by kernel_rfl) ?_
      repeat (go_big_quiet_step ((go_at_call 91; exact calls_new (H1.out _))))
      refine wpQuiet_nil ?_
      rintro _ ⟨q1, rfl⟩
      go_wp2_with fail
      first | refine wp_region_at2 (by kernel_rfl) (by kernel_rfl) ?_ | refine wp_region_at (by kernel_rfl) (by kernel_rfl) ?_
      repeat (go_big_quiet_step ((go_at_call 91; exact calls_new (H2.out _))))
      refine wpQuiet_nil ?_
      rintro _ ⟨q2, rfl⟩
      go_wp2_with fail
      go_loopw [10, 11] (fun u i wr => ∃ j : Nat, j ≤ E.length ∧ i = .int .i64 j ∧ u = .bool (inTo E X Y j) ∧ New wk wr) (fun _ i _ => E.length - (intOf i).toNat)
      case atStart => exact ⟨0, Nat.zero_le _, rfl, by simp [inTo], ⟨q2, rfl⟩⟩
      case round =>
        obtain ⟨j, hj, rfl, rfl, pj, rfl⟩ := hrel
        by_cases hjl : j < E.length
        · obtain ⟨gE, rfl, _, hgb, hgc⟩ := HAV.out (by omega)
          obtain ⟨d1, d2⟩ := hgc j hjl
          simp only [Nat.zero_add] at d1 d2
          have HIN := Lib.hid (inTo_succ E X Y j hjl)
          have hj1 : (j : Int) < (E.length : Int) := by omega
          cases hin : inTo E X Y j
          · rw [hin, Bool.false_or] at HIN
            cases hx : (px E j == X) <;> cases hy : (py E j == Y)
            all_goals
              rw [hx, hy] at HIN
              have HX := Lib.hid hx
              have HY := Lib.hid hy
              simp only [beq_eq_false_iff_ne, beq_iff_eq, ne_eq] at hx hy
              go_wp2_with fail
              first | refine wp_region_at2 (by kernel_rfl) (by kernel_rfl) ?_ | refine wp_region_at (by kernel_rfl) (by kernel_rfl) ?_
              repeat (go_big_quiet_step (fail))
              refine wpQuiet_nil ?_
              rintro _ ⟨q3, rfl⟩
              go_wp2_with fail
              go_roundw
              case rel => exact ⟨j + 1, by omega, by go_num, by rw [HIN.out]; rfl, (New.refl _).aft _ _⟩
              case measure => simp [intOf]; omega
          · rw [hin, Bool.true_or] at HIN
            go_wp2_with fail
            first | refine wp_region_at2 (by kernel_rfl) (by kernel_rfl) ?_ | refine wp_region_at (by kernel_rfl) (by kernel_rfl) ?_
            repeat (go_big_quiet_step (fail))
            refine wpQuiet_nil ?_
            rintro _ ⟨q3, rfl⟩
            go_wp2_with fail
            go_roundw
            case rel => exact ⟨j + 1, by omega, by go_num, by rw [HIN.out], (New.refl _).aft _ _⟩
            case measure => simp [intOf]; omega
        · have HIA := Lib.hid (inTo_all E X Y j (by omega))
          have hj2 : ¬ ((j : Int) < (E.length : Int)) := by omega
          rw [endStep, HB.out, ← HIA.out] at HS
          generalize inTo E X Y j = IN at *
          cases S
          · go_wp2_with fail
            go_roundw
            case rel => exact ⟨k + 1, by omega, by go_num, by rw [HS.out]; exact own_new HO.out ((New.refl _).aft _ _), HNR.out.trans ((New.refl _).aft _ _)⟩
            case measure => simp [intOf]; omega
          · cases T
            · go_wp2_with fail
              go_roundw
              case rel => exact ⟨k + 1, by omega, by go_num, by rw [HS.out]; exact own_new HO.out ((New.refl _).aft _ _), HNR.out.trans ((New.refl _).aft _ _)⟩
              case measure => simp [intOf]; omega
            · cases IN
              · have hlen : ∀ w0 : World, Sem.run Tryz.prog (Builtin.len_ #[40] 3 #[Value.slice av E.length cap]) w0 = .ok (.int .i64 (E.length : Int)) w0 := fun _ => rfl
                generalize hvv : Value.slice av E.length cap = vv at *
                clear hvv HAV
                go_wp2_with (at_builtin; refine wpList_append_lies _ rfl (.tmp 65) (.tmp 70) 40 rfl wo.heap.size 23 i0 _ 2 16 Tryz.underlying40 hi hz0 hz1 hz2 rfl (by omega) vv E.length (ptCells E) rfl ?_ _ 1 1 [.int .i64 X, .int .i64 Y] rfl rfl ?_ ?_ (by omega) ?_ ?_ ?_ _ rfl ?_; exact own_new HO.out (by (repeat (first | exact New.refl _ | apply New.alloc | apply New.aft | apply New.drew | refine New.setCell ?_ ?_ _)); all_goals (first | done | (simp [size_aft]; done) | (simp [size_aft]; omega))); (refine cells_new _ _ _ _ ?_); (simp [go_sem]); (intro u hu; simp at hu; rcases hu with rfl | rfl <;> rfl); (unfold maxLen; omega); omega; (have hsz := HNR.out.size; simp [go_sem]; omega); intro gg cap2 w2 hown2 hgrow2 hor2 hlt2; have HNW := Lib.hid (show New wo w2 from new_grown (HNR.out.trans (by (repeat (first | exact New.refl _ | apply New.alloc | apply New.aft | apply New.drew | refine New.setCell ?_ ?_ _)); all_goals (first | done | (simp [size_aft]; done) | (simp [size_aft]; omega)))) hgrow2 HO.out); have HO2 := Lib.hid hown2; clear hown2 hgrow2 hor2 hlt2)
                go_roundw
                case rel => exact ⟨k + 1, by omega, by go_num, by rw [HS.out]; simp only [Bool.and_self, Bool.not_false, if_true, ptCells_snoc, List.length_append, List.length_cons, List.length_nil]; exact HO2.out, HNW.out⟩
                case measure => simp [intOf]; omega
              · go_wp2_with fail
                go_roundw
                case rel => exact ⟨k + 1, by omega, by go_num, by rw [HS.out]; exact own_new HO.out ((New.refl _).aft _ _), HNR.out.trans ((New.refl _).aft _ _)⟩
                case measure => simp [intOf]; omega
    · obtain rfl : k = 4 := by omega
      go_wp2_with fail
      go_ret
      exact ⟨_, rfl, own_low HO.out HNO.out.size, HNO.out.trans HNR.out⟩

end Go.Proofs.YtpdfbboagaflhaaGreat

set_option linter.unusedSimpArgs false
set_option linter.unusedVariables false
set_option maxRecDepth 100000
namespace Go.Proofs.YtpdfbboagaflhaaGreat
open Go.RowKit

section
variable {a b c d e f g h : Int}
theorem meetR_nil (hE : endsL a b c d e f g h = []) : meetR a b c d e f g h = if turnI a b c d e f * turnI a b c d g h < 0 ∧ turnI e f g h a b * turnI e f g h c d < 0 then 3 else 0 := by rw [meetR, hE]; rfl
theorem meetR_one {p : P2} (hE : endsL a b c d e f g h = [p]) : meetR a b c d e f g h = if (p = (a, b) ∨ p = (c, d)) ∧ (p = (e, f) ∨ p = (g, h)) then 1 else 2 := by rw [meetR, hE]; rfl
theorem meetR_two {p q : P2} {r : List P2} (hE : endsL a b c d e f g h = p :: q :: r) : meetR a b c d e f g h = 4 := by rw [meetR, hE]; rfl
end

set_option maxHeartbeats 8000000 in
theorem ref_meet (a b c d e f g h : Int) (w : World) (ha : 0 ≤ a ∧ a ≤ 10000) (hb : 0 ≤ b ∧ b ≤ 10000) (hc : 0 ≤ c ∧ c ≤ 10000) (hd : 0 ≤ d ∧ d ≤ 10000) (he : 0 ≤ e ∧ e ≤ 10000) (hf : 0 ≤ f ∧ f ≤ 10000) (hg : 0 ≤ g ∧ g ≤ 10000) (hh : 0 ≤ h ∧ h ≤ 10000) :
    Calls Tryz.prog 97 #[sv a b c d, sv e f g h] w fun en w' => en = .returned (.int .u8 (meetR a b c d e f g h)) ∧ New w w' := by
  have HE := Lib.hid (fun w1 : World => ref_ends a b c d e f g h w1 ha hb hc hd he hf hg hh)
  rcases hE : endsL a b c d e f g h with _ | ⟨p, _ | ⟨p2, r⟩⟩
  · have HV := Lib.hid (meetR_nil hE)
    rw [hE] at HE
    have HA := Lib.hid (fun w1 : World => ref_turn a b c d e f w1 (by omega) (by omega) (by omega) (by omega) (by omega) (by omega))
    have HB := Lib.hid (fun w1 : World => ref_turn a b c d g h w1 (by omega) (by omega) (by omega) (by omega) (by omega) (by omega))
    have HC := Lib.hid (fun w1 : World => ref_turn e f g h a b w1 (by omega) (by omega) (by omega) (by omega) (by omega) (by omega))
    have HD := Lib.hid (fun w1 : World => ref_turn e f g h c d w1 (by omega) (by omega) (by omega) (by omega) (by omega) (by omega))
    have m1 := m_bd _ _ (turnI_bd a b c d e f) (turnI_bd a b c d g h)
    have m2 := m_bd _ _ (turnI_bd e f g h a b) (turnI_bd e f g h c d)
    generalize turnI a b c d e f = A1 at *
    generalize turnI a b c d g h = A2 at *
    generalize turnI e f g h a b = B1 at *
    generalize turnI e f g h c d = B2 at *
    have w1 : IntKind.i64.wrap (A1 * A2) = A1 * A2 := IntWalk.i64_in _ (by omega)
    have w2 : IntKind.i64.wrap (B1 * B2) = B1 * B2 := IntWalk.i64_in _ (by omega)
    clear hE ha hb hc hd he hf hg hh
    by_cases h1 : A1 * A2 < 0
    · by_cases h2 : B1 * B2 < 0
      · rw [show (meetR a b c d e f g h) = 3 by rw [HV.out, if_pos ⟨h1, h2⟩]]
        go_enter Tryz.func97, Tryz.ntmps97
        go_wp2_with (go_at_call 95; refine (HE.out _).mono ?_; rintro en w1 ⟨v, rfl, hown, pw, rfl⟩; obtain ⟨av, cap, rfl, _⟩ := own_form hown; clear hown)
        first | refine wp_region_at2 (by kernel_rfl) (by kernel_rfl) ?_ | refine wp_region_at (by kernel_rfl) (by kernel_rfl) ?_
        repeat (go_big_quiet_step (first | (go_at_call 87; with_reducible exact calls_new (HA.out _)) | (go_at_call 87; with_reducible exact calls_new (HB.out _)) | (go_at_call 87; with_reducible exact calls_new (HC.out _)) | (go_at_call 87; with_reducible exact calls_new (HD.out _))))
        refine wpQuiet_nil ?_
        rintro _ ⟨q, rfl⟩
        go_wp2_with fail
        all_goals (go_ret; refine ⟨rfl, ?_⟩; (repeat (first | exact New.refl _ | apply New.alloc | apply New.aft | apply New.drew | refine New.setCell ?_ ?_ _)); all_goals (first | done | (simp [size_aft]; done) | (simp [size_aft]; omega)))
      · rw [show (meetR a b c d e f g h) = 0 by rw [HV.out, if_neg (fun x => h2 x.2)]]
        have hd2 : decide (B1 * B2 < 0) = false := by simpa using h2
        go_enter Tryz.func97, Tryz.ntmps97
        go_wp2_with (go_at_call 95; refine (HE.out _).mono ?_; rintro en w1 ⟨v, rfl, hown, pw, rfl⟩; obtain ⟨av, cap, rfl, _⟩ := own_form hown; clear hown)
        first | refine wp_region_at2 (by kernel_rfl) (by kernel_rfl) ?_ | refine wp_region_at (by kernel_rfl) (by kernel_rfl) ?_
        repeat (go_big_quiet_step (first | (go_at_call 87; with_reducible exact calls_new (HA.out _)) | (go_at_call 87; with_reducible exact calls_new (HB.out _)) | (go_at_call 87; with_reducible exact calls_new (HC.out _)) | (go_at_call 87; with_reducible exact calls_new (HD.out _))))
        refine wpQuiet_nil ?_
        rintro _ ⟨q, rfl⟩
        go_wp2_with fail
        all_goals (go_ret; refine ⟨rfl, ?_⟩; (repeat (first | exact New.refl _ | apply New.alloc | apply New.aft | apply New.drew | refine New.setCell ?_ ?_ _)); all_goals (first | done | (simp [size_aft]; done) | (simp [size_aft]; omega)))
    · rw [show (meetR a b c d e f g h) = 0 by rw [HV.out, if_neg (fun x => h1 x.1)]]
      have hd1 : decide (A1 * A2 < 0) = false := by simpa using h1
      go_enter Tryz.func97, Tryz.ntmps97
      go_wp2_with (go_at_call 95; refine (HE.out _).mono ?_; rintro en w1 ⟨v, rfl, hown, pw, rfl⟩; obtain ⟨av, cap, rfl, _⟩ := own_form hown; clear hown)
      first | refine wp_region_at2 (by kernel_rfl) (by kernel_rfl) ?_ | refine wp_region_at (by kernel_rfl) (by kernel_rfl) ?_
      repeat (go_big_quiet_step (first | (go_at_call 87; with_reducible exact calls_new (HA.out _)) | (go_at_call 87; with_reducible exact calls_new (HB.out _)) | (go_at_call 87; with_reducible exact calls_new (HC.out _)) | (go_at_call 87; with_reducible exact calls_new (HD.out _))))
      refine wpQuiet_nil ?_
      rintro _ ⟨q, rfl⟩
      go_wp2_with fail
      all_goals (go_ret; refine ⟨rfl, ?_⟩; (repeat (first | exact New.refl _ | apply New.alloc | apply New.aft | apply New.drew | refine New.setCell ?_ ?_ _)); all_goals (first | done | (simp [size_aft]; done) | (simp [size_aft]; omega)))
  · have HV := Lib.hid (meetR_one hE)
    rw [hE] at HE
    clear hE ha hb hc hd he hf hg hh
    obtain ⟨x, y⟩ := p
    simp only [Prod.mk.injEq] at HV
    go_enter Tryz.func97, Tryz.ntmps97
    go_wp2_with (go_at_call 95; refine (HE.out _).mono ?_; rintro en w1 ⟨v, rfl, hown, hnew⟩; obtain ⟨av, cap, rfl, hav⟩ := own_form hown; obtain ⟨gE, rfl, _, hgb, hgc⟩ := hav (by simp); obtain ⟨e1, e2⟩ := hgc 0 (by simp); have d1 : w1.cell? ⟨gE, 0, none⟩ = some (.int .i64 x) := (by simpa [px] using e1); have d2 : w1.cell? ⟨gE, 1, none⟩ = some (.int .i64 y) := (by simpa [py] using e2); clear e1 e2; have z1 : w.heap.size < w1.heap.size := (by have := hnew.size; simp [go_sem] at this; omega); have z2 : w.heap.size + 1 < w1.heap.size := (by have := hnew.size; simp [go_sem] at this; omega); have s1 : w1.cell? ⟨w.heap.size, 0, none⟩ = some (.int .i64 a) := (by rw [hnew.cell (by simp [go_sem])]; simp [go_sem]); have s2 : w1.cell? ⟨w.heap.size, 1, none⟩ = some (.int .i64 b) := (by rw [hnew.cell (by simp [go_sem])]; simp [go_sem]); have s3 : w1.cell? ⟨w.heap.size, 2, none⟩ = some (.int .i64 c) := (by rw [hnew.cell (by simp [go_sem])]; simp [go_sem]); have s4 : w1.cell? ⟨w.heap.size, 3, none⟩ = some (.int .i64 d) := (by rw [hnew.cell (by simp [go_sem])]; simp [go_sem]); have t1 : w1.cell? ⟨w.heap.size + 1, 0, none⟩ = some (.int .i64 e) := (by rw [hnew.cell (by simp [go_sem])]; simp [go_sem]); have t2 : w1.cell? ⟨w.heap.size + 1, 1, none⟩ = some (.int .i64 f) := (by rw [hnew.cell (by simp [go_sem])]; simp [go_sem]); have t3 : w1.cell? ⟨w.heap.size + 1, 2, none⟩ = some (.int .i64 g) := (by rw [hnew.cell (by simp [go_sem])]; simp [go_sem]); have t4 : w1.cell? ⟨w.heap.size + 1, 3, none⟩ = some (.int .i64 h) := (by rw [hnew.cell (by simp [go_sem])]; simp [go_sem]); have HNW := Lib.hid (New.trans ((by (repeat (first | exact New.refl _ | apply New.alloc | apply New.aft | apply New.drew | refine New.setCell ?_ ?_ _)); all_goals (first | done | (simp [size_aft]; done) | (simp [size_aft]; omega))) : New w _) hnew); clear hown hav hgc hnew)
    all_goals (go_ret; refine ⟨ret_int (by rw [HV.out]; split <;> omega), HNW.out.trans ?_⟩; (repeat (first | exact New.refl _ | apply New.alloc | apply New.aft | apply New.drew | refine New.setCell ?_ ?_ _)); all_goals (first | done | (simp [size_aft]; done) | (simp [size_aft]; omega)))
  · have HV := Lib.hid (meetR_two hE)
    rw [hE] at HE
    clear hE ha hb hc hd he hf hg hh
    rw [HV.out]
    have hl : (1 : Int) < ((p :: p2 :: r).length : Int) := by simp; omega
    generalize (p :: p2 :: r) = L at *
    go_enter Tryz.func97, Tryz.ntmps97
    go_wp2_with (go_at_call 95; refine (HE.out _).mono ?_; rintro en w1 ⟨v, rfl, hown, pw, rfl⟩; obtain ⟨av, cap, rfl, _⟩ := own_form hown; clear hown)
    all_goals (go_ret; refine ⟨rfl, ?_⟩; (repeat (first | exact New.refl _ | apply New.alloc | apply New.aft | apply New.drew | refine New.setCell ?_ ?_ _)); all_goals (first | done | (simp [size_aft]; done) | (simp [size_aft]; omega)))

set_option maxHeartbeats 4000000 in
theorem ref_Meet (a b c d e f g h : Int) (w : World) : Calls Tryz.prog 37 #[sv a b c d, sv e f g h] w fun en w' => en = .returned (.int .u8 (MeetI a b c d e f g h)) ∧ New w w' := by
  have H1 := Lib.hid (ref_validSeg a b c d)
  have H2 := Lib.hid (ref_validSeg e f g h)
  by_cases k1 : okS a b c d = true
  · by_cases k2 : okS e f g h = true
    · obtain ⟨⟨ha, hb⟩, ⟨hc, hd⟩, _⟩ := okS_iff.1 k1
      obtain ⟨⟨he, hf⟩, ⟨hg, hh⟩, _⟩ := okS_iff.1 k2
      have HM := Lib.hid (fun w1 : World => ref_meet a b c d e f g h w1 ha hb hc hd he hf hg hh)
      rw [k1] at H1
      rw [k2] at H2
      rw [meet_eq k1 k2, show meetI a b c d e f g h = MeetI a b c d e f g h from (if_pos ⟨k1, k2⟩).symm] at HM
      clear k1 k2 ha hb hc hd he hf hg hh
      generalize MeetI a b c d e f g h = K at *
      go_enter Tryz.func37, Tryz.ntmps37
      go_wp2_with (first | (go_at_call 90; (with_reducible refine (H1.out _).mono ?_); rintro en w1 ⟨rfl, pw, rfl⟩) | (go_at_call 90; (with_reducible refine (H2.out _).mono ?_); rintro en w1 ⟨rfl, pw, rfl⟩) | (go_at_call 97; refine (HM.out _).mono ?_; rintro en w1 ⟨rfl, pw, rfl⟩))
      all_goals (go_ret; refine ⟨rfl, ?_⟩; (repeat (first | exact New.refl _ | apply New.alloc | apply New.aft | apply New.drew | refine New.setCell ?_ ?_ _)); all_goals (first | done | (simp [size_aft]; done) | (simp [size_aft]; omega)))
    · rw [show MeetI a b c d e f g h = 0 from if_neg (fun x => k2 x.2)]
      rw [show okS e f g h = false by simpa using k2] at H2
      rw [k1] at H1
      clear k1 k2
      go_enter Tryz.func37, Tryz.ntmps37
      go_wp2_with (first | (go_at_call 90; (with_reducible refine (H1.out _).mono ?_); rintro en w1 ⟨rfl, pw, rfl⟩) | (go_at_call 90; (with_reducible refine (H2.out _).mono ?_); rintro en w1 ⟨rfl, pw, rfl⟩))
      all_goals (go_ret; refine ⟨rfl, ?_⟩; (repeat (first | exact New.refl _ | apply New.alloc | apply New.aft | apply New.drew | refine New.setCell ?_ ?_ _)); all_goals (first | done | (simp [size_aft]; done) | (simp [size_aft]; omega)))
  · rw [show MeetI a b c d e f g h = 0 from if_neg (fun x => k1 x.1)]
    rw [show okS a b c d = false by simpa using k1] at H1
    clear k1
    generalize okS e f g h = B at *
    go_enter Tryz.func37, Tryz.ntmps37
    go_wp2_with (first | (go_at_call 90; (with_reducible refine (H1.out _).mono ?_); rintro en w1 ⟨rfl, pw, rfl⟩) | (go_at_call 90; (with_reducible refine (H2.out _).mono ?_); rintro en w1 ⟨rfl, pw, rfl⟩))
    all_goals (go_ret; refine ⟨rfl, ?_⟩; (repeat (first | exact New.refl _ | apply New.alloc | apply New.aft | apply New.drew | refine New.setCell ?_ ?_ _)); all_goals (first | done | (simp [size_aft]; done) | (simp [size_aft]; omega)))

end Go.Proofs.YtpdfbboagaflhaaGreat

set_option linter.unusedSimpArgs false
set_option linter.unusedVariables false
set_option linter.constructorNameAsVariable false
set_option maxRecDepth 100000
namespace Go.Proofs.YtpdfbboagaflhaaGreat
open Go.ChangeShapes Go.WideShapes Go.ChangeAt Go.RowKit Go.Joins Go.Deep

theorem cell_lt {w : World} {b o : Nat} {v : Value} (h : w.cell? ⟨b, o, none⟩ = some v) : b < w.heap.size := by
  rcases Nat.lt_or_ge b w.heap.size with hh | hh
  · exact hh
  · simp [World.cell?, Array.getElem?_eq_none hh] at h
section
variable {H : Type} {enc : TypeId × Value → H} {W : World} {base b0 : Nat} {spare : Nat → Bool} {held : Bool} {v : Value} {d : DataW H} {p : List MemPlace}
theorem open_int (hv : Value.okWide Tryz.prog W .any b0 3 v) (h : DataW.Trod enc Tryz.prog W base spare held 3 v d p) : ∃ x, v = .int .i64 x ∧ (Lit.int .i64 x).wf = true := by
  obtain ⟨fuel, hf⟩ := h
  obtain ⟨a, e0, _, wa⟩ := DataW.trod_int Tryz.underlying3 hf
  have hv' := hv
  simp only [Value.okWide, Tryz.underlying3, Cell.okWide] at hv'
  cases v <;> simp_all [Cell.ok, Value.cells]
theorem open_pts (hv : Value.okWide Tryz.prog W .any b0 40 v) (h : DataW.Trod enc Tryz.prog W base spare held 40 v d p) :
    ∃ av n cap l, v = .slice av n cap ∧ l.length = n ∧ (0 < n → ∃ b off, av = some ⟨b, off, none⟩ ∧ Pts W b off n l) := by
  obtain ⟨av, n, cap, rfl⟩ := okWide_slice Tryz.underlying40 hv
  obtain ⟨fuel, hf⟩ := h
  rcases open_slice_pairs Tryz.underlying40 Tryz.underlying23 cells_23 rfl rfl cells_3 cells_3 hf with ⟨hcs, _⟩ | ⟨a, len, cap', m, n', V0, V1, D0, D1, P0, P1, hcs, _, hlc, _, hm, _, hi⟩
  · simp only [Value.cells, List.cons.injEq, Value.slice.injEq, and_true] at hcs
    obtain ⟨rfl, rfl, rfl⟩ := hcs
    exact ⟨none, 0, 0, [], rfl, rfl, fun h => absurd h (by omega)⟩
  · simp only [Value.cells, List.cons.injEq, Value.slice.injEq, and_true] at hcs
    obtain ⟨rfl, rfl, rfl⟩ := hcs
    have hnm : n ≤ m := by rw [hm]; split <;> omega
    have hx : ∀ i, i < n → ∃ q : P2, V0 i = .int .i64 q.1 ∧ V1 i = .int .i64 q.2 := fun i hi' => by
      obtain ⟨_, _, t0, t1⟩ := hi i (by omega)
      obtain ⟨x, e0, _, _⟩ := DataW.trod_int Tryz.underlying3 t0
      obtain ⟨y, e1, _, _⟩ := DataW.trod_int Tryz.underlying3 t1
      simp only [List.cons.injEq, and_true] at e0 e1
      exact ⟨(x, y), e0, e1⟩
    obtain ⟨q, hq⟩ := choose_lt hx
    refine ⟨some a, n, cap, (List.range n).map q, rfl, by simp, fun h0 => ?_⟩
    obtain ⟨b, off, spot⟩ := a
    have hspot : spot = none := by simpa [Addr.add] using World.cell?_spot (hi 0 (by omega)).1
    subst hspot
    have hcell : ∀ i, i < n → W.cell? ⟨b, off + i * 2, none⟩ = some (.int .i64 (q i).1) ∧ W.cell? ⟨b, off + i * 2 + 1, none⟩ = some (.int .i64 (q i).2) := fun i hi' => by
      obtain ⟨k0, k1, _, _⟩ := hi i (by omega)
      rw [(hq i hi').1] at k0
      rw [(hq i hi').2] at k1
      rw [add_plain] at k0 k1
      exact ⟨k0, k1⟩
    refine ⟨b, off, rfl, by simp, cell_lt (hcell 0 h0).1, fun i hi' => ?_⟩
    have e1 : px ((List.range n).map q) i = (q i).1 := by simp [px, List.getD_eq_getElem?_getD, hi']
    have e2 : py ((List.range n).map q) i = (q i).2 := by simp [py, List.getD_eq_getElem?_getD, hi']
    rw [e1, e2]
    exact hcell i hi'
end
end Go.Proofs.YtpdfbboagaflhaaGreat

set_option linter.unusedSimpArgs false
set_option linter.unusedVariables false
namespace Go.Proofs.YtpdfbboagaflhaaGreat
open Go.RowKit Go.Maps

set_option maxHeartbeats 4000000 in
theorem ref_allValid (b off n c : Nat) (l : List P2) (w : World) (hl : n ≤ 1000000000) (hw : Pts w b off n l) :
    Calls Tryz.prog 104 #[.slice (some ⟨b, off, none⟩) n c] w fun en w' => en = .returned (.bool (okL l)) ∧ New w w' := by
  obtain ⟨hn, hb, hcell⟩ := hw
  have HN := Lib.hid hn
  clear hn
  go_enter Tryz.func104, Tryz.ntmps104
  go_wp2_with fail
  go_loopw [3] (fun i wr => ∃ k : Nat, k ≤ n ∧ i = .int .i64 k ∧ okL (l.take k) = true ∧ New w wr) (fun i _ => n - (intOf i).toNat)
  case atStart => exact ⟨0, Nat.zero_le _, rfl, by simp [okL], New.refl w⟩
  case round =>
    obtain ⟨k, hk, rfl, hok, pr, rfl⟩ := hrel
    have HOK := Lib.hid hok
    clear hok
    by_cases hlt : k < n
    · obtain ⟨c1, c2⟩ := hcell k hlt
      have HV := Lib.hid (ref_valid (px l k) (py l k))
      by_cases hv : okP (px l k) (py l k) = true
      · rw [hv] at HV
        go_wp2_with (go_at_call 86; refine (HV.out _).mono ?_; rintro e w1 ⟨rfl, pw, rfl⟩)
        go_roundw
        case rel => exact ⟨k + 1, by omega, by go_num, by rw [okL_snoc l k (by rw [HN.out]; exact hlt), HOK.out, hv]; rfl, by (repeat (first | exact New.refl _ | apply New.alloc | apply New.aft | apply New.drew | refine New.setCell ?_ ?_ _)); all_goals (first | done | (simp [size_aft]; done) | (simp [size_aft]; omega))⟩
        case measure => simp [intOf]; omega
      · have hv' : okP (px l k) (py l k) = false := by simpa using hv
        rw [hv'] at HV
        have HF := Lib.hid (okL_not l k (by rw [HN.out]; exact hlt) hv')
        clear hv hv'
        go_wp2_with (go_at_call 86; refine (HV.out _).mono ?_; rintro e w1 ⟨rfl, pw, rfl⟩)
        go_ret
        refine ⟨ret_bool HF.out.symm, ?_⟩
        (repeat (first | exact New.refl _ | apply New.alloc | apply New.aft | apply New.drew | refine New.setCell ?_ ?_ _)); all_goals (first | done | (simp [size_aft]; done) | (simp [size_aft]; omega))
    · go_wp2_with fail
      go_ret
      have h1 : okL l = true := by
        have := HOK.out
        rwa [List.take_of_length_le (by rw [HN.out]; omega)] at this
      refine ⟨ret_bool h1.symm, ?_⟩
      (repeat (first | exact New.refl _ | apply New.alloc | apply New.aft | apply New.drew | refine New.setCell ?_ ?_ _)); all_goals (first | done | (simp [size_aft]; done) | (simp [size_aft]; omega))

set_option maxHeartbeats 1000000 in
theorem ref_allValid_nil (w : World) (v : Option Addr) (c : Nat) : Calls Tryz.prog 104 #[.slice v 0 c] w fun en w' => en = .returned (.bool true) ∧ New w w' := by
  go_enter Tryz.func104, Tryz.ntmps104
  go_wp2_with fail
  refine wp_loop_rounds 1 ?_
  repeat any_goals (rw [rounds_succ]; go_wp2)
  go_ret; exact ⟨rfl, New.refl _⟩

set_option maxHeartbeats 1000000 in
theorem checkPoints_nil (v : Option Addr) (c : Nat) (most : Int) (hm : 0 ≤ most) (w : World) : Calls Tryz.prog 84 #[.slice v 0 c, .int .i64 most] w fun en w' => en = .returned (.int .i64 0) ∧ New w w' := by
  go_enter Tryz.func84, Tryz.ntmps84
  go_wp2_with fail
  all_goals (try (exfalso; omega))
  refine wp_loop_rounds 1 ?_
  repeat any_goals (rw [rounds_succ]; go_wp2)
  go_ret; exact ⟨rfl, New.refl _⟩

set_option maxHeartbeats 1000000 in
theorem length_nil (v : Option Addr) (c : Nat) (w : World) : Calls Tryz.prog 42 #[.slice v 0 c] w fun en w' => en = .returned (.int .i64 0) ∧ New w w' := by
  have HC := Lib.hid (checkPoints_nil v c 400 (by omega))
  go_enter Tryz.func42, Tryz.ntmps42
  go_wp2_with (go_at_call 84; refine (HC.out _).mono ?_; rintro e w1 ⟨rfl, pw, rfl⟩)
  refine wp_loop_rounds 1 ?_
  repeat any_goals (rw [rounds_succ]; go_wp2)
  go_ret; refine ⟨rfl, ?_⟩; (repeat (first | exact New.refl _ | apply New.alloc | apply New.aft | apply New.drew | refine New.setCell ?_ ?_ _)); all_goals (first | done | (simp [size_aft]; done) | (simp [size_aft]; omega))

theorem addKeys_len : ∀ (ks acc : List Lit), (∀ x ∈ ks, WideAt.IsKeyLit x) → ((ks.foldl addKey acc).length ≤ acc.length + ks.length) ∧ ((ks.foldl addKey acc).length = acc.length + ks.length ↔ ks.Nodup ∧ ∀ x ∈ ks, x ∉ acc)
  | [], acc, _ => by simp
  | x :: r, acc, h => by
    rw [List.foldl_cons]
    have hx := h x (by simp)
    have hr : ∀ y ∈ r, WideAt.IsKeyLit y := fun y hy => h y (by simp [hy])
    have hany : (acc.any fun y => y.sameKey x) = true ↔ x ∈ acc := by
      rw [List.any_eq_true]
      constructor
      · rintro ⟨y, hy, hs⟩; rw [WideAt.sameKey_iff hx] at hs; subst hs; exact hy
      · intro hm; exact ⟨x, hm, (WideAt.sameKey_iff hx).2 rfl⟩
    by_cases hm : x ∈ acc
    · rw [show addKey acc x = acc from if_pos (hany.2 hm)]
      have ih := addKeys_len r acc hr
      constructor
      · have := ih.1; simp only [List.length_cons]; omega
      · constructor
        · intro e; have := ih.1; simp only [List.length_cons] at e; omega
        · intro e; exact absurd hm (e.2 x (by simp))
    · rw [show addKey acc x = acc ++ [x] from if_neg (fun hh => hm (hany.1 hh))]
      have ih := addKeys_len r (acc ++ [x]) hr
      simp only [List.length_append, List.length_cons, List.length_nil] at ih ⊢
      constructor
      · omega
      · rw [show acc.length + (r.length + 1) = acc.length + (0 + 1) + r.length by omega, ih.2, List.nodup_cons]
        simp only [List.mem_append, List.mem_cons, List.not_mem_nil, or_false]
        constructor
        · rintro ⟨h1, h2⟩
          refine ⟨⟨fun hh => h2 x hh (.inr rfl), h1⟩, ?_⟩
          rintro y (rfl | hy)
          · exact hm
          · exact fun hh => h2 y hy (.inl hh)
        · rintro ⟨⟨h1, h2⟩, h3⟩
          refine ⟨h2, fun y hy => ?_⟩
          rintro (hh | rfl)
          · exact h3 y (.inr hy) hh
          · exact h1 hy
theorem keysTo_key (l : List P2) (k : Nat) : ∀ x ∈ keysTo l k, WideAt.IsKeyLit x := fun x hx => by
  simp only [keysTo, List.mem_map] at hx
  obtain ⟨i, _, rfl⟩ := hx
  trivial
theorem repI_nodup (l : List P2) : repI l = false ↔ (keysTo l l.length).Nodup := by
  have h := addKeys_len (keysTo l l.length) [] (keysTo_key l _)
  have hlen : (keysTo l l.length).length = l.length := by simp [keysTo]
  unfold repI
  rw [decide_eq_false_iff_not]
  simp only [List.length_nil, Nat.zero_add, hlen, List.not_mem_nil, not_false_eq_true, implies_true, and_true] at h
  rw [← h.2]
  omega
theorem nodup_map_range {β : Type} (f : Nat → β) (n : Nat) : ((List.range n).map f).Nodup ↔ ∀ i j, i < n → j < n → f i = f j → i = j := by
  rw [List.nodup_iff_pairwise_ne, List.pairwise_map, List.pairwise_iff_getElem]
  simp only [List.getElem_range, List.length_range]
  constructor
  · intro h i j hi hj e
    rcases Nat.lt_trichotomy i j with hh | hh | hh
    · exact absurd e (h i j hi hj hh)
    · exact hh
    · exact absurd e.symm (h j i hj hi hh)
  · intro h i j hi hj hij e
    have := h i j hi hj e
    omega
/-- no point comes twice -/
theorem rep_no {l : List P2} (h : repI l = false) {i j : Nat} (hi : i < l.length) (hj : j < l.length) (hx : px l i = px l j) (hy : py l i = py l j) : i = j := by
  rw [repI_nodup, keysTo, nodup_map_range] at h
  exact h i j hi hj (by rw [hx, hy])

theorem okS_edge {l : List P2} (h : polyI l = 0) {k : Nat} (hk : k < l.length) : okS (px l k) (py l k) (px l ((k + 1) % l.length)) (py l ((k + 1) % l.length)) = true := by
  obtain ⟨h1, h2, h3, h4⟩ := polyI_ok h
  obtain ⟨_, hok⟩ := ckPts_zero h1
  have hm : (k + 1) % l.length < l.length := Nat.mod_lt _ (by omega)
  rw [okS_iff]
  refine ⟨okL_bd hok k, okL_bd hok _, ?_⟩
  rintro ⟨e1, e2⟩
  have := rep_no h3 hk hm e1 e2
  by_cases hl : k + 1 = l.length
  · rw [hl, Nat.mod_self] at this; omega
  · rw [Nat.mod_eq_of_lt (by omega)] at this; omega
theorem where_corner {l : List P2} (h : polyI l = 0) {k : Nat} (hk : k < l.length) : WhereI l (px l k) (py l k) = 1 := by
  obtain ⟨h1, h2, h3, h4⟩ := polyI_ok h
  obtain ⟨_, hok⟩ := ckPts_zero h1
  have hp := okL_at l k hk hok
  rw [WhereI, if_pos ⟨hp, h⟩, whereI, anyOn_at (edgesL l) (px l k) (py l k) k l.length hk, if_pos rfl]
  obtain ⟨e1, e2, e3, e4⟩ := edgesL_at l k hk
  rw [onAt, e1, e2, e3, e4, ← onR_eq, onR_A]
theorem on_edge {l : List P2} (h : polyI l = 0) {p q : Int} (hp : okP p q = true) {k : Nat} (hk : k < l.length) : OnX p q (px l k) (py l k) (px l ((k + 1) % l.length)) (py l ((k + 1) % l.length)) = onAt (edgesL l) p q k := by
  obtain ⟨e1, e2, e3, e4⟩ := edgesL_at l k hk
  rw [OnX, hp, okS_edge h hk, onAt, e1, e2, e3, e4]; rfl
theorem border_last {l : List P2} (h : polyI l = 0) {p q : Int} (hp : okP p q = true) : (anyOn (edgesL l) p q l.length == (WhereI l p q == 1)) = true := by
  rw [WhereI, if_pos ⟨hp, h⟩, whereI]
  cases anyOn (edgesL l) p q l.length
  · cases oddTo (edgesL l) p q l.length <;> decide
  · cases oddTo (edgesL l) p q l.length <;> decide

set_option maxHeartbeats 1000000 in
theorem checkPoly_nil (v : Option Addr) (c : Nat) (w : World) : Calls Tryz.prog 44 #[.slice v 0 c] w fun en w' => en = .returned (.int .i64 1) ∧ New w w' := by
  have HC := Lib.hid (checkPoints_nil v c 200 (by omega))
  go_enter Tryz.func44, Tryz.ntmps44
  go_wp2_with (go_at_call 84; refine (HC.out _).mono ?_; rintro e w1 ⟨rfl, pw, rfl⟩)
  go_ret; refine ⟨rfl, ?_⟩; (repeat (first | exact New.refl _ | apply New.alloc | apply New.aft | apply New.drew | refine New.setCell ?_ ?_ _)); all_goals (first | done | (simp [size_aft]; done) | (simp [size_aft]; omega))

end Go.Proofs.YtpdfbboagaflhaaGreat

set_option linter.unusedSimpArgs false
set_option linter.unusedVariables false
set_option maxRecDepth 100000
namespace Go.Proofs.YtpdfbboagaflhaaGreat
open Go.RowKit Go.Maps

theorem ptLit_one {x y x' y' : Int} (e : ptLit x y = ptLit x' y') (h1 : 0 ≤ x ∧ x ≤ 10000) (h2 : 0 ≤ y ∧ y ≤ 10000) (h3 : 0 ≤ x' ∧ x' ≤ 10000) (h4 : 0 ≤ y' ∧ y' ≤ 10000) : x = x' ∧ y = y' := by
  unfold ptLit at e
  simp only [Lit.string.injEq] at e
  have w1 : (Lit.int .i64 x).wf = true := WalkArith.wf_i64 (by omega)
  have w2 : (Lit.int .i64 y).wf = true := WalkArith.wf_i64 (by omega)
  have w3 : (Lit.int .i64 x').wf = true := WalkArith.wf_i64 (by omega)
  have w4 : (Lit.int .i64 y').wf = true := WalkArith.wf_i64 (by omega)
  have := keyBytes_inj (l := [.int .i64 x, .int .i64 y]) (l' := [.int .i64 x', .int .i64 y']) (by simp [Alike, Lit.sameKind]) (by simp [Lit.keyWf, w1, w2]) (by simp [Lit.keyWf, w3, w4]) e
  simpa using this
theorem rep_none {l : List P2} (hok : okL l = true) (h : ∀ i j : Nat, j < i → i < l.length → ¬ (px l i = px l j ∧ py l i = py l j)) : repI l = false := by
  rw [repI_nodup, keysTo, nodup_map_range]
  intro i j hi hj e
  have b1 := okL_bd hok i
  have b2 := okL_bd hok j
  have := ptLit_one e b1.1 b1.2 b2.1 b2.2
  rcases Nat.lt_trichotomy i j with hh | hh | hh
  · exact absurd ⟨this.1.symm, this.2.symm⟩ (h j i hh hj)
  · exact hh
  · exact absurd this (h i j hh hi)
theorem rep_pair {l : List P2} {i j : Nat} (hj : j < i) (hi : i < l.length) (hx : px l i = px l j) (hy : py l i = py l j) : repI l = true := by
  cases h : repI l
  · have := rep_no h hi (by omega) hx hy; omega
  · rfl

set_option maxHeartbeats 4000000 in
theorem ref_edge (b off n c k : Nat) (l : List P2) (w : World) (hk : k < n) (hl : n ≤ 1000000) (hw : Pts w b off n l) :
    Calls Tryz.prog 110 #[.slice (some ⟨b, off, none⟩) n c, .int .i64 k] w fun en w' => en = .returned (sv (px l k) (py l k) (px l ((k + 1) % n)) (py l ((k + 1) % n))) ∧ New w w' := by
  obtain ⟨hn, hb, hcell⟩ := hw
  obtain ⟨c1, c2⟩ := hcell k hk
  have hkn : (k : Int) < (n : Int) := by omega
  have hb1 : b < w.heap.size + 1 := by omega
  have hw1 : IntKind.i64.wrap ((k : Int) + 1) = (k : Int) + 1 := IntWalk.i64_in _ (by omega)
  have hnz : (n = 0) = False := eq_false (by omega)
  by_cases hlast : k + 1 = n
  · obtain ⟨d1, d2⟩ := hcell 0 (by omega)
    simp only [Nat.zero_mul, Nat.add_zero] at d1 d2
    have hr : ((k : Int) + 1).tmod (n : Int) = 0 := by rw [show (k : Int) + 1 = (n : Int) by omega]; exact Int.tmod_self
    rw [hlast, Nat.mod_self]
    clear hcell hn hlast
    go_enter Tryz.func110, Tryz.ntmps110
    go_wp2_with fail
    go_region
    all_goals (go_wp2_with fail)
    all_goals (refine bodyPost_ret (v := sv (px l k) (py l k) (px l 0) (py l 0)) (by simp [results, Tryz.results110, go_sem]) rfl ⟨rfl, ?_⟩; (repeat (first | exact New.refl _ | apply New.alloc | apply New.aft | apply New.drew | refine New.setCell ?_ ?_ _)); all_goals (first | done | (simp [size_aft]; done) | (simp [size_aft]; omega)))
  · obtain ⟨d1, d2⟩ := hcell (k + 1) (by omega)
    have hr : ((k : Int) + 1).tmod (n : Int) = (k : Int) + 1 := Int.tmod_eq_of_lt (by omega) (by omega)
    have hge : (0 : Int) ≤ (k : Int) + 1 := by omega
    have hlt3 : (k : Int) + 1 < (n : Int) := by omega
    have htn : ((k : Int) + 1).toNat = k + 1 := by omega
    rw [Nat.mod_eq_of_lt (by omega)]
    clear hcell hn hlast
    go_enter Tryz.func110, Tryz.ntmps110
    go_wp2_with fail
    go_region
    all_goals (go_wp2_with fail)
    all_goals (refine bodyPost_ret (v := sv (px l k) (py l k) (px l (k + 1)) (py l (k + 1))) (by simp [results, Tryz.results110, go_sem]) rfl ⟨rfl, ?_⟩; (repeat (first | exact New.refl _ | apply New.alloc | apply New.aft | apply New.drew | refine New.setCell ?_ ?_ _)); all_goals (first | done | (simp [size_aft]; done) | (simp [size_aft]; omega)))

set_option maxHeartbeats 16000000 in
theorem ref_simple (b off n c : Nat) (l : List P2) (w : World) (h0 : 3 ≤ n) (hl : n ≤ 1000000) (hw : Pts w b off n l) (hok : okL l = true) (hE : ∀ k, k < n → okS (px l k) (py l k) (px l ((k + 1) % n)) (py l ((k + 1) % n)) = true) :
    Calls Tryz.prog 108 #[.slice (some ⟨b, off, none⟩) n c] w fun en w' => en = .returned (.bool (apartB l)) ∧ New w w' := by
  have HW := Lib.hid hw
  have HN := Lib.hid hw.1
  have HED := Lib.hid (fun (k : Nat) (hk : k < n) (w1 : World) (h1 : New w w1) => ref_edge b off n c k l w1 hk hl (HW.out.new h1))
  have HEO := Lib.hid hE
  have HB := Lib.hid (okL_bd hok)
  clear hw hok hE
  go_enter Tryz.func108, Tryz.ntmps108
  go_wp2_with fail
  go_loopw [4] (fun i wr => ∃ k : Nat, k ≤ n ∧ i = .int .i64 k ∧ RowsOk (edgesL l) n k ∧ New w wr) (fun i _ => n - (intOf i).toNat)
  case atStart => exact ⟨0, Nat.zero_le _, rfl, fun i hi => absurd hi (Nat.not_lt_zero _), New.refl _⟩
  case round =>
    obtain ⟨k, hk, rfl, hrows, pr, rfl⟩ := hrel
    have HR := Lib.hid hrows
    clear hrows
    by_cases hlt : k < n
    · have k1 := HEO.out k hlt
      have HE1 := Lib.hid (HED.out k hlt)
      go_wp2_with fail
      go_loopw [5] (fun j wr => ∃ m : Nat, k + 1 ≤ m ∧ m ≤ n ∧ j = .int .i64 m ∧ RowOk (edgesL l) n k m ∧ New w wr) (fun j _ => n - (intOf j).toNat)
      case atStart => exact ⟨k + 1, Nat.le_refl _, by omega, by go_num, rowOk_start _ _ _, by (repeat (first | exact New.refl _ | apply New.alloc | apply New.aft | apply New.drew | refine New.setCell ?_ ?_ _)); all_goals (first | done | (simp [size_aft]; done) | (simp [size_aft]; omega))⟩
      case round =>
        obtain ⟨m, hm1, hm2, rfl, hrow, po, rfl⟩ := hrel
        have HM := Lib.hid hrow
        clear hrow
        by_cases hmn : m < n
        · have k2 := HEO.out m hmn
          have HE2 := Lib.hid (HED.out m hmn)
          obtain ⟨⟨a1, a2⟩, ⟨a3, a4⟩, _⟩ := okS_iff.1 k1
          obtain ⟨⟨e1, e2⟩, ⟨e3, e4⟩, _⟩ := okS_iff.1 k2
          have HMT := Lib.hid (fun w3 : World => ref_meet (px l k) (py l k) (px l ((k + 1) % n)) (py l ((k + 1) % n)) (px l m) (py l m) (px l ((m + 1) % n)) (py l ((m + 1) % n)) w3 a1 a2 a3 a4 e1 e2 e3 e4)
          rw [meet_eq k1 k2] at HMT
          have hME : meetI (px l k) (py l k) (px l ((k + 1) % n)) (py l ((k + 1) % n)) (px l m) (py l m) (px l ((m + 1) % n)) (py l ((m + 1) % n)) = meetE (edgesL l) k m := by
            obtain ⟨x1, x2, x3, x4⟩ := edgesL_at l k (by rw [HN.out]; exact hlt)
            obtain ⟨y1, y2, y3, y4⟩ := edgesL_at l m (by rw [HN.out]; exact hmn)
            rw [meetE, x1, x2, x3, x4, y1, y2, y3, y4, HN.out]
          rw [hME] at HMT
          have HNO := Lib.hid (fun (hne : meetE (edgesL l) k m ≠ wantI n k m) => apartB_no (l := l) (i := k) (j := m) (by omega) (by rw [HN.out]; exact hmn) (by rw [HN.out]; exact hne))
          have HOKE := Lib.hid (fun (he : meetE (edgesL l) k m = wantI n k m) => rowOk_succ HM.out he)
          clear a1 a2 a3 a4 e1 e2 e3 e4 k2 hME
          have wk : IntKind.i64.wrap ((k : Int) + 1) = (k : Int) + 1 := IntWalk.i64_in _ (by omega)
          have wn : IntKind.i64.wrap ((n : Int) - 1) = (n : Int) - 1 := IntWalk.i64_in _ (by omega)
          have hcase : (m = k + 1) ∨ (m ≠ k + 1 ∧ k = 0 ∧ m + 1 = n) ∨ (m ≠ k + 1 ∧ k = 0 ∧ m + 1 ≠ n) ∨ (m ≠ k + 1 ∧ k ≠ 0) := by omega
          rcases hcase with hc | ⟨hc, hd, he⟩ | ⟨hc, hd, he⟩ | ⟨hc, hd⟩
          · rw [want_1 (.inl hc)] at HNO HOKE
            generalize meetE (edgesL l) k m = K at *
            have u1 : ((m : Int) == (k : Int) + 1) = true := by simp; omega
            clear hc
            by_cases hK : K = 1
            · have HK := Lib.hid (HOKE.out hK)
              have z1 : (K == 1) = true := by simpa using hK
              have z2 : (K != 1) = false := by simpa using hK
              clear hK HNO HOKE
              go_wp2_with (first | (go_at_call 110; (with_reducible refine (HE1.out _ (by (repeat (first | exact New.refl _ | apply New.alloc | apply New.aft | apply New.drew | refine New.setCell ?_ ?_ _)); all_goals (first | done | (simp [size_aft]; done) | (simp [size_aft]; omega)))).mono ?_); rintro en w1 ⟨rfl, pw, rfl⟩) | (go_at_call 110; (with_reducible refine (HE2.out _ (by (repeat (first | exact New.refl _ | apply New.alloc | apply New.aft | apply New.drew | refine New.setCell ?_ ?_ _)); all_goals (first | done | (simp [size_aft]; done) | (simp [size_aft]; omega)))).mono ?_); rintro en w1 ⟨rfl, pw, rfl⟩) | (go_at_call 97; refine (HMT.out _).mono ?_; rintro en w1 ⟨rfl, pw, rfl⟩))
              refine ⟨⟨m + 1, by omega, by omega, by go_num, HK.out, by (repeat (first | exact New.refl _ | apply New.alloc | apply New.aft | apply New.drew | refine New.setCell ?_ ?_ _)); all_goals (first | done | (simp [size_aft]; done) | (simp [size_aft]; omega))⟩, by simp [intOf]; omega⟩
            · have HF := Lib.hid (HNO.out hK)
              have z1 : (K == 1) = false := by simpa using hK
              have z2 : (K != 1) = true := by simpa using hK
              clear hK HNO HOKE
              go_wp2_with (first | (go_at_call 110; (with_reducible refine (HE1.out _ (by (repeat (first | exact New.refl _ | apply New.alloc | apply New.aft | apply New.drew | refine New.setCell ?_ ?_ _)); all_goals (first | done | (simp [size_aft]; done) | (simp [size_aft]; omega)))).mono ?_); rintro en w1 ⟨rfl, pw, rfl⟩) | (go_at_call 110; (with_reducible refine (HE2.out _ (by (repeat (first | exact New.refl _ | apply New.alloc | apply New.aft | apply New.drew | refine New.setCell ?_ ?_ _)); all_goals (first | done | (simp [size_aft]; done) | (simp [size_aft]; omega)))).mono ?_); rintro en w1 ⟨rfl, pw, rfl⟩) | (go_at_call 97; refine (HMT.out _).mono ?_; rintro en w1 ⟨rfl, pw, rfl⟩))
              go_ret
              exact ⟨ret_bool HF.out.symm, by (repeat (first | exact New.refl _ | apply New.alloc | apply New.aft | apply New.drew | refine New.setCell ?_ ?_ _)); all_goals (first | done | (simp [size_aft]; done) | (simp [size_aft]; omega))⟩
          · rw [want_1 (.inr ⟨hd, he⟩)] at HNO HOKE
            generalize meetE (edgesL l) k m = K at *
            have u1 : ((m : Int) == (k : Int) + 1) = false := by simp; omega
            have u2 : ((k : Int) == 0) = true := by simp; omega
            have u3 : ((m : Int) == (n : Int) - 1) = true := by simp; omega
            clear hc hd he
            by_cases hK : K = 1
            · have HK := Lib.hid (HOKE.out hK)
              have z1 : (K == 1) = true := by simpa using hK
              have z2 : (K != 1) = false := by simpa using hK
              clear hK HNO HOKE
              go_wp2_with (first | (go_at_call 110; (with_reducible refine (HE1.out _ (by (repeat (first | exact New.refl _ | apply New.alloc | apply New.aft | apply New.drew | refine New.setCell ?_ ?_ _)); all_goals (first | done | (simp [size_aft]; done) | (simp [size_aft]; omega)))).mono ?_); rintro en w1 ⟨rfl, pw, rfl⟩) | (go_at_call 110; (with_reducible refine (HE2.out _ (by (repeat (first | exact New.refl _ | apply New.alloc | apply New.aft | apply New.drew | refine New.setCell ?_ ?_ _)); all_goals (first | done | (simp [size_aft]; done) | (simp [size_aft]; omega)))).mono ?_); rintro en w1 ⟨rfl, pw, rfl⟩) | (go_at_call 97; refine (HMT.out _).mono ?_; rintro en w1 ⟨rfl, pw, rfl⟩))
              refine ⟨⟨m + 1, by omega, by omega, by go_num, HK.out, by (repeat (first | exact New.refl _ | apply New.alloc | apply New.aft | apply New.drew | refine New.setCell ?_ ?_ _)); all_goals (first | done | (simp [size_aft]; done) | (simp [size_aft]; omega))⟩, by simp [intOf]; omega⟩
            · have HF := Lib.hid (HNO.out hK)
              have z1 : (K == 1) = false := by simpa using hK
              have z2 : (K != 1) = true := by simpa using hK
              clear hK HNO HOKE
              go_wp2_with (first | (go_at_call 110; (with_reducible refine (HE1.out _ (by (repeat (first | exact New.refl _ | apply New.alloc | apply New.aft | apply New.drew | refine New.setCell ?_ ?_ _)); all_goals (first | done | (simp [size_aft]; done) | (simp [size_aft]; omega)))).mono ?_); rintro en w1 ⟨rfl, pw, rfl⟩) | (go_at_call 110; (with_reducible refine (HE2.out _ (by (repeat (first | exact New.refl _ | apply New.alloc | apply New.aft | apply New.drew | refine New.setCell ?_ ?_ _)); all_goals (first | done | (simp [size_aft]; done) | (simp [size_aft]; omega)))).mono ?_); rintro en w1 ⟨rfl, pw, rfl⟩) | (go_at_call 97; refine (HMT.out _).mono ?_; rintro en w1 ⟨rfl, pw, rfl⟩))
              go_ret
              exact ⟨ret_bool HF.out.symm, by (repeat (first | exact New.refl _ | apply New.alloc | apply New.aft | apply New.drew | refine New.setCell ?_ ?_ _)); all_goals (first | done | (simp [size_aft]; done) | (simp [size_aft]; omega))⟩
          · rw [want_0 (by omega)] at HNO HOKE
            generalize meetE (edgesL l) k m = K at *
            have u1 : ((m : Int) == (k : Int) + 1) = false := by simp; omega
            have u2 : ((k : Int) == 0) = true := by simp; omega
            have u3 : ((m : Int) == (n : Int) - 1) = false := by simp; omega
            clear hc hd he
            by_cases hK : K = 0
            · have HK := Lib.hid (HOKE.out hK)
              have z1 : (K == 0) = true := by simpa using hK
              have z2 : (K != 0) = false := by simpa using hK
              clear hK HNO HOKE
              go_wp2_with (first | (go_at_call 110; (with_reducible refine (HE1.out _ (by (repeat (first | exact New.refl _ | apply New.alloc | apply New.aft | apply New.drew | refine New.setCell ?_ ?_ _)); all_goals (first | done | (simp [size_aft]; done) | (simp [size_aft]; omega)))).mono ?_); rintro en w1 ⟨rfl, pw, rfl⟩) | (go_at_call 110; (with_reducible refine (HE2.out _ (by (repeat (first | exact New.refl _ | apply New.alloc | apply New.aft | apply New.drew | refine New.setCell ?_ ?_ _)); all_goals (first | done | (simp [size_aft]; done) | (simp [size_aft]; omega)))).mono ?_); rintro en w1 ⟨rfl, pw, rfl⟩) | (go_at_call 97; refine (HMT.out _).mono ?_; rintro en w1 ⟨rfl, pw, rfl⟩))
              refine ⟨⟨m + 1, by omega, by omega, by go_num, HK.out, by (repeat (first | exact New.refl _ | apply New.alloc | apply New.aft | apply New.drew | refine New.setCell ?_ ?_ _)); all_goals (first | done | (simp [size_aft]; done) | (simp [size_aft]; omega))⟩, by simp [intOf]; omega⟩
            · have HF := Lib.hid (HNO.out hK)
              have z1 : (K == 0) = false := by simpa using hK
              have z2 : (K != 0) = true := by simpa using hK
              clear hK HNO HOKE
              go_wp2_with (first | (go_at_call 110; (with_reducible refine (HE1.out _ (by (repeat (first | exact New.refl _ | apply New.alloc | apply New.aft | apply New.drew | refine New.setCell ?_ ?_ _)); all_goals (first | done | (simp [size_aft]; done) | (simp [size_aft]; omega)))).mono ?_); rintro en w1 ⟨rfl, pw, rfl⟩) | (go_at_call 110; (with_reducible refine (HE2.out _ (by (repeat (first | exact New.refl _ | apply New.alloc | apply New.aft | apply New.drew | refine New.setCell ?_ ?_ _)); all_goals (first | done | (simp [size_aft]; done) | (simp [size_aft]; omega)))).mono ?_); rintro en w1 ⟨rfl, pw, rfl⟩) | (go_at_call 97; refine (HMT.out _).mono ?_; rintro en w1 ⟨rfl, pw, rfl⟩))
              go_ret
              exact ⟨ret_bool HF.out.symm, by (repeat (first | exact New.refl _ | apply New.alloc | apply New.aft | apply New.drew | refine New.setCell ?_ ?_ _)); all_goals (first | done | (simp [size_aft]; done) | (simp [size_aft]; omega))⟩
          · rw [want_0 (by omega)] at HNO HOKE
            generalize meetE (edgesL l) k m = K at *
            have u1 : ((m : Int) == (k : Int) + 1) = false := by simp; omega
            have u2 : ((k : Int) == 0) = false := by simp; omega
            clear hc hd
            by_cases hK : K = 0
            · have HK := Lib.hid (HOKE.out hK)
              have z1 : (K == 0) = true := by simpa using hK
              have z2 : (K != 0) = false := by simpa using hK
              clear hK HNO HOKE
              go_wp2_with (first | (go_at_call 110; (with_reducible refine (HE1.out _ (by (repeat (first | exact New.refl _ | apply New.alloc | apply New.aft | apply New.drew | refine New.setCell ?_ ?_ _)); all_goals (first | done | (simp [size_aft]; done) | (simp [size_aft]; omega)))).mono ?_); rintro en w1 ⟨rfl, pw, rfl⟩) | (go_at_call 110; (with_reducible refine (HE2.out _ (by (repeat (first | exact New.refl _ | apply New.alloc | apply New.aft | apply New.drew | refine New.setCell ?_ ?_ _)); all_goals (first | done | (simp [size_aft]; done) | (simp [size_aft]; omega)))).mono ?_); rintro en w1 ⟨rfl, pw, rfl⟩) | (go_at_call 97; refine (HMT.out _).mono ?_; rintro en w1 ⟨rfl, pw, rfl⟩))
              refine ⟨⟨m + 1, by omega, by omega, by go_num, HK.out, by (repeat (first | exact New.refl _ | apply New.alloc | apply New.aft | apply New.drew | refine New.setCell ?_ ?_ _)); all_goals (first | done | (simp [size_aft]; done) | (simp [size_aft]; omega))⟩, by simp [intOf]; omega⟩
            · have HF := Lib.hid (HNO.out hK)
              have z1 : (K == 0) = false := by simpa using hK
              have z2 : (K != 0) = true := by simpa using hK
              clear hK HNO HOKE
              go_wp2_with (first | (go_at_call 110; (with_reducible refine (HE1.out _ (by (repeat (first | exact New.refl _ | apply New.alloc | apply New.aft | apply New.drew | refine New.setCell ?_ ?_ _)); all_goals (first | done | (simp [size_aft]; done) | (simp [size_aft]; omega)))).mono ?_); rintro en w1 ⟨rfl, pw, rfl⟩) | (go_at_call 110; (with_reducible refine (HE2.out _ (by (repeat (first | exact New.refl _ | apply New.alloc | apply New.aft | apply New.drew | refine New.setCell ?_ ?_ _)); all_goals (first | done | (simp [size_aft]; done) | (simp [size_aft]; omega)))).mono ?_); rintro en w1 ⟨rfl, pw, rfl⟩) | (go_at_call 97; refine (HMT.out _).mono ?_; rintro en w1 ⟨rfl, pw, rfl⟩))
              go_ret
              exact ⟨ret_bool HF.out.symm, by (repeat (first | exact New.refl _ | apply New.alloc | apply New.aft | apply New.drew | refine New.setCell ?_ ?_ _)); all_goals (first | done | (simp [size_aft]; done) | (simp [size_aft]; omega))⟩
        · have HMN := Lib.hid (show m = n by omega)
          go_wp2_with fail
          refine ⟨⟨k + 1, by omega, by go_num, rowsOk_succ HR.out (by have := HM.out; rwa [HMN.out] at this), by (repeat (first | exact New.refl _ | apply New.alloc | apply New.aft | apply New.drew | refine New.setCell ?_ ?_ _)); all_goals (first | done | (simp [size_aft]; done) | (simp [size_aft]; omega))⟩, by simp [intOf]; omega⟩
    · have HKN := Lib.hid (show k = n by omega)
      go_wp2_with fail
      go_ret
      exact ⟨ret_bool ((apartB_iff l).2 (by have := HR.out; rw [HKN.out] at this; rw [HN.out]; exact this)).symm, by (repeat (first | exact New.refl _ | apply New.alloc | apply New.aft | apply New.drew | refine New.setCell ?_ ?_ _)); all_goals (first | done | (simp [size_aft]; done) | (simp [size_aft]; omega))⟩

def PairFree (l : List P2) (k : Nat) : Prop := ∀ i j : Nat, j < i → i < k → ¬ (px l i = px l j ∧ py l i = py l j)
def PairRow (l : List P2) (i m : Nat) : Prop := ∀ j : Nat, j < m → ¬ (px l i = px l j ∧ py l i = py l j)
theorem pairRow_succ {l : List P2} {i m : Nat} (h : PairRow l i m) (he : ¬ (px l i = px l m ∧ py l i = py l m)) : PairRow l i (m + 1) := fun j hj => by
  by_cases e : j = m
  · subst e; exact he
  · exact h j (by omega)
theorem pairFree_succ {l : List P2} {k : Nat} (h : PairFree l k) (he : PairRow l k k) : PairFree l (k + 1) := fun i j hj hi => by
  by_cases e : i = k
  · subst e; exact he j hj
  · exact h i j hj (by omega)

set_option maxHeartbeats 16000000 in
theorem ref_checkPoly (b off n c : Nat) (l : List P2) (w : World) (h0 : 0 < n) (hl : n ≤ 1000000) (hw : Pts w b off n l) :
    Calls Tryz.prog 45 #[.slice (some ⟨b, off, none⟩) n c] w fun en w' => en = .returned (.int .i64 (polyI l)) ∧ New w w' := by
  have HW := Lib.hid hw
  have HN := Lib.hid hw.1
  obtain ⟨hlen, hb, hcell⟩ := hw
  by_cases h2 : 200 < n
  · rw [← poly_1 (l := l) (by unfold ckPts; rw [if_pos (by omega)]; decide), show ckPts l 200 = 2 from if_pos (by omega)]
    have hn2 : (200 : Int) < (n : Int) := by omega
    clear hlen
    go_enter Tryz.func45, Tryz.ntmps45
    go_wp2_with fail
    all_goals (go_ret; refine ⟨rfl, ?_⟩; (repeat (first | exact New.refl _ | apply New.alloc | apply New.aft | apply New.drew | refine New.setCell ?_ ?_ _)); all_goals (first | done | (simp [size_aft]; done) | (simp [size_aft]; omega)))
  · have hn2 : ¬ (200 : Int) < (n : Int) := by omega
    have HA := Lib.hid (fun (w1 : World) (h1 : New w w1) => ref_allValid b off n c l w1 (by omega) (HW.out.new h1))
    cases hok : okL l
    · rw [hok] at HA
      rw [← poly_1 (l := l) (by unfold ckPts; rw [if_neg (by omega), hok]; decide), show ckPts l 200 = 1 by unfold ckPts; rw [if_neg (by omega), hok]; rfl]
      clear hlen hok
      go_enter Tryz.func45, Tryz.ntmps45
      go_wp2_with (go_at_call 104; refine (HA.out _ (by (repeat (first | exact New.refl _ | apply New.alloc | apply New.aft | apply New.drew | refine New.setCell ?_ ?_ _)); all_goals (first | done | (simp [size_aft]; done) | (simp [size_aft]; omega)))).mono ?_; rintro e w1 ⟨rfl, pw, rfl⟩)
      all_goals (go_ret; refine ⟨rfl, ?_⟩; (repeat (first | exact New.refl _ | apply New.alloc | apply New.aft | apply New.drew | refine New.setCell ?_ ?_ _)); all_goals (first | done | (simp [size_aft]; done) | (simp [size_aft]; omega)))
    · rw [hok] at HA
      have hck : ckPts l 200 = 0 := by unfold ckPts; rw [if_neg (by omega), hok]; rfl
      by_cases h3 : n < 3
      · rw [← poly_2 hck (by omega)]
        have hn3 : (n : Int) < 3 := by omega
        clear hlen hok hck
        go_enter Tryz.func45, Tryz.ntmps45
        go_wp2_with (go_at_call 104; refine (HA.out _ (by (repeat (first | exact New.refl _ | apply New.alloc | apply New.aft | apply New.drew | refine New.setCell ?_ ?_ _)); all_goals (first | done | (simp [size_aft]; done) | (simp [size_aft]; omega)))).mono ?_; rintro e w1 ⟨rfl, pw, rfl⟩)
        all_goals (go_ret; refine ⟨rfl, ?_⟩; (repeat (first | exact New.refl _ | apply New.alloc | apply New.aft | apply New.drew | refine New.setCell ?_ ?_ _)); all_goals (first | done | (simp [size_aft]; done) | (simp [size_aft]; omega)))
      · have hn3 : ¬ (n : Int) < 3 := by omega
        have HCK := Lib.hid hck
        have HOK := Lib.hid hok
        clear hlen hok hck
        go_enter Tryz.func45, Tryz.ntmps45
        go_wp2_with (go_at_call 104; refine (HA.out _ (by (repeat (first | exact New.refl _ | apply New.alloc | apply New.aft | apply New.drew | refine New.setCell ?_ ?_ _)); all_goals (first | done | (simp [size_aft]; done) | (simp [size_aft]; omega)))).mono ?_; rintro e w1 ⟨rfl, pw, rfl⟩)
        go_loopw [4] (fun i wr => ∃ k : Nat, k ≤ n ∧ i = .int .i64 k ∧ PairFree l k ∧ New w wr) (fun i _ => n - (intOf i).toNat)
        case atStart => exact ⟨0, Nat.zero_le _, rfl, fun i j _ hi => absurd hi (Nat.not_lt_zero _), by (repeat (first | exact New.refl _ | apply New.alloc | apply New.aft | apply New.drew | refine New.setCell ?_ ?_ _)); all_goals (first | done | (simp [size_aft]; done) | (simp [size_aft]; omega))⟩
        case round =>
          obtain ⟨k, hk, rfl, hrows, pr, rfl⟩ := hrel
          have HR := Lib.hid hrows
          clear hrows
          by_cases hlt : k < n
          · obtain ⟨c1, c2⟩ := hcell k hlt
            have hkn : (k : Int) < (n : Int) := by omega
            go_wp2_with fail
            go_loopw [5] (fun j wr => ∃ m : Nat, m ≤ k ∧ j = .int .i64 m ∧ PairRow l k m ∧ New w wr) (fun j _ => k - (intOf j).toNat)
            case atStart => exact ⟨0, Nat.zero_le _, rfl, fun j hj => absurd hj (Nat.not_lt_zero _), by (repeat (first | exact New.refl _ | apply New.alloc | apply New.aft | apply New.drew | refine New.setCell ?_ ?_ _)); all_goals (first | done | (simp [size_aft]; done) | (simp [size_aft]; omega))⟩
            case round =>
              obtain ⟨m, hm, rfl, hrow, po, rfl⟩ := hrel
              have HM := Lib.hid hrow
              clear hrow
              by_cases hmk : m < k
              · obtain ⟨d1, d2⟩ := hcell m (by omega)
                have hmn : (m : Int) < (n : Int) := by omega
                have hmk2 : (m : Int) < (k : Int) := by omega
                have HP := Lib.hid (fun (e1 : px l k = px l m) (e2 : py l k = py l m) => rep_pair (l := l) hmk (by rw [HN.out]; exact hlt) e1 e2)
                have HQ := Lib.hid (fun he => pairRow_succ HM.out he)
                clear hcell
                generalize px l k = X at *
                generalize py l k = Y at *
                generalize px l m = X' at *
                generalize py l m = Y' at *
                by_cases hx : X = X'
                · by_cases hy : Y = Y'
                  · have HV := Lib.hid (poly_3 HCK.out (by rw [HN.out]; exact h3) (HP.out hx hy))
                    subst hx
                    subst hy
                    clear HP HQ
                    go_wp2_with fail
                    first | refine wp_region_at2 (by kernel_rfl) (by kernel_rfl) ?_ | refine wp_region_at (by kernel_rfl) (by kernel_rfl) ?_
                    repeat (go_big_quiet_step (fail))
                    refine wpQuiet_nil ?_
                    rintro _ ⟨q, rfl⟩
                    go_wp2_with fail
                    go_ret
                    exact ⟨ret_int HV.out, by (repeat (first | exact New.refl _ | apply New.alloc | apply New.aft | apply New.drew | refine New.setCell ?_ ?_ _)); all_goals (first | done | (simp [size_aft]; done) | (simp [size_aft]; omega))⟩
                  · have HK := Lib.hid (HQ.out (fun hh => hy hh.2))
                    subst hx
                    have z2 : (Y == Y') = false := by simpa using hy
                    clear HP HQ
                    go_wp2_with fail
                    first | refine wp_region_at2 (by kernel_rfl) (by kernel_rfl) ?_ | refine wp_region_at (by kernel_rfl) (by kernel_rfl) ?_
                    repeat (go_big_quiet_step (fail))
                    refine wpQuiet_nil ?_
                    rintro _ ⟨q, rfl⟩
                    go_wp2_with fail
                    go_roundw
                    case rel => exact ⟨m + 1, by omega, by go_num, HK.out, by (repeat (first | exact New.refl _ | apply New.alloc | apply New.aft | apply New.drew | refine New.setCell ?_ ?_ _)); all_goals (first | done | (simp [size_aft]; done) | (simp [size_aft]; omega))⟩
                    case measure => simp [intOf]; omega
                · have HK := Lib.hid (HQ.out (fun hh => hx hh.1))
                  have z1 : (X == X') = false := by simpa using hx
                  clear HP HQ
                  go_wp2_with fail
                  first | refine wp_region_at2 (by kernel_rfl) (by kernel_rfl) ?_ | refine wp_region_at (by kernel_rfl) (by kernel_rfl) ?_
                  repeat (go_big_quiet_step (fail))
                  refine wpQuiet_nil ?_
                  rintro _ ⟨q, rfl⟩
                  go_wp2_with fail
                  go_roundw
                  case rel => exact ⟨m + 1, by omega, by go_num, HK.out, by (repeat (first | exact New.refl _ | apply New.alloc | apply New.aft | apply New.drew | refine New.setCell ?_ ?_ _)); all_goals (first | done | (simp [size_aft]; done) | (simp [size_aft]; omega))⟩
                  case measure => simp [intOf]; omega
              · have HMK := Lib.hid (show m = k by omega)
                have hmk2 : ¬ (m : Int) < (k : Int) := by omega
                go_wp2_with fail
                go_roundw
                case rel => exact ⟨k + 1, by omega, by go_num, pairFree_succ HR.out (by have := HM.out; rwa [HMK.out] at this), by (repeat (first | exact New.refl _ | apply New.alloc | apply New.aft | apply New.drew | refine New.setCell ?_ ?_ _)); all_goals (first | done | (simp [size_aft]; done) | (simp [size_aft]; omega))⟩
                case measure => simp [intOf]; omega
          · have HKN := Lib.hid (show k = n by omega)
            have hrep : repI l = false := rep_none HOK.out (fun i j hj hi => HR.out i j hj (by rw [HN.out] at hi; omega))
            have HSI := Lib.hid (fun (w1 : World) (h1 : New w w1) => ref_simple b off n c l w1 (by omega) hl (HW.out.new h1) HOK.out (fun i hi => by
              have hm : (i + 1) % n < n := Nat.mod_lt _ (by omega)
              rw [okS_iff]
              refine ⟨okL_bd HOK.out i, okL_bd HOK.out _, ?_⟩
              rintro ⟨x1, x2⟩
              have := rep_no hrep (by rw [HN.out]; exact hi) (by rw [HN.out]; exact hm) x1 x2
              by_cases hlast : i + 1 = n
              · rw [hlast, Nat.mod_self] at this; omega
              · rw [Nat.mod_eq_of_lt (by omega)] at this; omega))
            cases hap : apartB l
            · have HV := Lib.hid (poly_5 HCK.out (by rw [HN.out]; exact h3) hrep hap)
              rw [hap] at HSI
              clear hap hrep
              go_wp2_with (go_at_call 108; refine (HSI.out _ (by (repeat (first | exact New.refl _ | apply New.alloc | apply New.aft | apply New.drew | refine New.setCell ?_ ?_ _)); all_goals (first | done | (simp [size_aft]; done) | (simp [size_aft]; omega)))).mono ?_; rintro e w1 ⟨rfl, pw, rfl⟩)
              go_ret
              exact ⟨ret_int HV.out, by (repeat (first | exact New.refl _ | apply New.alloc | apply New.aft | apply New.drew | refine New.setCell ?_ ?_ _)); all_goals (first | done | (simp [size_aft]; done) | (simp [size_aft]; omega))⟩
            · have HV := Lib.hid (poly_4 HCK.out (by rw [HN.out]; exact h3) hrep hap)
              rw [hap] at HSI
              clear hap hrep
              go_wp2_with (go_at_call 108; refine (HSI.out _ (by (repeat (first | exact New.refl _ | apply New.alloc | apply New.aft | apply New.drew | refine New.setCell ?_ ?_ _)); all_goals (first | done | (simp [size_aft]; done) | (simp [size_aft]; omega)))).mono ?_; rintro e w1 ⟨rfl, pw, rfl⟩)
              go_ret
              exact ⟨ret_int HV.out, by (repeat (first | exact New.refl _ | apply New.alloc | apply New.aft | apply New.drew | refine New.setCell ?_ ?_ _)); all_goals (first | done | (simp [size_aft]; done) | (simp [size_aft]; omega))⟩

set_option maxHeartbeats 1000000 in
theorem ref_checkPoly_nil (v : Option Addr) (c : Nat) (w : World) : Calls Tryz.prog 45 #[.slice v 0 c] w fun en w' => en = .returned (.int .i64 1) ∧ New w w' := by
  have HA := Lib.hid (fun w1 : World => ref_allValid_nil w1 v c)
  go_enter Tryz.func45, Tryz.ntmps45
  go_wp2_with (go_at_call 104; refine (HA.out _).mono ?_; rintro e w1 ⟨rfl, pw, rfl⟩)
  all_goals (go_ret; refine ⟨rfl, ?_⟩; (repeat (first | exact New.refl _ | apply New.alloc | apply New.aft | apply New.drew | refine New.setCell ?_ ?_ _)); all_goals (first | done | (simp [size_aft]; done) | (simp [size_aft]; omega)))

end Go.Proofs.YtpdfbboagaflhaaGreat

set_option linter.unusedSimpArgs false
set_option linter.unusedVariables false
set_option maxRecDepth 100000
namespace Go.Proofs.YtpdfbboagaflhaaGreat
open Go.RowKit

theorem turn_one (a b c d p q : Int) : (turnI a b c d p q == 1) = decide (p * (d - b) < a * (d - b) + (c - a) * (q - b)) := by
  rw [turnI_sign]
  have e : (c - a) * (q - b) - (d - b) * (p - a) = a * (d - b) + (c - a) * (q - b) - p * (d - b) := by grind
  rw [e]
  rcases sign_cases (a * (d - b) + (c - a) * (q - b) - p * (d - b)) with ⟨h, k⟩ | ⟨h, k⟩ | ⟨h, k⟩
  · rw [h, decide_eq_false (by omega)]; rfl
  · rw [h, decide_eq_false (by omega)]; rfl
  · rw [h, decide_eq_true (by omega)]; rfl
theorem oddTo_pass {L : List S4} {p q : Int} {k : Nat} {O : Bool} (h : passAt L p q k = O) : oddTo L p q (k + 1) = (if O then !oddTo L p q k else oddTo L p q k) := by rw [← h]; rfl

set_option maxHeartbeats 16000000 in
theorem ref_enclosed (b off n c : Nat) (l : List P2) (p q : Int) (w : World) (hl : n ≤ 1000000) (hw : Pts w b off n l) (hok : okL l = true) (hp : 0 ≤ p ∧ p ≤ 10000) (hq : 0 ≤ q ∧ q ≤ 10000) :
    Calls Tryz.prog 170 #[.slice (some ⟨b, off, none⟩) n c, .int .i64 p, .int .i64 q, .int .i64 1] w fun en w' => en = .returned (.bool (oddTo (edgesL l) p q n)) ∧ New w w' := by
  have HW := Lib.hid hw
  have HN := Lib.hid hw.1
  have HED := Lib.hid (fun (k : Nat) (hk : k < n) (w1 : World) (h1 : New w w1) => ref_edge b off n c k l w1 hk hl (HW.out.new h1))
  have HB := Lib.hid (okL_bd hok)
  clear hw hok
  go_enter Tryz.func170, Tryz.ntmps170
  go_wp2_with fail
  go_loopw [9, 10] (fun v i wr => ∃ k : Nat, k ≤ n ∧ i = .int .i64 k ∧ v = .bool (oddTo (edgesL l) p q k) ∧ New w wr) (fun _ i _ => n - (intOf i).toNat)
  case atStart => exact ⟨0, Nat.zero_le _, rfl, rfl, New.refl _⟩
  case round =>
    obtain ⟨k, hk, rfl, rfl, pr, rfl⟩ := hrel
    by_cases hlt : k < n
    · have HE := Lib.hid (HED.out k hlt)
      have hpass : passAt (edgesL l) p q k = passB (px l k) (py l k) (px l ((k + 1) % n)) (py l ((k + 1) % n)) p q := by
        obtain ⟨x1, x2, x3, x4⟩ := edgesL_at l k (by rw [HN.out]; exact hlt)
        rw [passAt, x1, x2, x3, x4, HN.out]
      have HS := Lib.hid (oddTo_pass hpass)
      obtain ⟨b1, b2⟩ := HB.out k
      obtain ⟨b3, b4⟩ := HB.out ((k + 1) % n)
      clear hpass
      generalize oddTo (edgesL l) p q k = V at *
      generalize px l k = A at *
      generalize py l k = B at *
      generalize px l ((k + 1) % n) = C at *
      generalize py l ((k + 1) % n) = D at *
      obtain ⟨O, hO⟩ : ∃ O, O = passB A B C D p q := ⟨_, rfl⟩
      rw [← hO] at HS
      have hT1 := turn_one A B C D p q
      have hT2 := turn_one C D A B p q
      have m1 := mul_bd A (D - B) 10000 10000 (by omega) (by omega) (by omega) (by omega)
      have m2 := mul_bd (C - A) (q - B) 10000 10000 (by omega) (by omega) (by omega) (by omega)
      have m3 := mul_bd p (D - B) 10000 10000 (by omega) (by omega) (by omega) (by omega)
      have m4 := mul_bd C (B - D) 10000 10000 (by omega) (by omega) (by omega) (by omega)
      have m5 := mul_bd (A - C) (q - D) 10000 10000 (by omega) (by omega) (by omega) (by omega)
      have m6 := mul_bd p (B - D) 10000 10000 (by omega) (by omega) (by omega) (by omega)
      simp only [Int.reduceMul, Int.reduceNeg] at m1 m2 m3 m4 m5 m6
      have hcase : (D < B ∧ q < D) ∨ (D < B ∧ D ≤ q ∧ B ≤ q) ∨ (D < B ∧ D ≤ q ∧ q < B) ∨ (¬ D < B ∧ q < B) ∨ (¬ D < B ∧ B ≤ q ∧ D ≤ q) ∨ (¬ D < B ∧ B ≤ q ∧ q < D) := by omega
      rcases hcase with ⟨g1, g2⟩ | ⟨g1, g2, g3⟩ | ⟨g1, g2, g3⟩ | ⟨g1, g2⟩ | ⟨g1, g2, g3⟩ | ⟨g1, g2, g3⟩
      · skip
        have HO := Lib.hid (show O = false from (by rw [hO, ← pass_2 g1 g2]))
        clear hT1 hT2
        go_wp2_with (go_at_call 110; refine (HE.out _ (by (repeat (first | exact New.refl _ | apply New.alloc | apply New.aft | apply New.drew | refine New.setCell ?_ ?_ _)); all_goals (first | done | (simp [size_aft]; done) | (simp [size_aft]; omega)))).mono ?_; rintro en w1 ⟨rfl, pw, rfl⟩)
        all_goals (try (exfalso; omega))
        all_goals go_roundw
        all_goals first
          | exact ⟨k + 1, by omega, by go_num, by rw [HS.out, HO.out]; rfl, by (repeat (first | exact New.refl _ | apply New.alloc | apply New.aft | apply New.drew | refine New.setCell ?_ ?_ _)); all_goals (first | done | (simp [size_aft]; done) | (simp [size_aft]; omega))⟩
          | (simp [intOf]; omega)
      · skip
        have HO := Lib.hid (show O = false from (by rw [hO, ← pass_3 g1 g3]))
        clear hT1 hT2
        go_wp2_with (go_at_call 110; refine (HE.out _ (by (repeat (first | exact New.refl _ | apply New.alloc | apply New.aft | apply New.drew | refine New.setCell ?_ ?_ _)); all_goals (first | done | (simp [size_aft]; done) | (simp [size_aft]; omega)))).mono ?_; rintro en w1 ⟨rfl, pw, rfl⟩)
        all_goals (try (exfalso; omega))
        all_goals go_roundw
        all_goals first
          | exact ⟨k + 1, by omega, by go_num, by rw [HS.out, HO.out]; rfl, by (repeat (first | exact New.refl _ | apply New.alloc | apply New.aft | apply New.drew | refine New.setCell ?_ ?_ _)); all_goals (first | done | (simp [size_aft]; done) | (simp [size_aft]; omega))⟩
          | (simp [intOf]; omega)
      · cases hT : decide (p * (B - D) < C * (B - D) + (A - C) * (q - D))
        · have hTn : ¬ (p * (B - D) < C * (B - D) + (A - C) * (q - D)) := of_decide_eq_false hT
          have HO := Lib.hid (show O = false from (by rw [hO, ← pass_1 g1 g2 g3, hT2, hT]))
          clear hT1 hT2
          go_wp2_with (go_at_call 110; refine (HE.out _ (by (repeat (first | exact New.refl _ | apply New.alloc | apply New.aft | apply New.drew | refine New.setCell ?_ ?_ _)); all_goals (first | done | (simp [size_aft]; done) | (simp [size_aft]; omega)))).mono ?_; rintro en w1 ⟨rfl, pw, rfl⟩)
          all_goals (try (exfalso; omega))
          all_goals go_roundw
          all_goals first
            | exact ⟨k + 1, by omega, by go_num, by rw [HS.out, HO.out]; rfl, by (repeat (first | exact New.refl _ | apply New.alloc | apply New.aft | apply New.drew | refine New.setCell ?_ ?_ _)); all_goals (first | done | (simp [size_aft]; done) | (simp [size_aft]; omega))⟩
            | (simp [intOf]; omega)
        · have hTy : p * (B - D) < C * (B - D) + (A - C) * (q - D) := of_decide_eq_true hT
          have HO := Lib.hid (show O = true from (by rw [hO, ← pass_1 g1 g2 g3, hT2, hT]))
          clear hT1 hT2
          go_wp2_with (go_at_call 110; refine (HE.out _ (by (repeat (first | exact New.refl _ | apply New.alloc | apply New.aft | apply New.drew | refine New.setCell ?_ ?_ _)); all_goals (first | done | (simp [size_aft]; done) | (simp [size_aft]; omega)))).mono ?_; rintro en w1 ⟨rfl, pw, rfl⟩)
          all_goals (try (exfalso; omega))
          all_goals go_roundw
          all_goals first
            | exact ⟨k + 1, by omega, by go_num, by rw [HS.out, HO.out]; rfl, by (repeat (first | exact New.refl _ | apply New.alloc | apply New.aft | apply New.drew | refine New.setCell ?_ ?_ _)); all_goals (first | done | (simp [size_aft]; done) | (simp [size_aft]; omega))⟩
            | (simp [intOf]; omega)
      · skip
        have HO := Lib.hid (show O = false from (by rw [hO, ← pass_5 g1 g2]))
        clear hT1 hT2
        go_wp2_with (go_at_call 110; refine (HE.out _ (by (repeat (first | exact New.refl _ | apply New.alloc | apply New.aft | apply New.drew | refine New.setCell ?_ ?_ _)); all_goals (first | done | (simp [size_aft]; done) | (simp [size_aft]; omega)))).mono ?_; rintro en w1 ⟨rfl, pw, rfl⟩)
        all_goals (try (exfalso; omega))
        all_goals go_roundw
        all_goals first
          | exact ⟨k + 1, by omega, by go_num, by rw [HS.out, HO.out]; rfl, by (repeat (first | exact New.refl _ | apply New.alloc | apply New.aft | apply New.drew | refine New.setCell ?_ ?_ _)); all_goals (first | done | (simp [size_aft]; done) | (simp [size_aft]; omega))⟩
          | (simp [intOf]; omega)
      · skip
        have HO := Lib.hid (show O = false from (by rw [hO, ← pass_6 g1 g3]))
        clear hT1 hT2
        go_wp2_with (go_at_call 110; refine (HE.out _ (by (repeat (first | exact New.refl _ | apply New.alloc | apply New.aft | apply New.drew | refine New.setCell ?_ ?_ _)); all_goals (first | done | (simp [size_aft]; done) | (simp [size_aft]; omega)))).mono ?_; rintro en w1 ⟨rfl, pw, rfl⟩)
        all_goals (try (exfalso; omega))
        all_goals go_roundw
        all_goals first
          | exact ⟨k + 1, by omega, by go_num, by rw [HS.out, HO.out]; rfl, by (repeat (first | exact New.refl _ | apply New.alloc | apply New.aft | apply New.drew | refine New.setCell ?_ ?_ _)); all_goals (first | done | (simp [size_aft]; done) | (simp [size_aft]; omega))⟩
          | (simp [intOf]; omega)
      · cases hT : decide (p * (D - B) < A * (D - B) + (C - A) * (q - B))
        · have hTn : ¬ (p * (D - B) < A * (D - B) + (C - A) * (q - B)) := of_decide_eq_false hT
          have HO := Lib.hid (show O = false from (by rw [hO, ← pass_4 g1 g2 g3, hT1, hT]))
          clear hT1 hT2
          go_wp2_with (go_at_call 110; refine (HE.out _ (by (repeat (first | exact New.refl _ | apply New.alloc | apply New.aft | apply New.drew | refine New.setCell ?_ ?_ _)); all_goals (first | done | (simp [size_aft]; done) | (simp [size_aft]; omega)))).mono ?_; rintro en w1 ⟨rfl, pw, rfl⟩)
          all_goals (try (exfalso; omega))
          all_goals go_roundw
          all_goals first
            | exact ⟨k + 1, by omega, by go_num, by rw [HS.out, HO.out]; rfl, by (repeat (first | exact New.refl _ | apply New.alloc | apply New.aft | apply New.drew | refine New.setCell ?_ ?_ _)); all_goals (first | done | (simp [size_aft]; done) | (simp [size_aft]; omega))⟩
            | (simp [intOf]; omega)
        · have hTy : p * (D - B) < A * (D - B) + (C - A) * (q - B) := of_decide_eq_true hT
          have HO := Lib.hid (show O = true from (by rw [hO, ← pass_4 g1 g2 g3, hT1, hT]))
          clear hT1 hT2
          go_wp2_with (go_at_call 110; refine (HE.out _ (by (repeat (first | exact New.refl _ | apply New.alloc | apply New.aft | apply New.drew | refine New.setCell ?_ ?_ _)); all_goals (first | done | (simp [size_aft]; done) | (simp [size_aft]; omega)))).mono ?_; rintro en w1 ⟨rfl, pw, rfl⟩)
          all_goals (try (exfalso; omega))
          all_goals go_roundw
          all_goals first
            | exact ⟨k + 1, by omega, by go_num, by rw [HS.out, HO.out]; rfl, by (repeat (first | exact New.refl _ | apply New.alloc | apply New.aft | apply New.drew | refine New.setCell ?_ ?_ _)); all_goals (first | done | (simp [size_aft]; done) | (simp [size_aft]; omega))⟩
            | (simp [intOf]; omega)
    · have HK := Lib.hid (show k = n by omega)
      go_wp2_with fail
      go_ret
      exact ⟨ret_bool (by rw [HK.out]), by (repeat (first | exact New.refl _ | apply New.alloc | apply New.aft | apply New.drew | refine New.setCell ?_ ?_ _)); all_goals (first | done | (simp [size_aft]; done) | (simp [size_aft]; omega))⟩

end Go.Proofs.YtpdfbboagaflhaaGreat

set_option linter.unusedSimpArgs false
set_option linter.unusedVariables false
set_option maxRecDepth 100000
namespace Go.Proofs.YtpdfbboagaflhaaGreat
open Go.RowKit

set_option maxHeartbeats 8000000 in
theorem ref_where (b off n c : Nat) (l : List P2) (p q : Int) (w : World) (hl : n ≤ 1000000) (hw : Pts w b off n l) (hok : okL l = true) (hp : 0 ≤ p ∧ p ≤ 10000) (hq : 0 ≤ q ∧ q ≤ 10000) :
    Calls Tryz.prog 118 #[.slice (some ⟨b, off, none⟩) n c, pv p q] w fun en w' => en = .returned (.int .u8 (whereI l p q)) ∧ New w w' := by
  have HW := Lib.hid hw
  have HN := Lib.hid hw.1
  have HED := Lib.hid (fun (k : Nat) (hk : k < n) (w1 : World) (h1 : New w w1) => ref_edge b off n c k l w1 hk hl (HW.out.new h1))
  have HB := Lib.hid (okL_bd hok)
  have HEN := Lib.hid (fun (w1 : World) (h1 : New w w1) => ref_enclosed b off n c l p q w1 hl (HW.out.new h1) hok hp hq)
  clear hw hok
  go_enter Tryz.func118, Tryz.ntmps118
  go_wp2_with fail
  generalize hwo : w.alloc _ = wo
  have HNO := Lib.hid (show New w wo by rw [← hwo]; exact (New.refl _).alloc _)
  have k1 : wo.cell? ⟨w.heap.size, 0, none⟩ = some (.int .i64 p) := by rw [← hwo]; simp [go_sem]
  have k2 : wo.cell? ⟨w.heap.size, 1, none⟩ = some (.int .i64 q) := by rw [← hwo]; simp [go_sem]
  have kb : w.heap.size < wo.heap.size := by rw [← hwo]; simp [go_sem]
  clear hwo
  go_loopw [5] (fun i wr => ∃ k : Nat, k ≤ n ∧ i = .int .i64 k ∧ anyOn (edgesL l) p q k = false ∧ New wo wr) (fun i _ => n - (intOf i).toNat)
  case atStart => exact ⟨0, Nat.zero_le _, rfl, rfl, New.refl _⟩
  case round =>
    obtain ⟨k, hk, rfl, hany, pr, rfl⟩ := hrel
    have HANY := Lib.hid hany
    clear hany
    have kb1 : w.heap.size < wo.heap.size + pr.os.size := by omega
    by_cases hlt : k < n
    · have HE := Lib.hid (HED.out k hlt)
      obtain ⟨b1, b2⟩ := HB.out k
      obtain ⟨b3, b4⟩ := HB.out ((k + 1) % n)
      have HON := Lib.hid (fun w1 : World => ref_on p q (px l k) (py l k) (px l ((k + 1) % n)) (py l ((k + 1) % n)) w1 (by omega) (by omega) (by omega) (by omega) (by omega) (by omega))
      have hat : onR p q (px l k) (py l k) (px l ((k + 1) % n)) (py l ((k + 1) % n)) = onAt (edgesL l) p q k := by
        obtain ⟨x1, x2, x3, x4⟩ := edgesL_at l k (by rw [HN.out]; exact hlt)
        rw [onAt, x1, x2, x3, x4, HN.out, onR_eq]
      rw [hat] at HON
      clear hat b1 b2 b3 b4
      have HE' := Lib.hid (fun (w1 : World) (h1 : New wo w1) => HE.out w1 (HNO.out.trans h1))
      cases ho : onAt (edgesL l) p q k
      · rw [ho] at HON
        have HO := Lib.hid ho
        clear ho
        go_wp2_with fail
        first | refine wp_region_at2 (by kernel_rfl) (by kernel_rfl) ?_ | refine wp_region_at (by kernel_rfl) (by kernel_rfl) ?_
        repeat (go_big_quiet_step (first | (go_at_call 110; exact calls_new (HE'.out _ ((New.refl _).aft _ _))) | (go_at_call 91; exact calls_new (HON.out _))))
        refine wpQuiet_nil ?_
        rintro _ ⟨q0, rfl⟩
        go_wp2_with fail
        go_roundw
        case rel => exact ⟨k + 1, by omega, by go_num, by rw [anyOn_succ, HANY.out, HO.out]; rfl, by (repeat (first | exact New.refl _ | apply New.alloc | apply New.aft | apply New.drew | refine New.setCell ?_ ?_ _)); all_goals (first | done | (simp [size_aft]; done) | (simp [size_aft]; omega))⟩
        case measure => simp [intOf]; omega
      · rw [ho] at HON
        have HO := Lib.hid (anyOn_at _ _ _ k n hlt ho)
        clear ho
        go_wp2_with fail
        first | refine wp_region_at2 (by kernel_rfl) (by kernel_rfl) ?_ | refine wp_region_at (by kernel_rfl) (by kernel_rfl) ?_
        repeat (go_big_quiet_step (first | (go_at_call 110; exact calls_new (HE'.out _ ((New.refl _).aft _ _))) | (go_at_call 91; exact calls_new (HON.out _))))
        refine wpQuiet_nil ?_
        rintro _ ⟨q0, rfl⟩
        go_wp2_with fail
        go_ret
        exact ⟨ret_int (by rw [whereI, HN.out, HO.out]; rfl), by (repeat (first | exact HNO.out | exact New.refl _ | apply New.alloc | apply New.aft | apply New.drew | refine New.setCell ?_ ?_ _)); all_goals (first | done | (simp [size_aft]; done) | (simp [size_aft]; omega))⟩
    · have HK := Lib.hid (show k = n by omega)
      have HV := Lib.hid (show whereI l p q = if oddTo (edgesL l) p q n = true then 2 else 0 by
        have := HANY.out
        rw [HK.out] at this
        rw [whereI, HN.out, this]; rfl)
      have HEN' := Lib.hid (fun (w1 : World) (h1 : New wo w1) => HEN.out w1 (HNO.out.trans h1))
      cases hodd : oddTo (edgesL l) p q n
      all_goals
        rw [hodd] at HV HEN'
        clear hodd
        go_wp2_with (go_at_call 170; refine (HEN'.out _ (by (repeat (first | exact New.refl _ | apply New.alloc | apply New.aft | apply New.drew | refine New.setCell ?_ ?_ _)); all_goals (first | done | (simp [size_aft]; done) | (simp [size_aft]; omega)))).mono ?_; rintro en w1 ⟨rfl, pw, rfl⟩)
        go_ret
        exact ⟨ret_int (by rw [HV.out]; rfl), by (repeat (first | exact HNO.out | exact New.refl _ | apply New.alloc | apply New.aft | apply New.drew | refine New.setCell ?_ ?_ _)); all_goals (first | done | (simp [size_aft]; done) | (simp [size_aft]; omega))⟩

set_option maxHeartbeats 4000000 in
theorem ref_Where (b off n c : Nat) (l : List P2) (p q : Int) (w : World) (h0 : 0 < n) (hl : n ≤ 1000000) (hw : Pts w b off n l) :
    Calls Tryz.prog 54 #[.slice (some ⟨b, off, none⟩) n c, pv p q] w fun en w' => en = .returned (.int .u8 (WhereI l p q)) ∧ New w w' := by
  have HV := Lib.hid (ref_valid p q)
  have HC := Lib.hid (fun (w1 : World) (h1 : New w w1) => ref_checkPoly b off n c l w1 h0 hl (hw.new h1))
  cases hp : okP p q
  · rw [hp] at HV
    rw [show WhereI l p q = 0 from if_neg (fun hh => by rw [hp] at hh; cases hh.1)]
    generalize polyI l = K at *
    clear hp hw
    go_enter Tryz.func54, Tryz.ntmps54
    go_wp2_with (go_at_call 86; refine (HV.out _).mono ?_; rintro en w1 ⟨rfl, pw, rfl⟩)
    all_goals (go_ret; refine ⟨rfl, ?_⟩; (repeat (first | exact New.refl _ | apply New.alloc | apply New.aft | apply New.drew | refine New.setCell ?_ ?_ _)); all_goals (first | done | (simp [size_aft]; done) | (simp [size_aft]; omega)))
  · by_cases hk : polyI l = 0
    · obtain ⟨hp1, hp2⟩ := okP_iff.1 hp
      have HWH := Lib.hid (fun (w1 : World) (h1 : New w w1) => ref_where b off n c l p q w1 hl (hw.new h1) (ckPts_zero (polyI_ok hk).1).2 hp1 hp2)
      rw [show WhereI l p q = whereI l p q from if_pos ⟨hp, hk⟩]
      rw [hp] at HV
      rw [hk] at HC
      clear hp hk hw hp1 hp2
      generalize whereI l p q = V at *
      go_enter Tryz.func54, Tryz.ntmps54
      go_wp2_with (first | (go_at_call 86; refine (HV.out _).mono ?_; rintro en w1 ⟨rfl, pw, rfl⟩) | (go_at_call 45; refine (HC.out _ (by (repeat (first | exact New.refl _ | apply New.alloc | apply New.aft | apply New.drew | refine New.setCell ?_ ?_ _)); all_goals (first | done | (simp [size_aft]; done) | (simp [size_aft]; omega)))).mono ?_; rintro en w1 ⟨rfl, pw, rfl⟩) | (go_at_call 118; refine (HWH.out _ (by (repeat (first | exact New.refl _ | apply New.alloc | apply New.aft | apply New.drew | refine New.setCell ?_ ?_ _)); all_goals (first | done | (simp [size_aft]; done) | (simp [size_aft]; omega)))).mono ?_; rintro en w1 ⟨rfl, pw, rfl⟩))
      all_goals (go_ret; refine ⟨rfl, ?_⟩; (repeat (first | exact New.refl _ | apply New.alloc | apply New.aft | apply New.drew | refine New.setCell ?_ ?_ _)); all_goals (first | done | (simp [size_aft]; done) | (simp [size_aft]; omega)))
    · rw [show WhereI l p q = 0 from if_neg (fun hh => hk hh.2)]
      rw [hp] at HV
      have z1 : (polyI l == 0) = false := by simpa using hk
      have z2 : (polyI l != 0) = true := by simpa using hk
      clear hp hk hw
      generalize polyI l = K at *
      go_enter Tryz.func54, Tryz.ntmps54
      go_wp2_with (first | (go_at_call 86; refine (HV.out _).mono ?_; rintro en w1 ⟨rfl, pw, rfl⟩) | (go_at_call 45; refine (HC.out _ (by (repeat (first | exact New.refl _ | apply New.alloc | apply New.aft | apply New.drew | refine New.setCell ?_ ?_ _)); all_goals (first | done | (simp [size_aft]; done) | (simp [size_aft]; omega)))).mono ?_; rintro en w1 ⟨rfl, pw, rfl⟩))
      all_goals (go_ret; refine ⟨rfl, ?_⟩; (repeat (first | exact New.refl _ | apply New.alloc | apply New.aft | apply New.drew | refine New.setCell ?_ ?_ _)); all_goals (first | done | (simp [size_aft]; done) | (simp [size_aft]; omega)))

set_option maxHeartbeats 2000000 in
theorem ref_Where_nil (v : Option Addr) (c : Nat) (p q : Int) (w : World) : Calls Tryz.prog 54 #[.slice v 0 c, pv p q] w fun en w' => en = .returned (.int .u8 0) ∧ New w w' := by
  have HV := Lib.hid (ref_valid p q)
  have HC := Lib.hid (fun w1 : World => ref_checkPoly_nil v c w1)
  cases hp : okP p q
  all_goals
    rw [hp] at HV
    clear hp
    go_enter Tryz.func54, Tryz.ntmps54
    go_wp2_with (first | (go_at_call 86; refine (HV.out _).mono ?_; rintro en w1 ⟨rfl, pw, rfl⟩) | (go_at_call 45; refine (HC.out _).mono ?_; rintro en w1 ⟨rfl, pw, rfl⟩))
    all_goals (go_ret; refine ⟨rfl, ?_⟩; (repeat (first | exact New.refl _ | apply New.alloc | apply New.aft | apply New.drew | refine New.setCell ?_ ?_ _)); all_goals (first | done | (simp [size_aft]; done) | (simp [size_aft]; omega)))
set_option maxHeartbeats 2000000 in
theorem Where_nil (v : Option Addr) (c : Nat) (p q : Int) (w : World) : Calls Tryz.prog 53 #[.slice v 0 c, pv p q] w fun en w' => en = .returned (.int .u8 0) ∧ New w w' := by
  have HV := Lib.hid (checkPoint_c p q)
  have HC := Lib.hid (fun w1 : World => checkPoly_nil v c w1)
  cases hp : okP p q
  · rw [okErr_no hp] at HV
    clear hp
    go_enter Tryz.func53, Tryz.ntmps53
    go_wp2_with (go_at_call 29; refine (HV.out _).mono ?_; rintro en w1 ⟨rfl, pw, rfl⟩)
    all_goals (go_ret; refine ⟨rfl, ?_⟩; (repeat (first | exact New.refl _ | apply New.alloc | apply New.aft | apply New.drew | refine New.setCell ?_ ?_ _)); all_goals (first | done | (simp [size_aft]; done) | (simp [size_aft]; omega)))
  · rw [okErr_yes hp] at HV
    clear hp
    go_enter Tryz.func53, Tryz.ntmps53
    go_wp2_with (first | (go_at_call 29; refine (HV.out _).mono ?_; rintro en w1 ⟨rfl, pw, rfl⟩) | (go_at_call 44; refine (HC.out _).mono ?_; rintro en w1 ⟨rfl, pw, rfl⟩))
    all_goals (go_ret; refine ⟨rfl, ?_⟩; (repeat (first | exact New.refl _ | apply New.alloc | apply New.aft | apply New.drew | refine New.setCell ?_ ?_ _)); all_goals (first | done | (simp [size_aft]; done) | (simp [size_aft]; omega)))

set_option maxHeartbeats 4000000 in
theorem where_of (v : Option Addr) (n c : Nat) (p q V : Int) (w : World) (hn : n ≤ 40)
    (HA : Hid (∀ w1 : World, New w w1 → Calls Tryz.prog 53 #[.slice v n c, pv p q] w1 fun en w' => en = .returned (.int .u8 V) ∧ New w1 w'))
    (HB : Hid (∀ w1 : World, New w w1 → Calls Tryz.prog 54 #[.slice v n c, pv p q] w1 fun en w' => en = .returned (.int .u8 V) ∧ New w1 w')) :
    Calls Tryz.prog 10 #[.slice v n c, pv p q] w fun e w' => e = .returned (.bool true) ∧ New w w' := by
  have HL := Lib.hid alive_c
  have hn2 : ¬ (40 : Int) < (n : Int) := by omega
  have t1 : (V == V) = true := by simp
  have HA' := Lib.hid (fun (o : Obj) (d : Nat) (os : Array Obj) => HA.out (Aft (w.alloc o) d os) (((New.refl _).alloc _).aft _ _))
  have HB' := Lib.hid (fun (o : Obj) (d : Nat) (os : Array Obj) => HB.out (Aft (w.alloc o) d os) (((New.refl _).alloc _).aft _ _))
  go_enter Tryz.func10, Tryz.ntmps10
  go_wp2_with fail
  first | refine wp_region_at2 (by kernel_rfl) (by kernel_rfl) ?_ | refine wp_region_at (by kernel_rfl) (by kernel_rfl) ?_
  repeat (go_big_quiet_step (first | (go_at_call 31; exact calls_new (HL.out _)) | (go_at_call 53; exact calls_new (HA'.out _ _ _)) | (go_at_call 54; exact calls_new (HB'.out _ _ _))))
  refine wpQuiet_nil ?_
  rintro _ ⟨q0, rfl⟩
  go_wp2_with fail
  all_goals (go_ret; refine ⟨ret_bool (by simp), ?_⟩; (repeat (first | exact New.refl _ | apply New.alloc | apply New.aft | apply New.drew | refine New.setCell ?_ ?_ _)); all_goals (first | done | (simp [size_aft]; done) | (simp [size_aft]; omega)))

theorem planeWhere_all (w : World) (av : Option Addr) (n c : Nat) (l : List P2) (hl : l.length = n) (hp : 0 < n → ∃ b off, av = some ⟨b, off, none⟩ ∧ Pts w b off n l) (p q : Int) : Calls Tryz.prog 10 #[.slice av n c, pv p q] w fun e w' => e = .returned (.bool true) ∧ New w w' := by
  by_cases hn : n ≤ 40
  · by_cases h0 : 0 < n
    · obtain ⟨b, off, rfl, hw⟩ := hp h0
      exact where_of _ n c p q (WhereI l p q) w hn (Lib.hid (fun w1 h1 => Where_c b off n c l p q w1 h0 (by omega) (hw.new h1))) (Lib.hid (fun w1 h1 => ref_Where b off n c l p q w1 h0 (by omega) (hw.new h1)))
    · obtain rfl : n = 0 := by omega
      exact where_of av 0 c p q 0 w hn (Lib.hid (fun w1 _ => Where_nil av c p q w1)) (Lib.hid (fun w1 _ => ref_Where_nil av c p q w1))
  · have HL := Lib.hid alive_c
    have hn2 : (40 : Int) < (n : Int) := by omega
    clear hp hl
    go_enter Tryz.func10, Tryz.ntmps10
    go_wp2_with (go_at_call 31; refine (HL.out _).mono ?_; rintro e w1 ⟨rfl, pw, rfl⟩)
    all_goals (go_ret; refine ⟨ret_bool (by simp), ?_⟩; (repeat (first | exact New.refl _ | apply New.alloc | apply New.aft | apply New.drew | refine New.setCell ?_ ?_ _)); all_goals (first | done | (simp [size_aft]; done) | (simp [size_aft]; omega)))

end Go.Proofs.YtpdfbboagaflhaaGreat

set_option linter.unusedSimpArgs false
set_option linter.unusedVariables false
set_option linter.unusedSectionVars false
namespace Go.Proofs.YtpdfbboagaflhaaGreat
open Go.RowKit

theorem ptLit_one1 {x y x' y' : Int} (e : ptLit x y = ptLit x' y') (h1 : 0 ≤ x ∧ x ≤ 10000) (h2 : 0 ≤ y ∧ y ≤ 10000) (h3 : 0 ≤ x' ∧ x' ≤ 10000) (h4 : 0 ≤ y' ∧ y' ≤ 10000) : x = x' ∧ y = y' := by
  unfold ptLit at e
  simp only [Lit.string.injEq] at e
  have w1 : (Lit.int .i64 x).wf = true := WalkArith.wf_i64 (by omega)
  have w2 : (Lit.int .i64 y).wf = true := WalkArith.wf_i64 (by omega)
  have w3 : (Lit.int .i64 x').wf = true := WalkArith.wf_i64 (by omega)
  have w4 : (Lit.int .i64 y').wf = true := WalkArith.wf_i64 (by omega)
  have := keyBytes_inj (l := [.int .i64 x, .int .i64 y]) (l' := [.int .i64 x', .int .i64 y']) (by simp [Alike, Lit.sameKind]) (by simp [Lit.keyWf, w1, w2]) (by simp [Lit.keyWf, w3, w4]) e
  simpa using this
theorem rep_none1 {l : List P2} (hok : okL l = true) (h : ∀ i j : Nat, j < i → i < l.length → ¬ (px l i = px l j ∧ py l i = py l j)) : repI l = false := by
  rw [repI_nodup, keysTo, nodup_map_range]
  intro i j hi hj e
  have b1 := okL_bd hok i
  have b2 := okL_bd hok j
  have := ptLit_one1 e b1.1 b1.2 b2.1 b2.2
  rcases Nat.lt_trichotomy i j with hh | hh | hh
  · exact absurd ⟨this.1.symm, this.2.symm⟩ (h j i hh hj)
  · exact hh
  · exact absurd this (h i j hh hi)
theorem sign_ne {a : Int} (h : a ≠ 0) : Int.sign a = 1 ∨ Int.sign a = -1 := by
  rcases Int.lt_or_gt_of_ne h with h | h
  · right; exact Int.sign_eq_neg_one_of_neg h
  · left; exact Int.sign_eq_one_of_pos h
theorem mul_ne {a c : Int} (ha : a ≠ 0) (hc : c ≠ 0) : a * c ≠ 0 := fun h => by rcases Int.mul_eq_zero.1 h with h | h <;> contradiction
theorem okL_okP {l : List P2} (h : okL l = true) (i : Nat) (hi : i < l.length) : okP (px l i) (py l i) = true := by
  have := okL_bd h i
  simp only [okP, okN, Bool.and_eq_true, decide_eq_true_eq]; omega
theorem edge_okS {l : List P2} (hok : okL l = true) (hrep : repI l = false) (h2 : 2 ≤ l.length) (i : Nat) (hi : i < l.length) : okS (q1 (edgesL l) i) (q2 (edgesL l) i) (q3 (edgesL l) i) (q4 (edgesL l) i) = true := by
  obtain ⟨e1, e2, e3, e4⟩ := edgesL_at l i hi
  have b1 := okL_bd hok i
  have b2 := okL_bd hok ((i + 1) % l.length)
  have hm : (i + 1) % l.length < l.length := Nat.mod_lt _ (by omega)
  rw [e1, e2, e3, e4, okS_iff]
  refine ⟨b1, b2, fun ⟨u, v⟩ => ?_⟩
  have := rep_no hrep hi hm u v
  by_cases hh : i + 1 < l.length
  · rw [Nat.mod_eq_of_lt hh] at this; omega
  · rw [show i + 1 = l.length by omega, Nat.mod_self] at this; omega
theorem anyOn_false {L : List S4} {p q : Int} {n : Nat} : anyOn L p q n = false ↔ ∀ i, i < n → onAt L p q i = false := by
  simp [anyOn]
def ptAt (l : List P2) (i : Nat) : P2 := (px l i, py l i)
theorem ptAt_get (l : List P2) (i : Nat) (h : i < l.length) : ptAt l i = l[i] := by simp [ptAt, px, py, List.getD_eq_getElem?_getD, h]
/-- which comes first -/
def lexLt (p q : P2) : Prop := p.1 < q.1 ∨ (p.1 = q.1 ∧ p.2 < q.2)
theorem orI_lt (x y x' y' : Int) : orI (cmpI x x') (cmpI y y') < 0 ↔ x < x' ∨ (x = x' ∧ y < y') := by
  unfold orI cmpI
  by_cases h1 : x < x'
  · simp [h1]
  · by_cases h2 : x' < x
    · simp [h1, h2] <;> omega
    · by_cases h3 : y < y'
      · simp [h1, h2, h3] <;> omega
      · by_cases h4 : y' < y
        · simp [h1, h2, h3, h4] <;> omega
        · simp [h1, h2, h3, h4] <;> omega
theorem ltP_iff (l : List P2) (i j : Nat) : ltP l i j = true ↔ lexLt (ptAt l i) (ptAt l j) := by
  simp only [ltP, decide_eq_true_eq, orI_lt, lexLt, ptAt]
theorem least_spec (l : List P2) : ∀ k, 0 < k → leastTo l k < k ∧ ∀ i, i < k → ¬ lexLt (ptAt l i) (ptAt l (leastTo l k))
  | 0, h => absurd h (by omega)
  | 1, _ => by
    have e : leastTo l 1 = 0 := by
      show (if ltP l 0 (leastTo l 0) = true then 0 else leastTo l 0) = 0
      split <;> rfl
    rw [e]
    refine ⟨by omega, fun i hi => ?_⟩
    obtain rfl : i = 0 := by omega
    unfold lexLt; omega
  | k + 2, _ => by
    obtain ⟨h1, h2⟩ := least_spec l (k + 1) (by omega)
    rw [show leastTo l (k + 2) = if ltP l (k + 1) (leastTo l (k + 1)) = true then k + 1 else leastTo l (k + 1) from rfl]
    split
    next h =>
      rw [ltP_iff] at h
      refine ⟨by omega, fun i hi => ?_⟩
      by_cases e : i = k + 1
      · subst e; unfold lexLt; omega
      · have := h2 i (by omega)
        unfold lexLt at *; omega
    next h =>
      rw [ltP_iff] at h
      refine ⟨by omega, fun i hi => ?_⟩
      by_cases e : i = k + 1
      · subst e; exact h
      · exact h2 i (by omega)
theorem least_unique {l : List P2} {n j : Nat} (hj : j < n) (h : ∀ i, i < n → i ≠ j → lexLt (ptAt l j) (ptAt l i)) : leastTo l n = j := by
  obtain ⟨h1, h2⟩ := least_spec l n (by omega)
  by_cases e : leastTo l n = j
  · exact e
  · exact absurd (h _ h1 e) (h2 j hj)

/-! bends as a filter -/
theorem bendsTo_filter (l : List P2) (n : Nat) : ∀ k, bendsTo l n k = ((List.range k).filter (fun i => decide (turnAt l n i ≠ 0))).map (ptAt l)
  | 0 => rfl
  | k + 1 => by
    rw [List.range_succ, List.filter_append, List.map_append, ← bendsTo_filter l n k]
    simp only [bendsTo]
    by_cases h : turnAt l n k = 0
    · rw [if_pos h]; simp [h]
    · rw [if_neg h]; simp [h, ptAt]
theorem rot_at (l : List P2) (f i : Nat) (hf : f ≤ l.length) (hi : i < l.length) : px (rotL l f) i = px l ((f + i) % l.length) ∧ py (rotL l f) i = py l ((f + i) % l.length) := by
  have : (rotL l f)[i]? = l[(f + i) % l.length]? := by
    unfold rotL
    by_cases h : i < l.length - f
    · rw [List.getElem?_append_left (by simpa using h), List.getElem?_drop, Nat.mod_eq_of_lt (by omega)]
    · rw [List.getElem?_append_right (by simp; omega), List.length_drop, List.getElem?_take_of_lt (by omega), show f + i = (i - (l.length - f)) + l.length by omega, Nat.add_mod_right, Nat.mod_eq_of_lt (by omega)]
  simp only [px, py, List.getD_eq_getElem?_getD, this, and_self]
theorem rotL_len (l : List P2) (f : Nat) (h : f ≤ l.length) : (rotL l f).length = l.length := by simp [rotL]; omega
theorem mod_prev {n i f : Nat} (hf : f ≤ n) (hi : i < n) : (f + (i + n - 1) % n) % n = ((f + i) % n + n - 1) % n := by
  by_cases h0 : i = 0
  · subst h0
    rw [Nat.zero_add, Nat.mod_eq_of_lt (show n - 1 < n by omega), Nat.add_zero]
    by_cases hh : f = n
    · subst hh; rw [Nat.mod_self, Nat.zero_add, show f + (f - 1) = (f - 1) + f by omega, Nat.add_mod_right]
    · rw [Nat.mod_eq_of_lt (show f < n by omega), show f + (n - 1) = f + n - 1 by omega]
  · rw [show i + n - 1 = (i - 1) + n by omega, Nat.add_mod_right, Nat.mod_eq_of_lt (show i - 1 < n by omega)]
    by_cases hh : f + i < n
    · rw [Nat.mod_eq_of_lt hh, show f + i + n - 1 = (f + (i - 1)) + n by omega, Nat.add_mod_right]
    · by_cases h2 : f + i = n
      · rw [h2, Nat.mod_self, Nat.zero_add, show f + (i - 1) = n - 1 by omega]
      · rw [show f + i = (f + i - n) + n by omega, Nat.add_mod_right, Nat.mod_eq_of_lt (show f + i - n < n by omega), show f + (i - 1) = (f + i - n - 1) + n by omega, Nat.add_mod_right, show f + i - n + n - 1 = (f + i - n - 1) + n by omega, Nat.add_mod_right]
theorem mod_next {n i f : Nat} : (f + (i + 1) % n) % n = ((f + i) % n + 1) % n := by
  rw [Nat.add_mod_mod, Nat.mod_add_mod, Nat.add_assoc]
theorem turnAt_rot (l : List P2) (f i : Nat) (hf : f ≤ l.length) (hi : i < l.length) : turnAt (rotL l f) l.length i = turnAt l l.length ((f + i) % l.length) := by
  have h1 : (i + l.length - 1) % l.length < l.length := Nat.mod_lt _ (by omega)
  have h2 : (i + 1) % l.length < l.length := Nat.mod_lt _ (by omega)
  unfold turnAt
  rw [(rot_at l f _ hf h1).1, (rot_at l f _ hf h1).2, (rot_at l f _ hf hi).1, (rot_at l f _ hf hi).2, (rot_at l f _ hf h2).1, (rot_at l f _ hf h2).2, mod_prev hf hi, mod_next]
theorem range_rot (n f : Nat) (hf : f ≤ n) : (List.range n).map (fun i => (f + i) % n) = List.range' f (n - f) ++ List.range f := by
  apply List.ext_getElem
  · simp; omega
  · intro i h1 h2
    simp only [List.length_map, List.length_range] at h1
    simp only [List.getElem_map, List.getElem_range]
    by_cases h : i < n - f
    · rw [List.getElem_append_left (by simpa using h), List.getElem_range', Nat.mod_eq_of_lt (by omega)]; omega
    · rw [List.getElem_append_right (by simp; omega)]
      simp only [List.length_range', List.getElem_range]
      rw [show f + i = (i - (n - f)) + n by omega, Nat.add_mod_right, Nat.mod_eq_of_lt (by omega)]
/-- the corners that stay, from one index on, and before it -/
def keepA (l : List P2) (f : Nat) : List P2 := ((List.range f).filter (fun i => decide (turnAt l l.length i ≠ 0))).map (ptAt l)
def keepZ (l : List P2) (f : Nat) : List P2 := ((List.range' f (l.length - f)).filter (fun i => decide (turnAt l l.length i ≠ 0))).map (ptAt l)
theorem normB_split (l : List P2) (f : Nat) (hf : f ≤ l.length) : normB l = keepA l f ++ keepZ l f := by
  unfold normB keepA keepZ
  rw [bendsTo_filter, ← List.map_append, ← List.filter_append]
  congr 2
  apply List.ext_getElem
  · simp; omega
  · intro i h1 h2
    by_cases h : i < f
    · rw [List.getElem_append_left (by simpa using h)]; simp
    · rw [List.getElem_append_right (by simp; omega)]; simp; omega
theorem normB_rot (l : List P2) (f : Nat) (hf : f ≤ l.length) : normB (rotL l f) = keepZ l f ++ keepA l f := by
  unfold normB keepA keepZ
  rw [bendsTo_filter, rotL_len l f hf, ← List.map_append, ← List.filter_append, ← range_rot _ _ hf, List.filter_map, List.map_map]
  have : ∀ m : List Nat, (∀ i ∈ m, i < l.length) → (m.filter (fun i => decide (turnAt (rotL l f) l.length i ≠ 0))).map (ptAt (rotL l f)) = (m.filter ((fun i => decide (turnAt l l.length i ≠ 0)) ∘ fun i => (f + i) % l.length)).map (ptAt l ∘ fun i => (f + i) % l.length) := by
    intro m
    induction m with
    | nil => intro _; rfl
    | cons i m ih =>
      intro h
      have hi : i < l.length := h i (by simp)
      have e1 : ptAt (rotL l f) i = (ptAt l ∘ fun i => (f + i) % l.length) i := by simp only [ptAt, Function.comp, (rot_at l f i hf hi).1, (rot_at l f i hf hi).2]
      have e2 : decide (turnAt (rotL l f) l.length i ≠ 0) = ((fun i => decide (turnAt l l.length i ≠ 0)) ∘ fun i => (f + i) % l.length) i := by simp only [Function.comp, turnAt_rot l f i hf hi]
      rw [List.filter_cons, List.filter_cons, e2]
      split
      · rw [List.map_cons, List.map_cons, e1, ih (fun j hj => h j (by simp [hj]))]
      · exact ih (fun j hj => h j (by simp [hj]))
  exact this _ (fun i hi => by simpa using hi)
/-- a corner that comes before all others and is not straight: turning round and striking commute -/
theorem rot_norm {l : List P2} {f : Nat} (hf : f < l.length) (ht : turnAt l l.length f ≠ 0) (hs : ∀ i, i < l.length → i ≠ f → lexLt (ptAt l f) (ptAt l i)) :
    rotL (normB l) (leastTo (normB l) (normB l).length) = normB (rotL l f) := by
  have e1 : keepZ l f = ptAt l f :: (((List.range' (f + 1) (l.length - f - 1)).filter (fun i => decide (turnAt l l.length i ≠ 0))).map (ptAt l)) := by
    unfold keepZ
    rw [show l.length - f = (l.length - f - 1) + 1 by omega, List.range'_succ, List.filter_cons_of_pos (by simpa using ht), List.map_cons]
    rfl
  have hn : normB l = keepA l f ++ keepZ l f := normB_split l f (by omega)
  have hle : leastTo (normB l) (normB l).length = (keepA l f).length := by
    have hk : (keepA l f).length < (normB l).length := by rw [hn, e1]; simp
    refine least_unique hk fun i hi hne => ?_
    have hk' : ptAt (normB l) (keepA l f).length = ptAt l f := by
      rw [ptAt_get _ _ hk]
      simp only [hn, e1]
      simp
    rw [hk', ptAt_get _ _ hi]
    by_cases hlt : i < (keepA l f).length
    · have e : (normB l)[i] = (keepA l f)[i] := by simp only [hn]; rw [List.getElem_append_left hlt]
      rw [e]
      have hm : (keepA l f)[i] ∈ keepA l f := List.getElem_mem hlt
      simp only [keepA, List.mem_map, List.mem_filter, List.mem_range] at hm
      obtain ⟨j, ⟨hj, _⟩, he⟩ := hm
      simp only [keepA]
      rw [← he]
      exact hs j (by omega) (by omega)
    · have hb : i - (keepA l f).length < (keepZ l f).length := by rw [hn, List.length_append] at hi; omega
      have e : (normB l)[i] = (keepZ l f)[i - (keepA l f).length] := by simp only [hn]; rw [List.getElem_append_right (by omega)]
      rw [e]
      obtain ⟨j, hj⟩ : ∃ j, i - (keepA l f).length = j + 1 := ⟨i - (keepA l f).length - 1, by omega⟩
      have hb2 : j + 1 < (keepZ l f).length := by omega
      have e3 : (keepZ l f)[i - (keepA l f).length] = (keepZ l f)[j + 1] := by congr 1
      rw [e3]
      have hb3 : j < (((List.range' (f + 1) (l.length - f - 1)).filter (fun i => decide (turnAt l l.length i ≠ 0))).map (ptAt l)).length := by rw [e1] at hb2; simpa using hb2
      have e4 : (keepZ l f)[j + 1] = (((List.range' (f + 1) (l.length - f - 1)).filter (fun i => decide (turnAt l l.length i ≠ 0))).map (ptAt l))[j] := by simp only [e1]; rfl
      rw [e4]
      have hm := List.getElem_mem hb3
      rw [List.mem_map] at hm
      obtain ⟨k, hk1, hk2⟩ := hm
      rw [List.mem_filter, List.mem_range'_1] at hk1
      rw [← hk2]
      exact hs k (by omega) (by omega)
  rw [hle, normB_rot l f (by omega), hn]
  unfold rotL
  simp

/-! the least corner is not straight -/
theorem meet_fold {a b c d e f : Int} (h1 : okS a b c d = true) (h2 : okS c d e f = true) (hl : lexLt (c, d) (a, b)) (hr : lexLt (c, d) (e, f)) (ht : turnI a b c d e f = 0) : meetI a b c d c d e f = 4 := by
  obtain ⟨⟨b1, b2⟩, ⟨b3, b4⟩, _⟩ := okS_iff.1 h1
  obtain ⟨_, ⟨b5, b6⟩, _⟩ := okS_iff.1 h2
  have t0 : turnI a b c d c d = 0 := by
    rw [turnI_sign, show (c - a) * (d - b) - (d - b) * (c - a) = 0 by grind]; rfl
  have F1 : f1 a b c d = c ∧ f2 a b c d = d ∧ f3 a b c d = a ∧ f4 a b c d = b := by
    have : 0 < orI (cmpI a c) (cmpI b d) := by
      have k1 := orI_lt a b c d
      have k2 := orI_lt c d a b
      have k3 : orI (cmpI a c) (cmpI b d) = - orI (cmpI c a) (cmpI d b) := by
        unfold orI cmpI; split <;> split <;> (repeat split) <;> omega
      unfold lexLt at hl
      omega
    unfold f1 f2 f3 f4
    simp only [if_pos this, and_self]
  have F2 : f1 c d e f = c ∧ f2 c d e f = d ∧ f3 c d e f = e ∧ f4 c d e f = f := by
    have : ¬ 0 < orI (cmpI c e) (cmpI d f) := by
      have := (orI_lt c d e f).2 hr
      omega
    unfold f1 f2 f3 f4
    simp only [if_neg this, and_self]
  rw [meetI, if_pos ⟨t0, ht⟩, F1.1, F1.2.1, F1.2.2.1, F1.2.2.2, F2.1, F2.2.1, F2.2.2.1, F2.2.2.2, onLine_key b4 b2 b4 b6, if_pos]
  unfold kap lexLt at *
  omega
theorem prev_next {n k : Nat} (hk : k < n) : ((k + n - 1) % n + 1) % n = k := by
  by_cases h0 : k = 0
  · subst h0; rw [Nat.zero_add, Nat.mod_eq_of_lt (show n - 1 < n by omega), show n - 1 + 1 = n by omega, Nat.mod_self]
  · rw [show k + n - 1 = (k - 1) + n by omega, Nat.add_mod_right, Nat.mod_eq_of_lt (show k - 1 < n by omega), show k - 1 + 1 = k by omega, Nat.mod_eq_of_lt hk]
theorem prev_cases {n k : Nat} (hk : k < n) : (k = 0 ∧ (k + n - 1) % n = n - 1) ∨ (0 < k ∧ (k + n - 1) % n = k - 1) := by
  by_cases h0 : k = 0
  · left; subst h0; exact ⟨rfl, by rw [Nat.zero_add, Nat.mod_eq_of_lt (by omega)]⟩
  · right; exact ⟨by omega, by rw [show k + n - 1 = (k - 1) + n by omega, Nat.add_mod_right, Nat.mod_eq_of_lt (by omega)]⟩
/-- neighbouring edges of a simple polygon meet in an end alone -/
theorem edges_one {l : List P2} (h : polyI l = 0) {k : Nat} (hk : k < l.length) : meetE (edgesL l) ((k + l.length - 1) % l.length) k = 1 := by
  obtain ⟨h1, h2, h3, h4⟩ := polyI_ok h
  rw [apartB_iff] at h4
  obtain ⟨_, hok⟩ := ckPts_zero h1
  rcases prev_cases hk with ⟨e0, e1⟩ | ⟨e0, e1⟩
  · rw [e1]
    subst e0
    have := h4 0 hk (l.length - 1) (by omega) (by omega)
    have k1 := edge_okS hok h3 (by omega) 0 hk
    have k2 := edge_okS hok h3 (by omega) (l.length - 1) (by omega)
    unfold meetE at this ⊢
    rw [meetI_comm k1 k2, this]
    unfold wantI
    rw [if_pos (by omega)]
  · rw [e1, h4 (k - 1) (by omega) k (by omega) hk]
    unfold wantI
    rw [if_pos (by omega)]
theorem least_bend {l : List P2} (h : polyI l = 0) {k : Nat} (hk : k < l.length) (hs : ∀ i, i < l.length → i ≠ k → lexLt (ptAt l k) (ptAt l i)) : turnAt l l.length k ≠ 0 := by
  obtain ⟨h1, h2, h3, h4⟩ := polyI_ok h
  obtain ⟨_, hok⟩ := ckPts_zero h1
  have he := edges_one h hk
  have hp : (k + l.length - 1) % l.length < l.length := Nat.mod_lt _ (by omega)
  have hq : (k + 1) % l.length < l.length := Nat.mod_lt _ (by omega)
  have k1 := edge_okS hok h3 (by omega) _ hp
  have k2 := edge_okS hok h3 (by omega) k hk
  obtain ⟨e1, e2, e3, e4⟩ := edgesL_at l _ hp
  obtain ⟨g1, g2, g3, g4⟩ := edgesL_at l k hk
  rw [prev_next hk] at e3 e4
  rw [e1, e2, e3, e4] at k1
  rw [g1, g2, g3, g4] at k2
  unfold meetE at he
  rw [e1, e2, e3, e4, g1, g2, g3, g4] at he
  intro ht
  have n1 : (k + l.length - 1) % l.length ≠ k := by rcases prev_cases hk with ⟨a, b⟩ | ⟨a, b⟩ <;> omega
  have n2 : (k + 1) % l.length ≠ k := by
    by_cases hh : k + 1 < l.length
    · rw [Nat.mod_eq_of_lt hh]; omega
    · rw [show k + 1 = l.length by omega, Nat.mod_self]; omega
  have := meet_fold k1 k2 (hs _ hp n1) (hs _ hq n2) ht
  omega

/-! the doubled area without straight corners -/
/-- the doubled area of the triangle of three points -/
def c3 (p q r : P2) : Int := (q.1 - p.1) * (r.2 - p.2) - (q.2 - p.2) * (r.1 - p.1)
def cr (p q : P2) : Int := p.1 * q.2 - p.2 * q.1
def chain : P2 → List P2 → Int
  | _, [] => 0
  | p, q :: l => cr p q + chain q l
def lastOf : P2 → List P2 → P2
  | p, [] => p
  | _, q :: l => lastOf q l
theorem chain_snoc (p : P2) (l : List P2) (q : P2) : chain p (l ++ [q]) = chain p l + cr (lastOf p l) q := by
  induction l generalizing p with
  | nil => simp [chain, lastOf]
  | cons r l ih => simp only [List.cons_append, chain, lastOf, ih]; omega
theorem lastOf_snoc (p : P2) (l : List P2) (q : P2) : lastOf p (l ++ [q]) = q := by
  induction l generalizing p with
  | nil => rfl
  | cons r l ih => simp only [List.cons_append, lastOf, ih]
theorem line3 {p q r s : P2} (hne : q ≠ r) (h1 : c3 p q r = 0) (h2 : c3 q r s = 0) : c3 p r s = 0 := by
  obtain ⟨p1, p2⟩ := p; obtain ⟨q1, q2⟩ := q; obtain ⟨r1, r2⟩ := r; obtain ⟨s1, s2⟩ := s
  simp only [c3] at *
  by_cases hx : r1 = q1
  · have hy : r2 ≠ q2 := fun e => hne (by rw [hx, e])
    subst hx
    have a1 : (r2 - q2) * (r1 - p1) = 0 := by grind
    have a2 : (r2 - q2) * (s1 - r1) = 0 := by grind
    have y : r2 - q2 ≠ 0 := by omega
    have b1 := (Int.mul_eq_zero.1 a1).resolve_left y
    have b2 := (Int.mul_eq_zero.1 a2).resolve_left y
    rw [show s1 = p1 by omega, show r1 = p1 by omega]
    simp
  · have x : r1 - q1 ≠ 0 := by omega
    have e : (r1 - q1) * ((r1 - p1) * (s2 - p2) - (r2 - p2) * (s1 - p1)) = 0 := by grind
    exact (Int.mul_eq_zero.1 e).resolve_left x
theorem c3_cr (p q r : P2) : cr p q + cr q r = cr p r + c3 p q r := by
  simp only [c3, cr]; grind
/-- as long as the first corner stays and neighbours differ -/
theorem chain_bends (l : List P2) (h0 : turnAt l l.length 0 ≠ 0) (hd : ∀ k, k < l.length → ptAt l k ≠ ptAt l ((k + 1) % l.length)) :
    ∀ k, k < l.length → ∃ m, bendsTo l l.length (k + 1) = ptAt l 0 :: m ∧ c3 (lastOf (ptAt l 0) m) (ptAt l k) (ptAt l ((k + 1) % l.length)) = 0 ∧
      chain (ptAt l 0) m + cr (lastOf (ptAt l 0) m) (ptAt l ((k + 1) % l.length)) = crossTo (edgesL l) (k + 1)
  | 0, h => by
    refine ⟨[], ?_, ?_, ?_⟩
    · simp only [bendsTo, if_neg h0, List.nil_append]; rfl
    · simp [lastOf, c3]
    · obtain ⟨g1, g2, g3, g4⟩ := edgesL_at l 0 h
      simp only [chain, lastOf, crossTo, g1, g2, g3, g4, cr, ptAt]
  | k + 1, h => by
    obtain ⟨m, e1, e2, e3⟩ := chain_bends l h0 hd k (by omega)
    rw [Nat.mod_eq_of_lt h] at e2 e3
    obtain ⟨g1, g2, g3, g4⟩ := edgesL_at l (k + 1) h
    have hc : crossTo (edgesL l) (k + 2) = crossTo (edgesL l) (k + 1) + cr (ptAt l (k + 1)) (ptAt l ((k + 1 + 1) % l.length)) := by
      rw [show crossTo (edgesL l) (k + 2) = crossTo (edgesL l) (k + 1) + (q1 (edgesL l) (k + 1) * q4 (edgesL l) (k + 1) - q2 (edgesL l) (k + 1) * q3 (edgesL l) (k + 1)) from rfl, g1, g2, g3, g4]
      rfl
    have hb : bendsTo l l.length (k + 2) = if turnAt l l.length (k + 1) = 0 then bendsTo l l.length (k + 1) else bendsTo l l.length (k + 1) ++ [ptAt l (k + 1)] := rfl
    rw [hb, hc]
    by_cases ht : turnAt l l.length (k + 1) = 0
    · rw [if_pos ht]
      have hp : (k + 1 + l.length - 1) % l.length = k := by rw [show k + 1 + l.length - 1 = k + l.length by omega, Nat.add_mod_right, Nat.mod_eq_of_lt (by omega)]
      have z : c3 (ptAt l k) (ptAt l (k + 1)) (ptAt l ((k + 1 + 1) % l.length)) = 0 := by
        rw [turnAt, hp, turnI_sign, Int.sign_eq_zero_iff_zero] at ht
        exact ht
      have hne := hd k (by omega)
      rw [Nat.mod_eq_of_lt h] at hne
      have z2 := line3 hne e2 z
      refine ⟨m, e1, z2, ?_⟩
      have := c3_cr (lastOf (ptAt l 0) m) (ptAt l (k + 1)) (ptAt l ((k + 1 + 1) % l.length))
      omega
    · rw [if_neg ht]
      refine ⟨m ++ [ptAt l (k + 1)], by rw [e1]; rfl, ?_, ?_⟩
      · rw [lastOf_snoc]; simp [c3]
      · rw [lastOf_snoc, chain_snoc]; omega
/-- the doubled area of a list, as a chain that comes back -/
theorem cross_chain (p : P2) (m : List P2) : crossTo (edgesL (p :: m)) (m.length + 1) = chain p m + cr (lastOf p m) p := by
  have gen : ∀ k, k ≤ m.length → crossTo (edgesL (p :: m)) k = chain p (m.take k) ∧ lastOf p (m.take k) = ptAt (p :: m) k := by
    intro k
    induction k with
    | zero => intro _; simp [crossTo, chain, lastOf, ptAt, px, py]
    | succ k ih =>
      intro hk
      obtain ⟨i1, i2⟩ := ih (by omega)
      obtain ⟨g1, g2, g3, g4⟩ := edgesL_at (p :: m) k (by simp; omega)
      rw [Nat.mod_eq_of_lt (by simp; omega)] at g3 g4
      have hk' : k < m.length := by omega
      have e : m[k] = ptAt (p :: m) (k + 1) := by rw [ptAt_get _ _ (by simp; omega)]; rfl
      rw [List.take_succ_eq_append_getElem hk', chain_snoc, lastOf_snoc, i2, e]
      refine ⟨?_, rfl⟩
      rw [show crossTo (edgesL (p :: m)) (k + 1) = crossTo (edgesL (p :: m)) k + (q1 (edgesL (p :: m)) k * q4 (edgesL (p :: m)) k - q2 (edgesL (p :: m)) k * q3 (edgesL (p :: m)) k) from rfl, i1, g1, g2, g3, g4]
      rfl
  obtain ⟨i1, i2⟩ := gen m.length (Nat.le_refl _)
  rw [List.take_length] at i1 i2
  obtain ⟨g1, g2, g3, g4⟩ := edgesL_at (p :: m) m.length (by simp)
  rw [List.length_cons, Nat.mod_self] at g3 g4
  rw [show crossTo (edgesL (p :: m)) (m.length + 1) = crossTo (edgesL (p :: m)) m.length + (q1 (edgesL (p :: m)) m.length * q4 (edgesL (p :: m)) m.length - q2 (edgesL (p :: m)) m.length * q3 (edgesL (p :: m)) m.length) from rfl, i1, i2, g1, g2, g3, g4]
  simp [cr, ptAt, px, py]
theorem cross_bends {l : List P2} (hn : 0 < l.length) (h0 : turnAt l l.length 0 ≠ 0) (hd : ∀ k, k < l.length → ptAt l k ≠ ptAt l ((k + 1) % l.length)) :
    crossTo (edgesL (normB l)) (normB l).length = crossTo (edgesL l) l.length := by
  obtain ⟨m, e1, e2, e3⟩ := chain_bends l h0 hd (l.length - 1) (by omega)
  rw [show l.length - 1 + 1 = l.length by omega, Nat.mod_self] at e3
  rw [show l.length - 1 + 1 = l.length by omega] at e1
  have : normB l = ptAt l 0 :: m := e1
  rw [this, List.length_cons, cross_chain, e3]
/-- turning round leaves the doubled area -/
theorem cross_app (a b : List P2) (hb : b ≠ []) (ha : a ≠ []) : crossTo (edgesL (a ++ b)) (a ++ b).length = crossTo (edgesL (b ++ a)) (b ++ a).length := by
  cases a with
  | nil => exact absurd rfl ha
  | cons p a =>
    cases b with
    | nil => exact absurd rfl hb
    | cons q b =>
      have capp : ∀ (x : P2) (u : List P2) (y : P2) (v : List P2), chain x (u ++ y :: v) = chain x u + cr (lastOf x u) y + chain y v := by
        intro x u
        induction u generalizing x with
        | nil => intro y v; simp [chain, lastOf]
        | cons z u ih => intro y v; simp only [List.cons_append, chain, lastOf, ih]; omega
      have lapp : ∀ (x : P2) (u : List P2) (y : P2) (v : List P2), lastOf x (u ++ y :: v) = lastOf y v := by
        intro x u
        induction u generalizing x with
        | nil => intro y v; simp [lastOf]
        | cons z u ih => intro y v; simp only [List.cons_append, lastOf, ih]
      have e1 := cross_chain p (a ++ q :: b)
      have e2 := cross_chain q (b ++ p :: a)
      rw [capp, lapp] at e1 e2
      simp only [List.cons_append, List.length_cons] at *
      rw [e1, e2]; omega
theorem cross_rot (l : List P2) (f : Nat) : crossTo (edgesL (rotL l f)) (rotL l f).length = crossTo (edgesL l) l.length := by
  unfold rotL
  by_cases h1 : l.drop f = []
  · have : l.take f = l := by
      have := List.take_append_drop f l
      rw [h1, List.append_nil] at this; exact this
    rw [h1, this]; rfl
  · by_cases h2 : l.take f = []
    · have : l.drop f = l := by
        have := List.take_append_drop f l
        rw [h2] at this; exact this
      rw [h2, this, List.append_nil]
    · rw [cross_app _ _ h2 h1, List.take_append_drop]

/-! backwards -/
theorem revTo_px (l : List P2) (n : Nat) : ∀ m k, k < m → px (revTo l n m) k = px l (n - 1 - k) ∧ py (revTo l n m) k = py l (n - 1 - k)
  | 0, k, h => absurd h (by omega)
  | m + 1, k, h => by
    have hl := revTo_length l n m
    by_cases e : k = m
    · subst e
      simp [revTo, px, py, List.getD_eq_getElem?_getD, hl]
    · obtain ⟨i1, i2⟩ := revTo_px l n m k (by omega)
      rw [← i1, ← i2]
      simp only [revTo, px, py, List.getD_eq_getElem?_getD]
      rw [List.getElem?_append_left (by rw [hl]; omega)]
      exact ⟨rfl, rfl⟩
theorem revTo_rev (l : List P2) : revTo l l.length l.length = l.reverse := by
  apply List.ext_getElem
  · simp [revTo_length]
  · intro i h1 h2
    rw [List.length_reverse] at h2
    rw [← ptAt_get _ _ h1]
    obtain ⟨i1, i2⟩ := revTo_px l l.length l.length i h2
    simp only [List.getElem_reverse]
    rw [← ptAt_get l _ (by omega)]
    unfold ptAt
    rw [i1, i2]
theorem rev_px (l : List P2) (k : Nat) (h : k < l.length) : px l.reverse k = px l (l.length - 1 - k) ∧ py l.reverse k = py l (l.length - 1 - k) := by
  rw [← revTo_rev]; exact revTo_px l _ _ k h
theorem turnI_neg (a b c d p q : Int) : turnI p q c d a b = - turnI a b c d p q := by
  rw [turnI_sign, turnI_sign, ← Int.sign_neg]; congr 1; grind
theorem mod_rev {n k : Nat} (hk : k < n) : n - 1 - (k + n - 1) % n = (n - 1 - k + 1) % n ∧ n - 1 - (k + 1) % n = (n - 1 - k + n - 1) % n := by
  by_cases h0 : k = 0
  · subst h0
    rw [Nat.zero_add, Nat.mod_eq_of_lt (show n - 1 < n by omega), Nat.sub_zero, show n - 1 + 1 = n by omega, Nat.mod_self]
    refine ⟨by omega, ?_⟩
    by_cases h1 : n = 1
    · subst h1; rfl
    · rw [Nat.zero_add, Nat.mod_eq_of_lt (show 1 < n by omega), show n - 1 + n - 1 = (n - 1 - 1) + n by omega, Nat.add_mod_right, Nat.mod_eq_of_lt (by omega)]
  · rw [show k + n - 1 = (k - 1) + n by omega, Nat.add_mod_right, Nat.mod_eq_of_lt (show k - 1 < n by omega), Nat.mod_eq_of_lt (show n - 1 - k + 1 < n by omega)]
    refine ⟨by omega, ?_⟩
    by_cases h1 : k + 1 = n
    · rw [h1, Nat.mod_self, show n - 1 - k = 0 by omega, Nat.zero_add, Nat.mod_eq_of_lt (by omega)]; omega
    · rw [Nat.mod_eq_of_lt (show k + 1 < n by omega), show n - 1 - k + n - 1 = (n - 1 - k - 1) + n by omega, Nat.add_mod_right, Nat.mod_eq_of_lt (by omega)]; omega
theorem turnAt_rev (l : List P2) (k : Nat) (hk : k < l.length) : turnAt l.reverse l.length k = - turnAt l l.length (l.length - 1 - k) := by
  have h1 : (k + l.length - 1) % l.length < l.length := Nat.mod_lt _ (by omega)
  have h2 : (k + 1) % l.length < l.length := Nat.mod_lt _ (by omega)
  obtain ⟨m1, m2⟩ := mod_rev hk
  unfold turnAt
  rw [(rev_px l _ h1).1, (rev_px l _ h1).2, (rev_px l _ hk).1, (rev_px l _ hk).2, (rev_px l _ h2).1, (rev_px l _ h2).2, m1, m2, turnI_neg]
theorem normB_rev (l : List P2) : normB l.reverse = (normB l).reverse := by
  unfold normB
  rw [bendsTo_filter, bendsTo_filter, List.length_reverse, ← List.map_reverse, ← List.filter_reverse]
  have hr : (List.range l.length).reverse = (List.range l.length).map fun i => l.length - 1 - i := by
    apply List.ext_getElem (by simp)
    intro i h1 h2
    simp
  rw [hr, List.filter_map, List.map_map]
  have : ∀ m : List Nat, (∀ i ∈ m, i < l.length) → (m.filter (fun i => decide (turnAt l.reverse l.length i ≠ 0))).map (ptAt l.reverse) = (m.filter ((fun i => decide (turnAt l l.length i ≠ 0)) ∘ fun i => l.length - 1 - i)).map (ptAt l ∘ fun i => l.length - 1 - i) := by
    intro m
    induction m with
    | nil => intro _; rfl
    | cons i m ih =>
      intro h
      have hi : i < l.length := h i (by simp)
      have e1 : ptAt l.reverse i = (ptAt l ∘ fun i => l.length - 1 - i) i := by simp only [ptAt, Function.comp, (rev_px l i hi).1, (rev_px l i hi).2]
      have e2 : decide (turnAt l.reverse l.length i ≠ 0) = ((fun i => decide (turnAt l l.length i ≠ 0)) ∘ fun i => l.length - 1 - i) i := by
        simp only [Function.comp, turnAt_rev l i hi]
        rw [decide_eq_decide]; omega
      rw [List.filter_cons, List.filter_cons, e2]
      split
      · rw [List.map_cons, List.map_cons, e1, ih (fun j hj => h j (by simp [hj]))]
      · exact ih (fun j hj => h j (by simp [hj]))
  exact this _ (fun i hi => by simpa using hi)

/-! both normal forms -/
/-- what the reference goes round -/
def refA (l : List P2) : List P2 := if areaI l < 0 then l.reverse else l
/-- the reference's normal form -/
def refN (l : List P2) : List P2 := normB (rotL (refA l) (leastTo (refA l) (refA l).length))
theorem pts_ne {l : List P2} (hr : repI l = false) {i j : Nat} (hi : i < l.length) (hj : j < l.length) (h : i ≠ j) : ptAt l i ≠ ptAt l j := fun e => by
  simp only [ptAt, Prod.mk.injEq] at e
  exact h (rep_no hr hi hj e.1 e.2)
theorem least_lt {l : List P2} (hr : repI l = false) (h0 : 0 < l.length) : leastTo l l.length < l.length ∧ ∀ i, i < l.length → i ≠ leastTo l l.length → lexLt (ptAt l (leastTo l l.length)) (ptAt l i) := by
  obtain ⟨h1, h2⟩ := least_spec l l.length h0
  refine ⟨h1, fun i hi hne => ?_⟩
  have a := h2 i hi
  have b := pts_ne hr hi h1 hne
  have b' : ¬ ((ptAt l i).1 = (ptAt l (leastTo l l.length)).1 ∧ (ptAt l i).2 = (ptAt l (leastTo l l.length)).2) := fun ⟨u, v⟩ => b (Prod.ext u v)
  unfold lexLt at *; omega
theorem next_ne {n k : Nat} (h : 2 ≤ n) (hk : k < n) : k ≠ (k + 1) % n := by
  by_cases hh : k + 1 < n
  · rw [Nat.mod_eq_of_lt hh]; omega
  · rw [show k + 1 = n by omega, Nat.mod_self]; omega
theorem area_bends {l : List P2} (h : polyI l = 0) : areaI (normB l) = areaI l ∧ 0 < (normB l).length ∧ okL (normB l) = true := by
  obtain ⟨h1, h2, h3, h4⟩ := polyI_ok h
  obtain ⟨hlen, hok⟩ := ckPts_zero h1
  obtain ⟨p1, p2⟩ := least_lt h3 (by omega)
  have hb := least_bend h p1 p2
  generalize hf : leastTo l l.length = f at *
  have hlr := rotL_len l f (by omega)
  have ht0 : turnAt (rotL l f) (rotL l f).length 0 ≠ 0 := by
    rw [hlr, turnAt_rot l f 0 (by omega) (by omega), Nat.add_zero, Nat.mod_eq_of_lt p1]; exact hb
  have hd : ∀ k, k < (rotL l f).length → ptAt (rotL l f) k ≠ ptAt (rotL l f) ((k + 1) % (rotL l f).length) := by
    intro k hk
    rw [hlr] at hk ⊢
    have hm : (k + 1) % l.length < l.length := Nat.mod_lt _ (by omega)
    simp only [ptAt, (rot_at l f k (by omega) hk).1, (rot_at l f k (by omega) hk).2, (rot_at l f _ (by omega) hm).1, (rot_at l f _ (by omega) hm).2]
    rw [mod_next]
    have hmm : (f + k) % l.length < l.length := Nat.mod_lt _ (by omega)
    exact pts_ne h3 hmm (Nat.mod_lt _ (by omega)) (next_ne (by omega) hmm)
  have e1 := cross_bends (l := rotL l f) (by omega) ht0 hd
  rw [cross_rot, normB_rot l f (by omega)] at e1
  have e2 : crossTo (edgesL (normB l)) (normB l).length = crossTo (edgesL l) l.length := by
    rw [← e1, normB_split l f (by omega)]
    by_cases ha : keepA l f = []
    · rw [ha]; simp
    · by_cases hz : keepZ l f = []
      · rw [hz]; simp
      · exact cross_app _ _ hz ha
  have hpos : 0 < (normB l).length := by
    rw [normB_split l f (by omega), List.length_append]
    have : keepZ l f ≠ [] := by
      unfold keepZ
      rw [show l.length - f = (l.length - f - 1) + 1 by omega, List.range'_succ, List.filter_cons_of_pos (by simpa using hb), List.map_cons]
      simp
    have := List.length_pos_iff.2 this
    omega
  have hle : (normB l).length ≤ l.length := by
    unfold normB; rw [bendsTo_filter, List.length_map]
    have := List.length_filter_le (fun i => decide (turnAt l l.length i ≠ 0)) (List.range l.length)
    simpa using this
  have hok' : okL (normB l) = true := by
    unfold okL normB
    rw [bendsTo_filter, List.all_eq_true]
    intro p hp
    rw [List.mem_map] at hp
    obtain ⟨i, _, rfl⟩ := hp
    exact okP_iff.2 (okL_bd hok i)
  refine ⟨?_, hpos, hok'⟩
  unfold areaI ckPts
  rw [hok, hok', e2, if_neg (show ¬ (400 : Int) < (normB l).length by omega), if_neg (show ¬ (400 : Int) < l.length by omega)]
theorem norm_eq {l : List P2} (h : polyI l = 0) : refN l = normL l := by
  obtain ⟨h1, h2, h3, h4⟩ := polyI_ok h
  obtain ⟨hlen, hok⟩ := ckPts_zero h1
  obtain ⟨ea, _, _⟩ := area_bends h
  have hC : normC l = normB (refA l) := by
    unfold normC refA
    rw [ea]
    split
    · rw [revTo_rev, normB_rev]
    · rfl
  have hAl : (refA l).length = l.length := by unfold refA; split <;> simp
  have hAr : repI (refA l) = false := by
    unfold refA; split
    · refine rep_none1 ?_ fun i j hj hi => ?_
      · unfold okL at *; rw [List.all_reverse]; exact hok
      · rw [List.length_reverse] at hi
        rw [(rev_px l i hi).1, (rev_px l i hi).2, (rev_px l j (by omega)).1, (rev_px l j (by omega)).2]
        rintro ⟨u, v⟩
        have := rep_no h3 (by omega) (by omega) u v
        omega
    · exact h3
  obtain ⟨p1, p2⟩ := least_lt hAr (by omega)
  have hb : turnAt (refA l) (refA l).length (leastTo (refA l) (refA l).length) ≠ 0 := by
    generalize leastTo (refA l) (refA l).length = f at *
    rw [hAl] at p1 p2 ⊢
    unfold refA at p2 ⊢
    split
    next hs =>
      rw [if_pos hs] at p2
      rw [turnAt_rev l f p1]
      have := least_bend h (k := l.length - 1 - f) (by omega) (fun i hi hne => by
        have := p2 (l.length - 1 - i) (by omega) (by omega)
        simp only [ptAt, (rev_px l f p1).1, (rev_px l f p1).2, (rev_px l (l.length - 1 - i) (by omega)).1, (rev_px l (l.length - 1 - i) (by omega)).2] at this
        rw [show l.length - 1 - (l.length - 1 - i) = i by omega] at this
        exact this)
      omega
    next hs =>
      rw [if_neg hs] at p2
      exact least_bend h p1 p2
  unfold refN normL
  rw [← rot_norm p1 hb p2, hC]

/-! convex -/
def convB (m : List P2) : Bool := (List.range m.length).all fun k => turnAt m m.length k == 1
def convR (m : List P2) : Bool := (List.range m.length).all fun k => decide (0 < turnI (px m k) (py m k) (px m ((k + 1) % m.length)) (py m ((k + 1) % m.length)) (px m ((k + 2) % m.length)) (py m ((k + 2) % m.length)))
theorem conv_eq (m : List P2) : convR m = convB m := by
  have key : ∀ k, k < m.length → turnI (px m k) (py m k) (px m ((k + 1) % m.length)) (py m ((k + 1) % m.length)) (px m ((k + 2) % m.length)) (py m ((k + 2) % m.length)) = turnAt m m.length ((k + 1) % m.length) := by
    intro k hk
    unfold turnAt
    have e1 : ((k + 1) % m.length + m.length - 1) % m.length = k := by
      by_cases hh : k + 1 < m.length
      · rw [Nat.mod_eq_of_lt hh, show k + 1 + m.length - 1 = k + m.length by omega, Nat.add_mod_right, Nat.mod_eq_of_lt hk]
      · rw [show k + 1 = m.length by omega, Nat.mod_self, Nat.zero_add, Nat.mod_eq_of_lt (by omega)]; omega
    have e2 : ((k + 1) % m.length + 1) % m.length = (k + 2) % m.length := by rw [Nat.mod_add_mod]
    rw [e1, e2]
  have sg : ∀ k, (0 < turnAt m m.length k) ↔ turnAt m m.length k = 1 := by
    intro k
    unfold turnAt
    rw [turnI_sign]
    generalize (_ : Int) - _ = z
    rcases Int.lt_trichotomy z 0 with h | h | h
    · rw [Int.sign_eq_neg_one_of_neg h]; omega
    · rw [h]; simp
    · rw [Int.sign_eq_one_of_pos h]; omega
  rw [Bool.eq_iff_iff]
  unfold convR convB
  simp only [List.all_eq_true, List.mem_range, decide_eq_true_eq, beq_iff_eq]
  constructor
  · intro h k hk
    have hp : (k + m.length - 1) % m.length < m.length := Nat.mod_lt _ (by omega)
    have := h _ hp
    rw [key _ hp, prev_next hk, sg] at this
    exact this
  · intro h k hk
    rw [key k hk, sg]
    exact h _ (Nat.mod_lt _ (by omega))

end Go.Proofs.YtpdfbboagaflhaaGreat

set_option linter.unusedSimpArgs false
set_option linter.unusedVariables false
namespace Go.Proofs.YtpdfbboagaflhaaGreat
open Go.RowKit

def lessB (ax ay bx by' : Int) : Bool := decide (ax < bx ∨ (ax = bx ∧ ay < by'))

set_option maxRecDepth 20000 in
set_option maxHeartbeats 2000000 in
theorem ref_less (ax ay bx by' : Int) (w : World) : Calls Tryz.prog 116 #[pv ax ay, pv bx by'] w fun e w' => e = .returned (.bool (lessB ax ay bx by')) ∧ New w w' := by
  by_cases h1 : ax < bx
  · rw [show lessB ax ay bx by' = true by simp [lessB, h1]]
    go_enter Tryz.func116, Tryz.ntmps116
    go_wp2_with fail
    all_goals (go_ret; refine ⟨rfl, ?_⟩; (repeat (first | exact New.refl _ | apply New.alloc | apply New.aft | apply New.drew | refine New.setCell ?_ ?_ _)); all_goals (first | done | (simp [size_aft]; done) | (simp [size_aft]; omega)))
  · by_cases h2 : ax = bx
    · subst h2
      by_cases h3 : ay < by'
      · rw [show lessB ax ay ax by' = true by simp [lessB, h3]]
        go_enter Tryz.func116, Tryz.ntmps116
        go_wp2_with fail
        all_goals (go_ret; refine ⟨rfl, ?_⟩; (repeat (first | exact New.refl _ | apply New.alloc | apply New.aft | apply New.drew | refine New.setCell ?_ ?_ _)); all_goals (first | done | (simp [size_aft]; done) | (simp [size_aft]; omega)))
      · rw [show lessB ax ay ax by' = false by simp [lessB, h3]]
        go_enter Tryz.func116, Tryz.ntmps116
        go_wp2_with fail
        all_goals (go_ret; refine ⟨rfl, ?_⟩; (repeat (first | exact New.refl _ | apply New.alloc | apply New.aft | apply New.drew | refine New.setCell ?_ ?_ _)); all_goals (first | done | (simp [size_aft]; done) | (simp [size_aft]; omega)))
    · rw [show lessB ax ay bx by' = false by simp [lessB, h1, h2]]
      have h3 : (ax == bx) = false := by simpa using h2
      go_enter Tryz.func116, Tryz.ntmps116
      go_wp2_with fail
      all_goals (go_ret; refine ⟨rfl, ?_⟩; (repeat (first | exact New.refl _ | apply New.alloc | apply New.aft | apply New.drew | refine New.setCell ?_ ?_ _)); all_goals (first | done | (simp [size_aft]; done) | (simp [size_aft]; omega)))

def farN (ax ay bx by' : Int) : Int := (bx - ax) * (bx - ax) + (by' - ay) * (by' - ay)
set_option maxRecDepth 20000 in
set_option maxHeartbeats 2000000 in
theorem ref_far (ax ay bx by' : Int) (w : World) (h1 : 0 ≤ ax ∧ ax ≤ 10000) (h2 : 0 ≤ ay ∧ ay ≤ 10000) (h3 : 0 ≤ bx ∧ bx ≤ 10000) (h4 : 0 ≤ by' ∧ by' ≤ 10000) : Calls Tryz.prog 128 #[pv ax ay, pv bx by'] w fun e w' => e = .returned (.int .i64 (farN ax ay bx by')) ∧ New w w' := by
  obtain ⟨p1, p2⟩ := mul_bd (bx - ax) (bx - ax) 10000 10000 (by omega) (by omega) (by omega) (by omega)
  obtain ⟨p3, p4⟩ := mul_bd (by' - ay) (by' - ay) 10000 10000 (by omega) (by omega) (by omega) (by omega)
  simp only [Int.reduceMul, Int.reduceNeg] at p1 p2 p3 p4
  unfold farN
  go_enter Tryz.func128, Tryz.ntmps128
  go_wp2_with fail
  all_goals (go_ret; refine ⟨rfl, ?_⟩; (repeat (first | exact New.refl _ | apply New.alloc | apply New.aft | apply New.drew | refine New.setCell ?_ ?_ _)); all_goals (first | done | (simp [size_aft]; done) | (simp [size_aft]; omega)))

end Go.Proofs.YtpdfbboagaflhaaGreat

set_option linter.unusedSimpArgs false
set_option linter.unusedVariables false
set_option maxRecDepth 100000
namespace Go.Proofs.YtpdfbboagaflhaaGreat
open Go.RowKit

set_option maxHeartbeats 4000000 in
theorem ref_area2 (b off n c : Nat) (l : List P2) (w : World) (hl : n ≤ 1000000) (hw : Pts w b off n l) :
    Calls Tryz.prog 47 #[.slice (some ⟨b, off, none⟩) n c] w fun en w' => en = .returned (.int .i64 (areaI l)) ∧ New w w' := by
  have HW := Lib.hid hw
  have HN := Lib.hid hw.1
  have HA := Lib.hid (fun (w1 : World) (h1 : New w w1) => ref_allValid b off n c l w1 (by omega) (HW.out.new h1))
  cases hok : okL l
  · rw [hok] at HA
    rw [← areaI_no (l := l) (by unfold ckPts; rw [hok]; split <;> simp)]
    clear hw hok
    go_enter Tryz.func47, Tryz.ntmps47
    go_wp2_with (go_at_call 104; refine (HA.out _ (by (repeat (first | exact New.refl _ | apply New.alloc | apply New.aft | apply New.drew | refine New.setCell ?_ ?_ _)); all_goals (first | done | (simp [size_aft]; done) | (simp [size_aft]; omega)))).mono ?_; rintro e w1 ⟨rfl, pw, rfl⟩)
    all_goals (go_ret; refine ⟨rfl, ?_⟩; (repeat (first | exact New.refl _ | apply New.alloc | apply New.aft | apply New.drew | refine New.setCell ?_ ?_ _)); all_goals (first | done | (simp [size_aft]; done) | (simp [size_aft]; omega)))
  · by_cases h4 : 400 < n
    · rw [hok] at HA
      have hn4 : (400 : Int) < (n : Int) := by omega
      rw [← areaI_no (l := l) (by unfold ckPts; rw [if_pos (by rw [hw.1]; exact hn4)]; decide)]
      clear hw hok
      go_enter Tryz.func47, Tryz.ntmps47
      go_wp2_with (go_at_call 104; refine (HA.out _ (by (repeat (first | exact New.refl _ | apply New.alloc | apply New.aft | apply New.drew | refine New.setCell ?_ ?_ _)); all_goals (first | done | (simp [size_aft]; done) | (simp [size_aft]; omega)))).mono ?_; rintro e w1 ⟨rfl, pw, rfl⟩)
      all_goals (go_ret; refine ⟨rfl, ?_⟩; (repeat (first | exact New.refl _ | apply New.alloc | apply New.aft | apply New.drew | refine New.setCell ?_ ?_ _)); all_goals (first | done | (simp [size_aft]; done) | (simp [size_aft]; omega)))
    · have hn4 : ¬ (400 : Int) < (n : Int) := by omega
      have HV := Lib.hid (areaI_yes (l := l) (by unfold ckPts; rw [if_neg (by rw [hw.1]; exact hn4), hok]; rfl))
      have HBD := Lib.hid (crossTo_bd hok)
      have HB := Lib.hid (okL_bd hok)
      have HED := Lib.hid (fun (k : Nat) (hk : k < n) (w1 : World) (h1 : New w w1) => ref_edge b off n c k l w1 hk hl (HW.out.new h1))
      rw [hok] at HA
      clear hw hok
      go_enter Tryz.func47, Tryz.ntmps47
      go_wp2_with (go_at_call 104; refine (HA.out _ (by (repeat (first | exact New.refl _ | apply New.alloc | apply New.aft | apply New.drew | refine New.setCell ?_ ?_ _)); all_goals (first | done | (simp [size_aft]; done) | (simp [size_aft]; omega)))).mono ?_; rintro e w1 ⟨rfl, pw, rfl⟩)
      go_loopw [4, 5] (fun s i wr => ∃ k : Nat, k ≤ n ∧ i = .int .i64 k ∧ s = .int .i64 (crossTo (edgesL l) k) ∧ New w wr) (fun _ i _ => n - (intOf i).toNat)
      case atStart => exact ⟨0, Nat.zero_le _, rfl, rfl, by (repeat (first | exact New.refl _ | apply New.alloc | apply New.aft | apply New.drew | refine New.setCell ?_ ?_ _)); all_goals (first | done | (simp [size_aft]; done) | (simp [size_aft]; omega))⟩
      case round =>
        obtain ⟨k, hk, rfl, rfl, pr, rfl⟩ := hrel
        by_cases hlt : k < n
        · have hkn : (k : Int) < (n : Int) := by omega
          have HE := Lib.hid (HED.out k hlt)
          obtain ⟨b1, b2⟩ := HB.out k
          obtain ⟨b3, b4⟩ := HB.out ((k + 1) % n)
          have hs := HBD.out k (by rw [HN.out]; omega)
          have hp1 := pos_bd _ _ b1 b4
          have hp2 := pos_bd _ _ b3 b2
          have HX := Lib.hid (show crossTo (edgesL l) (k + 1) = crossTo (edgesL l) k + px l k * py l ((k + 1) % n) - px l ((k + 1) % n) * py l k by
            obtain ⟨e1, e2, e3, e4⟩ := edgesL_at l k (by rw [HN.out]; exact hlt)
            rw [show crossTo (edgesL l) (k + 1) = crossTo (edgesL l) k + (q1 (edgesL l) k * q4 (edgesL l) k - q2 (edgesL l) k * q3 (edgesL l) k) from rfl, e1, e2, e3, e4, HN.out, Int.mul_comm (py l k)]
            omega)
          generalize px l k = X at *
          generalize py l k = Y at *
          generalize px l ((k + 1) % n) = X' at *
          generalize py l ((k + 1) % n) = Y' at *
          generalize crossTo (edgesL l) k = S at *
          go_wp2_with (go_at_call 110; refine (HE.out _ (by (repeat (first | exact New.refl _ | apply New.alloc | apply New.aft | apply New.drew | refine New.setCell ?_ ?_ _)); all_goals (first | done | (simp [size_aft]; done) | (simp [size_aft]; omega)))).mono ?_; rintro e w1 ⟨rfl, hn⟩; have HNE := Lib.hid (New.trans (by (repeat (first | exact New.refl _ | apply New.alloc | apply New.aft | apply New.drew | refine New.setCell ?_ ?_ _)); all_goals (first | done | (simp [size_aft]; done) | (simp [size_aft]; omega))) hn : New w w1); clear hn)
          go_roundw
          case rel => exact ⟨k + 1, by omega, by go_num, by rw [HX.out], HNE.out.trans (by (repeat (first | exact New.refl _ | apply New.alloc | apply New.aft | apply New.drew | refine New.setCell ?_ ?_ _)); all_goals (first | done | (simp [size_aft]; done) | (simp [size_aft]; omega)))⟩
          case measure => simp [intOf]; omega
        · have HK := Lib.hid (show k = n by omega)
          have hkn : ¬ (k : Int) < (n : Int) := by omega
          have HV2 := Lib.hid (show crossTo (edgesL l) k = areaI l by rw [← HV.out, HK.out, HN.out])
          clear hlt
          go_wp2_with fail
          go_ret
          exact ⟨ret_int HV2.out, by (repeat (first | exact New.refl _ | apply New.alloc | apply New.aft | apply New.drew | refine New.setCell ?_ ?_ _)); all_goals (first | done | (simp [size_aft]; done) | (simp [size_aft]; omega))⟩

end Go.Proofs.YtpdfbboagaflhaaGreat
