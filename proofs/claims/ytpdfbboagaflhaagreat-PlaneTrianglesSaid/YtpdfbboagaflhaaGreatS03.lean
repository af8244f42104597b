/- The list that PlaneNormals makes: turned, perhaps reversed; its normal form is that of the list. -/
import Derived.Test.YtpdfbboagaflhaaGreatS02

set_option linter.unusedSimpArgs false
set_option linter.unusedVariables false
set_option linter.unusedSectionVars false
namespace Go.Proofs.YtpdfbboagaflhaaGreat
namespace Geo

def TT (a b c : P2) : Int := (b.1 - a.1) * (c.2 - a.2) - (b.2 - a.2) * (c.1 - a.1)
def OnS (p a b : P2) : Prop := TT a b p = 0 ∧ (min a.1 b.1 ≤ p.1 ∧ p.1 ≤ max a.1 b.1) ∧ (min a.2 b.2 ≤ p.2 ∧ p.2 ≤ max a.2 b.2)
def Cr (a b c d : P2) : Prop := TT a b c * TT a b d < 0 ∧ TT c d a * TT c d b < 0
def InT (a b c p : P2) : Prop := 0 ≤ TT a b p ∧ 0 ≤ TT b c p ∧ 0 ≤ TT c a p
theorem tt_rot (a b c : P2) : TT b c a = TT a b c := by unfold TT; grind
theorem tt_swap (a b c : P2) : TT b a c = - TT a b c := by unfold TT; grind
theorem tt_self (a b : P2) : TT a b a = 0 ∧ TT a b b = 0 ∧ TT a a b = 0 := by unfold TT; refine ⟨?_, ?_, ?_⟩ <;> grind
theorem tt_sum (a b c p : P2) : TT b c p + TT a b p + TT c a p = TT a b c := by unfold TT; grind
theorem tt_bary (a b c p : P2) : TT a b c * p.1 = TT b c p * a.1 + TT a b p * c.1 + TT c a p * b.1 ∧ TT a b c * p.2 = TT b c p * a.2 + TT a b p * c.2 + TT c a p * b.2 := by unfold TT; constructor <;> grind
theorem tt_det (a b c p q : P2) : TT b c p * TT a b q - TT a b p * TT b c q = - (TT a b c * TT b p q) := by unfold TT; grind
theorem pos_of_mul {a b : Int} (h : 0 < a * b) (ha : 0 < a) : 0 < b := by
  rcases Int.lt_trichotomy b 0 with h1 | h1 | h1
  · have := Int.mul_neg_of_pos_of_neg ha h1; omega
  · subst h1; simp at h
  · exact h1
theorem pos_iff {a b : Int} (ha : 0 < a) : 0 < a * b ↔ 0 < b := ⟨fun h => pos_of_mul h ha, fun h => Int.mul_pos ha h⟩
theorem nneg_iff {a b : Int} (ha : 0 < a) : 0 ≤ a * b ↔ 0 ≤ b := by
  constructor
  · intro h
    rcases Int.lt_or_le b 0 with h1 | h1
    · have := Int.mul_neg_of_pos_of_neg ha h1; omega
    · exact h1
  · intro h; exact Int.mul_nonneg (by omega) h
theorem mul_neg_cases {a b : Int} (h : a * b < 0) : (0 < a ∧ b < 0) ∨ (a < 0 ∧ 0 < b) := by
  rcases Int.lt_trichotomy a 0 with h1 | h1 | h1
  · right; refine ⟨h1, ?_⟩
    rcases Int.lt_or_le 0 b with h2 | h2
    · exact h2
    · have := Int.mul_nonneg_of_nonpos_of_nonpos (Int.le_of_lt h1) h2; omega
  · subst h1; simp at h
  · left; refine ⟨h1, ?_⟩
    rcases Int.lt_or_le b 0 with h2 | h2
    · exact h2
    · have := Int.mul_nonneg (Int.le_of_lt h1) h2; omega
theorem par_on {p a b : P2} {m N : Int} (hN : 0 < N) (h0 : 0 ≤ m) (h1 : m ≤ N) (hx : N * (p.1 - a.1) = m * (b.1 - a.1)) (hy : N * (p.2 - a.2) = m * (b.2 - a.2)) : OnS p a b := by
  have key : ∀ x y z : Int, N * (x - y) = m * (z - y) → min y z ≤ x ∧ x ≤ max y z := by
    intro x y z h
    rcases Int.lt_or_le z y with hz | hz
    · have e1 : 0 ≤ N * (y - x) := by
        have := Int.mul_nonneg h0 (show 0 ≤ y - z by omega); grind
      have e2 : 0 ≤ N * (x - z) := by
        have := Int.mul_nonneg (show 0 ≤ N - m by omega) (show 0 ≤ y - z by omega); grind
      rw [nneg_iff hN] at e1 e2; omega
    · have e1 : 0 ≤ N * (x - y) := by
        have := Int.mul_nonneg h0 (show 0 ≤ z - y by omega); grind
      have e2 : 0 ≤ N * (z - x) := by
        have := Int.mul_nonneg (show 0 ≤ N - m by omega) (show 0 ≤ z - y by omega); grind
      rw [nneg_iff hN] at e1 e2; omega
  refine ⟨?_, key _ _ _ hx, key _ _ _ hy⟩
  have : N * TT a b p = 0 := by unfold TT; grind
  rcases Int.mul_eq_zero.1 this with h | h
  · omega
  · exact h
theorem on_par {p a b : P2} (h : OnS p a b) (ha : p ≠ a) (hb : p ≠ b) : ∃ m N : Int, 0 < m ∧ m < N ∧ N * (p.1 - a.1) = m * (b.1 - a.1) ∧ N * (p.2 - a.2) = m * (b.2 - a.2) := by
  obtain ⟨h0, hx, hy⟩ := h
  obtain ⟨p1, p2⟩ := p; obtain ⟨a1, a2⟩ := a; obtain ⟨b1, b2⟩ := b
  simp only [TT] at h0 hx hy
  have ha' : ¬ (p1 = a1 ∧ p2 = a2) := fun ⟨h, h'⟩ => ha (by rw [h, h'])
  have hb' : ¬ (p1 = b1 ∧ p2 = b2) := fun ⟨h, h'⟩ => hb (by rw [h, h'])
  rcases Int.le_total a1 b1 with g1 | g1 <;> rcases Int.le_total a2 b2 with g2 | g2
  · exact ⟨(p1 - a1) + (p2 - a2), (b1 - a1) + (b2 - a2), by omega, by omega, by grind, by grind⟩
  · exact ⟨(p1 - a1) + (a2 - p2), (b1 - a1) + (a2 - b2), by omega, by omega, by grind, by grind⟩
  · exact ⟨(a1 - p1) + (p2 - a2), (a1 - b1) + (b2 - a2), by omega, by omega, by grind, by grind⟩
  · exact ⟨(a1 - p1) + (a2 - p2), (a1 - b1) + (a2 - b2), by omega, by omega, by grind, by grind⟩
/-- an affine function on a line -/
theorem par_tt {p a b : P2} {m N : Int} (hx : N * (p.1 - a.1) = m * (b.1 - a.1)) (hy : N * (p.2 - a.2) = m * (b.2 - a.2)) (u v : P2) : N * TT u v p = (N - m) * TT u v a + m * TT u v b := by
  unfold TT; grind
/-- in a triangle and on the line of a side: on the side -/
theorem inT_side {a b c z : P2} (h : InT a b c z) (ht : 0 < TT a b c) (h0 : TT b c z = 0) : OnS z b c := by
  have e := tt_bary a b c z; have s := tt_sum a b c z
  obtain ⟨i1, i2, i3⟩ := h
  exact par_on (m := TT a b z) (N := TT a b c) ht i1 (by omega) (by grind) (by grind)
theorem inT_rot {a b c z : P2} (h : InT a b c z) : InT b c a z := ⟨h.2.1, h.2.2, h.1⟩
theorem cross_abs {z1 z2 u1 u2 w1 w2 S : Int} (hz1 : 0 < z1) (hz2 : 0 < z2) (hS : z1 + z2 ≤ S) (hu : 0 < z1 * u2 - z2 * u1) (hw : z1 * w2 - z2 * w1 < 0) (hk : 0 < w1 * u2 - u1 * w2) (hk2 : w1 * u2 - u1 * w2 < (z1 * u2 - z2 * u1) - (z1 * w2 - z2 * w1)) (hs : u1 + u2 < z1 + z2) (hu1 : u1 < 0) : 0 < w1 ∧ w1 * u2 - u1 * w2 < S * (w1 - u1) := by
  have e1 : 0 < (z1 * u2 - z2 * u1) * w1 := by
    have h1 := Int.mul_pos hz1 hk
    have h2 := Int.mul_pos (show 0 < -u1 by omega) (show 0 < -(z1 * w2 - z2 * w1) by omega)
    grind
  have hw1 := pos_of_mul e1 hu
  refine ⟨hw1, ?_⟩
  have e2 : 0 < (z1 * u2 - z2 * u1) * ((z1 + z2) * (w1 - u1) - (w1 * u2 - u1 * w2)) := by
    have h1 := Int.mul_pos (Int.mul_pos hk hz1) (show 0 < z1 + z2 - (u1 + u2) by omega)
    have h2 := Int.mul_pos (Int.mul_pos (show 0 < -u1 by omega) (show 0 < z1 + z2 by omega)) (show 0 < (z1 * u2 - z2 * u1) - (z1 * w2 - z2 * w1) - (w1 * u2 - u1 * w2) by omega)
    grind
  have e3 := pos_of_mul e2 hu
  have e4 := Int.mul_nonneg (show 0 ≤ S - (z1 + z2) by omega) (show 0 ≤ w1 - u1 by omega)
  grind
theorem cr_swap {a b c d : P2} (h : Cr a b c d) : Cr a b d c := by
  obtain ⟨h1, h2⟩ := h
  have e1 := tt_swap d c a; have e2 := tt_swap d c b
  refine ⟨by rw [Int.mul_comm]; exact h1, ?_⟩
  rw [tt_swap c d a, tt_swap c d b, Int.neg_mul_neg]; exact h2
theorem cr_comm {a b c d : P2} (h : Cr a b c d) : Cr c d a b := ⟨h.2, h.1⟩
theorem cr_swap' {a b c d : P2} (h : Cr a b c d) : Cr b a c d := cr_comm (cr_swap (cr_comm h))
theorem cross_out1 {a b c z u w : P2} (ht : 0 < TT a b c) (hz1 : 0 < TT b c z) (hz2 : 0 < TT a b z) (hz3 : 0 ≤ TT c a z) (hu : TT c a z < TT c a u → TT b c u < 0 ∨ TT a b u < 0) (hw : TT c a z < TT c a w → TT b c w < 0 ∨ TT a b w < 0) (h : Cr b z u w) (hs : TT b z u < 0) : Cr u w b c ∨ Cr u w a b := by
  obtain ⟨h1, h2⟩ := h
  have hsw : 0 < TT b z w := by rcases mul_neg_cases h1 with h | h <;> omega
  have d1 := tt_det a b c z u; have d2 := tt_det a b c z w; have d3 := tt_det a b c w u
  have su := tt_sum a b c u; have sw := tt_sum a b c w; have sz := tt_sum a b c z
  have k0 : TT b c w * TT a b u - TT a b w * TT b c u = TT a b c * TT u w b := by rw [d3]; unfold TT; grind
  have kD : TT b c w * TT a b u - TT a b w * TT b c u - (TT b c z * TT a b u - TT a b z * TT b c u - (TT b c z * TT a b w - TT a b z * TT b c w)) = TT a b c * TT u w z := by unfold TT; grind
  have kc : TT b c w * TT a b u - TT a b w * TT b c u - TT a b c * (TT b c w - TT b c u) = TT a b c * TT u w c := by unfold TT; grind
  have ka : TT b c w * TT a b u - TT a b w * TT b c u + TT a b c * (TT a b w - TT a b u) = TT a b c * TT u w a := by unfold TT; grind
  have p1 : 0 < TT b c z * TT a b u - TT a b z * TT b c u := by have := Int.mul_pos ht (show 0 < - TT b z u by omega); grind
  have p2 : TT b c z * TT a b w - TT a b z * TT b c w < 0 := by have := Int.mul_pos ht hsw; grind
  have p3 : 0 < TT u w b ∧ TT u w z < 0 := by
    rcases mul_neg_cases h2 with h | h
    · exact h
    · exfalso
      have q1 := Int.mul_pos ht h.2
      have q2 := Int.mul_pos ht (show 0 < - TT u w b by omega)
      grind
  have q1 := Int.mul_pos ht p3.1
  have q2 := Int.mul_pos ht (show 0 < - TT u w z by omega)
  have f1 : TT u w b * TT u w c < 0 → TT b c u * TT b c w < 0 → Cr u w b c := fun h h' => ⟨h, h'⟩
  have f2 : TT u w a * TT u w b < 0 → TT a b u * TT a b w < 0 → Cr u w a b := fun h h' => ⟨h, h'⟩
  generalize TT b c u = u1 at *
  generalize TT a b u = u2 at *
  generalize TT b c w = w1 at *
  generalize TT a b w = w2 at *
  generalize TT b c z = z1 at *
  generalize TT a b z = z2 at *
  have hk : 0 < w1 * u2 - u1 * w2 := by grind
  have hk2 : w1 * u2 - u1 * w2 < (z1 * u2 - z2 * u1) - (z1 * w2 - z2 * w1) := by grind
  by_cases c1 : u1 + u2 < z1 + z2
  · have n1 : u1 < 0 := by
      rcases hu (by omega) with h | h
      · exact h
      · have := Int.mul_pos hz1 (show 0 < -u2 by omega)
        have h3 : 0 < z2 * (-u1) := by grind
        have := pos_of_mul h3 hz2; omega
    obtain ⟨r1, r2⟩ := cross_abs (S := TT a b c) hz1 hz2 (by omega) p1 p2 hk hk2 c1 n1
    left
    have r3 : 0 < TT a b c * (- TT u w c) := by grind
    have r4 := pos_of_mul r3 ht
    exact f1 (Int.mul_neg_of_pos_of_neg p3.1 (by omega)) (Int.mul_neg_of_neg_of_pos n1 r1)
  · by_cases c2 : w1 + w2 < z1 + z2
    · have n2 : w2 < 0 := by
        rcases hw (by omega) with h | h
        · have := Int.mul_pos hz2 (show 0 < -w1 by omega)
          have h3 : 0 < z1 * (-w2) := by grind
          have := pos_of_mul h3 hz1; omega
        · exact h
      obtain ⟨r1, r2⟩ := cross_abs (S := TT a b c) (u1 := w2) (u2 := w1) (w1 := u2) (w2 := u1) hz2 hz1 (by omega) (by grind) (by grind) (by grind) (by grind) (by omega) n2
      right
      have r3 : 0 < TT a b c * (- TT u w a) := by grind
      have r4 := pos_of_mul r3 ht
      exact f2 (Int.mul_neg_of_neg_of_pos (by omega) p3.1) (Int.mul_neg_of_pos_of_neg r1 n2)
    · exfalso
      have g1 := Int.mul_nonneg (show 0 ≤ z1 * u2 - z2 * u1 by omega) (show 0 ≤ w1 + w2 - (z1 + z2) by omega)
      have g2 := Int.mul_nonneg (show 0 ≤ -(z1 * w2 - z2 * w1) by omega) (show 0 ≤ u1 + u2 - (z1 + z2) by omega)
      have g3 := Int.mul_pos (show 0 < z1 + z2 by omega) (show 0 < (z1 * u2 - z2 * u1) - (z1 * w2 - z2 * w1) - (w1 * u2 - u1 * w2) by omega)
      grind
theorem cross_out {a b c z u w : P2} (ht : 0 < TT a b c) (hz1 : 0 < TT b c z) (hz2 : 0 < TT a b z) (hz3 : 0 ≤ TT c a z) (hu : TT c a z < TT c a u → TT b c u < 0 ∨ TT a b u < 0) (hw : TT c a z < TT c a w → TT b c w < 0 ∨ TT a b w < 0) (h : Cr b z u w) : Cr u w b c ∨ Cr u w a b := by
  rcases mul_neg_cases h.1 with h1 | h1
  · rcases cross_out1 ht hz1 hz2 hz3 hw hu (cr_swap h) h1.2 with g | g
    · exact Or.inl (cr_swap' g)
    · exact Or.inr (cr_swap' g)
  · exact cross_out1 ht hz1 hz2 hz3 hu hw h h1.1
theorem lin_thru {t p q r p' q' r' a b c u w : Int} (h1 : p + q + r = t) (h2 : p' + q' + r' = t) (hu : t * u = p * a + q * c + r * b) (hw : t * w = p' * a + q' * c + r' * b) (hk : p' * q - q' * p = 0) : (p' - p) * t * (b - u) = - p * t * (w - u) := by
  have e1 : t * (b - u) = p * (b - a) + q * (b - c) := by rw [Int.mul_sub, hu, ← h1]; grind
  have e2 : t * (b - w) = p' * (b - a) + q' * (b - c) := by rw [Int.mul_sub, hw, ← h2]; grind
  have e3 : - p * t * (w - u) = - p * (t * (b - u) - t * (b - w)) := by grind
  rw [e3, Int.mul_assoc, e1, e2]
  grind
theorem ear_out1 {a b c u w : P2} (ht : 0 < TT a b c) (hu : TT b c u < 0 ∨ TT a b u < 0) (h : Cr a c u w) (hs : 0 < TT c a u) : Cr u w b c ∨ Cr u w a b ∨ OnS b u w := by
  obtain ⟨h1, h2⟩ := h
  have hcu : TT a c u = - TT c a u := tt_swap c a u
  have hcw : TT a c w = - TT c a w := tt_swap c a w
  have hsw : TT c a w < 0 := by rcases mul_neg_cases h1 with h | h <;> omega
  have d3 := tt_det a b c w u
  have su := tt_sum a b c u; have sw := tt_sum a b c w
  have k0 : TT b c w * TT a b u - TT a b w * TT b c u = TT a b c * TT u w b := by rw [d3]; unfold TT; grind
  have kc : - (TT c a u * TT b c w - TT c a w * TT b c u) = TT a b c * TT u w c := by unfold TT; grind
  have ka : TT c a u * TT a b w - TT c a w * TT a b u = TT a b c * TT u w a := by unfold TT; grind
  have ksum : (TT c a u * TT b c w - TT c a w * TT b c u) + (TT c a u * TT a b w - TT c a w * TT a b u) = TT a b c * (TT c a u - TT c a w) := by unfold TT; grind
  have bu := tt_bary a b c u; have bw := tt_bary a b c w
  have p3 : 0 < TT u w a ∧ TT u w c < 0 := by
    rcases mul_neg_cases h2 with h | h
    · exact h
    · exfalso
      have q1 := Int.mul_pos ht h.2
      have q2 := Int.mul_pos ht (show 0 < - TT u w a by omega)
      have q3 := Int.mul_pos ht (show 0 < TT c a u - TT c a w by omega)
      grind
  have q1 := Int.mul_pos ht p3.1
  have q2 := Int.mul_pos ht (show 0 < - TT u w c by omega)
  have X1 : 0 < TT c a u * TT b c w - TT c a w * TT b c u := by grind
  have X2 : 0 < TT c a u * TT a b w - TT c a w * TT a b u := by grind
  have keyu : TT b c u < 0 → 0 < TT b c w := by
    intro h
    have g := Int.mul_pos (show 0 < - TT c a w by omega) (show 0 < - TT b c u by omega)
    have g2 : 0 < TT c a u * TT b c w := by grind
    exact pos_of_mul g2 hs
  have keyw : TT a b u < 0 → 0 < TT a b w := by
    intro h
    have g := Int.mul_pos (show 0 < - TT c a w by omega) (show 0 < - TT a b u by omega)
    have g2 : 0 < TT c a u * TT a b w := by grind
    exact pos_of_mul g2 hs
  have hK : TT c a u * (TT a b c * TT u w b) = (TT c a u * TT b c w - TT c a w * TT b c u) * TT a b u - TT b c u * (TT c a u * TT a b w - TT c a w * TT a b u) := by rw [← k0]; grind
  rcases Int.lt_trichotomy (TT u w b) 0 with hb | hb | hb
  · right; left
    have n2 : TT a b u < 0 := by
      rcases Int.lt_or_le (TT a b u) 0 with h | h
      · exact h
      · exfalso
        have n1 : TT b c u < 0 := by omega
        have g1 := Int.mul_nonneg (show 0 ≤ TT c a u * TT b c w - TT c a w * TT b c u by omega) h
        have g2 := Int.mul_pos (show 0 < - TT b c u by omega) (show 0 < TT c a u * TT a b w - TT c a w * TT a b u by omega)
        have g3 := Int.mul_pos hs (Int.mul_pos ht (show 0 < - TT u w b by omega))
        grind
    exact ⟨Int.mul_neg_of_pos_of_neg p3.1 hb, Int.mul_neg_of_neg_of_pos n2 (keyw n2)⟩
  · right; right
    have n1 : TT b c u < 0 := by
      rcases Int.lt_or_le (TT b c u) 0 with h | h
      · exact h
      · exfalso
        have n2 : TT a b u < 0 := by omega
        have g1 := Int.mul_nonneg h (show 0 ≤ TT c a u * TT a b w - TT c a w * TT a b u by omega)
        have g2 := Int.mul_pos (show 0 < - TT a b u by omega) (show 0 < TT c a u * TT b c w - TT c a w * TT b c u by omega)
        rw [hb] at hK
        grind
    have n1' := keyu n1
    have hk : TT b c w * TT a b u - TT a b w * TT b c u = 0 := by rw [k0, hb]; simp
    refine par_on (m := - TT b c u * TT a b c) (N := (TT b c w - TT b c u) * TT a b c) (Int.mul_pos (by omega) ht) (Int.mul_nonneg (by omega) (by omega)) (Int.mul_le_mul_of_nonneg_right (by omega) (by omega)) ?_ ?_
    · exact lin_thru su sw bu.1 bw.1 hk
    · exact lin_thru su sw bu.2 bw.2 hk
  · left
    have n1 : TT b c u < 0 := by
      rcases Int.lt_or_le (TT b c u) 0 with h | h
      · exact h
      · exfalso
        have n2 : TT a b u < 0 := by omega
        have g1 := Int.mul_nonneg h (show 0 ≤ TT c a u * TT a b w - TT c a w * TT a b u by omega)
        have g2 := Int.mul_pos (show 0 < - TT a b u by omega) (show 0 < TT c a u * TT b c w - TT c a w * TT b c u by omega)
        have g3 := Int.mul_pos hs (Int.mul_pos ht hb)
        grind
    exact ⟨Int.mul_neg_of_pos_of_neg hb p3.2, Int.mul_neg_of_neg_of_pos n1 (keyu n1)⟩
theorem ons_swap {p a b : P2} (h : OnS p a b) : OnS p b a := by
  obtain ⟨h1, h2, h3⟩ := h
  refine ⟨by rw [tt_swap a b p, h1]; rfl, by omega, by omega⟩
theorem ear_out {a b c u w : P2} (ht : 0 < TT a b c) (hu : 0 < TT c a u → TT b c u < 0 ∨ TT a b u < 0) (hw : 0 < TT c a w → TT b c w < 0 ∨ TT a b w < 0) (h : Cr a c u w) : Cr u w b c ∨ Cr u w a b ∨ OnS b u w := by
  have hcu : TT a c u = - TT c a u := tt_swap c a u
  have hcw : TT a c w = - TT c a w := tt_swap c a w
  rcases mul_neg_cases h.1 with h1 | h1
  · have g0 : 0 < TT c a w := by omega
    rcases ear_out1 ht (hw g0) (cr_swap h) g0 with g | g | g
    · exact Or.inl (cr_swap' g)
    · exact Or.inr (Or.inl (cr_swap' g))
    · exact Or.inr (Or.inr (ons_swap g))
  · have g0 : 0 < TT c a u := by omega
    exact ear_out1 ht (hu g0) h g0
/-- a linear functional -/
def LL (d p : P2) : Int := d.1 * p.1 + d.2 * p.2
/-- the turn at an extreme next corner keeps its sign when an empty ear is cut off -/
theorem keep_next {a b c x d : P2} (ht : 0 < TT a b c) (ha : LL d a < LL d c) (hb : LL d b < LL d c) (hx : LL d x < LL d c) (hne : ¬ InT a b c x) (hcr : ¬ Cr c x a b) (h0 : TT b c x ≠ 0) (h1 : TT a c x ≠ 0) : 0 < TT b c x * TT a c x := by
  have hcx : TT a c x = - TT c a x := tt_swap c a x
  have by1 : TT a b c * (LL d x - LL d c) = TT b c x * (LL d a - LL d c) + TT c a x * (LL d b - LL d c) := by unfold TT LL; grind
  rcases Int.lt_or_gt_of_ne h0 with g | g <;> rcases Int.lt_or_gt_of_ne h1 with g' | g'
  · exact Int.mul_pos_of_neg_of_neg g g'
  · exfalso
    have e1 := Int.mul_pos ht (show 0 < LL d c - LL d x by omega)
    have e2 := Int.mul_pos (show 0 < - TT b c x by omega) (show 0 < LL d c - LL d a by omega)
    have e3 := Int.mul_pos (show 0 < - TT c a x by omega) (show 0 < LL d c - LL d b by omega)
    grind
  · exfalso
    rcases Int.lt_or_le (TT a b x) 0 with k | k
    · refine hcr ⟨?_, Int.mul_neg_of_pos_of_neg ht k⟩
      rw [tt_rot a c x, tt_rot b c x]
      exact Int.mul_neg_of_neg_of_pos g' g
    · exact hne ⟨k, by omega, by omega⟩
  · exact Int.mul_pos g g'
def steps : List P2 → List (P2 × P2)
  | [] => []
  | [_] => []
  | a :: b :: r => (a, b) :: steps (b :: r)
def EE : List P2 → List (P2 × P2)
  | [] => []
  | a :: r => steps (a :: (r ++ [a]))
def cr2 (e : P2 × P2) : Int := e.1.1 * e.2.2 - e.1.2 * e.2.1
def A2 (l : List P2) : Int := ((EE l).map cr2).sum
theorem steps_cat (A : List P2) (x : P2) (B : List P2) : steps (A ++ x :: B) = steps (A ++ [x]) ++ steps (x :: B) := by
  induction A with
  | nil => simp [steps]
  | cons a A ih =>
    cases A with
    | nil => cases B <;> simp [steps]
    | cons a' A => simp only [List.cons_append, steps] at ih ⊢; rw [ih]
theorem steps_fst {L : List P2} {z x y : P2} : (x, y) ∈ steps (L ++ [z]) → x ∈ L := by
  induction L with
  | nil => simp [steps]
  | cons a L ih =>
    cases L with
    | nil => simp only [List.cons_append, List.nil_append, steps, List.mem_cons, Prod.mk.injEq, List.not_mem_nil, or_false]; rintro ⟨h, _⟩; exact h
    | cons b L =>
      simp only [List.cons_append, steps, List.mem_cons, Prod.mk.injEq] at ih ⊢
      rintro (⟨h, _⟩ | h)
      · exact Or.inl h
      · exact Or.inr (ih h)
theorem steps_snd {L : List P2} {z x y : P2} : (x, y) ∈ steps (z :: L) → y ∈ L := by
  induction L generalizing z with
  | nil => simp [steps]
  | cons a L ih =>
    simp only [steps, List.mem_cons, Prod.mk.injEq]
    rintro (⟨_, h⟩ | h)
    · exact Or.inl h
    · exact Or.inr (ih h)
theorem steps_mem {L : List P2} {x y : P2} (h : (x, y) ∈ steps L) : x ∈ L ∧ y ∈ L := by
  refine ⟨?_, ?_⟩
  · rcases List.eq_nil_or_concat L with rfl | ⟨L', z, rfl⟩
    · simp [steps] at h
    · rw [List.concat_eq_append] at h ⊢
      exact List.mem_append_left _ (steps_fst h)
  · cases L with
    | nil => simp [steps] at h
    | cons a L => exact List.mem_cons_of_mem _ (steps_snd h)
theorem steps_rev (L : List P2) : steps L.reverse = ((steps L).map Prod.swap).reverse := by
  induction L with
  | nil => rfl
  | cons a L ih =>
    cases L with
    | nil => rfl
    | cons b L =>
      have e : (a :: b :: L).reverse = L.reverse ++ b :: [a] := by simp
      rw [e, steps_cat]
      have e2 : L.reverse ++ [b] = (b :: L).reverse := by simp
      rw [e2, ih]
      simp [steps]
structure Simp (l : List P2) : Prop where
  nd : l.Nodup
  on : ∀ e ∈ EE l, ∀ v ∈ l, v ≠ e.1 → v ≠ e.2 → ¬ OnS v e.1 e.2
  cr : ∀ e ∈ EE l, ∀ f ∈ EE l, ¬ Cr e.1 e.2 f.1 f.2
  three : 3 ≤ l.length
theorem EE_rot (A B : List P2) : (EE (A ++ B)).Perm (EE (B ++ A)) := by
  cases A with
  | nil => simp
  | cons a A =>
    cases B with
    | nil => simp
    | cons b B =>
      have e1 : EE (a :: A ++ b :: B) = steps ((a :: A) ++ b :: (B ++ [a])) := by simp [EE]
      have e2 : EE (b :: B ++ a :: A) = steps ((b :: B) ++ a :: (A ++ [b])) := by simp [EE]
      rw [e1, e2, steps_cat, steps_cat (b :: B)]
      exact List.perm_append_comm
theorem sum_perm {l l' : List Int} (h : l.Perm l') : l.sum = l'.sum := by
  induction h with
  | nil => rfl
  | cons x _ ih => simp [ih]
  | swap x y l => simp only [List.sum_cons]; omega
  | trans _ _ h1 h2 => rw [h1, h2]
theorem A2_perm {l l' : List P2} (h : (EE l).Perm (EE l')) : A2 l = A2 l' := sum_perm (h.map cr2)
theorem simp_perm {l l' : List P2} (hs : Simp l) (hp : l.Perm l') (he : ∀ e, e ∈ EE l' → e ∈ EE l) : Simp l' :=
  ⟨hp.nodup_iff.1 hs.nd, fun e h v hv => hs.on e (he e h) v (hp.mem_iff.2 hv), fun e h f hf => hs.cr e (he e h) f (he f hf), by rw [← hp.length_eq]; exact hs.three⟩
theorem EE_rev (l : List P2) : (EE l.reverse).Perm ((EE l).map Prod.swap) := by
  cases l with
  | nil => simp [EE]
  | cons a r =>
    rw [List.reverse_cons]
    refine (EE_rot r.reverse [a]).trans ?_
    have e : EE ([a] ++ r.reverse) = steps (a :: (r ++ [a])).reverse := by simp [EE]
    rw [e, steps_rev]
    exact List.reverse_perm _
theorem A2_rev (l : List P2) : A2 l.reverse = - A2 l := by
  have h := sum_perm ((EE_rev l).map cr2)
  unfold A2
  rw [h, List.map_map]
  generalize EE l = L
  induction L with
  | nil => rfl
  | cons e L ih => simp only [List.map_cons, List.sum_cons, ih, Function.comp, cr2, Prod.fst_swap, Prod.snd_swap]; grind
theorem simp_rev {l : List P2} (hs : Simp l) : Simp l.reverse := by
  have hm : ∀ e, e ∈ EE l.reverse → (e.2, e.1) ∈ EE l := by
    intro e h
    have := (EE_rev l).mem_iff.1 h
    obtain ⟨f, hf, rfl⟩ := List.mem_map.1 this
    exact hf
  refine ⟨(List.reverse_perm l).nodup_iff.2 hs.nd, ?_, ?_, by simpa using hs.three⟩
  · intro e h v hv h1 h2 h3
    exact hs.on _ (hm e h) v (List.mem_reverse.1 hv) h2 h1 (ons_swap h3)
  · intro e h f hf hc
    exact hs.cr _ (hm e h) _ (hm f hf) (cr_swap (cr_swap' hc))
def At (l : List P2) (v : P2) (t : Int) : Prop := ∃ p q, (p, v) ∈ EE l ∧ (v, q) ∈ EE l ∧ t = TT p v q
def Exv (l : List P2) (v : P2) : Prop := v ∈ l ∧ ∃ d, ∀ u ∈ l, u ≠ v → LL d u < LL d v
theorem at_rev {l : List P2} {v : P2} {t : Int} (h : At l v t) : At l.reverse v (-t) := by
  obtain ⟨p, q, h1, h2, rfl⟩ := h
  refine ⟨q, p, ?_, ?_, ?_⟩
  · exact (EE_rev l).mem_iff.2 (List.mem_map.2 ⟨_, h2, rfl⟩)
  · exact (EE_rev l).mem_iff.2 (List.mem_map.2 ⟨_, h1, rfl⟩)
  · unfold TT; grind
theorem ext_rev {l : List P2} {v : P2} (h : Exv l v) : Exv l.reverse v := ⟨List.mem_reverse.2 h.1, h.2.imp fun d hd u hu => hd u (List.mem_reverse.1 hu)⟩
/-- turned so that a corner comes first -/
theorem front {l : List P2} (hs : Simp l) {b : P2} (hb : b ∈ l) : ∃ c R a, Simp (b :: c :: (R ++ [a])) ∧ l.Perm (b :: c :: (R ++ [a])) ∧ (EE l).Perm (EE (b :: c :: (R ++ [a]))) := by
  obtain ⟨X, Y, rfl⟩ := List.append_of_mem hb
  have hp : (X ++ b :: Y).Perm (b :: Y ++ X) := List.perm_append_comm
  have he := EE_rot X (b :: Y)
  have h3 : 3 ≤ (b :: (Y ++ X)).length := by have := hs.three; simp only [List.length_append, List.length_cons] at this ⊢; omega
  have hs' := simp_perm hs hp (fun e h => he.mem_iff.2 h)
  rw [List.cons_append] at hp he hs'
  generalize Y ++ X = M at *
  cases M with
  | nil => simp at h3
  | cons c M =>
    rcases List.eq_nil_or_concat M with rfl | ⟨R, a, rfl⟩
    · simp at h3
    · rw [List.concat_eq_append] at *
      exact ⟨c, R, a, hs', hp, he⟩
theorem front_E (b c a : P2) (R : List P2) : EE (b :: c :: (R ++ [a])) = (b, c) :: (steps (c :: (R ++ [a])) ++ [(a, b)]) := by
  have e : EE (b :: c :: (R ++ [a])) = (b, c) :: steps ((c :: R) ++ a :: [b]) := by simp [EE, steps]
  rw [e, steps_cat]
  simp [steps]
section
variable {b c a : P2} {R : List P2}
attribute [local irreducible] TT OnS Cr InT
theorem nbr_prev {p : P2} (nd : (b :: c :: (R ++ [a])).Nodup) (h : (p, b) ∈ EE (b :: c :: (R ++ [a]))) : p = a := by
  rw [front_E] at h
  have hb : b ∉ c :: (R ++ [a]) := (List.nodup_cons.1 nd).1
  simp only [List.mem_cons, List.mem_append, Prod.mk.injEq, List.not_mem_nil, or_false] at h
  rcases h with ⟨_, h⟩ | h | ⟨h, _⟩
  · exact absurd (by rw [h]; exact List.mem_cons_self) hb
  · exact absurd (steps_mem h).2 hb
  · exact h
theorem nbr_next {q : P2} (nd : (b :: c :: (R ++ [a])).Nodup) (h : (b, q) ∈ EE (b :: c :: (R ++ [a]))) : q = c := by
  rw [front_E] at h
  have hb : b ∉ c :: (R ++ [a]) := (List.nodup_cons.1 nd).1
  simp only [List.mem_cons, List.mem_append, Prod.mk.injEq, List.not_mem_nil, or_false] at h
  rcases h with ⟨_, h⟩ | h | ⟨h, _⟩
  · exact h
  · exact absurd (steps_mem h).1 hb
  · exact absurd (by rw [h]; simp) hb
theorem edge_ab : (a, b) ∈ EE (b :: c :: (R ++ [a])) := by rw [front_E]; simp
theorem edge_bc : (b, c) ∈ EE (b :: c :: (R ++ [a])) := by rw [front_E]; simp
theorem nd_ne (nd : (b :: c :: (R ++ [a])).Nodup) : b ≠ c ∧ b ≠ a ∧ c ≠ a ∧ (∀ v ∈ R, v ≠ b ∧ v ≠ c ∧ v ≠ a) := by
  have hb : b ∉ c :: (R ++ [a]) := (List.nodup_cons.1 nd).1
  have nd2 := (List.nodup_cons.1 nd).2
  have hc : c ∉ R ++ [a] := (List.nodup_cons.1 nd2).1
  have nd3 := (List.nodup_cons.1 nd2).2
  simp only [List.mem_cons, List.mem_append, List.not_mem_nil, or_false, not_or] at hb hc
  refine ⟨hb.1, hb.2.2, hc.2, fun v hv => ⟨?_, ?_, ?_⟩⟩
  · rintro rfl; exact hb.2.1 hv
  · rintro rfl; exact hc.1 hv
  · rintro rfl; exact (List.nodup_append.1 nd3).2.2 v hv v (by simp) rfl
end
theorem col_on {p v q d : P2} (h0 : TT p v q = 0) (hp : LL d p < LL d v) (hq : LL d q < LL d v) : OnS p v q ∨ OnS q v p := by
  have ex : (LL d v - LL d q) * (p.1 - v.1) = (LL d v - LL d p) * (q.1 - v.1) := by unfold TT at h0; unfold LL; grind
  have ey : (LL d v - LL d q) * (p.2 - v.2) = (LL d v - LL d p) * (q.2 - v.2) := by unfold TT at h0; unfold LL; grind
  rcases Int.le_total (LL d v - LL d p) (LL d v - LL d q) with h | h
  · exact Or.inl (par_on (by omega) (by omega) h ex ey)
  · exact Or.inr (par_on (m := LL d v - LL d q) (N := LL d v - LL d p) (by omega) (by omega) h ex.symm ey.symm)
theorem ext_ne {l : List P2} {p v q : P2} (hs : Simp l) (hv : Exv l v) (h1 : (p, v) ∈ EE l) (h2 : (v, q) ∈ EE l) : TT p v q ≠ 0 := by
  intro h0
  obtain ⟨c, R, a, hs', hp, he⟩ := front hs hv.1
  have e1 := nbr_prev hs'.nd (he.mem_iff.1 h1)
  have e2 := nbr_next hs'.nd (he.mem_iff.1 h2)
  subst e1 e2
  obtain ⟨n1, n2, n3, _⟩ := nd_ne hs'.nd
  obtain ⟨d, hd⟩ := hv.2
  have mp : p ∈ l := hp.mem_iff.2 (by simp)
  have mq : q ∈ l := hp.mem_iff.2 (by simp)
  rcases col_on h0 (hd p mp n2.symm) (hd q mq n1.symm) with h | h
  · exact hs.on _ h2 p mp n2.symm n3.symm h
  · exact hs.on _ h1 q mq n3 n1.symm (ons_swap h)
def Diag (l : List P2) (x y : P2) : Prop := (∀ v ∈ l, v ≠ x → v ≠ y → ¬ OnS v x y) ∧ ∀ e ∈ EE l, ¬ Cr x y e.1 e.2
theorem cr_self (x y : P2) : ¬ Cr x y x y := by
  intro h; have := h.1; rw [(tt_self x y).1] at this; simp at this
theorem simp_sub {l l' : List P2} {x y : P2} (hs : Simp l) (hd : Diag l x y) (nd : l'.Nodup) (h3 : 3 ≤ l'.length) (hm : ∀ v ∈ l', v ∈ l) (he : ∀ e ∈ EE l', e ∈ EE l ∨ e = (x, y) ∨ e = (y, x)) : Simp l' := by
  have hc : ∀ e ∈ EE l', ∀ f ∈ EE l', e ∈ EE l → ¬ Cr e.1 e.2 f.1 f.2 := by
    intro e _ f hf hel hcr
    rcases he f hf with h | rfl | rfl
    · exact hs.cr e hel f h hcr
    · exact hd.2 e hel (cr_comm hcr)
    · exact hd.2 e hel (cr_swap' (cr_comm hcr))
  refine ⟨nd, ?_, ?_, h3⟩
  · intro e h v hv n1 n2 hon
    rcases he e h with h | rfl | rfl
    · exact hs.on e h v (hm v hv) n1 n2 hon
    · exact hd.1 v (hm v hv) n1 n2 hon
    · exact hd.1 v (hm v hv) n2 n1 (ons_swap hon)
  · intro e h f hf hcr
    rcases he e h with h' | h' | h'
    · exact hc e h f hf h' hcr
    · rcases he f hf with g | g | g
      · exact hc f hf e h g (cr_comm hcr)
      · subst h' g; exact cr_self _ _ hcr
      · subst h' g; exact cr_self _ _ (cr_swap hcr)
    · rcases he f hf with g | g | g
      · exact hc f hf e h g (cr_comm hcr)
      · subst h' g; exact cr_self _ _ (cr_swap hcr)
      · subst h' g; exact cr_self _ _ hcr
theorem ext_sub {l l' : List P2} {v : P2} (h : Exv l v) (hv : v ∈ l') (hm : ∀ u ∈ l', u ∈ l) : Exv l' v := ⟨hv, h.2.imp fun d hd u hu => hd u (hm u hu)⟩
theorem keep_prev {a b c x d : P2} (ht : 0 < TT a b c) (hc : LL d c < LL d a) (hb : LL d b < LL d a) (hx : LL d x < LL d a) (hne : ¬ InT a b c x) (hcr : ¬ Cr x a b c) (h0 : TT x a b ≠ 0) (h1 : TT x a c ≠ 0) : 0 < TT x a b * TT x a c := by
  have e0 : TT x a b = TT a b x := (tt_rot x a b).symm
  have e1 : TT x a c = - TT c a x := by rw [← tt_rot x a c]; exact tt_swap c a x
  have by1 : TT a b c * (LL d x - LL d a) = TT a b x * (LL d c - LL d a) + TT c a x * (LL d b - LL d a) := by unfold TT LL; grind
  rcases Int.lt_or_gt_of_ne h0 with g | g <;> rcases Int.lt_or_gt_of_ne h1 with g' | g'
  · exact Int.mul_pos_of_neg_of_neg g g'
  · exfalso
    have e1 := Int.mul_pos ht (show 0 < LL d a - LL d x by omega)
    have e2 := Int.mul_pos (show 0 < - TT a b x by omega) (show 0 < LL d a - LL d c by omega)
    have e3 := Int.mul_pos (show 0 < - TT c a x by omega) (show 0 < LL d a - LL d b by omega)
    grind
  · exfalso
    rcases Int.lt_or_le (TT b c x) 0 with k | k
    · refine hcr ⟨?_, ?_⟩
      · exact Int.mul_neg_of_pos_of_neg g g'
      · rw [tt_rot a b c]; exact Int.mul_neg_of_neg_of_pos k ht
    · exact hne ⟨by omega, k, by omega⟩
  · exact Int.mul_pos g g'
theorem inT_on_ac {a b c v : P2} (ht : 0 < TT a b c) (h : OnS v a c) (h1 : v ≠ a) (h2 : v ≠ c) : InT a b c v := by
  obtain ⟨m, N, hm, hN, ex, ey⟩ := on_par h h1 h2
  have e1 := par_tt ex ey a b; have e2 := par_tt ex ey b c; have e3 := par_tt ex ey c a
  have s1 := tt_self a b; have s2 := tt_self b c; have s3 := tt_self c a
  rw [s1.1] at e1; rw [s2.2.1] at e2; rw [s3.1, s3.2.1] at e3
  have r : TT b c a = TT a b c := tt_rot a b c
  rw [r] at e2
  refine ⟨?_, ?_, ?_⟩
  · have : 0 ≤ N * TT a b v := by rw [e1]; have := Int.mul_pos hm ht; omega
    exact (nneg_iff (by omega)).1 this
  · have : 0 ≤ N * TT b c v := by rw [e2]; have := Int.mul_pos (show 0 < N - m by omega) ht; omega
    exact (nneg_iff (by omega)).1 this
  · have : 0 ≤ N * TT c a v := by rw [e3]; omega
    exact (nneg_iff (by omega)).1 this
section
variable {b c a : P2} {R : List P2}
theorem cut_ear_pos (hs : Simp (b :: c :: (R ++ [a]))) (hR : R ≠ []) (ht : 0 < TT a b c) (hemp : ∀ v ∈ R, ¬ InT a b c v) :
    Simp (c :: (R ++ [a])) ∧ A2 (b :: c :: (R ++ [a])) = A2 (c :: (R ++ [a])) + TT a b c ∧
    ∀ v, Exv (b :: c :: (R ++ [a])) v → v ≠ b → Exv (c :: (R ++ [a])) v ∧ ∀ t, At (b :: c :: (R ++ [a])) v t → ∃ t', At (c :: (R ++ [a])) v t' ∧ 0 < t * t' := by
  obtain ⟨n1, n2, n3, nR⟩ := nd_ne hs.nd
  have hE' : EE (c :: (R ++ [a])) = steps (c :: (R ++ [a])) ++ [(a, c)] := by
    have e : EE (c :: (R ++ [a])) = steps ((c :: R) ++ a :: [c]) := by simp [EE]
    rw [e, steps_cat]; simp [steps]
  have hE := front_E b c a R
  have hsub : ∀ v ∈ c :: (R ++ [a]), v ∈ b :: c :: (R ++ [a]) := fun v hv => List.mem_cons_of_mem _ hv
  have notin : ∀ u ∈ b :: c :: (R ++ [a]), 0 < TT c a u → u ≠ b → TT b c u < 0 ∨ TT a b u < 0 := by
    intro u hu h hb
    have hR : u ∈ R := by
      simp only [List.mem_cons, List.mem_append, List.not_mem_nil, or_false] at hu
      rcases hu with h' | h' | h' | h'
      · exact absurd h' hb
      · subst h'; rw [(tt_self u a).1] at h; omega
      · exact h'
      · subst h'; rw [(tt_self c u).2.1] at h; omega
    rcases Int.lt_or_le (TT b c u) 0 with k | k
    · exact Or.inl k
    · rcases Int.lt_or_le (TT a b u) 0 with k' | k'
      · exact Or.inr k'
      · exact absurd ⟨k', k, by omega⟩ (hemp u hR)
  have hD : Diag (b :: c :: (R ++ [a])) a c := by
    refine ⟨?_, ?_⟩
    · intro v hv h1 h2 hon
      have hin := inT_on_ac ht hon h1 h2
      simp only [List.mem_cons, List.mem_append, List.not_mem_nil, or_false] at hv
      rcases hv with h' | h' | h' | h'
      · subst h'
        have := hon.1
        have e := tt_swap a v c
        have e2 := tt_rot v a c
        have e3 := tt_rot a c v
        omega
      · exact h2 h'
      · exact hemp v h' hin
      · exact h1 h'
    · rintro ⟨u, w⟩ he hcr
      have hu := (steps_mem (L := b :: ((c :: (R ++ [a])) ++ [b])) (by simpa [EE] using he))
      have mu : u ∈ b :: c :: (R ++ [a]) := by
        have := hu.1; simp only [List.mem_cons, List.mem_append, List.not_mem_nil, or_false] at this ⊢; grind
      have mw : w ∈ b :: c :: (R ++ [a]) := by
        have := hu.2; simp only [List.mem_cons, List.mem_append, List.not_mem_nil, or_false] at this ⊢; grind
      simp only at hcr
      by_cases hub : u = b
      · subst hub
        have e := nbr_next hs.nd he
        subst e
        have := hcr.1; rw [(tt_self a w).2.1] at this; simp at this
      · by_cases hwb : w = b
        · subst hwb
          have e := nbr_prev hs.nd he
          subst e
          have := hcr.1; rw [(tt_self u c).1] at this; simp at this
        · rcases ear_out ht (fun h => notin u mu h hub) (fun h => notin w mw h hwb) hcr with g | g | g
          · exact hs.cr _ he _ edge_bc g
          · exact hs.cr _ he _ edge_ab g
          · exact hs.on _ he b (by simp) (Ne.symm hub) (Ne.symm hwb) g
  have hS : Simp (c :: (R ++ [a])) := by
    refine simp_sub hs hD (List.nodup_cons.1 hs.nd).2 ?_ hsub ?_
    · cases R with
      | nil => exact absurd rfl hR
      | cons x R => simp
    · intro e he
      rw [hE'] at he; rw [hE]
      simp only [List.mem_cons, List.mem_append, List.not_mem_nil, or_false] at he ⊢
      rcases he with h | h
      · exact Or.inl (Or.inr (Or.inl h))
      · exact Or.inr (Or.inl h)
  refine ⟨hS, ?_, ?_⟩
  · unfold A2
    rw [hE, hE']
    simp only [List.map_cons, List.map_append, List.sum_cons, List.sum_append, List.map_nil, List.sum_nil, cr2]
    unfold TT; grind
  · intro v hv hvb
    have mv : v ∈ c :: (R ++ [a]) := by
      have := hv.1; simp only [List.mem_cons] at this ⊢; grind
    have hv' := ext_sub hv mv hsub
    refine ⟨hv', ?_⟩
    rintro t ⟨p, q, h1, h2, rfl⟩
    have nz := ext_ne hs hv h1 h2
    obtain ⟨d, hd⟩ := hv.2
    have hd' : ∀ u ∈ R ++ [a, b, c], u ≠ v → LL d u < LL d v := by
      intro u hu; refine hd u ?_
      simp only [List.mem_cons, List.mem_append, List.not_mem_nil, or_false] at hu ⊢; grind
    have nds : c ∉ R ++ [a] := (List.nodup_cons.1 (List.nodup_cons.1 hs.nd).2).1
    rw [hE] at h1 h2
    simp only [List.mem_cons, List.mem_append, List.not_mem_nil, or_false, Prod.mk.injEq] at h1 h2
    by_cases hvc : v = c
    · subst hvc
      have ep : p = b := by
        rcases h1 with h | h | h
        · exact h.1
        · exact absurd (steps_snd h) nds
        · exact absurd h.2 n1.symm
      have hq : (v, q) ∈ steps (v :: (R ++ [a])) := by
        rcases h2 with h | h | h
        · exact absurd h.1 n1.symm
        · exact h
        · exact absurd h.1 n3
      subst ep
      have hqR : q ∈ R := by
        cases R with
        | nil => exact absurd rfl hR
        | cons x R =>
          have hn : v ∉ (x :: R) ++ [a] := nds
          simp only [List.cons_append, steps, List.mem_cons, Prod.mk.injEq] at hq
          rcases hq with h | h
          · rw [h.2]; simp
          · exact absurd (List.mem_append_left _ (steps_fst (L := x :: R) h)) hn
      have he1 : (a, v) ∈ EE (v :: (R ++ [a])) := by rw [hE']; simp
      have he2 : (v, q) ∈ EE (v :: (R ++ [a])) := by rw [hE']; simp [hq]
      refine ⟨TT a v q, ⟨a, q, he1, he2, rfl⟩, ?_⟩
      have hqe : (v, q) ∈ EE (p :: v :: (R ++ [a])) := by rw [hE]; simp [hq]
      have k1 : ¬ Cr v q a p := hs.cr (v, q) hqe (a, p) edge_ab
      have k2 := ext_ne hS hv' he1 he2
      have k3 := hd' a (by simp) (Ne.symm n3)
      have k4 := hd' p (by simp) n1
      have k5 := hd' q (by simp [hqR]) (nR q hqR).2.1
      have k6 := hemp q hqR
      exact keep_next (d := d) ht k3 k4 k5 k6 k1 nz k2
    · by_cases hva : v = a
      · subst hva
        have eq : q = b := by
          rcases h2 with h | h | h
          · exact absurd h.1 n2.symm
          · exact absurd (steps_fst (L := c :: R) (by simpa using h)) (by
              intro h'
              simp only [List.mem_cons] at h'
              rcases h' with h' | h'
              · exact hvc h'
              · exact (nR v h').2.2 rfl)
          · exact h.2
        have hp : (p, v) ∈ steps (c :: (R ++ [v])) := by
          rcases h1 with h | h | h
          · exact absurd h.2.symm n3
          · exact h
          · exact absurd h.2 n2.symm
        subst eq
        have hpR : p ∈ R := by
          have h' := steps_fst (L := c :: R) (by simpa using hp)
          simp only [List.mem_cons] at h'
          rcases h' with h' | h'
          · exfalso
            subst h'
            cases R with
            | nil => exact hR rfl
            | cons x R =>
              simp only [List.cons_append, steps, List.mem_cons, Prod.mk.injEq] at hp
              rcases hp with h | h
              · exact (nR x (by simp)).2.2 h.2.symm
              · exact nds (List.mem_append_left _ (steps_fst (L := x :: R) h))
          · exact h'
        have he1 : (p, v) ∈ EE (c :: (R ++ [v])) := by rw [hE']; simp [hp]
        have he2 : (v, c) ∈ EE (c :: (R ++ [v])) := by rw [hE']; simp
        refine ⟨TT p v c, ⟨p, c, he1, he2, rfl⟩, ?_⟩
        have hpe : (p, v) ∈ EE (q :: c :: (R ++ [v])) := by rw [hE]; simp [hp]
        have k1 : ¬ Cr p v q c := hs.cr (p, v) hpe (q, c) edge_bc
        have k2 := ext_ne hS hv' he1 he2
        have k3 := hd' c (by simp) n3
        have k4 := hd' q (by simp) n2
        have k5 := hd' p (by simp [hpR]) (nR p hpR).2.2
        have k6 := hemp p hpR
        exact keep_prev (d := d) ht k3 k4 k5 k6 k1 nz k2
      · have he1 : (p, v) ∈ EE (c :: (R ++ [a])) := by
          rw [hE']
          rcases h1 with h | h | h
          · exact absurd h.2 hvc
          · simp [h]
          · exact absurd h.2 hvb
        have he2 : (v, q) ∈ EE (c :: (R ++ [a])) := by
          rw [hE']
          rcases h2 with h | h | h
          · exact absurd h.1 hvb
          · simp [h]
          · exact absurd h.1 hva
        refine ⟨_, ⟨p, q, he1, he2, rfl⟩, ?_⟩
        rcases Int.lt_or_gt_of_ne nz with h | h
        · exact Int.mul_pos_of_neg_of_neg h h
        · exact Int.mul_pos h h
end
attribute [local irreducible] TT OnS Cr InT
theorem edge_mem {l : List P2} {u w : P2} (h : (u, w) ∈ EE l) : u ∈ l ∧ w ∈ l := by
  cases l with
  | nil => simp [EE] at h
  | cons a r =>
    have := steps_mem h
    simp only [List.mem_cons, List.mem_append, List.not_mem_nil, or_false] at this ⊢; grind
section
variable {b c a z : P2} {R1 R2 : List P2}
theorem diag_z (hs : Simp (b :: c :: ((R1 ++ z :: R2) ++ [a]))) (ht : 0 < TT a b c) (hz : InT a b c z) (hmax : ∀ v ∈ R1 ++ z :: R2, InT a b c v → TT c a v ≤ TT c a z) :
    0 < TT b c z ∧ 0 < TT a b z ∧ Diag (b :: c :: ((R1 ++ z :: R2) ++ [a])) b z := by
  obtain ⟨n1, n2, n3, nR⟩ := nd_ne hs.nd
  have zR : z ∈ R1 ++ z :: R2 := by simp
  obtain ⟨nz1, nz2, nz3⟩ := nR z zR
  have hz' : 0 ≤ TT a b z ∧ 0 ≤ TT b c z ∧ 0 ≤ TT c a z := by unfold InT at hz; exact hz
  have sz := tt_sum a b c z
  have mz : z ∈ b :: c :: ((R1 ++ z :: R2) ++ [a]) := by simp
  have p1 : 0 < TT b c z := by
    rcases Int.lt_or_le 0 (TT b c z) with h | h
    · exact h
    · exact absurd (inT_side hz ht (by omega)) (hs.on (b, c) edge_bc z mz nz1 nz2)
  have p2 : 0 < TT a b z := by
    rcases Int.lt_or_le 0 (TT a b z) with h | h
    · exact h
    · have e1 := tt_rot c a b
      exact absurd (inT_side (inT_rot (inT_rot hz)) (by omega) (by omega)) (hs.on (a, b) edge_ab z mz nz3 nz1)
  have notin : ∀ u ∈ b :: c :: ((R1 ++ z :: R2) ++ [a]), u ≠ b → TT c a z < TT c a u → TT b c u < 0 ∨ TT a b u < 0 := by
    intro u hu hb h
    simp only [List.mem_cons, List.not_mem_nil, or_false] at hu
    rcases hu with h' | h' | h'
    · exact absurd h' hb
    · subst h'; rw [(tt_self u a).1] at h; omega
    · rcases List.mem_append.1 h' with h' | h'
      · rcases Int.lt_or_le (TT b c u) 0 with k | k
        · exact Or.inl k
        · rcases Int.lt_or_le (TT a b u) 0 with k' | k'
          · exact Or.inr k'
          · have : InT a b c u := by unfold InT; exact ⟨k', k, by omega⟩
            have := hmax u h' this; omega
      · have : u = a := by simpa using h'
        subst this; rw [(tt_self c u).2.1] at h; omega
  refine ⟨p1, p2, ?_, ?_⟩
  · intro v hv h1 h2 hon
    obtain ⟨m, N, hm, hN, ex, ey⟩ := on_par hon h1 h2
    have e1 := par_tt ex ey b c; have e2 := par_tt ex ey a b; have e3 := par_tt ex ey c a
    rw [(tt_self b c).1] at e1; rw [(tt_self a b).2.1] at e2; rw [show TT c a b = TT a b c from (tt_rot c a b).symm] at e3
    have g1 : 0 < N * TT b c v := by rw [e1]; have := Int.mul_pos hm p1; omega
    have g2 : 0 < N * TT a b v := by rw [e2]; have := Int.mul_pos hm p2; omega
    have g3 : 0 < N * (TT c a v - TT c a z) := by
      have : N * (TT c a v - TT c a z) = (N - m) * (TT a b c - TT c a z) := by rw [Int.mul_sub, e3]; grind
      rw [this]; exact Int.mul_pos (by omega) (by omega)
    have g1' := pos_of_mul g1 (by omega); have g2' := pos_of_mul g2 (by omega); have g3' := pos_of_mul g3 (by omega)
    rcases notin v hv h1 (by omega) with h | h <;> omega
  · rintro ⟨u, w⟩ he hcr
    simp only at hcr
    have hub : u ≠ b := by rintro rfl; have := hcr; unfold Cr at this; have := this.1; rw [(tt_self u z).1] at this; simp at this
    have hwb : w ≠ b := by rintro rfl; have := hcr; unfold Cr at this; have := this.1; rw [(tt_self w z).1] at this; simp at this
    obtain ⟨mu, mw⟩ := edge_mem he
    rcases cross_out ht p1 p2 hz'.2.2 (notin u mu hub) (notin w mw hwb) hcr with g | g
    · exact hs.cr (u, w) he (b, c) edge_bc g
    · exact hs.cr (u, w) he (a, b) edge_ab g
theorem cut_diag_pos (hs : Simp (b :: c :: ((R1 ++ z :: R2) ++ [a]))) (ht : 0 < TT a b c) (hz : InT a b c z) (hmax : ∀ v ∈ R1 ++ z :: R2, InT a b c v → TT c a v ≤ TT c a z) :
    Simp (b :: c :: (R1 ++ [z])) ∧ Simp (b :: z :: (R2 ++ [a])) ∧ A2 (b :: c :: ((R1 ++ z :: R2) ++ [a])) = A2 (b :: c :: (R1 ++ [z])) + A2 (b :: z :: (R2 ++ [a])) ∧ 0 < TT z b c ∧ 0 < TT a b z ∧
    ∀ v t, Exv (b :: c :: ((R1 ++ z :: R2) ++ [a])) v → v ≠ b → At (b :: c :: ((R1 ++ z :: R2) ++ [a])) v t → (Exv (b :: c :: (R1 ++ [z])) v ∧ At (b :: c :: (R1 ++ [z])) v t) ∨ (Exv (b :: z :: (R2 ++ [a])) v ∧ At (b :: z :: (R2 ++ [a])) v t) := by
  obtain ⟨p1, p2, hD⟩ := diag_z hs ht hz hmax
  have hE : EE (b :: c :: ((R1 ++ z :: R2) ++ [a])) = (b, c) :: ((steps (c :: (R1 ++ [z])) ++ steps (z :: (R2 ++ [a]))) ++ [(a, b)]) := by
    rw [front_E]
    have e : c :: ((R1 ++ z :: R2) ++ [a]) = (c :: R1) ++ z :: (R2 ++ [a]) := by simp
    rw [e, steps_cat]; simp
  have hE1 := front_E b c z R1
  have hE2 := front_E b z a R2
  have m1 : ∀ v ∈ b :: c :: (R1 ++ [z]), v ∈ b :: c :: ((R1 ++ z :: R2) ++ [a]) := by
    intro v hv; simp only [List.mem_cons, List.mem_append, List.not_mem_nil, or_false] at hv ⊢; grind
  have m2 : ∀ v ∈ b :: z :: (R2 ++ [a]), v ∈ b :: c :: ((R1 ++ z :: R2) ++ [a]) := by
    intro v hv; simp only [List.mem_cons, List.mem_append, List.not_mem_nil, or_false] at hv ⊢; grind
  have nd := hs.nd
  have sl1 : (b :: c :: (R1 ++ [z])).Sublist (b :: c :: ((R1 ++ z :: R2) ++ [a])) := by
    refine List.Sublist.cons_cons b (List.Sublist.cons_cons c ?_)
    rw [List.append_assoc]
    exact List.Sublist.append_left (by simp) _
  have sl2 : (b :: z :: (R2 ++ [a])).Sublist (b :: c :: ((R1 ++ z :: R2) ++ [a])) := by
    refine List.Sublist.cons_cons b ?_
    have e : c :: ((R1 ++ z :: R2) ++ [a]) = (c :: R1) ++ z :: (R2 ++ [a]) := by simp
    rw [e]
    exact List.sublist_append_right _ _
  have nd1 := sl1.nodup nd
  have nd2 := sl2.nodup nd
  refine ⟨simp_sub hs hD nd1 (by simp) m1 ?_, simp_sub hs hD nd2 (by simp) m2 ?_, ?_, ?_, p2, ?_⟩
  · intro e he
    rw [hE1] at he; rw [hE]
    simp only [List.mem_cons, List.mem_append, List.not_mem_nil, or_false] at he ⊢; grind
  · intro e he
    rw [hE2] at he; rw [hE]
    simp only [List.mem_cons, List.mem_append, List.not_mem_nil, or_false] at he ⊢; grind
  · unfold A2
    rw [hE, hE1, hE2]
    simp only [List.map_cons, List.map_append, List.sum_cons, List.sum_append, List.map_nil, List.sum_nil, cr2]
    grind
  · rw [← tt_rot z b c]; exact p1
  · rintro v t hv hvb ⟨p, q, h1, h2, rfl⟩
    have hvz : v ≠ z := by
      rintro rfl
      obtain ⟨n1, n2, n3, nR⟩ := nd_ne nd
      obtain ⟨nz1, nz2, nz3⟩ := nR v (by simp)
      obtain ⟨d, hd⟩ := hv.2
      have k1 := hd a (by simp) (Ne.symm nz3)
      have k2 := hd b (by simp) (Ne.symm nz1)
      have k3 := hd c (by simp) (Ne.symm nz2)
      have by1 : TT b c v * (LL d a - LL d v) + TT a b v * (LL d c - LL d v) + TT c a v * (LL d b - LL d v) = 0 := by unfold TT LL; grind
      have hz' : 0 ≤ TT a b v ∧ 0 ≤ TT b c v ∧ 0 ≤ TT c a v := by unfold InT at hz; exact hz
      have q1 := Int.mul_pos p1 (show 0 < LL d v - LL d a by omega)
      have q2 := Int.mul_pos p2 (show 0 < LL d v - LL d c by omega)
      have q3 := Int.mul_nonneg hz'.2.2 (show 0 ≤ LL d v - LL d b by omega)
      grind
    have s1 : ∀ {x y : P2}, (x, y) ∈ steps (c :: (R1 ++ [z])) → (v = x ∨ v = y) → v ∈ c :: R1 := by
      intro x y h hx
      have := steps_mem h
      simp only [List.mem_cons, List.mem_append, List.not_mem_nil, or_false] at this ⊢; grind
    have s2 : ∀ {x y : P2}, (x, y) ∈ steps (z :: (R2 ++ [a])) → (v = x ∨ v = y) → v ∈ R2 ++ [a] := by
      intro x y h hx
      have := steps_mem h
      simp only [List.mem_cons, List.mem_append, List.not_mem_nil, or_false] at this ⊢; grind
    have dis : v ∈ c :: R1 → v ∈ R2 ++ [a] → False := by
      intro g1 g2
      have nd' := (List.nodup_cons.1 nd).2
      have e : c :: ((R1 ++ z :: R2) ++ [a]) = (c :: R1) ++ z :: (R2 ++ [a]) := by simp
      rw [e] at nd'
      exact (List.nodup_append.1 nd').2.2 v g1 v (List.mem_cons_of_mem _ g2) rfl
    rw [hE] at h1 h2
    simp only [List.mem_cons, List.mem_append, List.not_mem_nil, or_false, Prod.mk.injEq] at h1 h2
    have mv : v ∈ c :: R1 ∨ v ∈ R2 ++ [a] := by
      have := hv.1
      simp only [List.mem_cons, List.mem_append, List.not_mem_nil, or_false] at this ⊢; grind
    rcases mv with g | g
    · left
      have ng : v ∉ R2 ++ [a] := fun h => dis g h
      have nva : v ≠ a := by rintro rfl; exact ng (by simp)
      refine ⟨ext_sub hv (by simp only [List.mem_cons, List.mem_append, List.not_mem_nil, or_false] at g ⊢; grind) m1, p, q, ?_, ?_, rfl⟩
      · rw [hE1]; simp only [List.mem_cons, List.mem_append, List.not_mem_nil, or_false, Prod.mk.injEq]
        rcases h1 with h | (h | h) | h
        · exact Or.inl h
        · exact Or.inr (Or.inl h)
        · exact absurd (s2 h (Or.inr rfl)) ng
        · exact absurd h.2 hvb
      · rw [hE1]; simp only [List.mem_cons, List.mem_append, List.not_mem_nil, or_false, Prod.mk.injEq]
        rcases h2 with h | (h | h) | h
        · exact Or.inl h
        · exact Or.inr (Or.inl h)
        · exact absurd (s2 h (Or.inl rfl)) ng
        · exact absurd h.1 nva
    · right
      have ng : v ∉ c :: R1 := fun h => dis h g
      have nvc : v ≠ c := by rintro rfl; exact ng (by simp)
      refine ⟨ext_sub hv (by simp only [List.mem_cons, List.mem_append, List.not_mem_nil, or_false] at g ⊢; grind) m2, p, q, ?_, ?_, rfl⟩
      · rw [hE2]; simp only [List.mem_cons, List.mem_append, List.not_mem_nil, or_false, Prod.mk.injEq]
        rcases h1 with h | (h | h) | h
        · exact absurd h.2 nvc
        · exact absurd (s1 h (Or.inr rfl)) ng
        · exact Or.inr (Or.inl h)
        · exact Or.inr (Or.inr h)
      · rw [hE2]; simp only [List.mem_cons, List.mem_append, List.not_mem_nil, or_false, Prod.mk.injEq]
        rcases h2 with h | (h | h) | h
        · exact absurd h.1 hvb
        · exact absurd (s1 h (Or.inl rfl)) ng
        · exact Or.inr (Or.inl h)
        · exact Or.inr (Or.inr h)
end
def GP (l : List P2) : Prop := ∀ v t, Exv l v → At l v t → 0 < t * A2 l
def Keep (l : List P2) (b : P2) (τ : Int) : Prop := ∃ l', Simp l' ∧ l'.length < l.length ∧ (∀ v ∈ l', v ∈ l) ∧ A2 l = A2 l' + τ ∧ ∀ v, Exv l v → v ≠ b → Exv l' v ∧ ∀ t, At l v t → ∃ t', At l' v t' ∧ 0 < t * t'
theorem at_perm {l l' : List P2} (he : (EE l).Perm (EE l')) {v : P2} {t : Int} (h : At l v t) : At l' v t := by
  obtain ⟨p, q, h1, h2, rfl⟩ := h
  exact ⟨p, q, he.mem_iff.1 h1, he.mem_iff.1 h2, rfl⟩
theorem ext_perm {l l' : List P2} (hp : l.Perm l') {v : P2} (h : Exv l v) : Exv l' v := ⟨hp.mem_iff.1 h.1, h.2.imp fun d hd u hu => hd u (hp.mem_iff.2 hu)⟩
theorem gp_perm {l l' : List P2} (hp : l.Perm l') (he : (EE l).Perm (EE l')) (h : GP l') : GP l := fun v t hv ht => by
  rw [A2_perm he]; exact h v t (ext_perm hp hv) (at_perm he ht)
theorem gp_rev {l : List P2} (h : GP l.reverse) : GP l := fun v t hv ht => by
  have := h v (-t) (ext_rev hv) (at_rev ht)
  rw [A2_rev, Int.neg_mul_neg] at this; exact this
theorem keep_perm {l l' : List P2} (hp : l.Perm l') (he : (EE l).Perm (EE l')) {b : P2} {τ : Int} (h : Keep l' b τ) : Keep l b τ := by
  obtain ⟨k, h1, h2, h3, h4, h5⟩ := h
  exact ⟨k, h1, by rw [hp.length_eq]; exact h2, fun v hv => hp.mem_iff.2 (h3 v hv), by rw [A2_perm he]; exact h4, fun v hv hb => ⟨(h5 v (ext_perm hp hv) hb).1, fun t ht => (h5 v (ext_perm hp hv) hb).2 t (at_perm he ht)⟩⟩
theorem keep_rev {l : List P2} {b : P2} {τ : Int} (h : Keep l.reverse b (-τ)) : Keep l b τ := by
  obtain ⟨k, h1, h2, h3, h4, h5⟩ := h
  refine ⟨k.reverse, simp_rev h1, by simpa using h2, fun v hv => List.mem_reverse.1 (h3 v (List.mem_reverse.1 hv)), ?_, ?_⟩
  · rw [A2_rev] at h4 ⊢; omega
  · intro v hv hb
    have := h5 v (ext_rev hv) hb
    refine ⟨ext_rev this.1, fun t ht => ?_⟩
    obtain ⟨t', h, h'⟩ := this.2 (-t) (at_rev ht)
    exact ⟨-t', at_rev h, by rw [← Int.neg_mul_comm]; exact h'⟩
theorem max_in {α : Type} (F : α → Int) (P : α → Prop) : ∀ l : List α, (∃ v ∈ l, P v) → ∃ v ∈ l, P v ∧ ∀ u ∈ l, P u → F u ≤ F v
  | [], h => by obtain ⟨v, hv, _⟩ := h; cases hv
  | a :: l, h => by
    by_cases hl : ∃ v ∈ l, P v
    · obtain ⟨v, hv, pv, hm⟩ := max_in F P l hl
      by_cases ha : P a ∧ F v < F a
      · refine ⟨a, List.mem_cons_self, ha.1, fun u hu pu => ?_⟩
        rcases List.mem_cons.1 hu with rfl | hu
        · exact Int.le_refl _
        · have := hm u hu pu; omega
      · refine ⟨v, List.mem_cons_of_mem _ hv, pv, fun u hu pu => ?_⟩
        rcases List.mem_cons.1 hu with rfl | hu
        · rcases Int.lt_or_le (F v) (F u) with h | h
          · exact absurd ⟨pu, h⟩ ha
          · exact h
        · exact hm u hu pu
    · obtain ⟨v, hv, pv⟩ := h
      rcases List.mem_cons.1 hv with rfl | hv
      · refine ⟨v, List.mem_cons_self, pv, fun u hu pu => ?_⟩
        rcases List.mem_cons.1 hu with rfl | hu
        · exact Int.le_refl _
        · exact absurd ⟨u, hu, pu⟩ hl
      · exact absurd ⟨v, hv, pv⟩ hl
theorem same_sign {a b c : Int} (h1 : 0 < a * b) (h2 : 0 < b * c) : 0 < a * c := by
  rcases Int.lt_trichotomy b 0 with h | h | h
  · have ha : a < 0 := by
      rcases Int.lt_or_le a 0 with h' | h'
      · exact h'
      · have := Int.mul_nonneg h' (show 0 ≤ -b by omega); grind
    have hc : c < 0 := by
      rcases Int.lt_or_le c 0 with h' | h'
      · exact h'
      · have := Int.mul_nonneg h' (show 0 ≤ -b by omega); grind
    exact Int.mul_pos_of_neg_of_neg ha hc
  · subst h; simp at h1
  · exact Int.mul_pos (pos_of_mul (by rw [Int.mul_comm]; exact h1) h) (pos_of_mul h2 h)
theorem step_pos {b c a : P2} {R : List P2} (hs : Simp (b :: c :: (R ++ [a]))) (hR : R ≠ []) (ht : 0 < TT a b c) (hb : Exv (b :: c :: (R ++ [a])) b)
    (IH : ∀ l', l'.length < (b :: c :: (R ++ [a])).length → (∀ v ∈ l', v ∈ b :: c :: (R ++ [a])) → Simp l' → GP l') : GP (b :: c :: (R ++ [a])) ∨ Keep (b :: c :: (R ++ [a])) b (TT a b c) := by
  by_cases hem : ∃ v ∈ R, InT a b c v
  · left
    obtain ⟨z, hz, pz, hm⟩ := max_in (fun p => TT c a p) (InT a b c) R hem
    obtain ⟨R1, R2, rfl⟩ := List.append_of_mem hz
    have m1 : ∀ v ∈ b :: c :: (R1 ++ [z]), v ∈ b :: c :: ((R1 ++ z :: R2) ++ [a]) := by
      intro v hv; simp only [List.mem_cons, List.mem_append, List.not_mem_nil, or_false] at hv ⊢; grind
    have m2 : ∀ v ∈ b :: z :: (R2 ++ [a]), v ∈ b :: c :: ((R1 ++ z :: R2) ++ [a]) := by
      intro v hv; simp only [List.mem_cons, List.mem_append, List.not_mem_nil, or_false] at hv ⊢; grind
    obtain ⟨s1, s2, hA, t1, t2, hrest⟩ := cut_diag_pos hs ht pz hm
    have g1 := IH _ (by simp) m1 s1
    have g2 := IH _ (by simp; omega) m2 s2
    have a1 : 0 < A2 (b :: c :: (R1 ++ [z])) := pos_of_mul (g1 b _ (ext_sub hb (by simp) m1) ⟨z, c, edge_ab, edge_bc, rfl⟩) t1
    have a2 : 0 < A2 (b :: z :: (R2 ++ [a])) := pos_of_mul (g2 b _ (ext_sub hb (by simp) m2) ⟨a, z, edge_ab, edge_bc, rfl⟩) t2
    have ap : 0 < A2 (b :: c :: ((R1 ++ z :: R2) ++ [a])) := by rw [hA]; omega
    intro v t hv hat
    refine Int.mul_pos ?_ ap
    by_cases hvb : v = b
    · subst hvb
      obtain ⟨p, q, h1, h2, rfl⟩ := hat
      rw [nbr_prev hs.nd h1, nbr_next hs.nd h2]; exact ht
    · rcases hrest v t hv hvb hat with ⟨h1, h2⟩ | ⟨h1, h2⟩
      · exact pos_of_mul (by rw [Int.mul_comm]; exact g1 v t h1 h2) a1
      · exact pos_of_mul (by rw [Int.mul_comm]; exact g2 v t h1 h2) a2
  · right
    obtain ⟨s, hA, hk⟩ := cut_ear_pos hs hR ht (fun v hv h => hem ⟨v, hv, h⟩)
    exact ⟨_, s, by simp, fun v hv => List.mem_cons_of_mem _ hv, hA, hk⟩
theorem step_any {l : List P2} (hs : Simp l) (h4 : 4 ≤ l.length) (IH : ∀ l', l'.length < l.length → (∀ v ∈ l', v ∈ l) → Simp l' → GP l') {b : P2} {τ : Int} (hb : Exv l b) (hat : At l b τ) : GP l ∨ Keep l b τ := by
  have main : ∀ k : List P2, Simp k → 4 ≤ k.length → (∀ l', l'.length < k.length → (∀ v ∈ l', v ∈ k) → Simp l' → GP l') → Exv k b → ∀ σ, 0 < σ → At k b σ → GP k ∨ Keep k b σ := by
    intro k hs h4 IH hb σ hσ hat
    obtain ⟨c, R, a, hs', hp, he⟩ := front hs hb.1
    have hR : R ≠ [] := by rintro rfl; have := hp.length_eq; simp at this; omega
    obtain ⟨p, q, h1, h2, rfl⟩ := hat
    have e1 := nbr_prev hs'.nd (he.mem_iff.1 h1)
    have e2 := nbr_next hs'.nd (he.mem_iff.1 h2)
    subst e1 e2
    rcases step_pos hs' hR hσ (ext_perm hp hb) (fun l' hl hm hs => IH l' (by rw [hp.length_eq]; exact hl) (fun v hv => hp.mem_iff.2 (hm v hv)) hs) with h | h
    · exact Or.inl (gp_perm hp he h)
    · exact Or.inr (keep_perm hp he h)
  have nz : τ ≠ 0 := by obtain ⟨p, q, h1, h2, rfl⟩ := hat; exact ext_ne hs hb h1 h2
  rcases Int.lt_or_gt_of_ne nz with h | h
  · rcases main l.reverse (simp_rev hs) (by simpa using h4) (fun l' hl hm hs => IH l' (by simpa using hl) (fun v hv => List.mem_reverse.1 (hm v hv)) hs) (ext_rev hb) (-τ) (by omega) (at_rev hat) with g | g
    · exact Or.inl (gp_rev g)
    · exact Or.inr (keep_rev g)
  · exact main l hs h4 IH hb τ h hat
def Bnd (l : List P2) : Prop := ∀ v ∈ l, (0 ≤ v.1 ∧ v.1 ≤ 20000) ∧ (0 ≤ v.2 ∧ v.2 ≤ 20000)
theorem uniq_max {l : List P2} (d : P2) (hl : l ≠ []) (hi : ∀ u ∈ l, ∀ v ∈ l, LL d u = LL d v → u = v) : ∃ v, Exv l v ∧ ∀ u ∈ l, LL d u ≤ LL d v := by
  obtain ⟨x, hx⟩ := List.exists_mem_of_ne_nil l hl
  obtain ⟨v, hv, _, hm⟩ := max_in (LL d) (fun _ => True) l ⟨x, hx, trivial⟩
  refine ⟨v, ⟨hv, d, fun u hu hne => ?_⟩, fun u hu => hm u hu trivial⟩
  have := hm u hu trivial
  rcases Int.lt_or_eq_of_le this with h | h
  · exact h
  · exact absurd (hi u hu v hv h) hne
theorem sq_nn (x : Int) : 0 ≤ x * x := by
  rcases Int.le_total 0 x with h | h
  · exact Int.mul_nonneg h h
  · exact Int.mul_nonneg_of_nonpos_of_nonpos h h
theorem three_ext {l : List P2} (hs : Simp l) (hb : Bnd l) : ∃ e1 e2 e3, Exv l e1 ∧ Exv l e2 ∧ Exv l e3 ∧ e1 ≠ e2 ∧ e1 ≠ e3 ∧ e2 ≠ e3 := by
  have hne : l ≠ [] := by rintro rfl; have := hs.three; simp at this
  have inj : ∀ s : Int, s = 1 ∨ s = -1 → ∀ u ∈ l, ∀ v ∈ l, LL (s * 20001, s) u = LL (s * 20001, s) v → u = v := by
    intro s hs u hu v hv h
    have := hb u hu; have := hb v hv
    obtain ⟨u1, u2⟩ := u; obtain ⟨v1, v2⟩ := v
    unfold LL at h; simp only at *
    rw [Prod.mk.injEq]
    rcases hs with rfl | rfl <;> omega
  obtain ⟨e1, x1, m1⟩ := uniq_max (-1 * 20001, -1) hne (inj (-1) (Or.inr rfl))
  obtain ⟨e2, x2, m2⟩ := uniq_max (1 * 20001, 1) hne (inj 1 (Or.inl rfl))
  obtain ⟨c, R, a, hs', hp, he⟩ := front hs x1.1
  obtain ⟨n1, n2, n3, _⟩ := nd_ne hs'.nd
  have mc : c ∈ l := hp.mem_iff.2 (by simp)
  have ma : a ∈ l := hp.mem_iff.2 (by simp)
  have n12 : e1 ≠ e2 := by
    rintro rfl
    have h1 := m1 c mc; have h2 := m2 c mc
    have := inj 1 (Or.inl rfl) c mc e1 x1.1 (by unfold LL at *; simp only at *; omega)
    exact n1 this.symm
  have nz := ext_ne hs x1 (he.mem_iff.2 (edge_ab)) (he.mem_iff.2 (edge_bc))
  have off : ∃ p ∈ l, TT e1 e2 p ≠ 0 := by
    by_cases ha : TT e1 e2 a = 0
    · by_cases hc : TT e1 e2 c = 0
      · exfalso
        apply nz
        have k1 : (e2.1 - e1.1) * TT a e1 c = 0 := by unfold TT at *; grind
        have k2 : (e2.2 - e1.2) * TT a e1 c = 0 := by unfold TT at *; grind
        rcases Int.mul_eq_zero.1 k1 with k1 | k1
        · rcases Int.mul_eq_zero.1 k2 with k2 | k2
          · exact absurd (Prod.ext (by omega) (by omega)) n12
          · exact k2
        · exact k1
      · exact ⟨c, mc, hc⟩
    · exact ⟨a, ma, ha⟩
  obtain ⟨p, mp, hpz⟩ := off
  have gb : ∀ q ∈ l, -2000000000 ≤ LL (e2.1 - e1.1, e2.2 - e1.2) q ∧ LL (e2.1 - e1.1, e2.2 - e1.2) q ≤ 2000000000 := by
    intro q hq
    obtain ⟨⟨a1, a2⟩, a3, a4⟩ := hb q hq
    obtain ⟨⟨b1, b2⟩, b3, b4⟩ := hb e1 x1.1
    obtain ⟨⟨c1, c2⟩, c3, c4⟩ := hb e2 x2.1
    have bd : ∀ x y : Int, -20000 ≤ x → x ≤ 20000 → 0 ≤ y → y ≤ 20000 → -400000000 ≤ x * y ∧ x * y ≤ 400000000 := by
      intro x y h1 h2 h3 h4
      have i1 := Int.mul_nonneg (show 0 ≤ x + 20000 by omega) h3
      have i2 := Int.mul_nonneg (show 0 ≤ 20000 - x by omega) h3
      constructor <;> grind
    have := bd (e2.1 - e1.1) q.1 (by omega) (by omega) a1 a2
    have := bd (e2.2 - e1.2) q.2 (by omega) (by omega) a3 a4
    unfold LL; simp only; omega
  have third : ∀ s : Int, s = 1 ∨ s = -1 → 0 < s * TT e1 e2 p → ∃ e3, Exv l e3 ∧ TT e1 e2 e3 ≠ 0 := by
    intro s hs1 hsp
    let d : P2 := (-(s * 10000000000 * (e2.2 - e1.2)) + (e2.1 - e1.1), s * 10000000000 * (e2.1 - e1.1) + (e2.2 - e1.2))
    have hd : ∀ q, LL d q = 10000000000 * (s * TT e1 e2 q) + LL (e2.1 - e1.1, e2.2 - e1.2) q + s * 10000000000 * ((e2.1 - e1.1) * e1.2 - (e2.2 - e1.2) * e1.1) := by
      intro q; simp only [d, LL, TT]; grind
    have hi : ∀ u ∈ l, ∀ v ∈ l, LL d u = LL d v → u = v := by
      intro u hu v hv h
      rw [hd, hd] at h
      have g1 := gb u hu; have g2 := gb v hv
      have f : s * TT e1 e2 u = s * TT e1 e2 v := by omega
      have g : LL (e2.1 - e1.1, e2.2 - e1.2) u = LL (e2.1 - e1.1, e2.2 - e1.2) v := by omega
      have f' : TT e1 e2 u = TT e1 e2 v := by rcases hs1 with rfl | rfl <;> omega
      have q1 : ((e2.1 - e1.1) * (e2.1 - e1.1) + (e2.2 - e1.2) * (e2.2 - e1.2)) * (u.1 - v.1) = 0 := by unfold TT at f'; unfold LL at g; simp only at g; grind
      have q2 : ((e2.1 - e1.1) * (e2.1 - e1.1) + (e2.2 - e1.2) * (e2.2 - e1.2)) * (u.2 - v.2) = 0 := by unfold TT at f'; unfold LL at g; simp only at g; grind
      have qp : (e2.1 - e1.1) * (e2.1 - e1.1) + (e2.2 - e1.2) * (e2.2 - e1.2) ≠ 0 := by
        intro h
        have i1 : 0 ≤ (e2.1 - e1.1) * (e2.1 - e1.1) := sq_nn (e2.1 - e1.1)
        have i2 : 0 ≤ (e2.2 - e1.2) * (e2.2 - e1.2) := sq_nn (e2.2 - e1.2)
        have j1 : (e2.1 - e1.1) * (e2.1 - e1.1) = 0 := by omega
        have j2 : (e2.2 - e1.2) * (e2.2 - e1.2) = 0 := by omega
        have k1 : e2.1 - e1.1 = 0 := by rcases Int.mul_eq_zero.1 j1 with h | h <;> exact h
        have k2 : e2.2 - e1.2 = 0 := by rcases Int.mul_eq_zero.1 j2 with h | h <;> exact h
        exact n12 (Prod.ext (by omega) (by omega))
      refine Prod.ext ?_ ?_
      · rcases Int.mul_eq_zero.1 q1 with h | h
        · exact absurd h qp
        · omega
      · rcases Int.mul_eq_zero.1 q2 with h | h
        · exact absurd h qp
        · omega
    obtain ⟨e3, x3, m3⟩ := uniq_max d hne hi
    refine ⟨e3, x3, fun h0 => ?_⟩
    have h := m3 p mp
    rw [hd, hd, h0] at h
    have g1 := gb p mp; have g2 := gb e3 x3.1
    omega
  obtain ⟨e3, x3, h3⟩ : ∃ e3, Exv l e3 ∧ TT e1 e2 e3 ≠ 0 := by
    rcases Int.lt_or_gt_of_ne hpz with h | h
    · exact third (-1) (Or.inr rfl) (by omega)
    · exact third 1 (Or.inl rfl) (by omega)
  refine ⟨e1, e2, e3, x1, x2, x3, n12, ?_, ?_⟩
  · rintro rfl; exact h3 (tt_self e1 e2).1
  · rintro rfl; exact h3 (tt_self e1 e2).2.1
theorem at_ex {l : List P2} (hs : Simp l) {v : P2} (hv : v ∈ l) : ∃ t, At l v t := by
  obtain ⟨c, R, a, hs', hp, he⟩ := front hs hv
  exact ⟨_, a, c, he.mem_iff.2 edge_ab, he.mem_iff.2 edge_bc, rfl⟩
theorem gp_all : ∀ n (l : List P2), l.length ≤ n → Bnd l → Simp l → GP l := by
  intro n
  induction n with
  | zero => intro l h _ hs; have := hs.three; omega
  | succ n ih =>
    intro l hl hb hs
    by_cases h3 : l.length = 3
    · intro v t hv hat
      obtain ⟨c, R, a, hs', hp, he⟩ := front hs hv.1
      have hR : R = [] := by have := hp.length_eq; simp at this; exact List.length_eq_zero_iff.1 (by omega)
      subst hR
      obtain ⟨p, q, h1, h2, rfl⟩ := hat
      have nz := ext_ne hs hv h1 h2
      have e1 := nbr_prev hs'.nd (he.mem_iff.1 h1)
      have e2 := nbr_next hs'.nd (he.mem_iff.1 h2)
      subst e1 e2
      have : A2 l = TT p v q := by
        rw [A2_perm he]; unfold A2; simp only [EE, List.nil_append, List.cons_append, steps, List.map_cons, List.map_nil, List.sum_cons, List.sum_nil, cr2]; unfold TT; grind
      rw [this]
      rcases Int.lt_or_gt_of_ne nz with h | h
      · exact Int.mul_pos_of_neg_of_neg h h
      · exact Int.mul_pos h h
    · have h4 : 4 ≤ l.length := by have := hs.three; omega
      have IH : ∀ l', l'.length < l.length → (∀ v ∈ l', v ∈ l) → Simp l' → GP l' := fun l' h1 h2 h3 => ih l' (by omega) (fun v hv => hb v (h2 v hv)) h3
      by_cases hg : GP l
      · exact hg
      · have hK : ∀ b τ, Exv l b → At l b τ → Keep l b τ := fun b τ h1 h2 => (step_any hs h4 IH h1 h2).resolve_left hg
        obtain ⟨e1, e2, e3, x1, x2, x3, n12, n13, n23⟩ := three_ext hs hb
        intro v t hv hat
        have two : ∃ b1 b2, Exv l b1 ∧ Exv l b2 ∧ b1 ≠ v ∧ b2 ≠ v ∧ b1 ≠ b2 := by
          by_cases k1 : e1 = v
          · subst k1; exact ⟨e2, e3, x2, x3, n12.symm, n13.symm, n23⟩
          · by_cases k2 : e2 = v
            · subst k2; exact ⟨e1, e3, x1, x3, n12, n23.symm, n13⟩
            · exact ⟨e1, e2, x1, x2, k1, k2, n12⟩
        obtain ⟨b1, b2, y1, y2, v1, v2, n⟩ := two
        obtain ⟨τ1, at1⟩ := at_ex hs y1.1
        obtain ⟨τ2, at2⟩ := at_ex hs y2.1
        have via : ∀ b τ, Exv l b → At l b τ → ∀ l', (Simp l' ∧ l'.length < l.length ∧ (∀ v ∈ l', v ∈ l) ∧ A2 l = A2 l' + τ ∧ ∀ v, Exv l v → v ≠ b → Exv l' v ∧ ∀ t, At l v t → ∃ t', At l' v t' ∧ 0 < t * t') → ∀ u s, Exv l u → u ≠ b → At l u s → 0 < s * A2 l' := by
          rintro b τ hb hτ l' ⟨s1, s2, s3, s4, s5⟩ u s hu hub hus
          obtain ⟨t', q1, q2⟩ := (s5 u hu hub).2 s hus
          exact same_sign q2 (IH l' s2 s3 s1 u t' (s5 u hu hub).1 q1)
        obtain ⟨l1, k1⟩ := hK b1 τ1 y1 at1
        obtain ⟨l2, k2⟩ := hK b2 τ2 y2 at2
        have r1 := via b1 τ1 y1 at1 l1 k1 v t hv v1.symm hat
        have r2 := via b2 τ2 y2 at2 l2 k2 v t hv v2.symm hat
        have r3 := via b2 τ2 y2 at2 l2 k2 b1 τ1 y1 n at1
        have r4 : 0 < t * τ1 := same_sign r2 (by rw [Int.mul_comm]; exact r3)
        rw [k1.2.2.2.1, Int.mul_add]; omega
/-- the area of a simple polygon is not 0 -/
theorem simp_area {l : List P2} (hb : Bnd l) (hs : Simp l) : A2 l ≠ 0 := by
  obtain ⟨e1, _, _, x1, _⟩ := three_ext hs hb
  obtain ⟨t, ht⟩ := at_ex hs x1.1
  intro h
  have := gp_all l.length l (Nat.le_refl _) hb hs e1 t x1 ht
  rw [h] at this; simp at this

end Geo
end Go.Proofs.YtpdfbboagaflhaaGreat

set_option linter.unusedSimpArgs false
set_option linter.unusedVariables false
set_option linter.unusedSectionVars false
namespace Go.Proofs.YtpdfbboagaflhaaGreat
namespace Geo

def lx (p q : P2) : Prop := p.1 < q.1 ∨ (p.1 = q.1 ∧ p.2 ≤ q.2)
theorem lx_total (p q : P2) : lx p q ∨ lx q p := by unfold lx; omega
theorem lx_trans {p q r : P2} (h1 : lx p q) (h2 : lx q r) : lx p r := by unfold lx at *; omega
theorem ons_lex {p a b : P2} (h0 : TT a b p = 0) (h1 : lx a p) (h2 : lx p b) : OnS p a b := by
  have h3 := lx_trans h1 h2
  refine ⟨h0, ?_⟩
  unfold lx at *
  refine (on_asc h3 (by unfold TT at h0; omega)).1 ⟨?_, ?_⟩ <;> omega
theorem col3 {p v q : P2} (h0 : TT p v q = 0) : OnS v p q ∨ OnS p v q ∨ OnS q v p := by
  have r1 : TT p q v = 0 := by unfold TT at *; grind
  have r2 : TT v q p = 0 := by unfold TT at *; grind
  have r3 : TT v p q = 0 := by unfold TT at *; grind
  have r4 : TT q p v = 0 := by unfold TT at *; grind
  have r5 : TT q v p = 0 := by unfold TT at *; grind
  rcases lx_total p v with a | a <;> rcases lx_total v q with b | b <;> rcases lx_total p q with c | c
  · exact Or.inl (ons_lex r1 a b)
  · exact Or.inl (ons_lex r1 a b)
  · exact Or.inr (Or.inr (ons_swap (ons_lex h0 c b)))
  · exact Or.inr (Or.inl (ons_swap (ons_lex r5 c a)))
  · exact Or.inr (Or.inl (ons_lex r2 a c))
  · exact Or.inr (Or.inr (ons_lex r3 b c))
  · exact Or.inl (ons_swap (ons_lex r4 b a))
  · exact Or.inl (ons_swap (ons_lex r4 b a))
theorem neg_of {k x : Int} (hk : 0 < k) (h : k * x < 0) : x < 0 := by
  rcases Int.lt_or_le x 0 with g | g
  · exact g
  · have := Int.mul_nonneg (Int.le_of_lt hk) g; omega
theorem ons_split {u v a c : P2} {m N : Int} (h0 : 0 < m) (h1 : m < N) (hx : N * (v.1 - a.1) = m * (c.1 - a.1)) (hy : N * (v.2 - a.2) = m * (c.2 - a.2)) (hc : a ≠ c) (h : OnS u a c) : OnS u a v ∨ OnS u v c := by
  have e1 := par_tt hx hy a u
  have e2 := par_tt hx hy u c
  rw [(tt_self a u).1, Int.mul_zero, Int.zero_add] at e1
  rw [(tt_self u c).2.1, Int.mul_zero, Int.add_zero] at e2
  have z1 : TT a u c = 0 := by have := h.1; unfold TT at *; grind
  have z2 : TT u c a = 0 := by have := h.1; unfold TT at *; grind
  rw [z1, Int.mul_zero] at e1
  rw [z2, Int.mul_zero] at e2
  have hN : N ≠ 0 := by omega
  have z3 : TT a u v = 0 := (Int.mul_eq_zero.1 e1).resolve_left hN
  have z4 : TT u c v = 0 := (Int.mul_eq_zero.1 e2).resolve_left hN
  have z5 : TT a v u = 0 := by unfold TT at *; grind
  have z6 : TT v c u = 0 := by unfold TT at *; grind
  have hv : OnS v a c := par_on (by omega) (by omega) (by omega) hx hy
  obtain ⟨k0, kx, ky⟩ := h
  obtain ⟨l0, ly, lz⟩ := hv
  by_cases hl : lx a c
  · have w1 := (on_asc (p := u.1) (q := u.2) hl (by unfold TT at k0; omega)).2 ⟨kx, ky⟩
    have w2 := (on_asc (p := v.1) (q := v.2) hl (by unfold TT at l0; omega)).2 ⟨ly, lz⟩
    rcases lx_total u v with g | g
    · exact Or.inl (ons_lex z5 (by unfold lx; omega) g)
    · exact Or.inr (ons_lex z6 g (by unfold lx; omega))
  · have hl' := (lx_total a c).resolve_left hl
    have w1 := (on_asc (p := u.1) (q := u.2) hl' (by unfold TT at k0; grind)).2 ⟨by omega, by omega⟩
    have w2 := (on_asc (p := v.1) (q := v.2) hl' (by unfold TT at l0; grind)).2 ⟨by omega, by omega⟩
    rcases lx_total u v with g | g
    · exact Or.inr (ons_swap (ons_lex (by unfold TT at *; grind) (by unfold lx; omega) g))
    · exact Or.inl (ons_swap (ons_lex (by unfold TT at *; grind) g (by unfold lx; omega)))
theorem cr_split {v a c x y : P2} {m N : Int} (h0 : 0 < m) (h1 : m < N) (hx : N * (v.1 - a.1) = m * (c.1 - a.1)) (hy : N * (v.2 - a.2) = m * (c.2 - a.2)) (h : Cr a c x y) : OnS v x y ∨ Cr a v x y ∨ Cr v c x y := by
  obtain ⟨s1, s2⟩ := h
  have f1 : ∀ u, N * TT a v u = m * TT a c u := fun u => by
    have := par_tt hx hy u a
    rw [(tt_self u a).2.1, Int.mul_zero, Int.zero_add] at this
    rw [← tt_rot u a v, ← tt_rot u a c] at *; rw [tt_rot, tt_rot] at this ⊢; exact this
  have f2 : ∀ u, N * TT v c u = (N - m) * TT a c u := fun u => by
    have := par_tt hx hy c u
    rw [(tt_self c u).1, Int.mul_zero, Int.add_zero] at this
    have e1 : TT c u v = TT v c u := by unfold TT; grind
    have e2 : TT c u a = TT a c u := by unfold TT; grind
    rw [e1, e2] at this; exact this
  have e3 := par_tt hx hy x y
  have hN : 0 < N := by omega
  by_cases hz : TT x y v = 0
  · refine Or.inl ?_
    have f0 : TT a c v = 0 := by
      have := f1 c
      rw [(tt_self a c).2.1] at this
      have e1 : TT a v c = - TT a c v := by unfold TT; grind
      rw [e1, Int.mul_zero] at this
      have := (Int.mul_eq_zero.1 this).resolve_left (by omega); omega
    rcases mul_neg_cases s1 with ⟨g1, g2⟩ | ⟨g1, g2⟩
    · refine par_on (m := TT a c x) (N := TT a c x - TT a c y) (by omega) (by omega) (by omega) ?_ ?_ <;> (unfold TT at *; grind)
    · refine par_on (m := - TT a c x) (N := TT a c y - TT a c x) (by omega) (by omega) (by omega) ?_ ?_ <;> (unfold TT at *; grind)
  · refine Or.inr ?_
    have p1 : TT a v x * TT a v y < 0 := by
      have : (N * N) * (TT a v x * TT a v y) = (m * m) * (TT a c x * TT a c y) := by
        have a1 := f1 x; have a2 := f1 y
        have e : (N * N) * (TT a v x * TT a v y) = (N * TT a v x) * (N * TT a v y) := by grind
        rw [e, a1, a2]; grind
      refine neg_of (k := N * N) (Int.mul_pos hN hN) ?_
      rw [this]; exact Int.mul_neg_of_pos_of_neg (Int.mul_pos h0 h0) s1
    have p2 : TT v c x * TT v c y < 0 := by
      have : (N * N) * (TT v c x * TT v c y) = ((N - m) * (N - m)) * (TT a c x * TT a c y) := by
        have a1 := f2 x; have a2 := f2 y
        have e : (N * N) * (TT v c x * TT v c y) = (N * TT v c x) * (N * TT v c y) := by grind
        rw [e, a1, a2]; grind
      refine neg_of (k := N * N) (Int.mul_pos hN hN) ?_
      rw [this]; exact Int.mul_neg_of_pos_of_neg (Int.mul_pos (by omega) (by omega)) s1
    rcases mul_neg_cases s2 with ⟨g1, g2⟩ | ⟨g1, g2⟩ <;> rcases Int.lt_or_gt_of_ne hz with g | g
    · exact Or.inl ⟨p1, Int.mul_neg_of_pos_of_neg g1 g⟩
    · exact Or.inr ⟨p2, Int.mul_neg_of_pos_of_neg g g2⟩
    · exact Or.inr ⟨p2, Int.mul_neg_of_neg_of_pos g g2⟩
    · exact Or.inl ⟨p1, Int.mul_neg_of_neg_of_pos g1 g⟩
theorem cmpI_zero (a b : Int) : cmpI a b = 0 ↔ a = b := by unfold cmpI; repeat (split) <;> omega
theorem turn_zero (a b c d p q : Int) : turnI a b c d p q = 0 ↔ TT (a, b) (c, d) (p, q) = 0 := by
  unfold turnI TT; rw [cmpI_zero]; simp only; omega
theorem turnAt_zero (l : List P2) (n k : Nat) : turnAt l n k = 0 ↔ TT (ptAt l ((k + n - 1) % n)) (ptAt l k) (ptAt l ((k + 1) % n)) = 0 := turn_zero _ _ _ _ _ _
theorem ptAt_cons (v : P2) (r : List P2) (k : Nat) : ptAt (v :: r) (k + 1) = ptAt r k := by simp [ptAt, px, py]
theorem ptAt_zero (v : P2) (r : List P2) : ptAt (v :: r) 0 = v := by simp [ptAt, px, py]
theorem ptAt_app (r : List P2) (a : P2) : ptAt (r ++ [a]) r.length = a := by simp [ptAt, px, py, List.getD_eq_getElem?_getD]
theorem range_cons (n : Nat) : List.range (n + 1) = 0 :: (List.range n).map (· + 1) := by rw [List.range_succ_eq_map]
/-- striking a straight first corner changes no bends -/
theorem normB_drop {v c a : P2} {R : List P2} (h0 : TT a v c = 0) (h1 : ∀ u, TT v c u = 0 ↔ TT a c u = 0) (h2 : ∀ u, TT u a v = 0 ↔ TT u a c = 0) (hac : a ≠ c) (hR : R ≠ []) :
    normB (v :: c :: (R ++ [a])) = normB (c :: (R ++ [a])) := by
  unfold normB
  rw [bendsTo_filter, bendsTo_filter]
  have hl : (v :: c :: (R ++ [a])).length = (c :: (R ++ [a])).length + 1 := by simp
  have hn : (c :: (R ++ [a])).length = R.length + 2 := by simp
  rw [hl, range_cons]
  have z : decide (turnAt (v :: c :: (R ++ [a])) ((c :: (R ++ [a])).length + 1) 0 ≠ 0) = false := by
    simp only [ne_eq, decide_not, Bool.not_eq_false', decide_eq_true_eq]
    rw [turnAt_zero, hn]
    have e1 : (0 + (R.length + 2 + 1) - 1) % (R.length + 2 + 1) = (R.length + 1) + 1 := by rw [Nat.mod_eq_of_lt (by omega)]; omega
    have e2 : (0 + 1) % (R.length + 2 + 1) = 0 + 1 := Nat.mod_eq_of_lt (by omega)
    rw [e1, e2, ptAt_cons, ptAt_cons, ptAt_cons, ptAt_zero, ptAt_zero, ptAt_app]
    exact h0
  rw [List.filter_cons, z]
  simp only [Bool.false_eq_true, if_false]
  rw [List.filter_map, List.map_map]
  have key : ∀ i, i < (c :: (R ++ [a])).length → (decide (turnAt (v :: c :: (R ++ [a])) ((c :: (R ++ [a])).length + 1) (i + 1) ≠ 0) = decide (turnAt (c :: (R ++ [a])) (c :: (R ++ [a])).length i ≠ 0)) := by
    intro i hi
    rw [decide_eq_decide]
    refine not_congr ?_
    rw [turnAt_zero, turnAt_zero, hn]
    rw [hn] at hi
    have e1 : (i + 1 + (R.length + 2 + 1) - 1) % (R.length + 2 + 1) = i := by
      rw [show i + 1 + (R.length + 2 + 1) - 1 = i + (R.length + 2 + 1) from by omega, Nat.add_mod_right, Nat.mod_eq_of_lt (by omega)]
    rw [e1, ptAt_cons]
    have hRl : 0 < R.length := List.length_pos_iff.2 hR
    by_cases hi0 : i = 0
    · subst hi0
      have e2 : (0 + 1 + 1) % (R.length + 2 + 1) = 1 + 1 := Nat.mod_eq_of_lt (by omega)
      have e3 : (0 + (R.length + 2) - 1) % (R.length + 2) = R.length + 1 := by rw [Nat.mod_eq_of_lt (by omega)]; omega
      have e4 : (0 + 1) % (R.length + 2) = 1 := Nat.mod_eq_of_lt (by omega)
      rw [e2, e3, e4, ptAt_cons, ptAt_cons, ptAt_zero, ptAt_zero, ptAt_cons, ptAt_app]
      exact h1 _
    · obtain ⟨j, rfl⟩ : ∃ j, i = j + 1 := ⟨i - 1, by omega⟩
      have e3 : (j + 1 + (R.length + 2) - 1) % (R.length + 2) = j := by
        rw [show j + 1 + (R.length + 2) - 1 = j + (R.length + 2) from by omega, Nat.add_mod_right, Nat.mod_eq_of_lt (by omega)]
      rw [e3, ptAt_cons]
      by_cases hj : j = R.length
      · subst hj
        have e2 : (R.length + 1 + 1 + 1) % (R.length + 2 + 1) = 0 := by rw [show R.length + 1 + 1 + 1 = R.length + 2 + 1 from by omega, Nat.mod_self]
        have e4 : (R.length + 1 + 1) % (R.length + 2) = 0 := by rw [show R.length + 1 + 1 = R.length + 2 from by omega, Nat.mod_self]
        rw [e2, e4, ptAt_zero, ptAt_zero, ptAt_cons, ptAt_app]
        exact h2 _
      · have e2 : (j + 1 + 1 + 1) % (R.length + 2 + 1) = (j + 2) + 1 := Nat.mod_eq_of_lt (by omega)
        have e4 : (j + 1 + 1) % (R.length + 2) = j + 2 := Nat.mod_eq_of_lt (by omega)
        rw [e2, e4, ptAt_cons v]
  have ef : (List.range (c :: (R ++ [a])).length).filter ((fun i => decide (turnAt (v :: c :: (R ++ [a])) ((c :: (R ++ [a])).length + 1) i ≠ 0)) ∘ (· + 1)) = (List.range (c :: (R ++ [a])).length).filter (fun i => decide (turnAt (c :: (R ++ [a])) (c :: (R ++ [a])).length i ≠ 0)) := by
    apply List.filter_congr
    intro i hi
    exact key i (List.mem_range.1 hi)
  rw [ef]
  apply List.map_congr_left
  intro i _
  exact ptAt_cons _ _ _
/-- a straight corner of a simple polygon is between its neighbours -/
theorem straight {v c a : P2} {R : List P2} (hs : Simp (v :: c :: (R ++ [a]))) (h0 : TT a v c = 0) : OnS v a c := by
  have e1 : (a, v) ∈ EE (v :: c :: (R ++ [a])) := by rw [front_E]; simp
  have e2 : (v, c) ∈ EE (v :: c :: (R ++ [a])) := by rw [front_E]; simp
  have nd := nd_ne hs.nd
  rcases col3 h0 with h | h | h
  · exact h
  · exact absurd h (hs.on _ e2 a (by simp) nd.2.1.symm nd.2.2.1.symm)
  · exact absurd (ons_swap h) (hs.on _ e1 c (by simp) nd.2.2.1 nd.1.symm)
theorem EE_short (c a : P2) : A2 [c, a] = 0 := by
  unfold A2; simp only [EE, steps, List.cons_append, List.nil_append, List.map_cons, List.map_nil, List.sum_cons, List.sum_nil, cr2]; grind
theorem A2_cut (v c a : P2) (R : List P2) : A2 (v :: c :: (R ++ [a])) = A2 (c :: (R ++ [a])) + TT a v c := by
  have e : EE (c :: (R ++ [a])) = steps (c :: (R ++ [a])) ++ [(a, c)] := by
    have : EE (c :: (R ++ [a])) = steps ((c :: R) ++ a :: [c]) := by simp [EE]
    rw [this, steps_cat]; simp [steps]
  unfold A2
  rw [front_E, e]
  simp only [List.map_cons, List.map_append, List.sum_cons, List.sum_append, List.map_nil, List.sum_nil, cr2]
  unfold TT; grind
theorem EE_cut (c a : P2) (R : List P2) : EE (c :: (R ++ [a])) = steps (c :: (R ++ [a])) ++ [(a, c)] := by
  have : EE (c :: (R ++ [a])) = steps ((c :: R) ++ a :: [c]) := by simp [EE]
  rw [this, steps_cat]; simp [steps]
/-- a straight corner can be struck -/
theorem simp_strike {v c a : P2} {R : List P2} (hb : Bnd (v :: c :: (R ++ [a]))) (hs : Simp (v :: c :: (R ++ [a]))) (h0 : TT a v c = 0) : R ≠ [] ∧ Simp (c :: (R ++ [a])) := by
  have hR : R ≠ [] := by
    rintro rfl
    refine simp_area hb hs ?_
    rw [A2_cut, h0]; simp only [List.nil_append]; rw [EE_short]; rfl
  have nd := nd_ne hs.nd
  have hst := straight hs h0
  obtain ⟨m, N, k0, k1, kx, ky⟩ := on_par hst nd.2.1.symm.symm nd.1
  have hv : ∀ u ∈ c :: (R ++ [a]), u ≠ v := by
    intro u hu e; subst e
    exact (List.nodup_cons.1 hs.nd).1 hu
  have em : ∀ e, e ∈ steps (c :: (R ++ [a])) → e ∈ EE (v :: c :: (R ++ [a])) := by
    intro e he; rw [front_E]; simp [he]
  have ea : (a, v) ∈ EE (v :: c :: (R ++ [a])) := by rw [front_E]; simp
  have ec : (v, c) ∈ EE (v :: c :: (R ++ [a])) := by rw [front_E]; simp
  have hcr : ∀ e, e ∈ steps (c :: (R ++ [a])) → ¬ Cr a c e.1 e.2 := by
    rintro ⟨x, y⟩ he h
    have := steps_mem he
    rcases cr_split k0 k1 kx ky h with g | g | g
    · exact hs.on _ (em _ he) v (by simp) (hv x this.1).symm (hv y this.2).symm g
    · exact hs.cr _ ea _ (em _ he) g
    · exact hs.cr _ ec _ (em _ he) g
  refine ⟨hR, (List.nodup_cons.1 hs.nd).2, ?_, ?_, ?_⟩
  · intro e he u hu h1 h2 h
    rw [EE_cut, List.mem_append, List.mem_singleton] at he
    rcases he with he | rfl
    · exact hs.on _ (em _ he) u (List.mem_cons_of_mem _ hu) h1 h2 h
    · rcases ons_split k0 k1 kx ky nd.2.2.1.symm h with g | g
      · exact hs.on _ ea u (List.mem_cons_of_mem _ hu) h1 (hv u hu) g
      · exact hs.on _ ec u (List.mem_cons_of_mem _ hu) (hv u hu) h2 g
  · intro e he f hf h
    rw [EE_cut, List.mem_append, List.mem_singleton] at he hf
    rcases he with he | rfl <;> rcases hf with hf | rfl
    · exact hs.cr _ (em _ he) _ (em _ hf) h
    · exact hcr _ he (cr_comm h)
    · exact hcr _ hf h
    · exact cr_self _ _ h
  · have := List.length_pos_iff.2 hR; simp; omega
theorem bends_self (m : List P2) (h : ∀ k, k < m.length → turnAt m m.length k ≠ 0) : normB m = m := by
  unfold normB
  rw [bendsTo_filter, List.filter_eq_self.2 (fun i hi => by simpa using h i (by simpa using hi))]
  apply List.ext_getElem (by simp)
  intro i h1 h2
  simp [ptAt_get m i h2]
/-- the bends of a simple polygon are a simple polygon -/
theorem simp_bends : ∀ n (l : List P2), l.length ≤ n → Bnd l → Simp l → Simp (normB l) := by
  intro n
  induction n with
  | zero => intro l h _ hs; have := hs.three; omega
  | succ n ih =>
    intro l hl hb hs
    by_cases hall : ∀ k, k < l.length → turnAt l l.length k ≠ 0
    · rw [bends_self l hall]; exact hs
    · obtain ⟨f, hf⟩ := Classical.not_forall.1 hall
      rw [not_imp, Classical.not_not] at hf
      obtain ⟨hf, ht⟩ := hf
      have hp : (rotL l f).Perm l := by unfold rotL; exact List.perm_append_comm.trans (by rw [List.take_append_drop])
      have he : (EE (rotL l f)).Perm (EE l) := by
        have := EE_rot (l.drop f) (l.take f); rw [List.take_append_drop] at this; exact this
      have hsr : Simp (rotL l f) := simp_perm hs hp.symm (fun e h => he.mem_iff.1 h)
      have hbr : Bnd (rotL l f) := fun v hv => hb v (hp.mem_iff.1 hv)
      have ht0 : turnAt (rotL l f) l.length 0 = 0 := by rw [turnAt_rot l f 0 (by omega) (by omega), Nat.add_zero, Nat.mod_eq_of_lt hf]; exact ht
      have hlen : (rotL l f).length = l.length := hp.length_eq
      have hback : Simp (normB (rotL l f)) → Simp (normB l) := by
        intro h
        rw [normB_rot l f (by omega)] at h
        rw [normB_split l f (by omega)]
        exact simp_perm h List.perm_append_comm (fun e he => (EE_rot _ _).mem_iff.1 he)
      refine hback ?_
      rw [← hlen] at ht0 hl
      generalize rotL l f = M at *
      have h3 := hsr.three
      match M, h3 with
      | v :: c :: M', h3 =>
        rcases List.eq_nil_or_concat M' with rfl | ⟨R, a, rfl⟩
        · simp at h3
        · rw [List.concat_eq_append] at *
          rw [turnAt_zero] at ht0
          have e1 : (0 + (v :: c :: (R ++ [a])).length - 1) % (v :: c :: (R ++ [a])).length = (R.length + 1) + 1 := by rw [Nat.mod_eq_of_lt] <;> simp
          have e2 : (0 + 1) % (v :: c :: (R ++ [a])).length = 0 + 1 := by rw [Nat.mod_eq_of_lt]; simp
          rw [e1, e2, ptAt_cons, ptAt_cons, ptAt_cons, ptAt_zero, ptAt_zero, ptAt_app] at ht0
          obtain ⟨hR, hs2⟩ := simp_strike hbr hsr ht0
          have nd := nd_ne hsr.nd
          obtain ⟨m, N, k0, k1, kx, ky⟩ := on_par (straight hsr ht0) nd.2.1 nd.1
          have f1 : ∀ u, TT v c u = 0 ↔ TT a c u = 0 := fun u => by
            have := par_tt kx ky c u
            rw [(tt_self c u).1, Int.mul_zero, Int.add_zero] at this
            have g1 : TT c u v = TT v c u := by unfold TT; grind
            have g2 : TT c u a = TT a c u := by unfold TT; grind
            rw [g1, g2] at this
            constructor <;> intro h
            · rw [h, Int.mul_zero] at this
              exact (Int.mul_eq_zero.1 this.symm).resolve_left (by omega)
            · rw [h, Int.mul_zero] at this
              exact (Int.mul_eq_zero.1 this).resolve_left (by omega)
          have f2 : ∀ u, TT u a v = 0 ↔ TT u a c = 0 := fun u => by
            have := par_tt kx ky u a
            rw [(tt_self u a).2.1, Int.mul_zero, Int.zero_add] at this
            constructor <;> intro h
            · rw [h, Int.mul_zero] at this
              exact (Int.mul_eq_zero.1 this.symm).resolve_left (by omega)
            · rw [h, Int.mul_zero] at this
              exact (Int.mul_eq_zero.1 this).resolve_left (by omega)
          rw [normB_drop ht0 f1 f2 nd.2.2.1.symm hR]
          exact ih _ (by simp at hl ⊢; omega) (fun u hu => hbr u (List.mem_cons_of_mem _ hu)) hs2
theorem steps_idx : ∀ L : List P2, steps L = (List.range (L.length - 1)).map fun k => (ptAt L k, ptAt L (k + 1))
  | [] => rfl
  | [_] => rfl
  | a :: b :: r => by
    rw [steps, steps_idx (b :: r)]
    simp only [List.length_cons, Nat.add_sub_cancel]
    rw [range_cons, List.map_cons, List.map_map]
    congr 1
theorem nx {n i : Nat} (h : i < n) : (i + 1) % n = if i + 1 = n then 0 else i + 1 := by
  split
  · rename_i e; rw [e, Nat.mod_self]
  · exact Nat.mod_eq_of_lt (by omega)
theorem EE_idx (l : List P2) : EE l = (List.range l.length).map fun k => (ptAt l k, ptAt l ((k + 1) % l.length)) := by
  cases l with
  | nil => rfl
  | cons a r =>
    rw [EE, steps_idx]
    have e : (a :: (r ++ [a])).length - 1 = (a :: r).length := by simp
    rw [e]
    apply List.map_congr_left
    intro k hk
    have hk := List.mem_range.1 hk
    simp only [List.length_cons] at hk
    have e1 : ptAt (a :: (r ++ [a])) k = ptAt (a :: r) k := by
      cases k with
      | zero => rw [ptAt_zero, ptAt_zero]
      | succ k => rw [ptAt_cons, ptAt_cons, ptAt_get _ _ (by simp; omega), ptAt_get _ _ (by omega), List.getElem_append_left]
    have e2 : ptAt (a :: (r ++ [a])) (k + 1) = ptAt (a :: r) ((k + 1) % (a :: r).length) := by
      rw [nx (by simpa using hk), ptAt_cons]
      split
      · rename_i h
        have : k = r.length := by simpa using h
        subst this; rw [ptAt_app, ptAt_zero]
      · rename_i h
        have : k < r.length := by simp at h; omega
        rw [ptAt_cons, ptAt_get _ _ (by simp; omega), ptAt_get _ _ this, List.getElem_append_left]
    rw [e1, e2]
theorem EE_mem {l : List P2} {e : P2 × P2} : e ∈ EE l ↔ ∃ k, k < l.length ∧ e = (ptAt l k, ptAt l ((k + 1) % l.length)) := by
  rw [EE_idx, List.mem_map]
  constructor
  · rintro ⟨k, hk, rfl⟩; exact ⟨k, List.mem_range.1 hk, rfl⟩
  · rintro ⟨k, hk, rfl⟩; exact ⟨k, List.mem_range.2 hk, rfl⟩
theorem pt_mem {l : List P2} {v : P2} : v ∈ l ↔ ∃ k, k < l.length ∧ v = ptAt l k := by
  constructor
  · intro h
    obtain ⟨k, hk, e⟩ := List.getElem_of_mem h
    exact ⟨k, hk, by rw [ptAt_get l k hk, e]⟩
  · rintro ⟨k, hk, rfl⟩; rw [ptAt_get l k hk]; exact List.getElem_mem hk
theorem cross_A2 (l : List P2) : crossTo (edgesL l) l.length = A2 l := by
  have h : ∀ k, k ≤ l.length → crossTo (edgesL l) k = (((List.range k).map fun k => (ptAt l k, ptAt l ((k + 1) % l.length))).map cr2).sum := by
    intro k
    induction k with
    | zero => intro _; rfl
    | succ k ih =>
      intro hk
      rw [crossTo, ih (by omega), List.range_succ, List.map_append, List.map_append, List.sum_append]
      obtain ⟨h1, h2, h3, h4⟩ := edgesL_at l k (by omega)
      rw [h1, h2, h3, h4]
      simp [cr2, ptAt]
  rw [h _ (Nat.le_refl _), ← EE_idx]; rfl
theorem turn_sgn (a b c : P2) : turnI a.1 a.2 b.1 b.2 c.1 c.2 = Int.sign (TT a b c) := turnI_sign _ _ _ _ _ _
theorem sgn_neg (x y : Int) : Int.sign x * Int.sign y < 0 ↔ x * y < 0 := by
  rw [← Int.sign_mul]; exact Int.sign_neg_iff
theorem cr_turn (a b c d : P2) : Cr a b c d ↔ (turnI a.1 a.2 b.1 b.2 c.1 c.2 * turnI a.1 a.2 b.1 b.2 d.1 d.2 < 0 ∧ turnI c.1 c.2 d.1 d.2 a.1 a.2 * turnI c.1 c.2 d.1 d.2 b.1 b.2 < 0) := by
  unfold Cr; rw [turn_sgn, turn_sgn, turn_sgn, turn_sgn, sgn_neg, sgn_neg]
theorem onR_on (p a b : P2) : onR p.1 p.2 a.1 a.2 b.1 b.2 = true ↔ OnS p a b := by
  unfold onR btwB OnS
  rw [turn_sgn]
  simp only [Bool.and_eq_true, decide_eq_true_eq, beq_iff_eq, Int.sign_eq_zero_iff_zero]
  constructor
  · rintro ⟨⟨h1, h2⟩, h3⟩; exact ⟨h3, h1, h2⟩
  · rintro ⟨h3, h1, h2⟩; exact ⟨⟨h1, h2⟩, h3⟩
abbrev Sg := P2 × P2
def bothP (e f : Sg) (p : P2) : Prop := OnS p e.1 e.2 ∧ OnS p f.1 f.2
theorem both_iff (e f : Sg) (p : P2) : bothB e.1.1 e.1.2 e.2.1 e.2.2 f.1.1 f.1.2 f.2.1 f.2.2 p = true ↔ bothP e f p := by
  unfold bothB bothP
  rw [Bool.and_eq_true, onR_on p e.1 e.2, onR_on p f.1 f.2]
def isEnd (e f : Sg) (p : P2) : Prop := p = e.1 ∨ p = e.2 ∨ p = f.1 ∨ p = f.2
def endsP (e f : Sg) : List P2 := endsL e.1.1 e.1.2 e.2.1 e.2.2 f.1.1 f.1.2 f.2.1 f.2.2
theorem endsP_mem {e f : Sg} (h1 : e.1 ≠ e.2) (h2 : f.1 ≠ f.2) (p : P2) : p ∈ endsP e f ↔ isEnd e f p ∧ bothP e f p := by
  obtain ⟨⟨a, b⟩, c, d⟩ := e
  obtain ⟨⟨u, v⟩, w, x⟩ := f
  have k1 : ¬ (a = c ∧ b = d) := fun h => h1 (by simp [h.1, h.2])
  have k2 : ¬ (u = w ∧ v = x) := fun h => h2 (by simp [h.1, h.2])
  constructor
  · intro h
    obtain ⟨g1, g2⟩ := ends_sub k1 k2 p h
    exact ⟨g1, (both_iff ((a, b), (c, d)) ((u, v), (w, x)) p).1 g2⟩
  · rintro ⟨g1, g2⟩
    exact ends_mem k1 k2 p g1 ((both_iff ((a, b), (c, d)) ((u, v), (w, x)) p).2 g2)
theorem endsP_nodup (e f : Sg) : (endsP e f).Nodup := by
  unfold endsP endsL
  have step : ∀ (o : List P2) (p : P2), o.Nodup → (endStep e.1.1 e.1.2 e.2.1 e.2.2 f.1.1 f.1.2 f.2.1 f.2.2 o p).Nodup := by
    intro o p ho
    unfold endStep
    split
    · rename_i h
      simp only [Bool.and_eq_true, Bool.not_eq_true', List.contains_eq_mem, decide_eq_false_iff_not] at h
      rw [List.nodup_append]
      refine ⟨ho, by simp, ?_⟩
      intro a ha b hb; simp at hb; subst hb
      rintro rfl; exact h.2 ha
    · exact ho
  simp only [List.foldl_cons, List.foldl_nil]
  exact step _ _ (step _ _ (step _ _ (step _ _ List.nodup_nil)))
def meetP (e f : Sg) : Int := meetR e.1.1 e.1.2 e.2.1 e.2.2 f.1.1 f.1.2 f.2.1 f.2.2
theorem meetP_none {e f : Sg} (h1 : e.1 ≠ e.2) (h2 : f.1 ≠ f.2) : meetP e f = 0 ↔ (∀ p, isEnd e f p → ¬ bothP e f p) ∧ ¬ Cr e.1 e.2 f.1 f.2 := by
  have hm := endsP_mem h1 h2
  unfold meetP meetR meetOf
  show (match endsP e f with | [] => _ | [p] => _ | _ => _) = (0 : Int) ↔ _
  rw [cr_turn]
  cases hE : endsP e f with
  | nil =>
    simp only
    have n : ∀ p, isEnd e f p → ¬ bothP e f p := fun p a b => by have := (hm p).2 ⟨a, b⟩; rw [hE] at this; simp at this
    constructor
    · intro h; refine ⟨n, fun g => ?_⟩; rw [if_pos g] at h; simp at h
    · rintro ⟨_, g⟩; rw [if_neg g]
  | cons p t =>
    have hp := (hm p).1 (by rw [hE]; simp)
    cases t with
    | nil =>
      simp only
      constructor
      · intro h; split at h <;> simp at h
      · rintro ⟨g, _⟩; exact absurd hp.2 (g p hp.1)
    | cons q t =>
      simp only
      constructor
      · intro h; simp at h
      · rintro ⟨g, _⟩; exact absurd hp.2 (g p hp.1)
theorem meetP_one {e f : Sg} (h1 : e.1 ≠ e.2) (h2 : f.1 ≠ f.2) : meetP e f = 1 ↔ ∃ p, (p = e.1 ∨ p = e.2) ∧ (p = f.1 ∨ p = f.2) ∧ (∀ u, isEnd e f u → bothP e f u → u = p) ∧ bothP e f p := by
  have hm := endsP_mem h1 h2
  have hn := endsP_nodup e f
  unfold meetP meetR meetOf
  show (match endsP e f with | [] => _ | [p] => _ | _ => _) = (1 : Int) ↔ _
  cases hE : endsP e f with
  | nil =>
    simp only
    constructor
    · intro h; split at h <;> simp at h
    · rintro ⟨p, g1, g2, g3, g4⟩
      have := (hm p).2 ⟨by unfold isEnd; rcases g1 with g | g <;> simp [g], g4⟩
      rw [hE] at this; simp at this
  | cons p t =>
    have hp := (hm p).1 (by rw [hE]; simp)
    cases t with
    | nil =>
      simp only
      constructor
      · intro h
        split at h
        · rename_i g
          refine ⟨p, g.1, g.2, fun u a b => ?_, hp.2⟩
          have := (hm u).2 ⟨a, b⟩; rw [hE] at this; simpa using this
        · simp at h
      · rintro ⟨q, g1, g2, g3, g4⟩
        have := g3 p hp.1 hp.2
        subst this
        rw [if_pos ⟨g1, g2⟩]
    | cons q t =>
      simp only
      constructor
      · intro h; simp at h
      · rintro ⟨r, g1, g2, g3, g4⟩
        have hq := (hm q).1 (by rw [hE]; simp)
        have a1 := g3 p hp.1 hp.2
        have a2 := g3 q hq.1 hq.2
        rw [hE] at hn
        simp [a1, a2] at hn
def eAt (l : List P2) (k : Nat) : Sg := (ptAt l k, ptAt l ((k + 1) % l.length))
theorem meetE_P {l : List P2} {i j : Nat} (hi : i < l.length) (hj : j < l.length) (hok : okL l = true) (ni : ptAt l i ≠ ptAt l ((i + 1) % l.length)) (nj : ptAt l j ≠ ptAt l ((j + 1) % l.length)) :
    meetE (edgesL l) i j = meetP (eAt l i) (eAt l j) := by
  obtain ⟨a1, a2, a3, a4⟩ := edgesL_at l i hi
  obtain ⟨b1, b2, b3, b4⟩ := edgesL_at l j hj
  unfold meetE meetP eAt ptAt
  rw [a1, a2, a3, a4, b1, b2, b3, b4]
  refine (meet_eq ?_ ?_).symm
  · have x := okL_bd hok i; have y := okL_bd hok ((i + 1) % l.length)
    exact okS_iff.2 ⟨⟨x.1, x.2⟩, ⟨y.1, y.2⟩, fun h => ni (by unfold ptAt; rw [h.1, h.2])⟩
  · have x := okL_bd hok j; have y := okL_bd hok ((j + 1) % l.length)
    exact okS_iff.2 ⟨⟨x.1, x.2⟩, ⟨y.1, y.2⟩, fun h => nj (by unfold ptAt; rw [h.1, h.2])⟩
theorem bothP_comm {e f : Sg} {p : P2} (h : bothP e f p) : bothP f e p := ⟨h.2, h.1⟩
theorem ons_end1 (a b : P2) : OnS a a b := ⟨(tt_self a b).1, by omega, by omega⟩
theorem ons_end2 (a b : P2) : OnS b a b := ⟨(tt_self a b).2.1, by omega, by omega⟩
theorem pt_inj {l : List P2} (nd : l.Nodup) {i j : Nat} (hi : i < l.length) (hj : j < l.length) (h : ptAt l i = ptAt l j) : i = j := by
  rw [ptAt_get l i hi, ptAt_get l j hj] at h
  exact (List.getElem_inj nd).1 h
theorem nx_lt {n i : Nat} (h : i < n) : (i + 1) % n < n := Nat.mod_lt _ (by omega)
theorem rep_nd {l : List P2} (h : repI l = false) : l.Nodup := by
  rw [List.Nodup, List.pairwise_iff_getElem]
  intro i j hi hj hij e
  have e' : ptAt l i = ptAt l j := by rw [ptAt_get l i hi, ptAt_get l j hj, e]
  unfold ptAt at e'
  simp only [Prod.mk.injEq] at e'
  have := rep_no h hi hj e'.1 e'.2
  omega
theorem nd_rep {l : List P2} (hok : okL l = true) (nd : l.Nodup) : repI l = false :=
  rep_none1 hok fun i j hij hi h => by
    have := pt_inj nd hi (show j < l.length by omega) (by unfold ptAt; rw [h.1, h.2])
    omega
/-- what CheckPoly accepts is a simple polygon -/
theorem poly_simp {l : List P2} (h : polyI l = 0) : Simp l := by
  obtain ⟨hck, h3, hr, ha⟩ := polyI_ok h
  obtain ⟨_, hok⟩ := ckPts_zero hck
  have nd : l.Nodup := rep_nd hr
  have rows := (apartB_iff l).1 ha
  have ne1 : ∀ k, k < l.length → ptAt l k ≠ ptAt l ((k + 1) % l.length) := fun k hk e => by
    have := pt_inj nd hk (nx_lt hk) e
    rw [nx hk] at this; split at this <;> omega
  have val : ∀ i j, i < j → j < l.length → meetP (eAt l i) (eAt l j) = wantI l.length i j := fun i j hij hj => by
    rw [← meetE_P (by omega) hj hok (ne1 i (by omega)) (ne1 j hj)]
    exact rows i (by omega) j hij hj
  -- a common end of two edges is a common corner
  have com : ∀ i j, i < j → j < l.length → ∀ u, isEnd (eAt l i) (eAt l j) u → bothP (eAt l i) (eAt l j) u → (u = ptAt l i ∨ u = ptAt l ((i + 1) % l.length)) ∧ (u = ptAt l j ∨ u = ptAt l ((j + 1) % l.length)) := by
    intro i j hij hj u hu hb
    have v := val i j hij hj
    unfold wantI at v
    split at v
    · obtain ⟨p, g1, g2, g3, g4⟩ := (meetP_one (ne1 i (by omega)) (ne1 j hj)).1 v
      rw [g3 u hu hb]; exact ⟨g1, g2⟩
    · exact absurd hb (((meetP_none (ne1 i (by omega)) (ne1 j hj)).1 v).1 u hu)
  refine ⟨nd, ?_, ?_, by omega⟩
  · intro e he v hv h1 h2 hon
    obtain ⟨i, hi, rfl⟩ := EE_mem.1 he
    obtain ⟨j, hj, rfl⟩ := pt_mem.1 hv
    rcases Nat.lt_trichotomy i j with g | g | g
    · have := com i j g hj (ptAt l j) (Or.inr (Or.inr (Or.inl rfl))) ⟨hon, ons_end1 _ _⟩
      rcases this.1 with e | e
      · exact h1 e
      · exact h2 e
    · subst g; exact h1 rfl
    · have := com j i g hi (ptAt l j) (Or.inl rfl) ⟨ons_end1 _ _, hon⟩
      rcases this.2 with e | e
      · exact h1 e
      · exact h2 e
  · intro e he f hf hc
    obtain ⟨i, hi, rfl⟩ := EE_mem.1 he
    obtain ⟨j, hj, rfl⟩ := EE_mem.1 hf
    have main : ∀ i j, i < j → j < l.length → ¬ Cr (ptAt l i) (ptAt l ((i + 1) % l.length)) (ptAt l j) (ptAt l ((j + 1) % l.length)) := by
      intro i j hij hj hc
      have v := val i j hij hj
      unfold wantI at v
      split at v
      · obtain ⟨p, g1, g2, g3, g4⟩ := (meetP_one (ne1 i (by omega)) (ne1 j hj)).1 v
        have z : TT (ptAt l i) (ptAt l ((i + 1) % l.length)) p = 0 := g4.1.1
        have := hc.1
        unfold eAt at g2
        rcases g2 with g | g <;> (subst g; simp only at z; rw [z] at this; simp at this)
      · exact ((meetP_none (ne1 i (by omega)) (ne1 j hj)).1 v).2 hc
    rcases Nat.lt_trichotomy i j with g | g | g
    · exact main i j g hj hc
    · subst g; exact cr_self _ _ hc
    · exact main j i g hi (cr_comm hc)
/-- a simple polygon is accepted by CheckPoly -/
theorem simp_poly {l : List P2} (hok : okL l = true) (hl : l.length ≤ 200) (hs : Simp l) : polyI l = 0 := by
  have h3 := hs.three
  have nd := hs.nd
  have ne1 : ∀ k, k < l.length → ptAt l k ≠ ptAt l ((k + 1) % l.length) := fun k hk e => by
    have := pt_inj nd hk (nx_lt hk) e
    rw [nx hk] at this; split at this <;> omega
  have hck : ckPts l 200 = 0 := by unfold ckPts; rw [if_neg (by omega), if_pos hok]
  have hr : repI l = false := nd_rep hok nd
  refine (poly_4 hck (by omega) hr ((apartB_iff l).2 ?_)).symm
  intro i hi j hij hj
  rw [meetE_P hi hj hok (ne1 i hi) (ne1 j hj)]
  have hEi : eAt l i ∈ EE l := EE_mem.2 ⟨i, hi, rfl⟩
  have hEj : eAt l j ∈ EE l := EE_mem.2 ⟨j, hj, rfl⟩
  have com : ∀ u, isEnd (eAt l i) (eAt l j) u → bothP (eAt l i) (eAt l j) u → (u = ptAt l i ∨ u = ptAt l ((i + 1) % l.length)) ∧ (u = ptAt l j ∨ u = ptAt l ((j + 1) % l.length)) := by
    intro u hu hb
    have hm : u ∈ l := by
      rcases hu with g | g | g | g <;> rw [g]
      · exact pt_mem.2 ⟨i, hi, rfl⟩
      · exact pt_mem.2 ⟨_, nx_lt hi, rfl⟩
      · exact pt_mem.2 ⟨j, hj, rfl⟩
      · exact pt_mem.2 ⟨_, nx_lt hj, rfl⟩
    constructor
    · by_cases g1 : u = ptAt l i
      · exact Or.inl g1
      · by_cases g2 : u = ptAt l ((i + 1) % l.length)
        · exact Or.inr g2
        · exact absurd hb.1 (hs.on _ hEi u hm g1 g2)
    · by_cases g1 : u = ptAt l j
      · exact Or.inl g1
      · by_cases g2 : u = ptAt l ((j + 1) % l.length)
        · exact Or.inr g2
        · exact absurd hb.2 (hs.on _ hEj u hm g1 g2)
  by_cases hadj : j = i + 1 ∨ (i = 0 ∧ j + 1 = l.length)
  · rw [want_1 hadj, meetP_one (ne1 i hi) (ne1 j hj)]
    rcases hadj with hadj | hadj
    · have e1 : (i + 1) % l.length = j := by rw [nx hi, if_neg (by omega)]; omega
      refine ⟨ptAt l j, Or.inr (by unfold eAt; rw [e1]), Or.inl rfl, ?_, ?_⟩
      · intro u hu hb
        obtain ⟨a, b⟩ := com u hu hb
        rw [e1] at a
        rcases a with a | a
        · rcases b with b | b
          · exact b
          · exfalso
            have := pt_inj nd hi (nx_lt hj) (a.symm.trans b)
            rw [nx hj] at this; split at this <;> omega
        · exact a
      · unfold bothP eAt; rw [e1]; exact ⟨ons_end2 _ _, ons_end1 _ _⟩
    · have e1 : (j + 1) % l.length = i := by rw [nx hj, if_pos hadj.2]; omega
      refine ⟨ptAt l i, Or.inl rfl, Or.inr (by unfold eAt; rw [e1]), ?_, ?_⟩
      · intro u hu hb
        obtain ⟨a, b⟩ := com u hu hb
        rw [e1] at b
        rcases b with b | b
        · rcases a with a | a
          · exact a
          · exfalso
            have := pt_inj nd hj (nx_lt hi) (b.symm.trans a)
            rw [nx hi] at this; split at this <;> omega
        · exact b
      · unfold bothP eAt; rw [e1]; exact ⟨ons_end1 _ _, ons_end2 _ _⟩
  · rw [want_0 hadj, meetP_none (ne1 i hi) (ne1 j hj)]
    refine ⟨?_, hs.cr _ hEi _ hEj⟩
    intro u hu hb
    obtain ⟨a, b⟩ := com u hu hb
    have ni := nx hi
    have nj := nx hj
    rcases a with a | a <;> rcases b with b | b
    · have := pt_inj nd hi hj (a.symm.trans b); omega
    · have := pt_inj nd hi (nx_lt hj) (a.symm.trans b)
      rw [nj] at this; split at this <;> omega
    · have := pt_inj nd (nx_lt hi) hj (a.symm.trans b)
      rw [ni] at this; split at this <;> omega
    · have := pt_inj nd (nx_lt hi) (nx_lt hj) (a.symm.trans b)
      rw [ni, nj] at this; split at this <;> split at this <;> omega
def NoStr (l : List P2) : Prop := ∀ v t, At l v t → t ≠ 0
theorem noStr_perm {l l' : List P2} (he : (EE l').Perm (EE l)) (h : NoStr l) : NoStr l' := fun v t hv => h v t (at_perm he hv)
theorem at_idx (l : List P2) {k : Nat} (hk : k < l.length) : At l (ptAt l k) (TT (ptAt l ((k + l.length - 1) % l.length)) (ptAt l k) (ptAt l ((k + 1) % l.length))) :=
  ⟨_, _, EE_mem.2 ⟨(k + l.length - 1) % l.length, Nat.mod_lt _ (by omega), by rw [prev_next hk]⟩, EE_mem.2 ⟨k, hk, rfl⟩, rfl⟩
theorem noStr_turn {l : List P2} (h : NoStr l) {k : Nat} (hk : k < l.length) : turnAt l l.length k ≠ 0 := fun e => h _ _ (at_idx l hk) ((turnAt_zero l l.length k).1 e)
theorem turn_noStr {l : List P2} (nd : l.Nodup) (h : ∀ k, k < l.length → turnAt l l.length k ≠ 0) : NoStr l := by
  rintro v t ⟨p, q, h1, h2, rfl⟩ e
  obtain ⟨i, hi, e1⟩ := EE_mem.1 h1
  obtain ⟨k, hk, e2⟩ := EE_mem.1 h2
  simp only [Prod.mk.injEq] at e1 e2
  have hik : (i + 1) % l.length = k := pt_inj nd (nx_lt hi) hk (e1.2.symm.trans e2.1)
  refine h k hk ((turnAt_zero l l.length k).2 ?_)
  have : (k + l.length - 1) % l.length = i := by
    rw [← hik, nx hi]; split
    · rw [Nat.mod_eq_of_lt] <;> omega
    · rw [show i + 1 + l.length - 1 = i + l.length from by omega, Nat.add_mod_right, Nat.mod_eq_of_lt hi]
  rw [this, ← e1.1, ← e2.1, ← e2.2]; exact e
theorem noStr_rev {l : List P2} (h : NoStr l) : NoStr l.reverse := fun v t hv => by
  have := at_rev hv; rw [List.reverse_reverse] at this
  have := h v _ this; omega
theorem rot_EE (l : List P2) (f : Nat) : (EE (rotL l f)).Perm (EE l) := by
  have := EE_rot (l.drop f) (l.take f); rw [List.take_append_drop] at this; exact this
theorem rot_perm (l : List P2) (f : Nat) : (rotL l f).Perm l := by unfold rotL; exact List.perm_append_comm.trans (by rw [List.take_append_drop])
theorem simp_rot {l : List P2} (hs : Simp l) (f : Nat) : Simp (rotL l f) := simp_perm hs (rot_perm l f).symm (fun e h => (rot_EE l f).mem_iff.1 h)
theorem bends_noStr : ∀ n (l : List P2), l.length ≤ n → Bnd l → Simp l → NoStr (normB l) := by
  intro n
  induction n with
  | zero => intro l h _ hs; have := hs.three; omega
  | succ n ih =>
    intro l hl hb hs
    by_cases hall : ∀ k, k < l.length → turnAt l l.length k ≠ 0
    · rw [bends_self l hall]; exact turn_noStr hs.nd hall
    · obtain ⟨f, hf⟩ := Classical.not_forall.1 hall
      rw [not_imp, Classical.not_not] at hf
      obtain ⟨hf, ht⟩ := hf
      have hp := rot_perm l f
      have hsr := simp_rot hs f
      have hbr : Bnd (rotL l f) := fun v hv => hb v (hp.mem_iff.1 hv)
      have ht0 : turnAt (rotL l f) l.length 0 = 0 := by rw [turnAt_rot l f 0 (by omega) (by omega), Nat.add_zero, Nat.mod_eq_of_lt hf]; exact ht
      have hlen : (rotL l f).length = l.length := hp.length_eq
      have hback : NoStr (normB (rotL l f)) → NoStr (normB l) := by
        intro h
        rw [normB_rot l f (by omega)] at h
        rw [normB_split l f (by omega)]
        exact noStr_perm (EE_rot _ _) h
      refine hback ?_
      rw [← hlen] at ht0 hl
      generalize rotL l f = M at *
      have h3 := hsr.three
      match M, h3 with
      | v :: c :: M', h3 =>
        rcases List.eq_nil_or_concat M' with rfl | ⟨R, a, rfl⟩
        · simp at h3
        · rw [List.concat_eq_append] at *
          rw [turnAt_zero] at ht0
          have e1 : (0 + (v :: c :: (R ++ [a])).length - 1) % (v :: c :: (R ++ [a])).length = (R.length + 1) + 1 := by rw [Nat.mod_eq_of_lt] <;> simp
          have e2 : (0 + 1) % (v :: c :: (R ++ [a])).length = 0 + 1 := by rw [Nat.mod_eq_of_lt]; simp
          rw [e1, e2, ptAt_cons, ptAt_cons, ptAt_cons, ptAt_zero, ptAt_zero, ptAt_app] at ht0
          obtain ⟨hR, hs2⟩ := simp_strike hbr hsr ht0
          have nd := nd_ne hsr.nd
          obtain ⟨m, N, k0, k1, kx, ky⟩ := on_par (straight hsr ht0) nd.2.1 nd.1
          have f1 : ∀ u, TT v c u = 0 ↔ TT a c u = 0 := fun u => by
            have := par_tt kx ky c u
            rw [(tt_self c u).1, Int.mul_zero, Int.add_zero] at this
            have g1 : TT c u v = TT v c u := by unfold TT; grind
            have g2 : TT c u a = TT a c u := by unfold TT; grind
            rw [g1, g2] at this
            constructor <;> intro h
            · rw [h, Int.mul_zero] at this
              exact (Int.mul_eq_zero.1 this.symm).resolve_left (by omega)
            · rw [h, Int.mul_zero] at this
              exact (Int.mul_eq_zero.1 this).resolve_left (by omega)
          have f2 : ∀ u, TT u a v = 0 ↔ TT u a c = 0 := fun u => by
            have := par_tt kx ky u a
            rw [(tt_self u a).2.1, Int.mul_zero, Int.zero_add] at this
            constructor <;> intro h
            · rw [h, Int.mul_zero] at this
              exact (Int.mul_eq_zero.1 this.symm).resolve_left (by omega)
            · rw [h, Int.mul_zero] at this
              exact (Int.mul_eq_zero.1 this).resolve_left (by omega)
          rw [normB_drop ht0 f1 f2 nd.2.2.1.symm hR]
          exact ih _ (by simp at hl ⊢; omega) (fun u hu => hbr u (List.mem_cons_of_mem _ hu)) hs2
theorem okL_bnd {l : List P2} (h : okL l = true) : Bnd l := by
  intro v hv
  have := List.all_eq_true.1 h v hv
  have := okP_iff.1 this
  omega
theorem okL_mem {l l' : List P2} (h : okL l = true) (hm : ∀ v ∈ l', v ∈ l) : okL l' = true := by
  unfold okL at *
  rw [List.all_eq_true] at h ⊢
  exact fun v hv => h v (hm v hv)
theorem areaI_A2 {l : List P2} (hok : okL l = true) (hl : l.length ≤ 400) : areaI l = A2 l := by
  unfold areaI
  rw [if_pos (by unfold ckPts; rw [if_neg (by omega), if_pos hok]), cross_A2]
theorem bends_mem {l : List P2} {v : P2} (h : v ∈ normB l) : v ∈ l := by
  unfold normB at h
  rw [bendsTo_filter] at h
  obtain ⟨k, hk, rfl⟩ := List.mem_map.1 h
  have := List.mem_range.1 (List.mem_filter.1 hk).1
  exact pt_mem.2 ⟨k, this, rfl⟩
theorem bends_len (l : List P2) : (normB l).length ≤ l.length := by
  unfold normB
  rw [bendsTo_filter, List.length_map]
  exact Nat.le_trans (List.length_filter_le _ _) (by simp)
theorem list_ext_pt {l l' : List P2} (h : l.length = l'.length) (he : ∀ i, i < l.length → ptAt l i = ptAt l' i) : l = l' := by
  apply List.ext_getElem h
  intro i h1 h2
  have := he i h1
  rwa [ptAt_get l i h1, ptAt_get l' i h2] at this
theorem rot_pt (l : List P2) {f i : Nat} (hf : f ≤ l.length) (hi : i < l.length) : ptAt (rotL l f) i = ptAt l ((f + i) % l.length) := by
  obtain ⟨h1, h2⟩ := rot_at l f i hf hi
  unfold ptAt; rw [h1, h2]
theorem rot_rot (m : List P2) {f g : Nat} (hf : f < m.length) (hg : g < m.length) : rotL (rotL m f) g = rotL m ((f + g) % m.length) := by
  have hm : (f + g) % m.length < m.length := Nat.mod_lt _ (by omega)
  have l1 := rotL_len m f (by omega)
  apply list_ext_pt
  · rw [rotL_len _ _ (by omega), l1, rotL_len m _ (by omega)]
  · intro i hi
    rw [rotL_len _ _ (by omega), l1] at hi
    rw [rot_pt _ (by omega) (by omega), l1, rot_pt _ (by omega) (Nat.mod_lt _ (by omega)), rot_pt _ (by omega) hi]
    congr 1
    rw [Nat.add_mod_mod, Nat.mod_add_mod]
    congr 1; omega
theorem rot_zero (m : List P2) : rotL m 0 = m := by simp [rotL]
/-- turned so that the least corner comes first, whatever it began with -/
theorem rot_least {m : List P2} (hok : okL m = true) (nd : m.Nodup) {f : Nat} (hf : f < m.length) : rotL (rotL m f) (leastTo (rotL m f) (rotL m f).length) = rotL m (leastTo m m.length) := by
  have l1 := rotL_len m f (by omega)
  have nd' : (rotL m f).Nodup := (rot_perm m f).nodup_iff.2 nd
  obtain ⟨a1, a2⟩ := least_lt (nd_rep (okL_mem hok fun v hv => (rot_perm m f).mem_iff.1 hv) nd') (by omega)
  obtain ⟨b1, b2⟩ := least_lt (nd_rep hok nd) (by omega)
  generalize leastTo (rotL m f) (rotL m f).length = g at *
  rw [l1] at a1 a2
  rw [rot_rot m hf a1]
  congr 1
  refine Classical.byContradiction fun hne => ?_
  have hm : (f + g) % m.length < m.length := Nat.mod_lt _ (by omega)
  have c1 := b2 _ hm hne
  -- where the least of m lies in the turned list
  obtain ⟨i, hi, e⟩ : ∃ i, i < m.length ∧ (f + i) % m.length = leastTo m m.length := by
    refine ⟨(leastTo m m.length + (m.length - f)) % m.length, Nat.mod_lt _ (by omega), ?_⟩
    rw [Nat.add_mod_mod, show f + (leastTo m m.length + (m.length - f)) = leastTo m m.length + m.length from by omega, Nat.add_mod_right, Nat.mod_eq_of_lt b1]
  have hig : i ≠ g := by rintro rfl; exact hne e
  have c2 := a2 i hi hig
  rw [rot_pt m (by omega) a1, rot_pt m (by omega) hi, e] at c2
  unfold lexLt at c1 c2; omega
/-- the normal form of a turned list -/
theorem norm_rot {l : List P2} (h : polyI l = 0) {f : Nat} (hf : f < l.length) : polyI (rotL l f) = 0 ∧ normL (rotL l f) = normL l := by
  have hs := poly_simp h
  obtain ⟨hck, h3, hr, ha⟩ := polyI_ok h
  obtain ⟨hl, hok⟩ := ckPts_zero hck
  have l1 := rotL_len l f (by omega)
  have hok' : okL (rotL l f) = true := okL_mem hok fun v hv => (rot_perm l f).mem_iff.1 hv
  have hp := simp_poly hok' (by omega) (simp_rot hs f)
  refine ⟨hp, ?_⟩
  rw [← norm_eq hp, ← norm_eq h]
  unfold refN refA
  rw [areaI_A2 hok' (by omega), areaI_A2 hok (by omega), A2_perm (rot_EE l f)]
  by_cases hA : A2 l < 0
  · rw [if_pos hA, if_pos hA]
    by_cases h0 : f = 0
    · subst h0; rw [rot_zero]
    · have e : (rotL l f).reverse = rotL l.reverse (l.length - f) := by
        unfold rotL
        rw [List.reverse_append, List.drop_reverse, List.take_reverse, show l.length - (l.length - f) = f from by omega]
      rw [e, rot_least (m := l.reverse) (f := l.length - f) (okL_mem hok fun v hv => List.mem_reverse.1 hv) ((List.reverse_perm l).nodup_iff.2 hs.nd) (by simp; omega)]
  · rw [if_neg hA, if_neg hA]
    rw [rot_least hok hs.nd hf]
/-- the normal form of the list in the opposite order -/
theorem norm_rev {l : List P2} (h : polyI l = 0) : polyI l.reverse = 0 ∧ normL l.reverse = normL l := by
  have hs := poly_simp h
  obtain ⟨hck, h3, hr, ha⟩ := polyI_ok h
  obtain ⟨hl, hok⟩ := ckPts_zero hck
  have hok' : okL l.reverse = true := okL_mem hok fun v hv => List.mem_reverse.1 hv
  have hp := simp_poly hok' (by simp; omega) (simp_rev hs)
  refine ⟨hp, ?_⟩
  rw [← norm_eq hp, ← norm_eq h]
  unfold refN refA
  have hA := simp_area (okL_bnd hok) hs
  rw [areaI_A2 hok' (by simp; omega), areaI_A2 hok (by omega), A2_rev]
  by_cases hn : A2 l < 0
  · rw [if_pos hn, if_neg (by omega)]
  · rw [if_neg hn, if_pos (by omega), List.reverse_reverse]
/-- the normal form is a simple polygon, turns left, has no straight corners, and begins with its least corner -/
theorem norm_self {l : List P2} (h : polyI l = 0) : Simp (normL l) ∧ NoStr (normL l) ∧ 0 < A2 (normL l) ∧ okL (normL l) = true ∧ (normL l).length ≤ l.length ∧ polyI (normL l) = 0 ∧ normL (normL l) = normL l := by
  have hs := poly_simp h
  obtain ⟨hck, h3, hr, ha⟩ := polyI_ok h
  obtain ⟨hl, hok⟩ := ckPts_zero hck
  have hb := okL_bnd hok
  have s1 := simp_bends _ l (Nat.le_refl _) hb hs
  have n1 := bends_noStr _ l (Nat.le_refl _) hb hs
  have ok1 : okL (normB l) = true := okL_mem hok fun v hv => bends_mem hv
  have len1 := bends_len l
  have A1 := simp_area (okL_bnd ok1) s1
  have cc : Simp (normC l) ∧ NoStr (normC l) ∧ 0 < A2 (normC l) ∧ okL (normC l) = true ∧ (normC l).length ≤ l.length := by
    unfold normC
    rw [areaI_A2 ok1 (by omega)]
    by_cases hn : A2 (normB l) < 0
    · rw [if_pos hn, revTo_rev]
      exact ⟨simp_rev s1, noStr_rev n1, by rw [A2_rev]; omega, okL_mem ok1 fun v hv => List.mem_reverse.1 hv, by simpa using len1⟩
    · rw [if_neg hn]
      exact ⟨s1, n1, by omega, ok1, len1⟩
  obtain ⟨s2, n2, A2', ok2, len2⟩ := cc
  have h0 : 0 < (normC l).length := by have := s2.three; omega
  obtain ⟨k1, k2⟩ := least_lt (nd_rep ok2 s2.nd) h0
  have e : normL l = rotL (normC l) (leastTo (normC l) (normC l).length) := rfl
  have s3 : Simp (normL l) := by rw [e]; exact simp_rot s2 _
  have n3 : NoStr (normL l) := by rw [e]; exact noStr_perm (rot_EE _ _) n2
  have a3 : 0 < A2 (normL l) := by rw [e, A2_perm (rot_EE _ _)]; exact A2'
  have ok3 : okL (normL l) = true := by rw [e]; exact okL_mem ok2 fun v hv => (rot_perm _ _).mem_iff.1 hv
  have len3 : (normL l).length = (normC l).length := by rw [e, rotL_len _ _ (by omega)]
  have p3 := simp_poly ok3 (by omega) s3
  refine ⟨s3, n3, a3, ok3, by omega, p3, ?_⟩
  have b3 : normB (normL l) = normL l := bends_self _ fun k hk => noStr_turn n3 hk
  have c3 : normC (normL l) = normL l := by
    unfold normC; rw [b3, areaI_A2 ok3 (by omega), if_neg (by omega)]
  have z : leastTo (normL l) (normL l).length = 0 := by
    refine least_unique (by omega) ?_
    intro i hi hne
    rw [len3] at hi
    rw [e, rot_pt _ (by omega) h0, rot_pt _ (by omega) hi, Nat.add_zero, Nat.mod_eq_of_lt k1]
    refine k2 _ (Nat.mod_lt _ h0) ?_
    intro hh
    have : ptAt (rotL (normC l) (leastTo (normC l) (normC l).length)) i = ptAt (rotL (normC l) (leastTo (normC l) (normC l).length)) 0 := by
      rw [rot_pt _ (by omega) hi, rot_pt _ (by omega) h0, hh, Nat.add_zero, Nat.mod_eq_of_lt k1]
    have := pt_inj s3.nd (by rw [len3]; exact hi) (by rw [len3]; exact h0) (by rw [e]; exact this)
    exact hne this
  show rotL (normC (normL l)) (leastTo (normC (normL l)) (normC (normL l)).length) = normL l
  rw [c3, z, rot_zero]

end Geo
end Go.Proofs.YtpdfbboagaflhaaGreat

set_option linter.unusedSimpArgs false
set_option linter.unusedVariables false
namespace Go.Proofs.YtpdfbboagaflhaaGreat
namespace Geo

def othI (n f : Nat) (bk : Bool) (i : Nat) : Nat := if bk = true then n - 1 - (i + f) % n else (i + f) % n
def othT (l : List P2) (f : Nat) (bk : Bool) (t : Nat) : List P2 := (List.range t).map fun i => ptAt l (othI l.length f bk i)
theorem othT_length (l : List P2) (f : Nat) (bk : Bool) (t : Nat) : (othT l f bk t).length = t := by simp [othT]
theorem othT_succ (l : List P2) (f : Nat) (bk : Bool) (t : Nat) : othT l f bk (t + 1) = othT l f bk t ++ [(px l (othI l.length f bk t), py l (othI l.length f bk t))] := by
  unfold othT; rw [List.range_succ, List.map_append]; rfl
theorem oth_eq (l : List P2) (f : Nat) (bk : Bool) (h0 : 0 < l.length) : othT l f bk l.length = rotL (if bk = true then l.reverse else l) (f % l.length) := by
  have hf : f % l.length < l.length := Nat.mod_lt _ h0
  have hl : (if bk = true then l.reverse else l).length = l.length := by split <;> simp
  apply list_ext_pt
  · rw [othT_length, rotL_len _ _ (by rw [hl]; omega), hl]
  · intro i hi
    rw [othT_length] at hi
    rw [rot_pt _ (by rw [hl]; omega) (by rw [hl]; exact hi), hl]
    have e : (f % l.length + i) % l.length = (i + f) % l.length := by rw [Nat.mod_add_mod, Nat.add_comm]
    rw [e]
    have hm : (i + f) % l.length < l.length := Nat.mod_lt _ h0
    have e2 : ptAt (othT l f bk l.length) i = ptAt l (othI l.length f bk i) := by
      have : ptAt (othT l f bk l.length) i = (othT l f bk l.length)[i]'(by rw [othT_length]; exact hi) := ptAt_get _ _ _
      rw [this]; unfold othT; simp
    rw [e2]; unfold othI
    split
    · obtain ⟨a, b⟩ := rev_px l _ hm
      unfold ptAt; rw [a, b]
    · rfl
theorem oth_norm {l : List P2} (hp : polyI l = 0) (f : Nat) (bk : Bool) : polyI (othT l f bk l.length) = 0 ∧ normL (othT l f bk l.length) = normL l := by
  have h3 := (poly_simp hp).three
  rw [oth_eq l f bk (by omega)]
  split
  · obtain ⟨a, b⟩ := norm_rev hp
    have := norm_rot a (f := f % l.length) (by rw [List.length_reverse]; exact Nat.mod_lt _ (by omega))
    exact ⟨this.1, this.2.trans b⟩
  · exact norm_rot hp (Nat.mod_lt _ (by omega))

end Geo
end Go.Proofs.YtpdfbboagaflhaaGreat
