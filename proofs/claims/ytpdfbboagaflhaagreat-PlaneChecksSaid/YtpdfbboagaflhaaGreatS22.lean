/- Cutting along a diagonal; a simple polygon goes round each point once; ears. -/
import Derived.Test.YtpdfbboagaflhaaGreatS21

set_option linter.unusedSimpArgs false
set_option linter.unusedVariables false
set_option linter.unusedSectionVars false
namespace Go.Proofs.YtpdfbboagaflhaaGreat
namespace Geo

def TT (a b c : P2) : Int := (b.1 - a.1) * (c.2 - a.2) - (b.2 - a.2) * (c.1 - a.1)
def OnS (p a b : P2) : Prop := TT a b p = 0 ∧ (min a.1 b.1 ≤ p.1 ∧ p.1 ≤ max a.1 b.1) ∧ (min a.2 b.2 ≤ p.2 ∧ p.2 ≤ max a.2 b.2)
def Cr (a b c d : P2) : Prop := TT a b c * TT a b d < 0 ∧ TT c d a * TT c d b < 0
def InT (a b c p : P2) : Prop := 0 ≤ TT a b p ∧ 0 ≤ TT b c p ∧ 0 ≤ TT c a p
theorem tt_rot (a b c : P2) : TT b c a = TT a b c := by unfold TT; grind
theorem tt_swap (a b c : P2) : TT b a c = - TT a b c := by unfold TT; grind
theorem tt_self (a b : P2) : TT a b a = 0 ∧ TT a b b = 0 ∧ TT a a b = 0 := by unfold TT; refine ⟨?_, ?_, ?_⟩ <;> grind
theorem tt_sum (a b c p : P2) : TT b c p + TT a b p + TT c a p = TT a b c := by unfold TT; grind
theorem tt_bary (a b c p : P2) : TT a b c * p.1 = TT b c p * a.1 + TT a b p * c.1 + TT c a p * b.1 ∧ TT a b c * p.2 = TT b c p * a.2 + TT a b p * c.2 + TT c a p * b.2 := by unfold TT; constructor <;> grind
theorem tt_det (a b c p q : P2) : TT b c p * TT a b q - TT a b p * TT b c q = - (TT a b c * TT b p q) := by unfold TT; grind
theorem pos_of_mul {a b : Int} (h : 0 < a * b) (ha : 0 < a) : 0 < b := by
  rcases Int.lt_trichotomy b 0 with h1 | h1 | h1
  · have := Int.mul_neg_of_pos_of_neg ha h1; omega
  · subst h1; simp at h
  · exact h1
theorem pos_iff {a b : Int} (ha : 0 < a) : 0 < a * b ↔ 0 < b := ⟨fun h => pos_of_mul h ha, fun h => Int.mul_pos ha h⟩
theorem nneg_iff {a b : Int} (ha : 0 < a) : 0 ≤ a * b ↔ 0 ≤ b := by
  constructor
  · intro h
    rcases Int.lt_or_le b 0 with h1 | h1
    · have := Int.mul_neg_of_pos_of_neg ha h1; omega
    · exact h1
  · intro h; exact Int.mul_nonneg (by omega) h
theorem mul_neg_cases {a b : Int} (h : a * b < 0) : (0 < a ∧ b < 0) ∨ (a < 0 ∧ 0 < b) := by
  rcases Int.lt_trichotomy a 0 with h1 | h1 | h1
  · right; refine ⟨h1, ?_⟩
    rcases Int.lt_or_le 0 b with h2 | h2
    · exact h2
    · have := Int.mul_nonneg_of_nonpos_of_nonpos (Int.le_of_lt h1) h2; omega
  · subst h1; simp at h
  · left; refine ⟨h1, ?_⟩
    rcases Int.lt_or_le b 0 with h2 | h2
    · exact h2
    · have := Int.mul_nonneg (Int.le_of_lt h1) h2; omega
theorem par_on {p a b : P2} {m N : Int} (hN : 0 < N) (h0 : 0 ≤ m) (h1 : m ≤ N) (hx : N * (p.1 - a.1) = m * (b.1 - a.1)) (hy : N * (p.2 - a.2) = m * (b.2 - a.2)) : OnS p a b := by
  have key : ∀ x y z : Int, N * (x - y) = m * (z - y) → min y z ≤ x ∧ x ≤ max y z := by
    intro x y z h
    rcases Int.lt_or_le z y with hz | hz
    · have e1 : 0 ≤ N * (y - x) := by
        have := Int.mul_nonneg h0 (show 0 ≤ y - z by omega); grind
      have e2 : 0 ≤ N * (x - z) := by
        have := Int.mul_nonneg (show 0 ≤ N - m by omega) (show 0 ≤ y - z by omega); grind
      rw [nneg_iff hN] at e1 e2; omega
    · have e1 : 0 ≤ N * (x - y) := by
        have := Int.mul_nonneg h0 (show 0 ≤ z - y by omega); grind
      have e2 : 0 ≤ N * (z - x) := by
        have := Int.mul_nonneg (show 0 ≤ N - m by omega) (show 0 ≤ z - y by omega); grind
      rw [nneg_iff hN] at e1 e2; omega
  refine ⟨?_, key _ _ _ hx, key _ _ _ hy⟩
  have : N * TT a b p = 0 := by unfold TT; grind
  rcases Int.mul_eq_zero.1 this with h | h
  · omega
  · exact h
theorem on_par {p a b : P2} (h : OnS p a b) (ha : p ≠ a) (hb : p ≠ b) : ∃ m N : Int, 0 < m ∧ m < N ∧ N * (p.1 - a.1) = m * (b.1 - a.1) ∧ N * (p.2 - a.2) = m * (b.2 - a.2) := by
  obtain ⟨h0, hx, hy⟩ := h
  obtain ⟨p1, p2⟩ := p; obtain ⟨a1, a2⟩ := a; obtain ⟨b1, b2⟩ := b
  simp only [TT] at h0 hx hy
  have ha' : ¬ (p1 = a1 ∧ p2 = a2) := fun ⟨h, h'⟩ => ha (by rw [h, h'])
  have hb' : ¬ (p1 = b1 ∧ p2 = b2) := fun ⟨h, h'⟩ => hb (by rw [h, h'])
  rcases Int.le_total a1 b1 with g1 | g1 <;> rcases Int.le_total a2 b2 with g2 | g2
  · exact ⟨(p1 - a1) + (p2 - a2), (b1 - a1) + (b2 - a2), by omega, by omega, by grind, by grind⟩
  · exact ⟨(p1 - a1) + (a2 - p2), (b1 - a1) + (a2 - b2), by omega, by omega, by grind, by grind⟩
  · exact ⟨(a1 - p1) + (p2 - a2), (a1 - b1) + (b2 - a2), by omega, by omega, by grind, by grind⟩
  · exact ⟨(a1 - p1) + (a2 - p2), (a1 - b1) + (a2 - b2), by omega, by omega, by grind, by grind⟩
/-- an affine function on a line -/
theorem par_tt {p a b : P2} {m N : Int} (hx : N * (p.1 - a.1) = m * (b.1 - a.1)) (hy : N * (p.2 - a.2) = m * (b.2 - a.2)) (u v : P2) : N * TT u v p = (N - m) * TT u v a + m * TT u v b := by
  unfold TT; grind
/-- in a triangle and on the line of a side: on the side -/
theorem inT_side {a b c z : P2} (h : InT a b c z) (ht : 0 < TT a b c) (h0 : TT b c z = 0) : OnS z b c := by
  have e := tt_bary a b c z; have s := tt_sum a b c z
  obtain ⟨i1, i2, i3⟩ := h
  exact par_on (m := TT a b z) (N := TT a b c) ht i1 (by omega) (by grind) (by grind)
theorem inT_rot {a b c z : P2} (h : InT a b c z) : InT b c a z := ⟨h.2.1, h.2.2, h.1⟩
theorem cross_abs {z1 z2 u1 u2 w1 w2 S : Int} (hz1 : 0 < z1) (hz2 : 0 < z2) (hS : z1 + z2 ≤ S) (hu : 0 < z1 * u2 - z2 * u1) (hw : z1 * w2 - z2 * w1 < 0) (hk : 0 < w1 * u2 - u1 * w2) (hk2 : w1 * u2 - u1 * w2 < (z1 * u2 - z2 * u1) - (z1 * w2 - z2 * w1)) (hs : u1 + u2 < z1 + z2) (hu1 : u1 < 0) : 0 < w1 ∧ w1 * u2 - u1 * w2 < S * (w1 - u1) := by
  have e1 : 0 < (z1 * u2 - z2 * u1) * w1 := by
    have h1 := Int.mul_pos hz1 hk
    have h2 := Int.mul_pos (show 0 < -u1 by omega) (show 0 < -(z1 * w2 - z2 * w1) by omega)
    grind
  have hw1 := pos_of_mul e1 hu
  refine ⟨hw1, ?_⟩
  have e2 : 0 < (z1 * u2 - z2 * u1) * ((z1 + z2) * (w1 - u1) - (w1 * u2 - u1 * w2)) := by
    have h1 := Int.mul_pos (Int.mul_pos hk hz1) (show 0 < z1 + z2 - (u1 + u2) by omega)
    have h2 := Int.mul_pos (Int.mul_pos (show 0 < -u1 by omega) (show 0 < z1 + z2 by omega)) (show 0 < (z1 * u2 - z2 * u1) - (z1 * w2 - z2 * w1) - (w1 * u2 - u1 * w2) by omega)
    grind
  have e3 := pos_of_mul e2 hu
  have e4 := Int.mul_nonneg (show 0 ≤ S - (z1 + z2) by omega) (show 0 ≤ w1 - u1 by omega)
  grind
theorem cr_swap {a b c d : P2} (h : Cr a b c d) : Cr a b d c := by
  obtain ⟨h1, h2⟩ := h
  have e1 := tt_swap d c a; have e2 := tt_swap d c b
  refine ⟨by rw [Int.mul_comm]; exact h1, ?_⟩
  rw [tt_swap c d a, tt_swap c d b, Int.neg_mul_neg]; exact h2
theorem cr_comm {a b c d : P2} (h : Cr a b c d) : Cr c d a b := ⟨h.2, h.1⟩
theorem cr_swap' {a b c d : P2} (h : Cr a b c d) : Cr b a c d := cr_comm (cr_swap (cr_comm h))
theorem cross_out1 {a b c z u w : P2} (ht : 0 < TT a b c) (hz1 : 0 < TT b c z) (hz2 : 0 < TT a b z) (hz3 : 0 ≤ TT c a z) (hu : TT c a z < TT c a u → TT b c u < 0 ∨ TT a b u < 0) (hw : TT c a z < TT c a w → TT b c w < 0 ∨ TT a b w < 0) (h : Cr b z u w) (hs : TT b z u < 0) : Cr u w b c ∨ Cr u w a b := by
  obtain ⟨h1, h2⟩ := h
  have hsw : 0 < TT b z w := by rcases mul_neg_cases h1 with h | h <;> omega
  have d1 := tt_det a b c z u; have d2 := tt_det a b c z w; have d3 := tt_det a b c w u
  have su := tt_sum a b c u; have sw := tt_sum a b c w; have sz := tt_sum a b c z
  have k0 : TT b c w * TT a b u - TT a b w * TT b c u = TT a b c * TT u w b := by rw [d3]; unfold TT; grind
  have kD : TT b c w * TT a b u - TT a b w * TT b c u - (TT b c z * TT a b u - TT a b z * TT b c u - (TT b c z * TT a b w - TT a b z * TT b c w)) = TT a b c * TT u w z := by unfold TT; grind
  have kc : TT b c w * TT a b u - TT a b w * TT b c u - TT a b c * (TT b c w - TT b c u) = TT a b c * TT u w c := by unfold TT; grind
  have ka : TT b c w * TT a b u - TT a b w * TT b c u + TT a b c * (TT a b w - TT a b u) = TT a b c * TT u w a := by unfold TT; grind
  have p1 : 0 < TT b c z * TT a b u - TT a b z * TT b c u := by have := Int.mul_pos ht (show 0 < - TT b z u by omega); grind
  have p2 : TT b c z * TT a b w - TT a b z * TT b c w < 0 := by have := Int.mul_pos ht hsw; grind
  have p3 : 0 < TT u w b ∧ TT u w z < 0 := by
    rcases mul_neg_cases h2 with h | h
    · exact h
    · exfalso
      have q1 := Int.mul_pos ht h.2
      have q2 := Int.mul_pos ht (show 0 < - TT u w b by omega)
      grind
  have q1 := Int.mul_pos ht p3.1
  have q2 := Int.mul_pos ht (show 0 < - TT u w z by omega)
  have f1 : TT u w b * TT u w c < 0 → TT b c u * TT b c w < 0 → Cr u w b c := fun h h' => ⟨h, h'⟩
  have f2 : TT u w a * TT u w b < 0 → TT a b u * TT a b w < 0 → Cr u w a b := fun h h' => ⟨h, h'⟩
  generalize TT b c u = u1 at *
  generalize TT a b u = u2 at *
  generalize TT b c w = w1 at *
  generalize TT a b w = w2 at *
  generalize TT b c z = z1 at *
  generalize TT a b z = z2 at *
  have hk : 0 < w1 * u2 - u1 * w2 := by grind
  have hk2 : w1 * u2 - u1 * w2 < (z1 * u2 - z2 * u1) - (z1 * w2 - z2 * w1) := by grind
  by_cases c1 : u1 + u2 < z1 + z2
  · have n1 : u1 < 0 := by
      rcases hu (by omega) with h | h
      · exact h
      · have := Int.mul_pos hz1 (show 0 < -u2 by omega)
        have h3 : 0 < z2 * (-u1) := by grind
        have := pos_of_mul h3 hz2; omega
    obtain ⟨r1, r2⟩ := cross_abs (S := TT a b c) hz1 hz2 (by omega) p1 p2 hk hk2 c1 n1
    left
    have r3 : 0 < TT a b c * (- TT u w c) := by grind
    have r4 := pos_of_mul r3 ht
    exact f1 (Int.mul_neg_of_pos_of_neg p3.1 (by omega)) (Int.mul_neg_of_neg_of_pos n1 r1)
  · by_cases c2 : w1 + w2 < z1 + z2
    · have n2 : w2 < 0 := by
        rcases hw (by omega) with h | h
        · have := Int.mul_pos hz2 (show 0 < -w1 by omega)
          have h3 : 0 < z1 * (-w2) := by grind
          have := pos_of_mul h3 hz1; omega
        · exact h
      obtain ⟨r1, r2⟩ := cross_abs (S := TT a b c) (u1 := w2) (u2 := w1) (w1 := u2) (w2 := u1) hz2 hz1 (by omega) (by grind) (by grind) (by grind) (by grind) (by omega) n2
      right
      have r3 : 0 < TT a b c * (- TT u w a) := by grind
      have r4 := pos_of_mul r3 ht
      exact f2 (Int.mul_neg_of_neg_of_pos (by omega) p3.1) (Int.mul_neg_of_pos_of_neg r1 n2)
    · exfalso
      have g1 := Int.mul_nonneg (show 0 ≤ z1 * u2 - z2 * u1 by omega) (show 0 ≤ w1 + w2 - (z1 + z2) by omega)
      have g2 := Int.mul_nonneg (show 0 ≤ -(z1 * w2 - z2 * w1) by omega) (show 0 ≤ u1 + u2 - (z1 + z2) by omega)
      have g3 := Int.mul_pos (show 0 < z1 + z2 by omega) (show 0 < (z1 * u2 - z2 * u1) - (z1 * w2 - z2 * w1) - (w1 * u2 - u1 * w2) by omega)
      grind
theorem cross_out {a b c z u w : P2} (ht : 0 < TT a b c) (hz1 : 0 < TT b c z) (hz2 : 0 < TT a b z) (hz3 : 0 ≤ TT c a z) (hu : TT c a z < TT c a u → TT b c u < 0 ∨ TT a b u < 0) (hw : TT c a z < TT c a w → TT b c w < 0 ∨ TT a b w < 0) (h : Cr b z u w) : Cr u w b c ∨ Cr u w a b := by
  rcases mul_neg_cases h.1 with h1 | h1
  · rcases cross_out1 ht hz1 hz2 hz3 hw hu (cr_swap h) h1.2 with g | g
    · exact Or.inl (cr_swap' g)
    · exact Or.inr (cr_swap' g)
  · exact cross_out1 ht hz1 hz2 hz3 hu hw h h1.1
theorem lin_thru {t p q r p' q' r' a b c u w : Int} (h1 : p + q + r = t) (h2 : p' + q' + r' = t) (hu : t * u = p * a + q * c + r * b) (hw : t * w = p' * a + q' * c + r' * b) (hk : p' * q - q' * p = 0) : (p' - p) * t * (b - u) = - p * t * (w - u) := by
  have e1 : t * (b - u) = p * (b - a) + q * (b - c) := by rw [Int.mul_sub, hu, ← h1]; grind
  have e2 : t * (b - w) = p' * (b - a) + q' * (b - c) := by rw [Int.mul_sub, hw, ← h2]; grind
  have e3 : - p * t * (w - u) = - p * (t * (b - u) - t * (b - w)) := by grind
  rw [e3, Int.mul_assoc, e1, e2]
  grind
theorem ear_out1 {a b c u w : P2} (ht : 0 < TT a b c) (hu : TT b c u < 0 ∨ TT a b u < 0) (h : Cr a c u w) (hs : 0 < TT c a u) : Cr u w b c ∨ Cr u w a b ∨ OnS b u w := by
  obtain ⟨h1, h2⟩ := h
  have hcu : TT a c u = - TT c a u := tt_swap c a u
  have hcw : TT a c w = - TT c a w := tt_swap c a w
  have hsw : TT c a w < 0 := by rcases mul_neg_cases h1 with h | h <;> omega
  have d3 := tt_det a b c w u
  have su := tt_sum a b c u; have sw := tt_sum a b c w
  have k0 : TT b c w * TT a b u - TT a b w * TT b c u = TT a b c * TT u w b := by rw [d3]; unfold TT; grind
  have kc : - (TT c a u * TT b c w - TT c a w * TT b c u) = TT a b c * TT u w c := by unfold TT; grind
  have ka : TT c a u * TT a b w - TT c a w * TT a b u = TT a b c * TT u w a := by unfold TT; grind
  have ksum : (TT c a u * TT b c w - TT c a w * TT b c u) + (TT c a u * TT a b w - TT c a w * TT a b u) = TT a b c * (TT c a u - TT c a w) := by unfold TT; grind
  have bu := tt_bary a b c u; have bw := tt_bary a b c w
  have p3 : 0 < TT u w a ∧ TT u w c < 0 := by
    rcases mul_neg_cases h2 with h | h
    · exact h
    · exfalso
      have q1 := Int.mul_pos ht h.2
      have q2 := Int.mul_pos ht (show 0 < - TT u w a by omega)
      have q3 := Int.mul_pos ht (show 0 < TT c a u - TT c a w by omega)
      grind
  have q1 := Int.mul_pos ht p3.1
  have q2 := Int.mul_pos ht (show 0 < - TT u w c by omega)
  have X1 : 0 < TT c a u * TT b c w - TT c a w * TT b c u := by grind
  have X2 : 0 < TT c a u * TT a b w - TT c a w * TT a b u := by grind
  have keyu : TT b c u < 0 → 0 < TT b c w := by
    intro h
    have g := Int.mul_pos (show 0 < - TT c a w by omega) (show 0 < - TT b c u by omega)
    have g2 : 0 < TT c a u * TT b c w := by grind
    exact pos_of_mul g2 hs
  have keyw : TT a b u < 0 → 0 < TT a b w := by
    intro h
    have g := Int.mul_pos (show 0 < - TT c a w by omega) (show 0 < - TT a b u by omega)
    have g2 : 0 < TT c a u * TT a b w := by grind
    exact pos_of_mul g2 hs
  have hK : TT c a u * (TT a b c * TT u w b) = (TT c a u * TT b c w - TT c a w * TT b c u) * TT a b u - TT b c u * (TT c a u * TT a b w - TT c a w * TT a b u) := by rw [← k0]; grind
  rcases Int.lt_trichotomy (TT u w b) 0 with hb | hb | hb
  · right; left
    have n2 : TT a b u < 0 := by
      rcases Int.lt_or_le (TT a b u) 0 with h | h
      · exact h
      · exfalso
        have n1 : TT b c u < 0 := by omega
        have g1 := Int.mul_nonneg (show 0 ≤ TT c a u * TT b c w - TT c a w * TT b c u by omega) h
        have g2 := Int.mul_pos (show 0 < - TT b c u by omega) (show 0 < TT c a u * TT a b w - TT c a w * TT a b u by omega)
        have g3 := Int.mul_pos hs (Int.mul_pos ht (show 0 < - TT u w b by omega))
        grind
    exact ⟨Int.mul_neg_of_pos_of_neg p3.1 hb, Int.mul_neg_of_neg_of_pos n2 (keyw n2)⟩
  · right; right
    have n1 : TT b c u < 0 := by
      rcases Int.lt_or_le (TT b c u) 0 with h | h
      · exact h
      · exfalso
        have n2 : TT a b u < 0 := by omega
        have g1 := Int.mul_nonneg h (show 0 ≤ TT c a u * TT a b w - TT c a w * TT a b u by omega)
        have g2 := Int.mul_pos (show 0 < - TT a b u by omega) (show 0 < TT c a u * TT b c w - TT c a w * TT b c u by omega)
        rw [hb] at hK
        grind
    have n1' := keyu n1
    have hk : TT b c w * TT a b u - TT a b w * TT b c u = 0 := by rw [k0, hb]; simp
    refine par_on (m := - TT b c u * TT a b c) (N := (TT b c w - TT b c u) * TT a b c) (Int.mul_pos (by omega) ht) (Int.mul_nonneg (by omega) (by omega)) (Int.mul_le_mul_of_nonneg_right (by omega) (by omega)) ?_ ?_
    · exact lin_thru su sw bu.1 bw.1 hk
    · exact lin_thru su sw bu.2 bw.2 hk
  · left
    have n1 : TT b c u < 0 := by
      rcases Int.lt_or_le (TT b c u) 0 with h | h
      · exact h
      · exfalso
        have n2 : TT a b u < 0 := by omega
        have g1 := Int.mul_nonneg h (show 0 ≤ TT c a u * TT a b w - TT c a w * TT a b u by omega)
        have g2 := Int.mul_pos (show 0 < - TT a b u by omega) (show 0 < TT c a u * TT b c w - TT c a w * TT b c u by omega)
        have g3 := Int.mul_pos hs (Int.mul_pos ht hb)
        grind
    exact ⟨Int.mul_neg_of_pos_of_neg hb p3.2, Int.mul_neg_of_neg_of_pos n1 (keyu n1)⟩
theorem ons_swap {p a b : P2} (h : OnS p a b) : OnS p b a := by
  obtain ⟨h1, h2, h3⟩ := h
  refine ⟨by rw [tt_swap a b p, h1]; rfl, by omega, by omega⟩
theorem ear_out {a b c u w : P2} (ht : 0 < TT a b c) (hu : 0 < TT c a u → TT b c u < 0 ∨ TT a b u < 0) (hw : 0 < TT c a w → TT b c w < 0 ∨ TT a b w < 0) (h : Cr a c u w) : Cr u w b c ∨ Cr u w a b ∨ OnS b u w := by
  have hcu : TT a c u = - TT c a u := tt_swap c a u
  have hcw : TT a c w = - TT c a w := tt_swap c a w
  rcases mul_neg_cases h.1 with h1 | h1
  · have g0 : 0 < TT c a w := by omega
    rcases ear_out1 ht (hw g0) (cr_swap h) g0 with g | g | g
    · exact Or.inl (cr_swap' g)
    · exact Or.inr (Or.inl (cr_swap' g))
    · exact Or.inr (Or.inr (ons_swap g))
  · have g0 : 0 < TT c a u := by omega
    exact ear_out1 ht (hu g0) h g0
/-- a linear functional -/
def LL (d p : P2) : Int := d.1 * p.1 + d.2 * p.2
/-- the turn at an extreme next corner keeps its sign when an empty ear is cut off -/
theorem keep_next {a b c x d : P2} (ht : 0 < TT a b c) (ha : LL d a < LL d c) (hb : LL d b < LL d c) (hx : LL d x < LL d c) (hne : ¬ InT a b c x) (hcr : ¬ Cr c x a b) (h0 : TT b c x ≠ 0) (h1 : TT a c x ≠ 0) : 0 < TT b c x * TT a c x := by
  have hcx : TT a c x = - TT c a x := tt_swap c a x
  have by1 : TT a b c * (LL d x - LL d c) = TT b c x * (LL d a - LL d c) + TT c a x * (LL d b - LL d c) := by unfold TT LL; grind
  rcases Int.lt_or_gt_of_ne h0 with g | g <;> rcases Int.lt_or_gt_of_ne h1 with g' | g'
  · exact Int.mul_pos_of_neg_of_neg g g'
  · exfalso
    have e1 := Int.mul_pos ht (show 0 < LL d c - LL d x by omega)
    have e2 := Int.mul_pos (show 0 < - TT b c x by omega) (show 0 < LL d c - LL d a by omega)
    have e3 := Int.mul_pos (show 0 < - TT c a x by omega) (show 0 < LL d c - LL d b by omega)
    grind
  · exfalso
    rcases Int.lt_or_le (TT a b x) 0 with k | k
    · refine hcr ⟨?_, Int.mul_neg_of_pos_of_neg ht k⟩
      rw [tt_rot a c x, tt_rot b c x]
      exact Int.mul_neg_of_neg_of_pos g' g
    · exact hne ⟨k, by omega, by omega⟩
  · exact Int.mul_pos g g'
def steps : List P2 → List (P2 × P2)
  | [] => []
  | [_] => []
  | a :: b :: r => (a, b) :: steps (b :: r)
def EE : List P2 → List (P2 × P2)
  | [] => []
  | a :: r => steps (a :: (r ++ [a]))
def cr2 (e : P2 × P2) : Int := e.1.1 * e.2.2 - e.1.2 * e.2.1
def A2 (l : List P2) : Int := ((EE l).map cr2).sum
theorem steps_cat (A : List P2) (x : P2) (B : List P2) : steps (A ++ x :: B) = steps (A ++ [x]) ++ steps (x :: B) := by
  induction A with
  | nil => simp [steps]
  | cons a A ih =>
    cases A with
    | nil => cases B <;> simp [steps]
    | cons a' A => simp only [List.cons_append, steps] at ih ⊢; rw [ih]
theorem steps_fst {L : List P2} {z x y : P2} : (x, y) ∈ steps (L ++ [z]) → x ∈ L := by
  induction L with
  | nil => simp [steps]
  | cons a L ih =>
    cases L with
    | nil => simp only [List.cons_append, List.nil_append, steps, List.mem_cons, Prod.mk.injEq, List.not_mem_nil, or_false]; rintro ⟨h, _⟩; exact h
    | cons b L =>
      simp only [List.cons_append, steps, List.mem_cons, Prod.mk.injEq] at ih ⊢
      rintro (⟨h, _⟩ | h)
      · exact Or.inl h
      · exact Or.inr (ih h)
theorem steps_snd {L : List P2} {z x y : P2} : (x, y) ∈ steps (z :: L) → y ∈ L := by
  induction L generalizing z with
  | nil => simp [steps]
  | cons a L ih =>
    simp only [steps, List.mem_cons, Prod.mk.injEq]
    rintro (⟨_, h⟩ | h)
    · exact Or.inl h
    · exact Or.inr (ih h)
theorem steps_mem {L : List P2} {x y : P2} (h : (x, y) ∈ steps L) : x ∈ L ∧ y ∈ L := by
  refine ⟨?_, ?_⟩
  · rcases List.eq_nil_or_concat L with rfl | ⟨L', z, rfl⟩
    · simp [steps] at h
    · rw [List.concat_eq_append] at h ⊢
      exact List.mem_append_left _ (steps_fst h)
  · cases L with
    | nil => simp [steps] at h
    | cons a L => exact List.mem_cons_of_mem _ (steps_snd h)
theorem steps_rev (L : List P2) : steps L.reverse = ((steps L).map Prod.swap).reverse := by
  induction L with
  | nil => rfl
  | cons a L ih =>
    cases L with
    | nil => rfl
    | cons b L =>
      have e : (a :: b :: L).reverse = L.reverse ++ b :: [a] := by simp
      rw [e, steps_cat]
      have e2 : L.reverse ++ [b] = (b :: L).reverse := by simp
      rw [e2, ih]
      simp [steps]
structure Simp (l : List P2) : Prop where
  nd : l.Nodup
  on : ∀ e ∈ EE l, ∀ v ∈ l, v ≠ e.1 → v ≠ e.2 → ¬ OnS v e.1 e.2
  cr : ∀ e ∈ EE l, ∀ f ∈ EE l, ¬ Cr e.1 e.2 f.1 f.2
  three : 3 ≤ l.length
theorem EE_rot (A B : List P2) : (EE (A ++ B)).Perm (EE (B ++ A)) := by
  cases A with
  | nil => simp
  | cons a A =>
    cases B with
    | nil => simp
    | cons b B =>
      have e1 : EE (a :: A ++ b :: B) = steps ((a :: A) ++ b :: (B ++ [a])) := by simp [EE]
      have e2 : EE (b :: B ++ a :: A) = steps ((b :: B) ++ a :: (A ++ [b])) := by simp [EE]
      rw [e1, e2, steps_cat, steps_cat (b :: B)]
      exact List.perm_append_comm
theorem sum_perm {l l' : List Int} (h : l.Perm l') : l.sum = l'.sum := by
  induction h with
  | nil => rfl
  | cons x _ ih => simp [ih]
  | swap x y l => simp only [List.sum_cons]; omega
  | trans _ _ h1 h2 => rw [h1, h2]
theorem A2_perm {l l' : List P2} (h : (EE l).Perm (EE l')) : A2 l = A2 l' := sum_perm (h.map cr2)
theorem simp_perm {l l' : List P2} (hs : Simp l) (hp : l.Perm l') (he : ∀ e, e ∈ EE l' → e ∈ EE l) : Simp l' :=
  ⟨hp.nodup_iff.1 hs.nd, fun e h v hv => hs.on e (he e h) v (hp.mem_iff.2 hv), fun e h f hf => hs.cr e (he e h) f (he f hf), by rw [← hp.length_eq]; exact hs.three⟩
theorem EE_rev (l : List P2) : (EE l.reverse).Perm ((EE l).map Prod.swap) := by
  cases l with
  | nil => simp [EE]
  | cons a r =>
    rw [List.reverse_cons]
    refine (EE_rot r.reverse [a]).trans ?_
    have e : EE ([a] ++ r.reverse) = steps (a :: (r ++ [a])).reverse := by simp [EE]
    rw [e, steps_rev]
    exact List.reverse_perm _
theorem A2_rev (l : List P2) : A2 l.reverse = - A2 l := by
  have h := sum_perm ((EE_rev l).map cr2)
  unfold A2
  rw [h, List.map_map]
  generalize EE l = L
  induction L with
  | nil => rfl
  | cons e L ih => simp only [List.map_cons, List.sum_cons, ih, Function.comp, cr2, Prod.fst_swap, Prod.snd_swap]; grind
theorem simp_rev {l : List P2} (hs : Simp l) : Simp l.reverse := by
  have hm : ∀ e, e ∈ EE l.reverse → (e.2, e.1) ∈ EE l := by
    intro e h
    have := (EE_rev l).mem_iff.1 h
    obtain ⟨f, hf, rfl⟩ := List.mem_map.1 this
    exact hf
  refine ⟨(List.reverse_perm l).nodup_iff.2 hs.nd, ?_, ?_, by simpa using hs.three⟩
  · intro e h v hv h1 h2 h3
    exact hs.on _ (hm e h) v (List.mem_reverse.1 hv) h2 h1 (ons_swap h3)
  · intro e h f hf hc
    exact hs.cr _ (hm e h) _ (hm f hf) (cr_swap (cr_swap' hc))
def At (l : List P2) (v : P2) (t : Int) : Prop := ∃ p q, (p, v) ∈ EE l ∧ (v, q) ∈ EE l ∧ t = TT p v q
def Exv (l : List P2) (v : P2) : Prop := v ∈ l ∧ ∃ d, ∀ u ∈ l, u ≠ v → LL d u < LL d v
theorem at_rev {l : List P2} {v : P2} {t : Int} (h : At l v t) : At l.reverse v (-t) := by
  obtain ⟨p, q, h1, h2, rfl⟩ := h
  refine ⟨q, p, ?_, ?_, ?_⟩
  · exact (EE_rev l).mem_iff.2 (List.mem_map.2 ⟨_, h2, rfl⟩)
  · exact (EE_rev l).mem_iff.2 (List.mem_map.2 ⟨_, h1, rfl⟩)
  · unfold TT; grind
theorem ext_rev {l : List P2} {v : P2} (h : Exv l v) : Exv l.reverse v := ⟨List.mem_reverse.2 h.1, h.2.imp fun d hd u hu => hd u (List.mem_reverse.1 hu)⟩
/-- turned so that a corner comes first -/
theorem front {l : List P2} (hs : Simp l) {b : P2} (hb : b ∈ l) : ∃ c R a, Simp (b :: c :: (R ++ [a])) ∧ l.Perm (b :: c :: (R ++ [a])) ∧ (EE l).Perm (EE (b :: c :: (R ++ [a]))) := by
  obtain ⟨X, Y, rfl⟩ := List.append_of_mem hb
  have hp : (X ++ b :: Y).Perm (b :: Y ++ X) := List.perm_append_comm
  have he := EE_rot X (b :: Y)
  have h3 : 3 ≤ (b :: (Y ++ X)).length := by have := hs.three; simp only [List.length_append, List.length_cons] at this ⊢; omega
  have hs' := simp_perm hs hp (fun e h => he.mem_iff.2 h)
  rw [List.cons_append] at hp he hs'
  generalize Y ++ X = M at *
  cases M with
  | nil => simp at h3
  | cons c M =>
    rcases List.eq_nil_or_concat M with rfl | ⟨R, a, rfl⟩
    · simp at h3
    · rw [List.concat_eq_append] at *
      exact ⟨c, R, a, hs', hp, he⟩
theorem front_E (b c a : P2) (R : List P2) : EE (b :: c :: (R ++ [a])) = (b, c) :: (steps (c :: (R ++ [a])) ++ [(a, b)]) := by
  have e : EE (b :: c :: (R ++ [a])) = (b, c) :: steps ((c :: R) ++ a :: [b]) := by simp [EE, steps]
  rw [e, steps_cat]
  simp [steps]
section
variable {b c a : P2} {R : List P2}
attribute [local irreducible] TT OnS Cr InT
theorem nbr_prev {p : P2} (nd : (b :: c :: (R ++ [a])).Nodup) (h : (p, b) ∈ EE (b :: c :: (R ++ [a]))) : p = a := by
  rw [front_E] at h
  have hb : b ∉ c :: (R ++ [a]) := (List.nodup_cons.1 nd).1
  simp only [List.mem_cons, List.mem_append, Prod.mk.injEq, List.not_mem_nil, or_false] at h
  rcases h with ⟨_, h⟩ | h | ⟨h, _⟩
  · exact absurd (by rw [h]; exact List.mem_cons_self) hb
  · exact absurd (steps_mem h).2 hb
  · exact h
theorem nbr_next {q : P2} (nd : (b :: c :: (R ++ [a])).Nodup) (h : (b, q) ∈ EE (b :: c :: (R ++ [a]))) : q = c := by
  rw [front_E] at h
  have hb : b ∉ c :: (R ++ [a]) := (List.nodup_cons.1 nd).1
  simp only [List.mem_cons, List.mem_append, Prod.mk.injEq, List.not_mem_nil, or_false] at h
  rcases h with ⟨_, h⟩ | h | ⟨h, _⟩
  · exact h
  · exact absurd (steps_mem h).1 hb
  · exact absurd (by rw [h]; simp) hb
theorem edge_ab : (a, b) ∈ EE (b :: c :: (R ++ [a])) := by rw [front_E]; simp
theorem edge_bc : (b, c) ∈ EE (b :: c :: (R ++ [a])) := by rw [front_E]; simp
theorem nd_ne (nd : (b :: c :: (R ++ [a])).Nodup) : b ≠ c ∧ b ≠ a ∧ c ≠ a ∧ (∀ v ∈ R, v ≠ b ∧ v ≠ c ∧ v ≠ a) := by
  have hb : b ∉ c :: (R ++ [a]) := (List.nodup_cons.1 nd).1
  have nd2 := (List.nodup_cons.1 nd).2
  have hc : c ∉ R ++ [a] := (List.nodup_cons.1 nd2).1
  have nd3 := (List.nodup_cons.1 nd2).2
  simp only [List.mem_cons, List.mem_append, List.not_mem_nil, or_false, not_or] at hb hc
  refine ⟨hb.1, hb.2.2, hc.2, fun v hv => ⟨?_, ?_, ?_⟩⟩
  · rintro rfl; exact hb.2.1 hv
  · rintro rfl; exact hc.1 hv
  · rintro rfl; exact (List.nodup_append.1 nd3).2.2 v hv v (by simp) rfl
end
theorem col_on {p v q d : P2} (h0 : TT p v q = 0) (hp : LL d p < LL d v) (hq : LL d q < LL d v) : OnS p v q ∨ OnS q v p := by
  have ex : (LL d v - LL d q) * (p.1 - v.1) = (LL d v - LL d p) * (q.1 - v.1) := by unfold TT at h0; unfold LL; grind
  have ey : (LL d v - LL d q) * (p.2 - v.2) = (LL d v - LL d p) * (q.2 - v.2) := by unfold TT at h0; unfold LL; grind
  rcases Int.le_total (LL d v - LL d p) (LL d v - LL d q) with h | h
  · exact Or.inl (par_on (by omega) (by omega) h ex ey)
  · exact Or.inr (par_on (m := LL d v - LL d q) (N := LL d v - LL d p) (by omega) (by omega) h ex.symm ey.symm)
theorem ext_ne {l : List P2} {p v q : P2} (hs : Simp l) (hv : Exv l v) (h1 : (p, v) ∈ EE l) (h2 : (v, q) ∈ EE l) : TT p v q ≠ 0 := by
  intro h0
  obtain ⟨c, R, a, hs', hp, he⟩ := front hs hv.1
  have e1 := nbr_prev hs'.nd (he.mem_iff.1 h1)
  have e2 := nbr_next hs'.nd (he.mem_iff.1 h2)
  subst e1 e2
  obtain ⟨n1, n2, n3, _⟩ := nd_ne hs'.nd
  obtain ⟨d, hd⟩ := hv.2
  have mp : p ∈ l := hp.mem_iff.2 (by simp)
  have mq : q ∈ l := hp.mem_iff.2 (by simp)
  rcases col_on h0 (hd p mp n2.symm) (hd q mq n1.symm) with h | h
  · exact hs.on _ h2 p mp n2.symm n3.symm h
  · exact hs.on _ h1 q mq n3 n1.symm (ons_swap h)
def Diag (l : List P2) (x y : P2) : Prop := (∀ v ∈ l, v ≠ x → v ≠ y → ¬ OnS v x y) ∧ ∀ e ∈ EE l, ¬ Cr x y e.1 e.2
theorem cr_self (x y : P2) : ¬ Cr x y x y := by
  intro h; have := h.1; rw [(tt_self x y).1] at this; simp at this
theorem simp_sub {l l' : List P2} {x y : P2} (hs : Simp l) (hd : Diag l x y) (nd : l'.Nodup) (h3 : 3 ≤ l'.length) (hm : ∀ v ∈ l', v ∈ l) (he : ∀ e ∈ EE l', e ∈ EE l ∨ e = (x, y) ∨ e = (y, x)) : Simp l' := by
  have hc : ∀ e ∈ EE l', ∀ f ∈ EE l', e ∈ EE l → ¬ Cr e.1 e.2 f.1 f.2 := by
    intro e _ f hf hel hcr
    rcases he f hf with h | rfl | rfl
    · exact hs.cr e hel f h hcr
    · exact hd.2 e hel (cr_comm hcr)
    · exact hd.2 e hel (cr_swap' (cr_comm hcr))
  refine ⟨nd, ?_, ?_, h3⟩
  · intro e h v hv n1 n2 hon
    rcases he e h with h | rfl | rfl
    · exact hs.on e h v (hm v hv) n1 n2 hon
    · exact hd.1 v (hm v hv) n1 n2 hon
    · exact hd.1 v (hm v hv) n2 n1 (ons_swap hon)
  · intro e h f hf hcr
    rcases he e h with h' | h' | h'
    · exact hc e h f hf h' hcr
    · rcases he f hf with g | g | g
      · exact hc f hf e h g (cr_comm hcr)
      · subst h' g; exact cr_self _ _ hcr
      · subst h' g; exact cr_self _ _ (cr_swap hcr)
    · rcases he f hf with g | g | g
      · exact hc f hf e h g (cr_comm hcr)
      · subst h' g; exact cr_self _ _ (cr_swap hcr)
      · subst h' g; exact cr_self _ _ hcr
theorem ext_sub {l l' : List P2} {v : P2} (h : Exv l v) (hv : v ∈ l') (hm : ∀ u ∈ l', u ∈ l) : Exv l' v := ⟨hv, h.2.imp fun d hd u hu => hd u (hm u hu)⟩
theorem keep_prev {a b c x d : P2} (ht : 0 < TT a b c) (hc : LL d c < LL d a) (hb : LL d b < LL d a) (hx : LL d x < LL d a) (hne : ¬ InT a b c x) (hcr : ¬ Cr x a b c) (h0 : TT x a b ≠ 0) (h1 : TT x a c ≠ 0) : 0 < TT x a b * TT x a c := by
  have e0 : TT x a b = TT a b x := (tt_rot x a b).symm
  have e1 : TT x a c = - TT c a x := by rw [← tt_rot x a c]; exact tt_swap c a x
  have by1 : TT a b c * (LL d x - LL d a) = TT a b x * (LL d c - LL d a) + TT c a x * (LL d b - LL d a) := by unfold TT LL; grind
  rcases Int.lt_or_gt_of_ne h0 with g | g <;> rcases Int.lt_or_gt_of_ne h1 with g' | g'
  · exact Int.mul_pos_of_neg_of_neg g g'
  · exfalso
    have e1 := Int.mul_pos ht (show 0 < LL d a - LL d x by omega)
    have e2 := Int.mul_pos (show 0 < - TT a b x by omega) (show 0 < LL d a - LL d c by omega)
    have e3 := Int.mul_pos (show 0 < - TT c a x by omega) (show 0 < LL d a - LL d b by omega)
    grind
  · exfalso
    rcases Int.lt_or_le (TT b c x) 0 with k | k
    · refine hcr ⟨?_, ?_⟩
      · exact Int.mul_neg_of_pos_of_neg g g'
      · rw [tt_rot a b c]; exact Int.mul_neg_of_neg_of_pos k ht
    · exact hne ⟨by omega, k, by omega⟩
  · exact Int.mul_pos g g'
theorem inT_on_ac {a b c v : P2} (ht : 0 < TT a b c) (h : OnS v a c) (h1 : v ≠ a) (h2 : v ≠ c) : InT a b c v := by
  obtain ⟨m, N, hm, hN, ex, ey⟩ := on_par h h1 h2
  have e1 := par_tt ex ey a b; have e2 := par_tt ex ey b c; have e3 := par_tt ex ey c a
  have s1 := tt_self a b; have s2 := tt_self b c; have s3 := tt_self c a
  rw [s1.1] at e1; rw [s2.2.1] at e2; rw [s3.1, s3.2.1] at e3
  have r : TT b c a = TT a b c := tt_rot a b c
  rw [r] at e2
  refine ⟨?_, ?_, ?_⟩
  · have : 0 ≤ N * TT a b v := by rw [e1]; have := Int.mul_pos hm ht; omega
    exact (nneg_iff (by omega)).1 this
  · have : 0 ≤ N * TT b c v := by rw [e2]; have := Int.mul_pos (show 0 < N - m by omega) ht; omega
    exact (nneg_iff (by omega)).1 this
  · have : 0 ≤ N * TT c a v := by rw [e3]; omega
    exact (nneg_iff (by omega)).1 this
section
variable {b c a : P2} {R : List P2}
theorem cut_ear_pos (hs : Simp (b :: c :: (R ++ [a]))) (hR : R ≠ []) (ht : 0 < TT a b c) (hemp : ∀ v ∈ R, ¬ InT a b c v) :
    Simp (c :: (R ++ [a])) ∧ A2 (b :: c :: (R ++ [a])) = A2 (c :: (R ++ [a])) + TT a b c ∧
    ∀ v, Exv (b :: c :: (R ++ [a])) v → v ≠ b → Exv (c :: (R ++ [a])) v ∧ ∀ t, At (b :: c :: (R ++ [a])) v t → ∃ t', At (c :: (R ++ [a])) v t' ∧ 0 < t * t' := by
  obtain ⟨n1, n2, n3, nR⟩ := nd_ne hs.nd
  have hE' : EE (c :: (R ++ [a])) = steps (c :: (R ++ [a])) ++ [(a, c)] := by
    have e : EE (c :: (R ++ [a])) = steps ((c :: R) ++ a :: [c]) := by simp [EE]
    rw [e, steps_cat]; simp [steps]
  have hE := front_E b c a R
  have hsub : ∀ v ∈ c :: (R ++ [a]), v ∈ b :: c :: (R ++ [a]) := fun v hv => List.mem_cons_of_mem _ hv
  have notin : ∀ u ∈ b :: c :: (R ++ [a]), 0 < TT c a u → u ≠ b → TT b c u < 0 ∨ TT a b u < 0 := by
    intro u hu h hb
    have hR : u ∈ R := by
      simp only [List.mem_cons, List.mem_append, List.not_mem_nil, or_false] at hu
      rcases hu with h' | h' | h' | h'
      · exact absurd h' hb
      · subst h'; rw [(tt_self u a).1] at h; omega
      · exact h'
      · subst h'; rw [(tt_self c u).2.1] at h; omega
    rcases Int.lt_or_le (TT b c u) 0 with k | k
    · exact Or.inl k
    · rcases Int.lt_or_le (TT a b u) 0 with k' | k'
      · exact Or.inr k'
      · exact absurd ⟨k', k, by omega⟩ (hemp u hR)
  have hD : Diag (b :: c :: (R ++ [a])) a c := by
    refine ⟨?_, ?_⟩
    · intro v hv h1 h2 hon
      have hin := inT_on_ac ht hon h1 h2
      simp only [List.mem_cons, List.mem_append, List.not_mem_nil, or_false] at hv
      rcases hv with h' | h' | h' | h'
      · subst h'
        have := hon.1
        have e := tt_swap a v c
        have e2 := tt_rot v a c
        have e3 := tt_rot a c v
        omega
      · exact h2 h'
      · exact hemp v h' hin
      · exact h1 h'
    · rintro ⟨u, w⟩ he hcr
      have hu := (steps_mem (L := b :: ((c :: (R ++ [a])) ++ [b])) (by simpa [EE] using he))
      have mu : u ∈ b :: c :: (R ++ [a]) := by
        have := hu.1; simp only [List.mem_cons, List.mem_append, List.not_mem_nil, or_false] at this ⊢; grind
      have mw : w ∈ b :: c :: (R ++ [a]) := by
        have := hu.2; simp only [List.mem_cons, List.mem_append, List.not_mem_nil, or_false] at this ⊢; grind
      simp only at hcr
      by_cases hub : u = b
      · subst hub
        have e := nbr_next hs.nd he
        subst e
        have := hcr.1; rw [(tt_self a w).2.1] at this; simp at this
      · by_cases hwb : w = b
        · subst hwb
          have e := nbr_prev hs.nd he
          subst e
          have := hcr.1; rw [(tt_self u c).1] at this; simp at this
        · rcases ear_out ht (fun h => notin u mu h hub) (fun h => notin w mw h hwb) hcr with g | g | g
          · exact hs.cr _ he _ edge_bc g
          · exact hs.cr _ he _ edge_ab g
          · exact hs.on _ he b (by simp) (Ne.symm hub) (Ne.symm hwb) g
  have hS : Simp (c :: (R ++ [a])) := by
    refine simp_sub hs hD (List.nodup_cons.1 hs.nd).2 ?_ hsub ?_
    · cases R with
      | nil => exact absurd rfl hR
      | cons x R => simp
    · intro e he
      rw [hE'] at he; rw [hE]
      simp only [List.mem_cons, List.mem_append, List.not_mem_nil, or_false] at he ⊢
      rcases he with h | h
      · exact Or.inl (Or.inr (Or.inl h))
      · exact Or.inr (Or.inl h)
  refine ⟨hS, ?_, ?_⟩
  · unfold A2
    rw [hE, hE']
    simp only [List.map_cons, List.map_append, List.sum_cons, List.sum_append, List.map_nil, List.sum_nil, cr2]
    unfold TT; grind
  · intro v hv hvb
    have mv : v ∈ c :: (R ++ [a]) := by
      have := hv.1; simp only [List.mem_cons] at this ⊢; grind
    have hv' := ext_sub hv mv hsub
    refine ⟨hv', ?_⟩
    rintro t ⟨p, q, h1, h2, rfl⟩
    have nz := ext_ne hs hv h1 h2
    obtain ⟨d, hd⟩ := hv.2
    have hd' : ∀ u ∈ R ++ [a, b, c], u ≠ v → LL d u < LL d v := by
      intro u hu; refine hd u ?_
      simp only [List.mem_cons, List.mem_append, List.not_mem_nil, or_false] at hu ⊢; grind
    have nds : c ∉ R ++ [a] := (List.nodup_cons.1 (List.nodup_cons.1 hs.nd).2).1
    rw [hE] at h1 h2
    simp only [List.mem_cons, List.mem_append, List.not_mem_nil, or_false, Prod.mk.injEq] at h1 h2
    by_cases hvc : v = c
    · subst hvc
      have ep : p = b := by
        rcases h1 with h | h | h
        · exact h.1
        · exact absurd (steps_snd h) nds
        · exact absurd h.2 n1.symm
      have hq : (v, q) ∈ steps (v :: (R ++ [a])) := by
        rcases h2 with h | h | h
        · exact absurd h.1 n1.symm
        · exact h
        · exact absurd h.1 n3
      subst ep
      have hqR : q ∈ R := by
        cases R with
        | nil => exact absurd rfl hR
        | cons x R =>
          have hn : v ∉ (x :: R) ++ [a] := nds
          simp only [List.cons_append, steps, List.mem_cons, Prod.mk.injEq] at hq
          rcases hq with h | h
          · rw [h.2]; simp
          · exact absurd (List.mem_append_left _ (steps_fst (L := x :: R) h)) hn
      have he1 : (a, v) ∈ EE (v :: (R ++ [a])) := by rw [hE']; simp
      have he2 : (v, q) ∈ EE (v :: (R ++ [a])) := by rw [hE']; simp [hq]
      refine ⟨TT a v q, ⟨a, q, he1, he2, rfl⟩, ?_⟩
      have hqe : (v, q) ∈ EE (p :: v :: (R ++ [a])) := by rw [hE]; simp [hq]
      have k1 : ¬ Cr v q a p := hs.cr (v, q) hqe (a, p) edge_ab
      have k2 := ext_ne hS hv' he1 he2
      have k3 := hd' a (by simp) (Ne.symm n3)
      have k4 := hd' p (by simp) n1
      have k5 := hd' q (by simp [hqR]) (nR q hqR).2.1
      have k6 := hemp q hqR
      exact keep_next (d := d) ht k3 k4 k5 k6 k1 nz k2
    · by_cases hva : v = a
      · subst hva
        have eq : q = b := by
          rcases h2 with h | h | h
          · exact absurd h.1 n2.symm
          · exact absurd (steps_fst (L := c :: R) (by simpa using h)) (by
              intro h'
              simp only [List.mem_cons] at h'
              rcases h' with h' | h'
              · exact hvc h'
              · exact (nR v h').2.2 rfl)
          · exact h.2
        have hp : (p, v) ∈ steps (c :: (R ++ [v])) := by
          rcases h1 with h | h | h
          · exact absurd h.2.symm n3
          · exact h
          · exact absurd h.2 n2.symm
        subst eq
        have hpR : p ∈ R := by
          have h' := steps_fst (L := c :: R) (by simpa using hp)
          simp only [List.mem_cons] at h'
          rcases h' with h' | h'
          · exfalso
            subst h'
            cases R with
            | nil => exact hR rfl
            | cons x R =>
              simp only [List.cons_append, steps, List.mem_cons, Prod.mk.injEq] at hp
              rcases hp with h | h
              · exact (nR x (by simp)).2.2 h.2.symm
              · exact nds (List.mem_append_left _ (steps_fst (L := x :: R) h))
          · exact h'
        have he1 : (p, v) ∈ EE (c :: (R ++ [v])) := by rw [hE']; simp [hp]
        have he2 : (v, c) ∈ EE (c :: (R ++ [v])) := by rw [hE']; simp
        refine ⟨TT p v c, ⟨p, c, he1, he2, rfl⟩, ?_⟩
        have hpe : (p, v) ∈ EE (q :: c :: (R ++ [v])) := by rw [hE]; simp [hp]
        have k1 : ¬ Cr p v q c := hs.cr (p, v) hpe (q, c) edge_bc
        have k2 := ext_ne hS hv' he1 he2
        have k3 := hd' c (by simp) n3
        have k4 := hd' q (by simp) n2
        have k5 := hd' p (by simp [hpR]) (nR p hpR).2.2
        have k6 := hemp p hpR
        exact keep_prev (d := d) ht k3 k4 k5 k6 k1 nz k2
      · have he1 : (p, v) ∈ EE (c :: (R ++ [a])) := by
          rw [hE']
          rcases h1 with h | h | h
          · exact absurd h.2 hvc
          · simp [h]
          · exact absurd h.2 hvb
        have he2 : (v, q) ∈ EE (c :: (R ++ [a])) := by
          rw [hE']
          rcases h2 with h | h | h
          · exact absurd h.1 hvb
          · simp [h]
          · exact absurd h.1 hva
        refine ⟨_, ⟨p, q, he1, he2, rfl⟩, ?_⟩
        rcases Int.lt_or_gt_of_ne nz with h | h
        · exact Int.mul_pos_of_neg_of_neg h h
        · exact Int.mul_pos h h
end
attribute [local irreducible] TT OnS Cr InT
theorem edge_mem {l : List P2} {u w : P2} (h : (u, w) ∈ EE l) : u ∈ l ∧ w ∈ l := by
  cases l with
  | nil => simp [EE] at h
  | cons a r =>
    have := steps_mem h
    simp only [List.mem_cons, List.mem_append, List.not_mem_nil, or_false] at this ⊢; grind
section
variable {b c a z : P2} {R1 R2 : List P2}
theorem diag_z (hs : Simp (b :: c :: ((R1 ++ z :: R2) ++ [a]))) (ht : 0 < TT a b c) (hz : InT a b c z) (hmax : ∀ v ∈ R1 ++ z :: R2, InT a b c v → TT c a v ≤ TT c a z) :
    0 < TT b c z ∧ 0 < TT a b z ∧ Diag (b :: c :: ((R1 ++ z :: R2) ++ [a])) b z := by
  obtain ⟨n1, n2, n3, nR⟩ := nd_ne hs.nd
  have zR : z ∈ R1 ++ z :: R2 := by simp
  obtain ⟨nz1, nz2, nz3⟩ := nR z zR
  have hz' : 0 ≤ TT a b z ∧ 0 ≤ TT b c z ∧ 0 ≤ TT c a z := by unfold InT at hz; exact hz
  have sz := tt_sum a b c z
  have mz : z ∈ b :: c :: ((R1 ++ z :: R2) ++ [a]) := by simp
  have p1 : 0 < TT b c z := by
    rcases Int.lt_or_le 0 (TT b c z) with h | h
    · exact h
    · exact absurd (inT_side hz ht (by omega)) (hs.on (b, c) edge_bc z mz nz1 nz2)
  have p2 : 0 < TT a b z := by
    rcases Int.lt_or_le 0 (TT a b z) with h | h
    · exact h
    · have e1 := tt_rot c a b
      exact absurd (inT_side (inT_rot (inT_rot hz)) (by omega) (by omega)) (hs.on (a, b) edge_ab z mz nz3 nz1)
  have notin : ∀ u ∈ b :: c :: ((R1 ++ z :: R2) ++ [a]), u ≠ b → TT c a z < TT c a u → TT b c u < 0 ∨ TT a b u < 0 := by
    intro u hu hb h
    simp only [List.mem_cons, List.not_mem_nil, or_false] at hu
    rcases hu with h' | h' | h'
    · exact absurd h' hb
    · subst h'; rw [(tt_self u a).1] at h; omega
    · rcases List.mem_append.1 h' with h' | h'
      · rcases Int.lt_or_le (TT b c u) 0 with k | k
        · exact Or.inl k
        · rcases Int.lt_or_le (TT a b u) 0 with k' | k'
          · exact Or.inr k'
          · have : InT a b c u := by unfold InT; exact ⟨k', k, by omega⟩
            have := hmax u h' this; omega
      · have : u = a := by simpa using h'
        subst this; rw [(tt_self c u).2.1] at h; omega
  refine ⟨p1, p2, ?_, ?_⟩
  · intro v hv h1 h2 hon
    obtain ⟨m, N, hm, hN, ex, ey⟩ := on_par hon h1 h2
    have e1 := par_tt ex ey b c; have e2 := par_tt ex ey a b; have e3 := par_tt ex ey c a
    rw [(tt_self b c).1] at e1; rw [(tt_self a b).2.1] at e2; rw [show TT c a b = TT a b c from (tt_rot c a b).symm] at e3
    have g1 : 0 < N * TT b c v := by rw [e1]; have := Int.mul_pos hm p1; omega
    have g2 : 0 < N * TT a b v := by rw [e2]; have := Int.mul_pos hm p2; omega
    have g3 : 0 < N * (TT c a v - TT c a z) := by
      have : N * (TT c a v - TT c a z) = (N - m) * (TT a b c - TT c a z) := by rw [Int.mul_sub, e3]; grind
      rw [this]; exact Int.mul_pos (by omega) (by omega)
    have g1' := pos_of_mul g1 (by omega); have g2' := pos_of_mul g2 (by omega); have g3' := pos_of_mul g3 (by omega)
    rcases notin v hv h1 (by omega) with h | h <;> omega
  · rintro ⟨u, w⟩ he hcr
    simp only at hcr
    have hub : u ≠ b := by rintro rfl; have := hcr; unfold Cr at this; have := this.1; rw [(tt_self u z).1] at this; simp at this
    have hwb : w ≠ b := by rintro rfl; have := hcr; unfold Cr at this; have := this.1; rw [(tt_self w z).1] at this; simp at this
    obtain ⟨mu, mw⟩ := edge_mem he
    rcases cross_out ht p1 p2 hz'.2.2 (notin u mu hub) (notin w mw hwb) hcr with g | g
    · exact hs.cr (u, w) he (b, c) edge_bc g
    · exact hs.cr (u, w) he (a, b) edge_ab g
theorem cut_diag_pos (hs : Simp (b :: c :: ((R1 ++ z :: R2) ++ [a]))) (ht : 0 < TT a b c) (hz : InT a b c z) (hmax : ∀ v ∈ R1 ++ z :: R2, InT a b c v → TT c a v ≤ TT c a z) :
    Simp (b :: c :: (R1 ++ [z])) ∧ Simp (b :: z :: (R2 ++ [a])) ∧ A2 (b :: c :: ((R1 ++ z :: R2) ++ [a])) = A2 (b :: c :: (R1 ++ [z])) + A2 (b :: z :: (R2 ++ [a])) ∧ 0 < TT z b c ∧ 0 < TT a b z ∧
    ∀ v t, Exv (b :: c :: ((R1 ++ z :: R2) ++ [a])) v → v ≠ b → At (b :: c :: ((R1 ++ z :: R2) ++ [a])) v t → (Exv (b :: c :: (R1 ++ [z])) v ∧ At (b :: c :: (R1 ++ [z])) v t) ∨ (Exv (b :: z :: (R2 ++ [a])) v ∧ At (b :: z :: (R2 ++ [a])) v t) := by
  obtain ⟨p1, p2, hD⟩ := diag_z hs ht hz hmax
  have hE : EE (b :: c :: ((R1 ++ z :: R2) ++ [a])) = (b, c) :: ((steps (c :: (R1 ++ [z])) ++ steps (z :: (R2 ++ [a]))) ++ [(a, b)]) := by
    rw [front_E]
    have e : c :: ((R1 ++ z :: R2) ++ [a]) = (c :: R1) ++ z :: (R2 ++ [a]) := by simp
    rw [e, steps_cat]; simp
  have hE1 := front_E b c z R1
  have hE2 := front_E b z a R2
  have m1 : ∀ v ∈ b :: c :: (R1 ++ [z]), v ∈ b :: c :: ((R1 ++ z :: R2) ++ [a]) := by
    intro v hv; simp only [List.mem_cons, List.mem_append, List.not_mem_nil, or_false] at hv ⊢; grind
  have m2 : ∀ v ∈ b :: z :: (R2 ++ [a]), v ∈ b :: c :: ((R1 ++ z :: R2) ++ [a]) := by
    intro v hv; simp only [List.mem_cons, List.mem_append, List.not_mem_nil, or_false] at hv ⊢; grind
  have nd := hs.nd
  have sl1 : (b :: c :: (R1 ++ [z])).Sublist (b :: c :: ((R1 ++ z :: R2) ++ [a])) := by
    refine List.Sublist.cons_cons b (List.Sublist.cons_cons c ?_)
    rw [List.append_assoc]
    exact List.Sublist.append_left (by simp) _
  have sl2 : (b :: z :: (R2 ++ [a])).Sublist (b :: c :: ((R1 ++ z :: R2) ++ [a])) := by
    refine List.Sublist.cons_cons b ?_
    have e : c :: ((R1 ++ z :: R2) ++ [a]) = (c :: R1) ++ z :: (R2 ++ [a]) := by simp
    rw [e]
    exact List.sublist_append_right _ _
  have nd1 := sl1.nodup nd
  have nd2 := sl2.nodup nd
  refine ⟨simp_sub hs hD nd1 (by simp) m1 ?_, simp_sub hs hD nd2 (by simp) m2 ?_, ?_, ?_, p2, ?_⟩
  · intro e he
    rw [hE1] at he; rw [hE]
    simp only [List.mem_cons, List.mem_append, List.not_mem_nil, or_false] at he ⊢; grind
  · intro e he
    rw [hE2] at he; rw [hE]
    simp only [List.mem_cons, List.mem_append, List.not_mem_nil, or_false] at he ⊢; grind
  · unfold A2
    rw [hE, hE1, hE2]
    simp only [List.map_cons, List.map_append, List.sum_cons, List.sum_append, List.map_nil, List.sum_nil, cr2]
    grind
  · rw [← tt_rot z b c]; exact p1
  · rintro v t hv hvb ⟨p, q, h1, h2, rfl⟩
    have hvz : v ≠ z := by
      rintro rfl
      obtain ⟨n1, n2, n3, nR⟩ := nd_ne nd
      obtain ⟨nz1, nz2, nz3⟩ := nR v (by simp)
      obtain ⟨d, hd⟩ := hv.2
      have k1 := hd a (by simp) (Ne.symm nz3)
      have k2 := hd b (by simp) (Ne.symm nz1)
      have k3 := hd c (by simp) (Ne.symm nz2)
      have by1 : TT b c v * (LL d a - LL d v) + TT a b v * (LL d c - LL d v) + TT c a v * (LL d b - LL d v) = 0 := by unfold TT LL; grind
      have hz' : 0 ≤ TT a b v ∧ 0 ≤ TT b c v ∧ 0 ≤ TT c a v := by unfold InT at hz; exact hz
      have q1 := Int.mul_pos p1 (show 0 < LL d v - LL d a by omega)
      have q2 := Int.mul_pos p2 (show 0 < LL d v - LL d c by omega)
      have q3 := Int.mul_nonneg hz'.2.2 (show 0 ≤ LL d v - LL d b by omega)
      grind
    have s1 : ∀ {x y : P2}, (x, y) ∈ steps (c :: (R1 ++ [z])) → (v = x ∨ v = y) → v ∈ c :: R1 := by
      intro x y h hx
      have := steps_mem h
      simp only [List.mem_cons, List.mem_append, List.not_mem_nil, or_false] at this ⊢; grind
    have s2 : ∀ {x y : P2}, (x, y) ∈ steps (z :: (R2 ++ [a])) → (v = x ∨ v = y) → v ∈ R2 ++ [a] := by
      intro x y h hx
      have := steps_mem h
      simp only [List.mem_cons, List.mem_append, List.not_mem_nil, or_false] at this ⊢; grind
    have dis : v ∈ c :: R1 → v ∈ R2 ++ [a] → False := by
      intro g1 g2
      have nd' := (List.nodup_cons.1 nd).2
      have e : c :: ((R1 ++ z :: R2) ++ [a]) = (c :: R1) ++ z :: (R2 ++ [a]) := by simp
      rw [e] at nd'
      exact (List.nodup_append.1 nd').2.2 v g1 v (List.mem_cons_of_mem _ g2) rfl
    rw [hE] at h1 h2
    simp only [List.mem_cons, List.mem_append, List.not_mem_nil, or_false, Prod.mk.injEq] at h1 h2
    have mv : v ∈ c :: R1 ∨ v ∈ R2 ++ [a] := by
      have := hv.1
      simp only [List.mem_cons, List.mem_append, List.not_mem_nil, or_false] at this ⊢; grind
    rcases mv with g | g
    · left
      have ng : v ∉ R2 ++ [a] := fun h => dis g h
      have nva : v ≠ a := by rintro rfl; exact ng (by simp)
      refine ⟨ext_sub hv (by simp only [List.mem_cons, List.mem_append, List.not_mem_nil, or_false] at g ⊢; grind) m1, p, q, ?_, ?_, rfl⟩
      · rw [hE1]; simp only [List.mem_cons, List.mem_append, List.not_mem_nil, or_false, Prod.mk.injEq]
        rcases h1 with h | (h | h) | h
        · exact Or.inl h
        · exact Or.inr (Or.inl h)
        · exact absurd (s2 h (Or.inr rfl)) ng
        · exact absurd h.2 hvb
      · rw [hE1]; simp only [List.mem_cons, List.mem_append, List.not_mem_nil, or_false, Prod.mk.injEq]
        rcases h2 with h | (h | h) | h
        · exact Or.inl h
        · exact Or.inr (Or.inl h)
        · exact absurd (s2 h (Or.inl rfl)) ng
        · exact absurd h.1 nva
    · right
      have ng : v ∉ c :: R1 := fun h => dis h g
      have nvc : v ≠ c := by rintro rfl; exact ng (by simp)
      refine ⟨ext_sub hv (by simp only [List.mem_cons, List.mem_append, List.not_mem_nil, or_false] at g ⊢; grind) m2, p, q, ?_, ?_, rfl⟩
      · rw [hE2]; simp only [List.mem_cons, List.mem_append, List.not_mem_nil, or_false, Prod.mk.injEq]
        rcases h1 with h | (h | h) | h
        · exact absurd h.2 nvc
        · exact absurd (s1 h (Or.inr rfl)) ng
        · exact Or.inr (Or.inl h)
        · exact Or.inr (Or.inr h)
      · rw [hE2]; simp only [List.mem_cons, List.mem_append, List.not_mem_nil, or_false, Prod.mk.injEq]
        rcases h2 with h | (h | h) | h
        · exact absurd h.1 hvb
        · exact absurd (s1 h (Or.inl rfl)) ng
        · exact Or.inr (Or.inl h)
        · exact Or.inr (Or.inr h)
end
def GP (l : List P2) : Prop := ∀ v t, Exv l v → At l v t → 0 < t * A2 l
def Keep (l : List P2) (b : P2) (τ : Int) : Prop := ∃ l', Simp l' ∧ l'.length < l.length ∧ (∀ v ∈ l', v ∈ l) ∧ A2 l = A2 l' + τ ∧ ∀ v, Exv l v → v ≠ b → Exv l' v ∧ ∀ t, At l v t → ∃ t', At l' v t' ∧ 0 < t * t'
theorem at_perm {l l' : List P2} (he : (EE l).Perm (EE l')) {v : P2} {t : Int} (h : At l v t) : At l' v t := by
  obtain ⟨p, q, h1, h2, rfl⟩ := h
  exact ⟨p, q, he.mem_iff.1 h1, he.mem_iff.1 h2, rfl⟩
theorem ext_perm {l l' : List P2} (hp : l.Perm l') {v : P2} (h : Exv l v) : Exv l' v := ⟨hp.mem_iff.1 h.1, h.2.imp fun d hd u hu => hd u (hp.mem_iff.2 hu)⟩
theorem gp_perm {l l' : List P2} (hp : l.Perm l') (he : (EE l).Perm (EE l')) (h : GP l') : GP l := fun v t hv ht => by
  rw [A2_perm he]; exact h v t (ext_perm hp hv) (at_perm he ht)
theorem gp_rev {l : List P2} (h : GP l.reverse) : GP l := fun v t hv ht => by
  have := h v (-t) (ext_rev hv) (at_rev ht)
  rw [A2_rev, Int.neg_mul_neg] at this; exact this
theorem keep_perm {l l' : List P2} (hp : l.Perm l') (he : (EE l).Perm (EE l')) {b : P2} {τ : Int} (h : Keep l' b τ) : Keep l b τ := by
  obtain ⟨k, h1, h2, h3, h4, h5⟩ := h
  exact ⟨k, h1, by rw [hp.length_eq]; exact h2, fun v hv => hp.mem_iff.2 (h3 v hv), by rw [A2_perm he]; exact h4, fun v hv hb => ⟨(h5 v (ext_perm hp hv) hb).1, fun t ht => (h5 v (ext_perm hp hv) hb).2 t (at_perm he ht)⟩⟩
theorem keep_rev {l : List P2} {b : P2} {τ : Int} (h : Keep l.reverse b (-τ)) : Keep l b τ := by
  obtain ⟨k, h1, h2, h3, h4, h5⟩ := h
  refine ⟨k.reverse, simp_rev h1, by simpa using h2, fun v hv => List.mem_reverse.1 (h3 v (List.mem_reverse.1 hv)), ?_, ?_⟩
  · rw [A2_rev] at h4 ⊢; omega
  · intro v hv hb
    have := h5 v (ext_rev hv) hb
    refine ⟨ext_rev this.1, fun t ht => ?_⟩
    obtain ⟨t', h, h'⟩ := this.2 (-t) (at_rev ht)
    exact ⟨-t', at_rev h, by rw [← Int.neg_mul_comm]; exact h'⟩
theorem max_in {α : Type} (F : α → Int) (P : α → Prop) : ∀ l : List α, (∃ v ∈ l, P v) → ∃ v ∈ l, P v ∧ ∀ u ∈ l, P u → F u ≤ F v
  | [], h => by obtain ⟨v, hv, _⟩ := h; cases hv
  | a :: l, h => by
    by_cases hl : ∃ v ∈ l, P v
    · obtain ⟨v, hv, pv, hm⟩ := max_in F P l hl
      by_cases ha : P a ∧ F v < F a
      · refine ⟨a, List.mem_cons_self, ha.1, fun u hu pu => ?_⟩
        rcases List.mem_cons.1 hu with rfl | hu
        · exact Int.le_refl _
        · have := hm u hu pu; omega
      · refine ⟨v, List.mem_cons_of_mem _ hv, pv, fun u hu pu => ?_⟩
        rcases List.mem_cons.1 hu with rfl | hu
        · rcases Int.lt_or_le (F v) (F u) with h | h
          · exact absurd ⟨pu, h⟩ ha
          · exact h
        · exact hm u hu pu
    · obtain ⟨v, hv, pv⟩ := h
      rcases List.mem_cons.1 hv with rfl | hv
      · refine ⟨v, List.mem_cons_self, pv, fun u hu pu => ?_⟩
        rcases List.mem_cons.1 hu with rfl | hu
        · exact Int.le_refl _
        · exact absurd ⟨u, hu, pu⟩ hl
      · exact absurd ⟨v, hv, pv⟩ hl
theorem same_sign {a b c : Int} (h1 : 0 < a * b) (h2 : 0 < b * c) : 0 < a * c := by
  rcases Int.lt_trichotomy b 0 with h | h | h
  · have ha : a < 0 := by
      rcases Int.lt_or_le a 0 with h' | h'
      · exact h'
      · have := Int.mul_nonneg h' (show 0 ≤ -b by omega); grind
    have hc : c < 0 := by
      rcases Int.lt_or_le c 0 with h' | h'
      · exact h'
      · have := Int.mul_nonneg h' (show 0 ≤ -b by omega); grind
    exact Int.mul_pos_of_neg_of_neg ha hc
  · subst h; simp at h1
  · exact Int.mul_pos (pos_of_mul (by rw [Int.mul_comm]; exact h1) h) (pos_of_mul h2 h)
theorem step_pos {b c a : P2} {R : List P2} (hs : Simp (b :: c :: (R ++ [a]))) (hR : R ≠ []) (ht : 0 < TT a b c) (hb : Exv (b :: c :: (R ++ [a])) b)
    (IH : ∀ l', l'.length < (b :: c :: (R ++ [a])).length → (∀ v ∈ l', v ∈ b :: c :: (R ++ [a])) → Simp l' → GP l') : GP (b :: c :: (R ++ [a])) ∨ Keep (b :: c :: (R ++ [a])) b (TT a b c) := by
  by_cases hem : ∃ v ∈ R, InT a b c v
  · left
    obtain ⟨z, hz, pz, hm⟩ := max_in (fun p => TT c a p) (InT a b c) R hem
    obtain ⟨R1, R2, rfl⟩ := List.append_of_mem hz
    have m1 : ∀ v ∈ b :: c :: (R1 ++ [z]), v ∈ b :: c :: ((R1 ++ z :: R2) ++ [a]) := by
      intro v hv; simp only [List.mem_cons, List.mem_append, List.not_mem_nil, or_false] at hv ⊢; grind
    have m2 : ∀ v ∈ b :: z :: (R2 ++ [a]), v ∈ b :: c :: ((R1 ++ z :: R2) ++ [a]) := by
      intro v hv; simp only [List.mem_cons, List.mem_append, List.not_mem_nil, or_false] at hv ⊢; grind
    obtain ⟨s1, s2, hA, t1, t2, hrest⟩ := cut_diag_pos hs ht pz hm
    have g1 := IH _ (by simp) m1 s1
    have g2 := IH _ (by simp; omega) m2 s2
    have a1 : 0 < A2 (b :: c :: (R1 ++ [z])) := pos_of_mul (g1 b _ (ext_sub hb (by simp) m1) ⟨z, c, edge_ab, edge_bc, rfl⟩) t1
    have a2 : 0 < A2 (b :: z :: (R2 ++ [a])) := pos_of_mul (g2 b _ (ext_sub hb (by simp) m2) ⟨a, z, edge_ab, edge_bc, rfl⟩) t2
    have ap : 0 < A2 (b :: c :: ((R1 ++ z :: R2) ++ [a])) := by rw [hA]; omega
    intro v t hv hat
    refine Int.mul_pos ?_ ap
    by_cases hvb : v = b
    · subst hvb
      obtain ⟨p, q, h1, h2, rfl⟩ := hat
      rw [nbr_prev hs.nd h1, nbr_next hs.nd h2]; exact ht
    · rcases hrest v t hv hvb hat with ⟨h1, h2⟩ | ⟨h1, h2⟩
      · exact pos_of_mul (by rw [Int.mul_comm]; exact g1 v t h1 h2) a1
      · exact pos_of_mul (by rw [Int.mul_comm]; exact g2 v t h1 h2) a2
  · right
    obtain ⟨s, hA, hk⟩ := cut_ear_pos hs hR ht (fun v hv h => hem ⟨v, hv, h⟩)
    exact ⟨_, s, by simp, fun v hv => List.mem_cons_of_mem _ hv, hA, hk⟩
theorem step_any {l : List P2} (hs : Simp l) (h4 : 4 ≤ l.length) (IH : ∀ l', l'.length < l.length → (∀ v ∈ l', v ∈ l) → Simp l' → GP l') {b : P2} {τ : Int} (hb : Exv l b) (hat : At l b τ) : GP l ∨ Keep l b τ := by
  have main : ∀ k : List P2, Simp k → 4 ≤ k.length → (∀ l', l'.length < k.length → (∀ v ∈ l', v ∈ k) → Simp l' → GP l') → Exv k b → ∀ σ, 0 < σ → At k b σ → GP k ∨ Keep k b σ := by
    intro k hs h4 IH hb σ hσ hat
    obtain ⟨c, R, a, hs', hp, he⟩ := front hs hb.1
    have hR : R ≠ [] := by rintro rfl; have := hp.length_eq; simp at this; omega
    obtain ⟨p, q, h1, h2, rfl⟩ := hat
    have e1 := nbr_prev hs'.nd (he.mem_iff.1 h1)
    have e2 := nbr_next hs'.nd (he.mem_iff.1 h2)
    subst e1 e2
    rcases step_pos hs' hR hσ (ext_perm hp hb) (fun l' hl hm hs => IH l' (by rw [hp.length_eq]; exact hl) (fun v hv => hp.mem_iff.2 (hm v hv)) hs) with h | h
    · exact Or.inl (gp_perm hp he h)
    · exact Or.inr (keep_perm hp he h)
  have nz : τ ≠ 0 := by obtain ⟨p, q, h1, h2, rfl⟩ := hat; exact ext_ne hs hb h1 h2
  rcases Int.lt_or_gt_of_ne nz with h | h
  · rcases main l.reverse (simp_rev hs) (by simpa using h4) (fun l' hl hm hs => IH l' (by simpa using hl) (fun v hv => List.mem_reverse.1 (hm v hv)) hs) (ext_rev hb) (-τ) (by omega) (at_rev hat) with g | g
    · exact Or.inl (gp_rev g)
    · exact Or.inr (keep_rev g)
  · exact main l hs h4 IH hb τ h hat
def Bnd (l : List P2) : Prop := ∀ v ∈ l, (0 ≤ v.1 ∧ v.1 ≤ 20000) ∧ (0 ≤ v.2 ∧ v.2 ≤ 20000)
theorem uniq_max {l : List P2} (d : P2) (hl : l ≠ []) (hi : ∀ u ∈ l, ∀ v ∈ l, LL d u = LL d v → u = v) : ∃ v, Exv l v ∧ ∀ u ∈ l, LL d u ≤ LL d v := by
  obtain ⟨x, hx⟩ := List.exists_mem_of_ne_nil l hl
  obtain ⟨v, hv, _, hm⟩ := max_in (LL d) (fun _ => True) l ⟨x, hx, trivial⟩
  refine ⟨v, ⟨hv, d, fun u hu hne => ?_⟩, fun u hu => hm u hu trivial⟩
  have := hm u hu trivial
  rcases Int.lt_or_eq_of_le this with h | h
  · exact h
  · exact absurd (hi u hu v hv h) hne
theorem sq_nn (x : Int) : 0 ≤ x * x := by
  rcases Int.le_total 0 x with h | h
  · exact Int.mul_nonneg h h
  · exact Int.mul_nonneg_of_nonpos_of_nonpos h h
theorem three_ext {l : List P2} (hs : Simp l) (hb : Bnd l) : ∃ e1 e2 e3, Exv l e1 ∧ Exv l e2 ∧ Exv l e3 ∧ e1 ≠ e2 ∧ e1 ≠ e3 ∧ e2 ≠ e3 := by
  have hne : l ≠ [] := by rintro rfl; have := hs.three; simp at this
  have inj : ∀ s : Int, s = 1 ∨ s = -1 → ∀ u ∈ l, ∀ v ∈ l, LL (s * 20001, s) u = LL (s * 20001, s) v → u = v := by
    intro s hs u hu v hv h
    have := hb u hu; have := hb v hv
    obtain ⟨u1, u2⟩ := u; obtain ⟨v1, v2⟩ := v
    unfold LL at h; simp only at *
    rw [Prod.mk.injEq]
    rcases hs with rfl | rfl <;> omega
  obtain ⟨e1, x1, m1⟩ := uniq_max (-1 * 20001, -1) hne (inj (-1) (Or.inr rfl))
  obtain ⟨e2, x2, m2⟩ := uniq_max (1 * 20001, 1) hne (inj 1 (Or.inl rfl))
  obtain ⟨c, R, a, hs', hp, he⟩ := front hs x1.1
  obtain ⟨n1, n2, n3, _⟩ := nd_ne hs'.nd
  have mc : c ∈ l := hp.mem_iff.2 (by simp)
  have ma : a ∈ l := hp.mem_iff.2 (by simp)
  have n12 : e1 ≠ e2 := by
    rintro rfl
    have h1 := m1 c mc; have h2 := m2 c mc
    have := inj 1 (Or.inl rfl) c mc e1 x1.1 (by unfold LL at *; simp only at *; omega)
    exact n1 this.symm
  have nz := ext_ne hs x1 (he.mem_iff.2 (edge_ab)) (he.mem_iff.2 (edge_bc))
  have off : ∃ p ∈ l, TT e1 e2 p ≠ 0 := by
    by_cases ha : TT e1 e2 a = 0
    · by_cases hc : TT e1 e2 c = 0
      · exfalso
        apply nz
        have k1 : (e2.1 - e1.1) * TT a e1 c = 0 := by unfold TT at *; grind
        have k2 : (e2.2 - e1.2) * TT a e1 c = 0 := by unfold TT at *; grind
        rcases Int.mul_eq_zero.1 k1 with k1 | k1
        · rcases Int.mul_eq_zero.1 k2 with k2 | k2
          · exact absurd (Prod.ext (by omega) (by omega)) n12
          · exact k2
        · exact k1
      · exact ⟨c, mc, hc⟩
    · exact ⟨a, ma, ha⟩
  obtain ⟨p, mp, hpz⟩ := off
  have gb : ∀ q ∈ l, -2000000000 ≤ LL (e2.1 - e1.1, e2.2 - e1.2) q ∧ LL (e2.1 - e1.1, e2.2 - e1.2) q ≤ 2000000000 := by
    intro q hq
    obtain ⟨⟨a1, a2⟩, a3, a4⟩ := hb q hq
    obtain ⟨⟨b1, b2⟩, b3, b4⟩ := hb e1 x1.1
    obtain ⟨⟨c1, c2⟩, c3, c4⟩ := hb e2 x2.1
    have bd : ∀ x y : Int, -20000 ≤ x → x ≤ 20000 → 0 ≤ y → y ≤ 20000 → -400000000 ≤ x * y ∧ x * y ≤ 400000000 := by
      intro x y h1 h2 h3 h4
      have i1 := Int.mul_nonneg (show 0 ≤ x + 20000 by omega) h3
      have i2 := Int.mul_nonneg (show 0 ≤ 20000 - x by omega) h3
      constructor <;> grind
    have := bd (e2.1 - e1.1) q.1 (by omega) (by omega) a1 a2
    have := bd (e2.2 - e1.2) q.2 (by omega) (by omega) a3 a4
    unfold LL; simp only; omega
  have third : ∀ s : Int, s = 1 ∨ s = -1 → 0 < s * TT e1 e2 p → ∃ e3, Exv l e3 ∧ TT e1 e2 e3 ≠ 0 := by
    intro s hs1 hsp
    let d : P2 := (-(s * 10000000000 * (e2.2 - e1.2)) + (e2.1 - e1.1), s * 10000000000 * (e2.1 - e1.1) + (e2.2 - e1.2))
    have hd : ∀ q, LL d q = 10000000000 * (s * TT e1 e2 q) + LL (e2.1 - e1.1, e2.2 - e1.2) q + s * 10000000000 * ((e2.1 - e1.1) * e1.2 - (e2.2 - e1.2) * e1.1) := by
      intro q; simp only [d, LL, TT]; grind
    have hi : ∀ u ∈ l, ∀ v ∈ l, LL d u = LL d v → u = v := by
      intro u hu v hv h
      rw [hd, hd] at h
      have g1 := gb u hu; have g2 := gb v hv
      have f : s * TT e1 e2 u = s * TT e1 e2 v := by omega
      have g : LL (e2.1 - e1.1, e2.2 - e1.2) u = LL (e2.1 - e1.1, e2.2 - e1.2) v := by omega
      have f' : TT e1 e2 u = TT e1 e2 v := by rcases hs1 with rfl | rfl <;> omega
      have q1 : ((e2.1 - e1.1) * (e2.1 - e1.1) + (e2.2 - e1.2) * (e2.2 - e1.2)) * (u.1 - v.1) = 0 := by unfold TT at f'; unfold LL at g; simp only at g; grind
      have q2 : ((e2.1 - e1.1) * (e2.1 - e1.1) + (e2.2 - e1.2) * (e2.2 - e1.2)) * (u.2 - v.2) = 0 := by unfold TT at f'; unfold LL at g; simp only at g; grind
      have qp : (e2.1 - e1.1) * (e2.1 - e1.1) + (e2.2 - e1.2) * (e2.2 - e1.2) ≠ 0 := by
        intro h
        have i1 : 0 ≤ (e2.1 - e1.1) * (e2.1 - e1.1) := sq_nn (e2.1 - e1.1)
        have i2 : 0 ≤ (e2.2 - e1.2) * (e2.2 - e1.2) := sq_nn (e2.2 - e1.2)
        have j1 : (e2.1 - e1.1) * (e2.1 - e1.1) = 0 := by omega
        have j2 : (e2.2 - e1.2) * (e2.2 - e1.2) = 0 := by omega
        have k1 : e2.1 - e1.1 = 0 := by rcases Int.mul_eq_zero.1 j1 with h | h <;> exact h
        have k2 : e2.2 - e1.2 = 0 := by rcases Int.mul_eq_zero.1 j2 with h | h <;> exact h
        exact n12 (Prod.ext (by omega) (by omega))
      refine Prod.ext ?_ ?_
      · rcases Int.mul_eq_zero.1 q1 with h | h
        · exact absurd h qp
        · omega
      · rcases Int.mul_eq_zero.1 q2 with h | h
        · exact absurd h qp
        · omega
    obtain ⟨e3, x3, m3⟩ := uniq_max d hne hi
    refine ⟨e3, x3, fun h0 => ?_⟩
    have h := m3 p mp
    rw [hd, hd, h0] at h
    have g1 := gb p mp; have g2 := gb e3 x3.1
    omega
  obtain ⟨e3, x3, h3⟩ : ∃ e3, Exv l e3 ∧ TT e1 e2 e3 ≠ 0 := by
    rcases Int.lt_or_gt_of_ne hpz with h | h
    · exact third (-1) (Or.inr rfl) (by omega)
    · exact third 1 (Or.inl rfl) (by omega)
  refine ⟨e1, e2, e3, x1, x2, x3, n12, ?_, ?_⟩
  · rintro rfl; exact h3 (tt_self e1 e2).1
  · rintro rfl; exact h3 (tt_self e1 e2).2.1
theorem at_ex {l : List P2} (hs : Simp l) {v : P2} (hv : v ∈ l) : ∃ t, At l v t := by
  obtain ⟨c, R, a, hs', hp, he⟩ := front hs hv
  exact ⟨_, a, c, he.mem_iff.2 edge_ab, he.mem_iff.2 edge_bc, rfl⟩
theorem gp_all : ∀ n (l : List P2), l.length ≤ n → Bnd l → Simp l → GP l := by
  intro n
  induction n with
  | zero => intro l h _ hs; have := hs.three; omega
  | succ n ih =>
    intro l hl hb hs
    by_cases h3 : l.length = 3
    · intro v t hv hat
      obtain ⟨c, R, a, hs', hp, he⟩ := front hs hv.1
      have hR : R = [] := by have := hp.length_eq; simp at this; exact List.length_eq_zero_iff.1 (by omega)
      subst hR
      obtain ⟨p, q, h1, h2, rfl⟩ := hat
      have nz := ext_ne hs hv h1 h2
      have e1 := nbr_prev hs'.nd (he.mem_iff.1 h1)
      have e2 := nbr_next hs'.nd (he.mem_iff.1 h2)
      subst e1 e2
      have : A2 l = TT p v q := by
        rw [A2_perm he]; unfold A2; simp only [EE, List.nil_append, List.cons_append, steps, List.map_cons, List.map_nil, List.sum_cons, List.sum_nil, cr2]; unfold TT; grind
      rw [this]
      rcases Int.lt_or_gt_of_ne nz with h | h
      · exact Int.mul_pos_of_neg_of_neg h h
      · exact Int.mul_pos h h
    · have h4 : 4 ≤ l.length := by have := hs.three; omega
      have IH : ∀ l', l'.length < l.length → (∀ v ∈ l', v ∈ l) → Simp l' → GP l' := fun l' h1 h2 h3 => ih l' (by omega) (fun v hv => hb v (h2 v hv)) h3
      by_cases hg : GP l
      · exact hg
      · have hK : ∀ b τ, Exv l b → At l b τ → Keep l b τ := fun b τ h1 h2 => (step_any hs h4 IH h1 h2).resolve_left hg
        obtain ⟨e1, e2, e3, x1, x2, x3, n12, n13, n23⟩ := three_ext hs hb
        intro v t hv hat
        have two : ∃ b1 b2, Exv l b1 ∧ Exv l b2 ∧ b1 ≠ v ∧ b2 ≠ v ∧ b1 ≠ b2 := by
          by_cases k1 : e1 = v
          · subst k1; exact ⟨e2, e3, x2, x3, n12.symm, n13.symm, n23⟩
          · by_cases k2 : e2 = v
            · subst k2; exact ⟨e1, e3, x1, x3, n12, n23.symm, n13⟩
            · exact ⟨e1, e2, x1, x2, k1, k2, n12⟩
        obtain ⟨b1, b2, y1, y2, v1, v2, n⟩ := two
        obtain ⟨τ1, at1⟩ := at_ex hs y1.1
        obtain ⟨τ2, at2⟩ := at_ex hs y2.1
        have via : ∀ b τ, Exv l b → At l b τ → ∀ l', (Simp l' ∧ l'.length < l.length ∧ (∀ v ∈ l', v ∈ l) ∧ A2 l = A2 l' + τ ∧ ∀ v, Exv l v → v ≠ b → Exv l' v ∧ ∀ t, At l v t → ∃ t', At l' v t' ∧ 0 < t * t') → ∀ u s, Exv l u → u ≠ b → At l u s → 0 < s * A2 l' := by
          rintro b τ hb hτ l' ⟨s1, s2, s3, s4, s5⟩ u s hu hub hus
          obtain ⟨t', q1, q2⟩ := (s5 u hu hub).2 s hus
          exact same_sign q2 (IH l' s2 s3 s1 u t' (s5 u hu hub).1 q1)
        obtain ⟨l1, k1⟩ := hK b1 τ1 y1 at1
        obtain ⟨l2, k2⟩ := hK b2 τ2 y2 at2
        have r1 := via b1 τ1 y1 at1 l1 k1 v t hv v1.symm hat
        have r2 := via b2 τ2 y2 at2 l2 k2 v t hv v2.symm hat
        have r3 := via b2 τ2 y2 at2 l2 k2 b1 τ1 y1 n at1
        have r4 : 0 < t * τ1 := same_sign r2 (by rw [Int.mul_comm]; exact r3)
        rw [k1.2.2.2.1, Int.mul_add]; omega
/-- the area of a simple polygon is not 0 -/
theorem simp_area {l : List P2} (hb : Bnd l) (hs : Simp l) : A2 l ≠ 0 := by
  obtain ⟨e1, _, _, x1, _⟩ := three_ext hs hb
  obtain ⟨t, ht⟩ := at_ex hs x1.1
  intro h
  have := gp_all l.length l (Nat.le_refl _) hb hs e1 t x1 ht
  rw [h] at this; simp at this

end Geo
end Go.Proofs.YtpdfbboagaflhaaGreat

set_option linter.unusedSimpArgs false
set_option linter.unusedVariables false
set_option linter.unusedSectionVars false
namespace Go.Proofs.YtpdfbboagaflhaaGreat
namespace Geo

def lx (p q : P2) : Prop := p.1 < q.1 ∨ (p.1 = q.1 ∧ p.2 ≤ q.2)
theorem lx_total (p q : P2) : lx p q ∨ lx q p := by unfold lx; omega
theorem lx_trans {p q r : P2} (h1 : lx p q) (h2 : lx q r) : lx p r := by unfold lx at *; omega
theorem ons_lex {p a b : P2} (h0 : TT a b p = 0) (h1 : lx a p) (h2 : lx p b) : OnS p a b := by
  have h3 := lx_trans h1 h2
  refine ⟨h0, ?_⟩
  unfold lx at *
  refine (on_asc h3 (by unfold TT at h0; omega)).1 ⟨?_, ?_⟩ <;> omega
theorem col3 {p v q : P2} (h0 : TT p v q = 0) : OnS v p q ∨ OnS p v q ∨ OnS q v p := by
  have r1 : TT p q v = 0 := by unfold TT at *; grind
  have r2 : TT v q p = 0 := by unfold TT at *; grind
  have r3 : TT v p q = 0 := by unfold TT at *; grind
  have r4 : TT q p v = 0 := by unfold TT at *; grind
  have r5 : TT q v p = 0 := by unfold TT at *; grind
  rcases lx_total p v with a | a <;> rcases lx_total v q with b | b <;> rcases lx_total p q with c | c
  · exact Or.inl (ons_lex r1 a b)
  · exact Or.inl (ons_lex r1 a b)
  · exact Or.inr (Or.inr (ons_swap (ons_lex h0 c b)))
  · exact Or.inr (Or.inl (ons_swap (ons_lex r5 c a)))
  · exact Or.inr (Or.inl (ons_lex r2 a c))
  · exact Or.inr (Or.inr (ons_lex r3 b c))
  · exact Or.inl (ons_swap (ons_lex r4 b a))
  · exact Or.inl (ons_swap (ons_lex r4 b a))
theorem neg_of {k x : Int} (hk : 0 < k) (h : k * x < 0) : x < 0 := by
  rcases Int.lt_or_le x 0 with g | g
  · exact g
  · have := Int.mul_nonneg (Int.le_of_lt hk) g; omega
theorem ons_split {u v a c : P2} {m N : Int} (h0 : 0 < m) (h1 : m < N) (hx : N * (v.1 - a.1) = m * (c.1 - a.1)) (hy : N * (v.2 - a.2) = m * (c.2 - a.2)) (hc : a ≠ c) (h : OnS u a c) : OnS u a v ∨ OnS u v c := by
  have e1 := par_tt hx hy a u
  have e2 := par_tt hx hy u c
  rw [(tt_self a u).1, Int.mul_zero, Int.zero_add] at e1
  rw [(tt_self u c).2.1, Int.mul_zero, Int.add_zero] at e2
  have z1 : TT a u c = 0 := by have := h.1; unfold TT at *; grind
  have z2 : TT u c a = 0 := by have := h.1; unfold TT at *; grind
  rw [z1, Int.mul_zero] at e1
  rw [z2, Int.mul_zero] at e2
  have hN : N ≠ 0 := by omega
  have z3 : TT a u v = 0 := (Int.mul_eq_zero.1 e1).resolve_left hN
  have z4 : TT u c v = 0 := (Int.mul_eq_zero.1 e2).resolve_left hN
  have z5 : TT a v u = 0 := by unfold TT at *; grind
  have z6 : TT v c u = 0 := by unfold TT at *; grind
  have hv : OnS v a c := par_on (by omega) (by omega) (by omega) hx hy
  obtain ⟨k0, kx, ky⟩ := h
  obtain ⟨l0, ly, lz⟩ := hv
  by_cases hl : lx a c
  · have w1 := (on_asc (p := u.1) (q := u.2) hl (by unfold TT at k0; omega)).2 ⟨kx, ky⟩
    have w2 := (on_asc (p := v.1) (q := v.2) hl (by unfold TT at l0; omega)).2 ⟨ly, lz⟩
    rcases lx_total u v with g | g
    · exact Or.inl (ons_lex z5 (by unfold lx; omega) g)
    · exact Or.inr (ons_lex z6 g (by unfold lx; omega))
  · have hl' := (lx_total a c).resolve_left hl
    have w1 := (on_asc (p := u.1) (q := u.2) hl' (by unfold TT at k0; grind)).2 ⟨by omega, by omega⟩
    have w2 := (on_asc (p := v.1) (q := v.2) hl' (by unfold TT at l0; grind)).2 ⟨by omega, by omega⟩
    rcases lx_total u v with g | g
    · exact Or.inr (ons_swap (ons_lex (by unfold TT at *; grind) (by unfold lx; omega) g))
    · exact Or.inl (ons_swap (ons_lex (by unfold TT at *; grind) g (by unfold lx; omega)))
theorem cr_split {v a c x y : P2} {m N : Int} (h0 : 0 < m) (h1 : m < N) (hx : N * (v.1 - a.1) = m * (c.1 - a.1)) (hy : N * (v.2 - a.2) = m * (c.2 - a.2)) (h : Cr a c x y) : OnS v x y ∨ Cr a v x y ∨ Cr v c x y := by
  obtain ⟨s1, s2⟩ := h
  have f1 : ∀ u, N * TT a v u = m * TT a c u := fun u => by
    have := par_tt hx hy u a
    rw [(tt_self u a).2.1, Int.mul_zero, Int.zero_add] at this
    rw [← tt_rot u a v, ← tt_rot u a c] at *; rw [tt_rot, tt_rot] at this ⊢; exact this
  have f2 : ∀ u, N * TT v c u = (N - m) * TT a c u := fun u => by
    have := par_tt hx hy c u
    rw [(tt_self c u).1, Int.mul_zero, Int.add_zero] at this
    have e1 : TT c u v = TT v c u := by unfold TT; grind
    have e2 : TT c u a = TT a c u := by unfold TT; grind
    rw [e1, e2] at this; exact this
  have e3 := par_tt hx hy x y
  have hN : 0 < N := by omega
  by_cases hz : TT x y v = 0
  · refine Or.inl ?_
    have f0 : TT a c v = 0 := by
      have := f1 c
      rw [(tt_self a c).2.1] at this
      have e1 : TT a v c = - TT a c v := by unfold TT; grind
      rw [e1, Int.mul_zero] at this
      have := (Int.mul_eq_zero.1 this).resolve_left (by omega); omega
    rcases mul_neg_cases s1 with ⟨g1, g2⟩ | ⟨g1, g2⟩
    · refine par_on (m := TT a c x) (N := TT a c x - TT a c y) (by omega) (by omega) (by omega) ?_ ?_ <;> (unfold TT at *; grind)
    · refine par_on (m := - TT a c x) (N := TT a c y - TT a c x) (by omega) (by omega) (by omega) ?_ ?_ <;> (unfold TT at *; grind)
  · refine Or.inr ?_
    have p1 : TT a v x * TT a v y < 0 := by
      have : (N * N) * (TT a v x * TT a v y) = (m * m) * (TT a c x * TT a c y) := by
        have a1 := f1 x; have a2 := f1 y
        have e : (N * N) * (TT a v x * TT a v y) = (N * TT a v x) * (N * TT a v y) := by grind
        rw [e, a1, a2]; grind
      refine neg_of (k := N * N) (Int.mul_pos hN hN) ?_
      rw [this]; exact Int.mul_neg_of_pos_of_neg (Int.mul_pos h0 h0) s1
    have p2 : TT v c x * TT v c y < 0 := by
      have : (N * N) * (TT v c x * TT v c y) = ((N - m) * (N - m)) * (TT a c x * TT a c y) := by
        have a1 := f2 x; have a2 := f2 y
        have e : (N * N) * (TT v c x * TT v c y) = (N * TT v c x) * (N * TT v c y) := by grind
        rw [e, a1, a2]; grind
      refine neg_of (k := N * N) (Int.mul_pos hN hN) ?_
      rw [this]; exact Int.mul_neg_of_pos_of_neg (Int.mul_pos (by omega) (by omega)) s1
    rcases mul_neg_cases s2 with ⟨g1, g2⟩ | ⟨g1, g2⟩ <;> rcases Int.lt_or_gt_of_ne hz with g | g
    · exact Or.inl ⟨p1, Int.mul_neg_of_pos_of_neg g1 g⟩
    · exact Or.inr ⟨p2, Int.mul_neg_of_pos_of_neg g g2⟩
    · exact Or.inr ⟨p2, Int.mul_neg_of_neg_of_pos g g2⟩
    · exact Or.inl ⟨p1, Int.mul_neg_of_neg_of_pos g1 g⟩
theorem cmpI_zero (a b : Int) : cmpI a b = 0 ↔ a = b := by unfold cmpI; repeat (split) <;> omega
theorem turn_zero (a b c d p q : Int) : turnI a b c d p q = 0 ↔ TT (a, b) (c, d) (p, q) = 0 := by
  unfold turnI TT; rw [cmpI_zero]; simp only; omega
theorem turnAt_zero (l : List P2) (n k : Nat) : turnAt l n k = 0 ↔ TT (ptAt l ((k + n - 1) % n)) (ptAt l k) (ptAt l ((k + 1) % n)) = 0 := turn_zero _ _ _ _ _ _
theorem ptAt_cons (v : P2) (r : List P2) (k : Nat) : ptAt (v :: r) (k + 1) = ptAt r k := by simp [ptAt, px, py]
theorem ptAt_zero (v : P2) (r : List P2) : ptAt (v :: r) 0 = v := by simp [ptAt, px, py]
theorem ptAt_app (r : List P2) (a : P2) : ptAt (r ++ [a]) r.length = a := by simp [ptAt, px, py, List.getD_eq_getElem?_getD]
theorem range_cons (n : Nat) : List.range (n + 1) = 0 :: (List.range n).map (· + 1) := by rw [List.range_succ_eq_map]
/-- striking a straight first corner changes no bends -/
theorem normB_drop {v c a : P2} {R : List P2} (h0 : TT a v c = 0) (h1 : ∀ u, TT v c u = 0 ↔ TT a c u = 0) (h2 : ∀ u, TT u a v = 0 ↔ TT u a c = 0) (hac : a ≠ c) (hR : R ≠ []) :
    normB (v :: c :: (R ++ [a])) = normB (c :: (R ++ [a])) := by
  unfold normB
  rw [bendsTo_filter, bendsTo_filter]
  have hl : (v :: c :: (R ++ [a])).length = (c :: (R ++ [a])).length + 1 := by simp
  have hn : (c :: (R ++ [a])).length = R.length + 2 := by simp
  rw [hl, range_cons]
  have z : decide (turnAt (v :: c :: (R ++ [a])) ((c :: (R ++ [a])).length + 1) 0 ≠ 0) = false := by
    simp only [ne_eq, decide_not, Bool.not_eq_false', decide_eq_true_eq]
    rw [turnAt_zero, hn]
    have e1 : (0 + (R.length + 2 + 1) - 1) % (R.length + 2 + 1) = (R.length + 1) + 1 := by rw [Nat.mod_eq_of_lt (by omega)]; omega
    have e2 : (0 + 1) % (R.length + 2 + 1) = 0 + 1 := Nat.mod_eq_of_lt (by omega)
    rw [e1, e2, ptAt_cons, ptAt_cons, ptAt_cons, ptAt_zero, ptAt_zero, ptAt_app]
    exact h0
  rw [List.filter_cons, z]
  simp only [Bool.false_eq_true, if_false]
  rw [List.filter_map, List.map_map]
  have key : ∀ i, i < (c :: (R ++ [a])).length → (decide (turnAt (v :: c :: (R ++ [a])) ((c :: (R ++ [a])).length + 1) (i + 1) ≠ 0) = decide (turnAt (c :: (R ++ [a])) (c :: (R ++ [a])).length i ≠ 0)) := by
    intro i hi
    rw [decide_eq_decide]
    refine not_congr ?_
    rw [turnAt_zero, turnAt_zero, hn]
    rw [hn] at hi
    have e1 : (i + 1 + (R.length + 2 + 1) - 1) % (R.length + 2 + 1) = i := by
      rw [show i + 1 + (R.length + 2 + 1) - 1 = i + (R.length + 2 + 1) from by omega, Nat.add_mod_right, Nat.mod_eq_of_lt (by omega)]
    rw [e1, ptAt_cons]
    have hRl : 0 < R.length := List.length_pos_iff.2 hR
    by_cases hi0 : i = 0
    · subst hi0
      have e2 : (0 + 1 + 1) % (R.length + 2 + 1) = 1 + 1 := Nat.mod_eq_of_lt (by omega)
      have e3 : (0 + (R.length + 2) - 1) % (R.length + 2) = R.length + 1 := by rw [Nat.mod_eq_of_lt (by omega)]; omega
      have e4 : (0 + 1) % (R.length + 2) = 1 := Nat.mod_eq_of_lt (by omega)
      rw [e2, e3, e4, ptAt_cons, ptAt_cons, ptAt_zero, ptAt_zero, ptAt_cons, ptAt_app]
      exact h1 _
    · obtain ⟨j, rfl⟩ : ∃ j, i = j + 1 := ⟨i - 1, by omega⟩
      have e3 : (j + 1 + (R.length + 2) - 1) % (R.length + 2) = j := by
        rw [show j + 1 + (R.length + 2) - 1 = j + (R.length + 2) from by omega, Nat.add_mod_right, Nat.mod_eq_of_lt (by omega)]
      rw [e3, ptAt_cons]
      by_cases hj : j = R.length
      · subst hj
        have e2 : (R.length + 1 + 1 + 1) % (R.length + 2 + 1) = 0 := by rw [show R.length + 1 + 1 + 1 = R.length + 2 + 1 from by omega, Nat.mod_self]
        have e4 : (R.length + 1 + 1) % (R.length + 2) = 0 := by rw [show R.length + 1 + 1 = R.length + 2 from by omega, Nat.mod_self]
        rw [e2, e4, ptAt_zero, ptAt_zero, ptAt_cons, ptAt_app]
        exact h2 _
      · have e2 : (j + 1 + 1 + 1) % (R.length + 2 + 1) = (j + 2) + 1 := Nat.mod_eq_of_lt (by omega)
        have e4 : (j + 1 + 1) % (R.length + 2) = j + 2 := Nat.mod_eq_of_lt (by omega)
        rw [e2, e4, ptAt_cons v]
  have ef : (List.range (c :: (R ++ [a])).length).filter ((fun i => decide (turnAt (v :: c :: (R ++ [a])) ((c :: (R ++ [a])).length + 1) i ≠ 0)) ∘ (· + 1)) = (List.range (c :: (R ++ [a])).length).filter (fun i => decide (turnAt (c :: (R ++ [a])) (c :: (R ++ [a])).length i ≠ 0)) := by
    apply List.filter_congr
    intro i hi
    exact key i (List.mem_range.1 hi)
  rw [ef]
  apply List.map_congr_left
  intro i _
  exact ptAt_cons _ _ _
/-- a straight corner of a simple polygon is between its neighbours -/
theorem straight {v c a : P2} {R : List P2} (hs : Simp (v :: c :: (R ++ [a]))) (h0 : TT a v c = 0) : OnS v a c := by
  have e1 : (a, v) ∈ EE (v :: c :: (R ++ [a])) := by rw [front_E]; simp
  have e2 : (v, c) ∈ EE (v :: c :: (R ++ [a])) := by rw [front_E]; simp
  have nd := nd_ne hs.nd
  rcases col3 h0 with h | h | h
  · exact h
  · exact absurd h (hs.on _ e2 a (by simp) nd.2.1.symm nd.2.2.1.symm)
  · exact absurd (ons_swap h) (hs.on _ e1 c (by simp) nd.2.2.1 nd.1.symm)
theorem EE_short (c a : P2) : A2 [c, a] = 0 := by
  unfold A2; simp only [EE, steps, List.cons_append, List.nil_append, List.map_cons, List.map_nil, List.sum_cons, List.sum_nil, cr2]; grind
theorem A2_cut (v c a : P2) (R : List P2) : A2 (v :: c :: (R ++ [a])) = A2 (c :: (R ++ [a])) + TT a v c := by
  have e : EE (c :: (R ++ [a])) = steps (c :: (R ++ [a])) ++ [(a, c)] := by
    have : EE (c :: (R ++ [a])) = steps ((c :: R) ++ a :: [c]) := by simp [EE]
    rw [this, steps_cat]; simp [steps]
  unfold A2
  rw [front_E, e]
  simp only [List.map_cons, List.map_append, List.sum_cons, List.sum_append, List.map_nil, List.sum_nil, cr2]
  unfold TT; grind
theorem EE_cut (c a : P2) (R : List P2) : EE (c :: (R ++ [a])) = steps (c :: (R ++ [a])) ++ [(a, c)] := by
  have : EE (c :: (R ++ [a])) = steps ((c :: R) ++ a :: [c]) := by simp [EE]
  rw [this, steps_cat]; simp [steps]
/-- a straight corner can be struck -/
theorem simp_strike {v c a : P2} {R : List P2} (hb : Bnd (v :: c :: (R ++ [a]))) (hs : Simp (v :: c :: (R ++ [a]))) (h0 : TT a v c = 0) : R ≠ [] ∧ Simp (c :: (R ++ [a])) := by
  have hR : R ≠ [] := by
    rintro rfl
    refine simp_area hb hs ?_
    rw [A2_cut, h0]; simp only [List.nil_append]; rw [EE_short]; rfl
  have nd := nd_ne hs.nd
  have hst := straight hs h0
  obtain ⟨m, N, k0, k1, kx, ky⟩ := on_par hst nd.2.1.symm.symm nd.1
  have hv : ∀ u ∈ c :: (R ++ [a]), u ≠ v := by
    intro u hu e; subst e
    exact (List.nodup_cons.1 hs.nd).1 hu
  have em : ∀ e, e ∈ steps (c :: (R ++ [a])) → e ∈ EE (v :: c :: (R ++ [a])) := by
    intro e he; rw [front_E]; simp [he]
  have ea : (a, v) ∈ EE (v :: c :: (R ++ [a])) := by rw [front_E]; simp
  have ec : (v, c) ∈ EE (v :: c :: (R ++ [a])) := by rw [front_E]; simp
  have hcr : ∀ e, e ∈ steps (c :: (R ++ [a])) → ¬ Cr a c e.1 e.2 := by
    rintro ⟨x, y⟩ he h
    have := steps_mem he
    rcases cr_split k0 k1 kx ky h with g | g | g
    · exact hs.on _ (em _ he) v (by simp) (hv x this.1).symm (hv y this.2).symm g
    · exact hs.cr _ ea _ (em _ he) g
    · exact hs.cr _ ec _ (em _ he) g
  refine ⟨hR, (List.nodup_cons.1 hs.nd).2, ?_, ?_, ?_⟩
  · intro e he u hu h1 h2 h
    rw [EE_cut, List.mem_append, List.mem_singleton] at he
    rcases he with he | rfl
    · exact hs.on _ (em _ he) u (List.mem_cons_of_mem _ hu) h1 h2 h
    · rcases ons_split k0 k1 kx ky nd.2.2.1.symm h with g | g
      · exact hs.on _ ea u (List.mem_cons_of_mem _ hu) h1 (hv u hu) g
      · exact hs.on _ ec u (List.mem_cons_of_mem _ hu) (hv u hu) h2 g
  · intro e he f hf h
    rw [EE_cut, List.mem_append, List.mem_singleton] at he hf
    rcases he with he | rfl <;> rcases hf with hf | rfl
    · exact hs.cr _ (em _ he) _ (em _ hf) h
    · exact hcr _ he (cr_comm h)
    · exact hcr _ hf h
    · exact cr_self _ _ h
  · have := List.length_pos_iff.2 hR; simp; omega
theorem bends_self (m : List P2) (h : ∀ k, k < m.length → turnAt m m.length k ≠ 0) : normB m = m := by
  unfold normB
  rw [bendsTo_filter, List.filter_eq_self.2 (fun i hi => by simpa using h i (by simpa using hi))]
  apply List.ext_getElem (by simp)
  intro i h1 h2
  simp [ptAt_get m i h2]
/-- the bends of a simple polygon are a simple polygon -/
theorem simp_bends : ∀ n (l : List P2), l.length ≤ n → Bnd l → Simp l → Simp (normB l) := by
  intro n
  induction n with
  | zero => intro l h _ hs; have := hs.three; omega
  | succ n ih =>
    intro l hl hb hs
    by_cases hall : ∀ k, k < l.length → turnAt l l.length k ≠ 0
    · rw [bends_self l hall]; exact hs
    · obtain ⟨f, hf⟩ := Classical.not_forall.1 hall
      rw [not_imp, Classical.not_not] at hf
      obtain ⟨hf, ht⟩ := hf
      have hp : (rotL l f).Perm l := by unfold rotL; exact List.perm_append_comm.trans (by rw [List.take_append_drop])
      have he : (EE (rotL l f)).Perm (EE l) := by
        have := EE_rot (l.drop f) (l.take f); rw [List.take_append_drop] at this; exact this
      have hsr : Simp (rotL l f) := simp_perm hs hp.symm (fun e h => he.mem_iff.1 h)
      have hbr : Bnd (rotL l f) := fun v hv => hb v (hp.mem_iff.1 hv)
      have ht0 : turnAt (rotL l f) l.length 0 = 0 := by rw [turnAt_rot l f 0 (by omega) (by omega), Nat.add_zero, Nat.mod_eq_of_lt hf]; exact ht
      have hlen : (rotL l f).length = l.length := hp.length_eq
      have hback : Simp (normB (rotL l f)) → Simp (normB l) := by
        intro h
        rw [normB_rot l f (by omega)] at h
        rw [normB_split l f (by omega)]
        exact simp_perm h List.perm_append_comm (fun e he => (EE_rot _ _).mem_iff.1 he)
      refine hback ?_
      rw [← hlen] at ht0 hl
      generalize rotL l f = M at *
      have h3 := hsr.three
      match M, h3 with
      | v :: c :: M', h3 =>
        rcases List.eq_nil_or_concat M' with rfl | ⟨R, a, rfl⟩
        · simp at h3
        · rw [List.concat_eq_append] at *
          rw [turnAt_zero] at ht0
          have e1 : (0 + (v :: c :: (R ++ [a])).length - 1) % (v :: c :: (R ++ [a])).length = (R.length + 1) + 1 := by rw [Nat.mod_eq_of_lt] <;> simp
          have e2 : (0 + 1) % (v :: c :: (R ++ [a])).length = 0 + 1 := by rw [Nat.mod_eq_of_lt]; simp
          rw [e1, e2, ptAt_cons, ptAt_cons, ptAt_cons, ptAt_zero, ptAt_zero, ptAt_app] at ht0
          obtain ⟨hR, hs2⟩ := simp_strike hbr hsr ht0
          have nd := nd_ne hsr.nd
          obtain ⟨m, N, k0, k1, kx, ky⟩ := on_par (straight hsr ht0) nd.2.1 nd.1
          have f1 : ∀ u, TT v c u = 0 ↔ TT a c u = 0 := fun u => by
            have := par_tt kx ky c u
            rw [(tt_self c u).1, Int.mul_zero, Int.add_zero] at this
            have g1 : TT c u v = TT v c u := by unfold TT; grind
            have g2 : TT c u a = TT a c u := by unfold TT; grind
            rw [g1, g2] at this
            constructor <;> intro h
            · rw [h, Int.mul_zero] at this
              exact (Int.mul_eq_zero.1 this.symm).resolve_left (by omega)
            · rw [h, Int.mul_zero] at this
              exact (Int.mul_eq_zero.1 this).resolve_left (by omega)
          have f2 : ∀ u, TT u a v = 0 ↔ TT u a c = 0 := fun u => by
            have := par_tt kx ky u a
            rw [(tt_self u a).2.1, Int.mul_zero, Int.zero_add] at this
            constructor <;> intro h
            · rw [h, Int.mul_zero] at this
              exact (Int.mul_eq_zero.1 this.symm).resolve_left (by omega)
            · rw [h, Int.mul_zero] at this
              exact (Int.mul_eq_zero.1 this).resolve_left (by omega)
          rw [normB_drop ht0 f1 f2 nd.2.2.1.symm hR]
          exact ih _ (by simp at hl ⊢; omega) (fun u hu => hbr u (List.mem_cons_of_mem _ hu)) hs2
theorem steps_idx : ∀ L : List P2, steps L = (List.range (L.length - 1)).map fun k => (ptAt L k, ptAt L (k + 1))
  | [] => rfl
  | [_] => rfl
  | a :: b :: r => by
    rw [steps, steps_idx (b :: r)]
    simp only [List.length_cons, Nat.add_sub_cancel]
    rw [range_cons, List.map_cons, List.map_map]
    congr 1
theorem nx {n i : Nat} (h : i < n) : (i + 1) % n = if i + 1 = n then 0 else i + 1 := by
  split
  · rename_i e; rw [e, Nat.mod_self]
  · exact Nat.mod_eq_of_lt (by omega)
theorem EE_idx (l : List P2) : EE l = (List.range l.length).map fun k => (ptAt l k, ptAt l ((k + 1) % l.length)) := by
  cases l with
  | nil => rfl
  | cons a r =>
    rw [EE, steps_idx]
    have e : (a :: (r ++ [a])).length - 1 = (a :: r).length := by simp
    rw [e]
    apply List.map_congr_left
    intro k hk
    have hk := List.mem_range.1 hk
    simp only [List.length_cons] at hk
    have e1 : ptAt (a :: (r ++ [a])) k = ptAt (a :: r) k := by
      cases k with
      | zero => rw [ptAt_zero, ptAt_zero]
      | succ k => rw [ptAt_cons, ptAt_cons, ptAt_get _ _ (by simp; omega), ptAt_get _ _ (by omega), List.getElem_append_left]
    have e2 : ptAt (a :: (r ++ [a])) (k + 1) = ptAt (a :: r) ((k + 1) % (a :: r).length) := by
      rw [nx (by simpa using hk), ptAt_cons]
      split
      · rename_i h
        have : k = r.length := by simpa using h
        subst this; rw [ptAt_app, ptAt_zero]
      · rename_i h
        have : k < r.length := by simp at h; omega
        rw [ptAt_cons, ptAt_get _ _ (by simp; omega), ptAt_get _ _ this, List.getElem_append_left]
    rw [e1, e2]
theorem EE_mem {l : List P2} {e : P2 × P2} : e ∈ EE l ↔ ∃ k, k < l.length ∧ e = (ptAt l k, ptAt l ((k + 1) % l.length)) := by
  rw [EE_idx, List.mem_map]
  constructor
  · rintro ⟨k, hk, rfl⟩; exact ⟨k, List.mem_range.1 hk, rfl⟩
  · rintro ⟨k, hk, rfl⟩; exact ⟨k, List.mem_range.2 hk, rfl⟩
theorem pt_mem {l : List P2} {v : P2} : v ∈ l ↔ ∃ k, k < l.length ∧ v = ptAt l k := by
  constructor
  · intro h
    obtain ⟨k, hk, e⟩ := List.getElem_of_mem h
    exact ⟨k, hk, by rw [ptAt_get l k hk, e]⟩
  · rintro ⟨k, hk, rfl⟩; rw [ptAt_get l k hk]; exact List.getElem_mem hk
theorem cross_A2 (l : List P2) : crossTo (edgesL l) l.length = A2 l := by
  have h : ∀ k, k ≤ l.length → crossTo (edgesL l) k = (((List.range k).map fun k => (ptAt l k, ptAt l ((k + 1) % l.length))).map cr2).sum := by
    intro k
    induction k with
    | zero => intro _; rfl
    | succ k ih =>
      intro hk
      rw [crossTo, ih (by omega), List.range_succ, List.map_append, List.map_append, List.sum_append]
      obtain ⟨h1, h2, h3, h4⟩ := edgesL_at l k (by omega)
      rw [h1, h2, h3, h4]
      simp [cr2, ptAt]
  rw [h _ (Nat.le_refl _), ← EE_idx]; rfl
theorem turn_sgn (a b c : P2) : turnI a.1 a.2 b.1 b.2 c.1 c.2 = Int.sign (TT a b c) := turnI_sign _ _ _ _ _ _
theorem sgn_neg (x y : Int) : Int.sign x * Int.sign y < 0 ↔ x * y < 0 := by
  rw [← Int.sign_mul]; exact Int.sign_neg_iff
theorem cr_turn (a b c d : P2) : Cr a b c d ↔ (turnI a.1 a.2 b.1 b.2 c.1 c.2 * turnI a.1 a.2 b.1 b.2 d.1 d.2 < 0 ∧ turnI c.1 c.2 d.1 d.2 a.1 a.2 * turnI c.1 c.2 d.1 d.2 b.1 b.2 < 0) := by
  unfold Cr; rw [turn_sgn, turn_sgn, turn_sgn, turn_sgn, sgn_neg, sgn_neg]
theorem onR_on (p a b : P2) : onR p.1 p.2 a.1 a.2 b.1 b.2 = true ↔ OnS p a b := by
  unfold onR btwB OnS
  rw [turn_sgn]
  simp only [Bool.and_eq_true, decide_eq_true_eq, beq_iff_eq, Int.sign_eq_zero_iff_zero]
  constructor
  · rintro ⟨⟨h1, h2⟩, h3⟩; exact ⟨h3, h1, h2⟩
  · rintro ⟨h3, h1, h2⟩; exact ⟨⟨h1, h2⟩, h3⟩
abbrev Sg := P2 × P2
def bothP (e f : Sg) (p : P2) : Prop := OnS p e.1 e.2 ∧ OnS p f.1 f.2
theorem both_iff (e f : Sg) (p : P2) : bothB e.1.1 e.1.2 e.2.1 e.2.2 f.1.1 f.1.2 f.2.1 f.2.2 p = true ↔ bothP e f p := by
  unfold bothB bothP
  rw [Bool.and_eq_true, onR_on p e.1 e.2, onR_on p f.1 f.2]
def isEnd (e f : Sg) (p : P2) : Prop := p = e.1 ∨ p = e.2 ∨ p = f.1 ∨ p = f.2
def endsP (e f : Sg) : List P2 := endsL e.1.1 e.1.2 e.2.1 e.2.2 f.1.1 f.1.2 f.2.1 f.2.2
theorem endsP_mem {e f : Sg} (h1 : e.1 ≠ e.2) (h2 : f.1 ≠ f.2) (p : P2) : p ∈ endsP e f ↔ isEnd e f p ∧ bothP e f p := by
  obtain ⟨⟨a, b⟩, c, d⟩ := e
  obtain ⟨⟨u, v⟩, w, x⟩ := f
  have k1 : ¬ (a = c ∧ b = d) := fun h => h1 (by simp [h.1, h.2])
  have k2 : ¬ (u = w ∧ v = x) := fun h => h2 (by simp [h.1, h.2])
  constructor
  · intro h
    obtain ⟨g1, g2⟩ := ends_sub k1 k2 p h
    exact ⟨g1, (both_iff ((a, b), (c, d)) ((u, v), (w, x)) p).1 g2⟩
  · rintro ⟨g1, g2⟩
    exact ends_mem k1 k2 p g1 ((both_iff ((a, b), (c, d)) ((u, v), (w, x)) p).2 g2)
theorem endsP_nodup (e f : Sg) : (endsP e f).Nodup := by
  unfold endsP endsL
  have step : ∀ (o : List P2) (p : P2), o.Nodup → (endStep e.1.1 e.1.2 e.2.1 e.2.2 f.1.1 f.1.2 f.2.1 f.2.2 o p).Nodup := by
    intro o p ho
    unfold endStep
    split
    · rename_i h
      simp only [Bool.and_eq_true, Bool.not_eq_true', List.contains_eq_mem, decide_eq_false_iff_not] at h
      rw [List.nodup_append]
      refine ⟨ho, by simp, ?_⟩
      intro a ha b hb; simp at hb; subst hb
      rintro rfl; exact h.2 ha
    · exact ho
  simp only [List.foldl_cons, List.foldl_nil]
  exact step _ _ (step _ _ (step _ _ (step _ _ List.nodup_nil)))
def meetP (e f : Sg) : Int := meetR e.1.1 e.1.2 e.2.1 e.2.2 f.1.1 f.1.2 f.2.1 f.2.2
theorem meetP_none {e f : Sg} (h1 : e.1 ≠ e.2) (h2 : f.1 ≠ f.2) : meetP e f = 0 ↔ (∀ p, isEnd e f p → ¬ bothP e f p) ∧ ¬ Cr e.1 e.2 f.1 f.2 := by
  have hm := endsP_mem h1 h2
  unfold meetP meetR meetOf
  show (match endsP e f with | [] => _ | [p] => _ | _ => _) = (0 : Int) ↔ _
  rw [cr_turn]
  cases hE : endsP e f with
  | nil =>
    simp only
    have n : ∀ p, isEnd e f p → ¬ bothP e f p := fun p a b => by have := (hm p).2 ⟨a, b⟩; rw [hE] at this; simp at this
    constructor
    · intro h; refine ⟨n, fun g => ?_⟩; rw [if_pos g] at h; simp at h
    · rintro ⟨_, g⟩; rw [if_neg g]
  | cons p t =>
    have hp := (hm p).1 (by rw [hE]; simp)
    cases t with
    | nil =>
      simp only
      constructor
      · intro h; split at h <;> simp at h
      · rintro ⟨g, _⟩; exact absurd hp.2 (g p hp.1)
    | cons q t =>
      simp only
      constructor
      · intro h; simp at h
      · rintro ⟨g, _⟩; exact absurd hp.2 (g p hp.1)
theorem meetP_one {e f : Sg} (h1 : e.1 ≠ e.2) (h2 : f.1 ≠ f.2) : meetP e f = 1 ↔ ∃ p, (p = e.1 ∨ p = e.2) ∧ (p = f.1 ∨ p = f.2) ∧ (∀ u, isEnd e f u → bothP e f u → u = p) ∧ bothP e f p := by
  have hm := endsP_mem h1 h2
  have hn := endsP_nodup e f
  unfold meetP meetR meetOf
  show (match endsP e f with | [] => _ | [p] => _ | _ => _) = (1 : Int) ↔ _
  cases hE : endsP e f with
  | nil =>
    simp only
    constructor
    · intro h; split at h <;> simp at h
    · rintro ⟨p, g1, g2, g3, g4⟩
      have := (hm p).2 ⟨by unfold isEnd; rcases g1 with g | g <;> simp [g], g4⟩
      rw [hE] at this; simp at this
  | cons p t =>
    have hp := (hm p).1 (by rw [hE]; simp)
    cases t with
    | nil =>
      simp only
      constructor
      · intro h
        split at h
        · rename_i g
          refine ⟨p, g.1, g.2, fun u a b => ?_, hp.2⟩
          have := (hm u).2 ⟨a, b⟩; rw [hE] at this; simpa using this
        · simp at h
      · rintro ⟨q, g1, g2, g3, g4⟩
        have := g3 p hp.1 hp.2
        subst this
        rw [if_pos ⟨g1, g2⟩]
    | cons q t =>
      simp only
      constructor
      · intro h; simp at h
      · rintro ⟨r, g1, g2, g3, g4⟩
        have hq := (hm q).1 (by rw [hE]; simp)
        have a1 := g3 p hp.1 hp.2
        have a2 := g3 q hq.1 hq.2
        rw [hE] at hn
        simp [a1, a2] at hn
def eAt (l : List P2) (k : Nat) : Sg := (ptAt l k, ptAt l ((k + 1) % l.length))
theorem meetE_P {l : List P2} {i j : Nat} (hi : i < l.length) (hj : j < l.length) (hok : okL l = true) (ni : ptAt l i ≠ ptAt l ((i + 1) % l.length)) (nj : ptAt l j ≠ ptAt l ((j + 1) % l.length)) :
    meetE (edgesL l) i j = meetP (eAt l i) (eAt l j) := by
  obtain ⟨a1, a2, a3, a4⟩ := edgesL_at l i hi
  obtain ⟨b1, b2, b3, b4⟩ := edgesL_at l j hj
  unfold meetE meetP eAt ptAt
  rw [a1, a2, a3, a4, b1, b2, b3, b4]
  refine (meet_eq ?_ ?_).symm
  · have x := okL_bd hok i; have y := okL_bd hok ((i + 1) % l.length)
    exact okS_iff.2 ⟨⟨x.1, x.2⟩, ⟨y.1, y.2⟩, fun h => ni (by unfold ptAt; rw [h.1, h.2])⟩
  · have x := okL_bd hok j; have y := okL_bd hok ((j + 1) % l.length)
    exact okS_iff.2 ⟨⟨x.1, x.2⟩, ⟨y.1, y.2⟩, fun h => nj (by unfold ptAt; rw [h.1, h.2])⟩
theorem bothP_comm {e f : Sg} {p : P2} (h : bothP e f p) : bothP f e p := ⟨h.2, h.1⟩
theorem ons_end1 (a b : P2) : OnS a a b := ⟨(tt_self a b).1, by omega, by omega⟩
theorem ons_end2 (a b : P2) : OnS b a b := ⟨(tt_self a b).2.1, by omega, by omega⟩
theorem pt_inj {l : List P2} (nd : l.Nodup) {i j : Nat} (hi : i < l.length) (hj : j < l.length) (h : ptAt l i = ptAt l j) : i = j := by
  rw [ptAt_get l i hi, ptAt_get l j hj] at h
  exact (List.getElem_inj nd).1 h
theorem nx_lt {n i : Nat} (h : i < n) : (i + 1) % n < n := Nat.mod_lt _ (by omega)
theorem rep_nd {l : List P2} (h : repI l = false) : l.Nodup := by
  rw [List.Nodup, List.pairwise_iff_getElem]
  intro i j hi hj hij e
  have e' : ptAt l i = ptAt l j := by rw [ptAt_get l i hi, ptAt_get l j hj, e]
  unfold ptAt at e'
  simp only [Prod.mk.injEq] at e'
  have := rep_no h hi hj e'.1 e'.2
  omega
theorem nd_rep {l : List P2} (hok : okL l = true) (nd : l.Nodup) : repI l = false :=
  rep_none1 hok fun i j hij hi h => by
    have := pt_inj nd hi (show j < l.length by omega) (by unfold ptAt; rw [h.1, h.2])
    omega
/-- what CheckPoly accepts is a simple polygon -/
theorem poly_simp {l : List P2} (h : polyI l = 0) : Simp l := by
  obtain ⟨hck, h3, hr, ha⟩ := polyI_ok h
  obtain ⟨_, hok⟩ := ckPts_zero hck
  have nd : l.Nodup := rep_nd hr
  have rows := (apartB_iff l).1 ha
  have ne1 : ∀ k, k < l.length → ptAt l k ≠ ptAt l ((k + 1) % l.length) := fun k hk e => by
    have := pt_inj nd hk (nx_lt hk) e
    rw [nx hk] at this; split at this <;> omega
  have val : ∀ i j, i < j → j < l.length → meetP (eAt l i) (eAt l j) = wantI l.length i j := fun i j hij hj => by
    rw [← meetE_P (by omega) hj hok (ne1 i (by omega)) (ne1 j hj)]
    exact rows i (by omega) j hij hj
  -- a common end of two edges is a common corner
  have com : ∀ i j, i < j → j < l.length → ∀ u, isEnd (eAt l i) (eAt l j) u → bothP (eAt l i) (eAt l j) u → (u = ptAt l i ∨ u = ptAt l ((i + 1) % l.length)) ∧ (u = ptAt l j ∨ u = ptAt l ((j + 1) % l.length)) := by
    intro i j hij hj u hu hb
    have v := val i j hij hj
    unfold wantI at v
    split at v
    · obtain ⟨p, g1, g2, g3, g4⟩ := (meetP_one (ne1 i (by omega)) (ne1 j hj)).1 v
      rw [g3 u hu hb]; exact ⟨g1, g2⟩
    · exact absurd hb (((meetP_none (ne1 i (by omega)) (ne1 j hj)).1 v).1 u hu)
  refine ⟨nd, ?_, ?_, by omega⟩
  · intro e he v hv h1 h2 hon
    obtain ⟨i, hi, rfl⟩ := EE_mem.1 he
    obtain ⟨j, hj, rfl⟩ := pt_mem.1 hv
    rcases Nat.lt_trichotomy i j with g | g | g
    · have := com i j g hj (ptAt l j) (Or.inr (Or.inr (Or.inl rfl))) ⟨hon, ons_end1 _ _⟩
      rcases this.1 with e | e
      · exact h1 e
      · exact h2 e
    · subst g; exact h1 rfl
    · have := com j i g hi (ptAt l j) (Or.inl rfl) ⟨ons_end1 _ _, hon⟩
      rcases this.2 with e | e
      · exact h1 e
      · exact h2 e
  · intro e he f hf hc
    obtain ⟨i, hi, rfl⟩ := EE_mem.1 he
    obtain ⟨j, hj, rfl⟩ := EE_mem.1 hf
    have main : ∀ i j, i < j → j < l.length → ¬ Cr (ptAt l i) (ptAt l ((i + 1) % l.length)) (ptAt l j) (ptAt l ((j + 1) % l.length)) := by
      intro i j hij hj hc
      have v := val i j hij hj
      unfold wantI at v
      split at v
      · obtain ⟨p, g1, g2, g3, g4⟩ := (meetP_one (ne1 i (by omega)) (ne1 j hj)).1 v
        have z : TT (ptAt l i) (ptAt l ((i + 1) % l.length)) p = 0 := g4.1.1
        have := hc.1
        unfold eAt at g2
        rcases g2 with g | g <;> (subst g; simp only at z; rw [z] at this; simp at this)
      · exact ((meetP_none (ne1 i (by omega)) (ne1 j hj)).1 v).2 hc
    rcases Nat.lt_trichotomy i j with g | g | g
    · exact main i j g hj hc
    · subst g; exact cr_self _ _ hc
    · exact main j i g hi (cr_comm hc)
/-- a simple polygon is accepted by CheckPoly -/
theorem simp_poly {l : List P2} (hok : okL l = true) (hl : l.length ≤ 200) (hs : Simp l) : polyI l = 0 := by
  have h3 := hs.three
  have nd := hs.nd
  have ne1 : ∀ k, k < l.length → ptAt l k ≠ ptAt l ((k + 1) % l.length) := fun k hk e => by
    have := pt_inj nd hk (nx_lt hk) e
    rw [nx hk] at this; split at this <;> omega
  have hck : ckPts l 200 = 0 := by unfold ckPts; rw [if_neg (by omega), if_pos hok]
  have hr : repI l = false := nd_rep hok nd
  refine (poly_4 hck (by omega) hr ((apartB_iff l).2 ?_)).symm
  intro i hi j hij hj
  rw [meetE_P hi hj hok (ne1 i hi) (ne1 j hj)]
  have hEi : eAt l i ∈ EE l := EE_mem.2 ⟨i, hi, rfl⟩
  have hEj : eAt l j ∈ EE l := EE_mem.2 ⟨j, hj, rfl⟩
  have com : ∀ u, isEnd (eAt l i) (eAt l j) u → bothP (eAt l i) (eAt l j) u → (u = ptAt l i ∨ u = ptAt l ((i + 1) % l.length)) ∧ (u = ptAt l j ∨ u = ptAt l ((j + 1) % l.length)) := by
    intro u hu hb
    have hm : u ∈ l := by
      rcases hu with g | g | g | g <;> rw [g]
      · exact pt_mem.2 ⟨i, hi, rfl⟩
      · exact pt_mem.2 ⟨_, nx_lt hi, rfl⟩
      · exact pt_mem.2 ⟨j, hj, rfl⟩
      · exact pt_mem.2 ⟨_, nx_lt hj, rfl⟩
    constructor
    · by_cases g1 : u = ptAt l i
      · exact Or.inl g1
      · by_cases g2 : u = ptAt l ((i + 1) % l.length)
        · exact Or.inr g2
        · exact absurd hb.1 (hs.on _ hEi u hm g1 g2)
    · by_cases g1 : u = ptAt l j
      · exact Or.inl g1
      · by_cases g2 : u = ptAt l ((j + 1) % l.length)
        · exact Or.inr g2
        · exact absurd hb.2 (hs.on _ hEj u hm g1 g2)
  by_cases hadj : j = i + 1 ∨ (i = 0 ∧ j + 1 = l.length)
  · rw [want_1 hadj, meetP_one (ne1 i hi) (ne1 j hj)]
    rcases hadj with hadj | hadj
    · have e1 : (i + 1) % l.length = j := by rw [nx hi, if_neg (by omega)]; omega
      refine ⟨ptAt l j, Or.inr (by unfold eAt; rw [e1]), Or.inl rfl, ?_, ?_⟩
      · intro u hu hb
        obtain ⟨a, b⟩ := com u hu hb
        rw [e1] at a
        rcases a with a | a
        · rcases b with b | b
          · exact b
          · exfalso
            have := pt_inj nd hi (nx_lt hj) (a.symm.trans b)
            rw [nx hj] at this; split at this <;> omega
        · exact a
      · unfold bothP eAt; rw [e1]; exact ⟨ons_end2 _ _, ons_end1 _ _⟩
    · have e1 : (j + 1) % l.length = i := by rw [nx hj, if_pos hadj.2]; omega
      refine ⟨ptAt l i, Or.inl rfl, Or.inr (by unfold eAt; rw [e1]), ?_, ?_⟩
      · intro u hu hb
        obtain ⟨a, b⟩ := com u hu hb
        rw [e1] at b
        rcases b with b | b
        · rcases a with a | a
          · exact a
          · exfalso
            have := pt_inj nd hj (nx_lt hi) (b.symm.trans a)
            rw [nx hi] at this; split at this <;> omega
        · exact b
      · unfold bothP eAt; rw [e1]; exact ⟨ons_end1 _ _, ons_end2 _ _⟩
  · rw [want_0 hadj, meetP_none (ne1 i hi) (ne1 j hj)]
    refine ⟨?_, hs.cr _ hEi _ hEj⟩
    intro u hu hb
    obtain ⟨a, b⟩ := com u hu hb
    have ni := nx hi
    have nj := nx hj
    rcases a with a | a <;> rcases b with b | b
    · have := pt_inj nd hi hj (a.symm.trans b); omega
    · have := pt_inj nd hi (nx_lt hj) (a.symm.trans b)
      rw [nj] at this; split at this <;> omega
    · have := pt_inj nd (nx_lt hi) hj (a.symm.trans b)
      rw [ni] at this; split at this <;> omega
    · have := pt_inj nd (nx_lt hi) (nx_lt hj) (a.symm.trans b)
      rw [ni, nj] at this; split at this <;> split at this <;> omega
def NoStr (l : List P2) : Prop := ∀ v t, At l v t → t ≠ 0
theorem noStr_perm {l l' : List P2} (he : (EE l').Perm (EE l)) (h : NoStr l) : NoStr l' := fun v t hv => h v t (at_perm he hv)
theorem at_idx (l : List P2) {k : Nat} (hk : k < l.length) : At l (ptAt l k) (TT (ptAt l ((k + l.length - 1) % l.length)) (ptAt l k) (ptAt l ((k + 1) % l.length))) :=
  ⟨_, _, EE_mem.2 ⟨(k + l.length - 1) % l.length, Nat.mod_lt _ (by omega), by rw [prev_next hk]⟩, EE_mem.2 ⟨k, hk, rfl⟩, rfl⟩
theorem noStr_turn {l : List P2} (h : NoStr l) {k : Nat} (hk : k < l.length) : turnAt l l.length k ≠ 0 := fun e => h _ _ (at_idx l hk) ((turnAt_zero l l.length k).1 e)
theorem turn_noStr {l : List P2} (nd : l.Nodup) (h : ∀ k, k < l.length → turnAt l l.length k ≠ 0) : NoStr l := by
  rintro v t ⟨p, q, h1, h2, rfl⟩ e
  obtain ⟨i, hi, e1⟩ := EE_mem.1 h1
  obtain ⟨k, hk, e2⟩ := EE_mem.1 h2
  simp only [Prod.mk.injEq] at e1 e2
  have hik : (i + 1) % l.length = k := pt_inj nd (nx_lt hi) hk (e1.2.symm.trans e2.1)
  refine h k hk ((turnAt_zero l l.length k).2 ?_)
  have : (k + l.length - 1) % l.length = i := by
    rw [← hik, nx hi]; split
    · rw [Nat.mod_eq_of_lt] <;> omega
    · rw [show i + 1 + l.length - 1 = i + l.length from by omega, Nat.add_mod_right, Nat.mod_eq_of_lt hi]
  rw [this, ← e1.1, ← e2.1, ← e2.2]; exact e
theorem noStr_rev {l : List P2} (h : NoStr l) : NoStr l.reverse := fun v t hv => by
  have := at_rev hv; rw [List.reverse_reverse] at this
  have := h v _ this; omega
theorem rot_EE (l : List P2) (f : Nat) : (EE (rotL l f)).Perm (EE l) := by
  have := EE_rot (l.drop f) (l.take f); rw [List.take_append_drop] at this; exact this
theorem rot_perm (l : List P2) (f : Nat) : (rotL l f).Perm l := by unfold rotL; exact List.perm_append_comm.trans (by rw [List.take_append_drop])
theorem simp_rot {l : List P2} (hs : Simp l) (f : Nat) : Simp (rotL l f) := simp_perm hs (rot_perm l f).symm (fun e h => (rot_EE l f).mem_iff.1 h)
theorem bends_noStr : ∀ n (l : List P2), l.length ≤ n → Bnd l → Simp l → NoStr (normB l) := by
  intro n
  induction n with
  | zero => intro l h _ hs; have := hs.three; omega
  | succ n ih =>
    intro l hl hb hs
    by_cases hall : ∀ k, k < l.length → turnAt l l.length k ≠ 0
    · rw [bends_self l hall]; exact turn_noStr hs.nd hall
    · obtain ⟨f, hf⟩ := Classical.not_forall.1 hall
      rw [not_imp, Classical.not_not] at hf
      obtain ⟨hf, ht⟩ := hf
      have hp := rot_perm l f
      have hsr := simp_rot hs f
      have hbr : Bnd (rotL l f) := fun v hv => hb v (hp.mem_iff.1 hv)
      have ht0 : turnAt (rotL l f) l.length 0 = 0 := by rw [turnAt_rot l f 0 (by omega) (by omega), Nat.add_zero, Nat.mod_eq_of_lt hf]; exact ht
      have hlen : (rotL l f).length = l.length := hp.length_eq
      have hback : NoStr (normB (rotL l f)) → NoStr (normB l) := by
        intro h
        rw [normB_rot l f (by omega)] at h
        rw [normB_split l f (by omega)]
        exact noStr_perm (EE_rot _ _) h
      refine hback ?_
      rw [← hlen] at ht0 hl
      generalize rotL l f = M at *
      have h3 := hsr.three
      match M, h3 with
      | v :: c :: M', h3 =>
        rcases List.eq_nil_or_concat M' with rfl | ⟨R, a, rfl⟩
        · simp at h3
        · rw [List.concat_eq_append] at *
          rw [turnAt_zero] at ht0
          have e1 : (0 + (v :: c :: (R ++ [a])).length - 1) % (v :: c :: (R ++ [a])).length = (R.length + 1) + 1 := by rw [Nat.mod_eq_of_lt] <;> simp
          have e2 : (0 + 1) % (v :: c :: (R ++ [a])).length = 0 + 1 := by rw [Nat.mod_eq_of_lt]; simp
          rw [e1, e2, ptAt_cons, ptAt_cons, ptAt_cons, ptAt_zero, ptAt_zero, ptAt_app] at ht0
          obtain ⟨hR, hs2⟩ := simp_strike hbr hsr ht0
          have nd := nd_ne hsr.nd
          obtain ⟨m, N, k0, k1, kx, ky⟩ := on_par (straight hsr ht0) nd.2.1 nd.1
          have f1 : ∀ u, TT v c u = 0 ↔ TT a c u = 0 := fun u => by
            have := par_tt kx ky c u
            rw [(tt_self c u).1, Int.mul_zero, Int.add_zero] at this
            have g1 : TT c u v = TT v c u := by unfold TT; grind
            have g2 : TT c u a = TT a c u := by unfold TT; grind
            rw [g1, g2] at this
            constructor <;> intro h
            · rw [h, Int.mul_zero] at this
              exact (Int.mul_eq_zero.1 this.symm).resolve_left (by omega)
            · rw [h, Int.mul_zero] at this
              exact (Int.mul_eq_zero.1 this).resolve_left (by omega)
          have f2 : ∀ u, TT u a v = 0 ↔ TT u a c = 0 := fun u => by
            have := par_tt kx ky u a
            rw [(tt_self u a).2.1, Int.mul_zero, Int.zero_add] at this
            constructor <;> intro h
            · rw [h, Int.mul_zero] at this
              exact (Int.mul_eq_zero.1 this.symm).resolve_left (by omega)
            · rw [h, Int.mul_zero] at this
              exact (Int.mul_eq_zero.1 this).resolve_left (by omega)
          rw [normB_drop ht0 f1 f2 nd.2.2.1.symm hR]
          exact ih _ (by simp at hl ⊢; omega) (fun u hu => hbr u (List.mem_cons_of_mem _ hu)) hs2
theorem okL_bnd {l : List P2} (h : okL l = true) : Bnd l := by
  intro v hv
  have := List.all_eq_true.1 h v hv
  have := okP_iff.1 this
  omega
theorem okL_mem {l l' : List P2} (h : okL l = true) (hm : ∀ v ∈ l', v ∈ l) : okL l' = true := by
  unfold okL at *
  rw [List.all_eq_true] at h ⊢
  exact fun v hv => h v (hm v hv)
theorem areaI_A2 {l : List P2} (hok : okL l = true) (hl : l.length ≤ 400) : areaI l = A2 l := by
  unfold areaI
  rw [if_pos (by unfold ckPts; rw [if_neg (by omega), if_pos hok]), cross_A2]
theorem bends_mem {l : List P2} {v : P2} (h : v ∈ normB l) : v ∈ l := by
  unfold normB at h
  rw [bendsTo_filter] at h
  obtain ⟨k, hk, rfl⟩ := List.mem_map.1 h
  have := List.mem_range.1 (List.mem_filter.1 hk).1
  exact pt_mem.2 ⟨k, this, rfl⟩
theorem bends_len (l : List P2) : (normB l).length ≤ l.length := by
  unfold normB
  rw [bendsTo_filter, List.length_map]
  exact Nat.le_trans (List.length_filter_le _ _) (by simp)
theorem list_ext_pt {l l' : List P2} (h : l.length = l'.length) (he : ∀ i, i < l.length → ptAt l i = ptAt l' i) : l = l' := by
  apply List.ext_getElem h
  intro i h1 h2
  have := he i h1
  rwa [ptAt_get l i h1, ptAt_get l' i h2] at this
theorem rot_pt (l : List P2) {f i : Nat} (hf : f ≤ l.length) (hi : i < l.length) : ptAt (rotL l f) i = ptAt l ((f + i) % l.length) := by
  obtain ⟨h1, h2⟩ := rot_at l f i hf hi
  unfold ptAt; rw [h1, h2]
theorem rot_rot (m : List P2) {f g : Nat} (hf : f < m.length) (hg : g < m.length) : rotL (rotL m f) g = rotL m ((f + g) % m.length) := by
  have hm : (f + g) % m.length < m.length := Nat.mod_lt _ (by omega)
  have l1 := rotL_len m f (by omega)
  apply list_ext_pt
  · rw [rotL_len _ _ (by omega), l1, rotL_len m _ (by omega)]
  · intro i hi
    rw [rotL_len _ _ (by omega), l1] at hi
    rw [rot_pt _ (by omega) (by omega), l1, rot_pt _ (by omega) (Nat.mod_lt _ (by omega)), rot_pt _ (by omega) hi]
    congr 1
    rw [Nat.add_mod_mod, Nat.mod_add_mod]
    congr 1; omega
theorem rot_zero (m : List P2) : rotL m 0 = m := by simp [rotL]
/-- turned so that the least corner comes first, whatever it began with -/
theorem rot_least {m : List P2} (hok : okL m = true) (nd : m.Nodup) {f : Nat} (hf : f < m.length) : rotL (rotL m f) (leastTo (rotL m f) (rotL m f).length) = rotL m (leastTo m m.length) := by
  have l1 := rotL_len m f (by omega)
  have nd' : (rotL m f).Nodup := (rot_perm m f).nodup_iff.2 nd
  obtain ⟨a1, a2⟩ := least_lt (nd_rep (okL_mem hok fun v hv => (rot_perm m f).mem_iff.1 hv) nd') (by omega)
  obtain ⟨b1, b2⟩ := least_lt (nd_rep hok nd) (by omega)
  generalize leastTo (rotL m f) (rotL m f).length = g at *
  rw [l1] at a1 a2
  rw [rot_rot m hf a1]
  congr 1
  refine Classical.byContradiction fun hne => ?_
  have hm : (f + g) % m.length < m.length := Nat.mod_lt _ (by omega)
  have c1 := b2 _ hm hne
  -- where the least of m lies in the turned list
  obtain ⟨i, hi, e⟩ : ∃ i, i < m.length ∧ (f + i) % m.length = leastTo m m.length := by
    refine ⟨(leastTo m m.length + (m.length - f)) % m.length, Nat.mod_lt _ (by omega), ?_⟩
    rw [Nat.add_mod_mod, show f + (leastTo m m.length + (m.length - f)) = leastTo m m.length + m.length from by omega, Nat.add_mod_right, Nat.mod_eq_of_lt b1]
  have hig : i ≠ g := by rintro rfl; exact hne e
  have c2 := a2 i hi hig
  rw [rot_pt m (by omega) a1, rot_pt m (by omega) hi, e] at c2
  unfold lexLt at c1 c2; omega
/-- the normal form of a turned list -/
theorem norm_rot {l : List P2} (h : polyI l = 0) {f : Nat} (hf : f < l.length) : polyI (rotL l f) = 0 ∧ normL (rotL l f) = normL l := by
  have hs := poly_simp h
  obtain ⟨hck, h3, hr, ha⟩ := polyI_ok h
  obtain ⟨hl, hok⟩ := ckPts_zero hck
  have l1 := rotL_len l f (by omega)
  have hok' : okL (rotL l f) = true := okL_mem hok fun v hv => (rot_perm l f).mem_iff.1 hv
  have hp := simp_poly hok' (by omega) (simp_rot hs f)
  refine ⟨hp, ?_⟩
  rw [← norm_eq hp, ← norm_eq h]
  unfold refN refA
  rw [areaI_A2 hok' (by omega), areaI_A2 hok (by omega), A2_perm (rot_EE l f)]
  by_cases hA : A2 l < 0
  · rw [if_pos hA, if_pos hA]
    by_cases h0 : f = 0
    · subst h0; rw [rot_zero]
    · have e : (rotL l f).reverse = rotL l.reverse (l.length - f) := by
        unfold rotL
        rw [List.reverse_append, List.drop_reverse, List.take_reverse, show l.length - (l.length - f) = f from by omega]
      rw [e, rot_least (m := l.reverse) (f := l.length - f) (okL_mem hok fun v hv => List.mem_reverse.1 hv) ((List.reverse_perm l).nodup_iff.2 hs.nd) (by simp; omega)]
  · rw [if_neg hA, if_neg hA]
    rw [rot_least hok hs.nd hf]
/-- the normal form of the list in the opposite order -/
theorem norm_rev {l : List P2} (h : polyI l = 0) : polyI l.reverse = 0 ∧ normL l.reverse = normL l := by
  have hs := poly_simp h
  obtain ⟨hck, h3, hr, ha⟩ := polyI_ok h
  obtain ⟨hl, hok⟩ := ckPts_zero hck
  have hok' : okL l.reverse = true := okL_mem hok fun v hv => List.mem_reverse.1 hv
  have hp := simp_poly hok' (by simp; omega) (simp_rev hs)
  refine ⟨hp, ?_⟩
  rw [← norm_eq hp, ← norm_eq h]
  unfold refN refA
  have hA := simp_area (okL_bnd hok) hs
  rw [areaI_A2 hok' (by simp; omega), areaI_A2 hok (by omega), A2_rev]
  by_cases hn : A2 l < 0
  · rw [if_pos hn, if_neg (by omega)]
  · rw [if_neg hn, if_pos (by omega), List.reverse_reverse]
/-- the normal form is a simple polygon, turns left, has no straight corners, and begins with its least corner -/
theorem norm_self {l : List P2} (h : polyI l = 0) : Simp (normL l) ∧ NoStr (normL l) ∧ 0 < A2 (normL l) ∧ okL (normL l) = true ∧ (normL l).length ≤ l.length ∧ polyI (normL l) = 0 ∧ normL (normL l) = normL l := by
  have hs := poly_simp h
  obtain ⟨hck, h3, hr, ha⟩ := polyI_ok h
  obtain ⟨hl, hok⟩ := ckPts_zero hck
  have hb := okL_bnd hok
  have s1 := simp_bends _ l (Nat.le_refl _) hb hs
  have n1 := bends_noStr _ l (Nat.le_refl _) hb hs
  have ok1 : okL (normB l) = true := okL_mem hok fun v hv => bends_mem hv
  have len1 := bends_len l
  have A1 := simp_area (okL_bnd ok1) s1
  have cc : Simp (normC l) ∧ NoStr (normC l) ∧ 0 < A2 (normC l) ∧ okL (normC l) = true ∧ (normC l).length ≤ l.length := by
    unfold normC
    rw [areaI_A2 ok1 (by omega)]
    by_cases hn : A2 (normB l) < 0
    · rw [if_pos hn, revTo_rev]
      exact ⟨simp_rev s1, noStr_rev n1, by rw [A2_rev]; omega, okL_mem ok1 fun v hv => List.mem_reverse.1 hv, by simpa using len1⟩
    · rw [if_neg hn]
      exact ⟨s1, n1, by omega, ok1, len1⟩
  obtain ⟨s2, n2, A2', ok2, len2⟩ := cc
  have h0 : 0 < (normC l).length := by have := s2.three; omega
  obtain ⟨k1, k2⟩ := least_lt (nd_rep ok2 s2.nd) h0
  have e : normL l = rotL (normC l) (leastTo (normC l) (normC l).length) := rfl
  have s3 : Simp (normL l) := by rw [e]; exact simp_rot s2 _
  have n3 : NoStr (normL l) := by rw [e]; exact noStr_perm (rot_EE _ _) n2
  have a3 : 0 < A2 (normL l) := by rw [e, A2_perm (rot_EE _ _)]; exact A2'
  have ok3 : okL (normL l) = true := by rw [e]; exact okL_mem ok2 fun v hv => (rot_perm _ _).mem_iff.1 hv
  have len3 : (normL l).length = (normC l).length := by rw [e, rotL_len _ _ (by omega)]
  have p3 := simp_poly ok3 (by omega) s3
  refine ⟨s3, n3, a3, ok3, by omega, p3, ?_⟩
  have b3 : normB (normL l) = normL l := bends_self _ fun k hk => noStr_turn n3 hk
  have c3 : normC (normL l) = normL l := by
    unfold normC; rw [b3, areaI_A2 ok3 (by omega), if_neg (by omega)]
  have z : leastTo (normL l) (normL l).length = 0 := by
    refine least_unique (by omega) ?_
    intro i hi hne
    rw [len3] at hi
    rw [e, rot_pt _ (by omega) h0, rot_pt _ (by omega) hi, Nat.add_zero, Nat.mod_eq_of_lt k1]
    refine k2 _ (Nat.mod_lt _ h0) ?_
    intro hh
    have : ptAt (rotL (normC l) (leastTo (normC l) (normC l).length)) i = ptAt (rotL (normC l) (leastTo (normC l) (normC l).length)) 0 := by
      rw [rot_pt _ (by omega) hi, rot_pt _ (by omega) h0, hh, Nat.add_zero, Nat.mod_eq_of_lt k1]
    have := pt_inj s3.nd (by rw [len3]; exact hi) (by rw [len3]; exact h0) (by rw [e]; exact this)
    exact hne this
  show rotL (normC (normL l)) (leastTo (normC (normL l)) (normC (normL l)).length) = normL l
  rw [c3, z, rot_zero]

end Geo
end Go.Proofs.YtpdfbboagaflhaaGreat

set_option linter.unusedSimpArgs false
set_option linter.unusedVariables false
namespace Go.Proofs.YtpdfbboagaflhaaGreat
namespace Geo

def othI (n f : Nat) (bk : Bool) (i : Nat) : Nat := if bk = true then n - 1 - (i + f) % n else (i + f) % n
def othT (l : List P2) (f : Nat) (bk : Bool) (t : Nat) : List P2 := (List.range t).map fun i => ptAt l (othI l.length f bk i)
theorem othT_length (l : List P2) (f : Nat) (bk : Bool) (t : Nat) : (othT l f bk t).length = t := by simp [othT]
theorem othT_succ (l : List P2) (f : Nat) (bk : Bool) (t : Nat) : othT l f bk (t + 1) = othT l f bk t ++ [(px l (othI l.length f bk t), py l (othI l.length f bk t))] := by
  unfold othT; rw [List.range_succ, List.map_append]; rfl
theorem oth_eq (l : List P2) (f : Nat) (bk : Bool) (h0 : 0 < l.length) : othT l f bk l.length = rotL (if bk = true then l.reverse else l) (f % l.length) := by
  have hf : f % l.length < l.length := Nat.mod_lt _ h0
  have hl : (if bk = true then l.reverse else l).length = l.length := by split <;> simp
  apply list_ext_pt
  · rw [othT_length, rotL_len _ _ (by rw [hl]; omega), hl]
  · intro i hi
    rw [othT_length] at hi
    rw [rot_pt _ (by rw [hl]; omega) (by rw [hl]; exact hi), hl]
    have e : (f % l.length + i) % l.length = (i + f) % l.length := by rw [Nat.mod_add_mod, Nat.add_comm]
    rw [e]
    have hm : (i + f) % l.length < l.length := Nat.mod_lt _ h0
    have e2 : ptAt (othT l f bk l.length) i = ptAt l (othI l.length f bk i) := by
      have : ptAt (othT l f bk l.length) i = (othT l f bk l.length)[i]'(by rw [othT_length]; exact hi) := ptAt_get _ _ _
      rw [this]; unfold othT; simp
    rw [e2]; unfold othI
    split
    · obtain ⟨a, b⟩ := rev_px l _ hm
      unfold ptAt; rw [a, b]
    · rfl
theorem oth_norm {l : List P2} (hp : polyI l = 0) (f : Nat) (bk : Bool) : polyI (othT l f bk l.length) = 0 ∧ normL (othT l f bk l.length) = normL l := by
  have h3 := (poly_simp hp).three
  rw [oth_eq l f bk (by omega)]
  split
  · obtain ⟨a, b⟩ := norm_rev hp
    have := norm_rot a (f := f % l.length) (by rw [List.length_reverse]; exact Nat.mod_lt _ (by omega))
    exact ⟨this.1, this.2.trans b⟩
  · exact norm_rot hp (Nat.mod_lt _ (by omega))

end Geo
end Go.Proofs.YtpdfbboagaflhaaGreat

set_option linter.unusedSimpArgs false
set_option linter.unusedVariables false
set_option linter.unusedSectionVars false
namespace Go.Proofs.YtpdfbboagaflhaaGreat
namespace Geo

/-- how an edge passes the ray to the right of a point -/
def ps (u w p : P2) : Int := if u.2 ≤ p.2 ∧ p.2 < w.2 ∧ 0 < TT u w p then 1 else if w.2 ≤ p.2 ∧ p.2 < u.2 ∧ TT u w p < 0 then -1 else 0
def wind (l : List P2) (p : P2) : Int := ((EE l).map fun e => ps e.1 e.2 p).sum
theorem ps_swap (u w p : P2) : ps w u p = - ps u w p := by
  unfold ps; rw [tt_swap u w p]
  repeat' split
  all_goals omega
/-- the side on which a corner lies, seen from an ascending segment -/
def fs (q q' u : P2) : Int := if q.2 < u.2 ∧ u.2 ≤ q'.2 ∧ TT q q' u < 0 then 1 else 0
def NoTouch (q q' u w : P2) : Prop := ¬ OnS q u w ∧ ¬ OnS q' u w ∧ ¬ OnS u q q' ∧ ¬ OnS w q q'
theorem noTouch_swap {q q' u w : P2} (h : NoTouch q q' u w) : NoTouch q q' w u := ⟨fun g => h.1 (ons_swap g), fun g => h.2.1 (ons_swap g), h.2.2.2, h.2.2.1⟩
theorem noTouch_swap' {q q' u w : P2} (h : NoTouch q q' u w) : NoTouch q' q u w := ⟨h.2.1, h.1, fun g => h.2.2.1 (ons_swap g), fun g => h.2.2.2 (ons_swap g)⟩
theorem ons_h {p u w : P2} (h0 : TT u w p = 0) (hn : u.2 < w.2) (h1 : u.2 ≤ p.2) (h2 : p.2 ≤ w.2) : OnS p u w := by
  refine par_on (m := p.2 - u.2) (N := w.2 - u.2) (by omega) (by omega) (by omega) ?_ ?_
  · unfold TT at h0; grind
  · grind
theorem ons_h1 {p u w : P2} (h0 : u.2 = w.2) (h : p.2 = u.2) (h1 : u.1 ≤ p.1) (h2 : p.1 ≤ w.1) : OnS p u w := by
  refine ⟨?_, by omega, by omega⟩
  unfold TT; rw [← h0, h]; grind
theorem sgn_pos {k a : Int} (hk : 0 < k) : (0 < k * a ↔ 0 < a) ∧ (k * a < 0 ↔ a < 0) ∧ (k * a = 0 ↔ a = 0) := by
  refine ⟨pos_iff hk, ⟨neg_of hk, fun h => Int.mul_neg_of_pos_of_neg hk h⟩, ?_⟩
  rw [Int.mul_eq_zero]; constructor
  · rintro (h | h) <;> omega
  · exact Or.inr
def jump (q u w : P2) : Int := if 0 < TT u w q then 1 else -1
theorem mono_k {k y y' : Int} (hk : 0 ≤ k) (hy : y ≤ y') : 0 ≤ k * (y' - y) := Int.mul_nonneg hk (by omega)
theorem mono_k' {k y y' : Int} (hk : k ≤ 0) (hy : y ≤ y') : k * (y' - y) ≤ 0 := Int.mul_nonpos_of_nonpos_of_nonneg hk (by omega)
theorem sgk (k y y' : Int) : (0 ≤ k → y ≤ y' → 0 ≤ k * (y' - y)) ∧ (0 ≤ k → y' ≤ y → k * (y' - y) ≤ 0) ∧ (k ≤ 0 → y ≤ y' → k * (y' - y) ≤ 0) ∧ (k ≤ 0 → y' ≤ y → 0 ≤ k * (y' - y)) := by
  refine ⟨mono_k, ?_, mono_k', ?_⟩
  · intro h1 h2; exact Int.mul_nonpos_of_nonneg_of_nonpos h1 (by omega)
  · intro h1 h2; exact Int.mul_nonneg_of_nonpos_of_nonpos h1 (by omega)
set_option maxHeartbeats 4000000 in
/-- segments at two heights -/
theorem flux_up {q q' u w : P2} (hq : q.2 < q'.2) (hu : u.2 < w.2) (hn : NoTouch q q' u w) :
    (Cr q q' u w → ps u w q - ps u w q' - (fs q q' w - fs q q' u) = jump q u w) ∧ (¬ Cr q q' u w → ps u w q - ps u w q' - (fs q q' w - fs q q' u) = 0) := by
  obtain ⟨n1, n2, n3, n4⟩ := hn
  -- the four values of one linear function
  have d1 : (q'.2 - q.2) * TT u w q' - (q'.2 - q.2) * TT u w q = (TT u w q' - TT u w q) * (q'.2 - q.2) := by grind
  have d2 : - ((w.2 - u.2) * TT q q' u) - (q'.2 - q.2) * TT u w q = (TT u w q' - TT u w q) * (u.2 - q.2) := by unfold TT; grind
  have d3 : - ((w.2 - u.2) * TT q q' w) - (q'.2 - q.2) * TT u w q = (TT u w q' - TT u w q) * (w.2 - q.2) := by unfold TT; grind
  have d4 : - ((w.2 - u.2) * TT q q' w) + ((w.2 - u.2) * TT q q' u) = (TT u w q' - TT u w q) * (w.2 - u.2) := by unfold TT; grind
  have d5 : - ((w.2 - u.2) * TT q q' w) - (q'.2 - q.2) * TT u w q' = (TT u w q' - TT u w q) * (w.2 - q'.2) := by unfold TT; grind
  have d6 : - ((w.2 - u.2) * TT q q' u) - (q'.2 - q.2) * TT u w q' = (TT u w q' - TT u w q) * (u.2 - q'.2) := by unfold TT; grind
  have sA := sgn_pos (k := q'.2 - q.2) (a := TT u w q) (by omega)
  have sB := sgn_pos (k := q'.2 - q.2) (a := TT u w q') (by omega)
  have sC := sgn_pos (k := w.2 - u.2) (a := TT q q' u) (by omega)
  have sE := sgn_pos (k := w.2 - u.2) (a := TT q q' w) (by omega)
  have z1 : u.2 ≤ q.2 → q.2 ≤ w.2 → TT u w q ≠ 0 := fun a b c => n1 (ons_h c hu a b)
  have z2 : u.2 ≤ q'.2 → q'.2 ≤ w.2 → TT u w q' ≠ 0 := fun a b c => n2 (ons_h c hu a b)
  have z3 : q.2 ≤ u.2 → u.2 ≤ q'.2 → TT q q' u ≠ 0 := fun a b c => n3 (ons_h c hq a b)
  have z4 : q.2 ≤ w.2 → w.2 ≤ q'.2 → TT q q' w ≠ 0 := fun a b c => n4 (ons_h c hq a b)
  have cr : Cr q q' u w ↔ (TT q q' u * TT q q' w < 0 ∧ TT u w q * TT u w q' < 0) := Iff.rfl
  have ab : TT u w q * TT u w q' < 0 ↔ (0 < TT u w q ∧ TT u w q' < 0) ∨ (TT u w q < 0 ∧ 0 < TT u w q') := by
    constructor
    · exact mul_neg_cases
    · rintro (⟨a, b⟩ | ⟨a, b⟩)
      · exact Int.mul_neg_of_pos_of_neg a b
      · exact Int.mul_neg_of_neg_of_pos a b
  have ce : TT q q' u * TT q q' w < 0 ↔ (0 < TT q q' u ∧ TT q q' w < 0) ∨ (TT q q' u < 0 ∧ 0 < TT q q' w) := by
    constructor
    · exact mul_neg_cases
    · rintro (⟨a, b⟩ | ⟨a, b⟩)
      · exact Int.mul_neg_of_pos_of_neg a b
      · exact Int.mul_neg_of_neg_of_pos a b
  rw [cr, ab, ce]
  unfold ps fs jump
  generalize hk : TT u w q' - TT u w q = k at *
  generalize TT u w q = A at *
  generalize TT u w q' = B at *
  generalize TT q q' u = C at *
  generalize TT q q' w = E at *
  have e1 := sgk k q.2 u.2
  have e2 := sgk k q.2 w.2
  have e3 := sgk k q'.2 w.2
  have e4 := sgk k q'.2 u.2
  have e5 := sgk k q.2 q'.2
  have e6 := sgk k u.2 w.2
  clear cr ab ce n1 n2 n3 n4
  generalize (q'.2 - q.2) * A = A' at *
  generalize (q'.2 - q.2) * B = B' at *
  generalize (w.2 - u.2) * C = C' at *
  generalize (w.2 - u.2) * E = E' at *
  generalize k * (u.2 - q.2) = P1 at *
  generalize k * (w.2 - q.2) = P2 at *
  generalize k * (w.2 - q'.2) = P3 at *
  generalize k * (u.2 - q'.2) = P4 at *
  generalize k * (q'.2 - q.2) = P5 at *
  generalize k * (w.2 - u.2) = P6 at *
  generalize q.2 = y1 at *
  generalize q'.2 = y2 at *
  generalize u.2 = y3 at *
  generalize w.2 = y4 at *
  simp only [← sA.1, ← sB.1, ← sC.1, ← sE.1, ← sA.2.1, ← sB.2.1, ← sC.2.1, ← sE.2.1]
  simp only [ne_eq, ← sA.2.2, ← sB.2.2, ← sC.2.2, ← sE.2.2] at z1 z2 z3 z4
  clear sA sB sC sE
  have t1 : (if y4 ≤ y1 ∧ y1 < y3 ∧ A' < 0 then (-1 : Int) else 0) = 0 := if_neg (by omega)
  have t2 : (if y4 ≤ y2 ∧ y2 < y3 ∧ B' < 0 then (-1 : Int) else 0) = 0 := if_neg (by omega)
  rw [t1, t2]
  clear t1 t2
  have hkk := Int.le_total 0 k
  by_cases hov : y3 ≤ y2 ∧ y1 < y4
  · obtain ⟨v1, v2⟩ := hov
    rcases Int.lt_or_le y1 y3 with o1 | o1 <;> rcases Int.lt_or_le y2 y4 with o2 | o2
    · have a1 : (if y3 ≤ y1 ∧ y1 < y4 ∧ 0 < A' then (1 : Int) else 0) = 0 := if_neg (by omega)
      have a4 : (if y1 < y3 ∧ y3 ≤ y2 ∧ C' < 0 then (1 : Int) else 0) = if C' < 0 then 1 else 0 := by simp only [v1, o1, true_and]
      have a2 : (if y3 ≤ y2 ∧ y2 < y4 ∧ 0 < B' then (1 : Int) else 0) = if 0 < B' then 1 else 0 := by simp only [v1, o2, true_and]
      have a3 : (if y1 < y4 ∧ y4 ≤ y2 ∧ E' < 0 then (1 : Int) else 0) = 0 := if_neg (by omega)
      rw [a1, a2, a3, a4]; clear a1 a2 a3 a4
      have g1 := z3 (by omega) (by omega); have g2 := z2 (by omega) (by omega); clear z1 z2 z3 z4
      rcases hkk with hk0 | hk0
      · have f1 := e1.1 hk0 (by omega); have f2 := e2.1 hk0 (by omega); have f3 := e3.1 hk0 (by omega); have f4 := e4.2.1 hk0 (by omega); have f5 := e5.1 hk0 (by omega); have f6 := e6.1 hk0 (by omega)
        clear e1 e2 e3 e4 e5 e6
        constructor <;> intro hc <;> (repeat' split) <;> omega
      · have f1 := e1.2.2.1 hk0 (by omega); have f2 := e2.2.2.1 hk0 (by omega); have f3 := e3.2.2.1 hk0 (by omega); have f4 := e4.2.2.2 hk0 (by omega); have f5 := e5.2.2.1 hk0 (by omega); have f6 := e6.2.2.1 hk0 (by omega)
        clear e1 e2 e3 e4 e5 e6
        constructor <;> intro hc <;> (repeat' split) <;> omega
    · have a1 : (if y3 ≤ y1 ∧ y1 < y4 ∧ 0 < A' then (1 : Int) else 0) = 0 := if_neg (by omega)
      have a4 : (if y1 < y3 ∧ y3 ≤ y2 ∧ C' < 0 then (1 : Int) else 0) = if C' < 0 then 1 else 0 := by simp only [v1, o1, true_and]
      have a2 : (if y3 ≤ y2 ∧ y2 < y4 ∧ 0 < B' then (1 : Int) else 0) = 0 := if_neg (by omega)
      have a3 : (if y1 < y4 ∧ y4 ≤ y2 ∧ E' < 0 then (1 : Int) else 0) = if E' < 0 then 1 else 0 := by simp only [v2, o2, true_and]
      rw [a1, a2, a3, a4]; clear a1 a2 a3 a4
      have g1 := z3 (by omega) (by omega); have g2 := z4 (by omega) (by omega); clear z1 z2 z3 z4
      rcases hkk with hk0 | hk0
      · have f1 := e1.1 hk0 (by omega); have f2 := e2.1 hk0 (by omega); have f3 := e3.2.1 hk0 (by omega); have f4 := e4.2.1 hk0 (by omega); have f5 := e5.1 hk0 (by omega); have f6 := e6.1 hk0 (by omega)
        clear e1 e2 e3 e4 e5 e6
        constructor <;> intro hc <;> (repeat' split) <;> omega
      · have f1 := e1.2.2.1 hk0 (by omega); have f2 := e2.2.2.1 hk0 (by omega); have f3 := e3.2.2.2 hk0 (by omega); have f4 := e4.2.2.2 hk0 (by omega); have f5 := e5.2.2.1 hk0 (by omega); have f6 := e6.2.2.1 hk0 (by omega)
        clear e1 e2 e3 e4 e5 e6
        constructor <;> intro hc <;> (repeat' split) <;> omega
    · have a1 : (if y3 ≤ y1 ∧ y1 < y4 ∧ 0 < A' then (1 : Int) else 0) = if 0 < A' then 1 else 0 := by simp only [v2, o1, true_and]
      have a4 : (if y1 < y3 ∧ y3 ≤ y2 ∧ C' < 0 then (1 : Int) else 0) = 0 := if_neg (by omega)
      have a2 : (if y3 ≤ y2 ∧ y2 < y4 ∧ 0 < B' then (1 : Int) else 0) = if 0 < B' then 1 else 0 := by simp only [v1, o2, true_and]
      have a3 : (if y1 < y4 ∧ y4 ≤ y2 ∧ E' < 0 then (1 : Int) else 0) = 0 := if_neg (by omega)
      rw [a1, a2, a3, a4]; clear a1 a2 a3 a4
      have g1 := z1 (by omega) (by omega); have g2 := z2 (by omega) (by omega); clear z1 z2 z3 z4
      rcases hkk with hk0 | hk0
      · have f1 := e1.2.1 hk0 (by omega); have f2 := e2.1 hk0 (by omega); have f3 := e3.1 hk0 (by omega); have f4 := e4.2.1 hk0 (by omega); have f5 := e5.1 hk0 (by omega); have f6 := e6.1 hk0 (by omega)
        clear e1 e2 e3 e4 e5 e6
        constructor <;> intro hc <;> (repeat' split) <;> omega
      · have f1 := e1.2.2.2 hk0 (by omega); have f2 := e2.2.2.1 hk0 (by omega); have f3 := e3.2.2.1 hk0 (by omega); have f4 := e4.2.2.2 hk0 (by omega); have f5 := e5.2.2.1 hk0 (by omega); have f6 := e6.2.2.1 hk0 (by omega)
        clear e1 e2 e3 e4 e5 e6
        constructor <;> intro hc <;> (repeat' split) <;> omega
    · have a1 : (if y3 ≤ y1 ∧ y1 < y4 ∧ 0 < A' then (1 : Int) else 0) = if 0 < A' then 1 else 0 := by simp only [v2, o1, true_and]
      have a4 : (if y1 < y3 ∧ y3 ≤ y2 ∧ C' < 0 then (1 : Int) else 0) = 0 := if_neg (by omega)
      have a2 : (if y3 ≤ y2 ∧ y2 < y4 ∧ 0 < B' then (1 : Int) else 0) = 0 := if_neg (by omega)
      have a3 : (if y1 < y4 ∧ y4 ≤ y2 ∧ E' < 0 then (1 : Int) else 0) = if E' < 0 then 1 else 0 := by simp only [v2, o2, true_and]
      rw [a1, a2, a3, a4]; clear a1 a2 a3 a4
      have g1 := z1 (by omega) (by omega); have g2 := z4 (by omega) (by omega); clear z1 z2 z3 z4
      rcases hkk with hk0 | hk0
      · have f1 := e1.2.1 hk0 (by omega); have f2 := e2.1 hk0 (by omega); have f3 := e3.2.1 hk0 (by omega); have f4 := e4.2.1 hk0 (by omega); have f5 := e5.1 hk0 (by omega); have f6 := e6.1 hk0 (by omega)
        clear e1 e2 e3 e4 e5 e6
        constructor <;> intro hc <;> (repeat' split) <;> omega
      · have f1 := e1.2.2.2 hk0 (by omega); have f2 := e2.2.2.1 hk0 (by omega); have f3 := e3.2.2.2 hk0 (by omega); have f4 := e4.2.2.2 hk0 (by omega); have f5 := e5.2.2.1 hk0 (by omega); have f6 := e6.2.2.1 hk0 (by omega)
        clear e1 e2 e3 e4 e5 e6
        constructor <;> intro hc <;> (repeat' split) <;> omega
  · have a1 : (if y3 ≤ y1 ∧ y1 < y4 ∧ 0 < A' then (1 : Int) else 0) = 0 := if_neg (by omega)
    have a2 : (if y3 ≤ y2 ∧ y2 < y4 ∧ 0 < B' then (1 : Int) else 0) = 0 := if_neg (by omega)
    have a3 : (if y1 < y4 ∧ y4 ≤ y2 ∧ E' < 0 then (1 : Int) else 0) = 0 := if_neg (by omega)
    have a4 : (if y1 < y3 ∧ y3 ≤ y2 ∧ C' < 0 then (1 : Int) else 0) = 0 := if_neg (by omega)
    rw [a1, a2, a3, a4]; clear a1 a2 a3 a4 z1 z2 z3 z4
    refine ⟨fun hc => ?_, fun _ => by omega⟩
    exfalso
    rcases hkk with hk0 | hk0
    · have f5 := e5.1 hk0 (by omega); have f6 := e6.1 hk0 (by omega)
      rcases Int.lt_or_le y2 y3 with g | g
      · have f4 := e4.1 hk0 (by omega); have f3 := e3.1 hk0 (by omega); have f1 := e1.1 hk0 (by omega); have f2 := e2.1 hk0 (by omega)
        clear e1 e2 e3 e4 e5 e6; omega
      · have f1 := e1.2.1 hk0 (by omega); have f2 := e2.2.1 hk0 (by omega); have f3 := e3.2.1 hk0 (by omega); have f4 := e4.2.1 hk0 (by omega)
        clear e1 e2 e3 e4 e5 e6; omega
    · have f5 := e5.2.2.1 hk0 (by omega); have f6 := e6.2.2.1 hk0 (by omega)
      rcases Int.lt_or_le y2 y3 with g | g
      · have f4 := e4.2.2.1 hk0 (by omega); have f3 := e3.2.2.1 hk0 (by omega); have f1 := e1.2.2.1 hk0 (by omega); have f2 := e2.2.2.1 hk0 (by omega)
        clear e1 e2 e3 e4 e5 e6; omega
      · have f1 := e1.2.2.2 hk0 (by omega); have f2 := e2.2.2.2 hk0 (by omega); have f3 := e3.2.2.2 hk0 (by omega); have f4 := e4.2.2.2 hk0 (by omega)
        clear e1 e2 e3 e4 e5 e6; omega
def dfl (q q' u w : P2) : Int := ps u w q - ps u w q' - (fs q q' w - fs q q' u)
def Flux (q q' u w : P2) : Prop := (Cr q q' u w → dfl q q' u w = jump q u w) ∧ (¬ Cr q q' u w → dfl q q' u w = 0)
theorem mul_neg_iff {a b : Int} : a * b < 0 ↔ (0 < a ∧ b < 0) ∨ (a < 0 ∧ 0 < b) := by
  constructor
  · exact mul_neg_cases
  · rintro (⟨a, b⟩ | ⟨a, b⟩)
    · exact Int.mul_neg_of_pos_of_neg a b
    · exact Int.mul_neg_of_neg_of_pos a b
theorem flux_flat {q q' u w : P2} (hq : q.2 = q'.2) (hu : u.2 < w.2) (hn : NoTouch q q' u w) : Flux q q' u w := by
  obtain ⟨n1, n2, n3, n4⟩ := hn
  have z1 : u.2 ≤ q.2 → q.2 ≤ w.2 → TT u w q ≠ 0 := fun a b c => n1 (ons_h c hu a b)
  have z2 : u.2 ≤ q'.2 → q'.2 ≤ w.2 → TT u w q' ≠ 0 := fun a b c => n2 (ons_h c hu a b)
  have c1 : TT q q' u = (q'.1 - q.1) * (u.2 - q.2) := by unfold TT; rw [← hq]; grind
  have c2 : TT q q' w = (q'.1 - q.1) * (w.2 - q.2) := by unfold TT; rw [← hq]; grind
  have d1 : TT u w q' - TT u w q = - ((w.2 - u.2) * (q'.1 - q.1)) := by unfold TT; rw [← hq]; grind
  have f1 : fs q q' u = 0 := if_neg (by omega)
  have f2 : fs q q' w = 0 := if_neg (by omega)
  have hcr : Cr q q' u w ↔ (TT q q' u * TT q q' w < 0 ∧ TT u w q * TT u w q' < 0) := Iff.rfl
  unfold Flux dfl
  rw [f1, f2, hcr, mul_neg_iff, mul_neg_iff]
  by_cases hr : u.2 ≤ q.2 ∧ q.2 < w.2
  · have p1 : ps u w q = if 0 < TT u w q then 1 else 0 := by
      unfold ps; simp only [hr.1, hr.2, true_and]; split
      · rfl
      · exact if_neg (by omega)
    have p2 : ps u w q' = if 0 < TT u w q' then 1 else 0 := by
      have a := hr.1; have b := hr.2; rw [hq] at a b
      unfold ps; simp only [a, b, true_and]; split
      · rfl
      · exact if_neg (by omega)
    rw [p1, p2]
    have g1 := z1 hr.1 (by omega)
    have g2 := z2 (by omega) (by omega)
    unfold jump
    -- the corner at the height of the segment is not on it
    have n3' : u.2 = q.2 → ¬ ((0 < TT u w q ∧ TT u w q' < 0) ∨ (TT u w q < 0 ∧ 0 < TT u w q')) := by
      intro e h
      have a1 : TT u w q = (w.2 - u.2) * (u.1 - q.1) := by unfold TT; rw [e]; grind
      have a2 : TT u w q' = (w.2 - u.2) * (u.1 - q'.1) := by unfold TT; rw [← hq, e]; grind
      have s1 := sgn_pos (k := w.2 - u.2) (a := u.1 - q.1) (by omega)
      have s2 := sgn_pos (k := w.2 - u.2) (a := u.1 - q'.1) (by omega)
      rw [a1, a2, s1.1, s1.2.1, s2.1, s2.2.1] at h
      rcases h with h | h
      · exact n3 (ons_h1 hq e (by omega) (by omega))
      · exact n3 (ons_swap (ons_h1 hq.symm (by omega) (by omega) (by omega)))
    have cw : (0 < TT q q' w ↔ 0 < q'.1 - q.1) ∧ (TT q q' w < 0 ↔ q'.1 - q.1 < 0) := by
      have s := sgn_pos (k := w.2 - q.2) (a := q'.1 - q.1) (by omega)
      rw [c2, Int.mul_comm]; exact ⟨s.1, s.2.1⟩
    have cu : u.2 < q.2 → (0 < TT q q' u ↔ q'.1 - q.1 < 0) ∧ (TT q q' u < 0 ↔ 0 < q'.1 - q.1) := by
      intro h
      have s := sgn_pos (k := q.2 - u.2) (a := q'.1 - q.1) (by omega)
      have e : TT q q' u = - ((q.2 - u.2) * (q'.1 - q.1)) := by rw [c1]; grind
      rw [e]; omega
    have dd := sgn_pos (k := w.2 - u.2) (a := q'.1 - q.1) (by omega)
    generalize (w.2 - u.2) * (q'.1 - q.1) = D at *
    clear p1 p2 z1 z2 c1 c2 f1 f2 hcr n1 n2 n3 n4
    rcases Int.lt_or_eq_of_le hr.1 with h | h
    · have cu := cu h
      clear n3'
      constructor <;> intro hc <;> (repeat' split) <;> omega
    · have n3' := n3' h
      constructor <;> intro hc
      · exact absurd hc.2 n3'
      · (repeat' split) <;> omega
  · have p1 : ps u w q = 0 := by unfold ps; rw [if_neg (by omega), if_neg (by omega)]
    have p2 : ps u w q' = 0 := by unfold ps; rw [if_neg (by omega), if_neg (by omega)]
    rw [p1, p2]
    refine ⟨fun hc => ?_, fun _ => by omega⟩
    exfalso
    have hc1 := hc.1
    rw [← mul_neg_iff, c1, c2] at hc1
    have : (q'.1 - q.1) * (u.2 - q.2) * ((q'.1 - q.1) * (w.2 - q.2)) = ((q'.1 - q.1) * (q'.1 - q.1)) * ((u.2 - q.2) * (w.2 - q.2)) := by grind
    rw [this] at hc1
    have h1 := sq_nn (q'.1 - q.1)
    have h2 : 0 ≤ (u.2 - q.2) * (w.2 - q.2) := by
      rcases Int.lt_or_le q.2 w.2 with g | g
      · exact Int.mul_nonneg (by omega) (by omega)
      · exact Int.mul_nonneg_of_nonpos_of_nonpos (by omega) (by omega)
    have := Int.mul_nonneg h1 h2
    omega
theorem flux_low {q q' u w : P2} (hq : q.2 ≤ q'.2) (hu : u.2 = w.2) (hn : NoTouch q q' u w) : Flux q q' u w := by
  obtain ⟨n1, n2, n3, n4⟩ := hn
  have p1 : ps u w q = 0 := by unfold ps; rw [if_neg (by omega), if_neg (by omega)]
  have p2 : ps u w q' = 0 := by unfold ps; rw [if_neg (by omega), if_neg (by omega)]
  have hcr : Cr q q' u w ↔ (TT q q' u * TT q q' w < 0 ∧ TT u w q * TT u w q' < 0) := Iff.rfl
  unfold Flux dfl
  rw [p1, p2, hcr, mul_neg_iff, mul_neg_iff]
  have c1 : TT u w q = (w.1 - u.1) * (q.2 - u.2) := by unfold TT; rw [← hu]; grind
  have c2 : TT u w q' = (w.1 - u.1) * (q'.2 - u.2) := by unfold TT; rw [← hu]; grind
  by_cases hr : q.2 < u.2 ∧ u.2 ≤ q'.2
  · have f1 : fs q q' u = if TT q q' u < 0 then 1 else 0 := by unfold fs; simp only [hr.1, hr.2, true_and]
    have f2 : fs q q' w = if TT q q' w < 0 then 1 else 0 := by
      have a := hr.1; have b := hr.2; rw [hu] at a b
      unfold fs; simp only [a, b, true_and]
    rw [f1, f2]
    unfold jump
    have z1 : TT q q' u ≠ 0 := fun c => n3 (ons_h c (by omega) (by omega) (by omega))
    have z2 : TT q q' w ≠ 0 := fun c => n4 (ons_h c (by omega) (by omega) (by omega))
    have d1 : TT q q' u - TT q q' w = (q'.2 - q.2) * (w.1 - u.1) := by unfold TT; rw [← hu]; grind
    have dd := sgn_pos (k := q'.2 - q.2) (a := w.1 - u.1) (by omega)
    have cq : (0 < TT u w q ↔ w.1 - u.1 < 0) ∧ (TT u w q < 0 ↔ 0 < w.1 - u.1) := by
      have s := sgn_pos (k := u.2 - q.2) (a := w.1 - u.1) (by omega)
      have e : TT u w q = - ((u.2 - q.2) * (w.1 - u.1)) := by rw [c1]; grind
      rw [e]; omega
    have cq' : u.2 < q'.2 → (0 < TT u w q' ↔ 0 < w.1 - u.1) ∧ (TT u w q' < 0 ↔ w.1 - u.1 < 0) := by
      intro h
      have s := sgn_pos (k := q'.2 - u.2) (a := w.1 - u.1) (by omega)
      rw [c2, Int.mul_comm]; exact ⟨s.1, s.2.1⟩
    have n2' : u.2 = q'.2 → ¬ ((0 < TT q q' u ∧ TT q q' w < 0) ∨ (TT q q' u < 0 ∧ 0 < TT q q' w)) := by
      intro e h
      have a1 : TT q q' u = (q'.2 - q.2) * (q'.1 - u.1) := by unfold TT; rw [e]; grind
      have a2 : TT q q' w = (q'.2 - q.2) * (q'.1 - w.1) := by unfold TT; rw [← hu, e]; grind
      have s1 := sgn_pos (k := q'.2 - q.2) (a := q'.1 - u.1) (by omega)
      have s2 := sgn_pos (k := q'.2 - q.2) (a := q'.1 - w.1) (by omega)
      rw [a1, a2, s1.1, s1.2.1, s2.1, s2.2.1] at h
      rcases h with h | h
      · exact n2 (ons_h1 hu e.symm (by omega) (by omega))
      · exact n2 (ons_swap (ons_h1 hu.symm (by omega) (by omega) (by omega)))
    generalize (q'.2 - q.2) * (w.1 - u.1) = D at *
    clear p1 p2 c1 c2 f1 f2 hcr n1 n2 n3 n4
    rcases Int.lt_or_eq_of_le hr.2 with h | h
    · have cq' := cq' h
      clear n2'
      constructor <;> intro hc <;> (repeat' split) <;> omega
    · have n2' := n2' h
      constructor <;> intro hc
      · exact absurd hc.1 n2'
      · (repeat' split) <;> omega
  · have f1 : fs q q' u = 0 := if_neg (by omega)
    have f2 : fs q q' w = 0 := if_neg (by omega)
    rw [f1, f2]
    refine ⟨fun hc => ?_, fun _ => by omega⟩
    exfalso
    have hc1 := hc.2
    rw [← mul_neg_iff, c1, c2] at hc1
    have : (w.1 - u.1) * (q.2 - u.2) * ((w.1 - u.1) * (q'.2 - u.2)) = ((w.1 - u.1) * (w.1 - u.1)) * ((q.2 - u.2) * (q'.2 - u.2)) := by grind
    rw [this] at hc1
    have h1 := sq_nn (w.1 - u.1)
    have h2 : 0 ≤ (q.2 - u.2) * (q'.2 - u.2) := by
      rcases Int.lt_or_le q.2 u.2 with g | g
      · exact Int.mul_nonneg_of_nonpos_of_nonpos (by omega) (by omega)
      · exact Int.mul_nonneg (by omega) (by omega)
    have := Int.mul_nonneg h1 h2
    omega
theorem flux_any {q q' u w : P2} (hq : q.2 ≤ q'.2) (hn : NoTouch q q' u w) : Flux q q' u w := by
  have up : ∀ {u w : P2}, u.2 ≤ w.2 → NoTouch q q' u w → Flux q q' u w := by
    intro u w h hn
    rcases Int.lt_or_eq_of_le h with h | h
    · rcases Int.lt_or_eq_of_le hq with g | g
      · exact flux_up g h hn
      · exact flux_flat g h hn
    · exact flux_low hq h hn
  rcases Int.le_total u.2 w.2 with h | h
  · exact up h hn
  · have := up h (noTouch_swap hn)
    have e : dfl q q' u w = - dfl q q' w u := by
      unfold dfl; rw [ps_swap w u q, ps_swap w u q']; omega
    have j : Cr q q' u w → jump q u w = - jump q w u := by
      intro hc
      have := (mul_neg_iff.1 hc.2)
      unfold jump; rw [tt_swap u w q]
      repeat' split
      all_goals omega
    refine ⟨fun hc => ?_, fun hc => ?_⟩
    · rw [e, j hc, this.1 (cr_swap hc)]
    · rw [e, this.2 (fun g => hc (cr_swap g))]; rfl
theorem steps_tele (f : P2 → Int) : ∀ (L : List P2) (a : P2), ((steps (a :: L)).map fun e => f e.2 - f e.1).sum = f ((a :: L).getLast (by simp)) - f a
  | [], a => by simp [steps]
  | b :: L, a => by
    rw [steps, List.map_cons, List.sum_cons, steps_tele f L b, List.getLast_cons (a := a) (l := b :: L) (by simp)]; simp only; omega
theorem EE_tele (f : P2 → Int) (l : List P2) : ((EE l).map fun e => f e.2 - f e.1).sum = 0 := by
  cases l with
  | nil => rfl
  | cons a r =>
    rw [EE, steps_tele f (r ++ [a]) a]
    have : (a :: (r ++ [a])).getLast (by simp) = a := by rw [List.getLast_cons (by simp)]; simp
    rw [this]; omega
theorem sum_sub (L : List (P2 × P2)) (f g : P2 × P2 → Int) : (L.map fun e => f e - g e).sum = (L.map f).sum - (L.map g).sum := by
  induction L with
  | nil => rfl
  | cons a L ih => simp only [List.map_cons, List.sum_cons, ih]; omega
theorem wind_dfl (l : List P2) (q q' : P2) : wind l q - wind l q' = ((EE l).map fun e => dfl q q' e.1 e.2).sum := by
  have h1 : ((EE l).map fun e => dfl q q' e.1 e.2).sum = ((EE l).map fun e => (ps e.1 e.2 q - ps e.1 e.2 q') - (fs q q' e.2 - fs q q' e.1)).sum := rfl
  rw [h1, sum_sub (EE l) (fun e => ps e.1 e.2 q - ps e.1 e.2 q') (fun e => fs q q' e.2 - fs q q' e.1), EE_tele (fs q q') l, sum_sub]
  unfold wind; omega
theorem sum_zero {L : List (P2 × P2)} {f : P2 × P2 → Int} (h : ∀ e ∈ L, f e = 0) : (L.map f).sum = 0 := by
  induction L with
  | nil => rfl
  | cons a L ih => rw [List.map_cons, List.sum_cons, h a (by simp), ih fun e he => h e (by simp [he])]; rfl
def Free (l : List P2) (q q' : P2) : Prop := ∀ e ∈ EE l, NoTouch q q' e.1 e.2 ∧ ¬ Cr q q' e.1 e.2
theorem cr_flip {a b c d : P2} (h : Cr a b c d) : Cr b a c d := cr_swap' h
theorem free_swap {l : List P2} {q q' : P2} (h : Free l q q') : Free l q' q := fun e he => ⟨noTouch_swap' (h e he).1, fun g => (h e he).2 (cr_swap' g)⟩
/-- along a segment that meets no edge the number of times that a list goes round a point does not change -/
theorem wind_const {l : List P2} {q q' : P2} (h : Free l q q') : wind l q = wind l q' := by
  have up : ∀ q q' : P2, q.2 ≤ q'.2 → Free l q q' → wind l q = wind l q' := by
    intro q q' hq h
    have := wind_dfl l q q'
    rw [sum_zero fun e he => (flux_any hq (h e he).1).2 (h e he).2] at this; omega
  rcases Int.le_total q.2 q'.2 with g | g
  · exact up _ _ g h
  · exact (up _ _ g (free_swap h)).symm
theorem EE_nodup {l : List P2} (nd : l.Nodup) : (EE l).Nodup := by
  rw [EE_idx]
  rw [List.Nodup, List.pairwise_map]
  have := List.nodup_range (n := l.length)
  refine List.Pairwise.imp_of_mem ?_ this
  intro a b ha hb hne e
  simp only [Prod.mk.injEq] at e
  exact hne (pt_inj nd (List.mem_range.1 ha) (List.mem_range.1 hb) e.1)
theorem sum_one {L : List (P2 × P2)} {f : P2 × P2 → Int} {e0 : P2 × P2} (nd : L.Nodup) (h0 : e0 ∈ L) (h : ∀ e ∈ L, e ≠ e0 → f e = 0) : (L.map f).sum = f e0 := by
  obtain ⟨X, Y, rfl⟩ := List.append_of_mem h0
  rw [List.nodup_append] at nd
  obtain ⟨_, n2, n3⟩ := nd
  rw [List.map_append, List.sum_append, List.map_cons, List.sum_cons]
  rw [sum_zero fun e he => h e (by simp [he]) (fun g => by subst g; exact n3 e he e (by simp) rfl), sum_zero fun e he => h e (by simp [he]) (fun g => by subst g; exact (List.nodup_cons.1 n2).1 he)]
  omega
/-- across one edge it changes by one -/
theorem wind_jump {l : List P2} {q q' u w : P2} (nd : l.Nodup) (he : (u, w) ∈ EE l) (hc : Cr q q' u w) (hn : NoTouch q q' u w) (hq : 0 < TT u w q) (h : ∀ e ∈ EE l, e ≠ (u, w) → NoTouch q q' e.1 e.2 ∧ ¬ Cr q q' e.1 e.2) : wind l q = wind l q' + 1 := by
  have hq' : TT u w q' < 0 := by have := mul_neg_iff.1 hc.2; omega
  rcases Int.le_total q.2 q'.2 with g | g
  · have := wind_dfl l q q'
    rw [sum_one (e0 := (u, w)) (EE_nodup nd) he fun e he hne => (flux_any g (h e he hne).1).2 (h e he hne).2, (flux_any g hn).1 hc] at this
    unfold jump at this; rw [if_pos hq] at this; omega
  · have := wind_dfl l q' q
    rw [sum_one (e0 := (u, w)) (EE_nodup nd) he fun e he hne => (flux_any g (noTouch_swap' (h e he hne).1)).2 (fun gg => (h e he hne).2 (cr_swap' gg)), (flux_any g (noTouch_swap' hn)).1 (cr_swap' hc)] at this
    unfold jump at this; rw [if_neg (by omega)] at this; omega
/-- separated by a line -/
theorem ll_ons {d p u w : P2} (h : OnS p u w) : LL d p ≤ LL d u ∨ LL d p ≤ LL d w := by
  by_cases h1 : p = u
  · subst h1; exact Or.inl (Int.le_refl _)
  by_cases h2 : p = w
  · subst h2; exact Or.inr (Int.le_refl _)
  obtain ⟨m, N, k0, k1, kx, ky⟩ := on_par h h1 h2
  have e : N * LL d p = (N - m) * LL d u + m * LL d w := by unfold LL; grind
  refine Classical.byContradiction fun hh => ?_
  rw [not_or] at hh
  have a1 := Int.mul_pos (show 0 < N - m by omega) (show 0 < LL d p - LL d u by omega)
  have a2 := Int.mul_pos k0 (show 0 < LL d p - LL d w by omega)
  have : N * LL d p = (N - m) * LL d p + m * LL d p := by grind
  rw [Int.mul_sub] at a1 a2
  omega
theorem sep_free {d q q' u w : P2} {m : Int} (h1 : LL d u < m) (h2 : LL d w < m) (h3 : m ≤ LL d q) (h4 : m ≤ LL d q') : NoTouch q q' u w ∧ ¬ Cr q q' u w := by
  have neg : ∀ {p a b : P2}, OnS p a b → LL (-d.1, -d.2) p ≤ LL (-d.1, -d.2) a ∨ LL (-d.1, -d.2) p ≤ LL (-d.1, -d.2) b := fun h => ll_ons h
  have en : ∀ p : P2, LL (-d.1, -d.2) p = - LL d p := fun p => by unfold LL; grind
  refine ⟨⟨fun h => ?_, fun h => ?_, fun h => ?_, fun h => ?_⟩, fun h => ?_⟩
  · rcases ll_ons (d := d) h with g | g <;> omega
  · rcases ll_ons (d := d) h with g | g <;> omega
  · have := neg h; rw [en, en, en] at this; omega
  · have := neg h; rw [en, en, en] at this; omega
  · obtain ⟨c1, c2⟩ := h
    have e : TT u w q * (LL d q' - m) - TT u w q' * (LL d q - m) = TT q q' w * (LL d u - m) - TT q q' u * (LL d w - m) := by unfold TT LL; grind
    rcases mul_neg_iff.1 c1 with ⟨g1, g2⟩ | ⟨g1, g2⟩ <;> rcases mul_neg_iff.1 c2 with ⟨g3, g4⟩ | ⟨g3, g4⟩
    · have r1 := Int.mul_nonneg (Int.le_of_lt g3) (show 0 ≤ LL d q' - m by omega)
      have r2 := Int.mul_nonneg (show 0 ≤ - TT u w q' by omega) (show 0 ≤ LL d q - m by omega)
      have r3 := Int.mul_pos (show 0 < - TT q q' w by omega) (show 0 < m - LL d u by omega)
      have r4 := Int.mul_pos g1 (show 0 < m - LL d w by omega)
      have k : TT u w q' - TT u w q = TT q q' u - TT q q' w := by unfold TT; grind
      omega
    · have r1 := Int.mul_nonneg (show 0 ≤ - TT u w q by omega) (show 0 ≤ LL d q' - m by omega)
      have r2 := Int.mul_nonneg (Int.le_of_lt g4) (show 0 ≤ LL d q - m by omega)
      have r3 := Int.mul_pos (show 0 < - TT q q' w by omega) (show 0 < m - LL d u by omega)
      have r4 := Int.mul_pos g1 (show 0 < m - LL d w by omega)
      grind
    · have r1 := Int.mul_nonneg (Int.le_of_lt g3) (show 0 ≤ LL d q' - m by omega)
      have r2 := Int.mul_nonneg (show 0 ≤ - TT u w q' by omega) (show 0 ≤ LL d q - m by omega)
      have r3 := Int.mul_pos g2 (show 0 < m - LL d u by omega)
      have r4 := Int.mul_pos (show 0 < - TT q q' u by omega) (show 0 < m - LL d w by omega)
      grind
    · have k : TT u w q' - TT u w q = TT q q' u - TT q q' w := by unfold TT; grind
      omega
def sc (K : Int) (p : P2) : P2 := (K * p.1, K * p.2)
def pl (p d : P2) : P2 := (p.1 + d.1, p.2 + d.2)
theorem steps_map (f : P2 → P2) : ∀ L : List P2, steps (L.map f) = (steps L).map fun e => (f e.1, f e.2) := by
  intro L
  induction L with
  | nil => rfl
  | cons a L ih => cases L with
    | nil => rfl
    | cons b L => simp only [List.map_cons, steps] at ih ⊢; rw [ih]
theorem EE_map (f : P2 → P2) (l : List P2) : EE (l.map f) = (EE l).map fun e => (f e.1, f e.2) := by
  cases l with
  | nil => rfl
  | cons a r =>
    have := steps_map f (a :: (r ++ [a]))
    simpa [EE] using this
theorem LL_sc (δ : P2) (K : Int) (p : P2) : LL δ (sc K p) = K * LL δ p := by unfold LL sc; grind
theorem LL_pl (δ p d : P2) : LL δ (pl p d) = LL δ p + LL δ d := by unfold LL pl; grind
theorem TT_sc (K : Int) (a b c : P2) : TT (sc K a) (sc K b) (sc K c) = (K * K) * TT a b c := by unfold TT sc; grind
theorem sep_of {p u w : P2} (h : ¬ OnS p u w) : ∃ δ, LL δ u < LL δ p ∧ LL δ w < LL δ p := by
  by_cases h0 : TT u w p = 0
  · have : ¬ ((min u.1 w.1 ≤ p.1 ∧ p.1 ≤ max u.1 w.1) ∧ (min u.2 w.2 ≤ p.2 ∧ p.2 ≤ max u.2 w.2)) := fun g => h ⟨h0, g.1, g.2⟩
    have cs : (p.1 < u.1 ∧ p.1 < w.1) ∨ (u.1 < p.1 ∧ w.1 < p.1) ∨ (p.2 < u.2 ∧ p.2 < w.2) ∨ (u.2 < p.2 ∧ w.2 < p.2) := by omega
    rcases cs with g | g | g | g
    · exact ⟨(-1, 0), by unfold LL; simp; omega, by unfold LL; simp; omega⟩
    · exact ⟨(1, 0), by unfold LL; simp; omega, by unfold LL; simp; omega⟩
    · exact ⟨(0, -1), by unfold LL; simp; omega, by unfold LL; simp; omega⟩
    · exact ⟨(0, 1), by unfold LL; simp; omega, by unfold LL; simp; omega⟩
  · rcases Int.lt_or_gt_of_ne h0 with g | g
    · refine ⟨(w.2 - u.2, - (w.1 - u.1)), ?_, ?_⟩
      · have : LL (w.2 - u.2, - (w.1 - u.1)) u - LL (w.2 - u.2, - (w.1 - u.1)) p = TT u w p := by unfold LL TT; grind
        omega
      · have : LL (w.2 - u.2, - (w.1 - u.1)) w - LL (w.2 - u.2, - (w.1 - u.1)) p = TT u w p := by unfold LL TT; grind
        omega
    · refine ⟨(- (w.2 - u.2), w.1 - u.1), ?_, ?_⟩
      · have : LL (- (w.2 - u.2), w.1 - u.1) p - LL (- (w.2 - u.2), w.1 - u.1) u = TT u w p := by unfold LL TT; grind
        omega
      · have : LL (- (w.2 - u.2), w.1 - u.1) p - LL (- (w.2 - u.2), w.1 - u.1) w = TT u w p := by unfold LL TT; grind
        omega
/-- for all great enough scales -/
def Ev (φ : Int → Prop) : Prop := ∃ K0 : Int, ∀ K, K0 ≤ K → φ K
theorem Ev.and {φ ψ : Int → Prop} (h1 : Ev φ) (h2 : Ev ψ) : Ev fun K => φ K ∧ ψ K := by
  obtain ⟨a, ha⟩ := h1; obtain ⟨b, hb⟩ := h2
  exact ⟨max a b, fun K hK => ⟨ha K (by omega), hb K (by omega)⟩⟩
theorem Ev.imp {φ ψ : Int → Prop} (h1 : Ev φ) (h : ∀ K, φ K → ψ K) : Ev ψ := by
  obtain ⟨a, ha⟩ := h1
  exact ⟨a, fun K hK => h K (ha K hK)⟩
theorem Ev.all {α : Type} {φ : α → Int → Prop} (L : List α) (h : ∀ e ∈ L, Ev (φ e)) : Ev fun K => ∀ e ∈ L, φ e K := by
  induction L with
  | nil => exact ⟨0, fun _ _ _ h => by simp at h⟩
  | cons a L ih =>
    refine ((h a (by simp)).and (ih fun e he => h e (by simp [he]))).imp ?_
    rintro K ⟨h1, h2⟩ e he
    rcases List.mem_cons.1 he with rfl | he
    · exact h1
    · exact h2 e he
theorem Ev.pos (n : Int) : Ev fun K => n ≤ K := ⟨n, fun _ h => h⟩
theorem Ev.ex {φ : Int → Prop} (h : Ev φ) : ∃ K, 0 < K ∧ φ K := by
  obtain ⟨K0, h⟩ := h
  exact ⟨max K0 1, by omega, h _ (by omega)⟩
/-- near a point that is not on a segment nothing touches it -/
theorem near_free {p u w : P2} (h : ¬ OnS p u w) (d d' : P2) : Ev fun K => NoTouch (pl (sc K p) d) (pl (sc K p) d') (sc K u) (sc K w) ∧ ¬ Cr (pl (sc K p) d) (pl (sc K p) d') (sc K u) (sc K w) := by
  obtain ⟨δ, h1, h2⟩ := sep_of h
  refine ((Ev.pos 1).and ((Ev.pos (1 - LL δ d)).and (Ev.pos (1 - LL δ d')))).imp ?_
  rintro K ⟨k0, k1, k2⟩
  have a1 := Int.mul_le_mul_of_nonneg_left (show LL δ u + 1 ≤ LL δ p by omega) (show 0 ≤ K by omega)
  have a2 := Int.mul_le_mul_of_nonneg_left (show LL δ w + 1 ≤ LL δ p by omega) (show 0 ≤ K by omega)
  rw [Int.mul_add, Int.mul_one] at a1 a2
  refine sep_free (d := δ) (m := min (K * LL δ p + LL δ d) (K * LL δ p + LL δ d')) ?_ ?_ ?_ ?_ <;> (try rw [LL_pl]) <;> rw [LL_sc] <;> omega
def OnB (l : List P2) (p : P2) : Prop := ∃ e ∈ EE l, OnS p e.1 e.2
theorem near_const {l : List P2} {p : P2} (h : ¬ OnB l p) (d d' : P2) : Ev fun K => wind (l.map (sc K)) (pl (sc K p) d) = wind (l.map (sc K)) (pl (sc K p) d') := by
  refine (Ev.all (φ := fun e K => NoTouch (pl (sc K p) d) (pl (sc K p) d') (sc K e.1) (sc K e.2) ∧ ¬ Cr (pl (sc K p) d) (pl (sc K p) d') (sc K e.1) (sc K e.2)) (EE l) fun e he => near_free (fun g => h ⟨e, he, g⟩) d d').imp ?_
  intro K hK
  refine wind_const ?_
  intro e he
  rw [EE_map] at he
  obtain ⟨f, hf, rfl⟩ := List.mem_map.1 he
  exact hK f hf
theorem ps_sc {K : Int} (hK : 0 < K) (u w p : P2) : ps (sc K u) (sc K w) (sc K p) = ps u w p := by
  unfold ps
  rw [TT_sc]
  have s := sgn_pos (k := K * K) (a := TT u w p) (Int.mul_pos hK hK)
  have e1 : ∀ a b : Int, K * a ≤ K * b ↔ a ≤ b := fun a b => by
    have := nneg_iff (a := K) (b := b - a) hK
    rw [Int.mul_sub] at this; omega
  have e2 : ∀ a b : Int, K * a < K * b ↔ a < b := fun a b => by
    have := pos_iff (a := K) (b := b - a) hK
    rw [Int.mul_sub] at this; omega
  simp only [sc, e1, e2, s.1, s.2.1]
theorem wind_sc {K : Int} (hK : 0 < K) (l : List P2) (p : P2) : wind (l.map (sc K)) (sc K p) = wind l p := by
  unfold wind
  rw [EE_map, List.map_map]
  congr 1
  apply List.map_congr_left
  intro e _
  exact ps_sc hK _ _ _
theorem pl_zero (p : P2) : pl p (0, 0) = p := by simp [pl]
/-- off the border: nearby as there -/
theorem near_same {l : List P2} {p : P2} (h : ¬ OnB l p) (d : P2) : Ev fun K => wind (l.map (sc K)) (pl (sc K p) d) = wind l p := by
  refine ((Ev.pos 1).and (near_const h d (0, 0))).imp ?_
  rintro K ⟨h0, h1⟩
  rw [h1, pl_zero, wind_sc (by omega)]
/-- an inner point of an edge of a simple polygon is on no other edge -/
theorem simp_point {l : List P2} (hs : Simp l) {e f : P2 × P2} (he : e ∈ EE l) (hf : f ∈ EE l) {z : P2} (hz : OnS z e.1 e.2) (h1 : z ≠ e.1) (h2 : z ≠ e.2) (hz' : OnS z f.1 f.2) : f = e := by
  refine Classical.byContradiction fun hne => ?_
  obtain ⟨u, w⟩ := e
  obtain ⟨x, y⟩ := f
  simp only at *
  obtain ⟨mu, mw⟩ := edge_mem he
  obtain ⟨mx, my⟩ := edge_mem hf
  have nx' : z ≠ x := by rintro rfl; exact hs.on _ he z mx h1 h2 hz
  have ny' : z ≠ y := by rintro rfl; exact hs.on _ he z my h1 h2 hz
  obtain ⟨m, N, k0, k1, kx, ky⟩ := on_par hz h1 h2
  obtain ⟨m', N', k0', k1', kx', ky'⟩ := on_par hz' nx' ny'
  have e1 := par_tt kx ky x y
  have e2 := par_tt kx' ky' u w
  rw [hz'.1, Int.mul_zero] at e1
  rw [hz.1, Int.mul_zero] at e2
  have opp : ∀ {a b A B : Int}, 0 < a → 0 < b → 0 = a * A + b * B → (A = 0 ∧ B = 0) ∨ A * B < 0 := by
    intro a b A B ha hb h
    rcases Int.lt_trichotomy A 0 with g | g | g
    · right
      have := Int.mul_neg_of_pos_of_neg ha g
      exact Int.mul_neg_of_neg_of_pos g ((sgn_pos (k := b) (a := B) hb).1.1 (by omega))
    · left
      subst g
      rw [Int.mul_zero, Int.zero_add] at h
      exact ⟨rfl, (sgn_pos (k := b) (a := B) hb).2.2.1 h.symm⟩
    · right
      have := Int.mul_pos ha g
      exact Int.mul_neg_of_pos_of_neg g ((sgn_pos (k := b) (a := B) hb).2.1.1 (by omega))
  rcases opp (by omega) k0 e1 with ⟨a1, a2⟩ | a
  · -- on one line
    have b1 : TT u w x = 0 ∧ TT u w y = 0 := by
      rcases opp (by omega) k0' e2 with b | b
      · exact b
      · exfalso
        -- x, y, u, w on one line
        have nd : x ≠ y := fun g => by
          subst g
          have := ons_end1 x x
          have hh := hz'
          have : z = x := by
            obtain ⟨_, q1, q2⟩ := hh
            exact Prod.ext (by omega) (by omega)
          exact nx' this
        have c1 : TT x y u = 0 := a1
        have c2 : TT x y w = 0 := a2
        have d1 : (y.1 - x.1) * TT u w x = 0 := by unfold TT at *; grind
        have d2 : (y.2 - x.2) * TT u w x = 0 := by unfold TT at *; grind
        have d3 : TT u w x ≠ 0 := fun g => by rw [g] at b; simp at b
        have p1 := (Int.mul_eq_zero.1 d1).resolve_right d3
        have p2 := (Int.mul_eq_zero.1 d2).resolve_right d3
        exact nd (Prod.ext (by omega) (by omega))
    -- the four points by their order on the line
    have key : ∀ {a b c : P2}, TT a b c = 0 → lx a c → lx c b → OnS c a b := fun h g1 g2 => ons_lex h g1 g2
    have lz : (lx u z ∧ lx z w) ∨ (lx w z ∧ lx z u) := by
      by_cases g : lx u w
      · left; have := (on_asc (p := z.1) (q := z.2) g (by have := hz.1; unfold TT at this; omega)).2 ⟨hz.2.1, hz.2.2⟩
        unfold lx; omega
      · right; have g := (lx_total u w).resolve_left g
        have := (on_asc (p := z.1) (q := z.2) g (by have := hz.1; unfold TT at this; grind)).2 ⟨by have := hz.2.1; omega, by have := hz.2.2; omega⟩
        unfold lx; omega
    have lz' : (lx x z ∧ lx z y) ∨ (lx y z ∧ lx z x) := by
      by_cases g : lx x y
      · left; have := (on_asc (p := z.1) (q := z.2) g (by have := hz'.1; unfold TT at this; omega)).2 ⟨hz'.2.1, hz'.2.2⟩
        unfold lx; omega
      · right; have g := (lx_total x y).resolve_left g
        have := (on_asc (p := z.1) (q := z.2) g (by have := hz'.1; unfold TT at this; grind)).2 ⟨by have := hz'.2.1; omega, by have := hz'.2.2; omega⟩
        unfold lx; omega
    have no1 : ∀ v ∈ l, OnS v u w → v = u ∨ v = w := fun v hv h => by
      by_cases g1 : v = u
      · exact Or.inl g1
      · by_cases g2 : v = w
        · exact Or.inr g2
        · exact absurd h (hs.on _ he v hv g1 g2)
    have no2 : ∀ v ∈ l, OnS v x y → v = x ∨ v = y := fun v hv h => by
      by_cases g1 : v = x
      · exact Or.inl g1
      · by_cases g2 : v = y
        · exact Or.inr g2
        · exact absurd h (hs.on _ hf v hv g1 g2)
    -- equal ends
    have same : (x = u ∧ y = w) ∨ (x = w ∧ y = u) → False := by
      rintro (⟨rfl, rfl⟩ | ⟨rfl, rfl⟩)
      · exact hne rfl
      · obtain ⟨i, hi, e1⟩ := EE_mem.1 he
        obtain ⟨j, hj, e2⟩ := EE_mem.1 hf
        simp only [Prod.mk.injEq] at e1 e2
        have a := pt_inj hs.nd (nx_lt hi) hj (e1.2.symm.trans e2.1)
        have b := pt_inj hs.nd (nx_lt hj) hi (e2.2.symm.trans e1.1)
        have h3 := hs.three
        rw [nx hi] at a; rw [nx hj] at b
        split at a <;> split at b <;> omega
    have ant : ∀ {a b : P2}, lx a b → lx b a → a = b := fun h1 h2 => by unfold lx at h1 h2; exact Prod.ext (by omega) (by omega)
    have t1 : TT w u x = 0 := by rw [tt_swap]; omega
    have t2 : TT w u y = 0 := by rw [tt_swap]; omega
    have t3 : TT y x u = 0 := by rw [tt_swap]; omega
    have t4 : TT y x w = 0 := by rw [tt_swap]; omega
    have main : ∀ {a b c d : P2}, (∀ v, v = c ∨ v = d → OnS v a b → v = a ∨ v = b) → (∀ v, v = a ∨ v = b → OnS v c d → v = c ∨ v = d) → z ≠ a → z ≠ b → z ≠ c → z ≠ d → TT a b c = 0 → TT a b d = 0 → TT c d a = 0 → TT c d b = 0 → lx a z → lx z b → lx c z → lx z d → a = c ∧ b = d := by
      intro a b c d na nc za zb zc zd t1 t2 t3 t4 l1 l2 l3 l4
      constructor
      · rcases lx_total a c with g | g
        · rcases na c (Or.inl rfl) (ons_lex t1 g (lx_trans l3 l2)) with h | h
          · exact h.symm
          · exact absurd (ant (h ▸ l3) l2).symm zb
        · rcases nc a (Or.inl rfl) (ons_lex t3 g (lx_trans l1 l4)) with h | h
          · exact h
          · exact absurd (ant (h ▸ l1) l4).symm zd
      · rcases lx_total b d with g | g
        · rcases nc b (Or.inr rfl) (ons_lex t4 (lx_trans l3 l2) g) with h | h
          · exact absurd (ant l3 (h ▸ l2)).symm zc
          · exact h
        · rcases na d (Or.inr rfl) (ons_lex t2 (lx_trans l1 l4) g) with h | h
          · exact absurd (ant l1 (h ▸ l4)).symm za
          · exact h.symm
    have i1 : ∀ v, v = x ∨ v = y → OnS v u w → v = u ∨ v = w := fun v hv => no1 v (by rcases hv with rfl | rfl <;> assumption)
    have i2 : ∀ v, v = u ∨ v = w → OnS v x y → v = x ∨ v = y := fun v hv => no2 v (by rcases hv with rfl | rfl <;> assumption)
    have i1' : ∀ v, v = y ∨ v = x → OnS v u w → v = u ∨ v = w := fun v hv => i1 v hv.symm
    have i2' : ∀ v, v = u ∨ v = w → OnS v y x → v = y ∨ v = x := fun v hv h => (i2 v hv (ons_swap h)).symm
    have j1 : ∀ v, v = x ∨ v = y → OnS v w u → v = w ∨ v = u := fun v hv h => (i1 v hv (ons_swap h)).symm
    have j2 : ∀ v, v = w ∨ v = u → OnS v x y → v = x ∨ v = y := fun v hv => i2 v hv.symm
    have j1' : ∀ v, v = y ∨ v = x → OnS v w u → v = w ∨ v = u := fun v hv => j1 v hv.symm
    have j2' : ∀ v, v = w ∨ v = u → OnS v y x → v = y ∨ v = x := fun v hv h => (j2 v hv (ons_swap h)).symm
    rcases lz with ⟨l1, l2⟩ | ⟨l1, l2⟩ <;> rcases lz' with ⟨l3, l4⟩ | ⟨l3, l4⟩
    · have := main i1 i2 h1 h2 nx' ny' b1.1 b1.2 a1 a2 l1 l2 l3 l4
      exact same (Or.inl ⟨this.1.symm, this.2.symm⟩)
    · have := main i1' i2' h1 h2 ny' nx' b1.2 b1.1 t3 t4 l1 l2 l3 l4
      exact same (Or.inr ⟨this.2.symm, this.1.symm⟩)
    · have := main j1 j2 h2 h1 nx' ny' t1 t2 a2 a1 l1 l2 l3 l4
      exact same (Or.inr ⟨this.1.symm, this.2.symm⟩)
    · have := main j1' j2' h2 h1 ny' nx' t2 t1 t4 t3 l1 l2 l3 l4
      exact same (Or.inl ⟨this.2.symm, this.1.symm⟩)
  · rcases opp (by omega) k0' e2 with ⟨b1, b2⟩ | b
    · exfalso
      have nd : u ≠ w := fun g => by
        subst g
        obtain ⟨_, q1, q2⟩ := hz
        exact h1 (Prod.ext (by omega) (by omega))
      have d1 : (w.1 - u.1) * TT x y u = 0 := by unfold TT at *; grind
      have d2 : (w.2 - u.2) * TT x y u = 0 := by unfold TT at *; grind
      have d3 : TT x y u ≠ 0 := fun g => by rw [g] at a; simp at a
      have p1 := (Int.mul_eq_zero.1 d1).resolve_right d3
      have p2 := (Int.mul_eq_zero.1 d2).resolve_right d3
      exact nd (Prod.ext (by omega) (by omega))
    · exact hs.cr _ he _ hf ⟨b, a⟩

end Geo
end Go.Proofs.YtpdfbboagaflhaaGreat

set_option linter.unusedSimpArgs false
set_option linter.unusedVariables false
set_option linter.unusedSectionVars false
namespace Go.Proofs.YtpdfbboagaflhaaGreat
namespace Geo

theorem sqz {a : Int} (h : a * a = 0) : a = 0 := by rcases Int.mul_eq_zero.1 h with g | g <;> exact g
theorem sc_inj {K : Int} (hK : 0 < K) {a b : P2} (h : sc K a = sc K b) : a = b := by
  unfold sc at h
  simp only [Prod.mk.injEq] at h
  exact Prod.ext (Int.eq_of_mul_eq_mul_left (by omega) h.1) (Int.eq_of_mul_eq_mul_left (by omega) h.2)
theorem nd_sc {K : Int} (hK : 0 < K) {l : List P2} (nd : l.Nodup) : (l.map (sc K)).Nodup := by
  rw [List.Nodup, List.pairwise_map]
  exact nd.imp fun h e => h (sc_inj hK e)
def nrm (u w : P2) : P2 := (-(w.2 - u.2), w.1 - u.1)
def ng (d : P2) : P2 := (-d.1, -d.2)
theorem near_jump {l : List P2} (hs : Simp l) {u w z : P2} (he : (u, w) ∈ EE l) (hz : OnS z u w) (h1 : z ≠ u) (h2 : z ≠ w) :
    Ev fun K => wind (l.map (sc K)) (pl (sc K z) (nrm u w)) = wind (l.map (sc K)) (pl (sc K z) (ng (nrm u w))) + 1 ∧ ¬ OnB (l.map (sc K)) (pl (sc K z) (nrm u w)) ∧ ¬ OnB (l.map (sc K)) (pl (sc K z) (ng (nrm u w))) := by
  have hall : Ev fun K => ∀ e ∈ EE l, e ≠ (u, w) → NoTouch (pl (sc K z) (nrm u w)) (pl (sc K z) (ng (nrm u w))) (sc K e.1) (sc K e.2) ∧ ¬ Cr (pl (sc K z) (nrm u w)) (pl (sc K z) (ng (nrm u w))) (sc K e.1) (sc K e.2) := by
    refine Ev.all (φ := fun e K => e ≠ (u, w) → NoTouch (pl (sc K z) (nrm u w)) (pl (sc K z) (ng (nrm u w))) (sc K e.1) (sc K e.2) ∧ ¬ Cr (pl (sc K z) (nrm u w)) (pl (sc K z) (ng (nrm u w))) (sc K e.1) (sc K e.2)) (EE l) ?_
    intro e hE
    by_cases hne : e = (u, w)
    · exact ⟨0, fun _ _ h => absurd hne h⟩
    · refine (near_free (p := z) (u := e.1) (w := e.2) ?_ (nrm u w) (ng (nrm u w))).imp fun K h _ => h
      exact fun g => hne (simp_point hs he hE hz h1 h2 g)
  refine ((Ev.pos 1).and hall).imp ?_
  rintro K ⟨hK, hall⟩
  obtain ⟨m, N, k0, k1, kx, ky⟩ := on_par hz h1 h2
  have hn : 0 < (w.1 - u.1) * (w.1 - u.1) + (w.2 - u.2) * (w.2 - u.2) := by
    have a := sq_nn (w.1 - u.1); have b := sq_nn (w.2 - u.2)
    rcases Int.lt_or_eq_of_le (Int.add_nonneg a b) with g | g
    · exact g
    · exfalso
      have c1 : (w.1 - u.1) * (w.1 - u.1) = 0 := by omega
      have c2 : (w.2 - u.2) * (w.2 - u.2) = 0 := by omega
      have d1 := sqz c1
      have d2 := sqz c2
      rw [d1, Int.mul_zero] at kx; rw [d2, Int.mul_zero] at ky
      have : z = u := Prod.ext (by have := (Int.mul_eq_zero.1 kx).resolve_left (by omega); omega) (by have := (Int.mul_eq_zero.1 ky).resolve_left (by omega); omega)
      exact h1 this
  generalize hD : (w.1 - u.1) * (w.1 - u.1) + (w.2 - u.2) * (w.2 - u.2) = D at *
  have hz0 := hz.1
  have t1 : TT (sc K u) (sc K w) (pl (sc K z) (nrm u w)) = K * D := by
    rw [← hD]; unfold TT sc pl nrm at *; simp only; grind
  have t2 : TT (sc K u) (sc K w) (pl (sc K z) (ng (nrm u w))) = - (K * D) := by
    rw [← hD]; unfold TT sc pl ng nrm at *; simp only; grind
  have t3 : N * TT (pl (sc K z) (nrm u w)) (pl (sc K z) (ng (nrm u w))) (sc K u) = - (2 * K * m * D) := by
    rw [← hD]; unfold TT sc pl ng nrm at *; simp only; grind
  have t4 : N * TT (pl (sc K z) (nrm u w)) (pl (sc K z) (ng (nrm u w))) (sc K w) = 2 * K * (N - m) * D := by
    rw [← hD]; unfold TT sc pl ng nrm at *; simp only; grind
  have p0 := Int.mul_pos (show 0 < K by omega) hn
  have p3 : 0 < 2 * K * m * D := Int.mul_pos (Int.mul_pos (by omega) k0) hn
  have p4 : 0 < 2 * K * (N - m) * D := Int.mul_pos (Int.mul_pos (by omega) (by omega)) hn
  have s3 : TT (pl (sc K z) (nrm u w)) (pl (sc K z) (ng (nrm u w))) (sc K u) < 0 := neg_of (k := N) (by omega) (by omega)
  have s4 : 0 < TT (pl (sc K z) (nrm u w)) (pl (sc K z) (ng (nrm u w))) (sc K w) := pos_of_mul (a := N) (by omega) (by omega)
  have hown : NoTouch (pl (sc K z) (nrm u w)) (pl (sc K z) (ng (nrm u w))) (sc K u) (sc K w) := by
    refine ⟨fun h => ?_, fun h => ?_, fun h => ?_, fun h => ?_⟩
    · have := h.1; omega
    · have := h.1; omega
    · have := h.1; omega
    · have := h.1; omega
  have hno : ∀ e ∈ EE l, NoTouch (pl (sc K z) (nrm u w)) (pl (sc K z) (ng (nrm u w))) (sc K e.1) (sc K e.2) := by
    intro e hE
    by_cases hne : e = (u, w)
    · subst hne; exact hown
    · exact (hall e hE hne).1
  refine ⟨?_, ?_, ?_⟩
  rotate_left
  · rintro ⟨e, hE, ho⟩
    rw [EE_map] at hE
    obtain ⟨f, hf, rfl⟩ := List.mem_map.1 hE
    exact (hno f hf).1 ho
  · rintro ⟨e, hE, ho⟩
    rw [EE_map] at hE
    obtain ⟨f, hf, rfl⟩ := List.mem_map.1 hE
    exact (hno f hf).2.1 ho
  refine wind_jump (u := sc K u) (w := sc K w) (nd_sc (by omega) hs.nd) ?_ ?_ ?_ (by omega) ?_
  · rw [EE_map]; exact List.mem_map.2 ⟨(u, w), he, rfl⟩
  · exact ⟨Int.mul_neg_of_neg_of_pos s3 s4, Int.mul_neg_of_pos_of_neg (by omega) (by omega)⟩
  · exact hown
  · intro e hE hne
    rw [EE_map] at hE
    obtain ⟨f, hf, rfl⟩ := List.mem_map.1 hE
    exact hall f hf fun g => hne (by rw [g])
/-- nearby to the right and a bit above: off every edge, and as often round as there -/
theorem perturb_one {u w p : P2} {D : Int} (hD : w.1 - u.1 < D ∧ u.1 - w.1 < D) (hne : u ≠ w) : Ev fun K => ps (sc K u) (sc K w) (pl (sc K p) (D, 1)) = ps u w p ∧ ¬ OnS (pl (sc K p) (D, 1)) (sc K u) (sc K w) := by
  refine ((Ev.pos 2).and ((Ev.pos (1 + ((w.1 - u.1) - (w.2 - u.2) * D))).and (Ev.pos (1 - ((w.1 - u.1) - (w.2 - u.2) * D))))).imp ?_
  rintro K ⟨h2, h3, h4⟩
  have e : TT (sc K u) (sc K w) (pl (sc K p) (D, 1)) = K * (K * TT u w p + ((w.1 - u.1) - (w.2 - u.2) * D)) := by unfold TT sc pl; simp only; grind
  have bm : (0 < w.2 - u.2 → D ≤ (w.2 - u.2) * D) ∧ (w.2 - u.2 < 0 → (w.2 - u.2) * D ≤ -D) := by
    constructor
    · intro h
      have := Int.mul_nonneg (show 0 ≤ w.2 - u.2 - 1 by omega) (show 0 ≤ D by omega)
      rw [Int.sub_mul, Int.one_mul] at this; omega
    · intro h
      have := Int.mul_nonneg (show 0 ≤ - (w.2 - u.2) - 1 by omega) (show 0 ≤ D by omega)
      rw [Int.sub_mul, Int.one_mul, Int.neg_mul] at this; omega
  have c1 : ∀ a b : Int, K * a ≤ K * b + 1 ↔ a ≤ b := fun a b => by
    constructor
    · intro h
      rcases Int.lt_or_le b a with g | g
      · have := Int.mul_nonneg (show 0 ≤ K by omega) (show 0 ≤ a - b - 1 by omega)
        rw [Int.mul_sub, Int.mul_sub] at this; omega
      · exact g
    · intro h
      have := Int.mul_nonneg (show 0 ≤ K by omega) (show 0 ≤ b - a by omega)
      rw [Int.mul_sub] at this; omega
  have c2 : ∀ a b : Int, K * a + 1 < K * b ↔ a < b := fun a b => by
    have := c1 b a; omega
  have hs := sgn_pos (k := K) (a := K * TT u w p + ((w.1 - u.1) - (w.2 - u.2) * D)) (by omega)
  have q1 : 0 < TT u w p → 0 < K * TT u w p + ((w.1 - u.1) - (w.2 - u.2) * D) := fun h => by
    have := Int.mul_nonneg (show 0 ≤ K by omega) (show 0 ≤ TT u w p - 1 by omega)
    rw [Int.mul_sub] at this; omega
  have q2 : TT u w p < 0 → K * TT u w p + ((w.1 - u.1) - (w.2 - u.2) * D) < 0 := fun h => by
    have := Int.mul_nonneg (show 0 ≤ K by omega) (show 0 ≤ - TT u w p - 1 by omega)
    rw [Int.mul_sub, Int.mul_neg] at this; omega
  have q3 : TT u w p = 0 → K * TT u w p = 0 := fun h => by rw [h, Int.mul_zero]
  constructor
  · unfold ps
    simp only [e, hs.1, hs.2.1]
    simp only [pl, sc, c1, c2]
    generalize K * TT u w p = Q at *
    generalize (w.2 - u.2) * D = R at *
    repeat' split
    all_goals omega
  · intro h
    have h0 := h.1
    rw [e, hs.2.2] at h0
    have hz : TT u w p = 0 := by
      rcases Int.lt_trichotomy (TT u w p) 0 with g | g | g
      · have := q2 g; omega
      · exact g
      · have := q1 g; omega
    rw [q3 hz] at h0
    have y : w.2 = u.2 := by
      generalize (w.2 - u.2) * D = R at *
      omega
    rw [y] at h0
    exact hne (Prod.ext (by simp at h0; omega) y.symm)
theorem wind_perturb {l : List P2} (p : P2) {D : Int} (hD : ∀ e ∈ EE l, e.2.1 - e.1.1 < D ∧ e.1.1 - e.2.1 < D) (hne : ∀ e ∈ EE l, e.1 ≠ e.2) :
    Ev fun K => wind (l.map (sc K)) (pl (sc K p) (D, 1)) = wind l p ∧ ¬ OnB (l.map (sc K)) (pl (sc K p) (D, 1)) := by
  refine (Ev.all (φ := fun e K => ps (sc K e.1) (sc K e.2) (pl (sc K p) (D, 1)) = ps e.1 e.2 p ∧ ¬ OnS (pl (sc K p) (D, 1)) (sc K e.1) (sc K e.2)) (EE l) fun e he => perturb_one (hD e he) (hne e he)).imp ?_
  intro K h
  constructor
  · unfold wind
    rw [EE_map, List.map_map]
    congr 1
    apply List.map_congr_left
    intro e he
    exact (h e he).1
  · rintro ⟨e, he, ho⟩
    rw [EE_map] at he
    obtain ⟨f, hf, rfl⟩ := List.mem_map.1 he
    exact (h f hf).2 ho
theorem bound_dx (L : List (P2 × P2)) : ∃ D : Int, ∀ e ∈ L, e.2.1 - e.1.1 < D ∧ e.1.1 - e.2.1 < D := by
  induction L with
  | nil => exact ⟨0, fun v h => by simp at h⟩
  | cons a l ih =>
    obtain ⟨M, h⟩ := ih
    refine ⟨max M (max (a.2.1 - a.1.1 + 1) (a.1.1 - a.2.1 + 1)), fun v hv => ?_⟩
    rcases List.mem_cons.1 hv with rfl | hv
    · omega
    · have := h v hv; omega
theorem simp_ne {l : List P2} (hs : Simp l) {e : P2 × P2} (he : e ∈ EE l) : e.1 ≠ e.2 := by
  obtain ⟨k, hk, rfl⟩ := EE_mem.1 he
  intro h
  have := pt_inj hs.nd hk (nx_lt hk) h
  have h3 := hs.three
  rw [nx hk] at this; split at this <;> omega
/-- beyond all corners: not round at all -/
theorem wind_high {l : List P2} {q : P2} (h : (∀ v ∈ l, v.2 < q.2) ∨ (∀ v ∈ l, q.2 < v.2)) : wind l q = 0 := by
  refine sum_zero fun e he => ?_
  obtain ⟨m1, m2⟩ := edge_mem he
  unfold ps
  rcases h with h | h
  · have a := h _ m1; have b := h _ m2
    rw [if_neg (by omega), if_neg (by omega)]
  · have a := h _ m1; have b := h _ m2
    rw [if_neg (by omega), if_neg (by omega)]
theorem bound_y (l : List P2) : ∃ M : Int, 0 ≤ M ∧ ∀ v ∈ l, -M < v.2 ∧ v.2 < M := by
  induction l with
  | nil => exact ⟨0, by omega, fun v h => by simp at h⟩
  | cons a l ih =>
    obtain ⟨M, h0, h⟩ := ih
    refine ⟨max M (max (a.2 + 1) (1 - a.2)), by omega, fun v hv => ?_⟩
    rcases List.mem_cons.1 hv with rfl | hv
    · omega
    · have := h v hv; omega
theorem far_pt (l : List P2) (p d : P2) (hd : d ≠ (0, 0)) : ∃ q, LL d p ≤ LL d q ∧ ((∀ v ∈ l, v.2 < q.2) ∨ (∀ v ∈ l, q.2 < v.2)) := by
  obtain ⟨M, h0, h⟩ := bound_y l
  have hk : ∀ k : Int, k ≠ 0 → ∃ t : Int, M + (if p.2 < 0 then - p.2 else p.2) ≤ t * k := fun k hk => by
    refine ⟨(M + (if p.2 < 0 then - p.2 else p.2)) * k, ?_⟩
    have : 1 ≤ k * k := by
      have := sq_nn k
      rcases Int.lt_or_eq_of_le this with g | g
      · omega
      · exact absurd (sqz g.symm) hk
    have := Int.mul_nonneg (show 0 ≤ M + (if p.2 < 0 then - p.2 else p.2) by split <;> omega) (show 0 ≤ k * k - 1 by omega)
    rw [Int.mul_sub, Int.mul_one, ← Int.mul_assoc] at this
    omega
  by_cases h1 : d.1 = 0
  · have h2 : d.2 ≠ 0 := fun g => hd (Prod.ext h1 g)
    obtain ⟨t, ht⟩ := hk d.2 h2
    rcases Int.lt_or_gt_of_ne h2 with g | g
    · -- downwards
      obtain ⟨t', ht'⟩ := hk (-1) (by omega)
      refine ⟨(p.1, p.2 + t'), ?_, Or.inr fun v hv => ?_⟩
      · have : LL d (p.1, p.2 + t') = LL d p + d.2 * t' := by unfold LL; simp only; grind
        rw [this]
        have := Int.mul_nonneg (show 0 ≤ -d.2 by omega) (show 0 ≤ - t' by split at ht' <;> omega)
        rw [Int.neg_mul_neg] at this; omega
      · have := h v hv; show p.2 + t' < v.2; split at ht' <;> omega
    · obtain ⟨t', ht'⟩ := hk 1 (by omega)
      refine ⟨(p.1, p.2 + t'), ?_, Or.inl fun v hv => ?_⟩
      · have : LL d (p.1, p.2 + t') = LL d p + d.2 * t' := by unfold LL; simp only; grind
        rw [this]
        have := Int.mul_nonneg (show 0 ≤ d.2 by omega) (show 0 ≤ t' by split at ht' <;> omega)
        omega
      · have := h v hv; show v.2 < p.2 + t'; split at ht' <;> omega
  · obtain ⟨t, ht⟩ := hk d.1 h1
    refine ⟨(p.1 - t * d.2, p.2 + t * d.1), ?_, Or.inl fun v hv => ?_⟩
    · have : LL d (p.1 - t * d.2, p.2 + t * d.1) = LL d p := by unfold LL; simp only; grind
      omega
    · have := h v hv; show v.2 < p.2 + t * d.1; split at ht <;> omega
theorem wind_far {l : List P2} {p d : P2} (h : ∀ v ∈ l, LL d v < LL d p) : wind l p = 0 := by
  cases hl : l with
  | nil => rfl
  | cons a r =>
    rw [← hl]
    have hd : d ≠ (0, 0) := by
      rintro rfl
      have := h a (by rw [hl]; simp)
      unfold LL at this; simp at this
    obtain ⟨q, h1, h2⟩ := far_pt l p d hd
    rw [← wind_high h2]
    refine wind_const fun e he => ?_
    obtain ⟨m1, m2⟩ := edge_mem he
    exact sep_free (d := d) (m := LL d p) (h _ m1) (h _ m2) (Int.le_refl _) h1
/-- a triangle -/
theorem tri_wind {a b c : P2} (ht : 0 < TT a b c) (p : P2) : (wind [a, b, c] p = 0 ∨ wind [a, b, c] p = 1) ∧ (wind [a, b, c] p ≠ 0 → InT a b c p) ∧ (0 < TT a b p → 0 < TT b c p → 0 < TT c a p → wind [a, b, c] p = 1) := by
  have hw : wind [a, b, c] p = ps a b p + ps b c p + ps c a p := by unfold wind; simp only [EE, steps, List.cons_append, List.nil_append, List.map_cons, List.map_nil, List.sum_cons, List.sum_nil]; omega
  have e := tt_bary a b c p
  have sm := tt_sum a b c p
  have out : ∀ a b c : P2, 0 < TT a b c → TT a b p < 0 → ∀ l : List P2, (∀ v ∈ l, v = a ∨ v = b ∨ v = c) → wind l p = 0 := by
    intro a b c ht h l hl
    refine wind_far (d := (b.2 - a.2, - (b.1 - a.1))) fun v hv => ?_
    have g : ∀ v, LL (b.2 - a.2, - (b.1 - a.1)) v - LL (b.2 - a.2, - (b.1 - a.1)) a = - TT a b v := fun v => by unfold LL TT; grind
    have gp := g p
    have gv := g v
    rcases hl v hv with rfl | rfl | rfl
    · omega
    · rw [(tt_self a v).2.1] at gv; omega
    · omega
  by_cases hin : InT a b c p
  · have hin' := hin
    obtain ⟨i1, i2, i3⟩ := hin
    have p1 : ps a b p = if a.2 ≤ p.2 ∧ p.2 < b.2 ∧ 0 < TT a b p then 1 else 0 := by
      unfold ps; split
      · rfl
      · exact if_neg (by omega)
    have p2 : ps b c p = if b.2 ≤ p.2 ∧ p.2 < c.2 ∧ 0 < TT b c p then 1 else 0 := by
      unfold ps; split
      · rfl
      · exact if_neg (by omega)
    have p3 : ps c a p = if c.2 ≤ p.2 ∧ p.2 < a.2 ∧ 0 < TT c a p then 1 else 0 := by
      unfold ps; split
      · rfl
      · exact if_neg (by omega)
    rw [hw, p1, p2, p3]
    refine ⟨?_, fun _ => hin', ?_⟩
    · repeat' split
      all_goals omega
    · intro g1 g2 g3
      simp only [g1, g2, g3, and_true]
      have lo : ¬ (a.2 ≤ p.2 ∧ b.2 ≤ p.2 ∧ c.2 ≤ p.2) := by
        rintro ⟨l1, l2, l3⟩
        have h1 := Int.mul_nonneg (Int.le_of_lt g2) (show 0 ≤ p.2 - a.2 by omega)
        have h2 := Int.mul_nonneg (Int.le_of_lt g1) (show 0 ≤ p.2 - c.2 by omega)
        have h3 := Int.mul_nonneg (Int.le_of_lt g3) (show 0 ≤ p.2 - b.2 by omega)
        have hz : TT b c p * (p.2 - a.2) + TT a b p * (p.2 - c.2) + TT c a p * (p.2 - b.2) = 0 := by
          have := e.2; rw [← sm] at this; grind
        have z1 := (Int.mul_eq_zero.1 (show TT b c p * (p.2 - a.2) = 0 by omega)).resolve_left (by omega)
        have z2 := (Int.mul_eq_zero.1 (show TT a b p * (p.2 - c.2) = 0 by omega)).resolve_left (by omega)
        have z3 := (Int.mul_eq_zero.1 (show TT c a p * (p.2 - b.2) = 0 by omega)).resolve_left (by omega)
        have : TT a b c = 0 := by
          unfold TT
          rw [show c.2 - a.2 = 0 by omega, show b.2 - a.2 = 0 by omega]; simp
        omega
      have hi : ¬ (p.2 < a.2 ∧ p.2 < b.2 ∧ p.2 < c.2) := by
        rintro ⟨l1, l2, l3⟩
        have h1 := Int.mul_pos g2 (show 0 < a.2 - p.2 by omega)
        have h2 := Int.mul_pos g1 (show 0 < c.2 - p.2 by omega)
        have h3 := Int.mul_pos g3 (show 0 < b.2 - p.2 by omega)
        have := e.2; rw [← sm] at this; grind
      repeat' split
      all_goals omega
  · have z : wind [a, b, c] p = 0 := by
      have : TT a b p < 0 ∨ TT b c p < 0 ∨ TT c a p < 0 := by
        unfold InT at hin; omega
      rcases this with h | h | h
      · exact out a b c ht h _ (by simp)
      · exact out b c a (by rw [tt_rot]; exact ht) h _ (by intro v hv; simp only [List.mem_cons, List.not_mem_nil, or_false] at hv; rcases hv with h | h | h <;> simp [h])
      · exact out c a b (by rw [← tt_rot]; exact ht) h _ (by intro v hv; simp only [List.mem_cons, List.not_mem_nil, or_false] at hv; rcases hv with h | h | h <;> simp [h])
    refine ⟨Or.inl z, fun h => absurd z h, fun g1 g2 g3 => ?_⟩
    exact absurd ⟨by omega, by omega, by omega⟩ hin
/-- the least of some fractions -/
theorem min_frac : ∀ L : List (Int × Int), L ≠ [] → (∀ c ∈ L, 0 < c.2) → ∃ c ∈ L, ∀ c' ∈ L, c.1 * c'.2 ≤ c'.1 * c.2 := by
  intro L
  induction L with
  | nil => intro h; exact absurd rfl h
  | cons a L ih =>
    intro _ hp
    by_cases hL : L = []
    · subst hL
      exact ⟨a, by simp, fun c' hc => by simp at hc; subst hc; exact Int.le_refl _⟩
    · obtain ⟨c, hc, hm⟩ := ih hL fun c hc => hp c (by simp [hc])
      have hcp := hp c (by simp [hc])
      have hap := hp a (by simp)
      by_cases h : a.1 * c.2 ≤ c.1 * a.2
      · refine ⟨a, by simp, fun c' hc' => ?_⟩
        rcases List.mem_cons.1 hc' with rfl | hc'
        · exact Int.le_refl _
        · have h2 := hm c' hc'
          have hc'p := hp c' (by simp [hc'])
          -- a/A <= c/C <= c'/C'
          have x1 := Int.mul_le_mul_of_nonneg_right h (Int.le_of_lt hc'p)
          have x2 := Int.mul_le_mul_of_nonneg_right h2 (Int.le_of_lt hap)
          have x3 : c.2 * (a.1 * c'.2) ≤ c.2 * (c'.1 * a.2) := by
            have e1 : a.1 * c.2 * c'.2 = c.2 * (a.1 * c'.2) := by grind
            have e2 : c.1 * a.2 * c'.2 = c.1 * c'.2 * a.2 := by grind
            have e3 : c'.1 * c.2 * a.2 = c.2 * (c'.1 * a.2) := by grind
            omega
          exact Int.le_of_mul_le_mul_left x3 hcp
      · refine ⟨c, by simp [hc], fun c' hc' => ?_⟩
        rcases List.mem_cons.1 hc' with rfl | hc'
        · omega
        · exact hm c' hc'
/-- a point of the way from p to q -/
def wy (p q : P2) (n m : Int) : P2 := ((m - n) * p.1 + n * q.1, (m - n) * p.2 + n * q.2)
def Cand (E : List (P2 × P2)) (p q : P2) (c : Int × Int) : Prop := 0 < c.1 ∧ c.1 ≤ c.2 ∧ ∃ e ∈ E, OnS (wy p q c.1 c.2) (sc c.2 e.1) (sc c.2 e.2)
theorem ons_sc {K : Int} (hK : 0 < K) {p a b : P2} : OnS (sc K p) (sc K a) (sc K b) ↔ OnS p a b := by
  unfold OnS
  rw [TT_sc, (sgn_pos (Int.mul_pos hK hK)).2.2]
  have e : ∀ x y z : Int, (min (K * x) (K * y) ≤ K * z ∧ K * z ≤ max (K * x) (K * y)) ↔ (min x y ≤ z ∧ z ≤ max x y) := fun x y z => by
    have c : ∀ a b : Int, K * a ≤ K * b ↔ a ≤ b := fun a b => by
      have := nneg_iff (a := K) (b := b - a) hK
      rw [Int.mul_sub] at this; omega
    have c1 := c x y; have c2 := c x z; have c3 := c y z; have c4 := c z x; have c5 := c z y; have c6 := c y x
    omega
  simp only [sc, e]
theorem cr_sc {K : Int} (hK : 0 < K) {a b c d : P2} : Cr (sc K a) (sc K b) (sc K c) (sc K d) ↔ Cr a b c d := by
  unfold Cr
  rw [TT_sc, TT_sc, TT_sc, TT_sc]
  have k := Int.mul_pos hK hK
  have e : ∀ x y : Int, (K * K * x) * (K * K * y) < 0 ↔ x * y < 0 := fun x y => by
    rw [show (K * K * x) * (K * K * y) = (K * K * (K * K)) * (x * y) by grind]
    exact (sgn_pos (Int.mul_pos k k)).2.1
  rw [e, e]
theorem TT_wy (p q a b : P2) (n m : Int) : TT (sc m a) (sc m b) (wy p q n m) = m * ((m - n) * TT a b p + n * TT a b q) := by
  unfold TT sc wy; simp only; grind
theorem TT_wy' (p q x : P2) (n m : Int) : TT (sc m p) (wy p q n m) (sc m x) = m * (n * TT p q x) := by
  unfold TT sc wy; simp only; grind
theorem on_wy {p q u : P2} {n m : Int} (hm : 0 < m) (h0 : 0 < n) (h1 : n ≤ m) (h : OnS (sc m u) (sc m p) (wy p q n m)) : OnS u p q := by
  have hw : OnS (wy p q n m) (sc m p) (sc m q) := by
    refine par_on (m := n) (N := m) hm (by omega) h1 ?_ ?_ <;> (unfold wy sc; simp only; grind)
  by_cases h2 : n = m
  · subst h2
    have : wy p q n n = sc n q := by unfold wy sc; simp
    rw [this] at h
    exact (ons_sc hm).1 h
  · refine (ons_sc hm).1 ?_
    -- on a part of a segment
    by_cases e1 : sc m u = sc m p
    · rw [e1]; exact ons_end1 _ _
    by_cases e2 : sc m u = wy p q n m
    · rw [e2]; exact hw
    obtain ⟨a, N, a0, a1, ax, ay⟩ := on_par h e1 e2
    refine par_on (m := a * n) (N := N * m) (Int.mul_pos (by omega) hm) (Int.mul_nonneg (by omega) (by omega)) ?_ ?_ ?_
    · have := Int.mul_le_mul_of_nonneg_left h1 (show 0 ≤ a by omega)
      have := Int.mul_le_mul_of_nonneg_right (show a ≤ N by omega) (show 0 ≤ m by omega)
      omega
    · simp only [sc, wy] at ax ⊢; grind
    · simp only [sc, wy] at ay ⊢; grind
theorem cr_wy {p q x y : P2} {n m : Int} (hm : 0 < m) (h0 : 0 < n) (h1 : n ≤ m) (h : Cr (sc m p) (wy p q n m) (sc m x) (sc m y)) : Cr p q x y ∧ (0 < TT x y p → (m - n) * TT x y p + n * TT x y q < 0) ∧ (TT x y p < 0 → 0 < (m - n) * TT x y p + n * TT x y q) := by
  obtain ⟨c1, c2⟩ := h
  rw [TT_wy', TT_wy'] at c1
  rw [TT_wy, TT_sc] at c2
  have d1 : TT p q x * TT p q y < 0 := by
    refine neg_of (k := m * n * (m * n)) (Int.mul_pos (Int.mul_pos hm h0) (Int.mul_pos hm h0)) ?_
    have : m * (n * TT p q x) * (m * (n * TT p q y)) = m * n * (m * n) * (TT p q x * TT p q y) := by grind
    omega
  have d2 : TT x y p * ((m - n) * TT x y p + n * TT x y q) < 0 := by
    refine neg_of (k := m * m * m) (Int.mul_pos (Int.mul_pos hm hm) hm) ?_
    have : m * m * TT x y p * (m * ((m - n) * TT x y p + n * TT x y q)) = m * m * m * (TT x y p * ((m - n) * TT x y p + n * TT x y q)) := by grind
    omega
  have d3 := mul_neg_iff.1 d2
  refine ⟨⟨d1, ?_⟩, fun h => by omega, fun h => by omega⟩
  rcases d3 with ⟨g1, g2⟩ | ⟨g1, g2⟩
  · have := Int.mul_nonneg (show 0 ≤ m - n by omega) (Int.le_of_lt g1)
    exact Int.mul_neg_of_pos_of_neg g1 ((sgn_pos h0).2.1.1 (by omega))
  · have := Int.mul_nonpos_of_nonneg_of_nonpos (show 0 ≤ m - n by omega) (Int.le_of_lt g1)
    exact Int.mul_neg_of_neg_of_pos g1 ((sgn_pos h0).1.1 (by omega))
def dot (p q x : P2) : Int := LL (q.1 - p.1, q.2 - p.2) x - LL (q.1 - p.1, q.2 - p.2) p
/-- the first place where the way from p to q meets one of some edges -/
theorem first_hit {E : List (P2 × P2)} {p q : P2} (hp : ∀ e ∈ E, ¬ OnS p e.1 e.2) (hex : ∃ e ∈ E, ¬ (NoTouch p q e.1 e.2 ∧ ¬ Cr p q e.1 e.2)) :
    ∃ n m, 0 < n ∧ n ≤ m ∧ (∃ e ∈ E, OnS (wy p q n m) (sc m e.1) (sc m e.2)) ∧
      ∀ e ∈ E, ¬ OnS (wy p q n m) (sc m e.1) (sc m e.2) → NoTouch (sc m p) (wy p q n m) (sc m e.1) (sc m e.2) ∧ ¬ Cr (sc m p) (wy p q n m) (sc m e.1) (sc m e.2) := by
  have hpq : p ≠ q := by
    rintro rfl
    obtain ⟨e, he, h⟩ := hex
    refine h ⟨⟨hp e he, hp e he, fun g => ?_, fun g => ?_⟩, fun g => ?_⟩
    · have : e.1 = p := by obtain ⟨_, g1, g2⟩ := g; exact Prod.ext (by omega) (by omega)
      exact hp e he (this ▸ ons_end1 _ _)
    · have : e.2 = p := by obtain ⟨_, g1, g2⟩ := g; exact Prod.ext (by omega) (by omega)
      exact hp e he (this ▸ ons_end2 _ _)
    · have := g.1; rw [(tt_self p e.1).2.2] at this; simp at this
  have hdd : 0 < dot p q q := by
    have e : dot p q q = (q.1 - p.1) * (q.1 - p.1) + (q.2 - p.2) * (q.2 - p.2) := by unfold dot LL; grind
    have a := sq_nn (q.1 - p.1); have b := sq_nn (q.2 - p.2)
    rcases Int.lt_or_eq_of_le (Int.add_nonneg a b) with g | g
    · omega
    · exfalso
      have d1 := sqz (show (q.1 - p.1) * (q.1 - p.1) = 0 by omega)
      have d2 := sqz (show (q.2 - p.2) * (q.2 - p.2) = 0 by omega)
      exact hpq (Prod.ext (by omega) (by omega))
  -- a corner on the way
  have vert : ∀ x, OnS x p q → x ≠ p → 0 < dot p q x ∧ dot p q x ≤ dot p q q ∧ wy p q (dot p q x) (dot p q q) = sc (dot p q q) x := by
    intro x hx hne
    by_cases hxq : x = q
    · subst hxq
      exact ⟨hdd, Int.le_refl _, by unfold wy sc; simp⟩
    · obtain ⟨a, N, a0, a1, ax, ay⟩ := on_par hx hne hxq
      have e : N * dot p q x = a * dot p q q := by unfold dot LL; grind
      have g1 : 0 < dot p q x := pos_of_mul (a := N) (by rw [e]; exact Int.mul_pos a0 hdd) (by omega)
      have g2 : dot p q x ≤ dot p q q := by
        have := Int.mul_le_mul_of_nonneg_right (show a ≤ N by omega) (Int.le_of_lt hdd)
        exact Int.le_of_mul_le_mul_left (a := N) (by omega) (by omega)
      refine ⟨g1, g2, ?_⟩
      have hx0 := hx.1
      unfold wy sc dot LL
      refine Prod.ext ?_ ?_ <;> (simp only; unfold TT at hx0; grind)
  -- crossing
  have crs : ∀ x y, Cr p q x y → ∃ c : Int × Int, 0 < c.1 ∧ c.1 ≤ c.2 ∧ OnS (wy p q c.1 c.2) (sc c.2 x) (sc c.2 y) ∧ ((0 < TT x y p ∧ c.1 = TT x y p ∧ c.2 = TT x y p - TT x y q) ∨ (TT x y p < 0 ∧ c.1 = - TT x y p ∧ c.2 = TT x y q - TT x y p)) := by
    intro x y h
    obtain ⟨c1, c2⟩ := h
    have k : TT x y q - TT x y p = TT p q x - TT p q y := by unfold TT; grind
    rcases mul_neg_iff.1 c2 with ⟨g1, g2⟩ | ⟨g1, g2⟩
    · refine ⟨(TT x y p, TT x y p - TT x y q), g1, by simp only; omega, ?_, Or.inl ⟨g1, rfl, rfl⟩⟩
      rcases mul_neg_iff.1 c1 with ⟨g3, g4⟩ | ⟨g3, g4⟩
      · omega
      · refine par_on (m := - TT p q x) (N := TT p q y - TT p q x) (by omega) (by omega) (by omega) ?_ ?_ <;> (unfold wy sc TT; simp only; grind)
    · refine ⟨(- TT x y p, TT x y q - TT x y p), by simp only; omega, by simp only; omega, ?_, Or.inr ⟨g1, rfl, rfl⟩⟩
      rcases mul_neg_iff.1 c1 with ⟨g3, g4⟩ | ⟨g3, g4⟩
      · refine par_on (m := TT p q x) (N := TT p q x - TT p q y) (by omega) (by omega) (by omega) ?_ ?_ <;> (unfold wy sc TT; simp only; grind)
      · omega
  -- the candidates, a list
  have cands : ∃ L : List (Int × Int), (∀ c ∈ L, Cand E p q c) ∧ (∀ e ∈ E, (OnS e.1 p q → (dot p q e.1, dot p q q) ∈ L) ∧ (OnS e.2 p q → (dot p q e.2, dot p q q) ∈ L) ∧ (OnS q e.1 e.2 → (1, 1) ∈ L) ∧
      (Cr p q e.1 e.2 → ∃ c ∈ L, (0 < TT e.1 e.2 p ∧ c.1 = TT e.1 e.2 p ∧ c.2 = TT e.1 e.2 p - TT e.1 e.2 q) ∨ (TT e.1 e.2 p < 0 ∧ c.1 = - TT e.1 e.2 p ∧ c.2 = TT e.1 e.2 q - TT e.1 e.2 p))) := by
    have go : ∀ F : List (P2 × P2), (∀ e ∈ F, e ∈ E) → ∃ L : List (Int × Int), (∀ c ∈ L, Cand E p q c) ∧ (∀ e ∈ F, (OnS e.1 p q → (dot p q e.1, dot p q q) ∈ L) ∧ (OnS e.2 p q → (dot p q e.2, dot p q q) ∈ L) ∧ (OnS q e.1 e.2 → (1, 1) ∈ L) ∧
      (Cr p q e.1 e.2 → ∃ c ∈ L, (0 < TT e.1 e.2 p ∧ c.1 = TT e.1 e.2 p ∧ c.2 = TT e.1 e.2 p - TT e.1 e.2 q) ∨ (TT e.1 e.2 p < 0 ∧ c.1 = - TT e.1 e.2 p ∧ c.2 = TT e.1 e.2 q - TT e.1 e.2 p))) := by
      intro F
      induction F with
      | nil => intro _; exact ⟨[], fun c h => by simp at h, fun e h => by simp at h⟩
      | cons f F ih =>
        intro hF
        obtain ⟨L, h1, h2⟩ := ih fun e he => hF e (by simp [he])
        have hf := hF f (by simp)
        have pf := hp f hf
        have ex1 : ∃ L1 : List (Int × Int), (∀ c ∈ L1, Cand E p q c) ∧ (OnS f.1 p q → (dot p q f.1, dot p q q) ∈ L1) := by
          by_cases h : OnS f.1 p q
          · obtain ⟨a1, a2, a3⟩ := vert _ h (fun g => pf (g ▸ ons_end1 _ _))
            exact ⟨[(dot p q f.1, dot p q q)], fun c hc => by simp at hc; subst hc; exact ⟨a1, a2, f, hf, by rw [a3]; exact ons_end1 _ _⟩, fun _ => by simp⟩
          · exact ⟨[], fun c h => by simp at h, fun g => absurd g h⟩
        have ex2 : ∃ L1 : List (Int × Int), (∀ c ∈ L1, Cand E p q c) ∧ (OnS f.2 p q → (dot p q f.2, dot p q q) ∈ L1) := by
          by_cases h : OnS f.2 p q
          · obtain ⟨a1, a2, a3⟩ := vert _ h (fun g => pf (g ▸ ons_end2 _ _))
            exact ⟨[(dot p q f.2, dot p q q)], fun c hc => by simp at hc; subst hc; exact ⟨a1, a2, f, hf, by rw [a3]; exact ons_end2 _ _⟩, fun _ => by simp⟩
          · exact ⟨[], fun c h => by simp at h, fun g => absurd g h⟩
        have ex3 : ∃ L1 : List (Int × Int), (∀ c ∈ L1, Cand E p q c) ∧ (OnS q f.1 f.2 → (1, 1) ∈ L1) := by
          by_cases h : OnS q f.1 f.2
          · have e : wy p q 1 1 = sc 1 q := by unfold wy sc; simp
            have h' : OnS (wy p q 1 1) (sc 1 f.1) (sc 1 f.2) := by rw [e]; exact (ons_sc (by omega)).2 h
            exact ⟨[(1, 1)], fun c hc => by simp at hc; subst hc; exact ⟨by simp, by simp, f, hf, h'⟩, fun _ => by simp⟩
          · exact ⟨[], fun c h => by simp at h, fun g => absurd g h⟩
        have ex4 : ∃ L1 : List (Int × Int), (∀ c ∈ L1, Cand E p q c) ∧ (Cr p q f.1 f.2 → ∃ c ∈ L1, (0 < TT f.1 f.2 p ∧ c.1 = TT f.1 f.2 p ∧ c.2 = TT f.1 f.2 p - TT f.1 f.2 q) ∨ (TT f.1 f.2 p < 0 ∧ c.1 = - TT f.1 f.2 p ∧ c.2 = TT f.1 f.2 q - TT f.1 f.2 p)) := by
          by_cases h : Cr p q f.1 f.2
          · obtain ⟨c, a1, a2, a3, a4⟩ := crs _ _ h
            exact ⟨[c], fun c' hc => by simp at hc; subst hc; exact ⟨a1, a2, f, hf, a3⟩, fun _ => ⟨c, by simp, a4⟩⟩
          · exact ⟨[], fun c h => by simp at h, fun g => absurd g h⟩
        obtain ⟨L1, b1, b2⟩ := ex1
        obtain ⟨L2, b3, b4⟩ := ex2
        obtain ⟨L3, b5, b6⟩ := ex3
        obtain ⟨L4, b7, b8⟩ := ex4
        refine ⟨L1 ++ (L2 ++ (L3 ++ (L4 ++ L))), ?_, ?_⟩
        · intro c hc
          simp only [List.mem_append] at hc
          rcases hc with hc | hc | hc | hc | hc
          · exact b1 c hc
          · exact b3 c hc
          · exact b5 c hc
          · exact b7 c hc
          · exact h1 c hc
        · intro e he
          simp only [List.mem_append]
          rcases List.mem_cons.1 he with rfl | he
          · refine ⟨fun h => Or.inl (b2 h), fun h => Or.inr (Or.inl (b4 h)), fun h => Or.inr (Or.inr (Or.inl (b6 h))), fun h => ?_⟩
            obtain ⟨c, hc, hh⟩ := b8 h
            exact ⟨c, by simp [hc], hh⟩
          · obtain ⟨g1, g2, g3, g4⟩ := h2 e he
            refine ⟨fun h => Or.inr (Or.inr (Or.inr (Or.inr (g1 h)))), fun h => Or.inr (Or.inr (Or.inr (Or.inr (g2 h)))), fun h => Or.inr (Or.inr (Or.inr (Or.inr (g3 h)))), fun h => ?_⟩
            obtain ⟨c, hc, hh⟩ := g4 h
            exact ⟨c, by simp [hc], hh⟩
    exact go E fun e he => he
  obtain ⟨L, hL1, hL2⟩ := cands
  have hne : L ≠ [] := by
    rintro rfl
    obtain ⟨e, he, h⟩ := hex
    obtain ⟨g1, g2, g3, g4⟩ := hL2 e he
    refine h ⟨⟨hp e he, fun g => ?_, fun g => ?_, fun g => ?_⟩, fun g => ?_⟩
    · have := g3 g; simp at this
    · have := g1 g; simp at this
    · have := g2 g; simp at this
    · obtain ⟨c, hc, _⟩ := g4 g; simp at hc
  obtain ⟨⟨n, m⟩, hc, hmin⟩ := min_frac L hne fun c hc => by have := hL1 c hc; have := this.1; have := (hL1 c hc).2.1; omega
  obtain ⟨c0, c1, c2⟩ := hL1 _ hc
  simp only at c0 c1 c2 hmin
  refine ⟨n, m, c0, c1, c2, fun e he hno => ?_⟩
  obtain ⟨g1, g2, g3, g4⟩ := hL2 e he
  have hm : 0 < m := by omega
  have vx : ∀ x, (OnS x p q → (dot p q x, dot p q q) ∈ L) → OnS (sc m x) (sc m p) (wy p q n m) → sc m x = wy p q n m := by
    intro x hx h
    have h1 := on_wy hm c0 c1 h
    have h2 := hmin _ (hx h1)
    simp only at h2
    -- not behind it, not before it
    obtain ⟨k1, k2, k3⟩ := h
    have : TT p q x = 0 := h1.1
    have e1 : dot p q q * (wy p q n m).1 = dot p q q * (m * p.1) + n * dot p q q * (q.1 - p.1) := by unfold wy; simp only; grind
    have e2 : dot p q q * (x.1 - p.1) = dot p q x * (q.1 - p.1) := by unfold dot LL TT at *; grind
    have e3 : dot p q q * (x.2 - p.2) = dot p q x * (q.2 - p.2) := by unfold dot LL TT at *; grind
    have le2 : dot p q x * m ≤ n * dot p q q := by
      -- it lies between p and the hit
      have w : ∀ a b c : Int, min a b ≤ c → c ≤ max a b → 0 ≤ (b - a) * (b - c) := by
        intro a b c u v
        rcases Int.le_total a b with g | g
        · exact Int.mul_nonneg (by omega) (by omega)
        · exact Int.mul_nonneg_of_nonpos_of_nonpos (by omega) (by omega)
      have w1 := w _ _ _ k2.1 k2.2
      have w2 := w _ _ _ k3.1 k3.2
      have w3 : n * (n * dot p q q - m * dot p q x) = ((wy p q n m).1 - (sc m p).1) * ((wy p q n m).1 - (sc m x).1) + ((wy p q n m).2 - (sc m p).2) * ((wy p q n m).2 - (sc m x).2) := by unfold wy sc dot LL; simp only; grind
      have : 0 ≤ n * (n * dot p q q - m * dot p q x) := by omega
      have := (nneg_iff c0).1 this
      rw [Int.mul_comm (dot p q x)]; omega
    have eq : n * dot p q q = dot p q x * m := by omega
    have hdz : dot p q q ≠ 0 := by omega
    refine Prod.ext ?_ ?_
    · refine Int.eq_of_mul_eq_mul_left hdz ?_
      unfold sc wy; simp only; grind
    · refine Int.eq_of_mul_eq_mul_left hdz ?_
      unfold sc wy; simp only; grind
  refine ⟨⟨fun h => hp e he ((ons_sc hm).1 h), hno, fun h => ?_, fun h => ?_⟩, fun h => ?_⟩
  · exact hno ((vx _ g1 h) ▸ ons_end1 _ _)
  · exact hno ((vx _ g2 h) ▸ ons_end2 _ _)
  · obtain ⟨d1, d2, d3⟩ := cr_wy hm c0 c1 h
    obtain ⟨c, hcL, hcc⟩ := g4 d1
    have hq := hmin c hcL
    have e1 : (m - n) * TT e.1 e.2 p + n * TT e.1 e.2 q = TT e.1 e.2 p * m - n * (TT e.1 e.2 p - TT e.1 e.2 q) := by grind
    have e2 : (m - n) * TT e.1 e.2 p + n * TT e.1 e.2 q = - (- TT e.1 e.2 p * m - n * (TT e.1 e.2 q - TT e.1 e.2 p)) := by grind
    rcases hcc with ⟨s1, s2, s3⟩ | ⟨s1, s2, s3⟩
    · have t := d2 s1
      rw [s2, s3] at hq; omega
    · have t := d3 s1
      rw [s2, s3] at hq; omega
theorem simp_sc {K : Int} (hK : 0 < K) {l : List P2} (hs : Simp l) : Simp (l.map (sc K)) := by
  refine ⟨nd_sc hK hs.nd, ?_, ?_, by simpa using hs.three⟩
  · intro e he v hv h1 h2 h
    rw [EE_map] at he
    obtain ⟨f, hf, rfl⟩ := List.mem_map.1 he
    obtain ⟨u, hu, rfl⟩ := List.mem_map.1 hv
    exact hs.on f hf u hu (fun g => h1 (by rw [g])) (fun g => h2 (by rw [g])) ((ons_sc hK).1 h)
  · intro e he f hf h
    rw [EE_map] at he hf
    obtain ⟨e', he', rfl⟩ := List.mem_map.1 he
    obtain ⟨f', hf', rfl⟩ := List.mem_map.1 hf
    exact hs.cr _ he' _ hf' ((cr_sc hK).1 h)
/-- a simple polygon, cut along a diagonal into two -/
structure Spl (x y : P2) (S T : List P2) : Prop where
  hL : Simp (x :: (S ++ y :: T))
  hX : Simp (x :: (S ++ [y]))
  hY : Simp (y :: (T ++ [x]))
  nS : S ≠ []
  nT : T ≠ []
theorem EE_whole (x y : P2) (S T : List P2) : EE (x :: (S ++ y :: T)) = steps (x :: (S ++ [y])) ++ steps (y :: (T ++ [x])) := by
  have : EE (x :: (S ++ y :: T)) = steps ((x :: S) ++ y :: (T ++ [x])) := by simp [EE]
  rw [this, steps_cat]; simp
theorem Spl.swap {x y : P2} {S T : List P2} (h : Spl x y S T) : Spl y x T S := by
  refine ⟨?_, h.hY, h.hX, h.nT, h.nS⟩
  have e1 : x :: (S ++ y :: T) = (x :: S) ++ (y :: T) := by simp
  have e2 : y :: (T ++ x :: S) = (y :: T) ++ (x :: S) := by simp
  have hL := h.hL
  rw [e1] at hL; rw [e2]
  exact simp_perm hL List.perm_append_comm fun e he => (EE_rot _ _).mem_iff.1 he
theorem Spl.sc {x y : P2} {S T : List P2} (h : Spl x y S T) {K : Int} (hK : 0 < K) : Spl (sc K x) (sc K y) (S.map (Geo.sc K)) (T.map (Geo.sc K)) := by
  have a := simp_sc hK h.hL; have b := simp_sc hK h.hX; have c := simp_sc hK h.hY
  simp only [List.map_cons, List.map_append, List.map_nil] at a b c
  exact ⟨a, b, c, by simpa using h.nS, by simpa using h.nT⟩
theorem wind_whole (x y : P2) (S T : List P2) (p : P2) : wind (x :: (S ++ y :: T)) p = wind (x :: (S ++ [y])) p + wind (y :: (T ++ [x])) p := by
  unfold wind
  rw [EE_whole, EE_cut, EE_cut]
  simp only [List.map_append, List.sum_append, List.map_cons, List.map_nil, List.sum_cons, List.sum_nil]
  rw [ps_swap x y p]; omega
section
variable {x y : P2} {S T : List P2}
theorem Spl.stepX (h : Spl x y S T) {e : P2 × P2} (he : e ∈ steps (x :: (S ++ [y]))) : e ∈ EE (x :: (S ++ y :: T)) ∧ e ∈ EE (x :: (S ++ [y])) := by
  rw [EE_whole, EE_cut]; exact ⟨List.mem_append_left _ he, List.mem_append_left _ he⟩
theorem Spl.disj (h : Spl x y S T) {v : P2} (hv : v ∈ S) : v ∉ y :: (T ++ [x]) := by
  have nd := h.hL.nd
  intro hm
  rw [List.nodup_cons, List.nodup_append] at nd
  obtain ⟨n1, n2, n3, n4⟩ := nd
  simp only [List.mem_cons, List.mem_append, List.not_mem_nil, or_false] at hm
  rcases hm with g | g | g
  · exact n4 v hv y (by simp) g
  · exact n4 v hv v (by simp [g]) rfl
  · subst g; exact n1 (by simp [hv])
theorem Spl.memS (h : Spl x y S T) {v : P2} (hv : v ∈ S) : v ∈ x :: (S ++ y :: T) ∧ v ∈ x :: (S ++ [y]) := by simp [hv]
/-- an edge of the one part, its inside seen from the other -/
theorem Spl.edge_free (h : Spl x y S T) {u w : P2} (he : (u, w) ∈ steps (x :: (S ++ [y]))) (hu : u ∈ S) (hw : w ∈ S) : Free (y :: (T ++ [x])) u w := by
  obtain ⟨e1, e2⟩ := h.stepX he
  intro f hf
  obtain ⟨m1, m2⟩ := edge_mem hf
  have d1 := h.disj hu; have d2 := h.disj hw
  have hfu : u ≠ f.1 ∧ u ≠ f.2 ∧ w ≠ f.1 ∧ w ≠ f.2 := ⟨fun g => d1 (g ▸ m1), fun g => d1 (g ▸ m2), fun g => d2 (g ▸ m1), fun g => d2 (g ▸ m2)⟩
  rw [EE_cut, List.mem_append, List.mem_singleton] at hf
  rcases hf with hf | rfl
  · have hL : f ∈ EE (x :: (S ++ y :: T)) := by rw [EE_whole]; exact List.mem_append_right _ hf
    obtain ⟨mm1, mm2⟩ := edge_mem hL
    refine ⟨⟨h.hL.on f hL u (h.memS hu).1 hfu.1 hfu.2.1, h.hL.on f hL w (h.memS hw).1 hfu.2.2.1 hfu.2.2.2, h.hL.on _ e1 f.1 mm1 hfu.1.symm hfu.2.2.1.symm, h.hL.on _ e1 f.2 mm2 hfu.2.1.symm hfu.2.2.2.symm⟩, h.hL.cr _ e1 _ hL⟩
  · have hX : (y, x) ∈ EE (x :: (S ++ [y])) := by rw [EE_cut]; simp
    obtain ⟨mm1, mm2⟩ := edge_mem hX
    refine ⟨⟨fun g => h.hX.on _ hX u (h.memS hu).2 hfu.2.1 hfu.1 (ons_swap g), fun g => h.hX.on _ hX w (h.memS hw).2 hfu.2.2.2 hfu.2.2.1 (ons_swap g), h.hX.on _ e2 x mm2 hfu.1.symm hfu.2.2.1.symm, h.hX.on _ e2 y mm1 hfu.2.1.symm hfu.2.2.2.symm⟩, fun g => h.hX.cr _ e2 _ hX (cr_swap g)⟩
theorem steps_const {f : P2 → Int} : ∀ (L : List P2) (a : P2), (∀ e ∈ steps (a :: L), f e.1 = f e.2) → ∀ v ∈ a :: L, f v = f a
  | [], a, _, v, hv => by simp at hv; rw [hv]
  | b :: L, a, h, v, hv => by
    have h1 := h (a, b) (by simp [steps])
    rcases List.mem_cons.1 hv with rfl | hv
    · rfl
    · rw [steps_const L b (fun e he => h e (by simp [steps, he])) v hv]; exact h1.symm
theorem steps_sub {S : List P2} {a b : P2} {e : P2 × P2} (he : e ∈ steps S) : e ∈ steps (a :: (S ++ [b])) := by
  cases S with
  | nil => simp [steps] at he
  | cons s S =>
    rcases List.eq_nil_or_concat S with rfl | ⟨S', z, rfl⟩
    · simp [steps] at he
    · rw [List.concat_eq_append] at *
      have e1 : a :: (s :: (S' ++ [z]) ++ [b]) = a :: ((s :: S') ++ z :: [b]) := by simp
      have : steps (a :: (s :: (S' ++ [z]) ++ [b])) = (a, s) :: steps ((s :: S') ++ z :: [b]) := by simp [steps]
      rw [this, steps_cat]
      simp only [List.mem_cons, List.mem_append]
      exact Or.inr (Or.inl (by simpa using he))
theorem Spl.const (h : Spl x y S T) : ∃ κ, ∀ v ∈ S, wind (y :: (T ++ [x])) v = κ := by
  have key : ∀ e ∈ steps S, wind (y :: (T ++ [x])) e.1 = wind (y :: (T ++ [x])) e.2 := by
    rintro ⟨u, w⟩ he
    have := steps_mem he
    exact wind_const (h.edge_free (steps_sub he) this.1 this.2)
  cases hS : S with
  | nil => exact absurd hS h.nS
  | cons s S' =>
    rw [hS] at key
    exact ⟨_, steps_const S' s key⟩
theorem ons_sub {z r v o : P2} (h : OnS r v o) (hz : OnS z r v) : OnS z v o := by
  by_cases e1 : z = r
  · rw [e1]; exact h
  by_cases e2 : z = v
  · rw [e2]; exact ons_end1 _ _
  by_cases e3 : r = o
  · rw [← e3]; exact ons_swap hz
  by_cases e4 : r = v
  · subst e4
    obtain ⟨_, g1, g2⟩ := hz
    exact absurd (Prod.ext (by omega) (by omega)) e1
  obtain ⟨m, N, k0, k1, kx, ky⟩ := on_par h e4 e3
  obtain ⟨m', N', k0', k1', kx', ky'⟩ := on_par hz e1 e2
  -- z = v + (N' - m')/N' * m/N * (o - v)
  refine par_on (m := (N' - m') * m) (N := N' * N) (Int.mul_pos (by omega) (by omega)) (Int.mul_nonneg (by omega) (by omega)) ?_ ?_ ?_
  · have a1 := Int.mul_le_mul_of_nonneg_left (show m ≤ N by omega) (show 0 ≤ N' - m' by omega)
    have a2 := Int.mul_le_mul_of_nonneg_right (show N' - m' ≤ N' by omega) (show 0 ≤ N by omega)
    omega
  · grind
  · grind
theorem ons_anti {r v o : P2} (h : OnS r v o) (h' : OnS o r v) : r = o := by
  by_cases e : o = v
  · subst e
    obtain ⟨_, g1, g2⟩ := h
    exact Prod.ext (by omega) (by omega)
  obtain ⟨_, a1, a2⟩ := h
  obtain ⟨_, b1, b2⟩ := h'
  exact Prod.ext (by omega) (by omega)
theorem cr_sub {r v o a b : P2} (h : OnS r v o) (hrv : r ≠ v) (hc : Cr r v a b) : Cr o v a b := by
  by_cases e3 : r = o
  · rw [← e3]; exact hc
  obtain ⟨m, N, k0, k1, kx, ky⟩ := on_par h hrv e3
  obtain ⟨c1, c2⟩ := hc
  have f : ∀ u, N * TT r v u = m * TT o v u := fun u => by unfold TT; grind
  have g := par_tt kx ky a b
  refine ⟨?_, ?_⟩
  · refine neg_of (k := m * m) (Int.mul_pos k0 k0) ?_
    have : m * m * (TT o v a * TT o v b) = (N * N) * (TT r v a * TT r v b) := by
      have h1 := f a; have h2 := f b
      have e : m * m * (TT o v a * TT o v b) = (m * TT o v a) * (m * TT o v b) := by grind
      rw [e, ← h1, ← h2]; grind
    rw [this]; exact Int.mul_neg_of_pos_of_neg (Int.mul_pos (by omega) (by omega)) c1
  · rcases mul_neg_iff.1 c2 with ⟨g1, g2⟩ | ⟨g1, g2⟩
    · have a1 := Int.mul_pos (show 0 < N by omega) g1
      have a2 := Int.mul_neg_of_pos_of_neg (show 0 < N - m by omega) g2
      exact Int.mul_neg_of_pos_of_neg ((sgn_pos k0).1.1 (by omega)) g2
    · have a1 := Int.mul_neg_of_pos_of_neg (show 0 < N by omega) g1
      have a2 := Int.mul_pos (show 0 < N - m by omega) g2
      exact Int.mul_neg_of_neg_of_pos ((sgn_pos k0).2.1.1 (by omega)) g2
/-- a point of an edge of the one part that is no end of the cut is on no edge of the other -/
theorem Spl.off (h : Spl x y S T) {u w r : P2} (he : (u, w) ∈ steps (x :: (S ++ [y]))) (hr : OnS r u w) (hx : r ≠ x) (hy : r ≠ y) : ¬ OnB (y :: (T ++ [x])) r := by
  rintro ⟨f, hf, ho⟩
  obtain ⟨e1, e2⟩ := h.stepX he
  obtain ⟨m1, m2⟩ := edge_mem hf
  have hfx : f.1 ∈ T ∨ f.1 = x ∨ f.1 = y := by simp only [List.mem_cons, List.mem_append, List.not_mem_nil, or_false] at m1; grind
  have hd : ∀ {v : P2}, v ∈ x :: (S ++ [y]) → v ≠ x → v ≠ y → v ∈ S := by
    intro v hv a b; simp only [List.mem_cons, List.mem_append, List.not_mem_nil, or_false] at hv; grind
  obtain ⟨mu, mw⟩ := edge_mem e2
  by_cases g : r = u ∨ r = w
  · have hrS : r ∈ S := by rcases g with rfl | rfl; exact hd mu hx hy; exact hd mw hx hy
    have hno := h.disj hrS
    have n1 : r ≠ f.1 := fun g => hno (g ▸ m1)
    have n2 : r ≠ f.2 := fun g => hno (g ▸ m2)
    rw [EE_cut, List.mem_append, List.mem_singleton] at hf
    rcases hf with hf | rfl
    · have hL : f ∈ EE (x :: (S ++ y :: T)) := by rw [EE_whole]; exact List.mem_append_right _ hf
      exact h.hL.on f hL r (h.memS hrS).1 n1 n2 ho
    · have hX : (y, x) ∈ EE (x :: (S ++ [y])) := by rw [EE_cut]; simp
      exact h.hX.on _ hX r (h.memS hrS).2 n2 n1 (ons_swap ho)
  · rw [not_or] at g
    -- an inner point of the edge
    have huS : u ∈ S ∨ w ∈ S := by
      by_cases a : u ∈ S
      · exact Or.inl a
      · right
        have a' : u = x ∨ u = y := by
          simp only [List.mem_cons, List.mem_append, List.not_mem_nil, or_false] at mu; grind
        -- the edge begins at x, for y is last
        cases hS : S with
        | nil => exact absurd hS h.nS
        | cons s S' =>
          rw [hS] at he
          have he2 : (u, w) = (x, s) ∨ (u, w) ∈ steps (s :: (S' ++ [y])) := by simpa [steps] using he
          rcases he2 with g | g
          · simp only [Prod.mk.injEq] at g; rw [g.2]; simp
          · have := steps_fst (L := s :: S') (z := y) (by simpa using g)
            rw [hS] at a; exact absurd this a
    rw [EE_cut, List.mem_append, List.mem_singleton] at hf
    rcases hf with hf | rfl
    · have hL : f ∈ EE (x :: (S ++ y :: T)) := by rw [EE_whole]; exact List.mem_append_right _ hf
      have := simp_point h.hL e1 hL hr g.1 g.2 ho
      subst this
      rcases huS with a | a
      · exact h.disj a m1
      · exact h.disj a m2
    · have hX : (y, x) ∈ EE (x :: (S ++ [y])) := by rw [EE_cut]; simp
      have := simp_point h.hX e2 hX hr g.1 g.2 (ons_swap ho)
      simp only [Prod.mk.injEq] at this
      obtain ⟨rfl, rfl⟩ := this
      rcases huS with a | a
      · exact h.disj a m2
      · exact h.disj a m1
/-- along the one part all of it is as often inside the other -/
theorem Spl.on_chain (h : Spl x y S T) {κ : Int} (hk : ∀ v ∈ S, wind (y :: (T ++ [x])) v = κ) {u w r : P2} (he : (u, w) ∈ steps (x :: (S ++ [y]))) (hr : OnS r u w) (hx : r ≠ x) (hy : r ≠ y) : wind (y :: (T ++ [x])) r = κ := by
  obtain ⟨e1, e2⟩ := h.stepX he
  obtain ⟨mu, mw⟩ := edge_mem e2
  have hX : (y, x) ∈ EE (x :: (S ++ [y])) := by rw [EE_cut]; simp
  have main : ∀ v o : P2, OnS v u w → v ∈ S → o ∈ x :: (S ++ [y]) → OnS r v o → (∀ z ∈ x :: (S ++ y :: T), OnS z v o → z = v ∨ z = o) → (∀ f ∈ EE (x :: (S ++ y :: T)), ¬ Cr o v f.1 f.2) → (¬ Cr o v x y) → wind (y :: (T ++ [x])) r = κ := by
    intro v o hvo hv ho hro hno hcr hcr2
    by_cases erv : r = v
    · rw [erv]; exact hk v hv
    by_cases ero : r = o
    · have : r ∈ S := by
        rw [ero] at hx hy ⊢
        simp only [List.mem_cons, List.mem_append, List.not_mem_nil, or_false] at ho; grind
      exact hk r this
    rw [← hk v hv]
    refine wind_const fun f hf => ?_
    have hB := h.off he hr hx hy
    obtain ⟨m1, m2⟩ := edge_mem hf
    have hoff : ∀ z ∈ y :: (T ++ [x]), ¬ OnS z r v := by
      intro z hz g
      have hzl : z ∈ x :: (S ++ y :: T) := by simp only [List.mem_cons, List.mem_append, List.not_mem_nil, or_false] at hz ⊢; grind
      rcases hno z hzl (ons_sub hro g) with rfl | rfl
      · exact h.disj hv hz
      · exact ero (ons_anti hro g)
    have hvB := h.off he hvo (fun e => h.disj hv (by simp [e])) (fun e => h.disj hv (by simp [e]))
    refine ⟨⟨fun g => hB ⟨f, hf, g⟩, fun g => hvB ⟨f, hf, g⟩, hoff _ m1, hoff _ m2⟩, fun g => ?_⟩
    have hc := cr_sub hro erv g
    rw [EE_cut, List.mem_append, List.mem_singleton] at hf
    rcases hf with hf | rfl
    · exact hcr f (by rw [EE_whole]; exact List.mem_append_right _ hf) hc
    · exact hcr2 hc
  have hon : ∀ z ∈ x :: (S ++ y :: T), OnS z u w → z = u ∨ z = w := fun z hz g => by
    by_cases a : z = u
    · exact Or.inl a
    · by_cases b : z = w
      · exact Or.inr b
      · exact absurd g (h.hL.on _ e1 z hz a b)
  have huS : u ∈ S ∨ w ∈ S := by
    cases hS : S with
    | nil => exact absurd hS h.nS
    | cons s S' =>
      rw [hS] at he
      have he2 : (u, w) = (x, s) ∨ (u, w) ∈ steps (s :: (S' ++ [y])) := by simpa [steps] using he
      rcases he2 with g | g
      · simp only [Prod.mk.injEq] at g; right; rw [g.2]; simp
      · left; exact steps_fst (L := s :: S') (z := y) (by simpa using g)
  rcases huS with a | a
  · exact main u w (ons_end1 _ _) a mw hr hon (fun f hf g => h.hL.cr _ e1 _ hf (cr_flip g)) (fun g => h.hX.cr _ e2 _ hX (cr_swap (cr_flip g)))
  · exact main w u (ons_end2 _ _) a mu (ons_swap hr) (fun z hz g => (hon z hz (ons_swap g)).symm) (fun f hf g => h.hL.cr _ e1 _ hf g) (fun g => h.hX.cr _ e2 _ hX (cr_swap g))
end
section
variable {x y : P2} {S T : List P2}
theorem far_exists (l : List P2) (p d : P2) (hd : d ≠ (0, 0)) : ∃ q, LL d p ≤ LL d q ∧ ∀ l', (∀ v ∈ l', v ∈ l) → wind l' q = 0 := by
  obtain ⟨q, h1, h2⟩ := far_pt l p d hd
  refine ⟨q, h1, fun l' hl => ?_⟩
  rcases h2 with h2 | h2
  · exact wind_high (Or.inl fun v hv => h2 v (hl v hv))
  · exact wind_high (Or.inr fun v hv => h2 v (hl v hv))
/-- from a point that one of the two parts goes round, away from the cut: what is met first tells -/
theorem Spl.ray (h : Spl x y S T) {κ1 κ2 : Int} (hk1 : ∀ v ∈ S, wind (y :: (T ++ [x])) v = κ1) (hk2 : ∀ v ∈ T, wind (x :: (S ++ [y])) v = κ2) {p : P2} (hX : ¬ OnB (x :: (S ++ [y])) p) (hY : ¬ OnB (y :: (T ++ [x])) p)
    (hne : wind (x :: (S ++ [y])) p ≠ 0 ∨ wind (y :: (T ++ [x])) p ≠ 0) : κ1 = wind (y :: (T ++ [x])) p ∨ κ2 = wind (x :: (S ++ [y])) p := by
  have eX : EE (x :: (S ++ [y])) = steps (x :: (S ++ [y])) ++ [(y, x)] := EE_cut x y S
  have eY : EE (y :: (T ++ [x])) = steps (y :: (T ++ [x])) ++ [(x, y)] := EE_cut y x T
  have hxy : ¬ OnS p x y := fun g => hX ⟨(y, x), by rw [eX]; simp, ons_swap g⟩
  obtain ⟨δ, d1, d2⟩ := sep_of hxy
  have hd : δ ≠ (0, 0) := by rintro rfl; unfold LL at d1; simp at d1
  obtain ⟨q, q1, q2⟩ := far_exists ((x :: (S ++ [y])) ++ (y :: (T ++ [x]))) p δ hd
  have zX : wind (x :: (S ++ [y])) q = 0 := q2 _ fun v hv => List.mem_append_left _ hv
  have zY : wind (y :: (T ++ [x])) q = 0 := q2 _ fun v hv => List.mem_append_right _ hv
  have diag := sep_free (d := δ) (q := p) (q' := q) (m := LL δ p) d1 d2 (Int.le_refl _) q1
  have hex : ∃ e ∈ steps (x :: (S ++ [y])) ++ steps (y :: (T ++ [x])), ¬ (NoTouch p q e.1 e.2 ∧ ¬ Cr p q e.1 e.2) := by
    refine Classical.byContradiction fun hno => ?_
    have hall : ∀ e ∈ steps (x :: (S ++ [y])) ++ steps (y :: (T ++ [x])), NoTouch p q e.1 e.2 ∧ ¬ Cr p q e.1 e.2 := fun e he => Classical.byContradiction fun hh => hno ⟨e, he, hh⟩
    have fX : Free (x :: (S ++ [y])) p q := by
      intro e he
      rw [eX, List.mem_append, List.mem_singleton] at he
      rcases he with he | rfl
      · exact hall e (List.mem_append_left _ he)
      · exact ⟨noTouch_swap diag.1, fun g => diag.2 (cr_swap g)⟩
    have fY : Free (y :: (T ++ [x])) p q := by
      intro e he
      rw [eY, List.mem_append, List.mem_singleton] at he
      rcases he with he | rfl
      · exact hall e (List.mem_append_right _ he)
      · exact diag
    rw [wind_const fX, wind_const fY, zX, zY] at hne
    simp at hne
  have hpE : ∀ e ∈ steps (x :: (S ++ [y])) ++ steps (y :: (T ++ [x])), ¬ OnS p e.1 e.2 := by
    intro e he g
    rcases List.mem_append.1 he with he | he
    · exact hX ⟨e, by rw [eX]; exact List.mem_append_left _ he, g⟩
    · exact hY ⟨e, by rw [eY]; exact List.mem_append_left _ he, g⟩
  obtain ⟨n, m, n0, n1, ⟨e, he, ho⟩, hfree⟩ := first_hit hpE hex
  have hm : 0 < m := by omega
  generalize hr : wy p q n m = r at *
  -- the hit is beyond the cut
  have lr : m * LL δ p ≤ LL δ r := by
    have : LL δ r = (m - n) * LL δ p + n * LL δ q := by rw [← hr]; unfold LL wy; simp only; grind
    have := Int.mul_le_mul_of_nonneg_left q1 (show 0 ≤ n by omega)
    grind
  have lx : LL δ (Geo.sc m x) < m * LL δ p := by rw [LL_sc]; exact Int.mul_lt_mul_of_pos_left d1 hm
  have ly : LL δ (Geo.sc m y) < m * LL δ p := by rw [LL_sc]; exact Int.mul_lt_mul_of_pos_left d2 hm
  have rx : r ≠ Geo.sc m x := by rintro rfl; omega
  have ry : r ≠ Geo.sc m y := by rintro rfl; omega
  have diag' := sep_free (d := δ) (q := Geo.sc m p) (q' := r) (u := Geo.sc m x) (w := Geo.sc m y) (m := m * LL δ p) lx ly (by rw [LL_sc]; exact Int.le_refl _) lr
  have h' := h.sc hm
  have mX : (x :: (S ++ [y])).map (Geo.sc m) = Geo.sc m x :: (S.map (Geo.sc m) ++ [Geo.sc m y]) := by simp
  have mY : (y :: (T ++ [x])).map (Geo.sc m) = Geo.sc m y :: (T.map (Geo.sc m) ++ [Geo.sc m x]) := by simp
  have stX : ∀ {e : P2 × P2}, e ∈ steps (x :: (S ++ [y])) → (Geo.sc m e.1, Geo.sc m e.2) ∈ steps (Geo.sc m x :: (S.map (Geo.sc m) ++ [Geo.sc m y])) := by
    intro e he
    have := steps_map (Geo.sc m) (x :: (S ++ [y]))
    rw [mX] at this
    rw [this]; exact List.mem_map.2 ⟨e, he, rfl⟩
  have stY : ∀ {e : P2 × P2}, e ∈ steps (y :: (T ++ [x])) → (Geo.sc m e.1, Geo.sc m e.2) ∈ steps (Geo.sc m y :: (T.map (Geo.sc m) ++ [Geo.sc m x])) := by
    intro e he
    have := steps_map (Geo.sc m) (y :: (T ++ [x]))
    rw [mY] at this
    rw [this]; exact List.mem_map.2 ⟨e, he, rfl⟩
  have wXp : wind (Geo.sc m x :: (S.map (Geo.sc m) ++ [Geo.sc m y])) (Geo.sc m p) = wind (x :: (S ++ [y])) p := by rw [← mX]; exact wind_sc hm _ _
  have wYp : wind (Geo.sc m y :: (T.map (Geo.sc m) ++ [Geo.sc m x])) (Geo.sc m p) = wind (y :: (T ++ [x])) p := by rw [← mY]; exact wind_sc hm _ _
  have hk1' : ∀ v ∈ S.map (Geo.sc m), wind (Geo.sc m y :: (T.map (Geo.sc m) ++ [Geo.sc m x])) v = κ1 := by
    intro v hv
    obtain ⟨u, hu, rfl⟩ := List.mem_map.1 hv
    rw [← mY, wind_sc hm]; exact hk1 u hu
  have hk2' : ∀ v ∈ T.map (Geo.sc m), wind (Geo.sc m x :: (S.map (Geo.sc m) ++ [Geo.sc m y])) v = κ2 := by
    intro v hv
    obtain ⟨u, hu, rfl⟩ := List.mem_map.1 hv
    rw [← mX, wind_sc hm]; exact hk2 u hu
  rcases List.mem_append.1 he with he | he
  · left
    rw [← h'.on_chain hk1' (stX he) ho rx ry, ← wYp]
    symm
    refine wind_const fun f hf => ?_
    have hoff := h'.off (stX he) ho rx ry
    rw [← mY, EE_map] at hf
    obtain ⟨g, hg, rfl⟩ := List.mem_map.1 hf
    rw [eY, List.mem_append, List.mem_singleton] at hg
    rcases hg with hg | rfl
    · refine hfree g (List.mem_append_right _ hg) fun gg => hoff ⟨(Geo.sc m g.1, Geo.sc m g.2), ?_, gg⟩
      rw [← mY, EE_map]; exact List.mem_map.2 ⟨g, by rw [eY]; exact List.mem_append_left _ hg, rfl⟩
    · exact diag'
  · right
    rw [← h'.swap.on_chain hk2' (stY he) ho ry rx, ← wXp]
    symm
    refine wind_const fun f hf => ?_
    have hoff := h'.swap.off (stY he) ho ry rx
    rw [← mX, EE_map] at hf
    obtain ⟨g, hg, rfl⟩ := List.mem_map.1 hf
    rw [eX, List.mem_append, List.mem_singleton] at hg
    rcases hg with hg | rfl
    · refine hfree g (List.mem_append_left _ hg) fun gg => hoff ⟨(Geo.sc m g.1, Geo.sc m g.2), ?_, gg⟩
      rw [← mX, EE_map]; exact List.mem_map.2 ⟨g, by rw [eX]; exact List.mem_append_left _ hg, rfl⟩
    · exact ⟨noTouch_swap diag'.1, fun g => diag'.2 (cr_swap g)⟩
/-- 0 or 1, at every scale -/
def Once (l : List P2) : Prop := ∀ K : Int, 0 < K → ∀ p, wind (l.map (Geo.sc K)) p = 0 ∨ wind (l.map (Geo.sc K)) p = 1
theorem sc_sc (a b : Int) (p : P2) : Geo.sc a (Geo.sc b p) = Geo.sc (a * b) p := by unfold Geo.sc; simp only [Int.mul_assoc]
theorem map_sc_sc (a b : Int) (l : List P2) : (l.map (Geo.sc b)).map (Geo.sc a) = l.map (Geo.sc (a * b)) := by rw [List.map_map]; congr 1; funext p; exact sc_sc a b p
theorem once_sc {l : List P2} (h : Once l) {K : Int} (hK : 0 < K) : Once (l.map (Geo.sc K)) := fun K' hK' p => by
  rw [map_sc_sc]; exact h _ (Int.mul_pos hK' hK) p
/-- near the middle of the cut -/
theorem Spl.mid (h : Spl x y S T) (oX : Once (x :: (S ++ [y]))) (oY : Once (y :: (T ++ [x]))) : ∃ (K : Int) (p1 p2 : P2), 0 < K ∧
    (wind ((x :: (S ++ [y])).map (Geo.sc K)) p1 = 1 ∧ wind ((y :: (T ++ [x])).map (Geo.sc K)) p1 = 0) ∧ (wind ((x :: (S ++ [y])).map (Geo.sc K)) p2 = 0 ∧ wind ((y :: (T ++ [x])).map (Geo.sc K)) p2 = 1) ∧
    (¬ OnB ((x :: (S ++ [y])).map (Geo.sc K)) p1 ∧ ¬ OnB ((y :: (T ++ [x])).map (Geo.sc K)) p1) ∧ (¬ OnB ((x :: (S ++ [y])).map (Geo.sc K)) p2 ∧ ¬ OnB ((y :: (T ++ [x])).map (Geo.sc K)) p2) := by
  have hxy : x ≠ y := by
    have := h.hX.nd
    rintro rfl; simp at this
  have sX := simp_sc (K := 2) (by omega) h.hX
  have sY := simp_sc (K := 2) (by omega) h.hY
  have eX : (Geo.sc 2 y, Geo.sc 2 x) ∈ EE ((x :: (S ++ [y])).map (Geo.sc 2)) := by
    rw [EE_map]; exact List.mem_map.2 ⟨(y, x), by rw [EE_cut]; simp, rfl⟩
  have eY : (Geo.sc 2 x, Geo.sc 2 y) ∈ EE ((y :: (T ++ [x])).map (Geo.sc 2)) := by
    rw [EE_map]; exact List.mem_map.2 ⟨(x, y), by rw [EE_cut]; simp, rfl⟩
  have hz : OnS (pl x y) (Geo.sc 2 x) (Geo.sc 2 y) := by
    refine par_on (m := 1) (N := 2) (by omega) (by omega) (by omega) ?_ ?_ <;> (unfold pl Geo.sc; simp only; omega)
  have z1 : pl x y ≠ Geo.sc 2 x := fun g => by
    unfold pl Geo.sc at g; simp only [Prod.mk.injEq] at g
    exact hxy (Prod.ext (by omega) (by omega))
  have z2 : pl x y ≠ Geo.sc 2 y := fun g => by
    unfold pl Geo.sc at g; simp only [Prod.mk.injEq] at g
    exact hxy (Prod.ext (by omega) (by omega))
  have j1 := near_jump sX eX (ons_swap hz) z2 z1
  have j2 := near_jump sY eY hz z1 z2
  obtain ⟨K, hK, ⟨a1, a2, a3⟩, b1, b2, b3⟩ := (j1.and j2).ex
  have en : nrm (Geo.sc 2 y) (Geo.sc 2 x) = ng (nrm (Geo.sc 2 x) (Geo.sc 2 y)) := by unfold nrm ng; refine Prod.ext ?_ ?_ <;> (simp only; omega)
  have en2 : ng (nrm (Geo.sc 2 y) (Geo.sc 2 x)) = nrm (Geo.sc 2 x) (Geo.sc 2 y) := by unfold nrm ng; refine Prod.ext ?_ ?_ <;> (simp only; omega)
  rw [en2] at a1 a3
  rw [en] at a1 a2
  rw [map_sc_sc] at a1 a2 a3 b1 b2 b3
  have hK2 : 0 < K * 2 := by omega
  have oX1 := oX (K * 2) hK2; have oY1 := oY (K * 2) hK2
  have u1 := oX1 (pl (Geo.sc K (pl x y)) (nrm (Geo.sc 2 x) (Geo.sc 2 y)))
  have u2 := oX1 (pl (Geo.sc K (pl x y)) (ng (nrm (Geo.sc 2 x) (Geo.sc 2 y))))
  have u3 := oY1 (pl (Geo.sc K (pl x y)) (nrm (Geo.sc 2 x) (Geo.sc 2 y)))
  have u4 := oY1 (pl (Geo.sc K (pl x y)) (ng (nrm (Geo.sc 2 x) (Geo.sc 2 y))))
  exact ⟨K * 2, _, _, hK2, ⟨by omega, by omega⟩, ⟨by omega, by omega⟩, ⟨a2, b3⟩, ⟨a3, b2⟩⟩
/-- the two parts lie beside each other -/
theorem Spl.beside (h : Spl x y S T) (oX : Once (x :: (S ++ [y]))) (oY : Once (y :: (T ++ [x]))) (hext : (∃ v ∈ S, wind (y :: (T ++ [x])) v = 0) ∨ (∃ v ∈ T, wind (x :: (S ++ [y])) v = 0)) :
    (∀ v ∈ S, wind (y :: (T ++ [x])) v = 0) ∧ (∀ v ∈ T, wind (x :: (S ++ [y])) v = 0) ∧ Once (x :: (S ++ y :: T)) := by
  obtain ⟨κ1, hk1⟩ := h.const
  obtain ⟨κ2, hk2⟩ := h.swap.const
  obtain ⟨s, hs⟩ := List.exists_mem_of_ne_nil S h.nS
  obtain ⟨t, ht⟩ := List.exists_mem_of_ne_nil T h.nT
  have one : ∀ {l : List P2} (p : P2), Once l → wind l p = 0 ∨ wind l p = 1 := fun {l} p ho => by
    have := ho 1 (by omega) p
    have e : l.map (Geo.sc 1) = l := by
      have : Geo.sc 1 = id := by funext p; unfold Geo.sc; simp
      rw [this, List.map_id]
    rw [e] at this; exact this
  have k1 := one s oY; rw [hk1 s hs] at k1
  have k2 := one t oX; rw [hk2 t ht] at k2
  have k3 : κ1 = 0 ∨ κ2 = 0 := by
    rcases hext with ⟨v, hv, e⟩ | ⟨v, hv, e⟩
    · left; rw [← hk1 v hv]; exact e
    · right; rw [← hk2 v hv]; exact e
  -- at any scale
  have scaled : ∀ (K : Int) (p : P2), 0 < K → ¬ OnB ((x :: (S ++ [y])).map (Geo.sc K)) p → ¬ OnB ((y :: (T ++ [x])).map (Geo.sc K)) p →
      (wind ((x :: (S ++ [y])).map (Geo.sc K)) p ≠ 0 ∨ wind ((y :: (T ++ [x])).map (Geo.sc K)) p ≠ 0) → κ1 = wind ((y :: (T ++ [x])).map (Geo.sc K)) p ∨ κ2 = wind ((x :: (S ++ [y])).map (Geo.sc K)) p := by
    intro K p hK
    have h' := h.sc hK
    have mX : (x :: (S ++ [y])).map (Geo.sc K) = Geo.sc K x :: (S.map (Geo.sc K) ++ [Geo.sc K y]) := by simp
    have mY : (y :: (T ++ [x])).map (Geo.sc K) = Geo.sc K y :: (T.map (Geo.sc K) ++ [Geo.sc K x]) := by simp
    have hk1' : ∀ v ∈ S.map (Geo.sc K), wind (Geo.sc K y :: (T.map (Geo.sc K) ++ [Geo.sc K x])) v = κ1 := by
      intro v hv
      obtain ⟨u, hu, rfl⟩ := List.mem_map.1 hv
      rw [← mY, wind_sc hK]; exact hk1 u hu
    have hk2' : ∀ v ∈ T.map (Geo.sc K), wind (Geo.sc K x :: (S.map (Geo.sc K) ++ [Geo.sc K y])) v = κ2 := by
      intro v hv
      obtain ⟨u, hu, rfl⟩ := List.mem_map.1 hv
      rw [← mX, wind_sc hK]; exact hk2 u hu
    rw [mX, mY]
    exact fun a b c => h'.ray hk1' hk2' a b c
  obtain ⟨K, p1, p2, hK, ⟨a1, a2⟩, ⟨b1, b2⟩, ⟨c1, c2⟩, d1, d2⟩ := h.mid oX oY
  have r1 := scaled K p1 hK c1 c2 (Or.inl (by omega))
  have r2 := scaled K p2 hK d1 d2 (Or.inr (by omega))
  have z : κ1 = 0 ∧ κ2 = 0 := by omega
  refine ⟨fun v hv => by rw [hk1 v hv]; exact z.1, fun v hv => by rw [hk2 v hv]; exact z.2, ?_⟩
  intro K hK p
  have mW : (x :: (S ++ y :: T)).map (Geo.sc K) = Geo.sc K x :: (S.map (Geo.sc K) ++ Geo.sc K y :: T.map (Geo.sc K)) := by simp
  have mX : (x :: (S ++ [y])).map (Geo.sc K) = Geo.sc K x :: (S.map (Geo.sc K) ++ [Geo.sc K y]) := by simp
  have mY : (y :: (T ++ [x])).map (Geo.sc K) = Geo.sc K y :: (T.map (Geo.sc K) ++ [Geo.sc K x]) := by simp
  rw [mW, wind_whole, ← mX, ← mY]
  have o1 := oX K hK p; have o2 := oY K hK p
  have nb : ¬ (wind ((x :: (S ++ [y])).map (Geo.sc K)) p = 1 ∧ wind ((y :: (T ++ [x])).map (Geo.sc K)) p = 1) := by
    rintro ⟨g1, g2⟩
    -- moved a bit
    obtain ⟨D, hD⟩ := bound_dx (EE ((x :: (S ++ [y])).map (Geo.sc K)) ++ EE ((y :: (T ++ [x])).map (Geo.sc K)))
    have sX := simp_sc hK h.hX; have sY := simp_sc hK h.hY
    have w1 := wind_perturb (l := (x :: (S ++ [y])).map (Geo.sc K)) p (D := D) (fun e he => hD e (List.mem_append_left _ he)) (fun e he => simp_ne sX he)
    have w2 := wind_perturb (l := (y :: (T ++ [x])).map (Geo.sc K)) p (D := D) (fun e he => hD e (List.mem_append_right _ he)) (fun e he => simp_ne sY he)
    obtain ⟨L, hL, ⟨e1, e2⟩, e3, e4⟩ := (w1.and w2).ex
    rw [map_sc_sc] at e1 e2 e3 e4
    have := scaled (L * K) _ (Int.mul_pos hL hK) e2 e4 (Or.inl (by omega))
    omega
  omega
end
theorem wind_perm {l l' : List P2} (h : (EE l).Perm (EE l')) (p : P2) : wind l p = wind l' p := sum_perm (h.map _)
theorem once_perm {l l' : List P2} (h : (EE l).Perm (EE l')) (ho : Once l') : Once l := fun K hK p => by
  have : (EE (l.map (sc K))).Perm (EE (l'.map (sc K))) := by rw [EE_map, EE_map]; exact h.map _
  rw [wind_perm this]; exact ho K hK p
theorem simp_tri {a b c : P2} (ht : 0 < TT a b c) : Simp [a, b, c] := by
  have r1 := tt_rot a b c
  have r2 := tt_rot b c a
  have nd : a ≠ b ∧ b ≠ c ∧ c ≠ a := by
    refine ⟨?_, ?_, ?_⟩
    · rintro rfl; rw [(tt_self a c).2.2] at ht; simp at ht
    · rintro rfl; rw [(tt_self a b).2.1] at ht; simp at ht
    · rintro rfl; rw [(tt_self c b).1] at ht; simp at ht
  have hE : ∀ e, e ∈ EE [a, b, c] ↔ e = (a, b) ∨ e = (b, c) ∨ e = (c, a) := by intro e; simp [EE, steps]
  refine ⟨by simp [nd.1, nd.2.1, Ne.symm nd.2.2], ?_, ?_, by simp⟩
  · intro e he v hv h1 h2 h
    have h0 := h.1
    simp only [List.mem_cons, List.not_mem_nil, or_false] at hv
    rcases (hE e).1 he with rfl | rfl | rfl <;> simp only at * <;> rcases hv with rfl | rfl | rfl <;> first | exact h1 rfl | exact h2 rfl | omega
  · intro e he f hf h
    obtain ⟨c1, c2⟩ := h
    have s := tt_self
    rcases (hE e).1 he with rfl | rfl | rfl <;> rcases (hE f).1 hf with rfl | rfl | rfl <;> simp only at * <;>
    simp [(tt_self a b).1, (tt_self a b).2.1, (tt_self b c).1, (tt_self b c).2.1, (tt_self c a).1, (tt_self c a).2.1] at c1
theorem A2_tri (a b c : P2) : A2 [a, b, c] = TT a b c := by
  unfold A2; simp only [EE, List.nil_append, List.cons_append, steps, List.map_cons, List.map_nil, List.sum_cons, List.sum_nil, cr2]; unfold TT; grind
theorem once_tri {a b c : P2} (ht : 0 < TT a b c) : Once [a, b, c] := fun K hK p => by
  have : (([a, b, c] : List P2).map (sc K)) = [sc K a, sc K b, sc K c] := by simp
  rw [this]
  exact (tri_wind (by rw [TT_sc]; exact Int.mul_pos (Int.mul_pos hK hK) ht) p).1
theorem bnd_sub {l l' : List P2} (hb : Bnd l) (h : ∀ v ∈ l', v ∈ l) : Bnd l' := fun v hv => hb v (h v hv)
theorem gp_pos {l : List P2} (hb : Bnd l) (hs : Simp l) {v : P2} {t : Int} (hv : Exv l v) (ha : At l v t) : 0 < t * A2 l := gp_all l.length l (Nat.le_refl _) hb hs v t hv ha
/-- a simple polygon of more than three corners has a cut -/
theorem spl_ex {l : List P2} (hb : Bnd l) (hs : Simp l) (hA : 0 < A2 l) (h4 : 4 ≤ l.length) : ∃ x y S T, Spl x y S T ∧ l.Perm (x :: (S ++ y :: T)) ∧ (EE l).Perm (EE (x :: (S ++ y :: T))) ∧
    0 < A2 (x :: (S ++ [y])) ∧ 0 < A2 (y :: (T ++ [x])) ∧ ((∃ v ∈ S, wind (y :: (T ++ [x])) v = 0) ∨ (∃ v ∈ T, wind (x :: (S ++ [y])) v = 0)) := by
  obtain ⟨e1, e2, e3, x1, x2, x3, n12, n13, n23⟩ := three_ext hs hb
  obtain ⟨c, R, a, hs', hp, he⟩ := front hs x1.1
  generalize e1 = b at *
  have hb' : Bnd (b :: c :: (R ++ [a])) := bnd_sub hb fun v hv => hp.mem_iff.2 hv
  have hA' : 0 < A2 (b :: c :: (R ++ [a])) := by rw [← A2_perm he]; exact hA
  have x1' := ext_perm hp x1
  have x2' := ext_perm hp x2
  have x3' := ext_perm hp x3
  have ht : 0 < TT a b c := by
    have := gp_pos hb' hs' x1' ⟨a, c, edge_ab, edge_bc, rfl⟩
    exact pos_of_mul (by rw [Int.mul_comm]; exact this) hA'
  have hR : R ≠ [] := by rintro rfl; have := hp.length_eq; simp at this; omega
  have hlen := hp.length_eq
  by_cases hem : ∃ v ∈ R, InT a b c v
  · obtain ⟨z, hz, pz, hm⟩ := max_in (fun p => TT c a p) (InT a b c) R hem
    obtain ⟨R1, R2, rfl⟩ := List.append_of_mem hz
    obtain ⟨s1, s2, hAA, t1, t2, _⟩ := cut_diag_pos hs' ht pz hm
    have m1 : ∀ v ∈ b :: c :: (R1 ++ [z]), v ∈ b :: c :: ((R1 ++ z :: R2) ++ [a]) := by
      intro v hv; simp only [List.mem_cons, List.mem_append, List.not_mem_nil, or_false] at hv ⊢; grind
    have m2 : ∀ v ∈ b :: z :: (R2 ++ [a]), v ∈ b :: c :: ((R1 ++ z :: R2) ++ [a]) := by
      intro v hv; simp only [List.mem_cons, List.mem_append, List.not_mem_nil, or_false] at hv ⊢; grind
    have a1 : 0 < A2 (b :: c :: (R1 ++ [z])) := pos_of_mul (gp_pos (bnd_sub hb' m1) s1 (ext_sub x1' (by simp) m1) ⟨z, c, edge_ab, edge_bc, rfl⟩) t1
    have a2 : 0 < A2 (b :: z :: (R2 ++ [a])) := pos_of_mul (gp_pos (bnd_sub hb' m2) s2 (ext_sub x1' (by simp) m2) ⟨a, z, edge_ab, edge_bc, rfl⟩) t2
    have eW : b :: c :: ((R1 ++ z :: R2) ++ [a]) = b :: ((c :: R1) ++ z :: (R2 ++ [a])) := by simp
    have eX : b :: c :: (R1 ++ [z]) = b :: ((c :: R1) ++ [z]) := by simp
    have pY : (EE (z :: ((R2 ++ [a]) ++ [b]))).Perm (EE (b :: z :: (R2 ++ [a]))) := by
      have := EE_rot (z :: (R2 ++ [a])) [b]; simpa using this
    have qY : (b :: z :: (R2 ++ [a])).Perm (z :: ((R2 ++ [a]) ++ [b])) := by
      have : ([b] ++ (z :: (R2 ++ [a]))).Perm ((z :: (R2 ++ [a])) ++ [b]) := List.perm_append_comm
      simpa using this
    have sY : Simp (z :: ((R2 ++ [a]) ++ [b])) := simp_perm s2 qY fun e h => pY.mem_iff.1 h
    rw [eW] at hs' hp he x1' x2' x3'
    rw [eX] at s1 a1
    have hsp : Spl b z (c :: R1) (R2 ++ [a]) := ⟨hs', s1, sY, by simp, by simp⟩
    refine ⟨b, z, c :: R1, R2 ++ [a], hsp, hp, he, a1, by rw [A2_perm pY]; exact a2, ?_⟩
    -- a corner that is farthest in some direction, no end of the cut
    have : ∃ v, Exv (b :: ((c :: R1) ++ z :: (R2 ++ [a]))) v ∧ v ≠ b ∧ v ≠ z := by
      by_cases g : e2 = z
      · exact ⟨e3, x3', n13.symm, fun g' => n23 (g.trans g'.symm)⟩
      · exact ⟨e2, x2', n12.symm, g⟩
    obtain ⟨v, ⟨hv, d, hd⟩, vb, vz⟩ := this
    have hv' : v ∈ c :: R1 ∨ v ∈ R2 ++ [a] := by
      simp only [List.mem_cons, List.mem_append, List.not_mem_nil, or_false] at hv ⊢; grind
    rcases hv' with g | g
    · left; refine ⟨v, g, wind_far (d := d) fun u hu => hd u ?_ ?_⟩
      · simp only [List.mem_cons, List.mem_append, List.not_mem_nil, or_false] at hu ⊢; grind
      · rintro rfl; exact hsp.disj g hu
    · right; refine ⟨v, g, wind_far (d := d) fun u hu => hd u ?_ ?_⟩
      · simp only [List.mem_cons, List.mem_append, List.not_mem_nil, or_false] at hu ⊢; grind
      · rintro rfl; exact hsp.swap.disj g hu
  · obtain ⟨s2, hAA, hk⟩ := cut_ear_pos hs' hR ht (fun v hv h => hem ⟨v, hv, h⟩)
    have mY : ∀ v ∈ c :: (R ++ [a]), v ∈ b :: c :: (R ++ [a]) := fun v hv => List.mem_cons_of_mem _ hv
    have a2 : 0 < A2 (c :: (R ++ [a])) := by
      obtain ⟨t, hat⟩ := at_ex hs' x2'.1
      obtain ⟨h1, h2⟩ := hk e2 x2' n12.symm
      obtain ⟨t', g1, g2⟩ := h2 t hat
      have p1 := gp_pos hb' hs' x2' hat
      have p2 := gp_pos (bnd_sub hb' mY) s2 h1 g1
      have t0 : 0 < t := pos_of_mul (by rw [Int.mul_comm]; exact p1) hA'
      exact pos_of_mul p2 (pos_of_mul g2 t0)
    have pW : (EE (b :: c :: (R ++ [a]))).Perm (EE (a :: ([b] ++ c :: R))) := by
      have := EE_rot (b :: c :: R) [a]; simpa using this
    have qW : (b :: c :: (R ++ [a])).Perm (a :: ([b] ++ c :: R)) := by
      have : ((b :: c :: R) ++ [a]).Perm ([a] ++ (b :: c :: R)) := List.perm_append_comm
      simpa using this
    have sW : Simp (a :: ([b] ++ c :: R)) := simp_perm hs' qW fun e h => pW.symm.mem_iff.1 h
    have hsp : Spl a c [b] R := ⟨sW, by simpa using simp_tri ht, s2, by simp, hR⟩
    refine ⟨a, c, [b], R, hsp, hp.trans qW, he.trans pW, by simpa [A2_tri] using ht, a2, ?_⟩
    left
    obtain ⟨hv, d, hd⟩ := x1'
    refine ⟨b, by simp, wind_far (d := d) fun u hu => hd u (mY u hu) ?_⟩
    rintro rfl
    exact (List.nodup_cons.1 hs'.nd).1 hu
theorem spl_len {x y : P2} {S T l : List P2} (h : Spl x y S T) (hp : l.Perm (x :: (S ++ y :: T))) : (x :: (S ++ [y])).length < l.length ∧ (y :: (T ++ [x])).length < l.length := by
  have := hp.length_eq
  have a := List.length_pos_iff.2 h.nS
  have b := List.length_pos_iff.2 h.nT
  simp at this ⊢; omega
theorem three_of {l : List P2} (h : l.length = 3) : ∃ a b c, l = [a, b, c] := by
  match l, h with
  | [a, b, c], _ => exact ⟨a, b, c, rfl⟩
/-- a simple polygon that turns left goes round each point once, or not at all -/
theorem once_all : ∀ n (l : List P2), l.length ≤ n → Bnd l → Simp l → 0 < A2 l → Once l := by
  intro n
  induction n with
  | zero => intro l h _ hs; have := hs.three; omega
  | succ n ih =>
    intro l hl hb hs hA
    by_cases h3 : l.length = 3
    · obtain ⟨a, b, c, rfl⟩ := three_of h3
      rw [A2_tri] at hA
      exact once_tri hA
    · have h4 : 4 ≤ l.length := by have := hs.three; omega
      obtain ⟨x, y, S, T, hsp, hp, he, a1, a2, hext⟩ := spl_ex hb hs hA h4
      obtain ⟨l1, l2⟩ := spl_len hsp hp
      have o1 := ih _ (by omega) (bnd_sub hb fun v hv => hp.mem_iff.2 (by simp only [List.mem_cons, List.mem_append, List.not_mem_nil, or_false] at hv ⊢; grind)) hsp.hX a1
      have o2 := ih _ (by omega) (bnd_sub hb fun v hv => hp.mem_iff.2 (by simp only [List.mem_cons, List.mem_append, List.not_mem_nil, or_false] at hv ⊢; grind)) hsp.hY a2
      exact once_perm he (hsp.beside o1 o2 hext).2.2
/-- a corner that can be cut off -/
def Ear (l : List P2) (t : P2) : Prop := ∃ p q, (p, t) ∈ EE l ∧ (t, q) ∈ EE l ∧ 0 < TT p t q ∧ ∀ v ∈ l, v ≠ p → v ≠ t → v ≠ q → ¬ InT p t q v
theorem ear_perm {l l' : List P2} (hp : l.Perm l') (he : (EE l).Perm (EE l')) {t : P2} (h : Ear l' t) : Ear l t := by
  obtain ⟨p, q, h1, h2, h3, h4⟩ := h
  exact ⟨p, q, he.mem_iff.2 h1, he.mem_iff.2 h2, h3, fun v hv => h4 v (hp.mem_iff.1 hv)⟩
/-- a corner that is cut off -/
theorem ear_cut {l : List P2} (hb : Bnd l) (hs : Simp l) (hA : 0 < A2 l) (h4 : 4 ≤ l.length) {t : P2} (h : Ear l t) : ∃ p q R, l.Perm (t :: q :: (R ++ [p])) ∧ (EE l).Perm (EE (t :: q :: (R ++ [p]))) ∧ Simp (q :: (R ++ [p])) ∧ 0 < A2 (q :: (R ++ [p])) ∧ 0 < TT p t q ∧ (∀ v ∈ R, ¬ InT p t q v) ∧ R ≠ [] := by
  obtain ⟨p, q, h1, h2, h3, hem⟩ := h
  obtain ⟨q', R, p', hs', hp, he⟩ := front hs (edge_mem h1).2
  have e1 := nbr_prev hs'.nd (he.mem_iff.1 h1)
  have e2 := nbr_next hs'.nd (he.mem_iff.1 h2)
  subst e1 e2
  have hR : R ≠ [] := by rintro rfl; have := hp.length_eq; simp at this; omega
  have nd := nd_ne hs'.nd
  have hemR : ∀ v ∈ R, ¬ InT p t q v := fun v hv => by
    obtain ⟨n1, n2, n3⟩ := nd.2.2.2 v hv
    exact hem v (hp.mem_iff.2 (by simp [hv])) n3 n1 n2
  obtain ⟨s2, hAA, hk⟩ := cut_ear_pos hs' hR h3 hemR
  have hb' : Bnd (t :: q :: (R ++ [p])) := bnd_sub hb fun v hv => hp.mem_iff.2 hv
  have hA' : 0 < A2 (t :: q :: (R ++ [p])) := by rw [← A2_perm he]; exact hA
  refine ⟨p, q, R, hp, he, s2, ?_, h3, hemR, hR⟩
  obtain ⟨e1, e2, e3, x1, x2, x3, n12, n13, n23⟩ := three_ext hs' hb'
  have : ∃ v, Exv (t :: q :: (R ++ [p])) v ∧ v ≠ t := by
    by_cases g : e1 = t
    · exact ⟨e2, x2, fun g' => n12 (g.trans g'.symm)⟩
    · exact ⟨e1, x1, g⟩
  obtain ⟨v, xv, vt⟩ := this
  obtain ⟨s, hat⟩ := at_ex hs' xv.1
  obtain ⟨g1, g2⟩ := hk v xv vt
  obtain ⟨s', g3, g4⟩ := g2 s hat
  have p1 := gp_pos hb' hs' xv hat
  have p2 := gp_pos (bnd_sub hb' fun v hv => List.mem_cons_of_mem _ hv) s2 g1 g3
  exact pos_of_mul p2 (pos_of_mul g4 (pos_of_mul (by rw [Int.mul_comm]; exact p1) hA'))
theorem wind_cut (v c a : P2) (R : List P2) (p : P2) : wind (v :: c :: (R ++ [a])) p = wind (c :: (R ++ [a])) p + wind [a, v, c] p := by
  unfold wind
  rw [front_E, EE_cut]
  simp only [EE, List.nil_append, List.cons_append, steps, List.map_cons, List.map_append, List.map_nil, List.sum_cons, List.sum_append, List.sum_nil]
  rw [ps_swap a c p]; omega
/-- where an ear goes round, the polygon does -/
theorem ear_wind {l : List P2} (hb : Bnd l) (hs : Simp l) (hA : 0 < A2 l) {p t q : P2} (h1 : (p, t) ∈ EE l) (h2 : (t, q) ∈ EE l) (h3 : 0 < TT p t q) (hem : ∀ v ∈ l, v ≠ p → v ≠ t → v ≠ q → ¬ InT p t q v) {K : Int} (hK : 0 < K) {z : P2} (hz : wind [sc K p, sc K t, sc K q] z = 1) : wind (l.map (sc K)) z = 1 := by
  by_cases h4 : 4 ≤ l.length
  · obtain ⟨p', q', R, hp, he, s2, a2, _, _, _⟩ := ear_cut hb hs hA h4 ⟨p, q, h1, h2, h3, hem⟩
    have hs' : Simp (t :: q' :: (R ++ [p'])) := simp_perm hs hp fun e h => he.mem_iff.2 h
    have e1 := nbr_prev hs'.nd (he.mem_iff.1 h1)
    have e2 := nbr_next hs'.nd (he.mem_iff.1 h2)
    subst e1 e2
    have ho := once_all l.length l (Nat.le_refl _) hb hs hA K hK z
    have ho2 := once_all _ _ (Nat.le_refl _) (bnd_sub hb fun v hv => hp.mem_iff.2 (List.mem_cons_of_mem _ hv)) s2 a2 K hK z
    have hw : wind (l.map (sc K)) z = wind ((q :: (R ++ [p])).map (sc K)) z + 1 := by
      have : (EE (l.map (sc K))).Perm (EE ((t :: q :: (R ++ [p])).map (sc K))) := by rw [EE_map, EE_map]; exact he.map _
      rw [wind_perm this]
      have e : (t :: q :: (R ++ [p])).map (sc K) = sc K t :: sc K q :: (R.map (sc K) ++ [sc K p]) := by simp
      rw [e, wind_cut, hz]; simp
    omega
  · have h3' : l.length = 3 := by have := hs.three; omega
    obtain ⟨c, R, a, hs', hp, he⟩ := front hs (edge_mem h1).2
    have hR : R = [] := by have := hp.length_eq; simp at this; exact List.length_eq_zero_iff.1 (by omega)
    subst hR
    have e1 := nbr_prev hs'.nd (he.mem_iff.1 h1)
    have e2 := nbr_next hs'.nd (he.mem_iff.1 h2)
    subst e1 e2
    have : (EE (l.map (sc K))).Perm (EE ([p, t, q].map (sc K))) := by
      rw [EE_map, EE_map]
      refine (he.trans ?_).map _
      have := EE_rot [t, q] [p]; simpa using this
    rw [wind_perm this]; simpa using hz
/-- nearer to the middle of a triangle -/
theorem inT_near {p t q v : P2} (h3 : 0 < TT p t q) (hv : InT p t q v) : Ev fun K => wind [sc K p, sc K t, sc K q] (pl (sc K v) (p.1 + t.1 + q.1 - 3 * v.1, p.2 + t.2 + q.2 - 3 * v.2)) = 1 := by
  obtain ⟨i1, i2, i3⟩ := hv
  refine (Ev.pos 4).imp fun K hK => ?_
  have k1 : TT (sc K p) (sc K t) (pl (sc K v) (p.1 + t.1 + q.1 - 3 * v.1, p.2 + t.2 + q.2 - 3 * v.2)) = K * ((K - 3) * TT p t v + TT p t q) := by unfold TT sc pl; simp only; grind
  have k2 : TT (sc K t) (sc K q) (pl (sc K v) (p.1 + t.1 + q.1 - 3 * v.1, p.2 + t.2 + q.2 - 3 * v.2)) = K * ((K - 3) * TT t q v + TT p t q) := by unfold TT sc pl; simp only; grind
  have k3 : TT (sc K q) (sc K p) (pl (sc K v) (p.1 + t.1 + q.1 - 3 * v.1, p.2 + t.2 + q.2 - 3 * v.2)) = K * ((K - 3) * TT q p v + TT p t q) := by unfold TT sc pl; simp only; grind
  have m1 := Int.mul_nonneg (show 0 ≤ K - 3 by omega) i1
  have m2 := Int.mul_nonneg (show 0 ≤ K - 3 by omega) i2
  have m3 := Int.mul_nonneg (show 0 ≤ K - 3 by omega) i3
  refine (tri_wind (by rw [TT_sc]; exact Int.mul_pos (Int.mul_pos (by omega) (by omega)) h3) _).2.2 ?_ ?_ ?_
  · rw [k1]; exact Int.mul_pos (by omega) (by omega)
  · rw [k2]; exact Int.mul_pos (by omega) (by omega)
  · rw [k3]; exact Int.mul_pos (by omega) (by omega)
/-- each edge has an ear elsewhere -/
theorem ear_ex : ∀ n (l : List P2), l.length ≤ n → Bnd l → Simp l → 0 < A2 l → ∀ e ∈ EE l, ∃ t, t ≠ e.1 ∧ t ≠ e.2 ∧ Ear l t := by
  intro n
  induction n with
  | zero => intro l h _ hs; have := hs.three; omega
  | succ n ih =>
    intro l hl hb hs hA
    by_cases h3 : l.length = 3
    · obtain ⟨a, b, c, rfl⟩ := three_of h3
      rw [A2_tri] at hA
      have hE : ∀ e, e ∈ EE [a, b, c] ↔ e = (a, b) ∨ e = (b, c) ∨ e = (c, a) := by intro e; simp [EE, steps]
      have nd := hs.nd
      simp only [List.nodup_cons, List.mem_cons, List.not_mem_nil, or_false, not_or, List.nodup_nil, and_true, not_false_eq_true] at nd
      obtain ⟨⟨nab, nac⟩, nbc⟩ := nd
      have r1 := tt_rot a b c
      have r2 := tt_rot b c a
      have all : ∀ v ∈ [a, b, c], v = a ∨ v = b ∨ v = c := fun v hv => by simpa using hv
      intro e he
      rcases (hE e).1 he with rfl | rfl | rfl
      · exact ⟨c, fun g => nac g.symm, fun g => nbc g.symm, b, a, (hE _).2 (by simp), (hE _).2 (by simp), by omega, fun v hv a1 a2 a3 => by rcases all v hv with g | g | g <;> grind⟩
      · exact ⟨a, nab, nac, c, b, (hE _).2 (by simp), (hE _).2 (by simp), by omega, fun v hv a1 a2 a3 => by rcases all v hv with g | g | g <;> grind⟩
      · exact ⟨b, nbc, fun g => nab g.symm, a, c, (hE _).2 (by simp), (hE _).2 (by simp), by omega, fun v hv a1 a2 a3 => by rcases all v hv with g | g | g <;> grind⟩
    · have h4 : 4 ≤ l.length := by have := hs.three; omega
      obtain ⟨x, y, S, T, hsp, hp, he, a1, a2, hext⟩ := spl_ex hb hs hA h4
      obtain ⟨l1, l2⟩ := spl_len hsp hp
      have b1 : Bnd (x :: (S ++ [y])) := bnd_sub hb fun v hv => hp.mem_iff.2 (by simp only [List.mem_cons, List.mem_append, List.not_mem_nil, or_false] at hv ⊢; grind)
      have b2 : Bnd (y :: (T ++ [x])) := bnd_sub hb fun v hv => hp.mem_iff.2 (by simp only [List.mem_cons, List.mem_append, List.not_mem_nil, or_false] at hv ⊢; grind)
      have o1 := once_all _ _ (Nat.le_refl _) b1 hsp.hX a1
      have o2 := once_all _ _ (Nat.le_refl _) b2 hsp.hY a2
      obtain ⟨k1, k2, _⟩ := hsp.beside o1 o2 hext
      -- an ear of the one part is one of the whole
      have side : ∀ {x y : P2} {S T : List P2}, Spl x y S T → Bnd (x :: (S ++ [y])) → 0 < A2 (x :: (S ++ [y])) → (∀ v ∈ T, wind (x :: (S ++ [y])) v = 0) → (∃ t, t ≠ y ∧ t ≠ x ∧ Ear (x :: (S ++ [y])) t) → ∃ t ∈ S, Ear (x :: (S ++ y :: T)) t := by
        rintro x y S T hsp hb hA hk ⟨t, ty, tx, p, q, h1, h2, h3, hem⟩
        have tS : t ∈ S := by
          have := (edge_mem h1).2
          simp only [List.mem_cons, List.mem_append, List.not_mem_nil, or_false] at this; grind
        have c1 : (p, t) ∈ steps (x :: (S ++ [y])) := by
          have h := h1; rw [EE_cut, List.mem_append, List.mem_singleton] at h
          rcases h with h | h
          · exact h
          · simp only [Prod.mk.injEq] at h; exact absurd h.2 tx
        have c2 : (t, q) ∈ steps (x :: (S ++ [y])) := by
          have h := h2; rw [EE_cut, List.mem_append, List.mem_singleton] at h
          rcases h with h | h
          · exact h
          · simp only [Prod.mk.injEq] at h; exact absurd h.1 ty
        refine ⟨t, tS, p, q, (hsp.stepX c1).1, (hsp.stepX c2).1, h3, fun v hv n1 n2 n3 hin => ?_⟩
        by_cases hvX : v ∈ x :: (S ++ [y])
        · exact hem v hvX n1 n2 n3 hin
        · have hvT : v ∈ T := by
            simp only [List.mem_cons, List.mem_append, List.not_mem_nil, or_false, not_or] at hv hvX; grind
          have hoff : ¬ OnB (x :: (S ++ [y])) v := by
            rintro ⟨f, hf, ho⟩
            have nm := hsp.swap.disj hvT
            obtain ⟨m1, m2⟩ := edge_mem hf
            have n1 : v ≠ f.1 := fun g => nm (g ▸ m1)
            have n2 : v ≠ f.2 := fun g => nm (g ▸ m2)
            rw [EE_cut, List.mem_append, List.mem_singleton] at hf
            rcases hf with hf | rfl
            · exact hsp.hL.on f (hsp.stepX hf).1 v (by simp [hvT]) n1 n2 ho
            · have hY : (x, y) ∈ EE (y :: (T ++ [x])) := by rw [EE_cut]; simp
              exact hsp.hY.on _ hY v (by simp [hvT]) n2 n1 (ons_swap ho)
          obtain ⟨K, hK, g1, g2⟩ := ((near_same hoff _).and (inT_near h3 hin)).ex
          have := ear_wind hb hsp.hX hA h1 h2 h3 hem hK g2
          rw [g1, hk v hvT] at this
          simp at this
      intro e hE
      have hE' := he.mem_iff.1 hE
      rw [EE_whole] at hE'
      rcases List.mem_append.1 hE' with h | h
      · have hh : (x, y) ∈ EE (y :: (T ++ [x])) := by rw [EE_cut]; simp
        obtain ⟨t, n1, n2, ht⟩ := ih _ (by omega) b2 hsp.hY a2 _ hh
        obtain ⟨t, tT, hear⟩ := side hsp.swap b2 a2 k1 ⟨t, n1, n2, ht⟩
        have nd := hsp.swap.disj tT
        obtain ⟨m1, m2⟩ := edge_mem (hsp.stepX h).2
        refine ⟨t, fun g => nd (g ▸ m1), fun g => nd (g ▸ m2), ear_perm hp he ?_⟩
        have e1 : (y :: (T ++ x :: S)).Perm (x :: (S ++ y :: T)) := by
          have : ((y :: T) ++ (x :: S)).Perm ((x :: S) ++ (y :: T)) := List.perm_append_comm
          simpa using this
        have e2 : (EE (y :: (T ++ x :: S))).Perm (EE (x :: (S ++ y :: T))) := by
          have := EE_rot (y :: T) (x :: S); simpa using this
        exact ear_perm e1.symm e2.symm hear
      · have hh : (y, x) ∈ EE (x :: (S ++ [y])) := by rw [EE_cut]; simp
        obtain ⟨t, n1, n2, ht⟩ := ih _ (by omega) b1 hsp.hX a1 _ hh
        obtain ⟨t, tS, hear⟩ := side hsp b1 a1 k2 ⟨t, n1, n2, ht⟩
        have nd := hsp.disj tS
        obtain ⟨m1, m2⟩ := edge_mem (hsp.swap.stepX h).2
        exact ⟨t, fun g => nd (g ▸ m1), fun g => nd (g ▸ m2), ear_perm hp he hear⟩
theorem turn_one (a b c : P2) : turnI a.1 a.2 b.1 b.2 c.1 c.2 = 1 ↔ 0 < TT a b c := by
  rw [turn_sgn]
  rcases Int.lt_trichotomy (TT a b c) 0 with h | h | h
  · rw [Int.sign_eq_neg_one_of_neg h]; omega
  · rw [h]; simp
  · rw [Int.sign_eq_one_of_pos h]; omega
theorem turn_nn (a b c : P2) : 0 ≤ turnI a.1 a.2 b.1 b.2 c.1 c.2 ↔ 0 ≤ TT a b c := by
  rw [turn_sgn]
  rcases Int.lt_trichotomy (TT a b c) 0 with h | h | h
  · rw [Int.sign_eq_neg_one_of_neg h]; omega
  · rw [h]; simp
  · rw [Int.sign_eq_one_of_pos h]; omega
theorem inTri_iff (p a b c : P2) : inTriB p.1 p.2 a.1 a.2 b.1 b.2 c.1 c.2 = true ↔ InT a b c p := by
  unfold inTriB InT
  simp only [Bool.and_eq_true, decide_eq_true_eq, turn_nn a b p, turn_nn b c p, turn_nn c a p, and_assoc]
theorem corner_iff (p a b c : P2) : cornerB p.1 p.2 a.1 a.2 b.1 b.2 c.1 c.2 = true ↔ p = a ∨ p = b ∨ p = c := by
  unfold cornerB
  simp only [Bool.or_eq_true, Bool.and_eq_true, beq_iff_eq, Prod.ext_iff, or_assoc]
theorem isEar_iff (l : List P2) (k : Nat) : isEar l l.length k = true ↔ 0 < TT (ptAt l ((k + l.length - 1) % l.length)) (ptAt l k) (ptAt l ((k + 1) % l.length)) ∧
    ∀ j, j < l.length → ptAt l j ≠ ptAt l ((k + l.length - 1) % l.length) → ptAt l j ≠ ptAt l k → ptAt l j ≠ ptAt l ((k + 1) % l.length) → ¬ InT (ptAt l ((k + l.length - 1) % l.length)) (ptAt l k) (ptAt l ((k + 1) % l.length)) (ptAt l j) := by
  unfold isEar earTurn barTo
  rw [Bool.and_eq_true, beq_iff_eq]
  have e := turn_one (ptAt l ((k + l.length - 1) % l.length)) (ptAt l k) (ptAt l ((k + 1) % l.length))
  have hb : ∀ j, bars l l.length k j = true ↔ ¬ (ptAt l j = ptAt l ((k + l.length - 1) % l.length) ∨ ptAt l j = ptAt l k ∨ ptAt l j = ptAt l ((k + 1) % l.length)) ∧ InT (ptAt l ((k + l.length - 1) % l.length)) (ptAt l k) (ptAt l ((k + 1) % l.length)) (ptAt l j) := fun j => by
    unfold bars
    rw [Bool.and_eq_true, Bool.not_eq_true', ← Bool.not_eq_true]
    exact and_congr (not_congr (corner_iff (ptAt l j) _ _ _)) (inTri_iff (ptAt l j) _ _ _)
  refine and_congr e ?_
  rw [Bool.not_eq_true', ← Bool.not_eq_true, List.any_eq_true]
  constructor
  · intro h j hj n1 n2 n3 hin
    exact h ⟨j, List.mem_range.2 hj, (hb j).2 ⟨by rintro (g | g | g) <;> contradiction, hin⟩⟩
  · rintro h ⟨j, hj, hbj⟩
    obtain ⟨g1, g2⟩ := (hb j).1 hbj
    rw [not_or, not_or] at g1
    exact h j (List.mem_range.1 hj) g1.1 g1.2.1 g1.2.2 g2
/-- an ear by its index -/
theorem ear_idx {l : List P2} (hs : Simp l) {k : Nat} (hk : k < l.length) : isEar l l.length k = true ↔ Ear l (ptAt l k) := by
  have e1 : (ptAt l ((k + l.length - 1) % l.length), ptAt l k) ∈ EE l := EE_mem.2 ⟨(k + l.length - 1) % l.length, Nat.mod_lt _ (by omega), by rw [prev_next hk]⟩
  have e2 : (ptAt l k, ptAt l ((k + 1) % l.length)) ∈ EE l := EE_mem.2 ⟨k, hk, rfl⟩
  rw [isEar_iff]
  constructor
  · rintro ⟨h1, h2⟩
    refine ⟨_, _, e1, e2, h1, fun v hv n1 n2 n3 => ?_⟩
    obtain ⟨j, hj, rfl⟩ := pt_mem.1 hv
    exact h2 j hj n1 n2 n3
  · rintro ⟨p, q, h1, h2, h3, h4⟩
    have u1 : p = ptAt l ((k + l.length - 1) % l.length) := by
      obtain ⟨i, hi, g⟩ := EE_mem.1 h1
      simp only [Prod.mk.injEq] at g
      have := pt_inj hs.nd hk (nx_lt hi) g.2
      rw [g.1]; congr 1
      rw [this, nx hi]; split
      · rename_i h; rw [Nat.mod_eq_of_lt] <;> omega
      · rw [show i + 1 + l.length - 1 = i + l.length from by omega, Nat.add_mod_right, Nat.mod_eq_of_lt hi]
    have u2 : q = ptAt l ((k + 1) % l.length) := by
      obtain ⟨i, hi, g⟩ := EE_mem.1 h2
      simp only [Prod.mk.injEq] at g
      have := pt_inj hs.nd hk hi g.1
      rw [g.2, this]
    subst u1 u2
    exact ⟨h3, fun j hj n1 n2 n3 => h4 _ (pt_mem.2 ⟨j, hj, rfl⟩) n1 n2 n3⟩
/-- a polygon from which ears are cut -/
structure EarOk (r : List P2) : Prop where
  ok : okL r = true
  si : Simp r
  ar : 0 < A2 r
theorem ear_head {t : P2} {M : List P2} (hb : Bnd (t :: M)) (hs : Simp (t :: M)) (hA : 0 < A2 (t :: M)) (h4 : 3 ≤ M.length) (h : Ear (t :: M) t) : Simp M ∧ 0 < A2 M := by
  obtain ⟨p, q, h1, h2, h3, hem⟩ := h
  match M, h4 with
  | c :: M', h4 =>
    rcases List.eq_nil_or_concat M' with rfl | ⟨R, a, rfl⟩
    · simp at h4
    · rw [List.concat_eq_append] at *
      have e1 := nbr_prev hs.nd h1
      have e2 := nbr_next hs.nd h2
      subst e1 e2
      have hR : R ≠ [] := by rintro rfl; simp at h4
      have nd := nd_ne hs.nd
      have hemR : ∀ v ∈ R, ¬ InT p t q v := fun v hv => by
        obtain ⟨n1, n2, n3⟩ := nd.2.2.2 v hv
        exact hem v (by simp [hv]) n3 n1 n2
      obtain ⟨s2, hAA, hk⟩ := cut_ear_pos hs hR h3 hemR
      refine ⟨s2, ?_⟩
      obtain ⟨e1, e2, e3, x1, x2, x3, n12, n13, n23⟩ := three_ext hs hb
      have : ∃ v, Exv (t :: q :: (R ++ [p])) v ∧ v ≠ t := by
        by_cases g : e1 = t
        · exact ⟨e2, x2, fun g' => n12 (g.trans g'.symm)⟩
        · exact ⟨e1, x1, g⟩
      obtain ⟨v, xv, vt⟩ := this
      obtain ⟨s, hat⟩ := at_ex hs xv.1
      obtain ⟨g1, g2⟩ := hk v xv vt
      obtain ⟨s', g3, g4⟩ := g2 s hat
      have p1 := gp_pos hb hs xv hat
      have p2 := gp_pos (bnd_sub hb fun v hv => List.mem_cons_of_mem _ hv) s2 g1 g3
      exact pos_of_mul p2 (pos_of_mul g4 (pos_of_mul (by rw [Int.mul_comm]; exact p1) hA))
theorem ear_erase {r : List P2} (h : EarOk r) (h4 : 4 ≤ r.length) {k : Nat} (hk : k < r.length) (he : isEar r r.length k = true) : EarOk (r.eraseIdx k) := by
  have hE := (ear_idx h.si hk).1 he
  have er : r = r.take k ++ ptAt r k :: r.drop (k + 1) := by
    rw [ptAt_get r k hk]; simp
  have ee : r.eraseIdx k = r.take k ++ r.drop (k + 1) := List.eraseIdx_eq_take_drop_succ ..
  rw [ee]
  have hl : (r.take k).length + (r.drop (k + 1)).length + 1 = r.length := by simp; omega
  have ok := h.ok; have si := h.si; have ar := h.ar
  generalize ptAt r k = t at *
  generalize r.take k = X at *
  generalize r.drop (k + 1) = Y at *
  subst er
  have p1 : (X ++ t :: Y).Perm (t :: (Y ++ X)) := by
    have : (X ++ (t :: Y)).Perm ((t :: Y) ++ X) := List.perm_append_comm
    simpa using this
  have p2 : (EE (X ++ t :: Y)).Perm (EE (t :: (Y ++ X))) := by have := EE_rot X (t :: Y); simpa using this
  have s1 : Simp (t :: (Y ++ X)) := simp_perm si p1 fun e h => p2.mem_iff.2 h
  have b1 : Bnd (t :: (Y ++ X)) := bnd_sub (okL_bnd ok) fun v hv => p1.mem_iff.2 hv
  obtain ⟨s2, a2⟩ := ear_head b1 s1 (by rw [← A2_perm p2]; exact ar) (by simp at hl h4 ⊢; omega) (ear_perm p1.symm p2.symm hE)
  refine ⟨okL_mem ok fun v hv => by simp only [List.mem_append, List.mem_cons] at hv ⊢; grind, simp_perm s2 List.perm_append_comm fun e he => (EE_rot _ _).mem_iff.1 he, by rw [A2_perm (EE_rot X Y)]; exact a2⟩
theorem ear_some {r : List P2} (h : EarOk r) : ∃ k, k < r.length ∧ isEar r r.length k = true := by
  have h3 := h.si.three
  obtain ⟨t, n1, n2, hE⟩ := ear_ex r.length r (Nat.le_refl _) (okL_bnd h.ok) h.si h.ar _ (EE_mem.2 ⟨0, by omega, rfl⟩)
  obtain ⟨p, q, h1, _⟩ := hE
  obtain ⟨k, hk, rfl⟩ := pt_mem.1 (edge_mem h1).2
  exact ⟨k, hk, (ear_idx h.si hk).2 ⟨p, q, h1, by assumption⟩⟩
/-- the first ear is an ear, and no other one comes before it -/
theorem earFrom_spec (l : List P2) (n : Nat) : ∀ m k, (∃ j, k ≤ j ∧ j < k + m ∧ isEar l n j = true) → k ≤ earFrom l n m k ∧ earFrom l n m k < k + m ∧ isEar l n (earFrom l n m k) = true ∧ ∀ j, k ≤ j → j < earFrom l n m k → isEar l n j = false := by
  intro m
  induction m with
  | zero => rintro k ⟨j, h1, h2, _⟩; omega
  | succ m ih =>
    rintro k ⟨j, h1, h2, h3⟩
    unfold earFrom
    by_cases hk : isEar l n k = true
    · rw [if_pos hk]; exact ⟨by omega, by omega, hk, fun j a b => by omega⟩
    · rw [if_neg hk]
      have hj : j ≠ k := by rintro rfl; exact hk h3
      obtain ⟨a1, a2, a3, a4⟩ := ih (k + 1) ⟨j, by omega, by omega, h3⟩
      refine ⟨by omega, by omega, a3, fun j' b1 b2 => ?_⟩
      by_cases e : j' = k
      · subst e; simpa using hk
      · exact a4 j' (by omega) b2
theorem earI_spec {r : List P2} (h : EarOk r) : earI r r.length < r.length ∧ isEar r r.length (earI r r.length) = true ∧ ∀ j, j < earI r r.length → isEar r r.length j = false := by
  obtain ⟨k, hk, he⟩ := ear_some h
  obtain ⟨a1, a2, a3, a4⟩ := earFrom_spec r r.length r.length 0 ⟨k, by omega, by omega, he⟩
  exact ⟨by unfold earI; omega, a3, fun j hj => a4 j (by omega) hj⟩
theorem earOk_norm {l : List P2} (h : polyI l = 0) : EarOk (normL l) := by
  obtain ⟨s1, s2, s3, s4, s5, s6, s7⟩ := norm_self h
  exact ⟨s4, s1, s3⟩

end Geo
end Go.Proofs.YtpdfbboagaflhaaGreat
