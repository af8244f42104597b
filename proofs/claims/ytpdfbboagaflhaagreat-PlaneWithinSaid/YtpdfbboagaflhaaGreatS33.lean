/- Segments within a polygon: what the program and the reference ask is one; bounds of the stops. -/
import Derived.Test.YtpdfbboagaflhaaGreatS32
import Derived.Test.YtpdfbboagaflhaaGreatM51
import Derived.Test.YtpdfbboagaflhaaGreatS31

set_option linter.unusedSimpArgs false
set_option linter.unusedVariables false
set_option linter.unusedSectionVars false
namespace Go.Proofs.YtpdfbboagaflhaaGreat
namespace Geo

/-- how an edge passes the ray to the right of a point -/
def ps (u w p : P2) : Int := if u.2 ≤ p.2 ∧ p.2 < w.2 ∧ 0 < TT u w p then 1 else if w.2 ≤ p.2 ∧ p.2 < u.2 ∧ TT u w p < 0 then -1 else 0
def wind (l : List P2) (p : P2) : Int := ((EE l).map fun e => ps e.1 e.2 p).sum
theorem ps_swap (u w p : P2) : ps w u p = - ps u w p := by
  unfold ps; rw [tt_swap u w p]
  repeat' split
  all_goals omega
/-- the side on which a corner lies, seen from an ascending segment -/
def fs (q q' u : P2) : Int := if q.2 < u.2 ∧ u.2 ≤ q'.2 ∧ TT q q' u < 0 then 1 else 0
def NoTouch (q q' u w : P2) : Prop := ¬ OnS q u w ∧ ¬ OnS q' u w ∧ ¬ OnS u q q' ∧ ¬ OnS w q q'
theorem noTouch_swap {q q' u w : P2} (h : NoTouch q q' u w) : NoTouch q q' w u := ⟨fun g => h.1 (ons_swap g), fun g => h.2.1 (ons_swap g), h.2.2.2, h.2.2.1⟩
theorem noTouch_swap' {q q' u w : P2} (h : NoTouch q q' u w) : NoTouch q' q u w := ⟨h.2.1, h.1, fun g => h.2.2.1 (ons_swap g), fun g => h.2.2.2 (ons_swap g)⟩
theorem ons_h {p u w : P2} (h0 : TT u w p = 0) (hn : u.2 < w.2) (h1 : u.2 ≤ p.2) (h2 : p.2 ≤ w.2) : OnS p u w := by
  refine par_on (m := p.2 - u.2) (N := w.2 - u.2) (by omega) (by omega) (by omega) ?_ ?_
  · unfold TT at h0; grind
  · grind
theorem ons_h1 {p u w : P2} (h0 : u.2 = w.2) (h : p.2 = u.2) (h1 : u.1 ≤ p.1) (h2 : p.1 ≤ w.1) : OnS p u w := by
  refine ⟨?_, by omega, by omega⟩
  unfold TT; rw [← h0, h]; grind
theorem sgn_pos {k a : Int} (hk : 0 < k) : (0 < k * a ↔ 0 < a) ∧ (k * a < 0 ↔ a < 0) ∧ (k * a = 0 ↔ a = 0) := by
  refine ⟨pos_iff hk, ⟨neg_of hk, fun h => Int.mul_neg_of_pos_of_neg hk h⟩, ?_⟩
  rw [Int.mul_eq_zero]; constructor
  · rintro (h | h) <;> omega
  · exact Or.inr
def jump (q u w : P2) : Int := if 0 < TT u w q then 1 else -1
theorem mono_k {k y y' : Int} (hk : 0 ≤ k) (hy : y ≤ y') : 0 ≤ k * (y' - y) := Int.mul_nonneg hk (by omega)
theorem mono_k' {k y y' : Int} (hk : k ≤ 0) (hy : y ≤ y') : k * (y' - y) ≤ 0 := Int.mul_nonpos_of_nonpos_of_nonneg hk (by omega)
theorem sgk (k y y' : Int) : (0 ≤ k → y ≤ y' → 0 ≤ k * (y' - y)) ∧ (0 ≤ k → y' ≤ y → k * (y' - y) ≤ 0) ∧ (k ≤ 0 → y ≤ y' → k * (y' - y) ≤ 0) ∧ (k ≤ 0 → y' ≤ y → 0 ≤ k * (y' - y)) := by
  refine ⟨mono_k, ?_, mono_k', ?_⟩
  · intro h1 h2; exact Int.mul_nonpos_of_nonneg_of_nonpos h1 (by omega)
  · intro h1 h2; exact Int.mul_nonneg_of_nonpos_of_nonpos h1 (by omega)
set_option maxHeartbeats 4000000 in
/-- segments at two heights -/
theorem flux_up {q q' u w : P2} (hq : q.2 < q'.2) (hu : u.2 < w.2) (hn : NoTouch q q' u w) :
    (Cr q q' u w → ps u w q - ps u w q' - (fs q q' w - fs q q' u) = jump q u w) ∧ (¬ Cr q q' u w → ps u w q - ps u w q' - (fs q q' w - fs q q' u) = 0) := by
  obtain ⟨n1, n2, n3, n4⟩ := hn
  -- the four values of one linear function
  have d1 : (q'.2 - q.2) * TT u w q' - (q'.2 - q.2) * TT u w q = (TT u w q' - TT u w q) * (q'.2 - q.2) := by grind
  have d2 : - ((w.2 - u.2) * TT q q' u) - (q'.2 - q.2) * TT u w q = (TT u w q' - TT u w q) * (u.2 - q.2) := by unfold TT; grind
  have d3 : - ((w.2 - u.2) * TT q q' w) - (q'.2 - q.2) * TT u w q = (TT u w q' - TT u w q) * (w.2 - q.2) := by unfold TT; grind
  have d4 : - ((w.2 - u.2) * TT q q' w) + ((w.2 - u.2) * TT q q' u) = (TT u w q' - TT u w q) * (w.2 - u.2) := by unfold TT; grind
  have d5 : - ((w.2 - u.2) * TT q q' w) - (q'.2 - q.2) * TT u w q' = (TT u w q' - TT u w q) * (w.2 - q'.2) := by unfold TT; grind
  have d6 : - ((w.2 - u.2) * TT q q' u) - (q'.2 - q.2) * TT u w q' = (TT u w q' - TT u w q) * (u.2 - q'.2) := by unfold TT; grind
  have sA := sgn_pos (k := q'.2 - q.2) (a := TT u w q) (by omega)
  have sB := sgn_pos (k := q'.2 - q.2) (a := TT u w q') (by omega)
  have sC := sgn_pos (k := w.2 - u.2) (a := TT q q' u) (by omega)
  have sE := sgn_pos (k := w.2 - u.2) (a := TT q q' w) (by omega)
  have z1 : u.2 ≤ q.2 → q.2 ≤ w.2 → TT u w q ≠ 0 := fun a b c => n1 (ons_h c hu a b)
  have z2 : u.2 ≤ q'.2 → q'.2 ≤ w.2 → TT u w q' ≠ 0 := fun a b c => n2 (ons_h c hu a b)
  have z3 : q.2 ≤ u.2 → u.2 ≤ q'.2 → TT q q' u ≠ 0 := fun a b c => n3 (ons_h c hq a b)
  have z4 : q.2 ≤ w.2 → w.2 ≤ q'.2 → TT q q' w ≠ 0 := fun a b c => n4 (ons_h c hq a b)
  have cr : Cr q q' u w ↔ (TT q q' u * TT q q' w < 0 ∧ TT u w q * TT u w q' < 0) := Iff.rfl
  have ab : TT u w q * TT u w q' < 0 ↔ (0 < TT u w q ∧ TT u w q' < 0) ∨ (TT u w q < 0 ∧ 0 < TT u w q') := by
    constructor
    · exact mul_neg_cases
    · rintro (⟨a, b⟩ | ⟨a, b⟩)
      · exact Int.mul_neg_of_pos_of_neg a b
      · exact Int.mul_neg_of_neg_of_pos a b
  have ce : TT q q' u * TT q q' w < 0 ↔ (0 < TT q q' u ∧ TT q q' w < 0) ∨ (TT q q' u < 0 ∧ 0 < TT q q' w) := by
    constructor
    · exact mul_neg_cases
    · rintro (⟨a, b⟩ | ⟨a, b⟩)
      · exact Int.mul_neg_of_pos_of_neg a b
      · exact Int.mul_neg_of_neg_of_pos a b
  rw [cr, ab, ce]
  unfold ps fs jump
  generalize hk : TT u w q' - TT u w q = k at *
  generalize TT u w q = A at *
  generalize TT u w q' = B at *
  generalize TT q q' u = C at *
  generalize TT q q' w = E at *
  have e1 := sgk k q.2 u.2
  have e2 := sgk k q.2 w.2
  have e3 := sgk k q'.2 w.2
  have e4 := sgk k q'.2 u.2
  have e5 := sgk k q.2 q'.2
  have e6 := sgk k u.2 w.2
  clear cr ab ce n1 n2 n3 n4
  generalize (q'.2 - q.2) * A = A' at *
  generalize (q'.2 - q.2) * B = B' at *
  generalize (w.2 - u.2) * C = C' at *
  generalize (w.2 - u.2) * E = E' at *
  generalize k * (u.2 - q.2) = P1 at *
  generalize k * (w.2 - q.2) = P2 at *
  generalize k * (w.2 - q'.2) = P3 at *
  generalize k * (u.2 - q'.2) = P4 at *
  generalize k * (q'.2 - q.2) = P5 at *
  generalize k * (w.2 - u.2) = P6 at *
  generalize q.2 = y1 at *
  generalize q'.2 = y2 at *
  generalize u.2 = y3 at *
  generalize w.2 = y4 at *
  simp only [← sA.1, ← sB.1, ← sC.1, ← sE.1, ← sA.2.1, ← sB.2.1, ← sC.2.1, ← sE.2.1]
  simp only [ne_eq, ← sA.2.2, ← sB.2.2, ← sC.2.2, ← sE.2.2] at z1 z2 z3 z4
  clear sA sB sC sE
  have t1 : (if y4 ≤ y1 ∧ y1 < y3 ∧ A' < 0 then (-1 : Int) else 0) = 0 := if_neg (by omega)
  have t2 : (if y4 ≤ y2 ∧ y2 < y3 ∧ B' < 0 then (-1 : Int) else 0) = 0 := if_neg (by omega)
  rw [t1, t2]
  clear t1 t2
  have hkk := Int.le_total 0 k
  by_cases hov : y3 ≤ y2 ∧ y1 < y4
  · obtain ⟨v1, v2⟩ := hov
    rcases Int.lt_or_le y1 y3 with o1 | o1 <;> rcases Int.lt_or_le y2 y4 with o2 | o2
    · have a1 : (if y3 ≤ y1 ∧ y1 < y4 ∧ 0 < A' then (1 : Int) else 0) = 0 := if_neg (by omega)
      have a4 : (if y1 < y3 ∧ y3 ≤ y2 ∧ C' < 0 then (1 : Int) else 0) = if C' < 0 then 1 else 0 := by simp only [v1, o1, true_and]
      have a2 : (if y3 ≤ y2 ∧ y2 < y4 ∧ 0 < B' then (1 : Int) else 0) = if 0 < B' then 1 else 0 := by simp only [v1, o2, true_and]
      have a3 : (if y1 < y4 ∧ y4 ≤ y2 ∧ E' < 0 then (1 : Int) else 0) = 0 := if_neg (by omega)
      rw [a1, a2, a3, a4]; clear a1 a2 a3 a4
      have g1 := z3 (by omega) (by omega); have g2 := z2 (by omega) (by omega); clear z1 z2 z3 z4
      rcases hkk with hk0 | hk0
      · have f1 := e1.1 hk0 (by omega); have f2 := e2.1 hk0 (by omega); have f3 := e3.1 hk0 (by omega); have f4 := e4.2.1 hk0 (by omega); have f5 := e5.1 hk0 (by omega); have f6 := e6.1 hk0 (by omega)
        clear e1 e2 e3 e4 e5 e6
        constructor <;> intro hc <;> (repeat' split) <;> omega
      · have f1 := e1.2.2.1 hk0 (by omega); have f2 := e2.2.2.1 hk0 (by omega); have f3 := e3.2.2.1 hk0 (by omega); have f4 := e4.2.2.2 hk0 (by omega); have f5 := e5.2.2.1 hk0 (by omega); have f6 := e6.2.2.1 hk0 (by omega)
        clear e1 e2 e3 e4 e5 e6
        constructor <;> intro hc <;> (repeat' split) <;> omega
    · have a1 : (if y3 ≤ y1 ∧ y1 < y4 ∧ 0 < A' then (1 : Int) else 0) = 0 := if_neg (by omega)
      have a4 : (if y1 < y3 ∧ y3 ≤ y2 ∧ C' < 0 then (1 : Int) else 0) = if C' < 0 then 1 else 0 := by simp only [v1, o1, true_and]
      have a2 : (if y3 ≤ y2 ∧ y2 < y4 ∧ 0 < B' then (1 : Int) else 0) = 0 := if_neg (by omega)
      have a3 : (if y1 < y4 ∧ y4 ≤ y2 ∧ E' < 0 then (1 : Int) else 0) = if E' < 0 then 1 else 0 := by simp only [v2, o2, true_and]
      rw [a1, a2, a3, a4]; clear a1 a2 a3 a4
      have g1 := z3 (by omega) (by omega); have g2 := z4 (by omega) (by omega); clear z1 z2 z3 z4
      rcases hkk with hk0 | hk0
      · have f1 := e1.1 hk0 (by omega); have f2 := e2.1 hk0 (by omega); have f3 := e3.2.1 hk0 (by omega); have f4 := e4.2.1 hk0 (by omega); have f5 := e5.1 hk0 (by omega); have f6 := e6.1 hk0 (by omega)
        clear e1 e2 e3 e4 e5 e6
        constructor <;> intro hc <;> (repeat' split) <;> omega
      · have f1 := e1.2.2.1 hk0 (by omega); have f2 := e2.2.2.1 hk0 (by omega); have f3 := e3.2.2.2 hk0 (by omega); have f4 := e4.2.2.2 hk0 (by omega); have f5 := e5.2.2.1 hk0 (by omega); have f6 := e6.2.2.1 hk0 (by omega)
        clear e1 e2 e3 e4 e5 e6
        constructor <;> intro hc <;> (repeat' split) <;> omega
    · have a1 : (if y3 ≤ y1 ∧ y1 < y4 ∧ 0 < A' then (1 : Int) else 0) = if 0 < A' then 1 else 0 := by simp only [v2, o1, true_and]
      have a4 : (if y1 < y3 ∧ y3 ≤ y2 ∧ C' < 0 then (1 : Int) else 0) = 0 := if_neg (by omega)
      have a2 : (if y3 ≤ y2 ∧ y2 < y4 ∧ 0 < B' then (1 : Int) else 0) = if 0 < B' then 1 else 0 := by simp only [v1, o2, true_and]
      have a3 : (if y1 < y4 ∧ y4 ≤ y2 ∧ E' < 0 then (1 : Int) else 0) = 0 := if_neg (by omega)
      rw [a1, a2, a3, a4]; clear a1 a2 a3 a4
      have g1 := z1 (by omega) (by omega); have g2 := z2 (by omega) (by omega); clear z1 z2 z3 z4
      rcases hkk with hk0 | hk0
      · have f1 := e1.2.1 hk0 (by omega); have f2 := e2.1 hk0 (by omega); have f3 := e3.1 hk0 (by omega); have f4 := e4.2.1 hk0 (by omega); have f5 := e5.1 hk0 (by omega); have f6 := e6.1 hk0 (by omega)
        clear e1 e2 e3 e4 e5 e6
        constructor <;> intro hc <;> (repeat' split) <;> omega
      · have f1 := e1.2.2.2 hk0 (by omega); have f2 := e2.2.2.1 hk0 (by omega); have f3 := e3.2.2.1 hk0 (by omega); have f4 := e4.2.2.2 hk0 (by omega); have f5 := e5.2.2.1 hk0 (by omega); have f6 := e6.2.2.1 hk0 (by omega)
        clear e1 e2 e3 e4 e5 e6
        constructor <;> intro hc <;> (repeat' split) <;> omega
    · have a1 : (if y3 ≤ y1 ∧ y1 < y4 ∧ 0 < A' then (1 : Int) else 0) = if 0 < A' then 1 else 0 := by simp only [v2, o1, true_and]
      have a4 : (if y1 < y3 ∧ y3 ≤ y2 ∧ C' < 0 then (1 : Int) else 0) = 0 := if_neg (by omega)
      have a2 : (if y3 ≤ y2 ∧ y2 < y4 ∧ 0 < B' then (1 : Int) else 0) = 0 := if_neg (by omega)
      have a3 : (if y1 < y4 ∧ y4 ≤ y2 ∧ E' < 0 then (1 : Int) else 0) = if E' < 0 then 1 else 0 := by simp only [v2, o2, true_and]
      rw [a1, a2, a3, a4]; clear a1 a2 a3 a4
      have g1 := z1 (by omega) (by omega); have g2 := z4 (by omega) (by omega); clear z1 z2 z3 z4
      rcases hkk with hk0 | hk0
      · have f1 := e1.2.1 hk0 (by omega); have f2 := e2.1 hk0 (by omega); have f3 := e3.2.1 hk0 (by omega); have f4 := e4.2.1 hk0 (by omega); have f5 := e5.1 hk0 (by omega); have f6 := e6.1 hk0 (by omega)
        clear e1 e2 e3 e4 e5 e6
        constructor <;> intro hc <;> (repeat' split) <;> omega
      · have f1 := e1.2.2.2 hk0 (by omega); have f2 := e2.2.2.1 hk0 (by omega); have f3 := e3.2.2.2 hk0 (by omega); have f4 := e4.2.2.2 hk0 (by omega); have f5 := e5.2.2.1 hk0 (by omega); have f6 := e6.2.2.1 hk0 (by omega)
        clear e1 e2 e3 e4 e5 e6
        constructor <;> intro hc <;> (repeat' split) <;> omega
  · have a1 : (if y3 ≤ y1 ∧ y1 < y4 ∧ 0 < A' then (1 : Int) else 0) = 0 := if_neg (by omega)
    have a2 : (if y3 ≤ y2 ∧ y2 < y4 ∧ 0 < B' then (1 : Int) else 0) = 0 := if_neg (by omega)
    have a3 : (if y1 < y4 ∧ y4 ≤ y2 ∧ E' < 0 then (1 : Int) else 0) = 0 := if_neg (by omega)
    have a4 : (if y1 < y3 ∧ y3 ≤ y2 ∧ C' < 0 then (1 : Int) else 0) = 0 := if_neg (by omega)
    rw [a1, a2, a3, a4]; clear a1 a2 a3 a4 z1 z2 z3 z4
    refine ⟨fun hc => ?_, fun _ => by omega⟩
    exfalso
    rcases hkk with hk0 | hk0
    · have f5 := e5.1 hk0 (by omega); have f6 := e6.1 hk0 (by omega)
      rcases Int.lt_or_le y2 y3 with g | g
      · have f4 := e4.1 hk0 (by omega); have f3 := e3.1 hk0 (by omega); have f1 := e1.1 hk0 (by omega); have f2 := e2.1 hk0 (by omega)
        clear e1 e2 e3 e4 e5 e6; omega
      · have f1 := e1.2.1 hk0 (by omega); have f2 := e2.2.1 hk0 (by omega); have f3 := e3.2.1 hk0 (by omega); have f4 := e4.2.1 hk0 (by omega)
        clear e1 e2 e3 e4 e5 e6; omega
    · have f5 := e5.2.2.1 hk0 (by omega); have f6 := e6.2.2.1 hk0 (by omega)
      rcases Int.lt_or_le y2 y3 with g | g
      · have f4 := e4.2.2.1 hk0 (by omega); have f3 := e3.2.2.1 hk0 (by omega); have f1 := e1.2.2.1 hk0 (by omega); have f2 := e2.2.2.1 hk0 (by omega)
        clear e1 e2 e3 e4 e5 e6; omega
      · have f1 := e1.2.2.2 hk0 (by omega); have f2 := e2.2.2.2 hk0 (by omega); have f3 := e3.2.2.2 hk0 (by omega); have f4 := e4.2.2.2 hk0 (by omega)
        clear e1 e2 e3 e4 e5 e6; omega
def dfl (q q' u w : P2) : Int := ps u w q - ps u w q' - (fs q q' w - fs q q' u)
def Flux (q q' u w : P2) : Prop := (Cr q q' u w → dfl q q' u w = jump q u w) ∧ (¬ Cr q q' u w → dfl q q' u w = 0)
theorem mul_neg_iff {a b : Int} : a * b < 0 ↔ (0 < a ∧ b < 0) ∨ (a < 0 ∧ 0 < b) := by
  constructor
  · exact mul_neg_cases
  · rintro (⟨a, b⟩ | ⟨a, b⟩)
    · exact Int.mul_neg_of_pos_of_neg a b
    · exact Int.mul_neg_of_neg_of_pos a b
theorem flux_flat {q q' u w : P2} (hq : q.2 = q'.2) (hu : u.2 < w.2) (hn : NoTouch q q' u w) : Flux q q' u w := by
  obtain ⟨n1, n2, n3, n4⟩ := hn
  have z1 : u.2 ≤ q.2 → q.2 ≤ w.2 → TT u w q ≠ 0 := fun a b c => n1 (ons_h c hu a b)
  have z2 : u.2 ≤ q'.2 → q'.2 ≤ w.2 → TT u w q' ≠ 0 := fun a b c => n2 (ons_h c hu a b)
  have c1 : TT q q' u = (q'.1 - q.1) * (u.2 - q.2) := by unfold TT; rw [← hq]; grind
  have c2 : TT q q' w = (q'.1 - q.1) * (w.2 - q.2) := by unfold TT; rw [← hq]; grind
  have d1 : TT u w q' - TT u w q = - ((w.2 - u.2) * (q'.1 - q.1)) := by unfold TT; rw [← hq]; grind
  have f1 : fs q q' u = 0 := if_neg (by omega)
  have f2 : fs q q' w = 0 := if_neg (by omega)
  have hcr : Cr q q' u w ↔ (TT q q' u * TT q q' w < 0 ∧ TT u w q * TT u w q' < 0) := Iff.rfl
  unfold Flux dfl
  rw [f1, f2, hcr, mul_neg_iff, mul_neg_iff]
  by_cases hr : u.2 ≤ q.2 ∧ q.2 < w.2
  · have p1 : ps u w q = if 0 < TT u w q then 1 else 0 := by
      unfold ps; simp only [hr.1, hr.2, true_and]; split
      · rfl
      · exact if_neg (by omega)
    have p2 : ps u w q' = if 0 < TT u w q' then 1 else 0 := by
      have a := hr.1; have b := hr.2; rw [hq] at a b
      unfold ps; simp only [a, b, true_and]; split
      · rfl
      · exact if_neg (by omega)
    rw [p1, p2]
    have g1 := z1 hr.1 (by omega)
    have g2 := z2 (by omega) (by omega)
    unfold jump
    -- the corner at the height of the segment is not on it
    have n3' : u.2 = q.2 → ¬ ((0 < TT u w q ∧ TT u w q' < 0) ∨ (TT u w q < 0 ∧ 0 < TT u w q')) := by
      intro e h
      have a1 : TT u w q = (w.2 - u.2) * (u.1 - q.1) := by unfold TT; rw [e]; grind
      have a2 : TT u w q' = (w.2 - u.2) * (u.1 - q'.1) := by unfold TT; rw [← hq, e]; grind
      have s1 := sgn_pos (k := w.2 - u.2) (a := u.1 - q.1) (by omega)
      have s2 := sgn_pos (k := w.2 - u.2) (a := u.1 - q'.1) (by omega)
      rw [a1, a2, s1.1, s1.2.1, s2.1, s2.2.1] at h
      rcases h with h | h
      · exact n3 (ons_h1 hq e (by omega) (by omega))
      · exact n3 (ons_swap (ons_h1 hq.symm (by omega) (by omega) (by omega)))
    have cw : (0 < TT q q' w ↔ 0 < q'.1 - q.1) ∧ (TT q q' w < 0 ↔ q'.1 - q.1 < 0) := by
      have s := sgn_pos (k := w.2 - q.2) (a := q'.1 - q.1) (by omega)
      rw [c2, Int.mul_comm]; exact ⟨s.1, s.2.1⟩
    have cu : u.2 < q.2 → (0 < TT q q' u ↔ q'.1 - q.1 < 0) ∧ (TT q q' u < 0 ↔ 0 < q'.1 - q.1) := by
      intro h
      have s := sgn_pos (k := q.2 - u.2) (a := q'.1 - q.1) (by omega)
      have e : TT q q' u = - ((q.2 - u.2) * (q'.1 - q.1)) := by rw [c1]; grind
      rw [e]; omega
    have dd := sgn_pos (k := w.2 - u.2) (a := q'.1 - q.1) (by omega)
    generalize (w.2 - u.2) * (q'.1 - q.1) = D at *
    clear p1 p2 z1 z2 c1 c2 f1 f2 hcr n1 n2 n3 n4
    rcases Int.lt_or_eq_of_le hr.1 with h | h
    · have cu := cu h
      clear n3'
      constructor <;> intro hc <;> (repeat' split) <;> omega
    · have n3' := n3' h
      constructor <;> intro hc
      · exact absurd hc.2 n3'
      · (repeat' split) <;> omega
  · have p1 : ps u w q = 0 := by unfold ps; rw [if_neg (by omega), if_neg (by omega)]
    have p2 : ps u w q' = 0 := by unfold ps; rw [if_neg (by omega), if_neg (by omega)]
    rw [p1, p2]
    refine ⟨fun hc => ?_, fun _ => by omega⟩
    exfalso
    have hc1 := hc.1
    rw [← mul_neg_iff, c1, c2] at hc1
    have : (q'.1 - q.1) * (u.2 - q.2) * ((q'.1 - q.1) * (w.2 - q.2)) = ((q'.1 - q.1) * (q'.1 - q.1)) * ((u.2 - q.2) * (w.2 - q.2)) := by grind
    rw [this] at hc1
    have h1 := sq_nn (q'.1 - q.1)
    have h2 : 0 ≤ (u.2 - q.2) * (w.2 - q.2) := by
      rcases Int.lt_or_le q.2 w.2 with g | g
      · exact Int.mul_nonneg (by omega) (by omega)
      · exact Int.mul_nonneg_of_nonpos_of_nonpos (by omega) (by omega)
    have := Int.mul_nonneg h1 h2
    omega
theorem flux_low {q q' u w : P2} (hq : q.2 ≤ q'.2) (hu : u.2 = w.2) (hn : NoTouch q q' u w) : Flux q q' u w := by
  obtain ⟨n1, n2, n3, n4⟩ := hn
  have p1 : ps u w q = 0 := by unfold ps; rw [if_neg (by omega), if_neg (by omega)]
  have p2 : ps u w q' = 0 := by unfold ps; rw [if_neg (by omega), if_neg (by omega)]
  have hcr : Cr q q' u w ↔ (TT q q' u * TT q q' w < 0 ∧ TT u w q * TT u w q' < 0) := Iff.rfl
  unfold Flux dfl
  rw [p1, p2, hcr, mul_neg_iff, mul_neg_iff]
  have c1 : TT u w q = (w.1 - u.1) * (q.2 - u.2) := by unfold TT; rw [← hu]; grind
  have c2 : TT u w q' = (w.1 - u.1) * (q'.2 - u.2) := by unfold TT; rw [← hu]; grind
  by_cases hr : q.2 < u.2 ∧ u.2 ≤ q'.2
  · have f1 : fs q q' u = if TT q q' u < 0 then 1 else 0 := by unfold fs; simp only [hr.1, hr.2, true_and]
    have f2 : fs q q' w = if TT q q' w < 0 then 1 else 0 := by
      have a := hr.1; have b := hr.2; rw [hu] at a b
      unfold fs; simp only [a, b, true_and]
    rw [f1, f2]
    unfold jump
    have z1 : TT q q' u ≠ 0 := fun c => n3 (ons_h c (by omega) (by omega) (by omega))
    have z2 : TT q q' w ≠ 0 := fun c => n4 (ons_h c (by omega) (by omega) (by omega))
    have d1 : TT q q' u - TT q q' w = (q'.2 - q.2) * (w.1 - u.1) := by unfold TT; rw [← hu]; grind
    have dd := sgn_pos (k := q'.2 - q.2) (a := w.1 - u.1) (by omega)
    have cq : (0 < TT u w q ↔ w.1 - u.1 < 0) ∧ (TT u w q < 0 ↔ 0 < w.1 - u.1) := by
      have s := sgn_pos (k := u.2 - q.2) (a := w.1 - u.1) (by omega)
      have e : TT u w q = - ((u.2 - q.2) * (w.1 - u.1)) := by rw [c1]; grind
      rw [e]; omega
    have cq' : u.2 < q'.2 → (0 < TT u w q' ↔ 0 < w.1 - u.1) ∧ (TT u w q' < 0 ↔ w.1 - u.1 < 0) := by
      intro h
      have s := sgn_pos (k := q'.2 - u.2) (a := w.1 - u.1) (by omega)
      rw [c2, Int.mul_comm]; exact ⟨s.1, s.2.1⟩
    have n2' : u.2 = q'.2 → ¬ ((0 < TT q q' u ∧ TT q q' w < 0) ∨ (TT q q' u < 0 ∧ 0 < TT q q' w)) := by
      intro e h
      have a1 : TT q q' u = (q'.2 - q.2) * (q'.1 - u.1) := by unfold TT; rw [e]; grind
      have a2 : TT q q' w = (q'.2 - q.2) * (q'.1 - w.1) := by unfold TT; rw [← hu, e]; grind
      have s1 := sgn_pos (k := q'.2 - q.2) (a := q'.1 - u.1) (by omega)
      have s2 := sgn_pos (k := q'.2 - q.2) (a := q'.1 - w.1) (by omega)
      rw [a1, a2, s1.1, s1.2.1, s2.1, s2.2.1] at h
      rcases h with h | h
      · exact n2 (ons_h1 hu e.symm (by omega) (by omega))
      · exact n2 (ons_swap (ons_h1 hu.symm (by omega) (by omega) (by omega)))
    generalize (q'.2 - q.2) * (w.1 - u.1) = D at *
    clear p1 p2 c1 c2 f1 f2 hcr n1 n2 n3 n4
    rcases Int.lt_or_eq_of_le hr.2 with h | h
    · have cq' := cq' h
      clear n2'
      constructor <;> intro hc <;> (repeat' split) <;> omega
    · have n2' := n2' h
      constructor <;> intro hc
      · exact absurd hc.1 n2'
      · (repeat' split) <;> omega
  · have f1 : fs q q' u = 0 := if_neg (by omega)
    have f2 : fs q q' w = 0 := if_neg (by omega)
    rw [f1, f2]
    refine ⟨fun hc => ?_, fun _ => by omega⟩
    exfalso
    have hc1 := hc.2
    rw [← mul_neg_iff, c1, c2] at hc1
    have : (w.1 - u.1) * (q.2 - u.2) * ((w.1 - u.1) * (q'.2 - u.2)) = ((w.1 - u.1) * (w.1 - u.1)) * ((q.2 - u.2) * (q'.2 - u.2)) := by grind
    rw [this] at hc1
    have h1 := sq_nn (w.1 - u.1)
    have h2 : 0 ≤ (q.2 - u.2) * (q'.2 - u.2) := by
      rcases Int.lt_or_le q.2 u.2 with g | g
      · exact Int.mul_nonneg_of_nonpos_of_nonpos (by omega) (by omega)
      · exact Int.mul_nonneg (by omega) (by omega)
    have := Int.mul_nonneg h1 h2
    omega
theorem flux_any {q q' u w : P2} (hq : q.2 ≤ q'.2) (hn : NoTouch q q' u w) : Flux q q' u w := by
  have up : ∀ {u w : P2}, u.2 ≤ w.2 → NoTouch q q' u w → Flux q q' u w := by
    intro u w h hn
    rcases Int.lt_or_eq_of_le h with h | h
    · rcases Int.lt_or_eq_of_le hq with g | g
      · exact flux_up g h hn
      · exact flux_flat g h hn
    · exact flux_low hq h hn
  rcases Int.le_total u.2 w.2 with h | h
  · exact up h hn
  · have := up h (noTouch_swap hn)
    have e : dfl q q' u w = - dfl q q' w u := by
      unfold dfl; rw [ps_swap w u q, ps_swap w u q']; omega
    have j : Cr q q' u w → jump q u w = - jump q w u := by
      intro hc
      have := (mul_neg_iff.1 hc.2)
      unfold jump; rw [tt_swap u w q]
      repeat' split
      all_goals omega
    refine ⟨fun hc => ?_, fun hc => ?_⟩
    · rw [e, j hc, this.1 (cr_swap hc)]
    · rw [e, this.2 (fun g => hc (cr_swap g))]; rfl
theorem steps_tele (f : P2 → Int) : ∀ (L : List P2) (a : P2), ((steps (a :: L)).map fun e => f e.2 - f e.1).sum = f ((a :: L).getLast (by simp)) - f a
  | [], a => by simp [steps]
  | b :: L, a => by
    rw [steps, List.map_cons, List.sum_cons, steps_tele f L b, List.getLast_cons (a := a) (l := b :: L) (by simp)]; simp only; omega
theorem EE_tele (f : P2 → Int) (l : List P2) : ((EE l).map fun e => f e.2 - f e.1).sum = 0 := by
  cases l with
  | nil => rfl
  | cons a r =>
    rw [EE, steps_tele f (r ++ [a]) a]
    have : (a :: (r ++ [a])).getLast (by simp) = a := by rw [List.getLast_cons (by simp)]; simp
    rw [this]; omega
theorem sum_sub (L : List (P2 × P2)) (f g : P2 × P2 → Int) : (L.map fun e => f e - g e).sum = (L.map f).sum - (L.map g).sum := by
  induction L with
  | nil => rfl
  | cons a L ih => simp only [List.map_cons, List.sum_cons, ih]; omega
theorem wind_dfl (l : List P2) (q q' : P2) : wind l q - wind l q' = ((EE l).map fun e => dfl q q' e.1 e.2).sum := by
  have h1 : ((EE l).map fun e => dfl q q' e.1 e.2).sum = ((EE l).map fun e => (ps e.1 e.2 q - ps e.1 e.2 q') - (fs q q' e.2 - fs q q' e.1)).sum := rfl
  rw [h1, sum_sub (EE l) (fun e => ps e.1 e.2 q - ps e.1 e.2 q') (fun e => fs q q' e.2 - fs q q' e.1), EE_tele (fs q q') l, sum_sub]
  unfold wind; omega
theorem sum_zero {L : List (P2 × P2)} {f : P2 × P2 → Int} (h : ∀ e ∈ L, f e = 0) : (L.map f).sum = 0 := by
  induction L with
  | nil => rfl
  | cons a L ih => rw [List.map_cons, List.sum_cons, h a (by simp), ih fun e he => h e (by simp [he])]; rfl
def Free (l : List P2) (q q' : P2) : Prop := ∀ e ∈ EE l, NoTouch q q' e.1 e.2 ∧ ¬ Cr q q' e.1 e.2
theorem cr_flip {a b c d : P2} (h : Cr a b c d) : Cr b a c d := cr_swap' h
theorem free_swap {l : List P2} {q q' : P2} (h : Free l q q') : Free l q' q := fun e he => ⟨noTouch_swap' (h e he).1, fun g => (h e he).2 (cr_swap' g)⟩
/-- along a segment that meets no edge the number of times that a list goes round a point does not change -/
theorem wind_const {l : List P2} {q q' : P2} (h : Free l q q') : wind l q = wind l q' := by
  have up : ∀ q q' : P2, q.2 ≤ q'.2 → Free l q q' → wind l q = wind l q' := by
    intro q q' hq h
    have := wind_dfl l q q'
    rw [sum_zero fun e he => (flux_any hq (h e he).1).2 (h e he).2] at this; omega
  rcases Int.le_total q.2 q'.2 with g | g
  · exact up _ _ g h
  · exact (up _ _ g (free_swap h)).symm
theorem EE_nodup {l : List P2} (nd : l.Nodup) : (EE l).Nodup := by
  rw [EE_idx]
  rw [List.Nodup, List.pairwise_map]
  have := List.nodup_range (n := l.length)
  refine List.Pairwise.imp_of_mem ?_ this
  intro a b ha hb hne e
  simp only [Prod.mk.injEq] at e
  exact hne (pt_inj nd (List.mem_range.1 ha) (List.mem_range.1 hb) e.1)
theorem sum_one {L : List (P2 × P2)} {f : P2 × P2 → Int} {e0 : P2 × P2} (nd : L.Nodup) (h0 : e0 ∈ L) (h : ∀ e ∈ L, e ≠ e0 → f e = 0) : (L.map f).sum = f e0 := by
  obtain ⟨X, Y, rfl⟩ := List.append_of_mem h0
  rw [List.nodup_append] at nd
  obtain ⟨_, n2, n3⟩ := nd
  rw [List.map_append, List.sum_append, List.map_cons, List.sum_cons]
  rw [sum_zero fun e he => h e (by simp [he]) (fun g => by subst g; exact n3 e he e (by simp) rfl), sum_zero fun e he => h e (by simp [he]) (fun g => by subst g; exact (List.nodup_cons.1 n2).1 he)]
  omega
/-- across one edge it changes by one -/
theorem wind_jump {l : List P2} {q q' u w : P2} (nd : l.Nodup) (he : (u, w) ∈ EE l) (hc : Cr q q' u w) (hn : NoTouch q q' u w) (hq : 0 < TT u w q) (h : ∀ e ∈ EE l, e ≠ (u, w) → NoTouch q q' e.1 e.2 ∧ ¬ Cr q q' e.1 e.2) : wind l q = wind l q' + 1 := by
  have hq' : TT u w q' < 0 := by have := mul_neg_iff.1 hc.2; omega
  rcases Int.le_total q.2 q'.2 with g | g
  · have := wind_dfl l q q'
    rw [sum_one (e0 := (u, w)) (EE_nodup nd) he fun e he hne => (flux_any g (h e he hne).1).2 (h e he hne).2, (flux_any g hn).1 hc] at this
    unfold jump at this; rw [if_pos hq] at this; omega
  · have := wind_dfl l q' q
    rw [sum_one (e0 := (u, w)) (EE_nodup nd) he fun e he hne => (flux_any g (noTouch_swap' (h e he hne).1)).2 (fun gg => (h e he hne).2 (cr_swap' gg)), (flux_any g (noTouch_swap' hn)).1 (cr_swap' hc)] at this
    unfold jump at this; rw [if_neg (by omega)] at this; omega
/-- separated by a line -/
theorem ll_ons {d p u w : P2} (h : OnS p u w) : LL d p ≤ LL d u ∨ LL d p ≤ LL d w := by
  by_cases h1 : p = u
  · subst h1; exact Or.inl (Int.le_refl _)
  by_cases h2 : p = w
  · subst h2; exact Or.inr (Int.le_refl _)
  obtain ⟨m, N, k0, k1, kx, ky⟩ := on_par h h1 h2
  have e : N * LL d p = (N - m) * LL d u + m * LL d w := by unfold LL; grind
  refine Classical.byContradiction fun hh => ?_
  rw [not_or] at hh
  have a1 := Int.mul_pos (show 0 < N - m by omega) (show 0 < LL d p - LL d u by omega)
  have a2 := Int.mul_pos k0 (show 0 < LL d p - LL d w by omega)
  have : N * LL d p = (N - m) * LL d p + m * LL d p := by grind
  rw [Int.mul_sub] at a1 a2
  omega
theorem sep_free {d q q' u w : P2} {m : Int} (h1 : LL d u < m) (h2 : LL d w < m) (h3 : m ≤ LL d q) (h4 : m ≤ LL d q') : NoTouch q q' u w ∧ ¬ Cr q q' u w := by
  have neg : ∀ {p a b : P2}, OnS p a b → LL (-d.1, -d.2) p ≤ LL (-d.1, -d.2) a ∨ LL (-d.1, -d.2) p ≤ LL (-d.1, -d.2) b := fun h => ll_ons h
  have en : ∀ p : P2, LL (-d.1, -d.2) p = - LL d p := fun p => by unfold LL; grind
  refine ⟨⟨fun h => ?_, fun h => ?_, fun h => ?_, fun h => ?_⟩, fun h => ?_⟩
  · rcases ll_ons (d := d) h with g | g <;> omega
  · rcases ll_ons (d := d) h with g | g <;> omega
  · have := neg h; rw [en, en, en] at this; omega
  · have := neg h; rw [en, en, en] at this; omega
  · obtain ⟨c1, c2⟩ := h
    have e : TT u w q * (LL d q' - m) - TT u w q' * (LL d q - m) = TT q q' w * (LL d u - m) - TT q q' u * (LL d w - m) := by unfold TT LL; grind
    rcases mul_neg_iff.1 c1 with ⟨g1, g2⟩ | ⟨g1, g2⟩ <;> rcases mul_neg_iff.1 c2 with ⟨g3, g4⟩ | ⟨g3, g4⟩
    · have r1 := Int.mul_nonneg (Int.le_of_lt g3) (show 0 ≤ LL d q' - m by omega)
      have r2 := Int.mul_nonneg (show 0 ≤ - TT u w q' by omega) (show 0 ≤ LL d q - m by omega)
      have r3 := Int.mul_pos (show 0 < - TT q q' w by omega) (show 0 < m - LL d u by omega)
      have r4 := Int.mul_pos g1 (show 0 < m - LL d w by omega)
      have k : TT u w q' - TT u w q = TT q q' u - TT q q' w := by unfold TT; grind
      omega
    · have r1 := Int.mul_nonneg (show 0 ≤ - TT u w q by omega) (show 0 ≤ LL d q' - m by omega)
      have r2 := Int.mul_nonneg (Int.le_of_lt g4) (show 0 ≤ LL d q - m by omega)
      have r3 := Int.mul_pos (show 0 < - TT q q' w by omega) (show 0 < m - LL d u by omega)
      have r4 := Int.mul_pos g1 (show 0 < m - LL d w by omega)
      grind
    · have r1 := Int.mul_nonneg (Int.le_of_lt g3) (show 0 ≤ LL d q' - m by omega)
      have r2 := Int.mul_nonneg (show 0 ≤ - TT u w q' by omega) (show 0 ≤ LL d q - m by omega)
      have r3 := Int.mul_pos g2 (show 0 < m - LL d u by omega)
      have r4 := Int.mul_pos (show 0 < - TT q q' u by omega) (show 0 < m - LL d w by omega)
      grind
    · have k : TT u w q' - TT u w q = TT q q' u - TT q q' w := by unfold TT; grind
      omega
def sc (K : Int) (p : P2) : P2 := (K * p.1, K * p.2)
def pl (p d : P2) : P2 := (p.1 + d.1, p.2 + d.2)
theorem steps_map (f : P2 → P2) : ∀ L : List P2, steps (L.map f) = (steps L).map fun e => (f e.1, f e.2) := by
  intro L
  induction L with
  | nil => rfl
  | cons a L ih => cases L with
    | nil => rfl
    | cons b L => simp only [List.map_cons, steps] at ih ⊢; rw [ih]
theorem EE_map (f : P2 → P2) (l : List P2) : EE (l.map f) = (EE l).map fun e => (f e.1, f e.2) := by
  cases l with
  | nil => rfl
  | cons a r =>
    have := steps_map f (a :: (r ++ [a]))
    simpa [EE] using this
theorem LL_sc (δ : P2) (K : Int) (p : P2) : LL δ (sc K p) = K * LL δ p := by unfold LL sc; grind
theorem LL_pl (δ p d : P2) : LL δ (pl p d) = LL δ p + LL δ d := by unfold LL pl; grind
theorem TT_sc (K : Int) (a b c : P2) : TT (sc K a) (sc K b) (sc K c) = (K * K) * TT a b c := by unfold TT sc; grind
theorem sep_of {p u w : P2} (h : ¬ OnS p u w) : ∃ δ, LL δ u < LL δ p ∧ LL δ w < LL δ p := by
  by_cases h0 : TT u w p = 0
  · have : ¬ ((min u.1 w.1 ≤ p.1 ∧ p.1 ≤ max u.1 w.1) ∧ (min u.2 w.2 ≤ p.2 ∧ p.2 ≤ max u.2 w.2)) := fun g => h ⟨h0, g.1, g.2⟩
    have cs : (p.1 < u.1 ∧ p.1 < w.1) ∨ (u.1 < p.1 ∧ w.1 < p.1) ∨ (p.2 < u.2 ∧ p.2 < w.2) ∨ (u.2 < p.2 ∧ w.2 < p.2) := by omega
    rcases cs with g | g | g | g
    · exact ⟨(-1, 0), by unfold LL; simp; omega, by unfold LL; simp; omega⟩
    · exact ⟨(1, 0), by unfold LL; simp; omega, by unfold LL; simp; omega⟩
    · exact ⟨(0, -1), by unfold LL; simp; omega, by unfold LL; simp; omega⟩
    · exact ⟨(0, 1), by unfold LL; simp; omega, by unfold LL; simp; omega⟩
  · rcases Int.lt_or_gt_of_ne h0 with g | g
    · refine ⟨(w.2 - u.2, - (w.1 - u.1)), ?_, ?_⟩
      · have : LL (w.2 - u.2, - (w.1 - u.1)) u - LL (w.2 - u.2, - (w.1 - u.1)) p = TT u w p := by unfold LL TT; grind
        omega
      · have : LL (w.2 - u.2, - (w.1 - u.1)) w - LL (w.2 - u.2, - (w.1 - u.1)) p = TT u w p := by unfold LL TT; grind
        omega
    · refine ⟨(- (w.2 - u.2), w.1 - u.1), ?_, ?_⟩
      · have : LL (- (w.2 - u.2), w.1 - u.1) p - LL (- (w.2 - u.2), w.1 - u.1) u = TT u w p := by unfold LL TT; grind
        omega
      · have : LL (- (w.2 - u.2), w.1 - u.1) p - LL (- (w.2 - u.2), w.1 - u.1) w = TT u w p := by unfold LL TT; grind
        omega
/-- for all great enough scales -/
def Ev (φ : Int → Prop) : Prop := ∃ K0 : Int, ∀ K, K0 ≤ K → φ K
theorem Ev.and {φ ψ : Int → Prop} (h1 : Ev φ) (h2 : Ev ψ) : Ev fun K => φ K ∧ ψ K := by
  obtain ⟨a, ha⟩ := h1; obtain ⟨b, hb⟩ := h2
  exact ⟨max a b, fun K hK => ⟨ha K (by omega), hb K (by omega)⟩⟩
theorem Ev.imp {φ ψ : Int → Prop} (h1 : Ev φ) (h : ∀ K, φ K → ψ K) : Ev ψ := by
  obtain ⟨a, ha⟩ := h1
  exact ⟨a, fun K hK => h K (ha K hK)⟩
theorem Ev.all {α : Type} {φ : α → Int → Prop} (L : List α) (h : ∀ e ∈ L, Ev (φ e)) : Ev fun K => ∀ e ∈ L, φ e K := by
  induction L with
  | nil => exact ⟨0, fun _ _ _ h => by simp at h⟩
  | cons a L ih =>
    refine ((h a (by simp)).and (ih fun e he => h e (by simp [he]))).imp ?_
    rintro K ⟨h1, h2⟩ e he
    rcases List.mem_cons.1 he with rfl | he
    · exact h1
    · exact h2 e he
theorem Ev.pos (n : Int) : Ev fun K => n ≤ K := ⟨n, fun _ h => h⟩
theorem Ev.ex {φ : Int → Prop} (h : Ev φ) : ∃ K, 0 < K ∧ φ K := by
  obtain ⟨K0, h⟩ := h
  exact ⟨max K0 1, by omega, h _ (by omega)⟩
/-- near a point that is not on a segment nothing touches it -/
theorem near_free {p u w : P2} (h : ¬ OnS p u w) (d d' : P2) : Ev fun K => NoTouch (pl (sc K p) d) (pl (sc K p) d') (sc K u) (sc K w) ∧ ¬ Cr (pl (sc K p) d) (pl (sc K p) d') (sc K u) (sc K w) := by
  obtain ⟨δ, h1, h2⟩ := sep_of h
  refine ((Ev.pos 1).and ((Ev.pos (1 - LL δ d)).and (Ev.pos (1 - LL δ d')))).imp ?_
  rintro K ⟨k0, k1, k2⟩
  have a1 := Int.mul_le_mul_of_nonneg_left (show LL δ u + 1 ≤ LL δ p by omega) (show 0 ≤ K by omega)
  have a2 := Int.mul_le_mul_of_nonneg_left (show LL δ w + 1 ≤ LL δ p by omega) (show 0 ≤ K by omega)
  rw [Int.mul_add, Int.mul_one] at a1 a2
  refine sep_free (d := δ) (m := min (K * LL δ p + LL δ d) (K * LL δ p + LL δ d')) ?_ ?_ ?_ ?_ <;> (try rw [LL_pl]) <;> rw [LL_sc] <;> omega
def OnB (l : List P2) (p : P2) : Prop := ∃ e ∈ EE l, OnS p e.1 e.2
theorem near_const {l : List P2} {p : P2} (h : ¬ OnB l p) (d d' : P2) : Ev fun K => wind (l.map (sc K)) (pl (sc K p) d) = wind (l.map (sc K)) (pl (sc K p) d') := by
  refine (Ev.all (φ := fun e K => NoTouch (pl (sc K p) d) (pl (sc K p) d') (sc K e.1) (sc K e.2) ∧ ¬ Cr (pl (sc K p) d) (pl (sc K p) d') (sc K e.1) (sc K e.2)) (EE l) fun e he => near_free (fun g => h ⟨e, he, g⟩) d d').imp ?_
  intro K hK
  refine wind_const ?_
  intro e he
  rw [EE_map] at he
  obtain ⟨f, hf, rfl⟩ := List.mem_map.1 he
  exact hK f hf
theorem ps_sc {K : Int} (hK : 0 < K) (u w p : P2) : ps (sc K u) (sc K w) (sc K p) = ps u w p := by
  unfold ps
  rw [TT_sc]
  have s := sgn_pos (k := K * K) (a := TT u w p) (Int.mul_pos hK hK)
  have e1 : ∀ a b : Int, K * a ≤ K * b ↔ a ≤ b := fun a b => by
    have := nneg_iff (a := K) (b := b - a) hK
    rw [Int.mul_sub] at this; omega
  have e2 : ∀ a b : Int, K * a < K * b ↔ a < b := fun a b => by
    have := pos_iff (a := K) (b := b - a) hK
    rw [Int.mul_sub] at this; omega
  simp only [sc, e1, e2, s.1, s.2.1]
theorem wind_sc {K : Int} (hK : 0 < K) (l : List P2) (p : P2) : wind (l.map (sc K)) (sc K p) = wind l p := by
  unfold wind
  rw [EE_map, List.map_map]
  congr 1
  apply List.map_congr_left
  intro e _
  exact ps_sc hK _ _ _
theorem pl_zero (p : P2) : pl p (0, 0) = p := by simp [pl]
/-- off the border: nearby as there -/
theorem near_same {l : List P2} {p : P2} (h : ¬ OnB l p) (d : P2) : Ev fun K => wind (l.map (sc K)) (pl (sc K p) d) = wind l p := by
  refine ((Ev.pos 1).and (near_const h d (0, 0))).imp ?_
  rintro K ⟨h0, h1⟩
  rw [h1, pl_zero, wind_sc (by omega)]
/-- an inner point of an edge of a simple polygon is on no other edge -/
theorem simp_point {l : List P2} (hs : Simp l) {e f : P2 × P2} (he : e ∈ EE l) (hf : f ∈ EE l) {z : P2} (hz : OnS z e.1 e.2) (h1 : z ≠ e.1) (h2 : z ≠ e.2) (hz' : OnS z f.1 f.2) : f = e := by
  refine Classical.byContradiction fun hne => ?_
  obtain ⟨u, w⟩ := e
  obtain ⟨x, y⟩ := f
  simp only at *
  obtain ⟨mu, mw⟩ := edge_mem he
  obtain ⟨mx, my⟩ := edge_mem hf
  have nx' : z ≠ x := by rintro rfl; exact hs.on _ he z mx h1 h2 hz
  have ny' : z ≠ y := by rintro rfl; exact hs.on _ he z my h1 h2 hz
  obtain ⟨m, N, k0, k1, kx, ky⟩ := on_par hz h1 h2
  obtain ⟨m', N', k0', k1', kx', ky'⟩ := on_par hz' nx' ny'
  have e1 := par_tt kx ky x y
  have e2 := par_tt kx' ky' u w
  rw [hz'.1, Int.mul_zero] at e1
  rw [hz.1, Int.mul_zero] at e2
  have opp : ∀ {a b A B : Int}, 0 < a → 0 < b → 0 = a * A + b * B → (A = 0 ∧ B = 0) ∨ A * B < 0 := by
    intro a b A B ha hb h
    rcases Int.lt_trichotomy A 0 with g | g | g
    · right
      have := Int.mul_neg_of_pos_of_neg ha g
      exact Int.mul_neg_of_neg_of_pos g ((sgn_pos (k := b) (a := B) hb).1.1 (by omega))
    · left
      subst g
      rw [Int.mul_zero, Int.zero_add] at h
      exact ⟨rfl, (sgn_pos (k := b) (a := B) hb).2.2.1 h.symm⟩
    · right
      have := Int.mul_pos ha g
      exact Int.mul_neg_of_pos_of_neg g ((sgn_pos (k := b) (a := B) hb).2.1.1 (by omega))
  rcases opp (by omega) k0 e1 with ⟨a1, a2⟩ | a
  · -- on one line
    have b1 : TT u w x = 0 ∧ TT u w y = 0 := by
      rcases opp (by omega) k0' e2 with b | b
      · exact b
      · exfalso
        -- x, y, u, w on one line
        have nd : x ≠ y := fun g => by
          subst g
          have := ons_end1 x x
          have hh := hz'
          have : z = x := by
            obtain ⟨_, q1, q2⟩ := hh
            exact Prod.ext (by omega) (by omega)
          exact nx' this
        have c1 : TT x y u = 0 := a1
        have c2 : TT x y w = 0 := a2
        have d1 : (y.1 - x.1) * TT u w x = 0 := by unfold TT at *; grind
        have d2 : (y.2 - x.2) * TT u w x = 0 := by unfold TT at *; grind
        have d3 : TT u w x ≠ 0 := fun g => by rw [g] at b; simp at b
        have p1 := (Int.mul_eq_zero.1 d1).resolve_right d3
        have p2 := (Int.mul_eq_zero.1 d2).resolve_right d3
        exact nd (Prod.ext (by omega) (by omega))
    -- the four points by their order on the line
    have key : ∀ {a b c : P2}, TT a b c = 0 → lx a c → lx c b → OnS c a b := fun h g1 g2 => ons_lex h g1 g2
    have lz : (lx u z ∧ lx z w) ∨ (lx w z ∧ lx z u) := by
      by_cases g : lx u w
      · left; have := (on_asc (p := z.1) (q := z.2) g (by have := hz.1; unfold TT at this; omega)).2 ⟨hz.2.1, hz.2.2⟩
        unfold lx; omega
      · right; have g := (lx_total u w).resolve_left g
        have := (on_asc (p := z.1) (q := z.2) g (by have := hz.1; unfold TT at this; grind)).2 ⟨by have := hz.2.1; omega, by have := hz.2.2; omega⟩
        unfold lx; omega
    have lz' : (lx x z ∧ lx z y) ∨ (lx y z ∧ lx z x) := by
      by_cases g : lx x y
      · left; have := (on_asc (p := z.1) (q := z.2) g (by have := hz'.1; unfold TT at this; omega)).2 ⟨hz'.2.1, hz'.2.2⟩
        unfold lx; omega
      · right; have g := (lx_total x y).resolve_left g
        have := (on_asc (p := z.1) (q := z.2) g (by have := hz'.1; unfold TT at this; grind)).2 ⟨by have := hz'.2.1; omega, by have := hz'.2.2; omega⟩
        unfold lx; omega
    have no1 : ∀ v ∈ l, OnS v u w → v = u ∨ v = w := fun v hv h => by
      by_cases g1 : v = u
      · exact Or.inl g1
      · by_cases g2 : v = w
        · exact Or.inr g2
        · exact absurd h (hs.on _ he v hv g1 g2)
    have no2 : ∀ v ∈ l, OnS v x y → v = x ∨ v = y := fun v hv h => by
      by_cases g1 : v = x
      · exact Or.inl g1
      · by_cases g2 : v = y
        · exact Or.inr g2
        · exact absurd h (hs.on _ hf v hv g1 g2)
    -- equal ends
    have same : (x = u ∧ y = w) ∨ (x = w ∧ y = u) → False := by
      rintro (⟨rfl, rfl⟩ | ⟨rfl, rfl⟩)
      · exact hne rfl
      · obtain ⟨i, hi, e1⟩ := EE_mem.1 he
        obtain ⟨j, hj, e2⟩ := EE_mem.1 hf
        simp only [Prod.mk.injEq] at e1 e2
        have a := pt_inj hs.nd (nx_lt hi) hj (e1.2.symm.trans e2.1)
        have b := pt_inj hs.nd (nx_lt hj) hi (e2.2.symm.trans e1.1)
        have h3 := hs.three
        rw [nx hi] at a; rw [nx hj] at b
        split at a <;> split at b <;> omega
    have ant : ∀ {a b : P2}, lx a b → lx b a → a = b := fun h1 h2 => by unfold lx at h1 h2; exact Prod.ext (by omega) (by omega)
    have t1 : TT w u x = 0 := by rw [tt_swap]; omega
    have t2 : TT w u y = 0 := by rw [tt_swap]; omega
    have t3 : TT y x u = 0 := by rw [tt_swap]; omega
    have t4 : TT y x w = 0 := by rw [tt_swap]; omega
    have main : ∀ {a b c d : P2}, (∀ v, v = c ∨ v = d → OnS v a b → v = a ∨ v = b) → (∀ v, v = a ∨ v = b → OnS v c d → v = c ∨ v = d) → z ≠ a → z ≠ b → z ≠ c → z ≠ d → TT a b c = 0 → TT a b d = 0 → TT c d a = 0 → TT c d b = 0 → lx a z → lx z b → lx c z → lx z d → a = c ∧ b = d := by
      intro a b c d na nc za zb zc zd t1 t2 t3 t4 l1 l2 l3 l4
      constructor
      · rcases lx_total a c with g | g
        · rcases na c (Or.inl rfl) (ons_lex t1 g (lx_trans l3 l2)) with h | h
          · exact h.symm
          · exact absurd (ant (h ▸ l3) l2).symm zb
        · rcases nc a (Or.inl rfl) (ons_lex t3 g (lx_trans l1 l4)) with h | h
          · exact h
          · exact absurd (ant (h ▸ l1) l4).symm zd
      · rcases lx_total b d with g | g
        · rcases nc b (Or.inr rfl) (ons_lex t4 (lx_trans l3 l2) g) with h | h
          · exact absurd (ant l3 (h ▸ l2)).symm zc
          · exact h
        · rcases na d (Or.inr rfl) (ons_lex t2 (lx_trans l1 l4) g) with h | h
          · exact absurd (ant l1 (h ▸ l4)).symm za
          · exact h.symm
    have i1 : ∀ v, v = x ∨ v = y → OnS v u w → v = u ∨ v = w := fun v hv => no1 v (by rcases hv with rfl | rfl <;> assumption)
    have i2 : ∀ v, v = u ∨ v = w → OnS v x y → v = x ∨ v = y := fun v hv => no2 v (by rcases hv with rfl | rfl <;> assumption)
    have i1' : ∀ v, v = y ∨ v = x → OnS v u w → v = u ∨ v = w := fun v hv => i1 v hv.symm
    have i2' : ∀ v, v = u ∨ v = w → OnS v y x → v = y ∨ v = x := fun v hv h => (i2 v hv (ons_swap h)).symm
    have j1 : ∀ v, v = x ∨ v = y → OnS v w u → v = w ∨ v = u := fun v hv h => (i1 v hv (ons_swap h)).symm
    have j2 : ∀ v, v = w ∨ v = u → OnS v x y → v = x ∨ v = y := fun v hv => i2 v hv.symm
    have j1' : ∀ v, v = y ∨ v = x → OnS v w u → v = w ∨ v = u := fun v hv => j1 v hv.symm
    have j2' : ∀ v, v = w ∨ v = u → OnS v y x → v = y ∨ v = x := fun v hv h => (j2 v hv (ons_swap h)).symm
    rcases lz with ⟨l1, l2⟩ | ⟨l1, l2⟩ <;> rcases lz' with ⟨l3, l4⟩ | ⟨l3, l4⟩
    · have := main i1 i2 h1 h2 nx' ny' b1.1 b1.2 a1 a2 l1 l2 l3 l4
      exact same (Or.inl ⟨this.1.symm, this.2.symm⟩)
    · have := main i1' i2' h1 h2 ny' nx' b1.2 b1.1 t3 t4 l1 l2 l3 l4
      exact same (Or.inr ⟨this.2.symm, this.1.symm⟩)
    · have := main j1 j2 h2 h1 nx' ny' t1 t2 a2 a1 l1 l2 l3 l4
      exact same (Or.inr ⟨this.1.symm, this.2.symm⟩)
    · have := main j1' j2' h2 h1 ny' nx' t2 t1 t4 t3 l1 l2 l3 l4
      exact same (Or.inl ⟨this.2.symm, this.1.symm⟩)
  · rcases opp (by omega) k0' e2 with ⟨b1, b2⟩ | b
    · exfalso
      have nd : u ≠ w := fun g => by
        subst g
        obtain ⟨_, q1, q2⟩ := hz
        exact h1 (Prod.ext (by omega) (by omega))
      have d1 : (w.1 - u.1) * TT x y u = 0 := by unfold TT at *; grind
      have d2 : (w.2 - u.2) * TT x y u = 0 := by unfold TT at *; grind
      have d3 : TT x y u ≠ 0 := fun g => by rw [g] at a; simp at a
      have p1 := (Int.mul_eq_zero.1 d1).resolve_right d3
      have p2 := (Int.mul_eq_zero.1 d2).resolve_right d3
      exact nd (Prod.ext (by omega) (by omega))
    · exact hs.cr _ he _ hf ⟨b, a⟩

end Geo
end Go.Proofs.YtpdfbboagaflhaaGreat

set_option linter.unusedSimpArgs false
set_option linter.unusedVariables false
set_option linter.unusedSectionVars false
namespace Go.Proofs.YtpdfbboagaflhaaGreat
namespace Geo

theorem sqz {a : Int} (h : a * a = 0) : a = 0 := by rcases Int.mul_eq_zero.1 h with g | g <;> exact g
theorem sc_inj {K : Int} (hK : 0 < K) {a b : P2} (h : sc K a = sc K b) : a = b := by
  unfold sc at h
  simp only [Prod.mk.injEq] at h
  exact Prod.ext (Int.eq_of_mul_eq_mul_left (by omega) h.1) (Int.eq_of_mul_eq_mul_left (by omega) h.2)
theorem nd_sc {K : Int} (hK : 0 < K) {l : List P2} (nd : l.Nodup) : (l.map (sc K)).Nodup := by
  rw [List.Nodup, List.pairwise_map]
  exact nd.imp fun h e => h (sc_inj hK e)
def nrm (u w : P2) : P2 := (-(w.2 - u.2), w.1 - u.1)
def ng (d : P2) : P2 := (-d.1, -d.2)
theorem near_jump {l : List P2} (hs : Simp l) {u w z : P2} (he : (u, w) ∈ EE l) (hz : OnS z u w) (h1 : z ≠ u) (h2 : z ≠ w) :
    Ev fun K => wind (l.map (sc K)) (pl (sc K z) (nrm u w)) = wind (l.map (sc K)) (pl (sc K z) (ng (nrm u w))) + 1 ∧ ¬ OnB (l.map (sc K)) (pl (sc K z) (nrm u w)) ∧ ¬ OnB (l.map (sc K)) (pl (sc K z) (ng (nrm u w))) := by
  have hall : Ev fun K => ∀ e ∈ EE l, e ≠ (u, w) → NoTouch (pl (sc K z) (nrm u w)) (pl (sc K z) (ng (nrm u w))) (sc K e.1) (sc K e.2) ∧ ¬ Cr (pl (sc K z) (nrm u w)) (pl (sc K z) (ng (nrm u w))) (sc K e.1) (sc K e.2) := by
    refine Ev.all (φ := fun e K => e ≠ (u, w) → NoTouch (pl (sc K z) (nrm u w)) (pl (sc K z) (ng (nrm u w))) (sc K e.1) (sc K e.2) ∧ ¬ Cr (pl (sc K z) (nrm u w)) (pl (sc K z) (ng (nrm u w))) (sc K e.1) (sc K e.2)) (EE l) ?_
    intro e hE
    by_cases hne : e = (u, w)
    · exact ⟨0, fun _ _ h => absurd hne h⟩
    · refine (near_free (p := z) (u := e.1) (w := e.2) ?_ (nrm u w) (ng (nrm u w))).imp fun K h _ => h
      exact fun g => hne (simp_point hs he hE hz h1 h2 g)
  refine ((Ev.pos 1).and hall).imp ?_
  rintro K ⟨hK, hall⟩
  obtain ⟨m, N, k0, k1, kx, ky⟩ := on_par hz h1 h2
  have hn : 0 < (w.1 - u.1) * (w.1 - u.1) + (w.2 - u.2) * (w.2 - u.2) := by
    have a := sq_nn (w.1 - u.1); have b := sq_nn (w.2 - u.2)
    rcases Int.lt_or_eq_of_le (Int.add_nonneg a b) with g | g
    · exact g
    · exfalso
      have c1 : (w.1 - u.1) * (w.1 - u.1) = 0 := by omega
      have c2 : (w.2 - u.2) * (w.2 - u.2) = 0 := by omega
      have d1 := sqz c1
      have d2 := sqz c2
      rw [d1, Int.mul_zero] at kx; rw [d2, Int.mul_zero] at ky
      have : z = u := Prod.ext (by have := (Int.mul_eq_zero.1 kx).resolve_left (by omega); omega) (by have := (Int.mul_eq_zero.1 ky).resolve_left (by omega); omega)
      exact h1 this
  generalize hD : (w.1 - u.1) * (w.1 - u.1) + (w.2 - u.2) * (w.2 - u.2) = D at *
  have hz0 := hz.1
  have t1 : TT (sc K u) (sc K w) (pl (sc K z) (nrm u w)) = K * D := by
    rw [← hD]; unfold TT sc pl nrm at *; simp only; grind
  have t2 : TT (sc K u) (sc K w) (pl (sc K z) (ng (nrm u w))) = - (K * D) := by
    rw [← hD]; unfold TT sc pl ng nrm at *; simp only; grind
  have t3 : N * TT (pl (sc K z) (nrm u w)) (pl (sc K z) (ng (nrm u w))) (sc K u) = - (2 * K * m * D) := by
    rw [← hD]; unfold TT sc pl ng nrm at *; simp only; grind
  have t4 : N * TT (pl (sc K z) (nrm u w)) (pl (sc K z) (ng (nrm u w))) (sc K w) = 2 * K * (N - m) * D := by
    rw [← hD]; unfold TT sc pl ng nrm at *; simp only; grind
  have p0 := Int.mul_pos (show 0 < K by omega) hn
  have p3 : 0 < 2 * K * m * D := Int.mul_pos (Int.mul_pos (by omega) k0) hn
  have p4 : 0 < 2 * K * (N - m) * D := Int.mul_pos (Int.mul_pos (by omega) (by omega)) hn
  have s3 : TT (pl (sc K z) (nrm u w)) (pl (sc K z) (ng (nrm u w))) (sc K u) < 0 := neg_of (k := N) (by omega) (by omega)
  have s4 : 0 < TT (pl (sc K z) (nrm u w)) (pl (sc K z) (ng (nrm u w))) (sc K w) := pos_of_mul (a := N) (by omega) (by omega)
  have hown : NoTouch (pl (sc K z) (nrm u w)) (pl (sc K z) (ng (nrm u w))) (sc K u) (sc K w) := by
    refine ⟨fun h => ?_, fun h => ?_, fun h => ?_, fun h => ?_⟩
    · have := h.1; omega
    · have := h.1; omega
    · have := h.1; omega
    · have := h.1; omega
  have hno : ∀ e ∈ EE l, NoTouch (pl (sc K z) (nrm u w)) (pl (sc K z) (ng (nrm u w))) (sc K e.1) (sc K e.2) := by
    intro e hE
    by_cases hne : e = (u, w)
    · subst hne; exact hown
    · exact (hall e hE hne).1
  refine ⟨?_, ?_, ?_⟩
  rotate_left
  · rintro ⟨e, hE, ho⟩
    rw [EE_map] at hE
    obtain ⟨f, hf, rfl⟩ := List.mem_map.1 hE
    exact (hno f hf).1 ho
  · rintro ⟨e, hE, ho⟩
    rw [EE_map] at hE
    obtain ⟨f, hf, rfl⟩ := List.mem_map.1 hE
    exact (hno f hf).2.1 ho
  refine wind_jump (u := sc K u) (w := sc K w) (nd_sc (by omega) hs.nd) ?_ ?_ ?_ (by omega) ?_
  · rw [EE_map]; exact List.mem_map.2 ⟨(u, w), he, rfl⟩
  · exact ⟨Int.mul_neg_of_neg_of_pos s3 s4, Int.mul_neg_of_pos_of_neg (by omega) (by omega)⟩
  · exact hown
  · intro e hE hne
    rw [EE_map] at hE
    obtain ⟨f, hf, rfl⟩ := List.mem_map.1 hE
    exact hall f hf fun g => hne (by rw [g])
/-- nearby to the right and a bit above: off every edge, and as often round as there -/
theorem perturb_one {u w p : P2} {D : Int} (hD : w.1 - u.1 < D ∧ u.1 - w.1 < D) (hne : u ≠ w) : Ev fun K => ps (sc K u) (sc K w) (pl (sc K p) (D, 1)) = ps u w p ∧ ¬ OnS (pl (sc K p) (D, 1)) (sc K u) (sc K w) := by
  refine ((Ev.pos 2).and ((Ev.pos (1 + ((w.1 - u.1) - (w.2 - u.2) * D))).and (Ev.pos (1 - ((w.1 - u.1) - (w.2 - u.2) * D))))).imp ?_
  rintro K ⟨h2, h3, h4⟩
  have e : TT (sc K u) (sc K w) (pl (sc K p) (D, 1)) = K * (K * TT u w p + ((w.1 - u.1) - (w.2 - u.2) * D)) := by unfold TT sc pl; simp only; grind
  have bm : (0 < w.2 - u.2 → D ≤ (w.2 - u.2) * D) ∧ (w.2 - u.2 < 0 → (w.2 - u.2) * D ≤ -D) := by
    constructor
    · intro h
      have := Int.mul_nonneg (show 0 ≤ w.2 - u.2 - 1 by omega) (show 0 ≤ D by omega)
      rw [Int.sub_mul, Int.one_mul] at this; omega
    · intro h
      have := Int.mul_nonneg (show 0 ≤ - (w.2 - u.2) - 1 by omega) (show 0 ≤ D by omega)
      rw [Int.sub_mul, Int.one_mul, Int.neg_mul] at this; omega
  have c1 : ∀ a b : Int, K * a ≤ K * b + 1 ↔ a ≤ b := fun a b => by
    constructor
    · intro h
      rcases Int.lt_or_le b a with g | g
      · have := Int.mul_nonneg (show 0 ≤ K by omega) (show 0 ≤ a - b - 1 by omega)
        rw [Int.mul_sub, Int.mul_sub] at this; omega
      · exact g
    · intro h
      have := Int.mul_nonneg (show 0 ≤ K by omega) (show 0 ≤ b - a by omega)
      rw [Int.mul_sub] at this; omega
  have c2 : ∀ a b : Int, K * a + 1 < K * b ↔ a < b := fun a b => by
    have := c1 b a; omega
  have hs := sgn_pos (k := K) (a := K * TT u w p + ((w.1 - u.1) - (w.2 - u.2) * D)) (by omega)
  have q1 : 0 < TT u w p → 0 < K * TT u w p + ((w.1 - u.1) - (w.2 - u.2) * D) := fun h => by
    have := Int.mul_nonneg (show 0 ≤ K by omega) (show 0 ≤ TT u w p - 1 by omega)
    rw [Int.mul_sub] at this; omega
  have q2 : TT u w p < 0 → K * TT u w p + ((w.1 - u.1) - (w.2 - u.2) * D) < 0 := fun h => by
    have := Int.mul_nonneg (show 0 ≤ K by omega) (show 0 ≤ - TT u w p - 1 by omega)
    rw [Int.mul_sub, Int.mul_neg] at this; omega
  have q3 : TT u w p = 0 → K * TT u w p = 0 := fun h => by rw [h, Int.mul_zero]
  constructor
  · unfold ps
    simp only [e, hs.1, hs.2.1]
    simp only [pl, sc, c1, c2]
    generalize K * TT u w p = Q at *
    generalize (w.2 - u.2) * D = R at *
    repeat' split
    all_goals omega
  · intro h
    have h0 := h.1
    rw [e, hs.2.2] at h0
    have hz : TT u w p = 0 := by
      rcases Int.lt_trichotomy (TT u w p) 0 with g | g | g
      · have := q2 g; omega
      · exact g
      · have := q1 g; omega
    rw [q3 hz] at h0
    have y : w.2 = u.2 := by
      generalize (w.2 - u.2) * D = R at *
      omega
    rw [y] at h0
    exact hne (Prod.ext (by simp at h0; omega) y.symm)
theorem wind_perturb {l : List P2} (p : P2) {D : Int} (hD : ∀ e ∈ EE l, e.2.1 - e.1.1 < D ∧ e.1.1 - e.2.1 < D) (hne : ∀ e ∈ EE l, e.1 ≠ e.2) :
    Ev fun K => wind (l.map (sc K)) (pl (sc K p) (D, 1)) = wind l p ∧ ¬ OnB (l.map (sc K)) (pl (sc K p) (D, 1)) := by
  refine (Ev.all (φ := fun e K => ps (sc K e.1) (sc K e.2) (pl (sc K p) (D, 1)) = ps e.1 e.2 p ∧ ¬ OnS (pl (sc K p) (D, 1)) (sc K e.1) (sc K e.2)) (EE l) fun e he => perturb_one (hD e he) (hne e he)).imp ?_
  intro K h
  constructor
  · unfold wind
    rw [EE_map, List.map_map]
    congr 1
    apply List.map_congr_left
    intro e he
    exact (h e he).1
  · rintro ⟨e, he, ho⟩
    rw [EE_map] at he
    obtain ⟨f, hf, rfl⟩ := List.mem_map.1 he
    exact (h f hf).2 ho
theorem bound_dx (L : List (P2 × P2)) : ∃ D : Int, ∀ e ∈ L, e.2.1 - e.1.1 < D ∧ e.1.1 - e.2.1 < D := by
  induction L with
  | nil => exact ⟨0, fun v h => by simp at h⟩
  | cons a l ih =>
    obtain ⟨M, h⟩ := ih
    refine ⟨max M (max (a.2.1 - a.1.1 + 1) (a.1.1 - a.2.1 + 1)), fun v hv => ?_⟩
    rcases List.mem_cons.1 hv with rfl | hv
    · omega
    · have := h v hv; omega
theorem simp_ne {l : List P2} (hs : Simp l) {e : P2 × P2} (he : e ∈ EE l) : e.1 ≠ e.2 := by
  obtain ⟨k, hk, rfl⟩ := EE_mem.1 he
  intro h
  have := pt_inj hs.nd hk (nx_lt hk) h
  have h3 := hs.three
  rw [nx hk] at this; split at this <;> omega
/-- beyond all corners: not round at all -/
theorem wind_high {l : List P2} {q : P2} (h : (∀ v ∈ l, v.2 < q.2) ∨ (∀ v ∈ l, q.2 < v.2)) : wind l q = 0 := by
  refine sum_zero fun e he => ?_
  obtain ⟨m1, m2⟩ := edge_mem he
  unfold ps
  rcases h with h | h
  · have a := h _ m1; have b := h _ m2
    rw [if_neg (by omega), if_neg (by omega)]
  · have a := h _ m1; have b := h _ m2
    rw [if_neg (by omega), if_neg (by omega)]
theorem bound_y (l : List P2) : ∃ M : Int, 0 ≤ M ∧ ∀ v ∈ l, -M < v.2 ∧ v.2 < M := by
  induction l with
  | nil => exact ⟨0, by omega, fun v h => by simp at h⟩
  | cons a l ih =>
    obtain ⟨M, h0, h⟩ := ih
    refine ⟨max M (max (a.2 + 1) (1 - a.2)), by omega, fun v hv => ?_⟩
    rcases List.mem_cons.1 hv with rfl | hv
    · omega
    · have := h v hv; omega
theorem far_pt (l : List P2) (p d : P2) (hd : d ≠ (0, 0)) : ∃ q, LL d p ≤ LL d q ∧ ((∀ v ∈ l, v.2 < q.2) ∨ (∀ v ∈ l, q.2 < v.2)) := by
  obtain ⟨M, h0, h⟩ := bound_y l
  have hk : ∀ k : Int, k ≠ 0 → ∃ t : Int, M + (if p.2 < 0 then - p.2 else p.2) ≤ t * k := fun k hk => by
    refine ⟨(M + (if p.2 < 0 then - p.2 else p.2)) * k, ?_⟩
    have : 1 ≤ k * k := by
      have := sq_nn k
      rcases Int.lt_or_eq_of_le this with g | g
      · omega
      · exact absurd (sqz g.symm) hk
    have := Int.mul_nonneg (show 0 ≤ M + (if p.2 < 0 then - p.2 else p.2) by split <;> omega) (show 0 ≤ k * k - 1 by omega)
    rw [Int.mul_sub, Int.mul_one, ← Int.mul_assoc] at this
    omega
  by_cases h1 : d.1 = 0
  · have h2 : d.2 ≠ 0 := fun g => hd (Prod.ext h1 g)
    obtain ⟨t, ht⟩ := hk d.2 h2
    rcases Int.lt_or_gt_of_ne h2 with g | g
    · -- downwards
      obtain ⟨t', ht'⟩ := hk (-1) (by omega)
      refine ⟨(p.1, p.2 + t'), ?_, Or.inr fun v hv => ?_⟩
      · have : LL d (p.1, p.2 + t') = LL d p + d.2 * t' := by unfold LL; simp only; grind
        rw [this]
        have := Int.mul_nonneg (show 0 ≤ -d.2 by omega) (show 0 ≤ - t' by split at ht' <;> omega)
        rw [Int.neg_mul_neg] at this; omega
      · have := h v hv; show p.2 + t' < v.2; split at ht' <;> omega
    · obtain ⟨t', ht'⟩ := hk 1 (by omega)
      refine ⟨(p.1, p.2 + t'), ?_, Or.inl fun v hv => ?_⟩
      · have : LL d (p.1, p.2 + t') = LL d p + d.2 * t' := by unfold LL; simp only; grind
        rw [this]
        have := Int.mul_nonneg (show 0 ≤ d.2 by omega) (show 0 ≤ t' by split at ht' <;> omega)
        omega
      · have := h v hv; show v.2 < p.2 + t'; split at ht' <;> omega
  · obtain ⟨t, ht⟩ := hk d.1 h1
    refine ⟨(p.1 - t * d.2, p.2 + t * d.1), ?_, Or.inl fun v hv => ?_⟩
    · have : LL d (p.1 - t * d.2, p.2 + t * d.1) = LL d p := by unfold LL; simp only; grind
      omega
    · have := h v hv; show v.2 < p.2 + t * d.1; split at ht <;> omega
theorem wind_far {l : List P2} {p d : P2} (h : ∀ v ∈ l, LL d v < LL d p) : wind l p = 0 := by
  cases hl : l with
  | nil => rfl
  | cons a r =>
    rw [← hl]
    have hd : d ≠ (0, 0) := by
      rintro rfl
      have := h a (by rw [hl]; simp)
      unfold LL at this; simp at this
    obtain ⟨q, h1, h2⟩ := far_pt l p d hd
    rw [← wind_high h2]
    refine wind_const fun e he => ?_
    obtain ⟨m1, m2⟩ := edge_mem he
    exact sep_free (d := d) (m := LL d p) (h _ m1) (h _ m2) (Int.le_refl _) h1
/-- a triangle -/
theorem tri_wind {a b c : P2} (ht : 0 < TT a b c) (p : P2) : (wind [a, b, c] p = 0 ∨ wind [a, b, c] p = 1) ∧ (wind [a, b, c] p ≠ 0 → InT a b c p) ∧ (0 < TT a b p → 0 < TT b c p → 0 < TT c a p → wind [a, b, c] p = 1) := by
  have hw : wind [a, b, c] p = ps a b p + ps b c p + ps c a p := by unfold wind; simp only [EE, steps, List.cons_append, List.nil_append, List.map_cons, List.map_nil, List.sum_cons, List.sum_nil]; omega
  have e := tt_bary a b c p
  have sm := tt_sum a b c p
  have out : ∀ a b c : P2, 0 < TT a b c → TT a b p < 0 → ∀ l : List P2, (∀ v ∈ l, v = a ∨ v = b ∨ v = c) → wind l p = 0 := by
    intro a b c ht h l hl
    refine wind_far (d := (b.2 - a.2, - (b.1 - a.1))) fun v hv => ?_
    have g : ∀ v, LL (b.2 - a.2, - (b.1 - a.1)) v - LL (b.2 - a.2, - (b.1 - a.1)) a = - TT a b v := fun v => by unfold LL TT; grind
    have gp := g p
    have gv := g v
    rcases hl v hv with rfl | rfl | rfl
    · omega
    · rw [(tt_self a v).2.1] at gv; omega
    · omega
  by_cases hin : InT a b c p
  · have hin' := hin
    obtain ⟨i1, i2, i3⟩ := hin
    have p1 : ps a b p = if a.2 ≤ p.2 ∧ p.2 < b.2 ∧ 0 < TT a b p then 1 else 0 := by
      unfold ps; split
      · rfl
      · exact if_neg (by omega)
    have p2 : ps b c p = if b.2 ≤ p.2 ∧ p.2 < c.2 ∧ 0 < TT b c p then 1 else 0 := by
      unfold ps; split
      · rfl
      · exact if_neg (by omega)
    have p3 : ps c a p = if c.2 ≤ p.2 ∧ p.2 < a.2 ∧ 0 < TT c a p then 1 else 0 := by
      unfold ps; split
      · rfl
      · exact if_neg (by omega)
    rw [hw, p1, p2, p3]
    refine ⟨?_, fun _ => hin', ?_⟩
    · repeat' split
      all_goals omega
    · intro g1 g2 g3
      simp only [g1, g2, g3, and_true]
      have lo : ¬ (a.2 ≤ p.2 ∧ b.2 ≤ p.2 ∧ c.2 ≤ p.2) := by
        rintro ⟨l1, l2, l3⟩
        have h1 := Int.mul_nonneg (Int.le_of_lt g2) (show 0 ≤ p.2 - a.2 by omega)
        have h2 := Int.mul_nonneg (Int.le_of_lt g1) (show 0 ≤ p.2 - c.2 by omega)
        have h3 := Int.mul_nonneg (Int.le_of_lt g3) (show 0 ≤ p.2 - b.2 by omega)
        have hz : TT b c p * (p.2 - a.2) + TT a b p * (p.2 - c.2) + TT c a p * (p.2 - b.2) = 0 := by
          have := e.2; rw [← sm] at this; grind
        have z1 := (Int.mul_eq_zero.1 (show TT b c p * (p.2 - a.2) = 0 by omega)).resolve_left (by omega)
        have z2 := (Int.mul_eq_zero.1 (show TT a b p * (p.2 - c.2) = 0 by omega)).resolve_left (by omega)
        have z3 := (Int.mul_eq_zero.1 (show TT c a p * (p.2 - b.2) = 0 by omega)).resolve_left (by omega)
        have : TT a b c = 0 := by
          unfold TT
          rw [show c.2 - a.2 = 0 by omega, show b.2 - a.2 = 0 by omega]; simp
        omega
      have hi : ¬ (p.2 < a.2 ∧ p.2 < b.2 ∧ p.2 < c.2) := by
        rintro ⟨l1, l2, l3⟩
        have h1 := Int.mul_pos g2 (show 0 < a.2 - p.2 by omega)
        have h2 := Int.mul_pos g1 (show 0 < c.2 - p.2 by omega)
        have h3 := Int.mul_pos g3 (show 0 < b.2 - p.2 by omega)
        have := e.2; rw [← sm] at this; grind
      repeat' split
      all_goals omega
  · have z : wind [a, b, c] p = 0 := by
      have : TT a b p < 0 ∨ TT b c p < 0 ∨ TT c a p < 0 := by
        unfold InT at hin; omega
      rcases this with h | h | h
      · exact out a b c ht h _ (by simp)
      · exact out b c a (by rw [tt_rot]; exact ht) h _ (by intro v hv; simp only [List.mem_cons, List.not_mem_nil, or_false] at hv; rcases hv with h | h | h <;> simp [h])
      · exact out c a b (by rw [← tt_rot]; exact ht) h _ (by intro v hv; simp only [List.mem_cons, List.not_mem_nil, or_false] at hv; rcases hv with h | h | h <;> simp [h])
    refine ⟨Or.inl z, fun h => absurd z h, fun g1 g2 g3 => ?_⟩
    exact absurd ⟨by omega, by omega, by omega⟩ hin
/-- the least of some fractions -/
theorem min_frac : ∀ L : List (Int × Int), L ≠ [] → (∀ c ∈ L, 0 < c.2) → ∃ c ∈ L, ∀ c' ∈ L, c.1 * c'.2 ≤ c'.1 * c.2 := by
  intro L
  induction L with
  | nil => intro h; exact absurd rfl h
  | cons a L ih =>
    intro _ hp
    by_cases hL : L = []
    · subst hL
      exact ⟨a, by simp, fun c' hc => by simp at hc; subst hc; exact Int.le_refl _⟩
    · obtain ⟨c, hc, hm⟩ := ih hL fun c hc => hp c (by simp [hc])
      have hcp := hp c (by simp [hc])
      have hap := hp a (by simp)
      by_cases h : a.1 * c.2 ≤ c.1 * a.2
      · refine ⟨a, by simp, fun c' hc' => ?_⟩
        rcases List.mem_cons.1 hc' with rfl | hc'
        · exact Int.le_refl _
        · have h2 := hm c' hc'
          have hc'p := hp c' (by simp [hc'])
          -- a/A <= c/C <= c'/C'
          have x1 := Int.mul_le_mul_of_nonneg_right h (Int.le_of_lt hc'p)
          have x2 := Int.mul_le_mul_of_nonneg_right h2 (Int.le_of_lt hap)
          have x3 : c.2 * (a.1 * c'.2) ≤ c.2 * (c'.1 * a.2) := by
            have e1 : a.1 * c.2 * c'.2 = c.2 * (a.1 * c'.2) := by grind
            have e2 : c.1 * a.2 * c'.2 = c.1 * c'.2 * a.2 := by grind
            have e3 : c'.1 * c.2 * a.2 = c.2 * (c'.1 * a.2) := by grind
            omega
          exact Int.le_of_mul_le_mul_left x3 hcp
      · refine ⟨c, by simp [hc], fun c' hc' => ?_⟩
        rcases List.mem_cons.1 hc' with rfl | hc'
        · omega
        · exact hm c' hc'
/-- a point of the way from p to q -/
def wy (p q : P2) (n m : Int) : P2 := ((m - n) * p.1 + n * q.1, (m - n) * p.2 + n * q.2)
def Cand (E : List (P2 × P2)) (p q : P2) (c : Int × Int) : Prop := 0 < c.1 ∧ c.1 ≤ c.2 ∧ ∃ e ∈ E, OnS (wy p q c.1 c.2) (sc c.2 e.1) (sc c.2 e.2)
theorem ons_sc {K : Int} (hK : 0 < K) {p a b : P2} : OnS (sc K p) (sc K a) (sc K b) ↔ OnS p a b := by
  unfold OnS
  rw [TT_sc, (sgn_pos (Int.mul_pos hK hK)).2.2]
  have e : ∀ x y z : Int, (min (K * x) (K * y) ≤ K * z ∧ K * z ≤ max (K * x) (K * y)) ↔ (min x y ≤ z ∧ z ≤ max x y) := fun x y z => by
    have c : ∀ a b : Int, K * a ≤ K * b ↔ a ≤ b := fun a b => by
      have := nneg_iff (a := K) (b := b - a) hK
      rw [Int.mul_sub] at this; omega
    have c1 := c x y; have c2 := c x z; have c3 := c y z; have c4 := c z x; have c5 := c z y; have c6 := c y x
    omega
  simp only [sc, e]
theorem cr_sc {K : Int} (hK : 0 < K) {a b c d : P2} : Cr (sc K a) (sc K b) (sc K c) (sc K d) ↔ Cr a b c d := by
  unfold Cr
  rw [TT_sc, TT_sc, TT_sc, TT_sc]
  have k := Int.mul_pos hK hK
  have e : ∀ x y : Int, (K * K * x) * (K * K * y) < 0 ↔ x * y < 0 := fun x y => by
    rw [show (K * K * x) * (K * K * y) = (K * K * (K * K)) * (x * y) by grind]
    exact (sgn_pos (Int.mul_pos k k)).2.1
  rw [e, e]
theorem TT_wy (p q a b : P2) (n m : Int) : TT (sc m a) (sc m b) (wy p q n m) = m * ((m - n) * TT a b p + n * TT a b q) := by
  unfold TT sc wy; simp only; grind
theorem TT_wy' (p q x : P2) (n m : Int) : TT (sc m p) (wy p q n m) (sc m x) = m * (n * TT p q x) := by
  unfold TT sc wy; simp only; grind
theorem on_wy {p q u : P2} {n m : Int} (hm : 0 < m) (h0 : 0 < n) (h1 : n ≤ m) (h : OnS (sc m u) (sc m p) (wy p q n m)) : OnS u p q := by
  have hw : OnS (wy p q n m) (sc m p) (sc m q) := by
    refine par_on (m := n) (N := m) hm (by omega) h1 ?_ ?_ <;> (unfold wy sc; simp only; grind)
  by_cases h2 : n = m
  · subst h2
    have : wy p q n n = sc n q := by unfold wy sc; simp
    rw [this] at h
    exact (ons_sc hm).1 h
  · refine (ons_sc hm).1 ?_
    -- on a part of a segment
    by_cases e1 : sc m u = sc m p
    · rw [e1]; exact ons_end1 _ _
    by_cases e2 : sc m u = wy p q n m
    · rw [e2]; exact hw
    obtain ⟨a, N, a0, a1, ax, ay⟩ := on_par h e1 e2
    refine par_on (m := a * n) (N := N * m) (Int.mul_pos (by omega) hm) (Int.mul_nonneg (by omega) (by omega)) ?_ ?_ ?_
    · have := Int.mul_le_mul_of_nonneg_left h1 (show 0 ≤ a by omega)
      have := Int.mul_le_mul_of_nonneg_right (show a ≤ N by omega) (show 0 ≤ m by omega)
      omega
    · simp only [sc, wy] at ax ⊢; grind
    · simp only [sc, wy] at ay ⊢; grind
theorem cr_wy {p q x y : P2} {n m : Int} (hm : 0 < m) (h0 : 0 < n) (h1 : n ≤ m) (h : Cr (sc m p) (wy p q n m) (sc m x) (sc m y)) : Cr p q x y ∧ (0 < TT x y p → (m - n) * TT x y p + n * TT x y q < 0) ∧ (TT x y p < 0 → 0 < (m - n) * TT x y p + n * TT x y q) := by
  obtain ⟨c1, c2⟩ := h
  rw [TT_wy', TT_wy'] at c1
  rw [TT_wy, TT_sc] at c2
  have d1 : TT p q x * TT p q y < 0 := by
    refine neg_of (k := m * n * (m * n)) (Int.mul_pos (Int.mul_pos hm h0) (Int.mul_pos hm h0)) ?_
    have : m * (n * TT p q x) * (m * (n * TT p q y)) = m * n * (m * n) * (TT p q x * TT p q y) := by grind
    omega
  have d2 : TT x y p * ((m - n) * TT x y p + n * TT x y q) < 0 := by
    refine neg_of (k := m * m * m) (Int.mul_pos (Int.mul_pos hm hm) hm) ?_
    have : m * m * TT x y p * (m * ((m - n) * TT x y p + n * TT x y q)) = m * m * m * (TT x y p * ((m - n) * TT x y p + n * TT x y q)) := by grind
    omega
  have d3 := mul_neg_iff.1 d2
  refine ⟨⟨d1, ?_⟩, fun h => by omega, fun h => by omega⟩
  rcases d3 with ⟨g1, g2⟩ | ⟨g1, g2⟩
  · have := Int.mul_nonneg (show 0 ≤ m - n by omega) (Int.le_of_lt g1)
    exact Int.mul_neg_of_pos_of_neg g1 ((sgn_pos h0).2.1.1 (by omega))
  · have := Int.mul_nonpos_of_nonneg_of_nonpos (show 0 ≤ m - n by omega) (Int.le_of_lt g1)
    exact Int.mul_neg_of_neg_of_pos g1 ((sgn_pos h0).1.1 (by omega))
def dot (p q x : P2) : Int := LL (q.1 - p.1, q.2 - p.2) x - LL (q.1 - p.1, q.2 - p.2) p
/-- the first place where the way from p to q meets one of some edges -/
theorem first_hit {E : List (P2 × P2)} {p q : P2} (hp : ∀ e ∈ E, ¬ OnS p e.1 e.2) (hex : ∃ e ∈ E, ¬ (NoTouch p q e.1 e.2 ∧ ¬ Cr p q e.1 e.2)) :
    ∃ n m, 0 < n ∧ n ≤ m ∧ (∃ e ∈ E, OnS (wy p q n m) (sc m e.1) (sc m e.2)) ∧
      ∀ e ∈ E, ¬ OnS (wy p q n m) (sc m e.1) (sc m e.2) → NoTouch (sc m p) (wy p q n m) (sc m e.1) (sc m e.2) ∧ ¬ Cr (sc m p) (wy p q n m) (sc m e.1) (sc m e.2) := by
  have hpq : p ≠ q := by
    rintro rfl
    obtain ⟨e, he, h⟩ := hex
    refine h ⟨⟨hp e he, hp e he, fun g => ?_, fun g => ?_⟩, fun g => ?_⟩
    · have : e.1 = p := by obtain ⟨_, g1, g2⟩ := g; exact Prod.ext (by omega) (by omega)
      exact hp e he (this ▸ ons_end1 _ _)
    · have : e.2 = p := by obtain ⟨_, g1, g2⟩ := g; exact Prod.ext (by omega) (by omega)
      exact hp e he (this ▸ ons_end2 _ _)
    · have := g.1; rw [(tt_self p e.1).2.2] at this; simp at this
  have hdd : 0 < dot p q q := by
    have e : dot p q q = (q.1 - p.1) * (q.1 - p.1) + (q.2 - p.2) * (q.2 - p.2) := by unfold dot LL; grind
    have a := sq_nn (q.1 - p.1); have b := sq_nn (q.2 - p.2)
    rcases Int.lt_or_eq_of_le (Int.add_nonneg a b) with g | g
    · omega
    · exfalso
      have d1 := sqz (show (q.1 - p.1) * (q.1 - p.1) = 0 by omega)
      have d2 := sqz (show (q.2 - p.2) * (q.2 - p.2) = 0 by omega)
      exact hpq (Prod.ext (by omega) (by omega))
  -- a corner on the way
  have vert : ∀ x, OnS x p q → x ≠ p → 0 < dot p q x ∧ dot p q x ≤ dot p q q ∧ wy p q (dot p q x) (dot p q q) = sc (dot p q q) x := by
    intro x hx hne
    by_cases hxq : x = q
    · subst hxq
      exact ⟨hdd, Int.le_refl _, by unfold wy sc; simp⟩
    · obtain ⟨a, N, a0, a1, ax, ay⟩ := on_par hx hne hxq
      have e : N * dot p q x = a * dot p q q := by unfold dot LL; grind
      have g1 : 0 < dot p q x := pos_of_mul (a := N) (by rw [e]; exact Int.mul_pos a0 hdd) (by omega)
      have g2 : dot p q x ≤ dot p q q := by
        have := Int.mul_le_mul_of_nonneg_right (show a ≤ N by omega) (Int.le_of_lt hdd)
        exact Int.le_of_mul_le_mul_left (a := N) (by omega) (by omega)
      refine ⟨g1, g2, ?_⟩
      have hx0 := hx.1
      unfold wy sc dot LL
      refine Prod.ext ?_ ?_ <;> (simp only; unfold TT at hx0; grind)
  -- crossing
  have crs : ∀ x y, Cr p q x y → ∃ c : Int × Int, 0 < c.1 ∧ c.1 ≤ c.2 ∧ OnS (wy p q c.1 c.2) (sc c.2 x) (sc c.2 y) ∧ ((0 < TT x y p ∧ c.1 = TT x y p ∧ c.2 = TT x y p - TT x y q) ∨ (TT x y p < 0 ∧ c.1 = - TT x y p ∧ c.2 = TT x y q - TT x y p)) := by
    intro x y h
    obtain ⟨c1, c2⟩ := h
    have k : TT x y q - TT x y p = TT p q x - TT p q y := by unfold TT; grind
    rcases mul_neg_iff.1 c2 with ⟨g1, g2⟩ | ⟨g1, g2⟩
    · refine ⟨(TT x y p, TT x y p - TT x y q), g1, by simp only; omega, ?_, Or.inl ⟨g1, rfl, rfl⟩⟩
      rcases mul_neg_iff.1 c1 with ⟨g3, g4⟩ | ⟨g3, g4⟩
      · omega
      · refine par_on (m := - TT p q x) (N := TT p q y - TT p q x) (by omega) (by omega) (by omega) ?_ ?_ <;> (unfold wy sc TT; simp only; grind)
    · refine ⟨(- TT x y p, TT x y q - TT x y p), by simp only; omega, by simp only; omega, ?_, Or.inr ⟨g1, rfl, rfl⟩⟩
      rcases mul_neg_iff.1 c1 with ⟨g3, g4⟩ | ⟨g3, g4⟩
      · refine par_on (m := TT p q x) (N := TT p q x - TT p q y) (by omega) (by omega) (by omega) ?_ ?_ <;> (unfold wy sc TT; simp only; grind)
      · omega
  -- the candidates, a list
  have cands : ∃ L : List (Int × Int), (∀ c ∈ L, Cand E p q c) ∧ (∀ e ∈ E, (OnS e.1 p q → (dot p q e.1, dot p q q) ∈ L) ∧ (OnS e.2 p q → (dot p q e.2, dot p q q) ∈ L) ∧ (OnS q e.1 e.2 → (1, 1) ∈ L) ∧
      (Cr p q e.1 e.2 → ∃ c ∈ L, (0 < TT e.1 e.2 p ∧ c.1 = TT e.1 e.2 p ∧ c.2 = TT e.1 e.2 p - TT e.1 e.2 q) ∨ (TT e.1 e.2 p < 0 ∧ c.1 = - TT e.1 e.2 p ∧ c.2 = TT e.1 e.2 q - TT e.1 e.2 p))) := by
    have go : ∀ F : List (P2 × P2), (∀ e ∈ F, e ∈ E) → ∃ L : List (Int × Int), (∀ c ∈ L, Cand E p q c) ∧ (∀ e ∈ F, (OnS e.1 p q → (dot p q e.1, dot p q q) ∈ L) ∧ (OnS e.2 p q → (dot p q e.2, dot p q q) ∈ L) ∧ (OnS q e.1 e.2 → (1, 1) ∈ L) ∧
      (Cr p q e.1 e.2 → ∃ c ∈ L, (0 < TT e.1 e.2 p ∧ c.1 = TT e.1 e.2 p ∧ c.2 = TT e.1 e.2 p - TT e.1 e.2 q) ∨ (TT e.1 e.2 p < 0 ∧ c.1 = - TT e.1 e.2 p ∧ c.2 = TT e.1 e.2 q - TT e.1 e.2 p))) := by
      intro F
      induction F with
      | nil => intro _; exact ⟨[], fun c h => by simp at h, fun e h => by simp at h⟩
      | cons f F ih =>
        intro hF
        obtain ⟨L, h1, h2⟩ := ih fun e he => hF e (by simp [he])
        have hf := hF f (by simp)
        have pf := hp f hf
        have ex1 : ∃ L1 : List (Int × Int), (∀ c ∈ L1, Cand E p q c) ∧ (OnS f.1 p q → (dot p q f.1, dot p q q) ∈ L1) := by
          by_cases h : OnS f.1 p q
          · obtain ⟨a1, a2, a3⟩ := vert _ h (fun g => pf (g ▸ ons_end1 _ _))
            exact ⟨[(dot p q f.1, dot p q q)], fun c hc => by simp at hc; subst hc; exact ⟨a1, a2, f, hf, by rw [a3]; exact ons_end1 _ _⟩, fun _ => by simp⟩
          · exact ⟨[], fun c h => by simp at h, fun g => absurd g h⟩
        have ex2 : ∃ L1 : List (Int × Int), (∀ c ∈ L1, Cand E p q c) ∧ (OnS f.2 p q → (dot p q f.2, dot p q q) ∈ L1) := by
          by_cases h : OnS f.2 p q
          · obtain ⟨a1, a2, a3⟩ := vert _ h (fun g => pf (g ▸ ons_end2 _ _))
            exact ⟨[(dot p q f.2, dot p q q)], fun c hc => by simp at hc; subst hc; exact ⟨a1, a2, f, hf, by rw [a3]; exact ons_end2 _ _⟩, fun _ => by simp⟩
          · exact ⟨[], fun c h => by simp at h, fun g => absurd g h⟩
        have ex3 : ∃ L1 : List (Int × Int), (∀ c ∈ L1, Cand E p q c) ∧ (OnS q f.1 f.2 → (1, 1) ∈ L1) := by
          by_cases h : OnS q f.1 f.2
          · have e : wy p q 1 1 = sc 1 q := by unfold wy sc; simp
            have h' : OnS (wy p q 1 1) (sc 1 f.1) (sc 1 f.2) := by rw [e]; exact (ons_sc (by omega)).2 h
            exact ⟨[(1, 1)], fun c hc => by simp at hc; subst hc; exact ⟨by simp, by simp, f, hf, h'⟩, fun _ => by simp⟩
          · exact ⟨[], fun c h => by simp at h, fun g => absurd g h⟩
        have ex4 : ∃ L1 : List (Int × Int), (∀ c ∈ L1, Cand E p q c) ∧ (Cr p q f.1 f.2 → ∃ c ∈ L1, (0 < TT f.1 f.2 p ∧ c.1 = TT f.1 f.2 p ∧ c.2 = TT f.1 f.2 p - TT f.1 f.2 q) ∨ (TT f.1 f.2 p < 0 ∧ c.1 = - TT f.1 f.2 p ∧ c.2 = TT f.1 f.2 q - TT f.1 f.2 p)) := by
          by_cases h : Cr p q f.1 f.2
          · obtain ⟨c, a1, a2, a3, a4⟩ := crs _ _ h
            exact ⟨[c], fun c' hc => by simp at hc; subst hc; exact ⟨a1, a2, f, hf, a3⟩, fun _ => ⟨c, by simp, a4⟩⟩
          · exact ⟨[], fun c h => by simp at h, fun g => absurd g h⟩
        obtain ⟨L1, b1, b2⟩ := ex1
        obtain ⟨L2, b3, b4⟩ := ex2
        obtain ⟨L3, b5, b6⟩ := ex3
        obtain ⟨L4, b7, b8⟩ := ex4
        refine ⟨L1 ++ (L2 ++ (L3 ++ (L4 ++ L))), ?_, ?_⟩
        · intro c hc
          simp only [List.mem_append] at hc
          rcases hc with hc | hc | hc | hc | hc
          · exact b1 c hc
          · exact b3 c hc
          · exact b5 c hc
          · exact b7 c hc
          · exact h1 c hc
        · intro e he
          simp only [List.mem_append]
          rcases List.mem_cons.1 he with rfl | he
          · refine ⟨fun h => Or.inl (b2 h), fun h => Or.inr (Or.inl (b4 h)), fun h => Or.inr (Or.inr (Or.inl (b6 h))), fun h => ?_⟩
            obtain ⟨c, hc, hh⟩ := b8 h
            exact ⟨c, by simp [hc], hh⟩
          · obtain ⟨g1, g2, g3, g4⟩ := h2 e he
            refine ⟨fun h => Or.inr (Or.inr (Or.inr (Or.inr (g1 h)))), fun h => Or.inr (Or.inr (Or.inr (Or.inr (g2 h)))), fun h => Or.inr (Or.inr (Or.inr (Or.inr (g3 h)))), fun h => ?_⟩
            obtain ⟨c, hc, hh⟩ := g4 h
            exact ⟨c, by simp [hc], hh⟩
    exact go E fun e he => he
  obtain ⟨L, hL1, hL2⟩ := cands
  have hne : L ≠ [] := by
    rintro rfl
    obtain ⟨e, he, h⟩ := hex
    obtain ⟨g1, g2, g3, g4⟩ := hL2 e he
    refine h ⟨⟨hp e he, fun g => ?_, fun g => ?_, fun g => ?_⟩, fun g => ?_⟩
    · have := g3 g; simp at this
    · have := g1 g; simp at this
    · have := g2 g; simp at this
    · obtain ⟨c, hc, _⟩ := g4 g; simp at hc
  obtain ⟨⟨n, m⟩, hc, hmin⟩ := min_frac L hne fun c hc => by have := hL1 c hc; have := this.1; have := (hL1 c hc).2.1; omega
  obtain ⟨c0, c1, c2⟩ := hL1 _ hc
  simp only at c0 c1 c2 hmin
  refine ⟨n, m, c0, c1, c2, fun e he hno => ?_⟩
  obtain ⟨g1, g2, g3, g4⟩ := hL2 e he
  have hm : 0 < m := by omega
  have vx : ∀ x, (OnS x p q → (dot p q x, dot p q q) ∈ L) → OnS (sc m x) (sc m p) (wy p q n m) → sc m x = wy p q n m := by
    intro x hx h
    have h1 := on_wy hm c0 c1 h
    have h2 := hmin _ (hx h1)
    simp only at h2
    -- not behind it, not before it
    obtain ⟨k1, k2, k3⟩ := h
    have : TT p q x = 0 := h1.1
    have e1 : dot p q q * (wy p q n m).1 = dot p q q * (m * p.1) + n * dot p q q * (q.1 - p.1) := by unfold wy; simp only; grind
    have e2 : dot p q q * (x.1 - p.1) = dot p q x * (q.1 - p.1) := by unfold dot LL TT at *; grind
    have e3 : dot p q q * (x.2 - p.2) = dot p q x * (q.2 - p.2) := by unfold dot LL TT at *; grind
    have le2 : dot p q x * m ≤ n * dot p q q := by
      -- it lies between p and the hit
      have w : ∀ a b c : Int, min a b ≤ c → c ≤ max a b → 0 ≤ (b - a) * (b - c) := by
        intro a b c u v
        rcases Int.le_total a b with g | g
        · exact Int.mul_nonneg (by omega) (by omega)
        · exact Int.mul_nonneg_of_nonpos_of_nonpos (by omega) (by omega)
      have w1 := w _ _ _ k2.1 k2.2
      have w2 := w _ _ _ k3.1 k3.2
      have w3 : n * (n * dot p q q - m * dot p q x) = ((wy p q n m).1 - (sc m p).1) * ((wy p q n m).1 - (sc m x).1) + ((wy p q n m).2 - (sc m p).2) * ((wy p q n m).2 - (sc m x).2) := by unfold wy sc dot LL; simp only; grind
      have : 0 ≤ n * (n * dot p q q - m * dot p q x) := by omega
      have := (nneg_iff c0).1 this
      rw [Int.mul_comm (dot p q x)]; omega
    have eq : n * dot p q q = dot p q x * m := by omega
    have hdz : dot p q q ≠ 0 := by omega
    refine Prod.ext ?_ ?_
    · refine Int.eq_of_mul_eq_mul_left hdz ?_
      unfold sc wy; simp only; grind
    · refine Int.eq_of_mul_eq_mul_left hdz ?_
      unfold sc wy; simp only; grind
  refine ⟨⟨fun h => hp e he ((ons_sc hm).1 h), hno, fun h => ?_, fun h => ?_⟩, fun h => ?_⟩
  · exact hno ((vx _ g1 h) ▸ ons_end1 _ _)
  · exact hno ((vx _ g2 h) ▸ ons_end2 _ _)
  · obtain ⟨d1, d2, d3⟩ := cr_wy hm c0 c1 h
    obtain ⟨c, hcL, hcc⟩ := g4 d1
    have hq := hmin c hcL
    have e1 : (m - n) * TT e.1 e.2 p + n * TT e.1 e.2 q = TT e.1 e.2 p * m - n * (TT e.1 e.2 p - TT e.1 e.2 q) := by grind
    have e2 : (m - n) * TT e.1 e.2 p + n * TT e.1 e.2 q = - (- TT e.1 e.2 p * m - n * (TT e.1 e.2 q - TT e.1 e.2 p)) := by grind
    rcases hcc with ⟨s1, s2, s3⟩ | ⟨s1, s2, s3⟩
    · have t := d2 s1
      rw [s2, s3] at hq; omega
    · have t := d3 s1
      rw [s2, s3] at hq; omega
theorem simp_sc {K : Int} (hK : 0 < K) {l : List P2} (hs : Simp l) : Simp (l.map (sc K)) := by
  refine ⟨nd_sc hK hs.nd, ?_, ?_, by simpa using hs.three⟩
  · intro e he v hv h1 h2 h
    rw [EE_map] at he
    obtain ⟨f, hf, rfl⟩ := List.mem_map.1 he
    obtain ⟨u, hu, rfl⟩ := List.mem_map.1 hv
    exact hs.on f hf u hu (fun g => h1 (by rw [g])) (fun g => h2 (by rw [g])) ((ons_sc hK).1 h)
  · intro e he f hf h
    rw [EE_map] at he hf
    obtain ⟨e', he', rfl⟩ := List.mem_map.1 he
    obtain ⟨f', hf', rfl⟩ := List.mem_map.1 hf
    exact hs.cr _ he' _ hf' ((cr_sc hK).1 h)
/-- a simple polygon, cut along a diagonal into two -/
structure Spl (x y : P2) (S T : List P2) : Prop where
  hL : Simp (x :: (S ++ y :: T))
  hX : Simp (x :: (S ++ [y]))
  hY : Simp (y :: (T ++ [x]))
  nS : S ≠ []
  nT : T ≠ []
theorem EE_whole (x y : P2) (S T : List P2) : EE (x :: (S ++ y :: T)) = steps (x :: (S ++ [y])) ++ steps (y :: (T ++ [x])) := by
  have : EE (x :: (S ++ y :: T)) = steps ((x :: S) ++ y :: (T ++ [x])) := by simp [EE]
  rw [this, steps_cat]; simp
theorem Spl.swap {x y : P2} {S T : List P2} (h : Spl x y S T) : Spl y x T S := by
  refine ⟨?_, h.hY, h.hX, h.nT, h.nS⟩
  have e1 : x :: (S ++ y :: T) = (x :: S) ++ (y :: T) := by simp
  have e2 : y :: (T ++ x :: S) = (y :: T) ++ (x :: S) := by simp
  have hL := h.hL
  rw [e1] at hL; rw [e2]
  exact simp_perm hL List.perm_append_comm fun e he => (EE_rot _ _).mem_iff.1 he
theorem Spl.sc {x y : P2} {S T : List P2} (h : Spl x y S T) {K : Int} (hK : 0 < K) : Spl (sc K x) (sc K y) (S.map (Geo.sc K)) (T.map (Geo.sc K)) := by
  have a := simp_sc hK h.hL; have b := simp_sc hK h.hX; have c := simp_sc hK h.hY
  simp only [List.map_cons, List.map_append, List.map_nil] at a b c
  exact ⟨a, b, c, by simpa using h.nS, by simpa using h.nT⟩
theorem wind_whole (x y : P2) (S T : List P2) (p : P2) : wind (x :: (S ++ y :: T)) p = wind (x :: (S ++ [y])) p + wind (y :: (T ++ [x])) p := by
  unfold wind
  rw [EE_whole, EE_cut, EE_cut]
  simp only [List.map_append, List.sum_append, List.map_cons, List.map_nil, List.sum_cons, List.sum_nil]
  rw [ps_swap x y p]; omega
section
variable {x y : P2} {S T : List P2}
theorem Spl.stepX (h : Spl x y S T) {e : P2 × P2} (he : e ∈ steps (x :: (S ++ [y]))) : e ∈ EE (x :: (S ++ y :: T)) ∧ e ∈ EE (x :: (S ++ [y])) := by
  rw [EE_whole, EE_cut]; exact ⟨List.mem_append_left _ he, List.mem_append_left _ he⟩
theorem Spl.disj (h : Spl x y S T) {v : P2} (hv : v ∈ S) : v ∉ y :: (T ++ [x]) := by
  have nd := h.hL.nd
  intro hm
  rw [List.nodup_cons, List.nodup_append] at nd
  obtain ⟨n1, n2, n3, n4⟩ := nd
  simp only [List.mem_cons, List.mem_append, List.not_mem_nil, or_false] at hm
  rcases hm with g | g | g
  · exact n4 v hv y (by simp) g
  · exact n4 v hv v (by simp [g]) rfl
  · subst g; exact n1 (by simp [hv])
theorem Spl.memS (h : Spl x y S T) {v : P2} (hv : v ∈ S) : v ∈ x :: (S ++ y :: T) ∧ v ∈ x :: (S ++ [y]) := by simp [hv]
/-- an edge of the one part, its inside seen from the other -/
theorem Spl.edge_free (h : Spl x y S T) {u w : P2} (he : (u, w) ∈ steps (x :: (S ++ [y]))) (hu : u ∈ S) (hw : w ∈ S) : Free (y :: (T ++ [x])) u w := by
  obtain ⟨e1, e2⟩ := h.stepX he
  intro f hf
  obtain ⟨m1, m2⟩ := edge_mem hf
  have d1 := h.disj hu; have d2 := h.disj hw
  have hfu : u ≠ f.1 ∧ u ≠ f.2 ∧ w ≠ f.1 ∧ w ≠ f.2 := ⟨fun g => d1 (g ▸ m1), fun g => d1 (g ▸ m2), fun g => d2 (g ▸ m1), fun g => d2 (g ▸ m2)⟩
  rw [EE_cut, List.mem_append, List.mem_singleton] at hf
  rcases hf with hf | rfl
  · have hL : f ∈ EE (x :: (S ++ y :: T)) := by rw [EE_whole]; exact List.mem_append_right _ hf
    obtain ⟨mm1, mm2⟩ := edge_mem hL
    refine ⟨⟨h.hL.on f hL u (h.memS hu).1 hfu.1 hfu.2.1, h.hL.on f hL w (h.memS hw).1 hfu.2.2.1 hfu.2.2.2, h.hL.on _ e1 f.1 mm1 hfu.1.symm hfu.2.2.1.symm, h.hL.on _ e1 f.2 mm2 hfu.2.1.symm hfu.2.2.2.symm⟩, h.hL.cr _ e1 _ hL⟩
  · have hX : (y, x) ∈ EE (x :: (S ++ [y])) := by rw [EE_cut]; simp
    obtain ⟨mm1, mm2⟩ := edge_mem hX
    refine ⟨⟨fun g => h.hX.on _ hX u (h.memS hu).2 hfu.2.1 hfu.1 (ons_swap g), fun g => h.hX.on _ hX w (h.memS hw).2 hfu.2.2.2 hfu.2.2.1 (ons_swap g), h.hX.on _ e2 x mm2 hfu.1.symm hfu.2.2.1.symm, h.hX.on _ e2 y mm1 hfu.2.1.symm hfu.2.2.2.symm⟩, fun g => h.hX.cr _ e2 _ hX (cr_swap g)⟩
theorem steps_const {f : P2 → Int} : ∀ (L : List P2) (a : P2), (∀ e ∈ steps (a :: L), f e.1 = f e.2) → ∀ v ∈ a :: L, f v = f a
  | [], a, _, v, hv => by simp at hv; rw [hv]
  | b :: L, a, h, v, hv => by
    have h1 := h (a, b) (by simp [steps])
    rcases List.mem_cons.1 hv with rfl | hv
    · rfl
    · rw [steps_const L b (fun e he => h e (by simp [steps, he])) v hv]; exact h1.symm
theorem steps_sub {S : List P2} {a b : P2} {e : P2 × P2} (he : e ∈ steps S) : e ∈ steps (a :: (S ++ [b])) := by
  cases S with
  | nil => simp [steps] at he
  | cons s S =>
    rcases List.eq_nil_or_concat S with rfl | ⟨S', z, rfl⟩
    · simp [steps] at he
    · rw [List.concat_eq_append] at *
      have e1 : a :: (s :: (S' ++ [z]) ++ [b]) = a :: ((s :: S') ++ z :: [b]) := by simp
      have : steps (a :: (s :: (S' ++ [z]) ++ [b])) = (a, s) :: steps ((s :: S') ++ z :: [b]) := by simp [steps]
      rw [this, steps_cat]
      simp only [List.mem_cons, List.mem_append]
      exact Or.inr (Or.inl (by simpa using he))
theorem Spl.const (h : Spl x y S T) : ∃ κ, ∀ v ∈ S, wind (y :: (T ++ [x])) v = κ := by
  have key : ∀ e ∈ steps S, wind (y :: (T ++ [x])) e.1 = wind (y :: (T ++ [x])) e.2 := by
    rintro ⟨u, w⟩ he
    have := steps_mem he
    exact wind_const (h.edge_free (steps_sub he) this.1 this.2)
  cases hS : S with
  | nil => exact absurd hS h.nS
  | cons s S' =>
    rw [hS] at key
    exact ⟨_, steps_const S' s key⟩
theorem ons_sub {z r v o : P2} (h : OnS r v o) (hz : OnS z r v) : OnS z v o := by
  by_cases e1 : z = r
  · rw [e1]; exact h
  by_cases e2 : z = v
  · rw [e2]; exact ons_end1 _ _
  by_cases e3 : r = o
  · rw [← e3]; exact ons_swap hz
  by_cases e4 : r = v
  · subst e4
    obtain ⟨_, g1, g2⟩ := hz
    exact absurd (Prod.ext (by omega) (by omega)) e1
  obtain ⟨m, N, k0, k1, kx, ky⟩ := on_par h e4 e3
  obtain ⟨m', N', k0', k1', kx', ky'⟩ := on_par hz e1 e2
  -- z = v + (N' - m')/N' * m/N * (o - v)
  refine par_on (m := (N' - m') * m) (N := N' * N) (Int.mul_pos (by omega) (by omega)) (Int.mul_nonneg (by omega) (by omega)) ?_ ?_ ?_
  · have a1 := Int.mul_le_mul_of_nonneg_left (show m ≤ N by omega) (show 0 ≤ N' - m' by omega)
    have a2 := Int.mul_le_mul_of_nonneg_right (show N' - m' ≤ N' by omega) (show 0 ≤ N by omega)
    omega
  · grind
  · grind
theorem ons_anti {r v o : P2} (h : OnS r v o) (h' : OnS o r v) : r = o := by
  by_cases e : o = v
  · subst e
    obtain ⟨_, g1, g2⟩ := h
    exact Prod.ext (by omega) (by omega)
  obtain ⟨_, a1, a2⟩ := h
  obtain ⟨_, b1, b2⟩ := h'
  exact Prod.ext (by omega) (by omega)
theorem cr_sub {r v o a b : P2} (h : OnS r v o) (hrv : r ≠ v) (hc : Cr r v a b) : Cr o v a b := by
  by_cases e3 : r = o
  · rw [← e3]; exact hc
  obtain ⟨m, N, k0, k1, kx, ky⟩ := on_par h hrv e3
  obtain ⟨c1, c2⟩ := hc
  have f : ∀ u, N * TT r v u = m * TT o v u := fun u => by unfold TT; grind
  have g := par_tt kx ky a b
  refine ⟨?_, ?_⟩
  · refine neg_of (k := m * m) (Int.mul_pos k0 k0) ?_
    have : m * m * (TT o v a * TT o v b) = (N * N) * (TT r v a * TT r v b) := by
      have h1 := f a; have h2 := f b
      have e : m * m * (TT o v a * TT o v b) = (m * TT o v a) * (m * TT o v b) := by grind
      rw [e, ← h1, ← h2]; grind
    rw [this]; exact Int.mul_neg_of_pos_of_neg (Int.mul_pos (by omega) (by omega)) c1
  · rcases mul_neg_iff.1 c2 with ⟨g1, g2⟩ | ⟨g1, g2⟩
    · have a1 := Int.mul_pos (show 0 < N by omega) g1
      have a2 := Int.mul_neg_of_pos_of_neg (show 0 < N - m by omega) g2
      exact Int.mul_neg_of_pos_of_neg ((sgn_pos k0).1.1 (by omega)) g2
    · have a1 := Int.mul_neg_of_pos_of_neg (show 0 < N by omega) g1
      have a2 := Int.mul_pos (show 0 < N - m by omega) g2
      exact Int.mul_neg_of_neg_of_pos ((sgn_pos k0).2.1.1 (by omega)) g2
/-- a point of an edge of the one part that is no end of the cut is on no edge of the other -/
theorem Spl.off (h : Spl x y S T) {u w r : P2} (he : (u, w) ∈ steps (x :: (S ++ [y]))) (hr : OnS r u w) (hx : r ≠ x) (hy : r ≠ y) : ¬ OnB (y :: (T ++ [x])) r := by
  rintro ⟨f, hf, ho⟩
  obtain ⟨e1, e2⟩ := h.stepX he
  obtain ⟨m1, m2⟩ := edge_mem hf
  have hfx : f.1 ∈ T ∨ f.1 = x ∨ f.1 = y := by simp only [List.mem_cons, List.mem_append, List.not_mem_nil, or_false] at m1; grind
  have hd : ∀ {v : P2}, v ∈ x :: (S ++ [y]) → v ≠ x → v ≠ y → v ∈ S := by
    intro v hv a b; simp only [List.mem_cons, List.mem_append, List.not_mem_nil, or_false] at hv; grind
  obtain ⟨mu, mw⟩ := edge_mem e2
  by_cases g : r = u ∨ r = w
  · have hrS : r ∈ S := by rcases g with rfl | rfl; exact hd mu hx hy; exact hd mw hx hy
    have hno := h.disj hrS
    have n1 : r ≠ f.1 := fun g => hno (g ▸ m1)
    have n2 : r ≠ f.2 := fun g => hno (g ▸ m2)
    rw [EE_cut, List.mem_append, List.mem_singleton] at hf
    rcases hf with hf | rfl
    · have hL : f ∈ EE (x :: (S ++ y :: T)) := by rw [EE_whole]; exact List.mem_append_right _ hf
      exact h.hL.on f hL r (h.memS hrS).1 n1 n2 ho
    · have hX : (y, x) ∈ EE (x :: (S ++ [y])) := by rw [EE_cut]; simp
      exact h.hX.on _ hX r (h.memS hrS).2 n2 n1 (ons_swap ho)
  · rw [not_or] at g
    -- an inner point of the edge
    have huS : u ∈ S ∨ w ∈ S := by
      by_cases a : u ∈ S
      · exact Or.inl a
      · right
        have a' : u = x ∨ u = y := by
          simp only [List.mem_cons, List.mem_append, List.not_mem_nil, or_false] at mu; grind
        -- the edge begins at x, for y is last
        cases hS : S with
        | nil => exact absurd hS h.nS
        | cons s S' =>
          rw [hS] at he
          have he2 : (u, w) = (x, s) ∨ (u, w) ∈ steps (s :: (S' ++ [y])) := by simpa [steps] using he
          rcases he2 with g | g
          · simp only [Prod.mk.injEq] at g; rw [g.2]; simp
          · have := steps_fst (L := s :: S') (z := y) (by simpa using g)
            rw [hS] at a; exact absurd this a
    rw [EE_cut, List.mem_append, List.mem_singleton] at hf
    rcases hf with hf | rfl
    · have hL : f ∈ EE (x :: (S ++ y :: T)) := by rw [EE_whole]; exact List.mem_append_right _ hf
      have := simp_point h.hL e1 hL hr g.1 g.2 ho
      subst this
      rcases huS with a | a
      · exact h.disj a m1
      · exact h.disj a m2
    · have hX : (y, x) ∈ EE (x :: (S ++ [y])) := by rw [EE_cut]; simp
      have := simp_point h.hX e2 hX hr g.1 g.2 (ons_swap ho)
      simp only [Prod.mk.injEq] at this
      obtain ⟨rfl, rfl⟩ := this
      rcases huS with a | a
      · exact h.disj a m2
      · exact h.disj a m1
/-- along the one part all of it is as often inside the other -/
theorem Spl.on_chain (h : Spl x y S T) {κ : Int} (hk : ∀ v ∈ S, wind (y :: (T ++ [x])) v = κ) {u w r : P2} (he : (u, w) ∈ steps (x :: (S ++ [y]))) (hr : OnS r u w) (hx : r ≠ x) (hy : r ≠ y) : wind (y :: (T ++ [x])) r = κ := by
  obtain ⟨e1, e2⟩ := h.stepX he
  obtain ⟨mu, mw⟩ := edge_mem e2
  have hX : (y, x) ∈ EE (x :: (S ++ [y])) := by rw [EE_cut]; simp
  have main : ∀ v o : P2, OnS v u w → v ∈ S → o ∈ x :: (S ++ [y]) → OnS r v o → (∀ z ∈ x :: (S ++ y :: T), OnS z v o → z = v ∨ z = o) → (∀ f ∈ EE (x :: (S ++ y :: T)), ¬ Cr o v f.1 f.2) → (¬ Cr o v x y) → wind (y :: (T ++ [x])) r = κ := by
    intro v o hvo hv ho hro hno hcr hcr2
    by_cases erv : r = v
    · rw [erv]; exact hk v hv
    by_cases ero : r = o
    · have : r ∈ S := by
        rw [ero] at hx hy ⊢
        simp only [List.mem_cons, List.mem_append, List.not_mem_nil, or_false] at ho; grind
      exact hk r this
    rw [← hk v hv]
    refine wind_const fun f hf => ?_
    have hB := h.off he hr hx hy
    obtain ⟨m1, m2⟩ := edge_mem hf
    have hoff : ∀ z ∈ y :: (T ++ [x]), ¬ OnS z r v := by
      intro z hz g
      have hzl : z ∈ x :: (S ++ y :: T) := by simp only [List.mem_cons, List.mem_append, List.not_mem_nil, or_false] at hz ⊢; grind
      rcases hno z hzl (ons_sub hro g) with rfl | rfl
      · exact h.disj hv hz
      · exact ero (ons_anti hro g)
    have hvB := h.off he hvo (fun e => h.disj hv (by simp [e])) (fun e => h.disj hv (by simp [e]))
    refine ⟨⟨fun g => hB ⟨f, hf, g⟩, fun g => hvB ⟨f, hf, g⟩, hoff _ m1, hoff _ m2⟩, fun g => ?_⟩
    have hc := cr_sub hro erv g
    rw [EE_cut, List.mem_append, List.mem_singleton] at hf
    rcases hf with hf | rfl
    · exact hcr f (by rw [EE_whole]; exact List.mem_append_right _ hf) hc
    · exact hcr2 hc
  have hon : ∀ z ∈ x :: (S ++ y :: T), OnS z u w → z = u ∨ z = w := fun z hz g => by
    by_cases a : z = u
    · exact Or.inl a
    · by_cases b : z = w
      · exact Or.inr b
      · exact absurd g (h.hL.on _ e1 z hz a b)
  have huS : u ∈ S ∨ w ∈ S := by
    cases hS : S with
    | nil => exact absurd hS h.nS
    | cons s S' =>
      rw [hS] at he
      have he2 : (u, w) = (x, s) ∨ (u, w) ∈ steps (s :: (S' ++ [y])) := by simpa [steps] using he
      rcases he2 with g | g
      · simp only [Prod.mk.injEq] at g; right; rw [g.2]; simp
      · left; exact steps_fst (L := s :: S') (z := y) (by simpa using g)
  rcases huS with a | a
  · exact main u w (ons_end1 _ _) a mw hr hon (fun f hf g => h.hL.cr _ e1 _ hf (cr_flip g)) (fun g => h.hX.cr _ e2 _ hX (cr_swap (cr_flip g)))
  · exact main w u (ons_end2 _ _) a mu (ons_swap hr) (fun z hz g => (hon z hz (ons_swap g)).symm) (fun f hf g => h.hL.cr _ e1 _ hf g) (fun g => h.hX.cr _ e2 _ hX (cr_swap g))
end
section
variable {x y : P2} {S T : List P2}
theorem far_exists (l : List P2) (p d : P2) (hd : d ≠ (0, 0)) : ∃ q, LL d p ≤ LL d q ∧ ∀ l', (∀ v ∈ l', v ∈ l) → wind l' q = 0 := by
  obtain ⟨q, h1, h2⟩ := far_pt l p d hd
  refine ⟨q, h1, fun l' hl => ?_⟩
  rcases h2 with h2 | h2
  · exact wind_high (Or.inl fun v hv => h2 v (hl v hv))
  · exact wind_high (Or.inr fun v hv => h2 v (hl v hv))
/-- from a point that one of the two parts goes round, away from the cut: what is met first tells -/
theorem Spl.ray (h : Spl x y S T) {κ1 κ2 : Int} (hk1 : ∀ v ∈ S, wind (y :: (T ++ [x])) v = κ1) (hk2 : ∀ v ∈ T, wind (x :: (S ++ [y])) v = κ2) {p : P2} (hX : ¬ OnB (x :: (S ++ [y])) p) (hY : ¬ OnB (y :: (T ++ [x])) p)
    (hne : wind (x :: (S ++ [y])) p ≠ 0 ∨ wind (y :: (T ++ [x])) p ≠ 0) : κ1 = wind (y :: (T ++ [x])) p ∨ κ2 = wind (x :: (S ++ [y])) p := by
  have eX : EE (x :: (S ++ [y])) = steps (x :: (S ++ [y])) ++ [(y, x)] := EE_cut x y S
  have eY : EE (y :: (T ++ [x])) = steps (y :: (T ++ [x])) ++ [(x, y)] := EE_cut y x T
  have hxy : ¬ OnS p x y := fun g => hX ⟨(y, x), by rw [eX]; simp, ons_swap g⟩
  obtain ⟨δ, d1, d2⟩ := sep_of hxy
  have hd : δ ≠ (0, 0) := by rintro rfl; unfold LL at d1; simp at d1
  obtain ⟨q, q1, q2⟩ := far_exists ((x :: (S ++ [y])) ++ (y :: (T ++ [x]))) p δ hd
  have zX : wind (x :: (S ++ [y])) q = 0 := q2 _ fun v hv => List.mem_append_left _ hv
  have zY : wind (y :: (T ++ [x])) q = 0 := q2 _ fun v hv => List.mem_append_right _ hv
  have diag := sep_free (d := δ) (q := p) (q' := q) (m := LL δ p) d1 d2 (Int.le_refl _) q1
  have hex : ∃ e ∈ steps (x :: (S ++ [y])) ++ steps (y :: (T ++ [x])), ¬ (NoTouch p q e.1 e.2 ∧ ¬ Cr p q e.1 e.2) := by
    refine Classical.byContradiction fun hno => ?_
    have hall : ∀ e ∈ steps (x :: (S ++ [y])) ++ steps (y :: (T ++ [x])), NoTouch p q e.1 e.2 ∧ ¬ Cr p q e.1 e.2 := fun e he => Classical.byContradiction fun hh => hno ⟨e, he, hh⟩
    have fX : Free (x :: (S ++ [y])) p q := by
      intro e he
      rw [eX, List.mem_append, List.mem_singleton] at he
      rcases he with he | rfl
      · exact hall e (List.mem_append_left _ he)
      · exact ⟨noTouch_swap diag.1, fun g => diag.2 (cr_swap g)⟩
    have fY : Free (y :: (T ++ [x])) p q := by
      intro e he
      rw [eY, List.mem_append, List.mem_singleton] at he
      rcases he with he | rfl
      · exact hall e (List.mem_append_right _ he)
      · exact diag
    rw [wind_const fX, wind_const fY, zX, zY] at hne
    simp at hne
  have hpE : ∀ e ∈ steps (x :: (S ++ [y])) ++ steps (y :: (T ++ [x])), ¬ OnS p e.1 e.2 := by
    intro e he g
    rcases List.mem_append.1 he with he | he
    · exact hX ⟨e, by rw [eX]; exact List.mem_append_left _ he, g⟩
    · exact hY ⟨e, by rw [eY]; exact List.mem_append_left _ he, g⟩
  obtain ⟨n, m, n0, n1, ⟨e, he, ho⟩, hfree⟩ := first_hit hpE hex
  have hm : 0 < m := by omega
  generalize hr : wy p q n m = r at *
  -- the hit is beyond the cut
  have lr : m * LL δ p ≤ LL δ r := by
    have : LL δ r = (m - n) * LL δ p + n * LL δ q := by rw [← hr]; unfold LL wy; simp only; grind
    have := Int.mul_le_mul_of_nonneg_left q1 (show 0 ≤ n by omega)
    grind
  have lx : LL δ (Geo.sc m x) < m * LL δ p := by rw [LL_sc]; exact Int.mul_lt_mul_of_pos_left d1 hm
  have ly : LL δ (Geo.sc m y) < m * LL δ p := by rw [LL_sc]; exact Int.mul_lt_mul_of_pos_left d2 hm
  have rx : r ≠ Geo.sc m x := by rintro rfl; omega
  have ry : r ≠ Geo.sc m y := by rintro rfl; omega
  have diag' := sep_free (d := δ) (q := Geo.sc m p) (q' := r) (u := Geo.sc m x) (w := Geo.sc m y) (m := m * LL δ p) lx ly (by rw [LL_sc]; exact Int.le_refl _) lr
  have h' := h.sc hm
  have mX : (x :: (S ++ [y])).map (Geo.sc m) = Geo.sc m x :: (S.map (Geo.sc m) ++ [Geo.sc m y]) := by simp
  have mY : (y :: (T ++ [x])).map (Geo.sc m) = Geo.sc m y :: (T.map (Geo.sc m) ++ [Geo.sc m x]) := by simp
  have stX : ∀ {e : P2 × P2}, e ∈ steps (x :: (S ++ [y])) → (Geo.sc m e.1, Geo.sc m e.2) ∈ steps (Geo.sc m x :: (S.map (Geo.sc m) ++ [Geo.sc m y])) := by
    intro e he
    have := steps_map (Geo.sc m) (x :: (S ++ [y]))
    rw [mX] at this
    rw [this]; exact List.mem_map.2 ⟨e, he, rfl⟩
  have stY : ∀ {e : P2 × P2}, e ∈ steps (y :: (T ++ [x])) → (Geo.sc m e.1, Geo.sc m e.2) ∈ steps (Geo.sc m y :: (T.map (Geo.sc m) ++ [Geo.sc m x])) := by
    intro e he
    have := steps_map (Geo.sc m) (y :: (T ++ [x]))
    rw [mY] at this
    rw [this]; exact List.mem_map.2 ⟨e, he, rfl⟩
  have wXp : wind (Geo.sc m x :: (S.map (Geo.sc m) ++ [Geo.sc m y])) (Geo.sc m p) = wind (x :: (S ++ [y])) p := by rw [← mX]; exact wind_sc hm _ _
  have wYp : wind (Geo.sc m y :: (T.map (Geo.sc m) ++ [Geo.sc m x])) (Geo.sc m p) = wind (y :: (T ++ [x])) p := by rw [← mY]; exact wind_sc hm _ _
  have hk1' : ∀ v ∈ S.map (Geo.sc m), wind (Geo.sc m y :: (T.map (Geo.sc m) ++ [Geo.sc m x])) v = κ1 := by
    intro v hv
    obtain ⟨u, hu, rfl⟩ := List.mem_map.1 hv
    rw [← mY, wind_sc hm]; exact hk1 u hu
  have hk2' : ∀ v ∈ T.map (Geo.sc m), wind (Geo.sc m x :: (S.map (Geo.sc m) ++ [Geo.sc m y])) v = κ2 := by
    intro v hv
    obtain ⟨u, hu, rfl⟩ := List.mem_map.1 hv
    rw [← mX, wind_sc hm]; exact hk2 u hu
  rcases List.mem_append.1 he with he | he
  · left
    rw [← h'.on_chain hk1' (stX he) ho rx ry, ← wYp]
    symm
    refine wind_const fun f hf => ?_
    have hoff := h'.off (stX he) ho rx ry
    rw [← mY, EE_map] at hf
    obtain ⟨g, hg, rfl⟩ := List.mem_map.1 hf
    rw [eY, List.mem_append, List.mem_singleton] at hg
    rcases hg with hg | rfl
    · refine hfree g (List.mem_append_right _ hg) fun gg => hoff ⟨(Geo.sc m g.1, Geo.sc m g.2), ?_, gg⟩
      rw [← mY, EE_map]; exact List.mem_map.2 ⟨g, by rw [eY]; exact List.mem_append_left _ hg, rfl⟩
    · exact diag'
  · right
    rw [← h'.swap.on_chain hk2' (stY he) ho ry rx, ← wXp]
    symm
    refine wind_const fun f hf => ?_
    have hoff := h'.swap.off (stY he) ho ry rx
    rw [← mX, EE_map] at hf
    obtain ⟨g, hg, rfl⟩ := List.mem_map.1 hf
    rw [eX, List.mem_append, List.mem_singleton] at hg
    rcases hg with hg | rfl
    · refine hfree g (List.mem_append_left _ hg) fun gg => hoff ⟨(Geo.sc m g.1, Geo.sc m g.2), ?_, gg⟩
      rw [← mX, EE_map]; exact List.mem_map.2 ⟨g, by rw [eX]; exact List.mem_append_left _ hg, rfl⟩
    · exact ⟨noTouch_swap diag'.1, fun g => diag'.2 (cr_swap g)⟩
/-- 0 or 1, at every scale -/
def Once (l : List P2) : Prop := ∀ K : Int, 0 < K → ∀ p, wind (l.map (Geo.sc K)) p = 0 ∨ wind (l.map (Geo.sc K)) p = 1
theorem sc_sc (a b : Int) (p : P2) : Geo.sc a (Geo.sc b p) = Geo.sc (a * b) p := by unfold Geo.sc; simp only [Int.mul_assoc]
theorem map_sc_sc (a b : Int) (l : List P2) : (l.map (Geo.sc b)).map (Geo.sc a) = l.map (Geo.sc (a * b)) := by rw [List.map_map]; congr 1; funext p; exact sc_sc a b p
theorem once_sc {l : List P2} (h : Once l) {K : Int} (hK : 0 < K) : Once (l.map (Geo.sc K)) := fun K' hK' p => by
  rw [map_sc_sc]; exact h _ (Int.mul_pos hK' hK) p
/-- near the middle of the cut -/
theorem Spl.mid (h : Spl x y S T) (oX : Once (x :: (S ++ [y]))) (oY : Once (y :: (T ++ [x]))) : ∃ (K : Int) (p1 p2 : P2), 0 < K ∧
    (wind ((x :: (S ++ [y])).map (Geo.sc K)) p1 = 1 ∧ wind ((y :: (T ++ [x])).map (Geo.sc K)) p1 = 0) ∧ (wind ((x :: (S ++ [y])).map (Geo.sc K)) p2 = 0 ∧ wind ((y :: (T ++ [x])).map (Geo.sc K)) p2 = 1) ∧
    (¬ OnB ((x :: (S ++ [y])).map (Geo.sc K)) p1 ∧ ¬ OnB ((y :: (T ++ [x])).map (Geo.sc K)) p1) ∧ (¬ OnB ((x :: (S ++ [y])).map (Geo.sc K)) p2 ∧ ¬ OnB ((y :: (T ++ [x])).map (Geo.sc K)) p2) := by
  have hxy : x ≠ y := by
    have := h.hX.nd
    rintro rfl; simp at this
  have sX := simp_sc (K := 2) (by omega) h.hX
  have sY := simp_sc (K := 2) (by omega) h.hY
  have eX : (Geo.sc 2 y, Geo.sc 2 x) ∈ EE ((x :: (S ++ [y])).map (Geo.sc 2)) := by
    rw [EE_map]; exact List.mem_map.2 ⟨(y, x), by rw [EE_cut]; simp, rfl⟩
  have eY : (Geo.sc 2 x, Geo.sc 2 y) ∈ EE ((y :: (T ++ [x])).map (Geo.sc 2)) := by
    rw [EE_map]; exact List.mem_map.2 ⟨(x, y), by rw [EE_cut]; simp, rfl⟩
  have hz : OnS (pl x y) (Geo.sc 2 x) (Geo.sc 2 y) := by
    refine par_on (m := 1) (N := 2) (by omega) (by omega) (by omega) ?_ ?_ <;> (unfold pl Geo.sc; simp only; omega)
  have z1 : pl x y ≠ Geo.sc 2 x := fun g => by
    unfold pl Geo.sc at g; simp only [Prod.mk.injEq] at g
    exact hxy (Prod.ext (by omega) (by omega))
  have z2 : pl x y ≠ Geo.sc 2 y := fun g => by
    unfold pl Geo.sc at g; simp only [Prod.mk.injEq] at g
    exact hxy (Prod.ext (by omega) (by omega))
  have j1 := near_jump sX eX (ons_swap hz) z2 z1
  have j2 := near_jump sY eY hz z1 z2
  obtain ⟨K, hK, ⟨a1, a2, a3⟩, b1, b2, b3⟩ := (j1.and j2).ex
  have en : nrm (Geo.sc 2 y) (Geo.sc 2 x) = ng (nrm (Geo.sc 2 x) (Geo.sc 2 y)) := by unfold nrm ng; refine Prod.ext ?_ ?_ <;> (simp only; omega)
  have en2 : ng (nrm (Geo.sc 2 y) (Geo.sc 2 x)) = nrm (Geo.sc 2 x) (Geo.sc 2 y) := by unfold nrm ng; refine Prod.ext ?_ ?_ <;> (simp only; omega)
  rw [en2] at a1 a3
  rw [en] at a1 a2
  rw [map_sc_sc] at a1 a2 a3 b1 b2 b3
  have hK2 : 0 < K * 2 := by omega
  have oX1 := oX (K * 2) hK2; have oY1 := oY (K * 2) hK2
  have u1 := oX1 (pl (Geo.sc K (pl x y)) (nrm (Geo.sc 2 x) (Geo.sc 2 y)))
  have u2 := oX1 (pl (Geo.sc K (pl x y)) (ng (nrm (Geo.sc 2 x) (Geo.sc 2 y))))
  have u3 := oY1 (pl (Geo.sc K (pl x y)) (nrm (Geo.sc 2 x) (Geo.sc 2 y)))
  have u4 := oY1 (pl (Geo.sc K (pl x y)) (ng (nrm (Geo.sc 2 x) (Geo.sc 2 y))))
  exact ⟨K * 2, _, _, hK2, ⟨by omega, by omega⟩, ⟨by omega, by omega⟩, ⟨a2, b3⟩, ⟨a3, b2⟩⟩
/-- the two parts lie beside each other -/
theorem Spl.beside (h : Spl x y S T) (oX : Once (x :: (S ++ [y]))) (oY : Once (y :: (T ++ [x]))) (hext : (∃ v ∈ S, wind (y :: (T ++ [x])) v = 0) ∨ (∃ v ∈ T, wind (x :: (S ++ [y])) v = 0)) :
    (∀ v ∈ S, wind (y :: (T ++ [x])) v = 0) ∧ (∀ v ∈ T, wind (x :: (S ++ [y])) v = 0) ∧ Once (x :: (S ++ y :: T)) := by
  obtain ⟨κ1, hk1⟩ := h.const
  obtain ⟨κ2, hk2⟩ := h.swap.const
  obtain ⟨s, hs⟩ := List.exists_mem_of_ne_nil S h.nS
  obtain ⟨t, ht⟩ := List.exists_mem_of_ne_nil T h.nT
  have one : ∀ {l : List P2} (p : P2), Once l → wind l p = 0 ∨ wind l p = 1 := fun {l} p ho => by
    have := ho 1 (by omega) p
    have e : l.map (Geo.sc 1) = l := by
      have : Geo.sc 1 = id := by funext p; unfold Geo.sc; simp
      rw [this, List.map_id]
    rw [e] at this; exact this
  have k1 := one s oY; rw [hk1 s hs] at k1
  have k2 := one t oX; rw [hk2 t ht] at k2
  have k3 : κ1 = 0 ∨ κ2 = 0 := by
    rcases hext with ⟨v, hv, e⟩ | ⟨v, hv, e⟩
    · left; rw [← hk1 v hv]; exact e
    · right; rw [← hk2 v hv]; exact e
  -- at any scale
  have scaled : ∀ (K : Int) (p : P2), 0 < K → ¬ OnB ((x :: (S ++ [y])).map (Geo.sc K)) p → ¬ OnB ((y :: (T ++ [x])).map (Geo.sc K)) p →
      (wind ((x :: (S ++ [y])).map (Geo.sc K)) p ≠ 0 ∨ wind ((y :: (T ++ [x])).map (Geo.sc K)) p ≠ 0) → κ1 = wind ((y :: (T ++ [x])).map (Geo.sc K)) p ∨ κ2 = wind ((x :: (S ++ [y])).map (Geo.sc K)) p := by
    intro K p hK
    have h' := h.sc hK
    have mX : (x :: (S ++ [y])).map (Geo.sc K) = Geo.sc K x :: (S.map (Geo.sc K) ++ [Geo.sc K y]) := by simp
    have mY : (y :: (T ++ [x])).map (Geo.sc K) = Geo.sc K y :: (T.map (Geo.sc K) ++ [Geo.sc K x]) := by simp
    have hk1' : ∀ v ∈ S.map (Geo.sc K), wind (Geo.sc K y :: (T.map (Geo.sc K) ++ [Geo.sc K x])) v = κ1 := by
      intro v hv
      obtain ⟨u, hu, rfl⟩ := List.mem_map.1 hv
      rw [← mY, wind_sc hK]; exact hk1 u hu
    have hk2' : ∀ v ∈ T.map (Geo.sc K), wind (Geo.sc K x :: (S.map (Geo.sc K) ++ [Geo.sc K y])) v = κ2 := by
      intro v hv
      obtain ⟨u, hu, rfl⟩ := List.mem_map.1 hv
      rw [← mX, wind_sc hK]; exact hk2 u hu
    rw [mX, mY]
    exact fun a b c => h'.ray hk1' hk2' a b c
  obtain ⟨K, p1, p2, hK, ⟨a1, a2⟩, ⟨b1, b2⟩, ⟨c1, c2⟩, d1, d2⟩ := h.mid oX oY
  have r1 := scaled K p1 hK c1 c2 (Or.inl (by omega))
  have r2 := scaled K p2 hK d1 d2 (Or.inr (by omega))
  have z : κ1 = 0 ∧ κ2 = 0 := by omega
  refine ⟨fun v hv => by rw [hk1 v hv]; exact z.1, fun v hv => by rw [hk2 v hv]; exact z.2, ?_⟩
  intro K hK p
  have mW : (x :: (S ++ y :: T)).map (Geo.sc K) = Geo.sc K x :: (S.map (Geo.sc K) ++ Geo.sc K y :: T.map (Geo.sc K)) := by simp
  have mX : (x :: (S ++ [y])).map (Geo.sc K) = Geo.sc K x :: (S.map (Geo.sc K) ++ [Geo.sc K y]) := by simp
  have mY : (y :: (T ++ [x])).map (Geo.sc K) = Geo.sc K y :: (T.map (Geo.sc K) ++ [Geo.sc K x]) := by simp
  rw [mW, wind_whole, ← mX, ← mY]
  have o1 := oX K hK p; have o2 := oY K hK p
  have nb : ¬ (wind ((x :: (S ++ [y])).map (Geo.sc K)) p = 1 ∧ wind ((y :: (T ++ [x])).map (Geo.sc K)) p = 1) := by
    rintro ⟨g1, g2⟩
    -- moved a bit
    obtain ⟨D, hD⟩ := bound_dx (EE ((x :: (S ++ [y])).map (Geo.sc K)) ++ EE ((y :: (T ++ [x])).map (Geo.sc K)))
    have sX := simp_sc hK h.hX; have sY := simp_sc hK h.hY
    have w1 := wind_perturb (l := (x :: (S ++ [y])).map (Geo.sc K)) p (D := D) (fun e he => hD e (List.mem_append_left _ he)) (fun e he => simp_ne sX he)
    have w2 := wind_perturb (l := (y :: (T ++ [x])).map (Geo.sc K)) p (D := D) (fun e he => hD e (List.mem_append_right _ he)) (fun e he => simp_ne sY he)
    obtain ⟨L, hL, ⟨e1, e2⟩, e3, e4⟩ := (w1.and w2).ex
    rw [map_sc_sc] at e1 e2 e3 e4
    have := scaled (L * K) _ (Int.mul_pos hL hK) e2 e4 (Or.inl (by omega))
    omega
  omega
end
theorem wind_perm {l l' : List P2} (h : (EE l).Perm (EE l')) (p : P2) : wind l p = wind l' p := sum_perm (h.map _)
theorem once_perm {l l' : List P2} (h : (EE l).Perm (EE l')) (ho : Once l') : Once l := fun K hK p => by
  have : (EE (l.map (sc K))).Perm (EE (l'.map (sc K))) := by rw [EE_map, EE_map]; exact h.map _
  rw [wind_perm this]; exact ho K hK p
theorem simp_tri {a b c : P2} (ht : 0 < TT a b c) : Simp [a, b, c] := by
  have r1 := tt_rot a b c
  have r2 := tt_rot b c a
  have nd : a ≠ b ∧ b ≠ c ∧ c ≠ a := by
    refine ⟨?_, ?_, ?_⟩
    · rintro rfl; rw [(tt_self a c).2.2] at ht; simp at ht
    · rintro rfl; rw [(tt_self a b).2.1] at ht; simp at ht
    · rintro rfl; rw [(tt_self c b).1] at ht; simp at ht
  have hE : ∀ e, e ∈ EE [a, b, c] ↔ e = (a, b) ∨ e = (b, c) ∨ e = (c, a) := by intro e; simp [EE, steps]
  refine ⟨by simp [nd.1, nd.2.1, Ne.symm nd.2.2], ?_, ?_, by simp⟩
  · intro e he v hv h1 h2 h
    have h0 := h.1
    simp only [List.mem_cons, List.not_mem_nil, or_false] at hv
    rcases (hE e).1 he with rfl | rfl | rfl <;> simp only at * <;> rcases hv with rfl | rfl | rfl <;> first | exact h1 rfl | exact h2 rfl | omega
  · intro e he f hf h
    obtain ⟨c1, c2⟩ := h
    have s := tt_self
    rcases (hE e).1 he with rfl | rfl | rfl <;> rcases (hE f).1 hf with rfl | rfl | rfl <;> simp only at * <;>
    simp [(tt_self a b).1, (tt_self a b).2.1, (tt_self b c).1, (tt_self b c).2.1, (tt_self c a).1, (tt_self c a).2.1] at c1
theorem A2_tri (a b c : P2) : A2 [a, b, c] = TT a b c := by
  unfold A2; simp only [EE, List.nil_append, List.cons_append, steps, List.map_cons, List.map_nil, List.sum_cons, List.sum_nil, cr2]; unfold TT; grind
theorem once_tri {a b c : P2} (ht : 0 < TT a b c) : Once [a, b, c] := fun K hK p => by
  have : (([a, b, c] : List P2).map (sc K)) = [sc K a, sc K b, sc K c] := by simp
  rw [this]
  exact (tri_wind (by rw [TT_sc]; exact Int.mul_pos (Int.mul_pos hK hK) ht) p).1
theorem bnd_sub {l l' : List P2} (hb : Bnd l) (h : ∀ v ∈ l', v ∈ l) : Bnd l' := fun v hv => hb v (h v hv)
theorem gp_pos {l : List P2} (hb : Bnd l) (hs : Simp l) {v : P2} {t : Int} (hv : Exv l v) (ha : At l v t) : 0 < t * A2 l := gp_all l.length l (Nat.le_refl _) hb hs v t hv ha
/-- a simple polygon of more than three corners has a cut -/
theorem spl_ex {l : List P2} (hb : Bnd l) (hs : Simp l) (hA : 0 < A2 l) (h4 : 4 ≤ l.length) : ∃ x y S T, Spl x y S T ∧ l.Perm (x :: (S ++ y :: T)) ∧ (EE l).Perm (EE (x :: (S ++ y :: T))) ∧
    0 < A2 (x :: (S ++ [y])) ∧ 0 < A2 (y :: (T ++ [x])) ∧ ((∃ v ∈ S, wind (y :: (T ++ [x])) v = 0) ∨ (∃ v ∈ T, wind (x :: (S ++ [y])) v = 0)) := by
  obtain ⟨e1, e2, e3, x1, x2, x3, n12, n13, n23⟩ := three_ext hs hb
  obtain ⟨c, R, a, hs', hp, he⟩ := front hs x1.1
  generalize e1 = b at *
  have hb' : Bnd (b :: c :: (R ++ [a])) := bnd_sub hb fun v hv => hp.mem_iff.2 hv
  have hA' : 0 < A2 (b :: c :: (R ++ [a])) := by rw [← A2_perm he]; exact hA
  have x1' := ext_perm hp x1
  have x2' := ext_perm hp x2
  have x3' := ext_perm hp x3
  have ht : 0 < TT a b c := by
    have := gp_pos hb' hs' x1' ⟨a, c, edge_ab, edge_bc, rfl⟩
    exact pos_of_mul (by rw [Int.mul_comm]; exact this) hA'
  have hR : R ≠ [] := by rintro rfl; have := hp.length_eq; simp at this; omega
  have hlen := hp.length_eq
  by_cases hem : ∃ v ∈ R, InT a b c v
  · obtain ⟨z, hz, pz, hm⟩ := max_in (fun p => TT c a p) (InT a b c) R hem
    obtain ⟨R1, R2, rfl⟩ := List.append_of_mem hz
    obtain ⟨s1, s2, hAA, t1, t2, _⟩ := cut_diag_pos hs' ht pz hm
    have m1 : ∀ v ∈ b :: c :: (R1 ++ [z]), v ∈ b :: c :: ((R1 ++ z :: R2) ++ [a]) := by
      intro v hv; simp only [List.mem_cons, List.mem_append, List.not_mem_nil, or_false] at hv ⊢; grind
    have m2 : ∀ v ∈ b :: z :: (R2 ++ [a]), v ∈ b :: c :: ((R1 ++ z :: R2) ++ [a]) := by
      intro v hv; simp only [List.mem_cons, List.mem_append, List.not_mem_nil, or_false] at hv ⊢; grind
    have a1 : 0 < A2 (b :: c :: (R1 ++ [z])) := pos_of_mul (gp_pos (bnd_sub hb' m1) s1 (ext_sub x1' (by simp) m1) ⟨z, c, edge_ab, edge_bc, rfl⟩) t1
    have a2 : 0 < A2 (b :: z :: (R2 ++ [a])) := pos_of_mul (gp_pos (bnd_sub hb' m2) s2 (ext_sub x1' (by simp) m2) ⟨a, z, edge_ab, edge_bc, rfl⟩) t2
    have eW : b :: c :: ((R1 ++ z :: R2) ++ [a]) = b :: ((c :: R1) ++ z :: (R2 ++ [a])) := by simp
    have eX : b :: c :: (R1 ++ [z]) = b :: ((c :: R1) ++ [z]) := by simp
    have pY : (EE (z :: ((R2 ++ [a]) ++ [b]))).Perm (EE (b :: z :: (R2 ++ [a]))) := by
      have := EE_rot (z :: (R2 ++ [a])) [b]; simpa using this
    have qY : (b :: z :: (R2 ++ [a])).Perm (z :: ((R2 ++ [a]) ++ [b])) := by
      have : ([b] ++ (z :: (R2 ++ [a]))).Perm ((z :: (R2 ++ [a])) ++ [b]) := List.perm_append_comm
      simpa using this
    have sY : Simp (z :: ((R2 ++ [a]) ++ [b])) := simp_perm s2 qY fun e h => pY.mem_iff.1 h
    rw [eW] at hs' hp he x1' x2' x3'
    rw [eX] at s1 a1
    have hsp : Spl b z (c :: R1) (R2 ++ [a]) := ⟨hs', s1, sY, by simp, by simp⟩
    refine ⟨b, z, c :: R1, R2 ++ [a], hsp, hp, he, a1, by rw [A2_perm pY]; exact a2, ?_⟩
    -- a corner that is farthest in some direction, no end of the cut
    have : ∃ v, Exv (b :: ((c :: R1) ++ z :: (R2 ++ [a]))) v ∧ v ≠ b ∧ v ≠ z := by
      by_cases g : e2 = z
      · exact ⟨e3, x3', n13.symm, fun g' => n23 (g.trans g'.symm)⟩
      · exact ⟨e2, x2', n12.symm, g⟩
    obtain ⟨v, ⟨hv, d, hd⟩, vb, vz⟩ := this
    have hv' : v ∈ c :: R1 ∨ v ∈ R2 ++ [a] := by
      simp only [List.mem_cons, List.mem_append, List.not_mem_nil, or_false] at hv ⊢; grind
    rcases hv' with g | g
    · left; refine ⟨v, g, wind_far (d := d) fun u hu => hd u ?_ ?_⟩
      · simp only [List.mem_cons, List.mem_append, List.not_mem_nil, or_false] at hu ⊢; grind
      · rintro rfl; exact hsp.disj g hu
    · right; refine ⟨v, g, wind_far (d := d) fun u hu => hd u ?_ ?_⟩
      · simp only [List.mem_cons, List.mem_append, List.not_mem_nil, or_false] at hu ⊢; grind
      · rintro rfl; exact hsp.swap.disj g hu
  · obtain ⟨s2, hAA, hk⟩ := cut_ear_pos hs' hR ht (fun v hv h => hem ⟨v, hv, h⟩)
    have mY : ∀ v ∈ c :: (R ++ [a]), v ∈ b :: c :: (R ++ [a]) := fun v hv => List.mem_cons_of_mem _ hv
    have a2 : 0 < A2 (c :: (R ++ [a])) := by
      obtain ⟨t, hat⟩ := at_ex hs' x2'.1
      obtain ⟨h1, h2⟩ := hk e2 x2' n12.symm
      obtain ⟨t', g1, g2⟩ := h2 t hat
      have p1 := gp_pos hb' hs' x2' hat
      have p2 := gp_pos (bnd_sub hb' mY) s2 h1 g1
      have t0 : 0 < t := pos_of_mul (by rw [Int.mul_comm]; exact p1) hA'
      exact pos_of_mul p2 (pos_of_mul g2 t0)
    have pW : (EE (b :: c :: (R ++ [a]))).Perm (EE (a :: ([b] ++ c :: R))) := by
      have := EE_rot (b :: c :: R) [a]; simpa using this
    have qW : (b :: c :: (R ++ [a])).Perm (a :: ([b] ++ c :: R)) := by
      have : ((b :: c :: R) ++ [a]).Perm ([a] ++ (b :: c :: R)) := List.perm_append_comm
      simpa using this
    have sW : Simp (a :: ([b] ++ c :: R)) := simp_perm hs' qW fun e h => pW.symm.mem_iff.1 h
    have hsp : Spl a c [b] R := ⟨sW, by simpa using simp_tri ht, s2, by simp, hR⟩
    refine ⟨a, c, [b], R, hsp, hp.trans qW, he.trans pW, by simpa [A2_tri] using ht, a2, ?_⟩
    left
    obtain ⟨hv, d, hd⟩ := x1'
    refine ⟨b, by simp, wind_far (d := d) fun u hu => hd u (mY u hu) ?_⟩
    rintro rfl
    exact (List.nodup_cons.1 hs'.nd).1 hu
theorem spl_len {x y : P2} {S T l : List P2} (h : Spl x y S T) (hp : l.Perm (x :: (S ++ y :: T))) : (x :: (S ++ [y])).length < l.length ∧ (y :: (T ++ [x])).length < l.length := by
  have := hp.length_eq
  have a := List.length_pos_iff.2 h.nS
  have b := List.length_pos_iff.2 h.nT
  simp at this ⊢; omega
theorem three_of {l : List P2} (h : l.length = 3) : ∃ a b c, l = [a, b, c] := by
  match l, h with
  | [a, b, c], _ => exact ⟨a, b, c, rfl⟩
/-- a simple polygon that turns left goes round each point once, or not at all -/
theorem once_all : ∀ n (l : List P2), l.length ≤ n → Bnd l → Simp l → 0 < A2 l → Once l := by
  intro n
  induction n with
  | zero => intro l h _ hs; have := hs.three; omega
  | succ n ih =>
    intro l hl hb hs hA
    by_cases h3 : l.length = 3
    · obtain ⟨a, b, c, rfl⟩ := three_of h3
      rw [A2_tri] at hA
      exact once_tri hA
    · have h4 : 4 ≤ l.length := by have := hs.three; omega
      obtain ⟨x, y, S, T, hsp, hp, he, a1, a2, hext⟩ := spl_ex hb hs hA h4
      obtain ⟨l1, l2⟩ := spl_len hsp hp
      have o1 := ih _ (by omega) (bnd_sub hb fun v hv => hp.mem_iff.2 (by simp only [List.mem_cons, List.mem_append, List.not_mem_nil, or_false] at hv ⊢; grind)) hsp.hX a1
      have o2 := ih _ (by omega) (bnd_sub hb fun v hv => hp.mem_iff.2 (by simp only [List.mem_cons, List.mem_append, List.not_mem_nil, or_false] at hv ⊢; grind)) hsp.hY a2
      exact once_perm he (hsp.beside o1 o2 hext).2.2
/-- a corner that can be cut off -/
def Ear (l : List P2) (t : P2) : Prop := ∃ p q, (p, t) ∈ EE l ∧ (t, q) ∈ EE l ∧ 0 < TT p t q ∧ ∀ v ∈ l, v ≠ p → v ≠ t → v ≠ q → ¬ InT p t q v
theorem ear_perm {l l' : List P2} (hp : l.Perm l') (he : (EE l).Perm (EE l')) {t : P2} (h : Ear l' t) : Ear l t := by
  obtain ⟨p, q, h1, h2, h3, h4⟩ := h
  exact ⟨p, q, he.mem_iff.2 h1, he.mem_iff.2 h2, h3, fun v hv => h4 v (hp.mem_iff.1 hv)⟩
/-- a corner that is cut off -/
theorem ear_cut {l : List P2} (hb : Bnd l) (hs : Simp l) (hA : 0 < A2 l) (h4 : 4 ≤ l.length) {t : P2} (h : Ear l t) : ∃ p q R, l.Perm (t :: q :: (R ++ [p])) ∧ (EE l).Perm (EE (t :: q :: (R ++ [p]))) ∧ Simp (q :: (R ++ [p])) ∧ 0 < A2 (q :: (R ++ [p])) ∧ 0 < TT p t q ∧ (∀ v ∈ R, ¬ InT p t q v) ∧ R ≠ [] := by
  obtain ⟨p, q, h1, h2, h3, hem⟩ := h
  obtain ⟨q', R, p', hs', hp, he⟩ := front hs (edge_mem h1).2
  have e1 := nbr_prev hs'.nd (he.mem_iff.1 h1)
  have e2 := nbr_next hs'.nd (he.mem_iff.1 h2)
  subst e1 e2
  have hR : R ≠ [] := by rintro rfl; have := hp.length_eq; simp at this; omega
  have nd := nd_ne hs'.nd
  have hemR : ∀ v ∈ R, ¬ InT p t q v := fun v hv => by
    obtain ⟨n1, n2, n3⟩ := nd.2.2.2 v hv
    exact hem v (hp.mem_iff.2 (by simp [hv])) n3 n1 n2
  obtain ⟨s2, hAA, hk⟩ := cut_ear_pos hs' hR h3 hemR
  have hb' : Bnd (t :: q :: (R ++ [p])) := bnd_sub hb fun v hv => hp.mem_iff.2 hv
  have hA' : 0 < A2 (t :: q :: (R ++ [p])) := by rw [← A2_perm he]; exact hA
  refine ⟨p, q, R, hp, he, s2, ?_, h3, hemR, hR⟩
  obtain ⟨e1, e2, e3, x1, x2, x3, n12, n13, n23⟩ := three_ext hs' hb'
  have : ∃ v, Exv (t :: q :: (R ++ [p])) v ∧ v ≠ t := by
    by_cases g : e1 = t
    · exact ⟨e2, x2, fun g' => n12 (g.trans g'.symm)⟩
    · exact ⟨e1, x1, g⟩
  obtain ⟨v, xv, vt⟩ := this
  obtain ⟨s, hat⟩ := at_ex hs' xv.1
  obtain ⟨g1, g2⟩ := hk v xv vt
  obtain ⟨s', g3, g4⟩ := g2 s hat
  have p1 := gp_pos hb' hs' xv hat
  have p2 := gp_pos (bnd_sub hb' fun v hv => List.mem_cons_of_mem _ hv) s2 g1 g3
  exact pos_of_mul p2 (pos_of_mul g4 (pos_of_mul (by rw [Int.mul_comm]; exact p1) hA'))
theorem wind_cut (v c a : P2) (R : List P2) (p : P2) : wind (v :: c :: (R ++ [a])) p = wind (c :: (R ++ [a])) p + wind [a, v, c] p := by
  unfold wind
  rw [front_E, EE_cut]
  simp only [EE, List.nil_append, List.cons_append, steps, List.map_cons, List.map_append, List.map_nil, List.sum_cons, List.sum_append, List.sum_nil]
  rw [ps_swap a c p]; omega
/-- where an ear goes round, the polygon does -/
theorem ear_wind {l : List P2} (hb : Bnd l) (hs : Simp l) (hA : 0 < A2 l) {p t q : P2} (h1 : (p, t) ∈ EE l) (h2 : (t, q) ∈ EE l) (h3 : 0 < TT p t q) (hem : ∀ v ∈ l, v ≠ p → v ≠ t → v ≠ q → ¬ InT p t q v) {K : Int} (hK : 0 < K) {z : P2} (hz : wind [sc K p, sc K t, sc K q] z = 1) : wind (l.map (sc K)) z = 1 := by
  by_cases h4 : 4 ≤ l.length
  · obtain ⟨p', q', R, hp, he, s2, a2, _, _, _⟩ := ear_cut hb hs hA h4 ⟨p, q, h1, h2, h3, hem⟩
    have hs' : Simp (t :: q' :: (R ++ [p'])) := simp_perm hs hp fun e h => he.mem_iff.2 h
    have e1 := nbr_prev hs'.nd (he.mem_iff.1 h1)
    have e2 := nbr_next hs'.nd (he.mem_iff.1 h2)
    subst e1 e2
    have ho := once_all l.length l (Nat.le_refl _) hb hs hA K hK z
    have ho2 := once_all _ _ (Nat.le_refl _) (bnd_sub hb fun v hv => hp.mem_iff.2 (List.mem_cons_of_mem _ hv)) s2 a2 K hK z
    have hw : wind (l.map (sc K)) z = wind ((q :: (R ++ [p])).map (sc K)) z + 1 := by
      have : (EE (l.map (sc K))).Perm (EE ((t :: q :: (R ++ [p])).map (sc K))) := by rw [EE_map, EE_map]; exact he.map _
      rw [wind_perm this]
      have e : (t :: q :: (R ++ [p])).map (sc K) = sc K t :: sc K q :: (R.map (sc K) ++ [sc K p]) := by simp
      rw [e, wind_cut, hz]; simp
    omega
  · have h3' : l.length = 3 := by have := hs.three; omega
    obtain ⟨c, R, a, hs', hp, he⟩ := front hs (edge_mem h1).2
    have hR : R = [] := by have := hp.length_eq; simp at this; exact List.length_eq_zero_iff.1 (by omega)
    subst hR
    have e1 := nbr_prev hs'.nd (he.mem_iff.1 h1)
    have e2 := nbr_next hs'.nd (he.mem_iff.1 h2)
    subst e1 e2
    have : (EE (l.map (sc K))).Perm (EE ([p, t, q].map (sc K))) := by
      rw [EE_map, EE_map]
      refine (he.trans ?_).map _
      have := EE_rot [t, q] [p]; simpa using this
    rw [wind_perm this]; simpa using hz
/-- nearer to the middle of a triangle -/
theorem inT_near {p t q v : P2} (h3 : 0 < TT p t q) (hv : InT p t q v) : Ev fun K => wind [sc K p, sc K t, sc K q] (pl (sc K v) (p.1 + t.1 + q.1 - 3 * v.1, p.2 + t.2 + q.2 - 3 * v.2)) = 1 := by
  obtain ⟨i1, i2, i3⟩ := hv
  refine (Ev.pos 4).imp fun K hK => ?_
  have k1 : TT (sc K p) (sc K t) (pl (sc K v) (p.1 + t.1 + q.1 - 3 * v.1, p.2 + t.2 + q.2 - 3 * v.2)) = K * ((K - 3) * TT p t v + TT p t q) := by unfold TT sc pl; simp only; grind
  have k2 : TT (sc K t) (sc K q) (pl (sc K v) (p.1 + t.1 + q.1 - 3 * v.1, p.2 + t.2 + q.2 - 3 * v.2)) = K * ((K - 3) * TT t q v + TT p t q) := by unfold TT sc pl; simp only; grind
  have k3 : TT (sc K q) (sc K p) (pl (sc K v) (p.1 + t.1 + q.1 - 3 * v.1, p.2 + t.2 + q.2 - 3 * v.2)) = K * ((K - 3) * TT q p v + TT p t q) := by unfold TT sc pl; simp only; grind
  have m1 := Int.mul_nonneg (show 0 ≤ K - 3 by omega) i1
  have m2 := Int.mul_nonneg (show 0 ≤ K - 3 by omega) i2
  have m3 := Int.mul_nonneg (show 0 ≤ K - 3 by omega) i3
  refine (tri_wind (by rw [TT_sc]; exact Int.mul_pos (Int.mul_pos (by omega) (by omega)) h3) _).2.2 ?_ ?_ ?_
  · rw [k1]; exact Int.mul_pos (by omega) (by omega)
  · rw [k2]; exact Int.mul_pos (by omega) (by omega)
  · rw [k3]; exact Int.mul_pos (by omega) (by omega)
/-- each edge has an ear elsewhere -/
theorem ear_ex : ∀ n (l : List P2), l.length ≤ n → Bnd l → Simp l → 0 < A2 l → ∀ e ∈ EE l, ∃ t, t ≠ e.1 ∧ t ≠ e.2 ∧ Ear l t := by
  intro n
  induction n with
  | zero => intro l h _ hs; have := hs.three; omega
  | succ n ih =>
    intro l hl hb hs hA
    by_cases h3 : l.length = 3
    · obtain ⟨a, b, c, rfl⟩ := three_of h3
      rw [A2_tri] at hA
      have hE : ∀ e, e ∈ EE [a, b, c] ↔ e = (a, b) ∨ e = (b, c) ∨ e = (c, a) := by intro e; simp [EE, steps]
      have nd := hs.nd
      simp only [List.nodup_cons, List.mem_cons, List.not_mem_nil, or_false, not_or, List.nodup_nil, and_true, not_false_eq_true] at nd
      obtain ⟨⟨nab, nac⟩, nbc⟩ := nd
      have r1 := tt_rot a b c
      have r2 := tt_rot b c a
      have all : ∀ v ∈ [a, b, c], v = a ∨ v = b ∨ v = c := fun v hv => by simpa using hv
      intro e he
      rcases (hE e).1 he with rfl | rfl | rfl
      · exact ⟨c, fun g => nac g.symm, fun g => nbc g.symm, b, a, (hE _).2 (by simp), (hE _).2 (by simp), by omega, fun v hv a1 a2 a3 => by rcases all v hv with g | g | g <;> grind⟩
      · exact ⟨a, nab, nac, c, b, (hE _).2 (by simp), (hE _).2 (by simp), by omega, fun v hv a1 a2 a3 => by rcases all v hv with g | g | g <;> grind⟩
      · exact ⟨b, nbc, fun g => nab g.symm, a, c, (hE _).2 (by simp), (hE _).2 (by simp), by omega, fun v hv a1 a2 a3 => by rcases all v hv with g | g | g <;> grind⟩
    · have h4 : 4 ≤ l.length := by have := hs.three; omega
      obtain ⟨x, y, S, T, hsp, hp, he, a1, a2, hext⟩ := spl_ex hb hs hA h4
      obtain ⟨l1, l2⟩ := spl_len hsp hp
      have b1 : Bnd (x :: (S ++ [y])) := bnd_sub hb fun v hv => hp.mem_iff.2 (by simp only [List.mem_cons, List.mem_append, List.not_mem_nil, or_false] at hv ⊢; grind)
      have b2 : Bnd (y :: (T ++ [x])) := bnd_sub hb fun v hv => hp.mem_iff.2 (by simp only [List.mem_cons, List.mem_append, List.not_mem_nil, or_false] at hv ⊢; grind)
      have o1 := once_all _ _ (Nat.le_refl _) b1 hsp.hX a1
      have o2 := once_all _ _ (Nat.le_refl _) b2 hsp.hY a2
      obtain ⟨k1, k2, _⟩ := hsp.beside o1 o2 hext
      -- an ear of the one part is one of the whole
      have side : ∀ {x y : P2} {S T : List P2}, Spl x y S T → Bnd (x :: (S ++ [y])) → 0 < A2 (x :: (S ++ [y])) → (∀ v ∈ T, wind (x :: (S ++ [y])) v = 0) → (∃ t, t ≠ y ∧ t ≠ x ∧ Ear (x :: (S ++ [y])) t) → ∃ t ∈ S, Ear (x :: (S ++ y :: T)) t := by
        rintro x y S T hsp hb hA hk ⟨t, ty, tx, p, q, h1, h2, h3, hem⟩
        have tS : t ∈ S := by
          have := (edge_mem h1).2
          simp only [List.mem_cons, List.mem_append, List.not_mem_nil, or_false] at this; grind
        have c1 : (p, t) ∈ steps (x :: (S ++ [y])) := by
          have h := h1; rw [EE_cut, List.mem_append, List.mem_singleton] at h
          rcases h with h | h
          · exact h
          · simp only [Prod.mk.injEq] at h; exact absurd h.2 tx
        have c2 : (t, q) ∈ steps (x :: (S ++ [y])) := by
          have h := h2; rw [EE_cut, List.mem_append, List.mem_singleton] at h
          rcases h with h | h
          · exact h
          · simp only [Prod.mk.injEq] at h; exact absurd h.1 ty
        refine ⟨t, tS, p, q, (hsp.stepX c1).1, (hsp.stepX c2).1, h3, fun v hv n1 n2 n3 hin => ?_⟩
        by_cases hvX : v ∈ x :: (S ++ [y])
        · exact hem v hvX n1 n2 n3 hin
        · have hvT : v ∈ T := by
            simp only [List.mem_cons, List.mem_append, List.not_mem_nil, or_false, not_or] at hv hvX; grind
          have hoff : ¬ OnB (x :: (S ++ [y])) v := by
            rintro ⟨f, hf, ho⟩
            have nm := hsp.swap.disj hvT
            obtain ⟨m1, m2⟩ := edge_mem hf
            have n1 : v ≠ f.1 := fun g => nm (g ▸ m1)
            have n2 : v ≠ f.2 := fun g => nm (g ▸ m2)
            rw [EE_cut, List.mem_append, List.mem_singleton] at hf
            rcases hf with hf | rfl
            · exact hsp.hL.on f (hsp.stepX hf).1 v (by simp [hvT]) n1 n2 ho
            · have hY : (x, y) ∈ EE (y :: (T ++ [x])) := by rw [EE_cut]; simp
              exact hsp.hY.on _ hY v (by simp [hvT]) n2 n1 (ons_swap ho)
          obtain ⟨K, hK, g1, g2⟩ := ((near_same hoff _).and (inT_near h3 hin)).ex
          have := ear_wind hb hsp.hX hA h1 h2 h3 hem hK g2
          rw [g1, hk v hvT] at this
          simp at this
      intro e hE
      have hE' := he.mem_iff.1 hE
      rw [EE_whole] at hE'
      rcases List.mem_append.1 hE' with h | h
      · have hh : (x, y) ∈ EE (y :: (T ++ [x])) := by rw [EE_cut]; simp
        obtain ⟨t, n1, n2, ht⟩ := ih _ (by omega) b2 hsp.hY a2 _ hh
        obtain ⟨t, tT, hear⟩ := side hsp.swap b2 a2 k1 ⟨t, n1, n2, ht⟩
        have nd := hsp.swap.disj tT
        obtain ⟨m1, m2⟩ := edge_mem (hsp.stepX h).2
        refine ⟨t, fun g => nd (g ▸ m1), fun g => nd (g ▸ m2), ear_perm hp he ?_⟩
        have e1 : (y :: (T ++ x :: S)).Perm (x :: (S ++ y :: T)) := by
          have : ((y :: T) ++ (x :: S)).Perm ((x :: S) ++ (y :: T)) := List.perm_append_comm
          simpa using this
        have e2 : (EE (y :: (T ++ x :: S))).Perm (EE (x :: (S ++ y :: T))) := by
          have := EE_rot (y :: T) (x :: S); simpa using this
        exact ear_perm e1.symm e2.symm hear
      · have hh : (y, x) ∈ EE (x :: (S ++ [y])) := by rw [EE_cut]; simp
        obtain ⟨t, n1, n2, ht⟩ := ih _ (by omega) b1 hsp.hX a1 _ hh
        obtain ⟨t, tS, hear⟩ := side hsp b1 a1 k2 ⟨t, n1, n2, ht⟩
        have nd := hsp.disj tS
        obtain ⟨m1, m2⟩ := edge_mem (hsp.swap.stepX h).2
        exact ⟨t, fun g => nd (g ▸ m1), fun g => nd (g ▸ m2), ear_perm hp he hear⟩
theorem turn_one (a b c : P2) : turnI a.1 a.2 b.1 b.2 c.1 c.2 = 1 ↔ 0 < TT a b c := by
  rw [turn_sgn]
  rcases Int.lt_trichotomy (TT a b c) 0 with h | h | h
  · rw [Int.sign_eq_neg_one_of_neg h]; omega
  · rw [h]; simp
  · rw [Int.sign_eq_one_of_pos h]; omega
theorem turn_nn (a b c : P2) : 0 ≤ turnI a.1 a.2 b.1 b.2 c.1 c.2 ↔ 0 ≤ TT a b c := by
  rw [turn_sgn]
  rcases Int.lt_trichotomy (TT a b c) 0 with h | h | h
  · rw [Int.sign_eq_neg_one_of_neg h]; omega
  · rw [h]; simp
  · rw [Int.sign_eq_one_of_pos h]; omega
theorem inTri_iff (p a b c : P2) : inTriB p.1 p.2 a.1 a.2 b.1 b.2 c.1 c.2 = true ↔ InT a b c p := by
  unfold inTriB InT
  simp only [Bool.and_eq_true, decide_eq_true_eq, turn_nn a b p, turn_nn b c p, turn_nn c a p, and_assoc]
theorem corner_iff (p a b c : P2) : cornerB p.1 p.2 a.1 a.2 b.1 b.2 c.1 c.2 = true ↔ p = a ∨ p = b ∨ p = c := by
  unfold cornerB
  simp only [Bool.or_eq_true, Bool.and_eq_true, beq_iff_eq, Prod.ext_iff, or_assoc]
theorem isEar_iff (l : List P2) (k : Nat) : isEar l l.length k = true ↔ 0 < TT (ptAt l ((k + l.length - 1) % l.length)) (ptAt l k) (ptAt l ((k + 1) % l.length)) ∧
    ∀ j, j < l.length → ptAt l j ≠ ptAt l ((k + l.length - 1) % l.length) → ptAt l j ≠ ptAt l k → ptAt l j ≠ ptAt l ((k + 1) % l.length) → ¬ InT (ptAt l ((k + l.length - 1) % l.length)) (ptAt l k) (ptAt l ((k + 1) % l.length)) (ptAt l j) := by
  unfold isEar earTurn barTo
  rw [Bool.and_eq_true, beq_iff_eq]
  have e := turn_one (ptAt l ((k + l.length - 1) % l.length)) (ptAt l k) (ptAt l ((k + 1) % l.length))
  have hb : ∀ j, bars l l.length k j = true ↔ ¬ (ptAt l j = ptAt l ((k + l.length - 1) % l.length) ∨ ptAt l j = ptAt l k ∨ ptAt l j = ptAt l ((k + 1) % l.length)) ∧ InT (ptAt l ((k + l.length - 1) % l.length)) (ptAt l k) (ptAt l ((k + 1) % l.length)) (ptAt l j) := fun j => by
    unfold bars
    rw [Bool.and_eq_true, Bool.not_eq_true', ← Bool.not_eq_true]
    exact and_congr (not_congr (corner_iff (ptAt l j) _ _ _)) (inTri_iff (ptAt l j) _ _ _)
  refine and_congr e ?_
  rw [Bool.not_eq_true', ← Bool.not_eq_true, List.any_eq_true]
  constructor
  · intro h j hj n1 n2 n3 hin
    exact h ⟨j, List.mem_range.2 hj, (hb j).2 ⟨by rintro (g | g | g) <;> contradiction, hin⟩⟩
  · rintro h ⟨j, hj, hbj⟩
    obtain ⟨g1, g2⟩ := (hb j).1 hbj
    rw [not_or, not_or] at g1
    exact h j (List.mem_range.1 hj) g1.1 g1.2.1 g1.2.2 g2
/-- an ear by its index -/
theorem ear_idx {l : List P2} (hs : Simp l) {k : Nat} (hk : k < l.length) : isEar l l.length k = true ↔ Ear l (ptAt l k) := by
  have e1 : (ptAt l ((k + l.length - 1) % l.length), ptAt l k) ∈ EE l := EE_mem.2 ⟨(k + l.length - 1) % l.length, Nat.mod_lt _ (by omega), by rw [prev_next hk]⟩
  have e2 : (ptAt l k, ptAt l ((k + 1) % l.length)) ∈ EE l := EE_mem.2 ⟨k, hk, rfl⟩
  rw [isEar_iff]
  constructor
  · rintro ⟨h1, h2⟩
    refine ⟨_, _, e1, e2, h1, fun v hv n1 n2 n3 => ?_⟩
    obtain ⟨j, hj, rfl⟩ := pt_mem.1 hv
    exact h2 j hj n1 n2 n3
  · rintro ⟨p, q, h1, h2, h3, h4⟩
    have u1 : p = ptAt l ((k + l.length - 1) % l.length) := by
      obtain ⟨i, hi, g⟩ := EE_mem.1 h1
      simp only [Prod.mk.injEq] at g
      have := pt_inj hs.nd hk (nx_lt hi) g.2
      rw [g.1]; congr 1
      rw [this, nx hi]; split
      · rename_i h; rw [Nat.mod_eq_of_lt] <;> omega
      · rw [show i + 1 + l.length - 1 = i + l.length from by omega, Nat.add_mod_right, Nat.mod_eq_of_lt hi]
    have u2 : q = ptAt l ((k + 1) % l.length) := by
      obtain ⟨i, hi, g⟩ := EE_mem.1 h2
      simp only [Prod.mk.injEq] at g
      have := pt_inj hs.nd hk hi g.1
      rw [g.2, this]
    subst u1 u2
    exact ⟨h3, fun j hj n1 n2 n3 => h4 _ (pt_mem.2 ⟨j, hj, rfl⟩) n1 n2 n3⟩
/-- a polygon from which ears are cut -/
structure EarOk (r : List P2) : Prop where
  ok : okL r = true
  si : Simp r
  ar : 0 < A2 r
theorem ear_head {t : P2} {M : List P2} (hb : Bnd (t :: M)) (hs : Simp (t :: M)) (hA : 0 < A2 (t :: M)) (h4 : 3 ≤ M.length) (h : Ear (t :: M) t) : Simp M ∧ 0 < A2 M := by
  obtain ⟨p, q, h1, h2, h3, hem⟩ := h
  match M, h4 with
  | c :: M', h4 =>
    rcases List.eq_nil_or_concat M' with rfl | ⟨R, a, rfl⟩
    · simp at h4
    · rw [List.concat_eq_append] at *
      have e1 := nbr_prev hs.nd h1
      have e2 := nbr_next hs.nd h2
      subst e1 e2
      have hR : R ≠ [] := by rintro rfl; simp at h4
      have nd := nd_ne hs.nd
      have hemR : ∀ v ∈ R, ¬ InT p t q v := fun v hv => by
        obtain ⟨n1, n2, n3⟩ := nd.2.2.2 v hv
        exact hem v (by simp [hv]) n3 n1 n2
      obtain ⟨s2, hAA, hk⟩ := cut_ear_pos hs hR h3 hemR
      refine ⟨s2, ?_⟩
      obtain ⟨e1, e2, e3, x1, x2, x3, n12, n13, n23⟩ := three_ext hs hb
      have : ∃ v, Exv (t :: q :: (R ++ [p])) v ∧ v ≠ t := by
        by_cases g : e1 = t
        · exact ⟨e2, x2, fun g' => n12 (g.trans g'.symm)⟩
        · exact ⟨e1, x1, g⟩
      obtain ⟨v, xv, vt⟩ := this
      obtain ⟨s, hat⟩ := at_ex hs xv.1
      obtain ⟨g1, g2⟩ := hk v xv vt
      obtain ⟨s', g3, g4⟩ := g2 s hat
      have p1 := gp_pos hb hs xv hat
      have p2 := gp_pos (bnd_sub hb fun v hv => List.mem_cons_of_mem _ hv) s2 g1 g3
      exact pos_of_mul p2 (pos_of_mul g4 (pos_of_mul (by rw [Int.mul_comm]; exact p1) hA))
theorem ear_erase {r : List P2} (h : EarOk r) (h4 : 4 ≤ r.length) {k : Nat} (hk : k < r.length) (he : isEar r r.length k = true) : EarOk (r.eraseIdx k) := by
  have hE := (ear_idx h.si hk).1 he
  have er : r = r.take k ++ ptAt r k :: r.drop (k + 1) := by
    rw [ptAt_get r k hk]; simp
  have ee : r.eraseIdx k = r.take k ++ r.drop (k + 1) := List.eraseIdx_eq_take_drop_succ ..
  rw [ee]
  have hl : (r.take k).length + (r.drop (k + 1)).length + 1 = r.length := by simp; omega
  have ok := h.ok; have si := h.si; have ar := h.ar
  generalize ptAt r k = t at *
  generalize r.take k = X at *
  generalize r.drop (k + 1) = Y at *
  subst er
  have p1 : (X ++ t :: Y).Perm (t :: (Y ++ X)) := by
    have : (X ++ (t :: Y)).Perm ((t :: Y) ++ X) := List.perm_append_comm
    simpa using this
  have p2 : (EE (X ++ t :: Y)).Perm (EE (t :: (Y ++ X))) := by have := EE_rot X (t :: Y); simpa using this
  have s1 : Simp (t :: (Y ++ X)) := simp_perm si p1 fun e h => p2.mem_iff.2 h
  have b1 : Bnd (t :: (Y ++ X)) := bnd_sub (okL_bnd ok) fun v hv => p1.mem_iff.2 hv
  obtain ⟨s2, a2⟩ := ear_head b1 s1 (by rw [← A2_perm p2]; exact ar) (by simp at hl h4 ⊢; omega) (ear_perm p1.symm p2.symm hE)
  refine ⟨okL_mem ok fun v hv => by simp only [List.mem_append, List.mem_cons] at hv ⊢; grind, simp_perm s2 List.perm_append_comm fun e he => (EE_rot _ _).mem_iff.1 he, by rw [A2_perm (EE_rot X Y)]; exact a2⟩
theorem ear_some {r : List P2} (h : EarOk r) : ∃ k, k < r.length ∧ isEar r r.length k = true := by
  have h3 := h.si.three
  obtain ⟨t, n1, n2, hE⟩ := ear_ex r.length r (Nat.le_refl _) (okL_bnd h.ok) h.si h.ar _ (EE_mem.2 ⟨0, by omega, rfl⟩)
  obtain ⟨p, q, h1, _⟩ := hE
  obtain ⟨k, hk, rfl⟩ := pt_mem.1 (edge_mem h1).2
  exact ⟨k, hk, (ear_idx h.si hk).2 ⟨p, q, h1, by assumption⟩⟩
/-- the first ear is an ear, and no other one comes before it -/
theorem earFrom_spec (l : List P2) (n : Nat) : ∀ m k, (∃ j, k ≤ j ∧ j < k + m ∧ isEar l n j = true) → k ≤ earFrom l n m k ∧ earFrom l n m k < k + m ∧ isEar l n (earFrom l n m k) = true ∧ ∀ j, k ≤ j → j < earFrom l n m k → isEar l n j = false := by
  intro m
  induction m with
  | zero => rintro k ⟨j, h1, h2, _⟩; omega
  | succ m ih =>
    rintro k ⟨j, h1, h2, h3⟩
    unfold earFrom
    by_cases hk : isEar l n k = true
    · rw [if_pos hk]; exact ⟨by omega, by omega, hk, fun j a b => by omega⟩
    · rw [if_neg hk]
      have hj : j ≠ k := by rintro rfl; exact hk h3
      obtain ⟨a1, a2, a3, a4⟩ := ih (k + 1) ⟨j, by omega, by omega, h3⟩
      refine ⟨by omega, by omega, a3, fun j' b1 b2 => ?_⟩
      by_cases e : j' = k
      · subst e; simpa using hk
      · exact a4 j' (by omega) b2
theorem earI_spec {r : List P2} (h : EarOk r) : earI r r.length < r.length ∧ isEar r r.length (earI r r.length) = true ∧ ∀ j, j < earI r r.length → isEar r r.length j = false := by
  obtain ⟨k, hk, he⟩ := ear_some h
  obtain ⟨a1, a2, a3, a4⟩ := earFrom_spec r r.length r.length 0 ⟨k, by omega, by omega, he⟩
  exact ⟨by unfold earI; omega, a3, fun j hj => a4 j (by omega) hj⟩
theorem earOk_norm {l : List P2} (h : polyI l = 0) : EarOk (normL l) := by
  obtain ⟨s1, s2, s3, s4, s5, s6, s7⟩ := norm_self h
  exact ⟨s4, s1, s3⟩

end Geo
end Go.Proofs.YtpdfbboagaflhaaGreat

set_option linter.unusedSimpArgs false
set_option linter.unusedVariables false
set_option linter.unusedSectionVars false
namespace Go.Proofs.YtpdfbboagaflhaaGreat
namespace Geo

/-- two lists that go round every point alike, and have one border -/
def Alike (l l' : List P2) : Prop := ∀ p, wind l p = wind l' p ∧ (OnB l p ↔ OnB l' p)
theorem Alike.refl (l : List P2) : Alike l l := fun p => ⟨rfl, Iff.rfl⟩
theorem Alike.trans {a b c : List P2} (h : Alike a b) (g : Alike b c) : Alike a c := fun p => ⟨(h p).1.trans (g p).1, (h p).2.trans (g p).2⟩
theorem onB_perm {l l' : List P2} (h : (EE l).Perm (EE l')) (p : P2) : OnB l p ↔ OnB l' p := by
  unfold OnB; constructor <;> rintro ⟨e, he, g⟩
  · exact ⟨e, h.mem_iff.1 he, g⟩
  · exact ⟨e, h.mem_iff.2 he, g⟩
theorem alike_perm {l l' : List P2} (h : (EE l).Perm (EE l')) : Alike l l' := fun p => ⟨wind_perm h p, onB_perm h p⟩
theorem ps_mid {a v c : P2} (h : OnS v a c) (h1 : v ≠ a) (h2 : v ≠ c) (p : P2) : ps a v p + ps v c p = ps a c p := by
  obtain ⟨m, N, k0, k1, kx, ky⟩ := on_par h h1 h2
  have e1 : N * TT a v p = m * TT a c p := by unfold TT; grind
  have e2 : N * TT v c p = (N - m) * TT a c p := by unfold TT; grind
  have s0 := sgn_pos (a := TT a v p) (show 0 < N by omega)
  have s1 := sgn_pos (a := TT a c p) k0
  have s2 := sgn_pos (a := TT v c p) (show 0 < N by omega)
  have s3 := sgn_pos (a := TT a c p) (show 0 < N - m by omega)
  rw [e1] at s0; rw [e2] at s2
  have hb := h.2.2
  have a1 : (0 < TT a v p ↔ 0 < TT a c p) ∧ (TT a v p < 0 ↔ TT a c p < 0) := ⟨s0.1.symm.trans s1.1, s0.2.1.symm.trans s1.2.1⟩
  have a2 : (0 < TT v c p ↔ 0 < TT a c p) ∧ (TT v c p < 0 ↔ TT a c p < 0) := ⟨s2.1.symm.trans s3.1, s2.2.1.symm.trans s3.2.1⟩
  unfold ps
  simp only [a1.1, a1.2, a2.1, a2.2]
  clear s0 s1 s2 s3 a1 a2 e1 e2 kx ky
  generalize TT a c p = T
  rcases Int.lt_trichotomy T 0 with g | g | g
  · repeat (split) <;> omega
  · repeat (split) <;> omega
  · repeat (split) <;> omega
theorem alike_cut {v c a : P2} {R : List P2} (h : OnS v a c) (h1 : v ≠ a) (h2 : v ≠ c) (hac : a ≠ c) : Alike (v :: c :: (R ++ [a])) (c :: (R ++ [a])) := by
  intro p
  constructor
  · unfold wind
    rw [front_E, EE_cut]
    simp only [List.map_cons, List.map_append, List.sum_cons, List.sum_append, List.map_nil, List.sum_nil]
    have := ps_mid h h1 h2 p
    omega
  · unfold OnB
    rw [front_E, EE_cut]
    constructor
    · rintro ⟨e, he, g⟩
      simp only [List.mem_cons, List.mem_append, List.not_mem_nil, or_false] at he
      rcases he with rfl | he | rfl
      · exact ⟨(a, c), by simp, ons_swap (ons_sub (ons_swap h) g)⟩
      · exact ⟨e, by simp [he], g⟩
      · exact ⟨(a, c), by simp, ons_sub h (ons_swap g)⟩
    · rintro ⟨e, he, g⟩
      simp only [List.mem_append, List.mem_cons, List.not_mem_nil, or_false] at he
      rcases he with he | rfl
      · exact ⟨e, by simp [he], g⟩
      · obtain ⟨m, N, k0, k1, kx, ky⟩ := on_par h h1 h2
        rcases ons_split k0 k1 kx ky hac g with g | g
        · exact ⟨(a, v), by simp, g⟩
        · exact ⟨(v, c), by simp, g⟩
theorem alike_bends : ∀ n (l : List P2), l.length ≤ n → Bnd l → Simp l → Alike (normB l) l := by
  intro n
  induction n with
  | zero => intro l h _ hs; have := hs.three; omega
  | succ n ih =>
    intro l hl hb hs
    by_cases hall : ∀ k, k < l.length → turnAt l l.length k ≠ 0
    · rw [bends_self l hall]; exact Alike.refl _
    · obtain ⟨f, hf⟩ := Classical.not_forall.1 hall
      rw [not_imp, Classical.not_not] at hf
      obtain ⟨hf, ht⟩ := hf
      have hp := rot_perm l f
      have hsr := simp_rot hs f
      have hbr : Bnd (rotL l f) := fun v hv => hb v (hp.mem_iff.1 hv)
      have ht0 : turnAt (rotL l f) l.length 0 = 0 := by rw [turnAt_rot l f 0 (by omega) (by omega), Nat.add_zero, Nat.mod_eq_of_lt hf]; exact ht
      have hlen : (rotL l f).length = l.length := hp.length_eq
      have hback : Alike (normB (rotL l f)) (rotL l f) → Alike (normB l) l := by
        intro h
        rw [normB_rot l f (by omega)] at h
        rw [normB_split l f (by omega)]
        exact (alike_perm (EE_rot _ _)).trans (h.trans (alike_perm (rot_EE l f)))
      refine hback ?_
      rw [← hlen] at ht0 hl
      generalize rotL l f = M at *
      have h3 := hsr.three
      match M, h3 with
      | v :: c :: M', h3 =>
        rcases List.eq_nil_or_concat M' with rfl | ⟨R, a, rfl⟩
        · simp at h3
        · rw [List.concat_eq_append] at *
          rw [turnAt_zero] at ht0
          have e1 : (0 + (v :: c :: (R ++ [a])).length - 1) % (v :: c :: (R ++ [a])).length = (R.length + 1) + 1 := by rw [Nat.mod_eq_of_lt] <;> simp
          have e2 : (0 + 1) % (v :: c :: (R ++ [a])).length = 0 + 1 := by rw [Nat.mod_eq_of_lt]; simp
          rw [e1, e2, ptAt_cons, ptAt_cons, ptAt_cons, ptAt_zero, ptAt_zero, ptAt_app] at ht0
          obtain ⟨hR, hs2⟩ := simp_strike hbr hsr ht0
          have nd := nd_ne hsr.nd
          have hst := straight hsr ht0
          obtain ⟨m, N, k0, k1, kx, ky⟩ := on_par hst nd.2.1 nd.1
          have f1 : ∀ u, TT v c u = 0 ↔ TT a c u = 0 := fun u => by
            have := par_tt kx ky c u
            rw [(tt_self c u).1, Int.mul_zero, Int.add_zero] at this
            have g1 : TT c u v = TT v c u := by unfold TT; grind
            have g2 : TT c u a = TT a c u := by unfold TT; grind
            rw [g1, g2] at this
            constructor <;> intro h
            · rw [h, Int.mul_zero] at this
              exact (Int.mul_eq_zero.1 this.symm).resolve_left (by omega)
            · rw [h, Int.mul_zero] at this
              exact (Int.mul_eq_zero.1 this).resolve_left (by omega)
          have f2 : ∀ u, TT u a v = 0 ↔ TT u a c = 0 := fun u => by
            have := par_tt kx ky u a
            rw [(tt_self u a).2.1, Int.mul_zero, Int.zero_add] at this
            constructor <;> intro h
            · rw [h, Int.mul_zero] at this
              exact (Int.mul_eq_zero.1 this.symm).resolve_left (by omega)
            · rw [h, Int.mul_zero] at this
              exact (Int.mul_eq_zero.1 this).resolve_left (by omega)
          rw [normB_drop ht0 f1 f2 nd.2.2.1.symm hR]
          exact (ih _ (by simp at hl ⊢; omega) (fun u hu => hbr u (List.mem_cons_of_mem _ hu)) hs2).trans (fun p => ⟨((alike_cut hst nd.2.1 nd.1 nd.2.2.1.symm) p).1.symm, ((alike_cut hst nd.2.1 nd.1 nd.2.2.1.symm) p).2.symm⟩)
theorem wind_rev (l : List P2) (p : P2) : wind l.reverse p = - wind l p := by
  have h := sum_perm ((EE_rev l).map fun e => ps e.1 e.2 p)
  unfold wind
  rw [h, List.map_map]
  generalize EE l = L
  induction L with
  | nil => rfl
  | cons e L ih => simp only [List.map_cons, List.sum_cons, ih, Function.comp, Prod.fst_swap, Prod.snd_swap]; rw [ps_swap]; omega
theorem onB_rev (l : List P2) (p : P2) : OnB l.reverse p ↔ OnB l p := by
  unfold OnB
  constructor
  · rintro ⟨e, he, g⟩
    obtain ⟨f, hf, rfl⟩ := List.mem_map.1 ((EE_rev l).mem_iff.1 he)
    exact ⟨f, hf, ons_swap g⟩
  · rintro ⟨e, he, g⟩
    exact ⟨e.swap, (EE_rev l).mem_iff.2 (List.mem_map.2 ⟨e, he, rfl⟩), ons_swap g⟩
/-- the normal form, seen from a point -/
theorem norm_wind {l : List P2} (h : polyI l = 0) (p : P2) : (wind (normL l) p = wind l p ∨ wind (normL l) p = - wind l p) ∧ (OnB (normL l) p ↔ OnB l p) := by
  have hs := poly_simp h
  obtain ⟨hck, h3, hr, ha⟩ := polyI_ok h
  obtain ⟨hl, hok⟩ := ckPts_zero hck
  have hb := okL_bnd hok
  have s1 := alike_bends _ l (Nat.le_refl _) hb hs p
  have e : normL l = rotL (normC l) (leastTo (normC l) (normC l).length) := rfl
  have s2 := alike_perm (rot_EE (normC l) (leastTo (normC l) (normC l).length)) p
  rw [← e] at s2
  rw [s2.1, s2.2]
  unfold normC
  split
  · rw [revTo_rev, wind_rev, onB_rev, s1.1, s1.2]; exact ⟨Or.inr rfl, Iff.rfl⟩
  · rw [s1.1, s1.2]; exact ⟨Or.inl rfl, Iff.rfl⟩
theorem passB_ps (u w p : P2) : passB u.1 u.2 w.1 w.2 p.1 p.2 = decide (ps u w p ≠ 0) := by
  have t1 : (turnI u.1 u.2 w.1 w.2 p.1 p.2 == 1) = decide (0 < TT u w p) := by
    rw [Bool.eq_iff_iff, beq_iff_eq, decide_eq_true_iff]; exact turn_one u w p
  have t2 : (turnI w.1 w.2 u.1 u.2 p.1 p.2 == 1) = decide (TT u w p < 0) := by
    rw [Bool.eq_iff_iff, beq_iff_eq, decide_eq_true_iff, turn_one w u p, tt_swap]; omega
  unfold passB ps
  rw [t1, t2]
  generalize TT u w p = T
  rw [Bool.eq_iff_iff]
  split <;> simp only [Bool.and_eq_true, decide_eq_true_iff] <;> repeat (split) <;> omega
theorem odd_wind (l : List P2) (p : P2) : ∀ k, k ≤ l.length → oddTo (edgesL l) p.1 p.2 k = decide ((((List.range k).map fun i => ps (ptAt l i) (ptAt l ((i + 1) % l.length)) p).sum) % 2 ≠ 0)
  | 0, _ => by simp [oddTo]
  | k + 1, h => by
    have ih := odd_wind l p k (by omega)
    obtain ⟨e1, e2, e3, e4⟩ := edgesL_at l k (by omega)
    have hp : passAt (edgesL l) p.1 p.2 k = decide (ps (ptAt l k) (ptAt l ((k + 1) % l.length)) p ≠ 0) := by
      unfold passAt; rw [e1, e2, e3, e4]; exact passB_ps (ptAt l k) (ptAt l ((k + 1) % l.length)) p
    have hv : ps (ptAt l k) (ptAt l ((k + 1) % l.length)) p = 0 ∨ ps (ptAt l k) (ptAt l ((k + 1) % l.length)) p = 1 ∨ ps (ptAt l k) (ptAt l ((k + 1) % l.length)) p = -1 := by
      unfold ps; repeat (split) <;> omega
    simp only [oddTo]
    rw [hp, ih, List.range_succ, List.map_append, List.sum_append]
    simp only [List.map_cons, List.map_nil, List.sum_cons, List.sum_nil]
    generalize ps (ptAt l k) (ptAt l ((k + 1) % l.length)) p = P at *
    generalize ((List.range k).map fun i => ps (ptAt l i) (ptAt l ((i + 1) % l.length)) p).sum = S
    rw [Bool.eq_iff_iff]
    rcases hv with rfl | rfl | rfl <;> simp <;> omega
theorem any_onB (l : List P2) (p : P2) : anyOn (edgesL l) p.1 p.2 l.length = true ↔ OnB l p := by
  unfold anyOn OnB
  rw [List.any_eq_true]
  have hk : ∀ k, k < l.length → (onAt (edgesL l) p.1 p.2 k = true ↔ OnS p (ptAt l k) (ptAt l ((k + 1) % l.length))) := fun k hk => by
    obtain ⟨e1, e2, e3, e4⟩ := edgesL_at l k hk
    unfold onAt; rw [e1, e2, e3, e4, ← onR_eq]; exact onR_on p (ptAt l k) (ptAt l ((k + 1) % l.length))
  constructor
  · rintro ⟨k, hk1, h⟩
    rw [List.mem_range] at hk1
    exact ⟨_, EE_mem.2 ⟨k, hk1, rfl⟩, (hk k hk1).1 h⟩
  · rintro ⟨e, he, h⟩
    obtain ⟨k, hk1, rfl⟩ := EE_mem.1 he
    exact ⟨k, List.mem_range.2 hk1, (hk k hk1).2 h⟩
theorem once_norm {l : List P2} (h : polyI l = 0) : Once (normL l) := by
  obtain ⟨s, _, a, ok, _, _, _⟩ := norm_self h
  exact once_all _ _ (Nat.le_refl _) (okL_bnd ok) s a
theorem sc_one (p : P2) : sc 1 p = p := by unfold sc; simp
theorem once_one {l : List P2} (h : Once l) (p : P2) : wind l p = 0 ∨ wind l p = 1 := by
  have := h 1 (by omega) (sc 1 p)
  rwa [wind_sc (by omega)] at this
/-- where a point is, by the normal form -/
theorem where_norm {l : List P2} (h : polyI l = 0) (p : P2) : whereI l p.1 p.2 ≠ 0 ↔ (OnB (normL l) p ∨ wind (normL l) p = 1) := by
  obtain ⟨h1, h2⟩ := norm_wind h p
  have h3 := once_one (once_norm h) p
  have ho := odd_wind l p l.length (Nat.le_refl _)
  have hw : wind l p = ((List.range l.length).map fun i => ps (ptAt l i) (ptAt l ((i + 1) % l.length)) p).sum := by
    unfold wind; rw [EE_idx, List.map_map]; rfl
  rw [← hw] at ho
  rw [h2, ← any_onB]
  unfold whereI
  rw [ho]
  split
  · rename_i g; simp [g]
  · rename_i g; simp only [g, false_or]
    split
    · rename_i g2; rw [decide_eq_true_iff] at g2; have := (show wind (normL l) p = 1 by omega); simp [this]
    · rename_i g2; rw [decide_eq_true_iff] at g2; have := (show wind (normL l) p ≠ 1 by omega); simp [this]
def triE (t : T6) : List (P2 × P2) := [(t.1, t.2.1), (t.2.1, t.2.2), (t.2.2, t.1)]
def trisE (t : List T6) : List (P2 × P2) := t.flatMap triE
/-- the edges of triangles, and those of a polygon turned round -/
def chE (l : List P2) (t : List T6) : List (P2 × P2) := trisE t ++ (EE l).map Prod.swap
/-- each edge is there as often in the one direction as in the other -/
def Bal (E : List (P2 × P2)) : Prop := ∀ e, E.count e = E.count e.swap
theorem swap_inj {a b : P2 × P2} : a.swap = b.swap ↔ a = b := ⟨fun h => by rw [← Prod.swap_swap a, h, Prod.swap_swap], fun h => by rw [h]⟩
theorem swap_eq {a b : P2 × P2} : a.swap = b ↔ a = b.swap := ⟨fun h => by rw [← h, Prod.swap_swap], fun h => by rw [h, Prod.swap_swap]⟩
theorem bal_perm {E F : List (P2 × P2)} (h : E.Perm F) (hb : Bal E) : Bal F := fun e => by rw [← h.count_eq, ← h.count_eq]; exact hb e
theorem bal_sum (f : P2 × P2 → Int) (hf : ∀ e, f e.swap = - f e) : ∀ n (E : List (P2 × P2)), E.length ≤ n → Bal E → (E.map f).sum = 0 := by
  intro n
  induction n with
  | zero => intro E h _; have : E = [] := List.eq_nil_of_length_eq_zero (by omega); subst this; rfl
  | succ n ih =>
    intro E h hb
    match E with
    | [] => rfl
    | e :: E' =>
      by_cases hs : e.swap = e
      · have f0 : f e = 0 := by have := hf e; rw [hs] at this; omega
        have hb' : Bal E' := fun x => by
          have := hb x
          simp only [List.count_cons, beq_iff_eq] at this
          have g : (e = x) ↔ (e = x.swap) := by rw [← swap_eq, hs]
          by_cases g1 : e = x
          · rw [if_pos g1, if_pos (g.1 g1)] at this; omega
          · rw [if_neg g1, if_neg (fun q => g1 (g.2 q))] at this; omega
        simp only [List.map_cons, List.sum_cons, f0, ih E' (by simp at h; omega) hb']; omega
      · have hm : e.swap ∈ E' := by
          have h1 := hb e
          rw [List.count_cons_self] at h1
          have h2 : 0 < (e :: E').count e.swap := by omega
          rw [List.count_pos_iff] at h2
          rcases List.mem_cons.1 h2 with g | g
          · exact absurd g hs
          · exact g
        have hp : (e :: E').Perm (e :: e.swap :: E'.erase e.swap) := (List.perm_cons_erase hm).cons _
        have hb2 := bal_perm hp hb
        have hb' : Bal (E'.erase e.swap) := fun x => by
          have := hb2 x
          simp only [List.count_cons, beq_iff_eq] at this
          have g1 : (e.swap = x) ↔ (e = x.swap) := swap_eq
          have g2 : (e.swap = x.swap) ↔ (e = x) := swap_inj
          simp only [g1, g2] at this
          omega
        have hl : (E'.erase e.swap).length ≤ n := by rw [List.length_erase_of_mem hm]; simp at h; omega
        rw [sum_perm (hp.map f)]
        simp only [List.map_cons, List.sum_cons, hf, ih _ hl hb']; omega
theorem tris_sum (f : P2 × P2 → Int) (t : List T6) : ((trisE t).map f).sum = (t.map fun x => ((triE x).map f).sum).sum := by
  induction t with
  | nil => rfl
  | cons x t ih => rw [show trisE (x :: t) = triE x ++ trisE t from rfl, List.map_append, List.sum_append, ih, List.map_cons, List.sum_cons]
theorem swap_sum (f : P2 × P2 → Int) (hf : ∀ e, f e.swap = - f e) (L : List (P2 × P2)) : ((L.map Prod.swap).map f).sum = - (L.map f).sum := by
  induction L with
  | nil => rfl
  | cons e L ih => simp only [List.map_cons, List.sum_cons, ih, hf]; omega
theorem bal_tris {l : List P2} {t : List T6} (h : Bal (chE l t)) (f : P2 × P2 → Int) (hf : ∀ e, f e.swap = - f e) : (t.map fun x => ((triE x).map f).sum).sum = ((EE l).map f).sum := by
  have h1 := bal_sum f hf _ _ (Nat.le_refl _) h
  unfold chE at h1
  rw [List.map_append, List.sum_append, tris_sum, swap_sum f hf] at h1
  omega
theorem tri_EE (x : T6) : EE [x.1, x.2.1, x.2.2] = triE x := rfl
def trW (x : T6) (p : P2) : Int := wind [x.1, x.2.1, x.2.2] p
/-- what CheckTriangles asks of triangles -/
structure Cover (l : List P2) (t : List T6) : Prop where
  poly : polyI l = 0
  left : ∀ x ∈ t, 0 < TT x.1 x.2.1 x.2.2
  bal : Bal (chE (normL l) t)
variable {l : List P2} {t : List T6}
theorem Cover.area (h : Cover l t) : (t.map fun x => TT x.1 x.2.1 x.2.2).sum = A2 (normL l) := by
  have := bal_tris h.bal cr2 (fun e => by unfold cr2; simp only [Prod.fst_swap, Prod.snd_swap]; grind)
  unfold A2
  rw [← this]
  congr 1
  refine List.map_congr_left fun x _ => ?_
  rw [← A2_tri]; rfl
theorem Cover.wind (h : Cover l t) {K : Int} (hK : 0 < K) (p : P2) : (t.map fun x => Geo.wind [sc K x.1, sc K x.2.1, sc K x.2.2] p).sum = Geo.wind ((normL l).map (sc K)) p := by
  have := bal_tris h.bal (fun e => ps (sc K e.1) (sc K e.2) p) (fun e => ps_swap _ _ _)
  have e2 : Geo.wind ((normL l).map (sc K)) p = ((EE (normL l)).map fun e => ps (sc K e.1) (sc K e.2) p).sum := by
    unfold Geo.wind; rw [EE_map, List.map_map]; rfl
  rw [e2, ← this]
  congr 1
theorem Cover.wind1 (h : Cover l t) (p : P2) : (t.map fun x => trW x p).sum = Geo.wind (normL l) p := by
  have := h.wind (K := 1) (by omega) (sc 1 p)
  rw [wind_sc (by omega)] at this
  rw [← this]
  congr 1
  refine List.map_congr_left fun x _ => ?_
  have e : [sc 1 x.1, sc 1 x.2.1, sc 1 x.2.2] = [x.1, x.2.1, x.2.2].map (sc 1) := rfl
  rw [e, wind_sc (by omega)]; rfl
/-- in the inside of a triangle -/
def insB (x : T6) (p : P2) : Bool := turnI x.1.1 x.1.2 x.2.1.1 x.2.1.2 p.1 p.2 == 1 && turnI x.2.1.1 x.2.1.2 x.2.2.1 x.2.2.2 p.1 p.2 == 1 && turnI x.2.2.1 x.2.2.2 x.1.1 x.1.2 p.1 p.2 == 1
def inB (x : T6) (p : P2) : Bool := inTriB p.1 p.2 x.1.1 x.1.2 x.2.1.1 x.2.1.2 x.2.2.1 x.2.2.2
theorem inB_iff (x : T6) (p : P2) : inB x p = true ↔ InT x.1 x.2.1 x.2.2 p := inTri_iff p x.1 x.2.1 x.2.2
theorem insB_iff (x : T6) (p : P2) : insB x p = true ↔ 0 < TT x.1 x.2.1 p ∧ 0 < TT x.2.1 x.2.2 p ∧ 0 < TT x.2.2 x.1 p := by
  unfold insB
  rw [Bool.and_eq_true, Bool.and_eq_true, beq_iff_eq, beq_iff_eq, beq_iff_eq, turn_one x.1 x.2.1 p, turn_one x.2.1 x.2.2 p, turn_one x.2.2 x.1 p, and_assoc]
theorem sum_ge {t : List T6} (p : P2) (hl : ∀ x ∈ t, 0 < TT x.1 x.2.1 x.2.2) : (t.countP (insB · p) : Int) ≤ (t.map fun x => trW x p).sum := by
  induction t with
  | nil => simp
  | cons x t ih =>
    have i := ih fun y hy => hl y (List.mem_cons_of_mem _ hy)
    have w := tri_wind (hl x (List.mem_cons_self ..)) p
    rw [List.countP_cons, List.map_cons, List.sum_cons]
    have e : trW x p = Geo.wind [x.1, x.2.1, x.2.2] p := rfl
    rw [e]
    by_cases g : insB x p = true
    · obtain ⟨a, b, c⟩ := (insB_iff x p).1 g
      have := w.2.2 a b c
      rw [if_pos g]; omega
    · rw [if_neg g]; have := w.1; omega
theorem sum_nonneg {t : List T6} (f : T6 → Int) (hl : ∀ x ∈ t, 0 ≤ f x) : 0 ≤ (t.map f).sum ∧ ∀ x ∈ t, f x ≤ (t.map f).sum := by
  induction t with
  | nil => simp
  | cons x t ih =>
    have i := ih fun y hy => hl y (List.mem_cons_of_mem _ hy)
    have hx := hl x (List.mem_cons_self ..)
    rw [List.map_cons, List.sum_cons]
    refine ⟨by omega, fun y hy => ?_⟩
    rcases List.mem_cons.1 hy with rfl | hy
    · omega
    · have := i.2 y hy; omega
theorem sum_some {t : List T6} (f : T6 → Int) (h : (t.map f).sum ≠ 0) : ∃ x ∈ t, f x ≠ 0 := by
  induction t with
  | nil => simp at h
  | cons x t ih =>
    by_cases g : f x = 0
    · rw [List.map_cons, List.sum_cons, g, Int.zero_add] at h
      obtain ⟨y, hy, hn⟩ := ih h
      exact ⟨y, List.mem_cons_of_mem _ hy, hn⟩
    · exact ⟨x, List.mem_cons_self .., g⟩
/-- no point is inside two triangles -/
theorem Cover.inside (h : Cover l t) (p : P2) : t.countP (insB · p) ≤ 1 := by
  have h1 := sum_ge p h.left
  have h2 := h.wind1 p
  have h3 := once_one (once_norm h.poly) p
  omega
theorem edge_once {l : List P2} (hs : Simp l) {e : P2 × P2} (he : e ∈ EE l) : e.swap ∉ EE l := by
  intro hw
  obtain ⟨i, hi, rfl⟩ := EE_mem.1 he
  obtain ⟨j, hj, ej⟩ := EE_mem.1 hw
  simp only [Prod.swap, Prod.mk.injEq] at ej
  have h3 := hs.three
  have a := pt_inj hs.nd (nx_lt hi) hj ej.1
  have b := pt_inj hs.nd hi (nx_lt hj) ej.2
  rw [nx hi] at a
  rw [nx hj] at b
  split at a <;> split at b <;> omega
/-- a point of the polygon is a point of a triangle, and the other way round -/
theorem Cover.cover (h : Cover l t) (p : P2) : (∃ x ∈ t, inB x p = true) ↔ whereI l p.1 p.2 ≠ 0 := by
  obtain ⟨hs, _, hA, hok, _, _, _⟩ := norm_self h.poly
  rw [where_norm h.poly]
  constructor
  · rintro ⟨x, hx, hp⟩
    by_cases ho : OnB (normL l) p
    · exact Or.inl ho
    · right
      have ev := (near_same ho (x.1.1 + x.2.1.1 + x.2.2.1 - 3 * p.1, x.1.2 + x.2.1.2 + x.2.2.2 - 3 * p.2)).and (inT_near (h.left x hx) ((inB_iff x p).1 hp))
      obtain ⟨K, hK, e1, e2⟩ := ev.ex
      have hw := h.wind hK (pl (sc K p) (x.1.1 + x.2.1.1 + x.2.2.1 - 3 * p.1, x.1.2 + x.2.1.2 + x.2.2.2 - 3 * p.2))
      have hn := sum_nonneg (t := t) (fun x' => Geo.wind [sc K x'.1, sc K x'.2.1, sc K x'.2.2] (pl (sc K p) (x.1.1 + x.2.1.1 + x.2.2.1 - 3 * p.1, x.1.2 + x.2.1.2 + x.2.2.2 - 3 * p.2))) (fun y hy => by
        have := once_tri (h.left y hy) K hK (pl (sc K p) (x.1.1 + x.2.1.1 + x.2.2.1 - 3 * p.1, x.1.2 + x.2.1.2 + x.2.2.2 - 3 * p.2))
        simp only [List.map_cons, List.map_nil] at this
        show 0 ≤ Geo.wind [sc K y.1, sc K y.2.1, sc K y.2.2] _
        omega)
      have hx2 := hn.2 x hx
      simp only [e2] at hx2
      have h3 := once_one (once_norm h.poly) p
      omega
  · rintro (⟨e, he, ho⟩ | hw)
    · have hc : e.swap ∈ chE (normL l) t := List.mem_append_right _ (List.mem_map.2 ⟨e, he, rfl⟩)
      have hb := h.bal e
      have hp := List.count_pos_iff.2 hc
      have he2 : e ∈ chE (normL l) t := List.count_pos_iff.1 (by omega)
      rcases List.mem_append.1 he2 with g | g
      · obtain ⟨x, hx, hxe⟩ := List.mem_flatMap.1 g
        refine ⟨x, hx, (inB_iff x p).2 ?_⟩
        have hl := h.left x hx
        have on_in : ∀ {a b c q : P2}, 0 < TT a b c → OnS q a b → InT a b c q := by
          intro a b c q ht hq
          have n1 : a ≠ b := by rintro rfl; rw [(tt_self a c).2.2] at ht; simp at ht
          by_cases q1 : q = a
          · subst q1; exact ⟨by rw [(tt_self q b).1]; omega, by rw [tt_rot]; omega, by rw [(tt_self c q).2.1]; omega⟩
          by_cases q2 : q = b
          · subst q2; exact ⟨by rw [(tt_self a q).2.1]; omega, by rw [(tt_self q c).1]; omega, by have := tt_rot c a q; have := tt_rot a q c; omega⟩
          exact inT_rot (inT_rot (inT_on_ac (a := b) (b := c) (c := a) (by rw [tt_rot]; exact ht) (ons_swap hq) q2 q1))
        simp only [triE, List.mem_cons, List.not_mem_nil, or_false] at hxe
        rcases hxe with rfl | rfl | rfl
        · exact on_in hl ho
        · exact inT_rot (inT_rot (on_in (by rw [tt_rot]; exact hl) ho))
        · exact inT_rot (on_in (by rw [tt_rot, tt_rot]; exact hl) ho)
      · obtain ⟨f, hf, rfl⟩ := List.mem_map.1 g
        exact absurd hf (edge_once hs he |> fun q => by simpa using q)
    · have hw2 := h.wind1 p
      obtain ⟨x, hx, hn⟩ := sum_some (fun x => trW x p) (by rw [hw2, hw]; omega)
      exact ⟨x, hx, (inB_iff x p).2 ((tri_wind (h.left x hx) p).2.1 hn)⟩
/-- how much more often an edge is there than the one turned round -/
def valE (E : List (P2 × P2)) (k : P2 × P2) : Int := (E.count k : Int) - E.count k.swap
theorem valE_app (E F : List (P2 × P2)) (k : P2 × P2) : valE (E ++ F) k = valE E k + valE F k := by unfold valE; rw [List.count_append, List.count_append]; omega
theorem valE_perm {E F : List (P2 × P2)} (h : E.Perm F) (k : P2 × P2) : valE E k = valE F k := by unfold valE; rw [h.count_eq, h.count_eq]
theorem valE_nil (k : P2 × P2) : valE [] k = 0 := rfl
theorem count_swap (E : List (P2 × P2)) (k : P2 × P2) : (E.map Prod.swap).count k = E.count k.swap := by
  induction E with
  | nil => rfl
  | cons e E ih =>
    simp only [List.map_cons, List.count_cons, ih, beq_iff_eq]
    have : (e.swap = k) ↔ (e = k.swap) := swap_eq
    simp only [this]
theorem valE_swap (E : List (P2 × P2)) (k : P2 × P2) : valE (E.map Prod.swap) k = - valE E k := by
  unfold valE; rw [count_swap, count_swap, Prod.swap_swap]; omega
theorem valE_cons (e : P2 × P2) (E : List (P2 × P2)) (k : P2 × P2) : valE (e :: E) k = valE E k + (if e = k then 1 else 0) - (if e = k.swap then 1 else 0) := by
  unfold valE; rw [List.count_cons, List.count_cons]; simp only [beq_iff_eq]; split <;> split <;> omega
theorem bal_iff (E : List (P2 × P2)) : Bal E ↔ ∀ k, valE E k = 0 := by
  unfold Bal valE; constructor <;> intro h k <;> have := h k <;> omega
theorem trisE_snoc (t : List T6) (x : T6) : trisE (t ++ [x]) = trisE t ++ triE x := by simp [trisE]
theorem ear_val {r : List P2} (h : EarOk r) (h4 : 4 ≤ r.length) {k : Nat} (hk : k < r.length) (e : P2 × P2) : valE (EE r) e = valE (triE (trAt r r.length k)) e + valE (EE (r.eraseIdx k)) e := by
  have i1 : (ptAt r ((k + r.length - 1) % r.length), ptAt r k) ∈ EE r := EE_mem.2 ⟨(k + r.length - 1) % r.length, Nat.mod_lt _ (by omega), by
    congr 2
    by_cases k0 : k = 0
    · subst k0; rw [Nat.mod_eq_of_lt (show 0 + r.length - 1 < r.length by omega), show 0 + r.length - 1 + 1 = r.length by omega, Nat.mod_self]
    · rw [show k + r.length - 1 = (k - 1) + r.length by omega, Nat.add_mod_right, Nat.mod_eq_of_lt (show k - 1 < r.length by omega), show k - 1 + 1 = k by omega, Nat.mod_eq_of_lt hk]⟩
  have i2 : (ptAt r k, ptAt r ((k + 1) % r.length)) ∈ EE r := EE_mem.2 ⟨k, hk, rfl⟩
  have eT : trAt r r.length k = (ptAt r ((k + r.length - 1) % r.length), ptAt r k, ptAt r ((k + 1) % r.length)) := rfl
  rw [eT]
  generalize ptAt r ((k + r.length - 1) % r.length) = p at *
  generalize ptAt r ((k + 1) % r.length) = q at *
  have er : r = r.take k ++ ptAt r k :: r.drop (k + 1) := by
    rw [ptAt_get r k hk]; simp
  have ee : r.eraseIdx k = r.take k ++ r.drop (k + 1) := List.eraseIdx_eq_take_drop_succ ..
  rw [ee]
  have hl : (r.take k).length + (r.drop (k + 1)).length + 1 = r.length := by simp; omega
  have si := h.si
  clear eT
  generalize ptAt r k = t at *
  generalize r.take k = X at *
  generalize r.drop (k + 1) = Y at *
  subst er
  have p1 : (X ++ t :: Y).Perm (t :: (Y ++ X)) := by
    have : (X ++ (t :: Y)).Perm ((t :: Y) ++ X) := List.perm_append_comm
    simpa using this
  have p2 : (EE (X ++ t :: Y)).Perm (EE (t :: (Y ++ X))) := by have := EE_rot X (t :: Y); simpa using this
  have s1 : Simp (t :: (Y ++ X)) := simp_perm si p1 fun e h => p2.mem_iff.2 h
  rw [valE_perm p2, valE_perm (EE_rot X Y)]
  have j1 := p2.mem_iff.1 i1
  have j2 := p2.mem_iff.1 i2
  have hM : 3 ≤ (Y ++ X).length := by simp at hl h4 ⊢; omega
  generalize Y ++ X = M at *
  match M, hM with
  | c :: M', hM =>
    rcases List.eq_nil_or_concat M' with rfl | ⟨R, a, rfl⟩
    · simp at hM
    · rw [List.concat_eq_append] at *
      have e1 := nbr_prev s1.nd j1
      have e2 := nbr_next s1.nd j2
      subst e1 e2
      rw [front_E, EE_cut]
      have ht : triE (p, t, q) = [(p, t), (t, q), (q, p)] := rfl
      rw [ht]
      simp only [valE_cons, valE_app, valE_nil]
      have g1 : ((q, p) = e) ↔ ((p, q) = e.swap) := by rw [← swap_eq (a := (p, q))]; rfl
      have g2 : ((q, p) = e.swap) ↔ ((p, q) = e) := by rw [← swap_inj (a := (p, q))]; rfl
      simp only [g1, g2]
      omega
theorem ears_ok : ∀ (f : Nat) (r : List P2) (t : List T6), EarOk r → r.length ≤ f → (∀ x ∈ t, 0 < TT x.1 x.2.1 x.2.2) → (∀ k, valE (trisE (earsF f r t)) k = valE (trisE t) k + valE (EE r) k) ∧ ∀ x ∈ earsF f r t, 0 < TT x.1 x.2.1 x.2.2
  | 0, r, t, h, hf, _ => by have := h.si.three; omega
  | f + 1, r, t, h, hf, ht => by
    simp only [earsF]
    have h3 := h.si.three
    split
    · rename_i h4
      obtain ⟨a1, a2, _⟩ := earI_spec h
      have hE := (isEar_iff r (earI r r.length)).1 a2
      have ih := ears_ok f (r.eraseIdx (earI r r.length)) (t ++ [trAt r r.length (earI r r.length)]) (ear_erase h h4 a1 a2) (by rw [List.length_eraseIdx, if_pos a1]; omega) (fun x hx => by
        rcases List.mem_append.1 hx with hx | hx
        · exact ht x hx
        · rw [List.mem_singleton] at hx; subst hx; exact hE.1)
      refine ⟨fun k => ?_, ih.2⟩
      rw [ih.1, trisE_snoc, valE_app, ear_val h h4 a1 k]; omega
    · have hl : r.length = 3 := by omega
      obtain ⟨a, b, c, rfl⟩ := three_of hl
      have e : ((pAt [a, b, c] 0, pAt [a, b, c] 1, pAt [a, b, c] 2) : T6) = (a, b, c) := rfl
      rw [e]
      refine ⟨fun k => by rw [trisE_snoc, valE_app]; rfl, fun x hx => ?_⟩
      rcases List.mem_append.1 hx with hx | hx
      · exact ht x hx
      · rw [List.mem_singleton] at hx; subst hx; have := h.ar; rw [A2_tri] at this; exact this
/-- the triangles of Triangles are such -/
theorem cover_tris {l : List P2} (h : polyI l = 0) : Cover l (trisL l) := by
  obtain ⟨h1, h2⟩ := ears_ok (normL l).length (normL l) [] (earOk_norm h) (Nat.le_refl _) (by simp)
  refine ⟨h, h2, (bal_iff _).2 fun k => ?_⟩
  unfold chE
  rw [valE_app, valE_swap]
  have := h1 k
  rw [show trisE ([] : List T6) = [] from rfl, valE_nil] at this
  unfold trisL
  omega

end Geo
end Go.Proofs.YtpdfbboagaflhaaGreat

set_option linter.unusedSimpArgs false
set_option linter.unusedVariables false
set_option linter.unusedSectionVars false
namespace Go.Proofs.YtpdfbboagaflhaaGreat
namespace Geo

def mid (p q : P2) : P2 := (p.1 + q.1, p.2 + q.2)
theorem c3_TT (a b c : P2) : c3 a b c = TT a b c := rfl
theorem on_OnS {p : P2} {s : S4} (hp : valid p) (hs : okSeg s = true) : onS p s ↔ OnS p (eA s) (eB s) := (onR_iff hp hs).symm.trans (onR_on p (eA s) (eB s))
theorem line2 {u w a b : P2} (hn : u ≠ w) (h1 : TT u w a = 0) (h2 : TT u w b = 0) : TT a b u = 0 ∧ TT a b w = 0 := by
  have e1 : (w.1 - u.1) * TT a b u = 0 := by unfold TT at *; grind
  have e2 : (w.2 - u.2) * TT a b u = 0 := by unfold TT at *; grind
  have e3 : (w.1 - u.1) * TT a b w = 0 := by unfold TT at *; grind
  have e4 : (w.2 - u.2) * TT a b w = 0 := by unfold TT at *; grind
  have hn' : w.1 - u.1 ≠ 0 ∨ w.2 - u.2 ≠ 0 := by
    apply Classical.byContradiction; intro g
    apply hn; apply Prod.ext <;> omega
  rcases hn' with g | g
  · exact ⟨(Int.mul_eq_zero.1 e1).resolve_left g, (Int.mul_eq_zero.1 e3).resolve_left g⟩
  · exact ⟨(Int.mul_eq_zero.1 e2).resolve_left g, (Int.mul_eq_zero.1 e4).resolve_left g⟩
section
variable {l : List P2} {s : S4} (hv : ∀ p, p ∈ l → valid p) (hs : okSeg s = true)
def cutP (l : List P2) (s : S4) : List P2 := cutsL l s.1 s.2.1 s.2.2.1 s.2.2.2
include hv hs
theorem cutP_spec : (cutP l s).Pairwise lexLt ∧ ∀ p, p ∈ cutP l s ↔ (p = eA s ∨ p = eB s ∨ (p ∈ l ∧ onS p s)) := by
  obtain ⟨a, b, c, d⟩ := s
  have hlen : (sortP (cutsTo l a b c d l.length)).length = (cutsTo l a b c d l.length).length := List.length_mergeSort _
  obtain ⟨h1, h2, _⟩ := dd_spec (sortP_sorted (cutsTo l a b c d l.length)) (cutsTo l a b c d l.length).length (by omega)
  refine ⟨h1, fun p => ?_⟩
  show p ∈ ddTo (sortP (cutsTo l a b c d l.length)) (cutsTo l a b c d l.length).length ↔ _
  rw [h2, ← hlen, List.take_length, sortP_mem, cutsTo_mem hv hs l.length (Nat.le_refl _) p]
  constructor
  · rintro (h | h | ⟨i, hi, he, ho⟩)
    · exact .inl h
    · exact .inr (.inl h)
    · exact .inr (.inr ⟨by rw [he]; exact ptAt_mem hi, ho⟩)
  · rintro (h | h | ⟨hm, ho⟩)
    · exact .inl h
    · exact .inr (.inl h)
    · obtain ⟨i, hi, he⟩ := mem_ptAt hm
      exact .inr (.inr ⟨i, hi, he, ho⟩)
theorem cutP_val {p : P2} (h : p ∈ cutP l s) : valid p ∧ onS p s := by
  have h3 := okSeg_iff.1 hs
  rcases ((cutP_spec hv hs).2 p).1 h with rfl | rfl | ⟨h1, h2⟩
  · exact ⟨h3.1, onS_A s⟩
  · exact ⟨h3.2.1, onS_B s⟩
  · exact ⟨hv _ h1, h2⟩
/-- two points of a list of cuts, with none between -/
def Adj (C : List P2) (p q : P2) : Prop := p ∈ C ∧ q ∈ C ∧ lexLt p q ∧ ∀ r ∈ C, ¬ (lexLt p r ∧ lexLt r q)
theorem adj_idx {p q : P2} : Adj (cutP l s) p q ↔ ∃ j, j + 1 < (cutP l s).length ∧ p = ptAt (cutP l s) j ∧ q = ptAt (cutP l s) (j + 1) := by
  obtain ⟨h1, _⟩ := cutP_spec hv hs
  generalize cutP l s = C at *
  have ir : ∀ x : P2, ¬ lexLt x x := fun x => by unfold lexLt; omega
  have asy : ∀ x y : P2, lexLt x y → ¬ lexLt y x := fun x y => by unfold lexLt; omega
  constructor
  · rintro ⟨hp, hq, hl, hn⟩
    obtain ⟨i, hi, rfl⟩ := mem_ptAt hp
    obtain ⟨j, hj, rfl⟩ := mem_ptAt hq
    have hij : i < j := by
      apply Classical.byContradiction; intro g
      by_cases e : i = j
      · subst e; exact ir _ hl
      · exact asy _ _ hl (lex_lt h1 hi (by omega))
    have : j = i + 1 := by
      apply Classical.byContradiction; intro g
      exact hn _ (ptAt_mem (show i + 1 < C.length by omega)) ⟨lex_lt h1 (by omega) (by omega), lex_lt h1 hj (by omega)⟩
    subst this
    exact ⟨i, hj, rfl, rfl⟩
  · rintro ⟨j, hj, rfl, rfl⟩
    refine ⟨ptAt_mem (by omega), ptAt_mem hj, lex_lt h1 hj (by omega), ?_⟩
    rintro r hr ⟨g1, g2⟩
    obtain ⟨i, hi, rfl⟩ := mem_ptAt hr
    have a : ¬ i ≤ j := fun g => by
      by_cases e : i = j
      · subst e; exact ir _ g1
      · exact asy _ _ g1 (lex_lt h1 (by omega) (by omega))
    have b : ¬ j + 1 ≤ i := fun g => by
      by_cases e : i = j + 1
      · subst e; exact ir _ g2
      · exact asy _ _ g2 (lex_lt h1 hi (by omega))
    omega
variable {p q : P2} (ha : Adj (cutP l s) p q)
include ha
theorem adj_kl : ky 1 p < ky 1 q := (ky_lt (cutP_val hv hs ha.1).1 (cutP_val hv hs ha.2.1).1).1 ha.2.2.1
/-- no corner between -/
theorem adj_none {v : P2} (hvl : v ∈ l) (h0 : TT (eA s) (eB s) v = 0) (h1 : lexLt p v) (h2 : lexLt v q) : False := by
  have k1 := (ky_lt (cutP_val hv hs ha.1).1 (hv v hvl)).1 h1
  have k2 := (ky_lt (hv v hvl) (cutP_val hv hs ha.2.1).1).1 h2
  have o1 := (cutP_val hv hs ha.1).2.2
  have o2 := (cutP_val hv hs ha.2.1).2.2
  exact ha.2.2.2 v (((cutP_spec hv hs).2 v).2 (.inr (.inr ⟨hvl, h0, by omega⟩))) ⟨h1, h2⟩
theorem adj_TT : TT (eA s) (eB s) p = 0 ∧ TT (eA s) (eB s) q = 0 := ⟨(cutP_val hv hs ha.1).2.1, (cutP_val hv hs ha.2.1).2.1⟩
theorem mid_TT : TT (sc 2 (eA s)) (sc 2 (eB s)) (mid p q) = 0 := by
  obtain ⟨a, b⟩ := adj_TT hv hs ha
  have : TT (sc 2 (eA s)) (sc 2 (eB s)) (mid p q) = 2 * (TT (eA s) (eB s) p + TT (eA s) (eB s) q) := by unfold TT sc mid; grind
  rw [this, a, b]; rfl
theorem mid_corner {v : P2} (hvl : v ∈ l) : mid p q ≠ sc 2 v := by
  intro e
  have h0 := mid_TT hv hs ha
  rw [e, TT_sc] at h0
  have h0' : TT (eA s) (eB s) v = 0 := by omega
  have e1 : p.1 + q.1 = 2 * v.1 := congrArg Prod.fst e
  have e2 : p.2 + q.2 = 2 * v.2 := congrArg Prod.snd e
  have hl := ha.2.2.1
  exact adj_none hv hs ha hvl h0' (by unfold lexLt at *; omega) (by unfold lexLt at *; omega)
/-- strictly between the ends -/
theorem mid_in : mid p q ≠ sc 2 (eA s) ∧ mid p q ≠ sc 2 (eB s) ∧ OnS (mid p q) (sc 2 (eA s)) (sc 2 (eB s)) := by
  have o1 := (cutP_val hv hs ha.1).2.2
  have o2 := (cutP_val hv hs ha.2.1).2.2
  have kl := adj_kl hv hs ha
  have v1 := cutP_val hv hs ha.1
  have v2 := cutP_val hv hs ha.2.1
  have b1 := ((on_OnS v1.1 hs).1 v1.2).2
  have b2 := ((on_OnS v2.1 hs).1 v2.2).2
  refine ⟨fun e => ?_, fun e => ?_, mid_TT hv hs ha, ?_, ?_⟩
  · have e1 : p.1 + q.1 = 2 * (eA s).1 := congrArg Prod.fst e
    have e2 : p.2 + q.2 = 2 * (eA s).2 := congrArg Prod.snd e
    unfold ky at *; omega
  · have e1 : p.1 + q.1 = 2 * (eB s).1 := congrArg Prod.fst e
    have e2 : p.2 + q.2 = 2 * (eB s).2 := congrArg Prod.snd e
    unfold ky at *; omega
  · simp only [mid, sc]; omega
  · simp only [mid, sc]; omega
/-- an edge on which the middle lies runs along the segment -/
theorem mid_along {u w : P2} (hu : u ∈ l) (hw : w ∈ l) (hn : u ≠ w) (hc : ¬ Cr (eA s) (eB s) u w) (ho : OnS (mid p q) (sc 2 u) (sc 2 w)) : TT (eA s) (eB s) u = 0 ∧ TT (eA s) (eB s) w = 0 := by
  obtain ⟨n1, n2, o3⟩ := mid_in hv hs ha
  obtain ⟨m, N, a1, a2, a3, a4⟩ := on_par ho (mid_corner hv hs ha hu) (mid_corner hv hs ha hw)
  obtain ⟨m', N', b1, b2, b3, b4⟩ := on_par o3 n1 n2
  have e1 := par_tt a3 a4 (sc 2 (eA s)) (sc 2 (eB s))
  have e2 := par_tt b3 b4 (sc 2 u) (sc 2 w)
  rw [mid_TT hv hs ha, TT_sc, TT_sc] at e1
  rw [ho.1, TT_sc, TT_sc] at e2
  have f1 : (N - m) * TT (eA s) (eB s) u + m * TT (eA s) (eB s) w = 0 := by
    have : (N - m) * (2 * 2 * TT (eA s) (eB s) u) + m * (2 * 2 * TT (eA s) (eB s) w) = 4 * ((N - m) * TT (eA s) (eB s) u + m * TT (eA s) (eB s) w) := by grind
    omega
  have f2 : (N' - m') * TT u w (eA s) + m' * TT u w (eB s) = 0 := by
    have : (N' - m') * (2 * 2 * TT u w (eA s)) + m' * (2 * 2 * TT u w (eB s)) = 4 * ((N' - m') * TT u w (eA s) + m' * TT u w (eB s)) := by grind
    omega
  clear e1 e2 a3 a4 b3 b4
  have opp : ∀ {x y a b : Int}, 0 < x → 0 < y → x * a + y * b = 0 → (a = 0 ∧ b = 0) ∨ a * b < 0 := by
    intro x y a b hx hy h
    rcases Int.lt_trichotomy a 0 with g | g | g
    · right
      have h1 : x * a < 0 := Int.mul_neg_of_pos_of_neg hx g
      have h2 : 0 < y * b := by omega
      exact Int.mul_neg_of_neg_of_pos g ((pos_iff hy).1 h2)
    · left; subst g; rw [Int.mul_zero, Int.zero_add] at h; exact ⟨rfl, (Int.mul_eq_zero.1 h).resolve_left (by omega)⟩
    · right
      have h1 : 0 < x * a := Int.mul_pos hx g
      have h2 : y * b < 0 := by omega
      have h3 : b < 0 := neg_of hy h2
      exact Int.mul_neg_of_pos_of_neg g h3
  rcases opp (by omega) a1 f1 with g | g
  · exact g
  · rcases opp (by omega) b1 f2 with k | k
    · exact line2 hn k.1 k.2
    · exact absurd ⟨g, k⟩ hc
/-- off the border at an end: nothing is met up to the middle -/
theorem mid_free {a b : P2} (hab : (a = p ∧ b = q) ∨ (a = q ∧ b = p)) (hc : ∀ e ∈ EE l, ¬ Cr (eA s) (eB s) e.1 e.2) (hne : ∀ e ∈ EE l, e.1 ≠ e.2) (hab2 : a = eA s ∨ a = eB s) (ho : ¬ OnB l a) :
    Free (l.map (sc 2)) (sc 2 a) (mid p q) ∧ ¬ OnB (l.map (sc 2)) (mid p q) := by
  have v1 := cutP_val hv hs ha.1
  have v2 := cutP_val hv hs ha.2.1
  have va : valid a ∧ onS a s := by rcases hab with ⟨rfl, _⟩ | ⟨rfl, _⟩ <;> assumption
  have hl := ha.2.2.1
  obtain ⟨n1, n2, o3⟩ := mid_in hv hs ha
  have ta : TT (eA s) (eB s) a = 0 := va.2.1
  have hs3 := okSeg_iff.1 hs
  have off : ∀ e ∈ EE l, ¬ OnS (mid p q) (sc 2 e.1) (sc 2 e.2) := by
    intro e he hm
    obtain ⟨m1, m2⟩ := edge_mem (u := e.1) (w := e.2) he
    obtain ⟨z1, z2⟩ := mid_along hv hs ha m1 m2 (hne e he) (hc e he) hm
    have na : ¬ OnS a e.1 e.2 := fun g => ho ⟨e, he, g⟩
    have hz : TT e.1 e.2 a = 0 := by
      have g := line2 (u := eA s) (w := eB s) hs3.2.2 z1 z2
      exact (line2 (a := e.1) (b := e.2) (u := eA s) (w := eB s) hs3.2.2 z1 z2) |> fun _ => by
        rcases hab2 with rfl | rfl
        · exact g.1
        · exact g.2
    have c1 : ¬ (lexLt p e.1 ∧ lexLt e.1 q) := fun g => adj_none hv hs ha m1 z1 g.1 g.2
    have c2 : ¬ (lexLt p e.2 ∧ lexLt e.2 q) := fun g => adj_none hv hs ha m2 z2 g.1 g.2
    have w1 := hv _ m1
    have w2 := hv _ m2
    obtain ⟨_, hx, hy⟩ := hm
    have hl1 : lx e.1 e.2 ∨ lx e.2 e.1 := lx_total _ _
    -- the middle in the order of the line
    have hml : ∀ {c d : P2}, valid c → valid d → lx c d → TT (sc 2 c) (sc 2 d) (mid p q) = 0 → (min (sc 2 c).1 (sc 2 d).1 ≤ (mid p q).1 ∧ (mid p q).1 ≤ max (sc 2 c).1 (sc 2 d).1) → (min (sc 2 c).2 (sc 2 d).2 ≤ (mid p q).2 ∧ (mid p q).2 ≤ max (sc 2 c).2 (sc 2 d).2) → lx (sc 2 c) (mid p q) ∧ lx (mid p q) (sc 2 d) := by
      intro c d vc vd hcd ht bx bY
      obtain ⟨tx, ty⟩ := (on_asc (a := (sc 2 c).1) (b := (sc 2 c).2) (c := (sc 2 d).1) (d := (sc 2 d).2) (p := (mid p q).1) (q := (mid p q).2) (by simp only [sc]; unfold lx at hcd; omega) (by unfold TT at ht; omega)).2 ⟨bx, bY⟩
      unfold lx; omega
    rcases hl1 with g | g
    · obtain ⟨t1, t2⟩ := hml w1 w2 g (by assumption) hx hy
      have k1 : ¬ lx e.1 a ∨ ¬ lx a e.2 := by
        apply Classical.byContradiction; intro gg
        have gg' : lx e.1 a ∧ lx a e.2 := by
          constructor <;> (apply Classical.byContradiction; intro q; exact gg (by first | exact Or.inl q | exact Or.inr q))
        exact na (ons_lex hz gg'.1 gg'.2)
      simp only [lx, sc, mid] at t1 t2 k1
      unfold lexLt at *
      rcases hab with ⟨rfl, rfl⟩ | ⟨rfl, rfl⟩ <;> omega
    · obtain ⟨t1, t2⟩ := hml w2 w1 g (by rename_i hh; have : TT (sc 2 e.2) (sc 2 e.1) (mid p q) = - TT (sc 2 e.1) (sc 2 e.2) (mid p q) := tt_swap _ _ _; rw [this]; omega) (by omega) (by omega)
      have k1 : ¬ lx e.2 a ∨ ¬ lx a e.1 := by
        apply Classical.byContradiction; intro gg
        have gg' : lx e.2 a ∧ lx a e.1 := by
          constructor <;> (apply Classical.byContradiction; intro q; exact gg (by first | exact Or.inl q | exact Or.inr q))
        exact na (ons_swap (ons_lex (by rw [tt_swap, hz]; rfl) gg'.1 gg'.2))
      simp only [lx, sc, mid] at t1 t2 k1
      unfold lexLt at *
      rcases hab with ⟨rfl, rfl⟩ | ⟨rfl, rfl⟩ <;> omega
  refine ⟨fun e he => ?_, ?_⟩
  · rw [EE_map] at he
    obtain ⟨f, hf, rfl⟩ := List.mem_map.1 he
    obtain ⟨m1, m2⟩ := edge_mem (u := f.1) (w := f.2) hf
    have corner : ∀ v ∈ l, ¬ OnS (sc 2 v) (sc 2 a) (mid p q) := by
      intro v hvl g
      have hva : v ≠ a := by
        rintro rfl
        obtain ⟨k, hk, rfl⟩ := pt_mem.1 hvl
        exact ho ⟨_, EE_mem.2 ⟨k, hk, rfl⟩, ons_end1 _ _⟩
      have hvm := mid_corner hv hs ha hvl
      have hz : TT (eA s) (eB s) v = 0 := by
        have g0 := g.1
        have hne : sc 2 a ≠ mid p q := by
          rcases hab2 with rfl | rfl
          · exact n1.symm
          · exact n2.symm
        have ha2 : TT (sc 2 (eA s)) (sc 2 (eB s)) (sc 2 a) = 0 := by rw [TT_sc, ta]; rfl
        have := line2 (u := sc 2 a) (w := mid p q) (a := sc 2 v) (b := sc 2 v) hne g0 g0
        -- three points of one line
        have q1 : TT (sc 2 a) (mid p q) (sc 2 (eA s)) = 0 ∧ TT (sc 2 a) (mid p q) (sc 2 (eB s)) = 0 := by
          have hAB : sc 2 (eA s) ≠ sc 2 (eB s) := fun h => hs3.2.2 (sc_inj (by omega) h)
          exact line2 hAB ha2 (mid_TT hv hs ha)
        have r1 := line2 hne q1.1 q1.2
        have q2 : TT (sc 2 (eA s)) (sc 2 (eB s)) (sc 2 v) = 0 := by
          have d1 : (( mid p q).1 - (sc 2 a).1) * TT (sc 2 (eA s)) (sc 2 (eB s)) (sc 2 v) = 0 := by
            have := q1.1; have := q1.2; unfold TT at *; grind
          have d2 : (( mid p q).2 - (sc 2 a).2) * TT (sc 2 (eA s)) (sc 2 (eB s)) (sc 2 v) = 0 := by
            have := q1.1; have := q1.2; unfold TT at *; grind
          have hn' : (mid p q).1 - (sc 2 a).1 ≠ 0 ∨ (mid p q).2 - (sc 2 a).2 ≠ 0 := by
            apply Classical.byContradiction; intro gg
            apply hne; apply Prod.ext <;> omega
          rcases hn' with gg | gg
          · exact (Int.mul_eq_zero.1 d1).resolve_left gg
          · exact (Int.mul_eq_zero.1 d2).resolve_left gg
        rw [TT_sc] at q2; omega
      have w1 := hv _ hvl
      obtain ⟨g0, gx, gy⟩ := g
      have hva' : v.1 ≠ a.1 ∨ v.2 ≠ a.2 := by
        apply Classical.byContradiction; intro gg; exact hva (Prod.ext (by omega) (by omega))
      have hvm' : 2 * v.1 ≠ p.1 + q.1 ∨ 2 * v.2 ≠ p.2 + q.2 := by
        apply Classical.byContradiction; intro gg; exact hvm (Prod.ext (by simp only [mid, sc]; omega) (by simp only [mid, sc]; omega))
      rcases hab with ⟨rfl, rfl⟩ | ⟨rfl, rfl⟩
      · obtain ⟨tx, ty⟩ := (on_asc (a := (sc 2 a).1) (b := (sc 2 a).2) (c := (mid a b).1) (d := (mid a b).2) (p := (sc 2 v).1) (q := (sc 2 v).2) (by simp only [sc, mid]; unfold lexLt at hl; omega) (by unfold TT at g0; omega)).2 ⟨gx, gy⟩
        simp only [sc, mid] at tx ty
        exact adj_none hv hs ha hvl hz (by unfold lexLt at *; omega) (by unfold lexLt at *; omega)
      · have g0' : TT (mid b a) (sc 2 a) (sc 2 v) = 0 := by rw [tt_swap, g0]; rfl
        obtain ⟨tx, ty⟩ := (on_asc (a := (mid b a).1) (b := (mid b a).2) (c := (sc 2 a).1) (d := (sc 2 a).2) (p := (sc 2 v).1) (q := (sc 2 v).2) (by simp only [sc, mid]; unfold lexLt at hl; omega) (by unfold TT at g0'; omega)).2 ⟨by omega, by omega⟩
        simp only [sc, mid] at tx ty
        exact adj_none hv hs ha hvl hz (by unfold lexLt at *; omega) (by unfold lexLt at *; omega)
    refine ⟨⟨fun g => ho ⟨f, hf, (ons_sc (by omega)).1 g⟩, off f hf, corner _ m1, corner _ m2⟩, fun g => ?_⟩
    have hc' := hc f hf
    rcases hab2 with rfl | rfl
    · exact hc' (cr_swap' ((cr_sc (by omega)).1 (cr_sub (ons_swap (ons_swap o3) |> fun h => ons_swap (ons_swap h)) n1 (cr_swap' g))))
    · exact hc' ((cr_sc (by omega)).1 (cr_sub (ons_swap o3) n2 (cr_swap' g)))
  · rintro ⟨e, he, g⟩
    rw [EE_map] at he
    obtain ⟨f, hf, rfl⟩ := List.mem_map.1 he
    exact off f hf g
end
section
variable {l : List P2} {s : S4}
theorem where_iff (l : List P2) (p : P2) : whereI l p.1 p.2 ≠ 0 ↔ (OnB l p ∨ oddTo (edgesL l) p.1 p.2 l.length = true) := by
  rw [← any_onB]
  unfold whereI
  split
  · rename_i g; simp [g]
  · rename_i g
    split
    · rename_i h; simp [h]
    · rename_i h; simp [g, h]
theorem odd_w (l : List P2) (p : P2) : oddTo (edgesL l) p.1 p.2 l.length = decide (wind l p % 2 ≠ 0) := by
  have ho := odd_wind l p l.length (Nat.le_refl _)
  have hw : wind l p = ((List.range l.length).map fun i => ps (ptAt l i) (ptAt l ((i + 1) % l.length)) p).sum := by
    unfold wind; rw [EE_idx, List.map_map]; rfl
  rw [← hw] at ho; exact ho
/-- the ends are points of the polygon where the middles are -/
theorem within_end (hv : ∀ p, p ∈ l → valid p) (hs : okSeg s = true) (hc : ∀ e ∈ EE l, ¬ Cr (eA s) (eB s) e.1 e.2) (hne : ∀ e ∈ EE l, e.1 ≠ e.2)
    (h : ∀ p q, Adj (cutP l s) p q → whereI (l.map (sc 2)) (mid p q).1 (mid p q).2 ≠ 0) {a : P2} (ha : a = eA s ∨ a = eB s) : whereI l a.1 a.2 ≠ 0 := by
  intro h0
  have hs3 := okSeg_iff.1 hs
  have mA : eA s ∈ cutP l s := ((cutP_spec hv hs).2 _).2 (.inl rfl)
  have mB : eB s ∈ cutP l s := ((cutP_spec hv hs).2 _).2 (.inr (.inl rfl))
  have hx : ∃ p q, Adj (cutP l s) p q ∧ (a = p ∨ a = q) := by
    have ma : a ∈ cutP l s := by rcases ha with rfl | rfl <;> assumption
    obtain ⟨i, hi, ei⟩ := mem_ptAt ma
    by_cases g : i + 1 < (cutP l s).length
    · exact ⟨_, _, (adj_idx hv hs).2 ⟨i, g, rfl, rfl⟩, .inl ei⟩
    · have : 0 < i := by
        obtain ⟨j, hj, ej⟩ := mem_ptAt mA
        obtain ⟨k, hk, ek⟩ := mem_ptAt mB
        have : j ≠ k := fun e => hs3.2.2 (by rw [ej, ek, e])
        omega
      refine ⟨_, _, (adj_idx hv hs).2 ⟨i - 1, by omega, rfl, rfl⟩, .inr ?_⟩
      rw [show i - 1 + 1 = i by omega]; exact ei
  obtain ⟨p, q, hadj, hpq⟩ := hx
  have hno : ¬ OnB l a := fun g => (where_iff l a).2 (.inl g) h0
  have hod : ¬ oddTo (edgesL l) a.1 a.2 l.length = true := fun g => (where_iff l a).2 (.inr g) h0
  have hab : ∃ b, (a = p ∧ b = q) ∨ (a = q ∧ b = p) := by
    rcases hpq with rfl | rfl
    · exact ⟨q, .inl ⟨rfl, rfl⟩⟩
    · exact ⟨p, .inr ⟨rfl, rfl⟩⟩
  obtain ⟨b, hab⟩ := hab
  obtain ⟨f1, f2⟩ := mid_free hv hs hadj hab hc hne ha hno
  have hw := wind_const f1
  rw [wind_sc (by omega)] at hw
  rcases (where_iff _ (mid p q)).1 (h p q hadj) with g | g
  · exact f2 g
  · rw [odd_w, ← hw, ← odd_w] at g; exact hod g
/-- a part of the way -/
def FrOf (s : S4) (p : P2) (f : Int × Int) : Prop := 0 < f.2 ∧ f.2 ≤ 10000 ∧ f.2 * (p.1 - (eA s).1) = f.1 * ((eB s).1 - (eA s).1) ∧ f.2 * (p.2 - (eA s).2) = f.1 * ((eB s).2 - (eA s).2)
def kd (s : S4) : Int := ky 1 (eB s) - ky 1 (eA s)
theorem FrOf.kyE {p : P2} {f : Int × Int} (h : FrOf s p f) : f.2 * (ky 1 p - ky 1 (eA s)) = f.1 * kd s := by
  obtain ⟨_, _, h1, h2⟩ := h; unfold kd ky; grind
def dirLt (s : S4) (p q : P2) : Prop := (0 < kd s ∧ ky 1 p < ky 1 q) ∨ (kd s < 0 ∧ ky 1 q < ky 1 p)
theorem sgn3 {a b c d : Int} (hc : 0 < c) (h : a * b = c * d) : (0 < b → (0 < a ↔ 0 < d)) ∧ (b < 0 → (0 < a ↔ d < 0)) := by
  have s1 := sgn_pos (a := d) hc
  rw [← h] at s1
  constructor
  · intro hb
    have s2 := sgn_pos (a := a) hb
    rw [Int.mul_comm b a] at s2
    exact s2.1.symm.trans s1.1
  · intro hb
    have s2 := sgn_pos (a := a) (show 0 < -b by omega)
    have e : -b * a = -(a * b) := by grind
    rw [e] at s2
    have : 0 < a ↔ a * b < 0 := by rw [← s2.1]; omega
    exact this.trans s1.2.1
theorem fr_lt {p q : P2} {f g : Int × Int} (hk : kd s ≠ 0) (h1 : FrOf s p f) (h2 : FrOf s q g) : g.1 * f.2 > f.1 * g.2 ↔ dirLt s p q := by
  have k1 := h1.kyE
  have k2 := h2.kyE
  have e : (g.1 * f.2 - f.1 * g.2) * kd s = (f.2 * g.2) * (ky 1 q - ky 1 p) := by
    have : (g.1 * f.2 - f.1 * g.2) * kd s = f.2 * (g.1 * kd s) - g.2 * (f.1 * kd s) := by grind
    rw [this, ← k1, ← k2]; grind
  have s3 := sgn3 (Int.mul_pos h1.1 h2.1) e
  unfold dirLt
  rcases Int.lt_or_gt_of_ne hk with g0 | g0
  · have := s3.2 g0; omega
  · have := s3.1 g0; omega
/-- the nearest part behind, as the reference looks for it: (is there one, which) -/
def nxStep (F : List (Int × Int)) (i : Nat) (st : Bool × Int × Int) (k : Nat) : Bool × Int × Int :=
  if decide ((F.getD k (0, 0)).1 * (F.getD i (0, 0)).2 > (F.getD i (0, 0)).1 * (F.getD k (0, 0)).2) && (!st.1 || decide ((F.getD k (0, 0)).1 * st.2.2 < st.2.1 * (F.getD k (0, 0)).2)) then (true, F.getD k (0, 0)) else st
def nxTo (F : List (Int × Int)) (i : Nat) : Nat → Bool × Int × Int
  | 0 => (false, 0, 0)
  | k + 1 => nxStep F i (nxTo F i k) k
theorem nx_spec {S : List P2} {F : List (Int × Int)} (hk : kd s ≠ 0) (hF : ∀ k, k < S.length → FrOf s (ptAt S k) (F.getD k (0, 0))) {i : Nat} (hi : i < S.length) : ∀ k, k ≤ S.length →
    ((nxTo F i k).1 = false → ∀ j, j < k → ¬ dirLt s (ptAt S i) (ptAt S j)) ∧ ((nxTo F i k).1 = true → ∃ j, j < k ∧ (nxTo F i k).2 = F.getD j (0, 0) ∧ dirLt s (ptAt S i) (ptAt S j) ∧ ∀ j', j' < k → dirLt s (ptAt S i) (ptAt S j') → ¬ dirLt s (ptAt S j') (ptAt S j))
  | 0, _ => ⟨fun _ j hj => by omega, fun h => by simp [nxTo] at h⟩
  | k + 1, h => by
    obtain ⟨i1, i2⟩ := nx_spec hk hF hi k (by omega)
    have hFk := hF k (by omega)
    have hFi := hF i hi
    have b1 := fr_lt hk hFi hFk
    simp only [nxTo]
    generalize hst : nxTo F i k = st at *
    unfold nxStep
    by_cases c1 : (F.getD k (0, 0)).1 * (F.getD i (0, 0)).2 > (F.getD i (0, 0)).1 * (F.getD k (0, 0)).2
    · rw [decide_eq_true c1, Bool.true_and]
      have c1' := b1.1 c1
      cases hs1 : st.1 with
      | false =>
        rw [show (!false || decide ((F.getD k (0, 0)).1 * st.2.2 < st.2.1 * (F.getD k (0, 0)).2)) = true from rfl, if_pos rfl]
        refine ⟨fun h => (by cases h), fun _ => ⟨k, by omega, rfl, c1', fun j' hj' hd => ?_⟩⟩
        by_cases e : j' = k
        · subst e; unfold dirLt; omega
        · exact absurd hd (i1 hs1 j' (by omega))
      | true =>
        obtain ⟨j, hj, ej, hd, hm⟩ := i2 hs1
        have hFj := hF j (by omega)
        have b2 := fr_lt hk hFk hFj
        rw [← ej] at b2
        rw [show (!true || decide ((F.getD k (0, 0)).1 * st.2.2 < st.2.1 * (F.getD k (0, 0)).2)) = decide ((F.getD k (0, 0)).1 * st.2.2 < st.2.1 * (F.getD k (0, 0)).2) from rfl]
        by_cases c2 : (F.getD k (0, 0)).1 * st.2.2 < st.2.1 * (F.getD k (0, 0)).2
        · rw [decide_eq_true c2, if_pos rfl]
          have c2' := b2.1 c2
          refine ⟨fun h => (by cases h), fun _ => ⟨k, by omega, rfl, c1', fun j' hj' hd' => ?_⟩⟩
          by_cases e : j' = k
          · subst e; unfold dirLt; omega
          · have := hm j' (by omega) hd'
            unfold dirLt at *; omega
        · rw [decide_eq_false c2, if_neg (by simp)]
          have c2' : ¬ dirLt s (ptAt S k) (ptAt S j) := fun g => c2 (b2.2 g)
          refine ⟨fun h => (by rw [hs1] at h; cases h), fun _ => ⟨j, by omega, ej, hd, fun j' hj' hd' => ?_⟩⟩
          by_cases e : j' = k
          · subst e; exact c2'
          · exact hm j' (by omega) hd'
    · rw [decide_eq_false c1, Bool.false_and, if_neg (by simp)]
      have c1' : ¬ dirLt s (ptAt S i) (ptAt S k) := fun g => c1 (b1.2 g)
      refine ⟨fun h j hj => ?_, fun h => ?_⟩
      · by_cases e : j = k
        · subst e; exact c1'
        · exact i1 h j (by omega)
      · obtain ⟨j, hj, ej, hd, hm⟩ := i2 h
        refine ⟨j, by omega, ej, hd, fun j' hj' hd' => ?_⟩
        by_cases e : j' = k
        · subst e; exact absurd hd' c1'
        · exact hm j' (by omega) hd'
/-- what the reference asks of the middle -/
def midX (s : S4) (num den : Int) : P2 := (s.1 * den + (s.2.2.1 - s.1) * num, s.2.1 * den + (s.2.2.2 - s.2.1) * num)
def alongB (l : List P2) (s : S4) (num den : Int) (k : Nat) : Bool :=
  (turnI s.1 s.2.1 s.2.2.1 s.2.2.2 (px l k) (py l k) == 0) && (turnI s.1 s.2.1 s.2.2.1 s.2.2.2 (px l ((k + 1) % l.length)) (py l ((k + 1) % l.length)) == 0) && btwB (midX s num den).1 (px l k * den) (px l ((k + 1) % l.length) * den) && btwB (midX s num den).2 (py l k * den) (py l ((k + 1) % l.length) * den)
def middleB (l : List P2) (s : S4) (num den : Int) : Bool := (List.range l.length).any (alongB l s num den) || oddTo (edgesL (l.map (sc den))) (midX s num den).1 (midX s num den).2 l.length
set_option maxHeartbeats 4000000 in
theorem middle_iff (hv : ∀ p, p ∈ l → valid p) (hs : okSeg s = true) (hc : ∀ e ∈ EE l, ¬ Cr (eA s) (eB s) e.1 e.2) (hne : ∀ e ∈ EE l, e.1 ≠ e.2) {p q : P2} (ha : Adj (cutP l s) p q) {f g : Int × Int}
    (hfg : (FrOf s p f ∧ FrOf s q g) ∨ (FrOf s q f ∧ FrOf s p g)) : middleB l s (f.1 * g.2 + g.1 * f.2) (2 * f.2 * g.2) = true ↔ whereI (l.map (sc 2)) (mid p q).1 (mid p q).2 ≠ 0 := by
  have hk : 0 < f.2 * g.2 := by rcases hfg with h | h <;> exact Int.mul_pos h.1.1 h.2.1
  have hm : midX s (f.1 * g.2 + g.1 * f.2) (2 * f.2 * g.2) = sc (f.2 * g.2) (mid p q) := by
    have one : ∀ (a b x y f1 f2 g1 g2 : Int), f2 * (x - a) = f1 * (b - a) → g2 * (y - a) = g1 * (b - a) → a * (2 * f2 * g2) + (b - a) * (f1 * g2 + g1 * f2) = f2 * g2 * (x + y) := by
      intro a b x y f1 f2 g1 g2 h1 h2
      have e : f2 * g2 * (x + y) = g2 * (f2 * (x - a)) + f2 * (g2 * (y - a)) + 2 * f2 * g2 * a := by grind
      rw [e, h1, h2]; grind
    unfold midX sc mid
    rcases hfg with ⟨⟨_, _, a1, a2⟩, ⟨_, _, b1, b2⟩⟩ | ⟨⟨_, _, a1, a2⟩, ⟨_, _, b1, b2⟩⟩
    · exact Prod.ext (one _ _ _ _ _ _ _ _ a1 b1) (one _ _ _ _ _ _ _ _ a2 b2)
    · refine Prod.ext ?_ ?_
      · show _ = f.2 * g.2 * (p.1 + q.1); rw [Int.add_comm p.1]; exact one _ _ _ _ _ _ _ _ a1 b1
      · show _ = f.2 * g.2 * (p.2 + q.2); rw [Int.add_comm p.2]; exact one _ _ _ _ _ _ _ _ a2 b2
  have hl2 : l.map (sc (2 * f.2 * g.2)) = (l.map (sc 2)).map (sc (f.2 * g.2)) := by
    rw [map_sc_sc]; congr 2; grind
  have hodd : oddTo (edgesL (l.map (sc (2 * f.2 * g.2)))) (midX s (f.1 * g.2 + g.1 * f.2) (2 * f.2 * g.2)).1 (midX s (f.1 * g.2 + g.1 * f.2) (2 * f.2 * g.2)).2 l.length = oddTo (edgesL (l.map (sc 2))) (mid p q).1 (mid p q).2 (l.map (sc 2)).length := by
    rw [hm, odd_w, ← wind_sc hk, ← hl2, ← odd_w, List.length_map]
  rw [where_iff]
  unfold middleB
  rw [hodd, Bool.or_eq_true, List.any_eq_true]
  refine or_congr ?_ Iff.rfl
  have box : ∀ x a b : Int, btwB ((f.2 * g.2) * x) (a * (2 * f.2 * g.2)) (b * (2 * f.2 * g.2)) = true ↔ (min (2 * a) (2 * b) ≤ x ∧ x ≤ max (2 * a) (2 * b)) := by
    intro x a b
    have e1 : a * (2 * f.2 * g.2) = (f.2 * g.2) * (2 * a) := by grind
    have e2 : b * (2 * f.2 * g.2) = (f.2 * g.2) * (2 * b) := by grind
    rw [e1, e2]
    generalize f.2 * g.2 = K at hk
    have mle : ∀ y z : Int, K * y ≤ K * z ↔ y ≤ z := fun y z => ⟨fun h => Int.le_of_mul_le_mul_left h hk, fun h => Int.mul_le_mul_of_nonneg_left h (by omega)⟩
    unfold btwB
    rw [Bool.and_eq_true, decide_eq_true_iff, decide_eq_true_iff]
    have h1 := mle (2 * a) x
    have h2 := mle (2 * b) x
    have h3 := mle x (2 * a)
    have h4 := mle x (2 * b)
    omega
  have alg : ∀ k, k < l.length → (alongB l s (f.1 * g.2 + g.1 * f.2) (2 * f.2 * g.2) k = true ↔ (TT (eA s) (eB s) (ptAt l k) = 0 ∧ TT (eA s) (eB s) (ptAt l ((k + 1) % l.length)) = 0) ∧ ((min (2 * (ptAt l k).1) (2 * (ptAt l ((k + 1) % l.length)).1) ≤ (mid p q).1 ∧ (mid p q).1 ≤ max (2 * (ptAt l k).1) (2 * (ptAt l ((k + 1) % l.length)).1)) ∧ (min (2 * (ptAt l k).2) (2 * (ptAt l ((k + 1) % l.length)).2) ≤ (mid p q).2 ∧ (mid p q).2 ≤ max (2 * (ptAt l k).2) (2 * (ptAt l ((k + 1) % l.length)).2)))) := by
    intro k hk1
    unfold alongB
    rw [hm]
    simp only [Bool.and_eq_true, beq_iff_eq]
    rw [turn_zero, turn_zero]
    have b1 := box (mid p q).1 (px l k) (px l ((k + 1) % l.length))
    have b2 := box (mid p q).2 (py l k) (py l ((k + 1) % l.length))
    simp only [sc]
    rw [b1, b2, and_assoc]
    rfl
  constructor
  · rintro ⟨k, hk1, hh⟩
    rw [List.mem_range] at hk1
    obtain ⟨⟨t1, t2⟩, h1, h2⟩ := (alg k hk1).1 hh
    refine ⟨(sc 2 (ptAt l k), sc 2 (ptAt l ((k + 1) % l.length))), ?_, ?_, h1, h2⟩
    · rw [EE_map]; exact List.mem_map.2 ⟨_, EE_mem.2 ⟨k, hk1, rfl⟩, rfl⟩
    · have hs3 := okSeg_iff.1 hs
      have hAB : sc 2 (eA s) ≠ sc 2 (eB s) := fun h => hs3.2.2 (sc_inj (by omega) h)
      have hM := mid_TT hv hs ha
      have r1 := line2 (u := sc 2 (eA s)) (w := sc 2 (eB s)) (a := sc 2 (ptAt l k)) (b := sc 2 (ptAt l ((k + 1) % l.length))) hAB (by rw [TT_sc, t1]; rfl) (by rw [TT_sc, t2]; rfl)
      have t1' : TT (sc 2 (eA s)) (sc 2 (eB s)) (sc 2 (ptAt l k)) = 0 := by rw [TT_sc, t1]; rfl
      have t2' : TT (sc 2 (eA s)) (sc 2 (eB s)) (sc 2 (ptAt l ((k + 1) % l.length))) = 0 := by rw [TT_sc, t2]; rfl
      generalize sc 2 (ptAt l k) = U at *
      generalize sc 2 (ptAt l ((k + 1) % l.length)) = W at *
      generalize sc 2 (eA s) = A at *
      generalize sc 2 (eB s) = B at *
      generalize mid p q = M at *
      show TT U W M = 0
      have d1 : (B.1 - A.1) * TT U W M = 0 := by unfold TT at *; grind
      have d2 : (B.2 - A.2) * TT U W M = 0 := by unfold TT at *; grind
      have hn' : B.1 - A.1 ≠ 0 ∨ B.2 - A.2 ≠ 0 := by
        apply Classical.byContradiction; intro gg
        apply hAB; apply Prod.ext <;> omega
      rcases hn' with gg | gg
      · exact (Int.mul_eq_zero.1 d1).resolve_left gg
      · exact (Int.mul_eq_zero.1 d2).resolve_left gg
  · rintro ⟨e, he, ho⟩
    rw [EE_map] at he
    obtain ⟨f', hf', rfl⟩ := List.mem_map.1 he
    obtain ⟨k, hk1, rfl⟩ := EE_mem.1 hf'
    obtain ⟨m1, m2⟩ := edge_mem hf'
    have n1 : ptAt l k ≠ ptAt l ((k + 1) % l.length) := hne _ hf'
    have n2 : ¬ Cr (eA s) (eB s) (ptAt l k) (ptAt l ((k + 1) % l.length)) := hc _ hf'
    have ho' : OnS (mid p q) (sc 2 (ptAt l k)) (sc 2 (ptAt l ((k + 1) % l.length))) := ho
    have al := alg k hk1
    clear alg box hodd
    generalize ptAt l k = u at *
    generalize ptAt l ((k + 1) % l.length) = w at *
    have z := mid_along hv hs ha m1 m2 n1 n2 ho'
    refine ⟨k, List.mem_range.2 hk1, al.2 ⟨z, ?_⟩⟩
    have hb := ho'.2
    simp only [sc] at hb
    exact hb
end
section
variable {l : List P2} {s : S4}
/-- the part of the way at which a corner on the segment lies -/
def frP1 (s : S4) (p : P2) : Int × Int := if s.2.2.1 - s.1 ≠ 0 then ((p.1 - s.1) * Int.sign (s.2.2.1 - s.1), (s.2.2.1 - s.1) * Int.sign (s.2.2.1 - s.1)) else ((p.2 - s.2.1) * Int.sign (s.2.2.2 - s.2.1), (s.2.2.2 - s.2.1) * Int.sign (s.2.2.2 - s.2.1))
def frTo (l : List P2) (s : S4) : Nat → List (Int × Int)
  | 0 => [(0, 1), (1, 1)]
  | k + 1 => if onB (px l k) (py l k) s.1 s.2.1 s.2.2.1 s.2.2.2 then frTo l s k ++ [frP1 s (px l k, py l k)] else frTo l s k
theorem sign_abs {d : Int} (h : d ≠ 0) (h1 : -10000 ≤ d) (h2 : d ≤ 10000) : 0 < d * Int.sign d ∧ d * Int.sign d ≤ 10000 := by
  rcases Int.lt_or_gt_of_ne h with g | g
  · rw [Int.sign_eq_neg_one_of_neg g]; omega
  · rw [Int.sign_eq_one_of_pos g]; omega
theorem frP1_of (hs : okSeg s = true) {p : P2} (ho : onS p s) : FrOf s p (frP1 s p) := by
  obtain ⟨hA, hB, hn⟩ := okSeg_iff.1 hs
  have h0 : (s.2.2.1 - s.1) * (p.2 - s.2.1) - (s.2.2.2 - s.2.1) * (p.1 - s.1) = 0 := ho.1
  unfold valid eA eB at *
  simp only at *
  unfold frP1 FrOf eA eB
  by_cases hd : s.2.2.1 - s.1 ≠ 0
  · rw [if_pos hd]
    obtain ⟨a, b⟩ := sign_abs hd (by omega) (by omega)
    refine ⟨a, b, ?_, ?_⟩
    · show (s.2.2.1 - s.1) * Int.sign (s.2.2.1 - s.1) * (p.1 - s.1) = (p.1 - s.1) * Int.sign (s.2.2.1 - s.1) * (s.2.2.1 - s.1); grind
    · show (s.2.2.1 - s.1) * Int.sign (s.2.2.1 - s.1) * (p.2 - s.2.1) = (p.1 - s.1) * Int.sign (s.2.2.1 - s.1) * (s.2.2.2 - s.2.1)
      generalize Int.sign (s.2.2.1 - s.1) = S
      have : (s.2.2.1 - s.1) * S * (p.2 - s.2.1) - (p.1 - s.1) * S * (s.2.2.2 - s.2.1) = S * ((s.2.2.1 - s.1) * (p.2 - s.2.1) - (s.2.2.2 - s.2.1) * (p.1 - s.1)) := by grind
      rw [h0] at this; omega
  · rw [if_neg hd]
    have hx : s.2.2.1 - s.1 = 0 := by omega
    have hy : s.2.2.2 - s.2.1 ≠ 0 := fun g => hn (Prod.ext (by show s.1 = s.2.2.1; omega) (by show s.2.1 = s.2.2.2; omega))
    obtain ⟨a, b⟩ := sign_abs hy (by omega) (by omega)
    rw [hx, Int.zero_mul, Int.zero_sub] at h0
    have hp : p.1 - s.1 = 0 := by
      have : (s.2.2.2 - s.2.1) * (p.1 - s.1) = 0 := by omega
      exact (Int.mul_eq_zero.1 this).resolve_left hy
    refine ⟨a, b, ?_, ?_⟩
    · show (s.2.2.2 - s.2.1) * Int.sign (s.2.2.2 - s.2.1) * (p.1 - s.1) = (p.2 - s.2.1) * Int.sign (s.2.2.2 - s.2.1) * (s.2.2.1 - s.1)
      rw [hp, hx, Int.mul_zero, Int.mul_zero]
    · show (s.2.2.2 - s.2.1) * Int.sign (s.2.2.2 - s.2.1) * (p.2 - s.2.1) = (p.2 - s.2.1) * Int.sign (s.2.2.2 - s.2.1) * (s.2.2.2 - s.2.1); grind
theorem frTo_len (l : List P2) (s : S4) : ∀ k, (frTo l s k).length = (cutsTo l s.1 s.2.1 s.2.2.1 s.2.2.2 k).length
  | 0 => rfl
  | k + 1 => by
    simp only [frTo, cutsTo]
    split <;> simp [frTo_len l s k]
theorem frTo_of (hv : ∀ p, p ∈ l → valid p) (hs : okSeg s = true) : ∀ k, k ≤ l.length → ∀ i, i < (cutsTo l s.1 s.2.1 s.2.2.1 s.2.2.2 k).length → FrOf s (ptAt (cutsTo l s.1 s.2.1 s.2.2.1 s.2.2.2 k) i) ((frTo l s k).getD i (0, 0))
  | 0, _, i, hi => by
    have : i = 0 ∨ i = 1 := by simp [cutsTo] at hi; omega
    rcases this with rfl | rfl
    · refine ⟨by simp [frTo], by simp [frTo], ?_, ?_⟩ <;> simp [frTo, cutsTo, ptAt, px, py, eA, eB]
    · refine ⟨by simp [frTo], by simp [frTo], ?_, ?_⟩ <;> simp [frTo, cutsTo, ptAt, px, py, eA, eB]
  | k + 1, h, i, hi => by
    have ih := frTo_of hv hs k (by omega)
    have hl := frTo_len l s k
    simp only [frTo, cutsTo] at hi ⊢
    by_cases hc : onB (px l k) (py l k) s.1 s.2.1 s.2.2.1 s.2.2.2 = true
    · rw [if_pos hc] at hi ⊢
      rw [if_pos hc]
      have ho : onS (ptAt l k) s := (onR_iff (hv _ (ptAt_mem (by omega))) hs).1 (by rw [onR_eq]; exact hc)
      by_cases e : i < (cutsTo l s.1 s.2.1 s.2.2.1 s.2.2.2 k).length
      · have e1 : ptAt (cutsTo l s.1 s.2.1 s.2.2.1 s.2.2.2 k ++ [(px l k, py l k)]) i = ptAt (cutsTo l s.1 s.2.1 s.2.2.1 s.2.2.2 k) i := by
          unfold ptAt px py; simp only [List.getD_eq_getElem?_getD, List.getElem?_append_left e]
        have e2 : (frTo l s k ++ [frP1 s (px l k, py l k)]).getD i (0, 0) = (frTo l s k).getD i (0, 0) := by
          rw [List.getD_eq_getElem?_getD, List.getD_eq_getElem?_getD, List.getElem?_append_left (by rw [hl]; exact e)]
        rw [e1, e2]; exact ih i e
      · have ei : i = (cutsTo l s.1 s.2.1 s.2.2.1 s.2.2.2 k).length := by simp at hi; omega
        have e1 : ptAt (cutsTo l s.1 s.2.1 s.2.2.1 s.2.2.2 k ++ [(px l k, py l k)]) i = ptAt l k := by rw [ei]; exact ptAt_app _ _
        have e2 : (frTo l s k ++ [frP1 s (px l k, py l k)]).getD i (0, 0) = frP1 s (ptAt l k) := by
          rw [List.getD_eq_getElem?_getD, List.getElem?_append_right (by rw [hl]; omega), hl, ei]; simp; rfl
        rw [e1, e2]; exact frP1_of hs ho
    · rw [if_neg hc] at hi ⊢
      rw [if_neg hc]; exact ih i hi
theorem cutP_mem (hv : ∀ p, p ∈ l → valid p) (hs : okSeg s = true) (p : P2) : p ∈ cutsTo l s.1 s.2.1 s.2.2.1 s.2.2.2 l.length ↔ p ∈ cutP l s := by
  rw [(cutP_spec hv hs).2 p]
  obtain ⟨a, b, c, d⟩ := s
  rw [cutsTo_mem hv hs l.length (Nat.le_refl _) p]
  constructor
  · rintro (h | h | ⟨i, hi, he, ho⟩)
    · exact .inl h
    · exact .inr (.inl h)
    · exact .inr (.inr ⟨by rw [he]; exact ptAt_mem hi, ho⟩)
  · rintro (h | h | ⟨hm, ho⟩)
    · exact .inl h
    · exact .inr (.inl h)
    · obtain ⟨i, hi, he⟩ := mem_ptAt hm
      exact .inr (.inr ⟨i, hi, he, ho⟩)
/-- what the reference asks at the stop i -/
def stopB (l : List P2) (s : S4) (i : Nat) : Bool :=
  !(nxTo (frTo l s l.length) i (frTo l s l.length).length).1 ||
    middleB l s (((frTo l s l.length).getD i (0, 0)).1 * (nxTo (frTo l s l.length) i (frTo l s l.length).length).2.2 + (nxTo (frTo l s l.length) i (frTo l s l.length).length).2.1 * ((frTo l s l.length).getD i (0, 0)).2)
      (2 * ((frTo l s l.length).getD i (0, 0)).2 * (nxTo (frTo l s l.length) i (frTo l s l.length).length).2.2)
def NoCr (l : List P2) (s : S4) : Prop := ∀ e ∈ EE l, ¬ Cr (eA s) (eB s) e.1 e.2
/-- both ask the same -/
theorem within_eq (hv : ∀ p, p ∈ l → valid p) (hs : okSeg s = true) (hc : NoCr l s) (hne : ∀ e ∈ EE l, e.1 ≠ e.2) :
    (∀ j, j + 1 < (cutP l s).length → whereI (l.map (sc 2)) (mid (ptAt (cutP l s) j) (ptAt (cutP l s) (j + 1))).1 (mid (ptAt (cutP l s) j) (ptAt (cutP l s) (j + 1))).2 ≠ 0) ↔
    (whereI l (eA s).1 (eA s).2 ≠ 0 ∧ whereI l (eB s).1 (eB s).2 ≠ 0 ∧ ∀ i, i < (frTo l s l.length).length → stopB l s i = true) := by
  have hs3 := okSeg_iff.1 hs
  have hk : kd s ≠ 0 := fun e => hs3.2.2 (ky_inj hs3.1 hs3.2.1 (by unfold kd at e; omega))
  have hadj : (∀ j, j + 1 < (cutP l s).length → whereI (l.map (sc 2)) (mid (ptAt (cutP l s) j) (ptAt (cutP l s) (j + 1))).1 (mid (ptAt (cutP l s) j) (ptAt (cutP l s) (j + 1))).2 ≠ 0) ↔ (∀ p q, Adj (cutP l s) p q → whereI (l.map (sc 2)) (mid p q).1 (mid p q).2 ≠ 0) := by
    constructor
    · rintro h p q ha
      obtain ⟨j, hj, rfl, rfl⟩ := (adj_idx hv hs).1 ha
      exact h j hj
    · intro h j hj
      exact h _ _ ((adj_idx hv hs).2 ⟨j, hj, rfl, rfl⟩)
  rw [hadj]
  have hF := frTo_of hv hs l.length (Nat.le_refl _)
  have hlen := frTo_len l s l.length
  have hmem := cutP_mem hv hs
  have hlt : ∀ {x y : P2}, x ∈ cutP l s → y ∈ cutP l s → (lexLt x y ↔ ky 1 x < ky 1 y) := fun hx hy => ky_lt (cutP_val hv hs hx).1 (cutP_val hv hs hy).1
  unfold stopB
  rw [hlen]
  generalize hS : cutsTo l s.1 s.2.1 s.2.2.1 s.2.2.2 l.length = S at *
  generalize frTo l s l.length = F at *
  have spec := fun i (hi : i < S.length) => nx_spec (s := s) hk hF hi S.length (Nat.le_refl _)
  -- a nearest one behind is a neighbour
  have nb : ∀ i j, i < S.length → j < S.length → dirLt s (ptAt S i) (ptAt S j) → (∀ j', j' < S.length → dirLt s (ptAt S i) (ptAt S j') → ¬ dirLt s (ptAt S j') (ptAt S j)) → Adj (cutP l s) (ptAt S i) (ptAt S j) ∨ Adj (cutP l s) (ptAt S j) (ptAt S i) := by
    intro i j hi hj hd hm
    have mi := (hmem _).1 (ptAt_mem hi)
    have mj := (hmem _).1 (ptAt_mem hj)
    rcases Int.lt_or_gt_of_ne hk with g | g
    · right
      refine ⟨mj, mi, (hlt mj mi).2 (by unfold dirLt at hd; omega), fun r hr hh => ?_⟩
      obtain ⟨j', hj', rfl⟩ := mem_ptAt ((hmem _).2 hr)
      have a1 := (hlt mj hr).1 hh.1
      have a2 := (hlt hr mi).1 hh.2
      exact hm j' hj' (by unfold dirLt; omega) (by unfold dirLt; omega)
    · left
      refine ⟨mi, mj, (hlt mi mj).2 (by unfold dirLt at hd; omega), fun r hr hh => ?_⟩
      obtain ⟨j', hj', rfl⟩ := mem_ptAt ((hmem _).2 hr)
      have a1 := (hlt mi hr).1 hh.1
      have a2 := (hlt hr mj).1 hh.2
      exact hm j' hj' (by unfold dirLt; omega) (by unfold dirLt; omega)
  constructor
  · intro h
    refine ⟨within_end hv hs hc hne h (.inl rfl), within_end hv hs hc hne h (.inr rfl), fun i hi => ?_⟩
    obtain ⟨_, s2⟩ := spec i hi
    cases hst : (nxTo F i S.length).1 with
    | false => rfl
    | true =>
      obtain ⟨j, hj, ej, hd, hm⟩ := s2 hst
      rw [Bool.not_true, Bool.false_or, ej]
      have fi := hF i hi
      have fj := hF j hj
      rcases nb i j hi hj hd hm with ha | ha
      · exact (middle_iff hv hs hc hne ha (.inl ⟨fi, fj⟩)).2 (h _ _ ha)
      · exact (middle_iff hv hs hc hne ha (.inr ⟨fi, fj⟩)).2 (h _ _ ha)
  · rintro ⟨_, _, h⟩ p q ha
    obtain ⟨i, hi, rfl⟩ := mem_ptAt ((hmem _).2 ha.1)
    obtain ⟨j, hj, rfl⟩ := mem_ptAt ((hmem _).2 ha.2.1)
    have kl := adj_kl hv hs ha
    -- the one that comes first along the way
    have key : ∀ a b, a < S.length → b < S.length → dirLt s (ptAt S a) (ptAt S b) → (a = i ∧ b = j ∨ a = j ∧ b = i) → whereI (l.map (sc 2)) (mid (ptAt S i) (ptAt S j)).1 (mid (ptAt S i) (ptAt S j)).2 ≠ 0 := by
      intro a b la lb hd hab
      obtain ⟨s1, s2⟩ := spec a la
      have hh := h a la
      cases hst : (nxTo F a S.length).1 with
      | false => exact absurd hd (s1 hst b lb)
      | true =>
        obtain ⟨c, lc, ec, hdc, hm⟩ := s2 hst
        rw [hst, Bool.not_true, Bool.false_or, ec] at hh
        have c1 := hm b lb hd
        have mc := (hmem _).1 (ptAt_mem lc)
        have c2 : ¬ (lexLt (ptAt S i) (ptAt S c) ∧ lexLt (ptAt S c) (ptAt S j)) := ha.2.2.2 _ mc
        have k1 := hlt ha.1 mc
        have k2 := hlt mc ha.2.1
        rw [k1, k2] at c2
        have vc := cutP_val hv hs mc
        have kc : ky 1 (ptAt S c) = ky 1 (ptAt S b) := by
          unfold dirLt at hd hdc c1
          rcases hab with ⟨rfl, rfl⟩ | ⟨rfl, rfl⟩ <;> omega
        have mb := (hmem _).1 (ptAt_mem lb)
        have ecb : ptAt S c = ptAt S b := ky_inj vc.1 (cutP_val hv hs mb).1 kc
        have fa := hF a la
        have fc := hF c lc
        rw [ecb] at fc
        rcases hab with ⟨rfl, rfl⟩ | ⟨rfl, rfl⟩
        · exact (middle_iff hv hs hc hne ha (.inl ⟨fa, fc⟩)).1 hh
        · exact (middle_iff hv hs hc hne ha (.inr ⟨fa, fc⟩)).1 hh
    rcases Int.lt_or_gt_of_ne hk with g | g
    · exact key j i hj hi (by unfold dirLt; omega) (.inr ⟨rfl, rfl⟩)
    · exact key i j hi hj (by unfold dirLt; omega) (.inl ⟨rfl, rfl⟩)
end
theorem codeI_3 (k : Int) : codeI k ≠ 3 := by unfold codeI; split; omega; split <;> omega
theorem meet3 (e f : P2 × P2) : meetI e.1.1 e.1.2 e.2.1 e.2.2 f.1.1 f.1.2 f.2.1 f.2.2 = 3 ↔ Cr e.1 e.2 f.1 f.2 := by
  rw [cr_turn]
  unfold meetI
  generalize turnI e.1.1 e.1.2 e.2.1 e.2.2 f.1.1 f.1.2 = a
  generalize turnI e.1.1 e.1.2 e.2.1 e.2.2 f.2.1 f.2.2 = b
  generalize turnI f.1.1 f.1.2 f.2.1 f.2.2 e.1.1 e.1.2 = c
  generalize turnI f.1.1 f.1.2 f.2.1 f.2.2 e.2.1 e.2.2 = d
  split
  · rename_i h
    obtain ⟨rfl, rfl⟩ := h
    constructor
    · intro h; unfold onLineI at h; exact absurd h (codeI_3 _)
    · rintro ⟨h, _⟩; simp at h
  · generalize a * b = X
    generalize c * d = Y
    split
    · omega
    · split
      · omega
      · split <;> omega
theorem noCr_iff (l : List P2) (s : S4) : NoCr l s ↔ ∀ k, k < l.length → meetI s.1 s.2.1 s.2.2.1 s.2.2.2 (px l k) (py l k) (px l ((k + 1) % l.length)) (py l ((k + 1) % l.length)) ≠ 3 := by
  unfold NoCr
  constructor
  · intro h k hk e
    exact h _ (EE_mem.2 ⟨k, hk, rfl⟩) ((meet3 (eA s, eB s) (ptAt l k, ptAt l ((k + 1) % l.length))).1 e)
  · rintro h e he hc
    obtain ⟨k, hk, rfl⟩ := EE_mem.1 he
    exact h k hk ((meet3 (eA s, eB s) (ptAt l k, ptAt l ((k + 1) % l.length))).2 hc)

end Geo
end Go.Proofs.YtpdfbboagaflhaaGreat

set_option linter.unusedSimpArgs false
set_option linter.unusedVariables false
set_option linter.unusedSectionVars false
namespace Go.Proofs.YtpdfbboagaflhaaGreat
namespace Geo

section
variable {l : List P2} {s : S4}
/-- no value of f at 0 .. k-1 is v -/
def FreeTo (f : Nat → Int) (v : Int) (k : Nat) : Prop := ∀ j, j < k → f j ≠ v
theorem FreeTo.zero {f : Nat → Int} {v : Int} : FreeTo f v 0 := fun j h => absurd h (Nat.not_lt_zero j)
theorem FreeTo.succ {f : Nat → Int} {v : Int} {k : Nat} (h : FreeTo f v k) (e : f k ≠ v) : FreeTo f v (k + 1) := fun j hj => by
  rcases Nat.lt_or_ge j k with h1 | h1
  · exact h j h1
  · obtain rfl : j = k := by omega
    exact e
/-- how edge k and the segment meet, as the program asks it -/
def meetW (l : List P2) (s : S4) (k : Nat) : Int := meetI (q1 (edgesL l) k) (q2 (edgesL l) k) (q3 (edgesL l) k) (q4 (edgesL l) k) s.1 s.2.1 s.2.2.1 s.2.2.2
/-- where the doubled middle of piece j is -/
def midW (l : List P2) (s : S4) (j : Nat) : Int := whereI (l.map (sc 2)) (q1 (piecesL l s.1 s.2.1 s.2.2.1 s.2.2.2) j + q3 (piecesL l s.1 s.2.1 s.2.2.1 s.2.2.2) j) (q2 (piecesL l s.1 s.2.1 s.2.2.1 s.2.2.2) j + q4 (piecesL l s.1 s.2.1 s.2.2.1 s.2.2.2) j)
def WithinG (l : List P2) (s : S4) : Prop := FreeTo (meetW l s) 3 l.length ∧ FreeTo (midW l s) 0 (piecesL l s.1 s.2.1 s.2.2.1 s.2.2.2).length
/-- how the segment and edge k meet, as the reference asks it -/
def meetV (l : List P2) (s : S4) (k : Nat) : Int := meetR s.1 s.2.1 s.2.2.1 s.2.2.2 (px l k) (py l k) (px l ((k + 1) % l.length)) (py l ((k + 1) % l.length))
def stopV (l : List P2) (s : S4) (i : Nat) : Int := if stopB l s i then 1 else 0
def WithinR (l : List P2) (s : S4) : Prop := (whereI l s.1 s.2.1 ≠ 0 ∧ whereI l s.2.2.1 s.2.2.2 ≠ 0) ∧ FreeTo (meetV l s) 3 l.length ∧ FreeTo (stopV l s) 0 (frTo l s l.length).length
theorem pairs_at (L : List P2) (m : Nat) (j : Nat) (h : j < m) : q1 (pairsTo L m) j = px L j ∧ q2 (pairsTo L m) j = py L j ∧ q3 (pairsTo L m) j = px L (j + 1) ∧ q4 (pairsTo L m) j = py L (j + 1) := by
  simp [pairsTo, q1, q2, q3, q4, List.getD_eq_getElem?_getD, h]
theorem midW_at (j : Nat) (h : j < (piecesL l s.1 s.2.1 s.2.2.1 s.2.2.2).length) : j + 1 < (cutP l s).length ∧ midW l s j = whereI (l.map (sc 2)) (mid (ptAt (cutP l s) j) (ptAt (cutP l s) (j + 1))).1 (mid (ptAt (cutP l s) j) (ptAt (cutP l s) (j + 1))).2 := by
  have hl : j < (cutsL l s.1 s.2.1 s.2.2.1 s.2.2.2).length - 1 := by simpa [piecesL, pairsTo] using h
  refine ⟨by unfold cutP; omega, ?_⟩
  obtain ⟨e1, e2, e3, e4⟩ := pairs_at (cutsL l s.1 s.2.1 s.2.2.1 s.2.2.2) _ j hl
  unfold midW
  unfold piecesL
  rw [e1, e2, e3, e4]
  rfl
theorem pieces_len : (piecesL l s.1 s.2.1 s.2.2.1 s.2.2.2).length = (cutP l s).length - 1 := by simp [piecesL, pairsTo, cutP]
theorem pieces_bd (hv : ∀ p, p ∈ l → valid p) (hs : okSeg s = true) (j : Nat) (h : j < (piecesL l s.1 s.2.1 s.2.2.1 s.2.2.2).length) :
    ((0 ≤ q1 (piecesL l s.1 s.2.1 s.2.2.1 s.2.2.2) j ∧ q1 (piecesL l s.1 s.2.1 s.2.2.1 s.2.2.2) j ≤ 10000) ∧ 0 ≤ q2 (piecesL l s.1 s.2.1 s.2.2.1 s.2.2.2) j ∧ q2 (piecesL l s.1 s.2.1 s.2.2.1 s.2.2.2) j ≤ 10000) ∧ (0 ≤ q3 (piecesL l s.1 s.2.1 s.2.2.1 s.2.2.2) j ∧ q3 (piecesL l s.1 s.2.1 s.2.2.1 s.2.2.2) j ≤ 10000) ∧ 0 ≤ q4 (piecesL l s.1 s.2.1 s.2.2.1 s.2.2.2) j ∧ q4 (piecesL l s.1 s.2.1 s.2.2.1 s.2.2.2) j ≤ 10000 := by
  have hl : j < (cutsL l s.1 s.2.1 s.2.2.1 s.2.2.2).length - 1 := by simpa [piecesL, pairsTo] using h
  obtain ⟨e1, e2, e3, e4⟩ := pairs_at (cutsL l s.1 s.2.1 s.2.2.1 s.2.2.2) _ j hl
  unfold piecesL
  rw [e1, e2, e3, e4]
  have v1 := (cutP_val hv hs (ptAt_mem (l := cutP l s) (show j < _ by unfold cutP; omega))).1
  have v2 := (cutP_val hv hs (ptAt_mem (l := cutP l s) (show j + 1 < _ by unfold cutP; omega))).1
  exact ⟨v1, v2⟩
theorem edge_ok (h : polyI l = 0) (hv : ∀ p, p ∈ l → valid p) {k : Nat} (hk : k < l.length) : okS (px l k) (py l k) (px l ((k + 1) % l.length)) (py l ((k + 1) % l.length)) = true := by
  have hne := simp_ne (poly_simp h) (EE_mem.2 ⟨k, hk, rfl⟩)
  have h0 : 0 < l.length := by omega
  have v1 := hv _ (ptAt_mem hk)
  have v2 := hv _ (ptAt_mem (Nat.mod_lt (k + 1) h0))
  exact okSeg_iff (s := (px l k, py l k, px l ((k + 1) % l.length), py l ((k + 1) % l.length))).2 ⟨v1, v2, hne⟩
theorem within_both (h : polyI l = 0) (hv : ∀ p, p ∈ l → valid p) (hs : okSeg s = true) : WithinG l s ↔ WithinR l s := by
  have hne : ∀ e ∈ EE l, e.1 ≠ e.2 := fun e he => simp_ne (poly_simp h) he
  have hm : FreeTo (meetW l s) 3 l.length ↔ NoCr l s := by
    rw [noCr_iff]
    refine forall_congr' fun k => forall_congr' fun hk => ?_
    obtain ⟨e1, e2, e3, e4⟩ := edgesL_at l k hk
    unfold meetW
    rw [e1, e2, e3, e4, meetI_comm hs (edge_ok h hv hk)]
  have hr : FreeTo (meetV l s) 3 l.length ↔ NoCr l s := by
    rw [noCr_iff]
    refine forall_congr' fun k => forall_congr' fun hk => ?_
    unfold meetV
    rw [meet_eq hs (edge_ok h hv hk)]
  have hst : FreeTo (stopV l s) 0 (frTo l s l.length).length ↔ ∀ i, i < (frTo l s l.length).length → stopB l s i = true := by
    refine forall_congr' fun k => forall_congr' fun hk => ?_
    unfold stopV
    cases stopB l s k <;> simp
  have hmd : FreeTo (midW l s) 0 (piecesL l s.1 s.2.1 s.2.2.1 s.2.2.2).length ↔ ∀ j, j + 1 < (cutP l s).length → whereI (l.map (sc 2)) (mid (ptAt (cutP l s) j) (ptAt (cutP l s) (j + 1))).1 (mid (ptAt (cutP l s) j) (ptAt (cutP l s) (j + 1))).2 ≠ 0 := by
    constructor
    · intro g j hj
      have hj' : j < (piecesL l s.1 s.2.1 s.2.2.1 s.2.2.2).length := by rw [pieces_len]; omega
      rw [← (midW_at j hj').2]
      exact g j hj'
    · intro g j hj
      obtain ⟨a, b⟩ := midW_at j hj
      rw [b]
      exact g j a
  unfold WithinG WithinR
  rw [hm, hr, hst, hmd]
  constructor
  · rintro ⟨hc, g⟩
    have := (within_eq hv hs hc hne).1 g
    exact ⟨⟨this.1, this.2.1⟩, hc, this.2.2⟩
  · rintro ⟨⟨w1, w2⟩, hc, g⟩
    exact ⟨hc, (within_eq hv hs hc hne).2 ⟨w1, w2, g⟩⟩
/-! bounds of the parts of the way -/
def Fb (f : Int × Int) : Prop := (-10000 ≤ f.1 ∧ f.1 ≤ 10000) ∧ 0 ≤ f.2 ∧ f.2 ≤ 10000
theorem frP1_bd (hs : okSeg s = true) {p : P2} (hp : valid p) (ho : onS p s) : Fb (frP1 s p) := by
  obtain ⟨h1, h2, h3, h4⟩ := frP1_of hs ho
  refine ⟨?_, by omega, h2⟩
  obtain ⟨⟨⟨a1, a2⟩, a3, a4⟩, ⟨⟨b1, b2⟩, b3, b4⟩, _⟩ := okSeg_iff.1 hs
  obtain ⟨⟨p1, p2⟩, p3, p4⟩ := hp
  simp only [eA, eB] at a1 a2 a3 a4 b1 b2 b3 b4
  unfold frP1
  split
  · have : Int.sign (s.2.2.1 - s.1) = 1 ∨ Int.sign (s.2.2.1 - s.1) = -1 ∨ Int.sign (s.2.2.1 - s.1) = 0 := by
      rcases Int.lt_trichotomy (s.2.2.1 - s.1) 0 with h | h | h
      · exact .inr (.inl (Int.sign_eq_neg_one_of_neg h))
      · rw [h]; exact .inr (.inr rfl)
      · exact .inl (Int.sign_eq_one_of_pos h)
    rcases this with e | e | e <;> rw [e] <;> dsimp only <;> omega
  · have : Int.sign (s.2.2.2 - s.2.1) = 1 ∨ Int.sign (s.2.2.2 - s.2.1) = -1 ∨ Int.sign (s.2.2.2 - s.2.1) = 0 := by
      rcases Int.lt_trichotomy (s.2.2.2 - s.2.1) 0 with h | h | h
      · exact .inr (.inl (Int.sign_eq_neg_one_of_neg h))
      · rw [h]; exact .inr (.inr rfl)
      · exact .inl (Int.sign_eq_one_of_pos h)
    rcases this with e | e | e <;> rw [e] <;> dsimp only <;> omega
theorem frTo_le (l : List P2) (s : S4) : ∀ k, (frTo l s k).length ≤ k + 2
  | 0 => by simp [frTo]
  | k + 1 => by have := frTo_le l s k; simp only [frTo]; split; (simp; omega); omega
theorem frTo_bd (hv : ∀ p, p ∈ l → valid p) (hs : okSeg s = true) : ∀ k, k ≤ l.length → ∀ f ∈ frTo l s k, Fb f ∧ 0 < f.2
  | 0, _, f, hf => by
    simp [frTo] at hf
    rcases hf with rfl | rfl <;> exact ⟨⟨by decide, by decide⟩, by decide⟩
  | k + 1, hk, f, hf => by
    have ih := frTo_bd hv hs k (by omega)
    simp only [frTo] at hf
    split at hf
    · rename_i ho
      rcases List.mem_append.1 hf with h | h
      · exact ih f h
      · obtain rfl : f = frP1 s (px l k, py l k) := by simpa using h
        have hp : valid (px l k, py l k) := hv _ (ptAt_mem (show k < l.length by omega))
        have := (onR_iff hp hs).1 (by rw [onR_eq]; exact ho)
        exact ⟨frP1_bd hs hp this, (frP1_of hs this).1⟩
    · exact ih f hf
theorem getD_bd {F : List (Int × Int)} (h : ∀ f ∈ F, Fb f ∧ 0 < f.2) (i : Nat) : Fb (F.getD i (0, 0)) := by
  rw [List.getD_eq_getElem?_getD]
  rcases Nat.lt_or_ge i F.length with g | g
  · rw [List.getElem?_eq_getElem g]; exact (h _ (List.getElem_mem g)).1
  · rw [List.getElem?_eq_none g]; exact ⟨by decide, by decide⟩
theorem getD_pos {F : List (Int × Int)} (h : ∀ f ∈ F, Fb f ∧ 0 < f.2) {i : Nat} (g : i < F.length) : 0 < (F.getD i (0, 0)).2 := by
  rw [List.getD_eq_getElem?_getD, List.getElem?_eq_getElem g]; exact (h _ (List.getElem_mem g)).2
theorem nxTo_bd {F : List (Int × Int)} (h : ∀ f ∈ F, Fb f ∧ 0 < f.2) (i : Nat) : ∀ k, k ≤ F.length → Fb (nxTo F i k).2 ∧ ((nxTo F i k).1 = true → 0 < (nxTo F i k).2.2)
  | 0, _ => ⟨show Fb (0, 0) from ⟨by decide, by decide⟩, fun e => by cases e⟩
  | k + 1, hk => by
    have ih := nxTo_bd h i k (by omega)
    simp only [nxTo, nxStep]
    split
    · exact ⟨getD_bd h k, fun _ => getD_pos h (by omega)⟩
    · exact ih
end

end Geo
end Go.Proofs.YtpdfbboagaflhaaGreat
