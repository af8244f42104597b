/- The point of a hull that is nearest to a shade, and that a plane upright toward the shade lies between where no recipe gives it. No condition beyond what each lemma names. -/
import Derived.Test.YtpjekinmcdglbaaNa
set_option linter.unusedSimpArgs false
set_option linter.unusedVariables false
set_option maxRecDepth 100000
namespace Go.Proofs.Ytpjekinmcdglbaa

/-! the point of a hull that is nearest to the origin -/
structure R3 where
  x : Rat
  y : Rat
  z : Rat
def R3.dot (a b : R3) : Rat := a.x * b.x + a.y * b.y + a.z * b.z
def R3.sub (a b : R3) : R3 := ⟨a.x - b.x, a.y - b.y, a.z - b.z⟩
def R3.cross (a b : R3) : R3 := ⟨a.y * b.z - a.z * b.y, a.z * b.x - a.x * b.z, a.x * b.y - a.y * b.x⟩
def R3.zero (a : R3) : Prop := a.x = 0 ∧ a.y = 0 ∧ a.z = 0
def lin2 (a b : Rat) (p q : R3) : R3 := ⟨a * p.x + b * q.x, a * p.y + b * q.y, a * p.z + b * q.z⟩
def lin3 (a b c : Rat) (p q r : R3) : R3 := ⟨a * p.x + b * q.x + c * r.x, a * p.y + b * q.y + c * r.y, a * p.z + b * q.z + c * r.z⟩
def lin4 (a b c d : Rat) (p q r s : R3) : R3 := ⟨a * p.x + b * q.x + c * r.x + d * s.x, a * p.y + b * q.y + c * r.y + d * s.y, a * p.z + b * q.z + c * r.z + d * s.z⟩
theorem rsq (x : Rat) : 0 ≤ x * x := by
  rcases (Rat.le_total : (0:Rat) ≤ x ∨ x ≤ 0) with h | h
  · exact Rat.mul_nonneg h h
  · have := Rat.mul_nonneg (show 0 ≤ -x by grind) (show 0 ≤ -x by grind); grind
theorem rsq0 {x : Rat} (h : x * x = 0) : x = 0 := by grind
theorem rdot_nn (u : R3) : 0 ≤ u.dot u := by
  have hx := rsq u.x
  have hy := rsq u.y
  have hz := rsq u.z
  unfold R3.dot; grind
theorem rdot_pos {u : R3} (h : ¬ u.zero) : 0 < u.dot u := by
  have hx := rsq u.x
  have hy := rsq u.y
  have hz := rsq u.z
  unfold R3.dot
  apply Classical.byContradiction
  intro hn
  exact h ⟨rsq0 (by grind), rsq0 (by grind), rsq0 (by grind)⟩
theorem rmul_nn {a b : Rat} (ha : 0 ≤ a) (hb : 0 ≤ b) : 0 ≤ a * b := Rat.mul_nonneg ha hb
theorem rdiv_nn {a b : Rat} (ha : 0 ≤ a) (hb : 0 < b) : 0 ≤ a / b := by
  apply Classical.byContradiction
  intro h
  have : a / b * b = a := by grind
  have h2 : 0 < -(a / b) * b := Rat.mul_pos (by grind) hb
  grind
/-- where a weight becomes naught -/
theorem exit1 {a a0 t : Rat} (ha : 0 ≤ a) (ht : 0 ≤ t) : ∃ s, 0 ≤ s ∧ s ≤ t ∧ 0 ≤ a + s * (a0 - a) ∧ (s = t ∨ a + s * (a0 - a) = 0) := by
  by_cases h : 0 ≤ a + t * (a0 - a)
  · exact ⟨t, ht, by grind, h, Or.inl rfl⟩
  · have hd : 0 < a - a0 := by
      apply Classical.byContradiction
      intro hn
      have := rmul_nn ht (show 0 ≤ a0 - a by grind)
      grind
    have he : a / (a - a0) * (a - a0) = a := by grind
    refine ⟨a / (a - a0), rdiv_nn ha hd, ?_, ?_, Or.inr ?_⟩
    · apply Classical.byContradiction
      intro hn
      have := rmul_nn (show 0 ≤ a / (a - a0) - t by grind) (show 0 ≤ a - a0 by grind)
      grind
    · grind
    · grind
theorem conv {a a0 s t : Rat} (ha : 0 ≤ a) (hs : 0 ≤ s) (hst : s ≤ t) (h : 0 ≤ a + t * (a0 - a)) : 0 ≤ a + s * (a0 - a) := by
  rcases (Rat.le_total : (0:Rat) ≤ a0 - a ∨ a0 - a ≤ 0) with h1 | h1
  · have := rmul_nn hs h1; grind
  · have := rmul_nn (show 0 ≤ t - s by grind) (show 0 ≤ -(a0 - a) by grind); grind
theorem exit2 {a b a0 b0 : Rat} (ha : 0 ≤ a) (hb : 0 ≤ b) (h : ¬ (0 < a0 ∧ 0 < b0)) :
    ∃ s, 0 ≤ s ∧ s ≤ 1 ∧ 0 ≤ a + s * (a0 - a) ∧ 0 ≤ b + s * (b0 - b) ∧ (a + s * (a0 - a) = 0 ∨ b + s * (b0 - b) = 0) := by
  obtain ⟨s1, h1, h2, h3, h4⟩ := exit1 (a0 := a0) ha (show (0 : Rat) ≤ 1 by grind)
  obtain ⟨s2, k1, k2, k3, k4⟩ := exit1 (a0 := b0) hb h1
  refine ⟨s2, k1, by grind, conv ha k1 k2 h3, k3, ?_⟩
  by_cases e2 : s2 = s1
  · by_cases e1 : s1 = 1
    · subst e1; subst e2
      have : a0 ≤ 0 ∨ b0 ≤ 0 := by grind
      rcases this with h | h
      · left; grind
      · right; grind
    · left; grind
  · right; grind
theorem exit3 {a b c a0 b0 c0 : Rat} (ha : 0 ≤ a) (hb : 0 ≤ b) (hc : 0 ≤ c) (h : ¬ (0 < a0 ∧ 0 < b0 ∧ 0 < c0)) :
    ∃ s, 0 ≤ s ∧ s ≤ 1 ∧ 0 ≤ a + s * (a0 - a) ∧ 0 ≤ b + s * (b0 - b) ∧ 0 ≤ c + s * (c0 - c) ∧ (a + s * (a0 - a) = 0 ∨ b + s * (b0 - b) = 0 ∨ c + s * (c0 - c) = 0) := by
  obtain ⟨s1, h1, h2, h3, h4⟩ := exit1 (a0 := a0) ha (show (0 : Rat) ≤ 1 by grind)
  obtain ⟨s2, k1, k2, k3, k4⟩ := exit1 (a0 := b0) hb h1
  obtain ⟨s3, l1, l2, l3, l4⟩ := exit1 (a0 := c0) hc k1
  refine ⟨s3, l1, by grind, conv ha l1 (by grind) h3, conv hb l1 l2 k3, l3, ?_⟩
  by_cases e3 : s3 = s2
  · by_cases e2 : s2 = s1
    · by_cases e1 : s1 = 1
      · subst e1; subst e2; subst e3
        have : a0 ≤ 0 ∨ b0 ≤ 0 ∨ c0 ≤ 0 := by grind
        rcases this with h | h | h
        · left; grind
        · right; left; grind
        · right; right; grind
      · left; grind
    · right; left; grind
  · right; right; grind
theorem exit4 {a b c d a0 b0 c0 d0 : Rat} (ha : 0 ≤ a) (hb : 0 ≤ b) (hc : 0 ≤ c) (hd : 0 ≤ d) (h : ¬ (0 < a0 ∧ 0 < b0 ∧ 0 < c0 ∧ 0 < d0)) :
    ∃ s, 0 ≤ s ∧ s ≤ 1 ∧ 0 ≤ a + s * (a0 - a) ∧ 0 ≤ b + s * (b0 - b) ∧ 0 ≤ c + s * (c0 - c) ∧ 0 ≤ d + s * (d0 - d) ∧ (a + s * (a0 - a) = 0 ∨ b + s * (b0 - b) = 0 ∨ c + s * (c0 - c) = 0 ∨ d + s * (d0 - d) = 0) := by
  obtain ⟨s1, h1, h2, h3, h4⟩ := exit1 (a0 := a0) ha (show (0 : Rat) ≤ 1 by grind)
  obtain ⟨s2, k1, k2, k3, k4⟩ := exit1 (a0 := b0) hb h1
  obtain ⟨s3, l1, l2, l3, l4⟩ := exit1 (a0 := c0) hc k1
  obtain ⟨s4, m1, m2, m3, m4⟩ := exit1 (a0 := d0) hd l1
  refine ⟨s4, m1, by grind, conv ha m1 (by grind) h3, conv hb m1 (by grind) k3, conv hc m1 m2 l3, m3, ?_⟩
  by_cases e4 : s4 = s3
  · by_cases e3 : s3 = s2
    · by_cases e2 : s2 = s1
      · by_cases e1 : s1 = 1
        · subst e1; subst e2; subst e3; subst e4
          have : a0 ≤ 0 ∨ b0 ≤ 0 ∨ c0 ≤ 0 ∨ d0 ≤ 0 := by grind
          rcases this with h | h | h | h
          · left; grind
          · right; left; grind
          · right; right; left; grind
          · right; right; right; grind
        · left; grind
      · right; left; grind
    · right; right; left; grind
  · right; right; right; grind
def R3.sq (a : R3) : Rat := a.dot a
/-- a face of at most three points on which the nearest point of its plane lies, within the face -/
def Cand (q : Nat → R3) (m : Nat) (z : R3) : Prop :=
  (∃ i, i < m ∧ z = q i) ∨
  (∃ i j a b, i < j ∧ j < m ∧ 0 < a ∧ 0 < b ∧ a + b = 1 ∧ z = lin2 a b (q i) (q j) ∧ z.dot ((q j).sub (q i)) = 0 ∧ ¬ ((q j).sub (q i)).zero) ∨
  (∃ i j k a b c, i < j ∧ j < k ∧ k < m ∧ 0 < a ∧ 0 < b ∧ 0 < c ∧ a + b + c = 1 ∧ z = lin3 a b c (q i) (q j) (q k) ∧ z.dot ((q j).sub (q i)) = 0 ∧ z.dot ((q k).sub (q i)) = 0 ∧ ¬ (((q j).sub (q i)).cross ((q k).sub (q i))).zero)
def Tet (q : Nat → R3) (m : Nat) : Prop :=
  ∃ i j k l a b c d, i < j ∧ j < k ∧ k < l ∧ l < m ∧ 0 < a ∧ 0 < b ∧ 0 < c ∧ 0 < d ∧ a + b + c + d = 1 ∧ (lin4 a b c d (q i) (q j) (q k) (q l)).zero ∧ (((q j).sub (q i)).cross ((q k).sub (q i))).dot ((q l).sub (q i)) ≠ 0
/-- a step toward the nearest point -/
theorem toward {y z w : R3} {s : Rat} (h : z.dot (y.sub z) = 0) (h0 : 0 ≤ s) (h1 : s ≤ 1) (hx : w.x = y.x + s * (z.x - y.x)) (hy : w.y = y.y + s * (z.y - y.y)) (hz : w.z = y.z + s * (z.z - y.z)) : w.sq ≤ y.sq := by
  have hD := rdot_nn (y.sub z)
  have h2 : 0 ≤ s * (2 - s) := rmul_nn h0 (by grind)
  have h3 := rmul_nn h2 hD
  have e : y.sq - w.sq = s * (2 - s) * (y.sub z).dot (y.sub z) + 2 * s * z.dot (y.sub z) := by
    obtain ⟨y1, y2, y3⟩ := y; obtain ⟨z1, z2, z3⟩ := z; obtain ⟨w1, w2, w3⟩ := w
    simp only [R3.sq, R3.dot, R3.sub] at *
    subst hx hy hz
    grind
  rw [h] at e
  grind
theorem nearer {y z : R3} (h : z.dot (y.sub z) = 0) : z.sq ≤ y.sq := toward (s := 1) h (by grind) (by grind) (by grind) (by grind) (by grind)
theorem near1 {q : Nat → R3} {m i : Nat} (hi : i < m) : Cand q m (q i) := Or.inl ⟨i, hi, rfl⟩
theorem near2 {q : Nat → R3} {m i j : Nat} (hij : i < j) (hj : j < m) {a b : Rat} (ha : 0 ≤ a) (hb : 0 ≤ b) (hs : a + b = 1) :
    ∃ z, Cand q m z ∧ z.sq ≤ (lin2 a b (q i) (q j)).sq := by
  by_cases hu : ((q j).sub (q i)).zero
  · refine ⟨q i, near1 (by omega), ?_⟩
    have : lin2 a b (q i) (q j) = q i := by
      have e : b = 1 - a := by grind
      simp only [lin2, R3.sub, R3.zero] at *
      obtain ⟨h1, h2, h3⟩ := hu
      cases hq : q i with | mk x y z => cases hr : q j with | mk x' y' z' => simp only [hq, hr, R3.mk.injEq] at *; refine ⟨?_, ?_, ?_⟩ <;> grind
    rw [this]; exact Rat.le_refl
  · have hp := rdot_pos hu
    have hN : ((q j).sub (q i)).dot ((q j).sub (q i)) ≠ 0 := by grind
    have hz : ∃ a0 b0, a0 + b0 = 1 ∧ (lin2 a0 b0 (q i) (q j)).dot ((q j).sub (q i)) = 0 := by
      refine ⟨1 + (q i).dot ((q j).sub (q i)) / ((q j).sub (q i)).dot ((q j).sub (q i)), -((q i).dot ((q j).sub (q i)) / ((q j).sub (q i)).dot ((q j).sub (q i))), by grind, ?_⟩
      generalize hd : (q i).dot ((q j).sub (q i)) / ((q j).sub (q i)).dot ((q j).sub (q i)) = t
      have e : t * ((q j).sub (q i)).dot ((q j).sub (q i)) = (q i).dot ((q j).sub (q i)) := by rw [← hd]; grind
      clear hd
      cases hq : q i with | mk x y z => cases hr : q j with | mk x' y' z' => simp only [hq, hr, R3.dot, R3.sub, lin2] at *; grind
    obtain ⟨a0, b0, hs0, hz⟩ := hz
    have ho : (lin2 a0 b0 (q i) (q j)).dot ((lin2 a b (q i) (q j)).sub (lin2 a0 b0 (q i) (q j))) = 0 := by
      have e1 : a = 1 - b := by grind
      have e2 : a0 = 1 - b0 := by grind
      have : (lin2 a0 b0 (q i) (q j)).dot ((lin2 a b (q i) (q j)).sub (lin2 a0 b0 (q i) (q j))) = (b - b0) * (lin2 a0 b0 (q i) (q j)).dot ((q j).sub (q i)) := by
        rw [e1, e2]
        cases hq : q i with | mk x y z => cases hr : q j with | mk x' y' z' => simp only [R3.dot, R3.sub, lin2]; grind
      rw [this, hz]; grind
    by_cases hpos : 0 < a0 ∧ 0 < b0
    · exact ⟨_, Or.inr (Or.inl ⟨i, j, a0, b0, hij, hj, hpos.1, hpos.2, hs0, rfl, hz, hu⟩), nearer ho⟩
    · obtain ⟨s, h0, h1, ka, kb, hk⟩ := exit2 ha hb hpos
      rcases hk with hk | hk
      · have hb1 : b + s * (b0 - b) = 1 := by grind
        refine ⟨q j, near1 hj, toward ho h0 h1 ?_ ?_ ?_⟩ <;> simp only [lin2] <;> grind
      · have hb1 : a + s * (a0 - a) = 1 := by grind
        refine ⟨q i, near1 (by omega), toward ho h0 h1 ?_ ?_ ?_⟩ <;> simp only [lin2] <;> grind
/-- two vectors in a line: the second is a multiple of the first -/
theorem lineOf (u v : R3) (h : (u.cross v).zero) : u.dot u * v.x = u.dot v * u.x ∧ u.dot u * v.y = u.dot v * u.y ∧ u.dot u * v.z = u.dot v * u.z := by
  obtain ⟨u1, u2, u3⟩ := u; obtain ⟨v1, v2, v3⟩ := v
  obtain ⟨h1, h2, h3⟩ := h
  simp only [R3.cross, R3.dot] at *
  refine ⟨?_, ?_, ?_⟩ <;> grind
theorem gram (u v : R3) : (u.cross v).dot (u.cross v) = u.dot u * v.dot v - u.dot v * u.dot v := by
  obtain ⟨u1, u2, u3⟩ := u; obtain ⟨v1, v2, v3⟩ := v
  simp only [R3.cross, R3.dot] at *; grind
/-- the foot of the origin on a plane -/
theorem foot3 (p q r : R3) (hn : ¬ ((q.sub p).cross (r.sub p)).zero) : ∃ a b c, a + b + c = 1 ∧ (lin3 a b c p q r).dot (q.sub p) = 0 ∧ (lin3 a b c p q r).dot (r.sub p) = 0 := by
  have hp := rdot_pos hn
  have hg := gram (q.sub p) (r.sub p)
  have key : ∀ b c, (lin3 (1 - b - c) b c p q r).dot (q.sub p) = p.dot (q.sub p) + b * (q.sub p).dot (q.sub p) + c * (q.sub p).dot (r.sub p) ∧ (lin3 (1 - b - c) b c p q r).dot (r.sub p) = p.dot (r.sub p) + b * (q.sub p).dot (r.sub p) + c * (r.sub p).dot (r.sub p) := by
    intro b c
    cases p; cases q; cases r
    simp only [lin3, R3.dot, R3.sub]
    refine ⟨?_, ?_⟩ <;> grind
  generalize (q.sub p).dot (q.sub p) = uu at *
  generalize (q.sub p).dot (r.sub p) = uv at *
  generalize (r.sub p).dot (r.sub p) = vv at *
  generalize ((q.sub p).cross (r.sub p)).dot ((q.sub p).cross (r.sub p)) = nn at *
  generalize p.dot (q.sub p) = pu at *
  generalize p.dot (r.sub p) = pv at *
  have hne : nn ≠ 0 := by grind
  refine ⟨1 - (pv * uv - pu * vv) / nn - (pu * uv - pv * uu) / nn, (pv * uv - pu * vv) / nn, (pu * uv - pv * uu) / nn, by grind, ?_, ?_⟩
  · rw [(key _ _).1]
    generalize hb : (pv * uv - pu * vv) / nn = b
    generalize hc : (pu * uv - pv * uu) / nn = c
    have eb : b * nn = pv * uv - pu * vv := by rw [← hb]; grind
    have ec : c * nn = pu * uv - pv * uu := by rw [← hc]; grind
    have : nn * (pu + b * uu + c * uv) = 0 := by grind
    grind
  · rw [(key _ _).2]
    generalize hb : (pv * uv - pu * vv) / nn = b
    generalize hc : (pu * uv - pv * uu) / nn = c
    have eb : b * nn = pv * uv - pu * vv := by rw [← hb]; grind
    have ec : c * nn = pu * uv - pv * uu := by rw [← hc]; grind
    have : nn * (pv + b * uv + c * vv) = 0 := by grind
    grind
theorem lin3_a0 {b c : Rat} {p q r : R3} : lin3 0 b c p q r = lin2 b c q r := by simp only [lin3, lin2, R3.mk.injEq]; refine ⟨?_, ?_, ?_⟩ <;> grind
theorem lin3_b0 {a c : Rat} {p q r : R3} : lin3 a 0 c p q r = lin2 a c p r := by simp only [lin3, lin2, R3.mk.injEq]; refine ⟨?_, ?_, ?_⟩ <;> grind
theorem lin3_c0 {a b : Rat} {p q r : R3} : lin3 a b 0 p q r = lin2 a b p q := by simp only [lin3, lin2, R3.mk.injEq]; refine ⟨?_, ?_, ?_⟩ <;> grind
theorem fan3 (z p q r : R3) {b c b0 c0 : Rat} : z.dot ((lin3 (1 - b - c) b c p q r).sub (lin3 (1 - b0 - c0) b0 c0 p q r)) = (b - b0) * z.dot (q.sub p) + (c - c0) * z.dot (r.sub p) := by
  cases p; cases q; cases r; cases z
  simp only [lin3, R3.dot, R3.sub]; grind
/-- one of the three weights is naught -/
theorem near3z {q : Nat → R3} {m i j k : Nat} (hij : i < j) (hjk : j < k) (hk : k < m) {a b c : Rat} (ha : 0 ≤ a) (hb : 0 ≤ b) (hc : 0 ≤ c) (hs : a + b + c = 1) (h : a = 0 ∨ b = 0 ∨ c = 0) :
    ∃ z, Cand q m z ∧ z.sq ≤ (lin3 a b c (q i) (q j) (q k)).sq := by
  rcases h with rfl | rfl | rfl
  · rw [lin3_a0]; exact near2 hjk hk hb hc (by grind)
  · rw [lin3_b0]; exact near2 (by omega) hk ha hc (by grind)
  · rw [lin3_c0]; exact near2 hij (by omega) ha hb (by grind)
theorem le_tr {a b c : Rat} (h1 : a ≤ b) (h2 : b ≤ c) : a ≤ c := by grind
theorem near3 {q : Nat → R3} {m i j k : Nat} (hij : i < j) (hjk : j < k) (hk : k < m) {a b c : Rat} (ha : 0 ≤ a) (hb : 0 ≤ b) (hc : 0 ≤ c) (hs : a + b + c = 1) :
    ∃ z, Cand q m z ∧ z.sq ≤ (lin3 a b c (q i) (q j) (q k)).sq := by
  by_cases hu : ((q j).sub (q i)).zero
  · have : lin3 a b c (q i) (q j) (q k) = lin2 (a + b) c (q i) (q k) := by
      simp only [lin3, lin2, R3.sub, R3.zero, R3.mk.injEq] at *
      obtain ⟨h1, h2, h3⟩ := hu
      refine ⟨?_, ?_, ?_⟩ <;> grind
    rw [this]
    exact near2 (by omega) hk (by grind) hc (by grind)
  by_cases hn : (((q j).sub (q i)).cross ((q k).sub (q i))).zero
  · -- in a line: weights of the same point of which one is naught
    have hp := rdot_pos hu
    obtain ⟨i1, i2, i3⟩ := lineOf _ _ hn
    obtain ⟨t, ht⟩ : ∃ t, t * ((q j).sub (q i)).dot ((q j).sub (q i)) = ((q j).sub (q i)).dot ((q k).sub (q i)) := ⟨((q j).sub (q i)).dot ((q k).sub (q i)) / ((q j).sub (q i)).dot ((q j).sub (q i)), by grind⟩
    have hv : (q k).x - (q i).x = t * ((q j).x - (q i).x) ∧ (q k).y - (q i).y = t * ((q j).y - (q i).y) ∧ (q k).z - (q i).z = t * ((q j).z - (q i).z) := by
      rw [← ht] at i1 i2 i3
      generalize ((q j).sub (q i)).dot ((q j).sub (q i)) = n at *
      have hn0 : n ≠ 0 := by grind
      simp only [R3.sub] at i1 i2 i3
      refine ⟨?_, ?_, ?_⟩ <;> grind
    obtain ⟨s, h0, h1, ka, kb, kc, hk0⟩ := exit3 (a0 := a + c * (1 - t)) (b0 := b + c * t) (c0 := 0) ha hb hc (by grind)
    have := near3z (q := q) hij hjk hk ka kb kc (by grind) hk0
    have e : lin3 (a + s * (a + c * (1 - t) - a)) (b + s * (b + c * t - b)) (c + s * (0 - c)) (q i) (q j) (q k) = lin3 a b c (q i) (q j) (q k) := by
      obtain ⟨v1, v2, v3⟩ := hv
      simp only [lin3, R3.mk.injEq]
      refine ⟨?_, ?_, ?_⟩ <;> grind
    rw [e] at this; exact this
  · obtain ⟨a0, b0, c0, hs0, z1, z2⟩ := foot3 _ _ _ hn
    have ho : (lin3 a0 b0 c0 (q i) (q j) (q k)).dot ((lin3 a b c (q i) (q j) (q k)).sub (lin3 a0 b0 c0 (q i) (q j) (q k))) = 0 := by
      have e1 : a = 1 - b - c := by grind
      have e2 : a0 = 1 - b0 - c0 := by grind
      have : (lin3 a0 b0 c0 (q i) (q j) (q k)).dot ((lin3 a b c (q i) (q j) (q k)).sub (lin3 a0 b0 c0 (q i) (q j) (q k))) = (b - b0) * (lin3 a0 b0 c0 (q i) (q j) (q k)).dot ((q j).sub (q i)) + (c - c0) * (lin3 a0 b0 c0 (q i) (q j) (q k)).dot ((q k).sub (q i)) := by
        rw [e1, e2]; exact fan3 _ _ _ _
      rw [this, z1, z2]; grind
    by_cases hpos : 0 < a0 ∧ 0 < b0 ∧ 0 < c0
    · exact ⟨_, Or.inr (Or.inr ⟨i, j, k, a0, b0, c0, hij, hjk, hk, hpos.1, hpos.2.1, hpos.2.2, hs0, rfl, z1, z2, hn⟩), nearer ho⟩
    · obtain ⟨s, h0, h1, ka, kb, kc, hk0⟩ := exit3 ha hb hc hpos
      obtain ⟨z, hz1, hz2⟩ := near3z hij hjk hk ka kb kc (by grind) hk0
      refine ⟨z, hz1, le_tr hz2 (toward ho h0 h1 ?_ ?_ ?_)⟩ <;> simp only [lin3] <;> grind
theorem lin4_a0 {b c d : Rat} {p q r s : R3} : lin4 0 b c d p q r s = lin3 b c d q r s := by simp only [lin3, lin4, R3.mk.injEq]; refine ⟨?_, ?_, ?_⟩ <;> grind
theorem lin4_b0 {a c d : Rat} {p q r s : R3} : lin4 a 0 c d p q r s = lin3 a c d p r s := by simp only [lin3, lin4, R3.mk.injEq]; refine ⟨?_, ?_, ?_⟩ <;> grind
theorem lin4_c0 {a b d : Rat} {p q r s : R3} : lin4 a b 0 d p q r s = lin3 a b d p q s := by simp only [lin3, lin4, R3.mk.injEq]; refine ⟨?_, ?_, ?_⟩ <;> grind
theorem lin4_d0 {a b c : Rat} {p q r s : R3} : lin4 a b c 0 p q r s = lin3 a b c p q r := by simp only [lin3, lin4, R3.mk.injEq]; refine ⟨?_, ?_, ?_⟩ <;> grind
theorem near4z {q : Nat → R3} {m i j k l : Nat} (hij : i < j) (hjk : j < k) (hkl : k < l) (hl : l < m) {a b c d : Rat} (ha : 0 ≤ a) (hb : 0 ≤ b) (hc : 0 ≤ c) (hd : 0 ≤ d) (hs : a + b + c + d = 1) (h : a = 0 ∨ b = 0 ∨ c = 0 ∨ d = 0) :
    ∃ z, Cand q m z ∧ z.sq ≤ (lin4 a b c d (q i) (q j) (q k) (q l)).sq := by
  rcases h with rfl | rfl | rfl | rfl
  · rw [lin4_a0]; exact near3 hjk hkl hl hb hc hd (by grind)
  · rw [lin4_b0]; exact near3 (by omega) hkl hl ha hc hd (by grind)
  · rw [lin4_c0]; exact near3 hij (by omega) hl ha hb hd (by grind)
  · rw [lin4_d0]; exact near3 hij hjk (by omega) ha hb hc (by grind)
/-- three in a line, or two at one place: weights of the same point of which one is naught -/
theorem rel3 (p q r : R3) (hn : ((q.sub p).cross (r.sub p)).zero) : ∃ b c e, b + c + e = 0 ∧ (b ≠ 0 ∨ c ≠ 0 ∨ e ≠ 0) ∧ (lin3 b c e p q r).zero := by
  by_cases hu : (q.sub p).zero
  · refine ⟨-1, 1, 0, by grind, by right; left; grind, ?_⟩
    obtain ⟨h1, h2, h3⟩ := hu
    simp only [lin3, R3.sub, R3.zero] at *
    refine ⟨?_, ?_, ?_⟩ <;> grind
  · have hp := rdot_pos hu
    obtain ⟨i1, i2, i3⟩ := lineOf _ _ hn
    generalize (q.sub p).dot (q.sub p) = n at *
    generalize (q.sub p).dot (r.sub p) = t at *
    refine ⟨t - n, -t, n, by grind, by right; right; grind, ?_⟩
    simp only [lin3, R3.sub, R3.zero] at *
    refine ⟨?_, ?_, ?_⟩ <;> grind
/-- four in a plane -/
theorem rel4 (p q r s : R3) (hd : ((q.sub p).cross (r.sub p)).dot (s.sub p) = 0) : ∃ a b c d, a + b + c + d = 0 ∧ (a ≠ 0 ∨ b ≠ 0 ∨ c ≠ 0 ∨ d ≠ 0) ∧ (lin4 a b c d p q r s).zero := by
  by_cases hn : ((q.sub p).cross (r.sub p)).zero
  · obtain ⟨a, b, c, h0, h1, h2⟩ := rel3 p q r hn
    refine ⟨a, b, c, 0, by grind, by rcases h1 with h | h | h <;> simp [h], ?_⟩
    rw [lin4_d0]; exact h2
  · have hp := rdot_pos hn
    have key : ∀ u v t : R3, (u.cross v).dot t = 0 → ((u.cross v).dot (u.cross v) * t.x = (u.cross v).dot (t.cross v) * u.x + (u.cross v).dot (u.cross t) * v.x) ∧ ((u.cross v).dot (u.cross v) * t.y = (u.cross v).dot (t.cross v) * u.y + (u.cross v).dot (u.cross t) * v.y) ∧ (u.cross v).dot (u.cross v) * t.z = (u.cross v).dot (t.cross v) * u.z + (u.cross v).dot (u.cross t) * v.z := by
      intro u v t h
      obtain ⟨u1, u2, u3⟩ := u; obtain ⟨v1, v2, v3⟩ := v; obtain ⟨x1, x2, x3⟩ := t
      simp only [R3.cross, R3.dot] at *
      refine ⟨?_, ?_, ?_⟩ <;> grind
    obtain ⟨k1, k2, k3⟩ := key _ _ _ hd
    generalize ((q.sub p).cross (r.sub p)).dot ((q.sub p).cross (r.sub p)) = n at *
    generalize ((q.sub p).cross (r.sub p)).dot ((s.sub p).cross (r.sub p)) = B at *
    generalize ((q.sub p).cross (r.sub p)).dot ((q.sub p).cross (s.sub p)) = C at *
    refine ⟨B + C - n, -B, -C, n, by grind, by right; right; right; grind, ?_⟩
    simp only [lin4, R3.sub, R3.zero] at *
    refine ⟨?_, ?_, ?_⟩ <;> grind
/-- along a relation some weight becomes naught -/
theorem along4 {a b c d a1 b1 c1 d1 : Rat} (ha : 0 ≤ a) (hb : 0 ≤ b) (hc : 0 ≤ c) (hd : 0 ≤ d) (h : a1 ≠ 0 ∨ b1 ≠ 0 ∨ c1 ≠ 0 ∨ d1 ≠ 0) :
    ∃ r, 0 ≤ a + r * a1 ∧ 0 ≤ b + r * b1 ∧ 0 ≤ c + r * c1 ∧ 0 ≤ d + r * d1 ∧ (a + r * a1 = 0 ∨ b + r * b1 = 0 ∨ c + r * c1 = 0 ∨ d + r * d1 = 0) := by
  have go : ∀ R, (a + R * a1 = 0 ∨ b + R * b1 = 0 ∨ c + R * c1 = 0 ∨ d + R * d1 = 0) → ∃ r, 0 ≤ a + r * a1 ∧ 0 ≤ b + r * b1 ∧ 0 ≤ c + r * c1 ∧ 0 ≤ d + r * d1 ∧ (a + r * a1 = 0 ∨ b + r * b1 = 0 ∨ c + r * c1 = 0 ∨ d + r * d1 = 0) := by
    intro R hR
    obtain ⟨s, h0, h1, ka, kb, kc, kd, hk⟩ := exit4 (a0 := a + R * a1) (b0 := b + R * b1) (c0 := c + R * c1) (d0 := d + R * d1) ha hb hc hd (by grind)
    refine ⟨s * R, by grind, by grind, by grind, by grind, by grind⟩
  rcases h with h | h | h | h
  · exact go (-(a / a1)) (by left; grind)
  · exact go (-(b / b1)) (by right; left; grind)
  · exact go (-(c / c1)) (by right; right; left; grind)
  · exact go (-(d / d1)) (by right; right; right; grind)
/-- the foot of the origin in a body of four: the origin -/
theorem foot4 (p q r s : R3) (hd : ((q.sub p).cross (r.sub p)).dot (s.sub p) ≠ 0) : ∃ a b c d, a + b + c + d = 1 ∧ (lin4 a b c d p q r s).zero := by
  have key : ∀ u v t x : R3, ((u.cross v).dot t * x.x = (x.cross v).dot t * u.x + (u.cross x).dot t * v.x + (u.cross v).dot x * t.x) ∧ ((u.cross v).dot t * x.y = (x.cross v).dot t * u.y + (u.cross x).dot t * v.y + (u.cross v).dot x * t.y) ∧ (u.cross v).dot t * x.z = (x.cross v).dot t * u.z + (u.cross x).dot t * v.z + (u.cross v).dot x * t.z := by
    intro u v t x
    obtain ⟨u1, u2, u3⟩ := u; obtain ⟨v1, v2, v3⟩ := v; obtain ⟨x1, x2, x3⟩ := x; obtain ⟨t1, t2, t3⟩ := t
    simp only [R3.cross, R3.dot] at *
    refine ⟨?_, ?_, ?_⟩ <;> grind
  obtain ⟨k1, k2, k3⟩ := key (q.sub p) (r.sub p) (s.sub p) p
  generalize ((q.sub p).cross (r.sub p)).dot (s.sub p) = d at *
  generalize (p.cross (r.sub p)).dot (s.sub p) = A at *
  generalize ((q.sub p).cross p).dot (s.sub p) = B at *
  generalize ((q.sub p).cross (r.sub p)).dot p = C at *
  refine ⟨1 + A / d + B / d + C / d, -(A / d), -(B / d), -(C / d), by grind, ?_⟩
  obtain ⟨A', hA⟩ : ∃ x, x = A / d := ⟨_, rfl⟩
  obtain ⟨B', hB⟩ : ∃ x, x = B / d := ⟨_, rfl⟩
  obtain ⟨C', hC⟩ : ∃ x, x = C / d := ⟨_, rfl⟩
  have eA : A = A' * d := by grind
  have eB : B = B' * d := by grind
  have eC : C = C' * d := by grind
  rw [← hA, ← hB, ← hC]
  clear hA hB hC
  subst eA eB eC
  simp only [lin4, R3.sub, R3.zero] at *
  refine ⟨?_, ?_, ?_⟩ <;> grind
theorem near4 {q : Nat → R3} {m i j k l : Nat} (hij : i < j) (hjk : j < k) (hkl : k < l) (hl : l < m) {a b c d : Rat} (ha : 0 ≤ a) (hb : 0 ≤ b) (hc : 0 ≤ c) (hd : 0 ≤ d) (hs : a + b + c + d = 1) :
    Tet q m ∨ ∃ z, Cand q m z ∧ z.sq ≤ (lin4 a b c d (q i) (q j) (q k) (q l)).sq := by
  by_cases hn : (((q j).sub (q i)).cross ((q k).sub (q i))).dot ((q l).sub (q i)) = 0
  · right
    obtain ⟨a1, b1, c1, d1, r0, r1, r2⟩ := rel4 _ _ _ _ hn
    obtain ⟨r, ka, kb, kc, kd, hk⟩ := along4 ha hb hc hd r1
    have := near4z (q := q) hij hjk hkl hl ka kb kc kd (by grind) hk
    have e : lin4 (a + r * a1) (b + r * b1) (c + r * c1) (d + r * d1) (q i) (q j) (q k) (q l) = lin4 a b c d (q i) (q j) (q k) (q l) := by
      obtain ⟨v1, v2, v3⟩ := r2
      simp only [lin4, R3.mk.injEq] at *
      refine ⟨?_, ?_, ?_⟩ <;> grind
    rw [e] at this; exact this
  · obtain ⟨a0, b0, c0, d0, hs0, hz⟩ := foot4 _ _ _ _ hn
    by_cases hpos : 0 < a0 ∧ 0 < b0 ∧ 0 < c0 ∧ 0 < d0
    · exact Or.inl ⟨i, j, k, l, a0, b0, c0, d0, hij, hjk, hkl, hl, hpos.1, hpos.2.1, hpos.2.2.1, hpos.2.2.2, hs0, hz, hn⟩
    · right
      obtain ⟨s, h0, h1, ka, kb, kc, kd, hk⟩ := exit4 ha hb hc hd hpos
      obtain ⟨z, hz1, hz2⟩ := near4z (q := q) hij hjk hkl hl ka kb kc kd (by grind) hk
      have ho : (lin4 a0 b0 c0 d0 (q i) (q j) (q k) (q l)).dot ((lin4 a b c d (q i) (q j) (q k) (q l)).sub (lin4 a0 b0 c0 d0 (q i) (q j) (q k) (q l))) = 0 := by
        obtain ⟨z1, z2, z3⟩ := hz
        simp only [R3.dot, z1, z2, z3]; grind
      refine ⟨z, hz1, le_tr hz2 (toward ho h0 h1 ?_ ?_ ?_)⟩ <;> simp only [lin4] <;> grind
/-- what a face says of its point -/
def CandL (q : Nat → R3) (m : Nat) : List Nat → R3 → Prop
  | [i], z => i < m ∧ z = q i
  | [i, j], z => ∃ a b, i < j ∧ j < m ∧ 0 < a ∧ 0 < b ∧ a + b = 1 ∧ z = lin2 a b (q i) (q j) ∧ z.dot ((q j).sub (q i)) = 0 ∧ ¬ ((q j).sub (q i)).zero
  | [i, j, k], z => ∃ a b c, i < j ∧ j < k ∧ k < m ∧ 0 < a ∧ 0 < b ∧ 0 < c ∧ a + b + c = 1 ∧ z = lin3 a b c (q i) (q j) (q k) ∧ z.dot ((q j).sub (q i)) = 0 ∧ z.dot ((q k).sub (q i)) = 0 ∧ ¬ (((q j).sub (q i)).cross ((q k).sub (q i))).zero
  | _, _ => False
def facesOf (m : Nat) : List (List Nat) :=
  ((List.range m).map fun i => [i]) ++ ((List.range m).flatMap fun i => (List.range m).map fun j => [i, j]) ++ ((List.range m).flatMap fun i => (List.range m).flatMap fun j => (List.range m).map fun k => [i, j, k])
theorem cand_iff {q : Nat → R3} {m : Nat} {z : R3} : Cand q m z ↔ ∃ l ∈ facesOf m, CandL q m l z := by
  constructor
  · rintro (⟨i, h, e⟩ | ⟨i, j, a, b, h1, h2, h⟩ | ⟨i, j, k, a, b, c, h1, h2, h3, h⟩)
    · refine ⟨[i], ?_, h, e⟩
      simp [facesOf]; omega
    · refine ⟨[i, j], ?_, a, b, h1, h2, h⟩
      simp [facesOf]; omega
    · refine ⟨[i, j, k], ?_, a, b, c, h1, h2, h3, h⟩
      simp only [facesOf, List.mem_append, List.mem_flatMap, List.mem_map, List.mem_range]
      exact Or.inr ⟨i, by omega, j, by omega, k, h3, rfl⟩
  · rintro ⟨l, _, h⟩
    match l, h with
    | [i], h => exact Or.inl ⟨i, h⟩
    | [i, j], ⟨a, b, h⟩ => exact Or.inr (Or.inl ⟨i, j, a, b, h⟩)
    | [i, j, k], ⟨a, b, c, h⟩ => exact Or.inr (Or.inr ⟨i, j, k, a, b, c, h⟩)
theorem fan2 (z p q : R3) {b b0 : Rat} : z.dot ((lin2 (1 - b) b p q).sub (lin2 (1 - b0) b0 p q)) = (b - b0) * z.dot (q.sub p) := by
  cases p; cases q; cases z
  simp only [lin2, R3.dot, R3.sub]; grind
theorem cand_same {q : Nat → R3} {m : Nat} {l : List Nat} {z z' : R3} (h : CandL q m l z) (h' : CandL q m l z') : z.sq ≤ z'.sq := by
  match l, h, h' with
  | [i], h, h' => rw [h.2, h'.2]; exact Rat.le_refl
  | [i, j], ⟨a, b, _, _, _, _, s, e, o, _⟩, ⟨a', b', _, _, _, _, s', e', o', _⟩ =>
    apply nearer
    have e1 : a = 1 - b := by grind
    have e2 : a' = 1 - b' := by grind
    rw [e2] at e'; rw [e1] at e
    have := fan2 z (q i) (q j) (b := b') (b0 := b)
    rw [← e', ← e, o] at this
    rw [this]; grind
  | [i, j, k], ⟨a, b, c, _, _, _, _, _, _, s, e, o, p, _⟩, ⟨a', b', c', _, _, _, _, _, _, s', e', o', p', _⟩ =>
    apply nearer
    have e1 : a = 1 - b - c := by grind
    have e2 : a' = 1 - b' - c' := by grind
    rw [e2] at e'; rw [e1] at e
    have := fan3 z (q i) (q j) (q k) (b := b') (b0 := b) (c := c') (c0 := c)
    rw [← e', ← e, o, p] at this
    rw [this]; grind
theorem cand_min_of (q : Nat → R3) (m : Nat) : ∀ L : List (List Nat), (∃ l ∈ L, ∃ z, CandL q m l z) → ∃ l ∈ L, ∃ z, CandL q m l z ∧ ∀ l' ∈ L, ∀ z', CandL q m l' z' → z.sq ≤ z'.sq
  | [], h => by obtain ⟨l, h, _⟩ := h; cases h
  | x :: L, h => by
    by_cases hL : ∃ l ∈ L, ∃ z, CandL q m l z
    · obtain ⟨l, hl, z, hz, hm⟩ := cand_min_of q m L hL
      by_cases hx : ∃ w, CandL q m x w ∧ w.sq < z.sq
      · obtain ⟨w, hw, hlt⟩ := hx
        refine ⟨x, List.mem_cons_self .., w, hw, ?_⟩
        intro l' hl' z' hz'
        rcases List.mem_cons.1 hl' with rfl | hl'
        · exact cand_same hw hz'
        · have := hm l' hl' z' hz'; grind
      · refine ⟨l, List.mem_cons_of_mem _ hl, z, hz, ?_⟩
        intro l' hl' z' hz'
        rcases List.mem_cons.1 hl' with rfl | hl'
        · apply Classical.byContradiction
          intro hn
          exact hx ⟨z', hz', by grind⟩
        · exact hm l' hl' z' hz'
    · obtain ⟨l, hl, z, hz⟩ := h
      rcases List.mem_cons.1 hl with rfl | hl
      · refine ⟨l, List.mem_cons_self .., z, hz, ?_⟩
        intro l' hl' z' hz'
        rcases List.mem_cons.1 hl' with rfl | hl'
        · exact cand_same hz hz'
        · exact absurd ⟨l', hl', z', hz'⟩ hL
      · exact absurd ⟨l, hl, z, hz⟩ hL
theorem cand_min {q : Nat → R3} {m : Nat} (hm : 0 < m) : ∃ z, Cand q m z ∧ ∀ z', Cand q m z' → z.sq ≤ z'.sq := by
  obtain ⟨l, hl, z, hz, hmin⟩ := cand_min_of q m (facesOf m) (by obtain ⟨l, h, h'⟩ := cand_iff.1 (near1 (q := q) hm); exact ⟨l, h, _, h'⟩)
  refine ⟨z, cand_iff.2 ⟨l, hl, hz⟩, fun z' hz' => ?_⟩
  obtain ⟨l', hl', h'⟩ := cand_iff.1 hz'
  exact hmin l' hl' z' h'
/-- a point before the nearest one's plane leads nearer -/
theorem closer {z p : R3} (h : z.dot p < z.sq) : ∃ t, 0 < t ∧ t ≤ 1 ∧ ∀ y : R3, y.x = (1 - t) * z.x + t * p.x → y.y = (1 - t) * z.y + t * p.y → y.z = (1 - t) * z.z + t * p.z → y.sq < z.sq := by
  have hD := rdot_nn (p.sub z)
  obtain ⟨d, hd⟩ : ∃ d, d = z.sq - z.dot p := ⟨_, rfl⟩
  obtain ⟨D, hDe⟩ : ∃ D, D = (p.sub z).dot (p.sub z) := ⟨_, rfl⟩
  rw [← hDe] at hD
  have hpos : 0 < d := by grind
  have hsum : 0 < d + D := by grind
  obtain ⟨t, ht⟩ : ∃ t, t = d / (d + D) := ⟨_, rfl⟩
  have et : t * (d + D) = d := by rw [ht]; grind
  have t0 : 0 < t := by
    apply Classical.byContradiction
    intro hn
    have := rmul_nn (show 0 ≤ -t by grind) (show 0 ≤ d + D by grind)
    grind
  have t1 : t ≤ 1 := by
    apply Classical.byContradiction
    intro hn
    have := Rat.mul_pos (show 0 < t - 1 by grind) hsum
    grind
  refine ⟨t, t0, t1, ?_⟩
  intro y hx hy hz
  have e : y.sq = z.sq - 2 * t * d + t * (t * D) := by
    rw [hd, hDe]
    obtain ⟨y1, y2, y3⟩ := y; obtain ⟨z1, z2, z3⟩ := z; obtain ⟨p1, p2, p3⟩ := p
    simp only [R3.sq, R3.dot, R3.sub] at *
    subst hx hy hz
    grind
  have e2 : t * D = d - t * d := by grind
  have h1 := Rat.mul_pos t0 hpos
  have h2 := Rat.mul_pos t0 h1
  rw [e, e2]; grind
theorem onface2 {z p q : R3} {a b : Rat} (hs : a + b = 1) (hz : z = lin2 a b p q) (ho : z.dot (q.sub p) = 0) : z.sq = z.dot p ∧ z.sq = z.dot q := by
  have e : z.sq = z.dot p + b * z.dot (q.sub p) := by
    have : z.dot (lin2 a b p q) = z.dot p + b * z.dot (q.sub p) := by
      have e1 : a = 1 - b := by grind
      rw [e1]
      cases z; cases p; cases q; simp only [lin2, R3.dot, R3.sub]; grind
    rw [← hz] at this; exact this
  have e3 : z.dot q = z.dot p + z.dot (q.sub p) := by cases z; cases p; cases q; simp only [R3.dot, R3.sub]; grind
  rw [ho] at e e3
  grind
theorem onface3 {z p q r : R3} {a b c : Rat} (hs : a + b + c = 1) (hz : z = lin3 a b c p q r) (ho : z.dot (q.sub p) = 0) (hp : z.dot (r.sub p) = 0) : z.sq = z.dot p ∧ z.sq = z.dot q ∧ z.sq = z.dot r := by
  have e : z.sq = z.dot p + b * z.dot (q.sub p) + c * z.dot (r.sub p) := by
    have : z.dot (lin3 a b c p q r) = z.dot p + b * z.dot (q.sub p) + c * z.dot (r.sub p) := by
      have e1 : a = 1 - b - c := by grind
      rw [e1]
      cases z; cases p; cases q; cases r; simp only [lin3, R3.dot, R3.sub]; grind
    rw [← hz] at this; exact this
  have e3 : z.dot q = z.dot p + z.dot (q.sub p) := by cases z; cases p; cases q; simp only [R3.dot, R3.sub]; grind
  have e4 : z.dot r = z.dot p + z.dot (r.sub p) := by cases z; cases p; cases r; simp only [R3.dot, R3.sub]; grind
  rw [ho, hp] at e; rw [ho] at e3; rw [hp] at e4
  grind
theorem sep {q : Nat → R3} {m : Nat} (hm : 0 < m) : Tet q m ∨ ∃ z, Cand q m z ∧ ∀ i, i < m → z.sq ≤ z.dot (q i) := by
  by_cases hT : Tet q m
  · exact Or.inl hT
  right
  obtain ⟨z, hz, hmin⟩ := cand_min (q := q) hm
  refine ⟨z, hz, fun i hi => ?_⟩
  apply Classical.byContradiction
  intro hn
  have hlt : z.dot (q i) < z.sq := by grind
  obtain ⟨t, t0, t1, ht⟩ := closer hlt
  have fin : ∀ y : R3, y.x = (1 - t) * z.x + t * (q i).x → y.y = (1 - t) * z.y + t * (q i).y → y.z = (1 - t) * z.z + t * (q i).z → ¬ ∃ z', Cand q m z' ∧ z'.sq ≤ y.sq := by
    rintro y h1 h2 h3 ⟨z', hz', hle⟩
    have := ht y h1 h2 h3
    have := hmin z' hz'
    grind
  have fin4 : ∀ y : R3, y.x = (1 - t) * z.x + t * (q i).x → y.y = (1 - t) * z.y + t * (q i).y → y.z = (1 - t) * z.z + t * (q i).z → ¬ (Tet q m ∨ ∃ z', Cand q m z' ∧ z'.sq ≤ y.sq) := by
    rintro y h1 h2 h3 (h | h)
    · exact hT h
    · exact fin y h1 h2 h3 h
  have hu : 0 ≤ 1 - t := by grind
  rcases hz with ⟨j, hj, e⟩ | ⟨j, k, a, b, hjk, hk, ha, hb, hs, e, ho, _⟩ | ⟨j, k, l, a, b, c, hjk, hkl, hl, ha, hb, hc, hs, e, ho, hp, _⟩
  · rcases Nat.lt_trichotomy i j with h | h | h
    · refine fin _ ?_ ?_ ?_ (near2 (q := q) h hj (show 0 ≤ t by grind) hu (by grind)) <;> simp only [lin2, e] <;> grind
    · subst h; rw [e] at hlt; exact absurd hlt (by unfold R3.sq; grind)
    · refine fin _ ?_ ?_ ?_ (near2 (q := q) h hi hu (show 0 ≤ t by grind) (by grind)) <;> simp only [lin2, e] <;> grind
  · obtain ⟨o1, o2⟩ := onface2 hs e ho
    have k1 := rmul_nn hu (show 0 ≤ a by grind)
    have k2 := rmul_nn hu (show 0 ≤ b by grind)
    by_cases e1 : i = j
    · subst e1; grind
    by_cases e2 : i = k
    · subst e2; grind
    by_cases l1 : i < j
    · refine fin _ ?_ ?_ ?_ (near3 (q := q) l1 hjk hk (show 0 ≤ t by grind) k1 k2 (by grind)) <;> simp only [lin2, lin3, e] <;> grind
    by_cases l2 : i < k
    · refine fin _ ?_ ?_ ?_ (near3 (q := q) (show j < i by omega) l2 hk k1 (show 0 ≤ t by grind) k2 (by grind)) <;> simp only [lin2, lin3, e] <;> grind
    · refine fin _ ?_ ?_ ?_ (near3 (q := q) hjk (show k < i by omega) hi k1 k2 (show 0 ≤ t by grind) (by grind)) <;> simp only [lin2, lin3, e] <;> grind
  · obtain ⟨o1, o2, o3⟩ := onface3 hs e ho hp
    have k1 := rmul_nn hu (show 0 ≤ a by grind)
    have k2 := rmul_nn hu (show 0 ≤ b by grind)
    have k3 := rmul_nn hu (show 0 ≤ c by grind)
    by_cases e1 : i = j
    · subst e1; grind
    by_cases e2 : i = k
    · subst e2; grind
    by_cases e3 : i = l
    · subst e3; grind
    by_cases l1 : i < j
    · refine fin4 _ ?_ ?_ ?_ (near4 (q := q) l1 hjk hkl hl (show 0 ≤ t by grind) k1 k2 k3 (by grind)) <;> simp only [lin3, lin4, e] <;> grind
    by_cases l2 : i < k
    · refine fin4 _ ?_ ?_ ?_ (near4 (q := q) (show j < i by omega) l2 hkl hl k1 (show 0 ≤ t by grind) k2 k3 (by grind)) <;> simp only [lin3, lin4, e] <;> grind
    by_cases l3 : i < l
    · refine fin4 _ ?_ ?_ ?_ (near4 (q := q) hjk (show k < i by omega) l3 hl k1 k2 (show 0 ≤ t by grind) k3 (by grind)) <;> simp only [lin3, lin4, e] <;> grind
    · refine fin4 _ ?_ ?_ ?_ (near4 (q := q) hjk hkl (show l < i by omega) hi k1 k2 k3 (show 0 ≤ t by grind) (by grind)) <;> simp only [lin3, lin4, e] <;> grind
/-! where no recipe is, a plane lies between -/
def cV (v : V3) : R3 := ⟨(v.x : Rat), (v.y : Rat), (v.z : Rat)⟩
def qT (T : List T5) (w : V3) (i : Nat) : R3 := cV ((sh3 T i).sub w)
theorem cV_sub (u v : V3) : cV (u.sub v) = (cV u).sub (cV v) := by simp [cV, V3.sub, R3.sub, Rat.intCast_sub]
theorem cV_cross (u v : V3) : cV (u.cross v) = (cV u).cross (cV v) := by simp [cV, V3.cross, R3.cross, Rat.intCast_sub, Rat.intCast_mul]
theorem cV_dot (u v : V3) : ((u.dot v : Int) : Rat) = (cV u).dot (cV v) := by simp [cV, V3.dot, R3.dot, Rat.intCast_add, Rat.intCast_mul]
theorem q_sub (T : List T5) (w : V3) (i j : Nat) : (qT T w j).sub (qT T w i) = cV ((sh3 T j).sub (sh3 T i)) := by
  simp only [qT, cV_sub, R3.sub, R3.mk.injEq]
  refine ⟨?_, ?_, ?_⟩ <;> grind
theorem cV_zero {u : V3} : (cV u).zero ↔ u.x = 0 ∧ u.y = 0 ∧ u.z = 0 := by
  simp only [cV, R3.zero, Rat.intCast_eq_zero_iff]
def upr (T : List T5) (w : V3) : List Nat → V3
  | [p] => w.sub (sh3 T p)
  | [p, q] => ((sh3 T q).sub (sh3 T p)).cross ((w.sub (sh3 T p)).cross ((sh3 T q).sub (sh3 T p)))
  | [p, q, r] => let n := nrm T p q r; let s := sg1 (n.dot (w.sub (sh3 T p))); ⟨s * n.x, s * n.y, s * n.z⟩
  | _ => ⟨0, 0, 0⟩
theorem rat_nd (a : Rat) : ∃ n d : Int, 0 < d ∧ a * (d : Rat) = (n : Rat) := by
  refine ⟨a.num, (a.den : Int), by have := a.den_pos; omega, ?_⟩
  have h : (a.num : Rat) / ((a.den : Int) : Rat) = a := by rw [← Rat.divInt_eq_div]; exact Rat.num_divInt_den a
  have h3 : ((a.den : Int) : Rat) ≠ 0 := by
    have := a.den_nz
    intro h
    have := Rat.intCast_eq_zero_iff.1 h
    omega
  generalize ((a.den : Int) : Rat) = d at *
  grind
theorem common4 (a b c d : Rat) : ∃ M w x y z : Int, 0 < M ∧ a * (M : Rat) = (w : Rat) ∧ b * (M : Rat) = (x : Rat) ∧ c * (M : Rat) = (y : Rat) ∧ d * (M : Rat) = (z : Rat) := by
  obtain ⟨n1, d1, p1, e1⟩ := rat_nd a
  obtain ⟨n2, d2, p2, e2⟩ := rat_nd b
  obtain ⟨n3, d3, p3, e3⟩ := rat_nd c
  obtain ⟨n4, d4, p4, e4⟩ := rat_nd d
  refine ⟨d1 * d2 * d3 * d4, n1 * (d2 * d3 * d4), n2 * (d1 * d3 * d4), n3 * (d1 * d2 * d4), n4 * (d1 * d2 * d3), Int.mul_pos (Int.mul_pos (Int.mul_pos p1 p2) p3) p4, ?_, ?_, ?_, ?_⟩ <;> simp only [Rat.intCast_mul] <;> grind
theorem cast_pos {a : Rat} {M w : Int} (ha : 0 < a) (hM : 0 < M) (h : a * (M : Rat) = (w : Rat)) : 0 < w := by
  have h1 : (0 : Rat) < (M : Rat) := by have := Rat.intCast_lt_intCast.2 hM; simpa using this
  have h2 := Rat.mul_pos ha h1
  rw [h] at h2
  have h3 : ((0 : Int) : Rat) < (w : Rat) := by simpa using h2
  exact Rat.intCast_lt_intCast.1 h3
theorem has_rec {T : List T5} {n : Nat} {a b c : Int} {pl : List Nat} (h1 : 1 ≤ pl.length) (h4 : pl.length ≤ 4) (hm : pl ∈ extL n pl.length [] 0)
    (hd : ∃ ds, ds ∈ extL 3 (4 - pl.length) [] 0 ∧ detI (frm T pl ds) ≠ 0) (W : Nat → Int) (hW : ∀ i, i < pl.length → 0 < W i) (hz : ∀ i, pl.length ≤ i → i < 4 → W i = 0)
    (hs : ∀ j, j < 4 → sumR T pl W j = (W 0 + W 1 + W 2 + W 3) * row1 a b c j) : rcpL T n a b c ≠ [] := by
  have hB : rfOk T pl ⟨a, b, c⟩ = true ∧ rfPos T pl ⟨a, b, c⟩ = true := by
    rcases four pl h1 h4 with ⟨p, rfl⟩ | ⟨p, q, rfl⟩ | ⟨p, q, r, rfl⟩ | ⟨p, q, r, s, rfl⟩
    · exact coreB1 T p a b c hd W hW hz hs
    · exact coreB2 T p q a b c hd W hW hz hs
    · exact coreB3 T p q r a b c hd W hW hz hs
    · exact coreB4 T p q r s a b c hd W hW hz hs
  have hr := rec_eq T pl a b c h1 h4
  unfold rfR at hr
  rw [if_pos (by rw [hB.1, hB.2]; rfl)] at hr
  cases hf : frF T pl with
  | none => rw [hf] at hr; cases hr
  | some x =>
    rw [hf] at hr
    have hr : some (partsOf pl (rfY T pl ⟨a, b, c⟩)) = rcF a b c x := hr
    intro hnil
    have hx : x ∈ freeTo T n 4 := by
      simp only [freeTo, List.mem_flatMap, List.mem_range, List.mem_filterMap]
      exact ⟨pl.length - 1, by omega, pl, by rw [show pl.length - 1 + 1 = pl.length by omega]; exact hm, hf⟩
    have : partsOf pl (rfY T pl ⟨a, b, c⟩) ∈ rcpL T n a b c := List.mem_filterMap.2 ⟨x, hx, hr.symm⟩
    rw [hnil] at this
    cases this
theorem ext1m {n i : Nat} (h : i < n) : [i] ∈ extL n 1 [] 0 := by
  simp only [extL, List.mem_flatMap, List.mem_range, List.mem_cons, List.not_mem_nil, or_false]
  exact ⟨i, by omega, by simp⟩
theorem ext2m {n i j : Nat} (h : i < j) (h2 : j < n) : [i, j] ∈ extL n 2 [] 0 := by
  simp only [extL, List.mem_flatMap, List.mem_range, List.mem_cons, List.not_mem_nil, or_false]
  exact ⟨i, by omega, j - (i + 1), by omega, by simp; omega⟩
theorem ext3m {n i j k : Nat} (h : i < j) (h2 : j < k) (h3 : k < n) : [i, j, k] ∈ extL n 3 [] 0 := by
  simp only [extL, List.mem_flatMap, List.mem_range, List.mem_cons, List.not_mem_nil, or_false]
  exact ⟨i, by omega, j - (i + 1), by omega, k - (j + 1), by omega, by simp; omega⟩
theorem ext4m {n i j k l : Nat} (h : i < j) (h2 : j < k) (h3 : k < l) (h4 : l < n) : [i, j, k, l] ∈ extL n 4 [] 0 := by
  simp only [extL, List.mem_flatMap, List.mem_range, List.mem_cons, List.not_mem_nil, or_false]
  exact ⟨i, by omega, j - (i + 1), by omega, k - (j + 1), by omega, l - (k + 1), by omega, by simp; omega⟩
theorem sum_int {W0 W1 W2 W3 M : Int} {a b c d : Rat} {x0 x1 x2 x3 : Int} (e0 : a * (M : Rat) = (W0 : Rat)) (e1 : b * (M : Rat) = (W1 : Rat)) (e2 : c * (M : Rat) = (W2 : Rat)) (e3 : d * (M : Rat) = (W3 : Rat)) (h : a * (x0 : Rat) + b * (x1 : Rat) + c * (x2 : Rat) + d * (x3 : Rat) = 0) :
    W0 * x0 + W1 * x1 + W2 * x2 + W3 * x3 = 0 := by
  apply Rat.intCast_eq_zero_iff.1
  simp only [Rat.intCast_add, Rat.intCast_mul]
  rw [← e0, ← e1, ← e2, ← e3]
  grind
def W4 (w x y z : Int) : Nat → Int := fun i => if i = 0 then w else if i = 1 then x else if i = 2 then y else if i = 3 then z else 0
theorem W40 (w x y z : Int) : W4 w x y z 0 = w := rfl
theorem W41 (w x y z : Int) : W4 w x y z 1 = x := rfl
theorem W42 (w x y z : Int) : W4 w x y z 2 = y := rfl
theorem W43 (w x y z : Int) : W4 w x y z 3 = z := rfl
theorem i4 {P : Nat → Prop} {n : Nat} (hn : n ≤ 4) (h0 : 0 < n → P 0) (h1 : 1 < n → P 1) (h2 : 2 < n → P 2) (h3 : 3 < n → P 3) : ∀ i, i < n → P i := by
  intro i hi
  have : i = 0 ∨ i = 1 ∨ i = 2 ∨ i = 3 := by omega
  rcases this with rfl | rfl | rfl | rfl
  · exact h0 hi
  · exact h1 hi
  · exact h2 hi
  · exact h3 hi
theorem qx (T : List T5) (a b c : Int) (i : Nat) : (qT T ⟨a, b, c⟩ i).x = ((tA T i - a : Int) : Rat) ∧ (qT T ⟨a, b, c⟩ i).y = ((tB T i - b : Int) : Rat) ∧ (qT T ⟨a, b, c⟩ i).z = ((tC T i - c : Int) : Rat) := ⟨rfl, rfl, rfl⟩
theorem back1 {w x a : Int} (h : w * (x - a) + 0 * 0 + 0 * 0 + 0 * 0 = 0) : w * x = (w + 0 + 0 + 0) * a := by grind
theorem back2 {w v x y a : Int} (h : w * (x - a) + v * (y - a) + 0 * 0 + 0 * 0 = 0) : w * x + v * y = (w + v + 0 + 0) * a := by grind
theorem back3 {w v u x y z a : Int} (h : w * (x - a) + v * (y - a) + u * (z - a) + 0 * 0 = 0) : w * x + v * y + u * z = (w + v + u + 0) * a := by grind
theorem back4 {w v u t x y z r a : Int} (h : w * (x - a) + v * (y - a) + u * (z - a) + t * (r - a) = 0) : w * x + v * y + u * z + t * r = (w + v + u + t) * a := by grind
theorem zero_rec {T : List T5} {n : Nat} {a b c : Int} {z : R3} (h : Cand (qT T ⟨a, b, c⟩) n z) (hz : z.zero) : rcpL T n a b c ≠ [] := by
  obtain ⟨z1, z2, z3⟩ := hz
  rcases h with ⟨i, hi, e⟩ | ⟨i, j, u, v, hij, hj, hu, hv, hs, e, ho, hn⟩ | ⟨i, j, k, u, v, w, hij, hjk, hk, hu, hv, hw, hs, e, ho, hp, hn⟩
  · obtain ⟨x1, x2, x3⟩ := qx T a b c i
    rw [e] at z1 z2 z3
    rw [x1] at z1; rw [x2] at z2; rw [x3] at z3
    have z1 := Rat.intCast_eq_zero_iff.1 z1
    have z2 := Rat.intCast_eq_zero_iff.1 z2
    have z3 := Rat.intCast_eq_zero_iff.1 z3
    refine has_rec (pl := [i]) (by simp) (by simp) (ext1m hi) ⟨[0, 1, 2], by show _ ∈ extL 3 3 [] 0; rw [ext3.1]; simp, by rw [det1]; decide⟩ (W4 1 0 0 0) (i4 (by simp) (fun _ => by decide) (by simp) (by simp) (by simp)) ?_ ?_
    · intro i h1 h4; have : i = 1 ∨ i = 2 ∨ i = 3 := by simp at h1; omega
      rcases this with rfl | rfl | rfl <;> rfl
    · apply j4 <;> simp only [sumR1, W40, W41, W42, W43, rowT0, rowT1, rowT2, rowT3, row10, row11, row12, row13] <;> omega
  · obtain ⟨M, w0, w1, w2, w3, hM, e0, e1, e2, e3⟩ := common4 u v 0 0
    have p0 := cast_pos hu hM e0
    have p1 := cast_pos hv hM e1
    obtain ⟨x1, x2, x3⟩ := qx T a b c i
    obtain ⟨y1, y2, y3⟩ := qx T a b c j
    have c2 : w2 = 0 := Rat.intCast_eq_zero_iff.1 (by rw [← e2]; grind)
    have c3 : w3 = 0 := Rat.intCast_eq_zero_iff.1 (by rw [← e3]; grind)
    subst c2 c3
    rw [e] at z1 z2 z3
    simp only [lin2, x1, x2, x3, y1, y2, y3] at z1 z2 z3
    rw [q_sub, cV_zero] at hn
    refine has_rec (pl := [i, j]) (by simp) (by simp) (ext2m hij hj) (det2.2 hn) (W4 w0 w1 0 0) (i4 (by simp) (fun _ => p0) (fun _ => p1) (by simp) (by simp)) ?_ ?_
    · intro i h1 h4; have : i = 2 ∨ i = 3 := by simp at h1; omega
      rcases this with rfl | rfl <;> rfl
    · apply j4 <;> simp only [sumR2, W40, W41, W42, W43, rowT0, rowT1, rowT2, rowT3, row10, row11, row12, row13]
      · omega
      · exact back2 (sum_int (x2 := 0) (x3 := 0) e0 e1 e2 e3 (by grind))
      · exact back2 (sum_int (x2 := 0) (x3 := 0) e0 e1 e2 e3 (by grind))
      · exact back2 (sum_int (x2 := 0) (x3 := 0) e0 e1 e2 e3 (by grind))
  · obtain ⟨M, w0, w1, w2, w3, hM, e0, e1, e2, e3⟩ := common4 u v w 0
    have p0 := cast_pos hu hM e0
    have p1 := cast_pos hv hM e1
    have p2 := cast_pos hw hM e2
    obtain ⟨x1, x2, x3⟩ := qx T a b c i
    obtain ⟨y1, y2, y3⟩ := qx T a b c j
    obtain ⟨t1, t2, t3⟩ := qx T a b c k
    have c3 : w3 = 0 := Rat.intCast_eq_zero_iff.1 (by rw [← e3]; grind)
    subst c3
    rw [e] at z1 z2 z3
    simp only [lin3, x1, x2, x3, y1, y2, y3, t1, t2, t3] at z1 z2 z3
    rw [q_sub, q_sub, ← cV_cross, cV_zero] at hn
    refine has_rec (pl := [i, j, k]) (by simp) (by simp) (ext3m hij hjk hk) (det3.2 hn) (W4 w0 w1 w2 0) (i4 (by simp) (fun _ => p0) (fun _ => p1) (fun _ => p2) (by simp)) ?_ ?_
    · intro i h1 h4; have : i = 3 := by simp at h1; omega
      subst this; rfl
    · apply j4 <;> simp only [sumR3, W40, W41, W42, W43, rowT0, rowT1, rowT2, rowT3, row10, row11, row12, row13]
      · omega
      · exact back3 (sum_int (x3 := 0) e0 e1 e2 e3 (by grind))
      · exact back3 (sum_int (x3 := 0) e0 e1 e2 e3 (by grind))
      · exact back3 (sum_int (x3 := 0) e0 e1 e2 e3 (by grind))
theorem tet_rec {T : List T5} {n : Nat} {a b c : Int} (h : Tet (qT T ⟨a, b, c⟩) n) : rcpL T n a b c ≠ [] := by
  obtain ⟨i, j, k, l, u, v, w, y, hij, hjk, hkl, hl, hu, hv, hw, hy, hs, ⟨z1, z2, z3⟩, hn⟩ := h
  obtain ⟨M, w0, w1, w2, w3, hM, e0, e1, e2, e3⟩ := common4 u v w y
  have p0 := cast_pos hu hM e0
  have p1 := cast_pos hv hM e1
  have p2 := cast_pos hw hM e2
  have p3 := cast_pos hy hM e3
  obtain ⟨x1, x2, x3⟩ := qx T a b c i
  obtain ⟨y1, y2, y3⟩ := qx T a b c j
  obtain ⟨t1, t2, t3⟩ := qx T a b c k
  obtain ⟨s1, s2, s3⟩ := qx T a b c l
  simp only [lin4, x1, x2, x3, y1, y2, y3, t1, t2, t3, s1, s2, s3] at z1 z2 z3
  rw [q_sub, q_sub, q_sub, ← cV_cross, ← cV_dot] at hn
  refine has_rec (pl := [i, j, k, l]) (by simp) (by simp) (ext4m hij hjk hkl hl) (det4x.2 (fun h0 => hn (by unfold nrm at h0; rw [h0]; rfl))) (W4 w0 w1 w2 w3) (i4 (by simp) (fun _ => p0) (fun _ => p1) (fun _ => p2) (fun _ => p3)) ?_ ?_
  · intro i h1 h4; simp at h1; omega
  · apply j4 <;> simp only [sumR4, W40, W41, W42, W43, rowT0, rowT1, rowT2, rowT3, row10, row11, row12, row13]
    · omega
    · exact back4 (sum_int e0 e1 e2 e3 z1)
    · exact back4 (sum_int e0 e1 e2 e3 z2)
    · exact back4 (sum_int e0 e1 e2 e3 z3)
/-- a vector against the nearest point -/
def Against (N z : R3) : Prop := ∃ l : Rat, 0 < l ∧ N.x = -(l * z.x) ∧ N.y = -(l * z.y) ∧ N.z = -(l * z.z)
theorem against_neg {N z p : R3} (h : Against N z) (hp : 0 < z.dot p) : N.dot p < 0 := by
  obtain ⟨l, hl, e1, e2, e3⟩ := h
  have := Rat.mul_pos hl hp
  have e : N.dot p = -(l * z.dot p) := by
    simp only [R3.dot, e1, e2, e3]; grind
  rw [e]; grind
theorem dir1 (T : List T5) (w : V3) (i : Nat) : Against (cV (upr T w [i])) (qT T w i) := by
  refine ⟨1, by grind, ?_⟩
  simp only [upr, qT, cV, V3.sub, Rat.intCast_sub]
  refine ⟨?_, ?_, ?_⟩ <;> grind
theorem dir2 (T : List T5) (w : V3) (i j : Nat) {a b : Rat} {z : R3} (hs : a + b = 1) (e : z = lin2 a b (qT T w i) (qT T w j)) (ho : z.dot ((qT T w j).sub (qT T w i)) = 0) (hn : ¬ ((qT T w j).sub (qT T w i)).zero) : Against (cV (upr T w [i, j])) z := by
  refine ⟨_, rdot_pos hn, ?_⟩
  have hu : cV (upr T w [i, j]) = ((qT T w j).sub (qT T w i)).cross ((cV (w.sub (sh3 T i))).cross ((qT T w j).sub (qT T w i))) := by
    simp only [upr, cV_cross, q_sub]
  have hw : cV (w.sub (sh3 T i)) = ⟨-(qT T w i).x, -(qT T w i).y, -(qT T w i).z⟩ := by
    simp only [cV, qT, V3.sub, Rat.intCast_sub, R3.mk.injEq]
    refine ⟨?_, ?_, ?_⟩ <;> grind
  rw [hu, hw]
  generalize qT T w i = p at *
  generalize qT T w j = q at *
  have e1 : a = 1 - b := by grind
  rw [e1] at e
  clear hu hw hn e1 hs
  have hz : z.x = p.x + b * (q.x - p.x) ∧ z.y = p.y + b * (q.y - p.y) ∧ z.z = p.z + b * (q.z - p.z) := by
    subst e; simp only [lin2]; refine ⟨?_, ?_, ?_⟩ <;> grind
  clear e
  obtain ⟨u, hu⟩ : ∃ u, u = q.sub p := ⟨_, rfl⟩
  have hux : q.x - p.x = u.x ∧ q.y - p.y = u.y ∧ q.z - p.z = u.z := by subst hu; exact ⟨rfl, rfl, rfl⟩
  rw [hux.1, hux.2.1, hux.2.2] at hz
  rw [← hu] at ho ⊢
  clear hux hu
  obtain ⟨u1, u2, u3⟩ := u; obtain ⟨p1, p2, p3⟩ := p; obtain ⟨z1, z2, z3⟩ := z
  obtain ⟨h1, h2, h3⟩ := hz
  simp only [R3.dot, R3.cross] at *
  refine ⟨?_, ?_, ?_⟩ <;> grind
theorem along_n (u v z : R3) (h1 : z.dot u = 0) (h2 : z.dot v = 0) : (u.cross v).dot (u.cross v) * z.x = z.dot (u.cross v) * (u.cross v).x ∧ (u.cross v).dot (u.cross v) * z.y = z.dot (u.cross v) * (u.cross v).y ∧ (u.cross v).dot (u.cross v) * z.z = z.dot (u.cross v) * (u.cross v).z := by
  obtain ⟨u1, u2, u3⟩ := u; obtain ⟨v1, v2, v3⟩ := v; obtain ⟨z1, z2, z3⟩ := z
  simp only [R3.dot, R3.cross] at *
  refine ⟨?_, ?_, ?_⟩ <;> grind
theorem dir3 (T : List T5) (w : V3) (i j k : Nat) {a b c : Rat} {z : R3} (hs : a + b + c = 1) (e : z = lin3 a b c (qT T w i) (qT T w j) (qT T w k)) (ho : z.dot ((qT T w j).sub (qT T w i)) = 0) (hp : z.dot ((qT T w k).sub (qT T w i)) = 0) (hn : ¬ (((qT T w j).sub (qT T w i)).cross ((qT T w k).sub (qT T w i))).zero) (hz : ¬ z.zero) : Against (cV (upr T w [i, j, k])) z := by
  have hpos := rdot_pos hn
  have hN : cV (nrm T i j k) = ((qT T w j).sub (qT T w i)).cross ((qT T w k).sub (qT T w i)) := by
    simp only [nrm, cV_cross, q_sub]
  have hw : cV (w.sub (sh3 T i)) = ⟨-(qT T w i).x, -(qT T w i).y, -(qT T w i).z⟩ := by
    simp only [cV, qT, V3.sub, Rat.intCast_sub, R3.mk.injEq]
    refine ⟨?_, ?_, ?_⟩ <;> grind
  obtain ⟨n1, n2, n3⟩ := along_n _ _ z ho hp
  -- the way's side
  have hside : (((nrm T i j k).dot (w.sub (sh3 T i)) : Int) : Rat) = -(z.dot (((qT T w j).sub (qT T w i)).cross ((qT T w k).sub (qT T w i)))) := by
    rw [cV_dot, hN, hw, e]
    have e1 : a = 1 - b - c := by grind
    rw [e1]
    generalize qT T w i = p; generalize qT T w j = q; generalize qT T w k = r
    cases p; cases q; cases r
    simp only [R3.dot, R3.cross, R3.sub, lin3]; grind
  rw [← hN] at n1 n2 n3 hpos hside
  obtain ⟨N, hNe⟩ : ∃ N, N = cV (nrm T i j k) := ⟨_, rfl⟩
  have hup : cV (upr T w [i, j, k]) = ⟨(sg1 ((nrm T i j k).dot (w.sub (sh3 T i))) : Rat) * N.x, (sg1 ((nrm T i j k).dot (w.sub (sh3 T i))) : Rat) * N.y, (sg1 ((nrm T i j k).dot (w.sub (sh3 T i))) : Rat) * N.z⟩ := by
    rw [hNe]; simp only [upr, cV, Rat.intCast_mul]
  rw [← hNe] at n1 n2 n3 hpos hside
  generalize (nrm T i j k).dot (w.sub (sh3 T i)) = s at *
  obtain ⟨g, hg⟩ : ∃ g, g = z.dot N := ⟨_, rfl⟩
  rw [← hg] at n1 n2 n3 hside
  generalize hnn : N.dot N = nn at *
  have hg0 : g ≠ 0 := by
    intro h0
    rw [h0] at n1 n2 n3
    exact hz ⟨by grind, by grind, by grind⟩
  have hne : nn ≠ 0 := by grind
  rw [hup]
  by_cases hs0 : s < 0
  · have h1 : (s : Rat) < 0 := by have := Rat.intCast_lt_intCast.2 hs0; simpa using this
    have h2 : 0 < g := by grind
    rw [show sg1 s = -1 by unfold sg1; exact if_pos hs0]
    refine ⟨nn / g, ?_, ?_⟩
    · apply Classical.byContradiction
      intro h3
      have h4 := rmul_nn (show 0 ≤ -(nn / g) by grind) (show 0 ≤ g by grind)
      have h5 : nn / g * g = nn := by grind
      grind
    · obtain ⟨t, ht⟩ : ∃ t, t = nn / g := ⟨_, rfl⟩
      have h5 : t * g = nn := by grind
      rw [← ht]
      have e1 : ((-1 : Int) : Rat) = -1 := by simp
      simp only [e1]
      refine ⟨?_, ?_, ?_⟩ <;> grind
  · have h1 : ¬ (s : Rat) < 0 := by
      intro h
      have : ((s : Int) : Rat) < ((0 : Int) : Rat) := by simpa using h
      exact hs0 (Rat.intCast_lt_intCast.1 this)
    have h2 : g < 0 := by grind
    rw [show sg1 s = 1 by unfold sg1; exact if_neg hs0]
    refine ⟨nn / (-g), ?_, ?_⟩
    · apply Classical.byContradiction
      intro h3
      have h4 := rmul_nn (show 0 ≤ -(nn / (-g)) by grind) (show 0 ≤ -g by grind)
      have h5 : nn / (-g) * (-g) = nn := by grind
      grind
    · obtain ⟨t, ht⟩ : ∃ t, t = nn / (-g) := ⟨_, rfl⟩
      have h5 : t * (-g) = nn := by grind
      rw [← ht]
      have e1 : ((1 : Int) : Rat) = 1 := by simp
      simp only [e1]
      refine ⟨?_, ?_, ?_⟩ <;> grind
/-- where no recipe is, one of the directions has all tints behind the shade -/
theorem plane_found {T : List T5} {n : Nat} {a b c : Int} (hn : 0 < n) (h : rcpL T n a b c = []) :
    ∃ pl, (pl ∈ extL n 1 [] 0 ∨ pl ∈ extL n 2 [] 0 ∨ pl ∈ extL n 3 [] 0) ∧ ∀ i, i < n → (upr T ⟨a, b, c⟩ pl).dot (sh3 T i) < (upr T ⟨a, b, c⟩ pl).dot ⟨a, b, c⟩ := by
  rcases sep (q := qT T ⟨a, b, c⟩) hn with hT | ⟨z, hz, hs⟩
  · exact absurd h (tet_rec hT)
  have hnz : ¬ z.zero := fun h0 => zero_rec hz h0 h
  have hpos := rdot_pos hnz
  have fin : ∀ pl, Against (cV (upr T ⟨a, b, c⟩ pl)) z → ∀ i, i < n → (upr T ⟨a, b, c⟩ pl).dot (sh3 T i) < (upr T ⟨a, b, c⟩ pl).dot ⟨a, b, c⟩ := by
    intro pl hA i hi
    have h1 : 0 < z.dot (qT T ⟨a, b, c⟩ i) := by have := hs i hi; unfold R3.sq at this; grind
    have h2 := against_neg hA h1
    unfold qT at h2
    rw [← cV_dot] at h2
    have h3 : ((upr T ⟨a, b, c⟩ pl).dot ((sh3 T i).sub ⟨a, b, c⟩)) < 0 := by
      have : (((upr T ⟨a, b, c⟩ pl).dot ((sh3 T i).sub ⟨a, b, c⟩) : Int) : Rat) < ((0 : Int) : Rat) := by simpa using h2
      exact Rat.intCast_lt_intCast.1 this
    generalize upr T ⟨a, b, c⟩ pl = N at *
    generalize sh3 T i = p at *
    cases N; cases p
    simp only [V3.dot, V3.sub] at *
    grind
  rcases hz with ⟨i, hi, e⟩ | ⟨i, j, u, v, hij, hj, hu, hv, hs1, e, ho, hn1⟩ | ⟨i, j, k, u, v, w, hij, hjk, hk, hu, hv, hw, hs1, e, ho, hp, hn1⟩
  · exact ⟨[i], Or.inl (ext1m hi), fin _ (by rw [e]; exact dir1 ..)⟩
  · exact ⟨[i, j], Or.inr (Or.inl (ext2m hij hj)), fin _ (dir2 _ _ _ _ hs1 e ho hn1)⟩
  · exact ⟨[i, j, k], Or.inr (Or.inr (ext3m hij hjk hk)), fin _ (dir3 _ _ _ _ _ hs1 e ho hp hn1 hnz)⟩

end Go.Proofs.Ytpjekinmcdglbaa
