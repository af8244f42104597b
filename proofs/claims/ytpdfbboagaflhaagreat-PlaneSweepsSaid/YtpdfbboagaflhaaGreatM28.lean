/- What slices.Compact leaves of segments in a slice that the call owns: plain lemmas. -/
import Derived.Test.YtpdfbboagaflhaaGreatM22
import Derived.Test.YtpdfbboagaflhaaGreatM26
import Derived.Test.YtpdfbboagaflhaaGreatM10

namespace Go.Proofs.YtpdfbboagaflhaaGreat
open Go.RowKit

def sAt (l : List S4) (i : Nat) : S4 := l.getD i (0, 0, 0, 0)
def sameS (l : List S4) (i j : Nat) : Bool := q1 l i == q1 l j && q2 l i == q2 l j && q3 l i == q3 l j && q4 l i == q4 l j
/-- the first m segments without those that are as the one before them -/
def ddS (l : List S4) : Nat → List S4
  | 0 => []
  | k + 1 => if k = 0 ∨ sameS l k (k - 1) = false then ddS l k ++ [(q1 l k, q2 l k, q3 l k, q4 l k)] else ddS l k
theorem ddS_le (l : List S4) : ∀ k, (ddS l k).length ≤ k
  | 0 => by simp [ddS]
  | k + 1 => by have := ddS_le l k; simp only [ddS]; split <;> simp <;> omega
theorem ddS_keep {l : List S4} {k : Nat} (h : k = 0 ∨ sameS l k (k - 1) = false) : ddS l (k + 1) = ddS l k ++ [(q1 l k, q2 l k, q3 l k, q4 l k)] := by simp only [ddS]; rw [if_pos h]
theorem ddS_skip {l : List S4} {k : Nat} (h0 : 0 < k) (h : sameS l k (k - 1) = true) : ddS l (k + 1) = ddS l k := by
  simp only [ddS]; rw [if_neg]; rintro (h1 | h1); omega; rw [h] at h1; cases h1
theorem sameS_yes {l : List S4} {i j : Nat} (h1 : q1 l i = q1 l j) (h2 : q2 l i = q2 l j) (h3 : q3 l i = q3 l j) (h4 : q4 l i = q4 l j) : sameS l i j = true := by simp [sameS, h1, h2, h3, h4]
theorem sameS_no {l : List S4} {i j : Nat} (h : ¬ (q1 l i = q1 l j ∧ q2 l i = q2 l j ∧ q3 l i = q3 l j ∧ q4 l i = q4 l j)) : sameS l i j = false := by
  rw [Bool.eq_false_iff]; intro h1; simp [sameS] at h1; exact h ⟨h1.1.1.1, h1.1.1.2, h1.1.2, h1.2⟩
theorem take_extS (l : List S4) (k : Nat) (h : k < l.length) : l.take (k + 1) = l.take k ++ [(q1 l k, q2 l k, q3 l k, q4 l k)] := by
  rw [List.take_succ_eq_append_getElem h]; simp only [q1, q2, q3, q4, List.getD_eq_getElem?_getD, List.getElem?_eq_getElem h, Option.getD_some]

theorem segCells_take (l : List S4) (k : Nat) : (segCells l).take (k * 4) = segCells (l.take k) := by
  induction l generalizing k with
  | nil => simp [segCells]
  | cons s l ih =>
    cases k with
    | zero => simp [segCells]
    | succ k =>
      have e : segCells (s :: l) = [.int .i64 s.1, .int .i64 s.2.1, .int .i64 s.2.2.1, .int .i64 s.2.2.2] ++ segCells l := by simp [segCells]
      have e2 : segCells (s :: l.take k) = [.int .i64 s.1, .int .i64 s.2.1, .int .i64 s.2.2.1, .int .i64 s.2.2.2] ++ segCells (l.take k) := by simp [segCells]
      rw [List.take_succ_cons, e, e2, ← ih k, show (k + 1) * 4 = k * 4 + 1 + 1 + 1 + 1 by omega]; rfl
theorem segCells_set (l : List S4) (k : Nat) (a b c d : Int) : ((((segCells l).set (k * 4) (.int .i64 a)).set (k * 4 + 1) (.int .i64 b)).set (k * 4 + 2) (.int .i64 c)).set (k * 4 + 3) (.int .i64 d) = segCells (l.set k (a, b, c, d)) := by
  induction l generalizing k with
  | nil => simp [segCells]
  | cons s l ih =>
    have e : segCells (s :: l) = .int .i64 s.1 :: .int .i64 s.2.1 :: .int .i64 s.2.2.1 :: .int .i64 s.2.2.2 :: segCells l := by simp [segCells]
    cases k with
    | zero => rw [e]; simp [segCells]
    | succ k =>
      have e2 : segCells (s :: l.set k (a, b, c, d)) = .int .i64 s.1 :: .int .i64 s.2.1 :: .int .i64 s.2.2.1 :: .int .i64 s.2.2.2 :: segCells (l.set k (a, b, c, d)) := by simp [segCells]
      rw [List.set_cons_succ, e, e2, ← ih k, show (k + 1) * 4 = k * 4 + 1 + 1 + 1 + 1 by omega]; rfl
theorem segCells_length (a : List S4) : (segCells a).length = a.length * 4 := by
  induction a with
  | nil => rfl
  | cons s a ih => rw [show segCells (s :: a) = [.int .i64 s.1, .int .i64 s.2.1, .int .i64 s.2.2.1, .int .i64 s.2.2.2] ++ segCells a by simp [segCells], List.length_append, ih]; simp; omega
theorem segCells_append (a b : List S4) : segCells (a ++ b) = segCells a ++ segCells b := by simp [segCells]
theorem segCells_one (a : List S4) : ∀ u ∈ segCells a, u.oneCell' = true := by
  intro u hu
  simp only [segCells, List.mem_flatMap] at hu
  obtain ⟨s, _, hs⟩ := hu
  simp at hs
  rcases hs with rfl | rfl | rfl | rfl <;> rfl

/-- the row while the second loop runs: kk segments are kept, those behind are as they were -/
def MidS (l m : List S4) (kk j : Nat) : Prop := m.length = l.length ∧ m.take kk = ddS l j ∧ kk < j ∧ kk = (ddS l j).length ∧ ∀ i, kk ≤ i → q1 m i = q1 l i ∧ q2 m i = q2 l i ∧ q3 m i = q3 l i ∧ q4 m i = q4 l i
theorem MidS.skip {l m : List S4} {kk j : Nat} (h : MidS l m kk j) (h0 : 0 < j) (hs : sameS l j (j - 1) = true) : MidS l m kk (j + 1) := by
  obtain ⟨h1, h2, h3, h4, h5⟩ := h
  exact ⟨h1, by rw [ddS_skip h0 hs]; exact h2, by omega, by rw [ddS_skip h0 hs]; exact h4, h5⟩
theorem MidS.keep {l m : List S4} {kk j : Nat} (h : MidS l m kk j) (hj : j < l.length) (hs : sameS l j (j - 1) = false) : MidS l (m.set kk (q1 l j, q2 l j, q3 l j, q4 l j)) (kk + 1) (j + 1) := by
  obtain ⟨h1, h2, h3, h4, h5⟩ := h
  refine ⟨by rw [List.length_set]; exact h1, ?_, by omega, by rw [ddS_keep (.inr hs), List.length_append, ← h4]; rfl, fun i hi => ?_⟩
  · rw [ddS_keep (.inr hs), ← h2]
    have hk : kk < m.length := by omega
    rw [List.take_succ_eq_append_getElem (by simpa using hk)]
    simp [List.take_set]
    rw [List.set_eq_of_length_le (by simp; omega)]
  · have := h5 i (by omega)
    simpa [q1, q2, q3, q4, List.getD_eq_getElem?_getD, List.getElem?_set, show ¬ kk = i by omega] using this
theorem MidS.start {l : List S4} {k : Nat} (hk : 0 < k) (hl : k < l.length) (h : ddS l k = l.take k) (hs : sameS l k (k - 1) = true) : MidS l l k (k + 1) :=
  ⟨rfl, by rw [ddS_skip hk hs, h], by omega, by rw [ddS_skip hk hs, h, List.length_take]; omega, fun _ _ => ⟨rfl, rfl, rfl, rfl⟩⟩

theorem own_setSg {w : World} {base g cap n : Nat} {m : List S4} (h : w.ownsRow base 30 4 (.slice (some ⟨g, 0, none⟩) n cap) n (segCells m)) (i : Nat) (a b c d : Int) :
    ((((w.setCell ⟨g, i * 4, none⟩ (.int .i64 a)).setCell ⟨g, i * 4 + 1, none⟩ (.int .i64 b)).setCell ⟨g, i * 4 + 2, none⟩ (.int .i64 c)).setCell ⟨g, i * 4 + 3, none⟩ (.int .i64 d)).ownsRow base 30 4 (.slice (some ⟨g, 0, none⟩) n cap) n (segCells (m.set i (a, b, c, d))) := by
  have := own_set (own_set (own_set (own_set h (i * 4) (.int .i64 a)) (i * 4 + 1) (.int .i64 b)) (i * 4 + 2) (.int .i64 c)) (i * 4 + 3) (.int .i64 d)
  rwa [segCells_set] at this
theorem own_sg {w : World} {base g cap n : Nat} {m : List S4} (h : w.ownsRow base 30 4 (.slice (some ⟨g, 0, none⟩) n cap) n (segCells m)) (hn : m.length = n) {i : Nat} (hi : i < n) :
    (w.cell? ⟨g, i * 4, none⟩ = some (.int .i64 (q1 m i)) ∧ w.cell? ⟨g, i * 4 + 1, none⟩ = some (.int .i64 (q2 m i)) ∧ w.cell? ⟨g, i * 4 + 2, none⟩ = some (.int .i64 (q3 m i)) ∧ w.cell? ⟨g, i * 4 + 3, none⟩ = some (.int .i64 (q4 m i))) ∧ w.frozen? ⟨g, i * 4, none⟩ = false ∧ w.frozen? ⟨g, i * 4 + 1, none⟩ = false ∧ w.frozen? ⟨g, i * 4 + 2, none⟩ = false ∧ w.frozen? ⟨g, i * 4 + 3, none⟩ = false := by
  obtain ⟨a1, a2, a3, a4⟩ := segCells_at m i (by omega)
  have b1 := own_cell h a1
  have b2 := own_cell h a2
  have b3 := own_cell h a3
  have b4 := own_cell h a4
  exact ⟨⟨b1.1, b2.1, b3.1, b4.1⟩, b1.2, b2.2, b3.2, b4.2⟩

end Go.Proofs.YtpdfbboagaflhaaGreat
