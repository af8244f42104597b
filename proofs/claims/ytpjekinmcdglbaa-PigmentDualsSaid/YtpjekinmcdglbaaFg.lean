/- Numbers of the law PigmentDuals: a dual that is accepted bounds what every other recipe costs. -/
import Derived.Test.YtpjekinmcdglbaaMa
import Derived.Test.YtpjekinmcdglbaaFj
import Derived.Test.YtpjekinmcdglbaaEe
import Derived.Test.YtpjekinmcdglbaaCt
import Derived.Test.YtpjekinmcdglbaaCn
set_option linter.unusedSimpArgs false
set_option linter.unusedVariables false
set_option maxRecDepth 100000
namespace Go.Proofs.Ytpjekinmcdglbaa
open Go.RowKit

theorem fine_lq {T : List T5} {m : Nat} {lim : Int} (h : fineB T m lim = true) : (m : Int) ≤ lim := by
  simp [fineB] at h; exact h.1
theorem fr_cross (a b : Int) (hb : 0 < b) : frA a b * b = a * frB a b ∧ 0 < frB a b := by
  have g0 := (gcdI_pos (max a (-a)) b hb).1
  have hg := gcdI_abs a b (by omega)
  have d1 : gcdI (max a (-a)) b ∣ a := by rw [hg]; exact Int.ofNat_dvd_left.2 (Nat.gcd_dvd_left _ _)
  have d2 : gcdI (max a (-a)) b ∣ b := by rw [hg]; exact Int.ofNat_dvd_left.2 (Nat.gcd_dvd_right _ _)
  have e1 := Int.tdiv_mul_cancel d1
  have e2 := Int.tdiv_mul_cancel d2
  unfold frA frB
  refine ⟨?_, ?_⟩
  · conv => lhs; rhs; rw [← e2]
    conv => rhs; lhs; rw [← e1]
    simp only [Int.mul_assoc, Int.mul_comm, Int.mul_left_comm]
  · have h1 : 0 ≤ b.tdiv (gcdI (max a (-a)) b) := Int.tdiv_nonneg (by omega) (by omega)
    have h2 : b.tdiv (gcdI (max a (-a)) b) ≠ 0 := fun e => by rw [e, Int.zero_mul] at e2; omega
    omega
/-- what a recipe that is valid costs -/
structure Vr (T : List T5) (m : Nat) (P : List (Int × Int)) (n : Nat) : Prop where
  pos : 0 ≤ sumT P (tP T) n ∧ 0 < sumW P n
  ba : 0 ≤ lowA (sumT P (tP T) n) (sumW P n) ∧ lowA (sumT P (tP T) n) (sumW P n) ≤ 4000000000000000000
  bb : 0 < lowB (sumT P (tP T) n) (sumW P n) ∧ lowB (sumT P (tP T) n) (sumW P n) ≤ 4000000000000000000
  sh : 0 ≤ sumT P (tA T) n ∧ 0 ≤ sumT P (tB T) n ∧ 0 ≤ sumT P (tC T) n
  ok : prOk P n m
theorem vr_of {T : List T5} {m n : Nat} {P : List (Int × Int)} (hTl : T.length = m) (hP : P.length = n) (h : rcpE T P m = 0) : Vr T m P n := by
  obtain ⟨⟨m1, m2⟩, htn, ⟨n1, n2⟩, hok⟩ := rcpE_zero hTl hP h
  have hwok : ∀ i, i < n → 1 ≤ pW P i ∧ pW P i ≤ 1000000000000 := fun i hi => (hok i hi).1
  have sP := sumT_bd (P := P) (f := tP T) (M := 10000) (by omega) (k := n) (fun i hi => ⟨hwok i hi, (htn _).2.2.1, (htn _).2.2.2⟩)
  have sA := sumT_bd (P := P) (f := tA T) (M := 1000) (by omega) (k := n) (fun i hi => ⟨hwok i hi, (htn _).1.1.1, (htn _).1.1.2⟩)
  have sB := sumT_bd (P := P) (f := tB T) (M := 1000) (by omega) (k := n) (fun i hi => ⟨hwok i hi, (htn _).1.2.1, (htn _).1.2.2⟩)
  have sC := sumT_bd (P := P) (f := tC T) (M := 1000) (by omega) (k := n) (fun i hi => ⟨hwok i hi, (htn _).2.1.1, (htn _).2.1.2⟩)
  have sW := sumW_bd (P := P) (k := n) hwok
  have sp := sumW_pos hok (by omega)
  have hS : 0 ≤ sumT P (tP T) n ∧ sumT P (tP T) n ≤ 40000000000000000 := by omega
  have hW : 0 < sumW P n ∧ sumW P n ≤ 4000000000000 := by omega
  clear sP sW sp
  obtain ⟨_, c1, c2⟩ := low_cross (sumT P (tP T) n) (sumW P n) hS.1 hW.1
  have g0 := (gcdI_pos (sumT P (tP T) n) (sumW P n) hW.1).1
  obtain ⟨t1, t2⟩ := tdiv_bd (sumT P (tP T) n) _ g0 4000000000000000000 (by omega) (by omega)
  obtain ⟨t3, t4⟩ := tdiv_bd (sumW P n) _ g0 4000000000000000000 (by omega) (by omega)
  exact ⟨⟨hS.1, hW.1⟩, ⟨c1, t2⟩, ⟨c2, t4⟩, ⟨sA.1, sB.1, sC.1⟩, hok⟩
/-- no recipe of the shade is cheaper than one that a dual shows to be cheapest -/
theorem dual_shows {T : List T5} {m n k : Nat} {P Q : List (Int × Int)} {N : Nat → Int} {den a b c : Int} (vp : Vr T m P n) (vq : Vr T m Q k)
    (hd : duB T m N den (lowA (sumT P (tP T) n) (sumW P n)) (lowB (sumT P (tP T) n) (sumW P n)) a b c = true)
    (q1 : lowA (sumT Q (tA T) k) (sumW Q k) = a ∧ lowB (sumT Q (tA T) k) (sumW Q k) = 1) (q2 : lowA (sumT Q (tB T) k) (sumW Q k) = b ∧ lowB (sumT Q (tB T) k) (sumW Q k) = 1) (q3 : lowA (sumT Q (tC T) k) (sumW Q k) = c ∧ lowB (sumT Q (tC T) k) (sumW Q k) = 1) :
    ltB false (lowA (sumT Q (tP T) k) (sumW Q k)) (lowB (sumT Q (tP T) k) (sumW Q k)) (lowA (sumT P (tP T) n) (sumW P n)) (lowB (sumT P (tP T) n) (sumW P n)) = false := by
  unfold duB at hd
  simp only [Bool.and_eq_true, decide_eq_true_eq, beq_iff_eq] at hd
  obtain ⟨⟨⟨d1, d2⟩, d3⟩, d4, d5, d6⟩ := hd
  have s1 := low_is_whole vq.sh.1 vq.pos.2 q1.1 q1.2
  have s2 := low_is_whole vq.sh.2.1 vq.pos.2 q2.1 q2.2
  have s3 := low_is_whole vq.sh.2.2 vq.pos.2 q3.1 q3.2
  have hT : ∀ p, p < m → N 0 + (N 1 * tA T p + N 2 * tB T p + N 3 * tC T p) ≤ den * tP T p := fun p hp => by
    have := List.all_eq_true.1 d4 p (by simpa using hp)
    unfold dtB at this
    simpa using this
  have hl := dual_least (P := Q) (T := T) (k := k) (n := m) (N0 := N 0) (N1 := N 1) (N2 := N 2) (N3 := N 3) (D := den) (fun i hi => ⟨(vq.ok i hi).1.1, (vq.ok i hi).2⟩) hT s1 s2 s3
  obtain ⟨c1, c2⟩ := fr_cross (N 0 + (N 1 * a + N 2 * b + N 3 * c)) den (by omega)
  obtain ⟨e1, e2, e3⟩ := low_cross (sumT Q (tP T) k) (sumW Q k) vq.pos.1 vq.pos.2
  rw [d5, d6] at c1
  have hW := vq.pos.2
  have hbp := vp.bb.1
  have hd0 : 0 < den := by omega
  clear d1 d2 d3 d4 d5 d6 s1 s2 s3 q1 q2 q3 hT vp vq
  generalize N 0 + (N 1 * a + N 2 * b + N 3 * c) = V at *
  generalize lowA (sumT Q (tP T) k) (sumW Q k) = x at *
  generalize lowB (sumT Q (tP T) k) (sumW Q k) = y at *
  generalize lowA (sumT P (tP T) n) (sumW P n) = u at *
  generalize lowB (sumT P (tP T) n) (sumW P n) = v at *
  generalize sumT Q (tP T) k = SQ at *
  generalize sumW Q k = WQ at *
  unfold ltB
  simp only [Bool.false_eq_true, if_false, decide_eq_false_iff_not]
  intro hlt
  -- x v < u y, x WQ = SQ y, u den = V v, V WQ <= den SQ
  have h1 := Int.mul_lt_mul_of_pos_right hlt (Int.mul_pos hW hd0)
  have k1 : x * v * (WQ * den) = den * SQ * (y * v) := by
    have : x * v * (WQ * den) = (x * WQ) * (v * den) := by simp only [Int.mul_assoc, Int.mul_comm, Int.mul_left_comm]
    rw [this, e1]; simp only [Int.mul_assoc, Int.mul_comm, Int.mul_left_comm]
  have k2 : u * y * (WQ * den) = V * WQ * (y * v) := by
    have : u * y * (WQ * den) = (u * den) * (y * WQ) := by simp only [Int.mul_assoc, Int.mul_comm, Int.mul_left_comm]
    rw [this, c1]; simp only [Int.mul_assoc, Int.mul_comm, Int.mul_left_comm]
  rw [k1, k2] at h1
  have h2 := Int.lt_of_mul_lt_mul_right h1 (Int.le_of_lt (Int.mul_pos e3 hbp))
  omega

end Go.Proofs.Ytpjekinmcdglbaa
