/- Heights of segments at an X, and which is higher, as the functions return it. Numbers from 0 to 10000. -/
import Derived.Test.YtpdfbboagaflhaaGreatM15
import Derived.Deep.RegionHeld3
import Derived.Deep.RegionWith
import Derived.BigRegion
import Derived.LoopTactic

namespace Go.Proofs.YtpdfbboagaflhaaGreat
open Go.RowKit

def hW (a b c d : Int) : Int := 2 * (f3 a b c d - f1 a b c d)
def hN (a b c d x : Int) : Int := f2 a b c d * hW a b c d + (f4 a b c d - f2 a b c d) * (x - 2 * f1 a b c d)
theorem h_bd (a b c d x : Int) (ha : 0 ≤ a ∧ a ≤ 10000) (hb : 0 ≤ b ∧ b ≤ 10000) (hc : 0 ≤ c ∧ c ≤ 10000) (hd : 0 ≤ d ∧ d ≤ 10000) (hx : 0 ≤ x ∧ x ≤ 20000) : (-20000 ≤ hW a b c d ∧ hW a b c d ≤ 20000) ∧ (-600000000 ≤ hN a b c d x ∧ hN a b c d x ≤ 600000000) := by
  obtain ⟨k1, k2, k3, k4⟩ := f_bd 0 10000 a b c d ha hb hc hd
  unfold hN hW
  generalize f1 a b c d = A at *
  generalize f2 a b c d = B at *
  generalize f3 a b c d = C at *
  generalize f4 a b c d = D at *
  have m1 := mul_bd B (2 * (C - A)) 10000 20000 (by omega) (by omega) (by omega) (by omega)
  have m2 := mul_bd (D - B) (x - 2 * A) 10000 40000 (by omega) (by omega) (by omega) (by omega)
  omega

set_option maxHeartbeats 4000000 in
theorem heightAt_c (a b c d x : Int) (w : World) (ha : 0 ≤ a ∧ a ≤ 10000) (hb : 0 ≤ b ∧ b ≤ 10000) (hc : 0 ≤ c ∧ c ≤ 10000) (hd : 0 ≤ d ∧ d ≤ 10000) (hx : 0 ≤ x ∧ x ≤ 20000) :
    Calls Tryz.prog 99 #[sv a b c d, .int .i64 x] w fun e w' => e = .returned (pv (hN a b c d x) (hW a b c d)) ∧ New w w' := by
  obtain ⟨k1, k2, k3, k4⟩ := f_bd 0 10000 a b c d ha hb hc hd
  have HWE : hW a b c d = 2 * (f3 a b c d - f1 a b c d) := rfl
  have HNE : hN a b c d x = f2 a b c d * (2 * (f3 a b c d - f1 a b c d)) + (f4 a b c d - f2 a b c d) * (x - 2 * f1 a b c d) := rfl
  have HF := Lib.hid (forward_c a b c d)
  rw [HWE, HNE]
  clear HWE HNE
  generalize f1 a b c d = A at *
  generalize f2 a b c d = B at *
  generalize f3 a b c d = C at *
  generalize f4 a b c d = D at *
  have m1 := mul_bd B (2 * (C - A)) 10000 20000 (by omega) (by omega) (by omega) (by omega)
  have m2 := mul_bd (D - B) (x - 2 * A) 10000 40000 (by omega) (by omega) (by omega) (by omega)
  simp only [Int.reduceMul, Int.reduceNeg] at m1 m2
  go_enter Tryz.func99, Tryz.ntmps99
  go_wp2_with (go_at_call 98; refine (HF.out _).mono ?_; rintro e w1 ⟨rfl, pw, rfl⟩)
  refine bodyPost_ret (v := pv (B * (2 * (C - A)) + (D - B) * (x - 2 * A)) (2 * (C - A))) (by simp [results, Tryz.results99, go_sem]) rfl ⟨rfl, ?_⟩
  (repeat (first | exact New.refl _ | apply New.alloc | apply New.aft | apply New.drew | refine New.setCell ?_ ?_ _)); all_goals (first | done | (simp [size_aft]; done) | (simp [size_aft]; omega))

def cmpR (n1 d1 n2 d2 : Int) : Int := cmpI (n1 * d2) (n2 * d1)
set_option maxHeartbeats 4000000 in
theorem rcompare_c (n1 d1 n2 d2 : Int) (w : World) (h1 : -600000000 ≤ n1 ∧ n1 ≤ 600000000) (h2 : -20000 ≤ d1 ∧ d1 ≤ 20000) (h3 : -600000000 ≤ n2 ∧ n2 ≤ 600000000) (h4 : -20000 ≤ d2 ∧ d2 ≤ 20000) :
    Calls Tryz.prog 100 #[pv n1 d1, pv n2 d2] w fun e w' => e = .returned (.int .i64 (cmpR n1 d1 n2 d2)) ∧ New w w' := by
  have m1 := mul_bd n1 d2 600000000 20000 (by omega) (by omega) (by omega) (by omega)
  have m2 := mul_bd n2 d1 600000000 20000 (by omega) (by omega) (by omega) (by omega)
  simp only [Int.reduceMul, Int.reduceNeg] at m1 m2
  go_enter Tryz.func100, Tryz.ntmps100
  go_wp2_with (go_at_call 163; refine (compare_c _ _ _).mono ?_; rintro e w1 ⟨rfl, pw, rfl⟩)
  go_ret; refine ⟨rfl, ?_⟩; (repeat (first | exact New.refl _ | apply New.alloc | apply New.aft | apply New.drew | refine New.setCell ?_ ?_ _)); all_goals (first | done | (simp [size_aft]; done) | (simp [size_aft]; omega))

end Go.Proofs.YtpdfbboagaflhaaGreat
