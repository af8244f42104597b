/- The greatest common divisor, as divisor returns it. From 0 to 4000000000000000000. -/
import Derived.Test.YtpdfbboagaflhaaGreatM15
import Derived.Deep.RegionHeld3
import Derived.BigRegion
import Derived.LoopTactic

namespace Go.Proofs.YtpdfbboagaflhaaGreat
open Go.RowKit

theorem emod_fact (x y : Int) (hx : 0 ≤ x) (hy : 0 < y) : x.tmod y = x % y ∧ 0 ≤ x % y ∧ x % y < y := ⟨Int.tmod_eq_emod_of_nonneg hx, Int.emod_nonneg _ (by omega), Int.emod_lt_of_pos _ hy⟩
def gcdI (x y : Int) : Int := ((Nat.gcd x.toNat y.toNat : Nat) : Int)
theorem gcdI_zero (x : Int) (hx : 0 ≤ x) : gcdI x 0 = x := by unfold gcdI; simp; omega
theorem gcdI_step (x y : Int) (hx : 0 ≤ x) (hy : 0 < y) : gcdI y (x % y) = gcdI x y := by
  obtain ⟨a, rfl⟩ := Int.eq_ofNat_of_zero_le hx
  obtain ⟨b, rfl⟩ := Int.eq_ofNat_of_zero_le (show 0 ≤ y by omega)
  unfold gcdI
  rw [show ((a : Int) % (b : Int)) = ((a % b : Nat) : Int) from (Int.natCast_emod a b).symm]
  simp only [Int.toNat_natCast]
  rw [Nat.gcd_comm a b, Nat.gcd_rec b a, Nat.gcd_comm]

set_option maxHeartbeats 4000000 in
theorem divisor_c (a b : Int) (w : World) (ha : 0 ≤ a ∧ a ≤ 4000000000000000000) (hb : 0 ≤ b ∧ b ≤ 4000000000000000000) :
    Calls Tryz.prog 192 #[.int .i64 a, .int .i64 b] w fun en w' => en = .returned (.int .i64 (gcdI a b)) ∧ New w w' := by
  go_enter Tryz.func192, Tryz.ntmps192
  go_wp2_with fail
  go_loopw [0, 1] (fun x y wr => ∃ p q : Int, (0 ≤ p ∧ p ≤ 4000000000000000000) ∧ (0 ≤ q ∧ q ≤ 4000000000000000000) ∧ x = .int .i64 p ∧ y = .int .i64 q ∧ gcdI p q = gcdI a b ∧ New w wr) (fun _ y _ => (intOf y).toNat)
  case atStart => exact ⟨a, b, ha, hb, rfl, rfl, rfl, New.refl _⟩
  case round =>
    obtain ⟨p, q, hp, hq, rfl, rfl, hg, pr, rfl⟩ := hrel
    have HG := Lib.hid hg
    clear hg
    by_cases h0 : q = 0
    · subst h0
      have HV := Lib.hid (gcdI_zero p hp.1)
      go_wp2_with fail
      go_ret
      exact ⟨ret_int (by rw [← HG.out, HV.out]), by (repeat (first | exact New.refl _ | apply New.alloc | apply New.aft | apply New.drew | refine New.setCell ?_ ?_ _)); all_goals (first | done | (simp [size_aft]; done) | (simp [size_aft]; omega))⟩
    · have hq0 : 0 < q := by omega
      obtain ⟨m1, m2, m3⟩ := emod_fact p q hp.1 hq0
      have HS := Lib.hid (gcdI_step p q hp.1 hq0)
      have hz : (q = 0) = False := eq_false h0
      have hz2 : (q == 0) = false := by simpa using h0
      have hz3 : (q != 0) = true := by simpa using h0
      clear h0
      go_wp2_with fail
      go_region
      all_goals (go_wp2_with fail)
      all_goals exact ⟨⟨q, p % q, hq, by omega, rfl, rfl, HS.out.trans HG.out, by (repeat (first | exact New.refl _ | apply New.alloc | apply New.aft | apply New.drew | refine New.setCell ?_ ?_ _)); all_goals (first | done | (simp [size_aft]; done) | (simp [size_aft]; omega))⟩, by simp [intOf]; omega⟩

end Go.Proofs.YtpdfbboagaflhaaGreat

/- The lowest terms of a fraction, as lowest returns them. Numbers up to 4000000000000000 either way; the denominator is not 0. -/
namespace Go.Proofs.YtpdfbboagaflhaaGreat
open Go.RowKit

def lowN (num den : Int) : Int := if den < 0 then -(num.tdiv (gcdI (max (-num) num) (-den))) else num.tdiv (gcdI (max num (-num)) den)
def lowD (num den : Int) : Int := if den < 0 then -(den.tdiv (gcdI (max (-num) num) (-den))) else den.tdiv (gcdI (max num (-num)) den)
theorem gcdI_pos (x y : Int) (hy : 0 < y) : 0 < gcdI x y ∧ gcdI x y ≤ y := by
  unfold gcdI
  have h1 := Nat.gcd_pos_of_pos_right x.toNat (show 0 < y.toNat by omega)
  have h2 := Nat.le_of_dvd (show 0 < y.toNat by omega) (Nat.gcd_dvd_right x.toNat y.toNat)
  omega
theorem tdiv_bd (x g : Int) (hg : 0 < g) (M : Int) (h1 : -M ≤ x) (h2 : x ≤ M) : -M ≤ x.tdiv g ∧ x.tdiv g ≤ M := by
  rcases Int.le_total 0 x with h | h
  · rw [Int.tdiv_eq_ediv_of_nonneg h]
    have a1 := Int.ediv_nonneg h (Int.le_of_lt hg)
    have a2 := Int.ediv_le_self g h
    omega
  · have e : x.tdiv g = -((-x).tdiv g) := by rw [Int.neg_tdiv, Int.neg_neg]
    rw [e, Int.tdiv_eq_ediv_of_nonneg (by omega)]
    have a1 := Int.ediv_nonneg (show 0 ≤ -x by omega) (Int.le_of_lt hg)
    have a2 := Int.ediv_le_self g (show 0 ≤ -x by omega)
    omega

set_option maxHeartbeats 4000000 in
theorem low1 (num den : Int) (w : World) (h1 : -4000000000000000 ≤ num ∧ num ≤ 4000000000000000) (h2 : -4000000000000000 ≤ den ∧ den ≤ 4000000000000000) (h0 : den ≠ 0) (hd : den < 0) (hn : num ≤ 0) :
    Calls Tryz.prog 167 #[.int .i64 num, .int .i64 den] w fun en w' => en = .returned (pv (-(num.tdiv (gcdI (-num) (-den)))) (-(den.tdiv (gcdI (-num) (-den))))) ∧ New w w' := by
  obtain ⟨g1, g2⟩ := gcdI_pos (-num) (-den) (by omega)
  generalize hG : gcdI (-num) (-den) = G at *
  have HG := Lib.hid hG
  clear hG
  obtain ⟨t1, t2⟩ := tdiv_bd num G g1 4000000000000000 (by omega) (by omega)
  obtain ⟨t3, t4⟩ := tdiv_bd den G g1 4000000000000000 (by omega) (by omega)
  have q1 : IntKind.i64.wrap (-(num.tdiv G)) = -(num.tdiv G) := IntWalk.i64_in _ (by omega)
  have q2 : IntKind.i64.wrap (-(den.tdiv G)) = -(den.tdiv G) := IntWalk.i64_in _ (by omega)
  have hz : (G = 0) = False := eq_false (by omega)
  have hne : (den == 0) = false := by simpa using h0
  clear h0
  go_enter Tryz.func167, Tryz.ntmps167
  go_wp2_with (go_at_call 192; refine (divisor_c _ _ _ ?_ ?_).mono ?_; omega; omega; rintro e w1 ⟨rfl, pw, rfl⟩; (try rw [HG.out]))
  all_goals (try (exfalso; omega))
  all_goals go_region
  all_goals (go_wp2_with fail)
  all_goals (refine bodyPost_ret (v := pv (-(num.tdiv G)) (-(den.tdiv G))) (by simp [results, Tryz.results167, go_sem]) rfl ⟨rfl, ?_⟩; (repeat (first | exact New.refl _ | apply New.alloc | apply New.aft | apply New.drew | refine New.setCell ?_ ?_ _)); all_goals (first | done | (simp [size_aft]; done) | (simp [size_aft]; omega)))

set_option maxHeartbeats 4000000 in
theorem low2 (num den : Int) (w : World) (h1 : -4000000000000000 ≤ num ∧ num ≤ 4000000000000000) (h2 : -4000000000000000 ≤ den ∧ den ≤ 4000000000000000) (h0 : den ≠ 0) (hd : den < 0) (hn : 0 < num) :
    Calls Tryz.prog 167 #[.int .i64 num, .int .i64 den] w fun en w' => en = .returned (pv (-(num.tdiv (gcdI num (-den)))) (-(den.tdiv (gcdI num (-den))))) ∧ New w w' := by
  obtain ⟨g1, g2⟩ := gcdI_pos num (-den) (by omega)
  generalize hG : gcdI num (-den) = G at *
  have HG := Lib.hid hG
  clear hG
  obtain ⟨t1, t2⟩ := tdiv_bd num G g1 4000000000000000 (by omega) (by omega)
  obtain ⟨t3, t4⟩ := tdiv_bd den G g1 4000000000000000 (by omega) (by omega)
  have q1 : IntKind.i64.wrap (-(num.tdiv G)) = -(num.tdiv G) := IntWalk.i64_in _ (by omega)
  have q2 : IntKind.i64.wrap (-(den.tdiv G)) = -(den.tdiv G) := IntWalk.i64_in _ (by omega)
  have hz : (G = 0) = False := eq_false (by omega)
  have hne : (den == 0) = false := by simpa using h0
  clear h0
  go_enter Tryz.func167, Tryz.ntmps167
  go_wp2_with (go_at_call 192; refine (divisor_c _ _ _ ?_ ?_).mono ?_; omega; omega; rintro e w1 ⟨rfl, pw, rfl⟩; (try rw [HG.out]))
  all_goals (try (exfalso; omega))
  all_goals go_region
  all_goals (go_wp2_with fail)
  all_goals (refine bodyPost_ret (v := pv (-(num.tdiv G)) (-(den.tdiv G))) (by simp [results, Tryz.results167, go_sem]) rfl ⟨rfl, ?_⟩; (repeat (first | exact New.refl _ | apply New.alloc | apply New.aft | apply New.drew | refine New.setCell ?_ ?_ _)); all_goals (first | done | (simp [size_aft]; done) | (simp [size_aft]; omega)))

set_option maxHeartbeats 4000000 in
theorem low3 (num den : Int) (w : World) (h1 : -4000000000000000 ≤ num ∧ num ≤ 4000000000000000) (h2 : -4000000000000000 ≤ den ∧ den ≤ 4000000000000000) (h0 : den ≠ 0) (hd : ¬ den < 0) (hn : 0 ≤ num) :
    Calls Tryz.prog 167 #[.int .i64 num, .int .i64 den] w fun en w' => en = .returned (pv ((num.tdiv (gcdI num den))) ((den.tdiv (gcdI num den)))) ∧ New w w' := by
  obtain ⟨g1, g2⟩ := gcdI_pos num den (by omega)
  generalize hG : gcdI num den = G at *
  have HG := Lib.hid hG
  clear hG
  obtain ⟨t1, t2⟩ := tdiv_bd num G g1 4000000000000000 (by omega) (by omega)
  obtain ⟨t3, t4⟩ := tdiv_bd den G g1 4000000000000000 (by omega) (by omega)
  have q1 : IntKind.i64.wrap ((num.tdiv G)) = (num.tdiv G) := IntWalk.i64_in _ (by omega)
  have q2 : IntKind.i64.wrap ((den.tdiv G)) = (den.tdiv G) := IntWalk.i64_in _ (by omega)
  have hz : (G = 0) = False := eq_false (by omega)
  have hne : (den == 0) = false := by simpa using h0
  clear h0
  go_enter Tryz.func167, Tryz.ntmps167
  go_wp2_with (go_at_call 192; refine (divisor_c _ _ _ ?_ ?_).mono ?_; omega; omega; rintro e w1 ⟨rfl, pw, rfl⟩; (try rw [HG.out]))
  all_goals (try (exfalso; omega))
  all_goals go_region
  all_goals (go_wp2_with fail)
  all_goals (refine bodyPost_ret (v := pv ((num.tdiv G)) ((den.tdiv G))) (by simp [results, Tryz.results167, go_sem]) rfl ⟨rfl, ?_⟩; (repeat (first | exact New.refl _ | apply New.alloc | apply New.aft | apply New.drew | refine New.setCell ?_ ?_ _)); all_goals (first | done | (simp [size_aft]; done) | (simp [size_aft]; omega)))

set_option maxHeartbeats 4000000 in
theorem low4 (num den : Int) (w : World) (h1 : -4000000000000000 ≤ num ∧ num ≤ 4000000000000000) (h2 : -4000000000000000 ≤ den ∧ den ≤ 4000000000000000) (h0 : den ≠ 0) (hd : ¬ den < 0) (hn : num < 0) :
    Calls Tryz.prog 167 #[.int .i64 num, .int .i64 den] w fun en w' => en = .returned (pv ((num.tdiv (gcdI (-num) den))) ((den.tdiv (gcdI (-num) den)))) ∧ New w w' := by
  obtain ⟨g1, g2⟩ := gcdI_pos (-num) den (by omega)
  generalize hG : gcdI (-num) den = G at *
  have HG := Lib.hid hG
  clear hG
  obtain ⟨t1, t2⟩ := tdiv_bd num G g1 4000000000000000 (by omega) (by omega)
  obtain ⟨t3, t4⟩ := tdiv_bd den G g1 4000000000000000 (by omega) (by omega)
  have q1 : IntKind.i64.wrap ((num.tdiv G)) = (num.tdiv G) := IntWalk.i64_in _ (by omega)
  have q2 : IntKind.i64.wrap ((den.tdiv G)) = (den.tdiv G) := IntWalk.i64_in _ (by omega)
  have hz : (G = 0) = False := eq_false (by omega)
  have hne : (den == 0) = false := by simpa using h0
  clear h0
  go_enter Tryz.func167, Tryz.ntmps167
  go_wp2_with (go_at_call 192; refine (divisor_c _ _ _ ?_ ?_).mono ?_; omega; omega; rintro e w1 ⟨rfl, pw, rfl⟩; (try rw [HG.out]))
  all_goals (try (exfalso; omega))
  all_goals go_region
  all_goals (go_wp2_with fail)
  all_goals (refine bodyPost_ret (v := pv ((num.tdiv G)) ((den.tdiv G))) (by simp [results, Tryz.results167, go_sem]) rfl ⟨rfl, ?_⟩; (repeat (first | exact New.refl _ | apply New.alloc | apply New.aft | apply New.drew | refine New.setCell ?_ ?_ _)); all_goals (first | done | (simp [size_aft]; done) | (simp [size_aft]; omega)))

theorem lowest_c (num den : Int) (w : World) (h1 : -4000000000000000 ≤ num ∧ num ≤ 4000000000000000) (h2 : -4000000000000000 ≤ den ∧ den ≤ 4000000000000000) (h0 : den ≠ 0) :
    Calls Tryz.prog 167 #[.int .i64 num, .int .i64 den] w fun en w' => en = .returned (pv (lowN num den) (lowD num den)) ∧ New w w' := by
  unfold lowN lowD
  by_cases hd : den < 0
  · rw [if_pos hd, if_pos hd]
    by_cases hn : 0 < num
    · rw [show max (-num) num = num by omega]; exact low2 num den w h1 h2 h0 hd hn
    · rw [show max (-num) num = -num by omega]; exact low1 num den w h1 h2 h0 hd (by omega)
  · rw [if_neg hd, if_neg hd]
    by_cases hn : num < 0
    · rw [show max num (-num) = -num by omega]; exact low4 num den w h1 h2 h0 hd hn
    · rw [show max num (-num) = num by omega]; exact low3 num den w h1 h2 h0 hd (by omega)

end Go.Proofs.YtpdfbboagaflhaaGreat
