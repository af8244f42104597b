/- Greatest common divisors and lowest terms, as both sides return them. -/
import Derived.Test.YtpjekinmcdglbaaProg
import Derived.Test.YtpjekinmcdglbaaBas
import Derived.WalkKit
import Derived.WalkLawsBesides
import Derived.WalkSpells
import Derived.Deep.RegionHeld3
import Derived.BigRegion
import Derived.LoopTactic
import Derived.Lib.MinMax
set_option linter.unusedSimpArgs false
set_option linter.unusedVariables false
set_option maxRecDepth 100000
namespace Go.Proofs.Ytpjekinmcdglbaa
open Go.RowKit

theorem ret_int {k : IntKind} {a b : Int} (h : a = b) : Ending.returned (.int k a) = .returned (.int k b) := by rw [h]
theorem ret_bool {a b : Bool} (h : a = b) : Ending.returned (.bool a) = .returned (.bool b) := by rw [h]
abbrev fv (x y : Int) : Value := .agg #[.int .i64 x, .int .i64 y]
abbrev vv (x y z : Int) : Value := .agg #[.int .i64 x, .int .i64 y, .int .i64 z]
theorem emod_fact (x y : Int) (hx : 0 ≤ x) (hy : 0 < y) : x.tmod y = x % y ∧ 0 ≤ x % y ∧ x % y < y := ⟨Int.tmod_eq_emod_of_nonneg hx, Int.emod_nonneg _ (by omega), Int.emod_lt_of_pos _ hy⟩
theorem New.cell {w w' : World} (h : New w w') {b o : Nat} (hb : b < w.heap.size) : w'.cell? ⟨b, o, none⟩ = w.cell? ⟨b, o, none⟩ := h.below.cell (p := ⟨b, o, none⟩) hb
def gcdI (x y : Int) : Int := ((Nat.gcd x.toNat y.toNat : Nat) : Int)
theorem gcdI_zero (x : Int) (hx : 0 ≤ x) : gcdI x 0 = x := by unfold gcdI; simp; omega
theorem gcdI_step (x y : Int) (hx : 0 ≤ x) (hy : 0 < y) : gcdI y (x % y) = gcdI x y := by
  obtain ⟨a, rfl⟩ := Int.eq_ofNat_of_zero_le hx
  obtain ⟨b, rfl⟩ := Int.eq_ofNat_of_zero_le (show 0 ≤ y by omega)
  unfold gcdI
  rw [show ((a : Int) % (b : Int)) = ((a % b : Nat) : Int) from (Int.natCast_emod a b).symm]
  simp only [Int.toNat_natCast]
  rw [Nat.gcd_comm a b, Nat.gcd_rec b a, Nat.gcd_comm]
theorem gcdI_pos (x y : Int) (hy : 0 < y) : 0 < gcdI x y ∧ gcdI x y ≤ y := by
  unfold gcdI
  have h1 := Nat.gcd_pos_of_pos_right x.toNat (show 0 < y.toNat by omega)
  have h2 := Nat.le_of_dvd (show 0 < y.toNat by omega) (Nat.gcd_dvd_right x.toNat y.toNat)
  omega

set_option maxHeartbeats 4000000 in
theorem gcd_c (a b : Int) (w : World) (ha : 0 ≤ a ∧ a ≤ 4000000000000000000) (hb : 0 ≤ b ∧ b ≤ 4000000000000000000) :
    Calls Try.prog 56 #[.int .i64 a, .int .i64 b] w fun en w' => en = .returned (.int .i64 (gcdI a b)) ∧ New w w' := by
  go_enter Try.func56, Try.ntmps56
  go_wp2_with fail
  go_loopw [0, 1] (fun x y wr => ∃ p q : Int, (0 ≤ p ∧ p ≤ 4000000000000000000) ∧ (0 ≤ q ∧ q ≤ 4000000000000000000) ∧ x = .int .i64 p ∧ y = .int .i64 q ∧ gcdI p q = gcdI a b ∧ New w wr) (fun _ y _ => (intOf y).toNat)
  case atStart => exact ⟨a, b, ha, hb, rfl, rfl, rfl, New.refl _⟩
  case round =>
    obtain ⟨p, q, hp, hq, rfl, rfl, hg, pr, rfl⟩ := hrel
    have HG := Lib.hid hg
    clear hg
    by_cases h0 : q = 0
    · subst h0
      have HV := Lib.hid (gcdI_zero p hp.1)
      go_wp2_with fail
      go_ret
      exact ⟨ret_int (by rw [← HG.out, HV.out]), (by (repeat (first | exact New.refl _ | apply New.alloc | apply New.aft | apply New.drew | refine New.setCell ?_ ?_ _)); all_goals (first | done | (simp [size_aft]; done) | (simp [size_aft]; omega)))⟩
    · have hq0 : 0 < q := by omega
      obtain ⟨m1, m2, m3⟩ := emod_fact p q hp.1 hq0
      have HS := Lib.hid (gcdI_step p q hp.1 hq0)
      have hz : (q = 0) = False := eq_false h0
      have hz2 : (q == 0) = false := by simpa using h0
      have hz3 : (q != 0) = true := by simpa using h0
      clear h0
      go_wp2_with fail
      go_region
      all_goals (go_wp2_with fail)
      all_goals go_roundw
      all_goals first
        | exact ⟨q, p % q, hq, by omega, rfl, rfl, HS.out.trans HG.out, (by (repeat (first | exact New.refl _ | apply New.alloc | apply New.aft | apply New.drew | refine New.setCell ?_ ?_ _)); all_goals (first | done | (simp [size_aft]; done) | (simp [size_aft]; omega)))⟩
        | (simp [intOf]; omega)

set_option maxHeartbeats 4000000 in
theorem ref_gcd (a b : Int) (w : World) (ha : 0 ≤ a ∧ a ≤ 4000000000000000000) (hb : 0 ≤ b ∧ b ≤ 4000000000000000000) :
    Calls Try.prog 59 #[.int .i64 a, .int .i64 b] w fun en w' => en = .returned (.int .i64 (gcdI a b)) ∧ New w w' := by
  go_enter Try.func59, Try.ntmps59
  go_wp2_with fail
  go_loopw [0, 1] (fun x y wr => ∃ p q : Int, (0 ≤ p ∧ p ≤ 4000000000000000000) ∧ (0 ≤ q ∧ q ≤ 4000000000000000000) ∧ x = .int .i64 p ∧ y = .int .i64 q ∧ gcdI p q = gcdI a b ∧ New w wr) (fun _ y _ => (intOf y).toNat)
  case atStart => exact ⟨a, b, ha, hb, rfl, rfl, rfl, New.refl _⟩
  case round =>
    obtain ⟨p, q, hp, hq, rfl, rfl, hg, pr, rfl⟩ := hrel
    have HG := Lib.hid hg
    clear hg
    by_cases h0 : q = 0
    · subst h0
      have HV := Lib.hid (gcdI_zero p hp.1)
      have hn : ¬ p < 0 := by omega
      go_wp2_with fail
      go_ret
      exact ⟨ret_int (by rw [← HG.out, HV.out]), (by (repeat (first | exact New.refl _ | apply New.alloc | apply New.aft | apply New.drew | refine New.setCell ?_ ?_ _)); all_goals (first | done | (simp [size_aft]; done) | (simp [size_aft]; omega)))⟩
    · have hq0 : 0 < q := by omega
      obtain ⟨m1, m2, m3⟩ := emod_fact p q hp.1 hq0
      have HS := Lib.hid (gcdI_step p q hp.1 hq0)
      have hz : (q = 0) = False := eq_false h0
      have hz2 : (q == 0) = false := by simpa using h0
      have hz3 : (q != 0) = true := by simpa using h0
      clear h0
      go_wp2_with fail
      go_roundw
      case rel => exact ⟨q, p % q, hq, by omega, rfl, rfl, HS.out.trans HG.out, (by (repeat (first | exact New.refl _ | apply New.alloc | apply New.aft | apply New.drew | refine New.setCell ?_ ?_ _)); all_goals (first | done | (simp [size_aft]; done) | (simp [size_aft]; omega)))⟩
      case measure => simp [intOf]; omega

set_option maxHeartbeats 1000000 in
theorem sign_c (a : Int) (w : World) : Calls Try.prog 70 #[.int .i64 a] w fun en w' => en = .returned (.int .i64 (if a < 0 then -1 else 1)) ∧ New w w' := by
  by_cases h : a < 0
  · rw [if_pos h]
    go_enter Try.func70, Try.ntmps70
    go_wp2_with fail
    all_goals (go_ret; exact ⟨rfl, (by (repeat (first | exact New.refl _ | apply New.alloc | apply New.aft | apply New.drew | refine New.setCell ?_ ?_ _)); all_goals (first | done | (simp [size_aft]; done) | (simp [size_aft]; omega)))⟩)
  · rw [if_neg h]
    go_enter Try.func70, Try.ntmps70
    go_wp2_with fail
    all_goals (go_ret; exact ⟨rfl, (by (repeat (first | exact New.refl _ | apply New.alloc | apply New.aft | apply New.drew | refine New.setCell ?_ ?_ _)); all_goals (first | done | (simp [size_aft]; done) | (simp [size_aft]; omega)))⟩)

/-- lowest terms -/
def lowA (a b : Int) : Int := a.tdiv (gcdI a b)
def lowB (a b : Int) : Int := b.tdiv (gcdI a b)
theorem tdiv_bd (x g : Int) (hg : 0 < g) (M : Int) (h1 : -M ≤ x) (h2 : x ≤ M) : -M ≤ x.tdiv g ∧ x.tdiv g ≤ M := by
  rcases Int.le_total 0 x with h | h
  · rw [Int.tdiv_eq_ediv_of_nonneg h]
    have a1 := Int.ediv_nonneg h (Int.le_of_lt hg)
    have a2 := Int.ediv_le_self g h
    omega
  · have e : x.tdiv g = -((-x).tdiv g) := by rw [Int.neg_tdiv, Int.neg_neg]
    rw [e, Int.tdiv_eq_ediv_of_nonneg (by omega)]
    have a1 := Int.ediv_nonneg (show 0 ≤ -x by omega) (Int.le_of_lt hg)
    have a2 := Int.ediv_le_self g (show 0 ≤ -x by omega)
    omega

set_option maxHeartbeats 4000000 in
theorem fraction_c (a b : Int) (w : World) (ha : 0 ≤ a ∧ a ≤ 4000000000000000000) (hb : 0 < b ∧ b ≤ 4000000000000000000) :
    Calls Try.prog 30 #[.int .i64 a, .int .i64 b] w fun en w' => en = .returned (fv (lowA a b) (lowB a b)) ∧ New w w' := by
  have HGC := Lib.hid (fun w1 : World => gcd_c a b w1 ha ⟨by omega, hb.2⟩)
  obtain ⟨g1, g2⟩ := gcdI_pos a b hb.1
  have HA := Lib.hid (show lowA a b = a.tdiv (gcdI a b) from rfl)
  have HB := Lib.hid (show lowB a b = b.tdiv (gcdI a b) from rfl)
  generalize lowA a b = X at *
  generalize lowB a b = Y at *
  generalize gcdI a b = G at *
  obtain ⟨t1, t2⟩ := tdiv_bd a G g1 4000000000000000000 (by omega) (by omega)
  obtain ⟨t3, t4⟩ := tdiv_bd b G g1 4000000000000000000 (by omega) (by omega)
  have q1 : IntKind.i64.wrap (a.tdiv G) = a.tdiv G := IntWalk.i64_in _ (by omega)
  have q2 : IntKind.i64.wrap (b.tdiv G) = b.tdiv G := IntWalk.i64_in _ (by omega)
  have hz : (G = 0) = False := eq_false (by omega)
  have hmx : max a (-a) = a := by omega
  go_enter Try.func30, Try.ntmps30
  go_wp2_with (go_at_call 56; refine (HGC.out _).mono ?_; rintro e w1 ⟨rfl, pw, rfl⟩)
  all_goals go_region
  all_goals (go_wp2_with fail)
  all_goals (refine bodyPost_ret (v := fv (a.tdiv G) (b.tdiv G)) (by simp [results, Try.results30, go_sem]) rfl ⟨by rw [HA.out, HB.out], (by (repeat (first | exact New.refl _ | apply New.alloc | apply New.aft | apply New.drew | refine New.setCell ?_ ?_ _)); all_goals (first | done | (simp [size_aft]; done) | (simp [size_aft]; omega)))⟩)

set_option maxHeartbeats 4000000 in
theorem ratio_c (a b : Int) (w : World) (ha : 0 ≤ a ∧ a ≤ 4000000000000000000) (hb : 0 < b ∧ b ≤ 4000000000000000000) :
    Calls Try.prog 34 #[.int .i64 a, .int .i64 b] w fun en w' => en = .returned (fv (lowA a b) (lowB a b)) ∧ New w w' := by
  have HGC := Lib.hid (fun w1 : World => ref_gcd a b w1 ha ⟨by omega, hb.2⟩)
  obtain ⟨g1, g2⟩ := gcdI_pos a b hb.1
  have HA := Lib.hid (show lowA a b = a.tdiv (gcdI a b) from rfl)
  have HB := Lib.hid (show lowB a b = b.tdiv (gcdI a b) from rfl)
  generalize lowA a b = X at *
  generalize lowB a b = Y at *
  generalize gcdI a b = G at *
  obtain ⟨t1, t2⟩ := tdiv_bd a G g1 4000000000000000000 (by omega) (by omega)
  obtain ⟨t3, t4⟩ := tdiv_bd b G g1 4000000000000000000 (by omega) (by omega)
  have q1 : IntKind.i64.wrap (a.tdiv G) = a.tdiv G := IntWalk.i64_in _ (by omega)
  have q2 : IntKind.i64.wrap (b.tdiv G) = b.tdiv G := IntWalk.i64_in _ (by omega)
  have hz : (G = 0) = False := eq_false (by omega)
  go_enter Try.func34, Try.ntmps34
  go_wp2_with (go_at_call 59; refine (HGC.out _).mono ?_; rintro e w1 ⟨rfl, pw, rfl⟩)
  all_goals go_region
  all_goals (go_wp2_with fail)
  all_goals (refine bodyPost_ret (v := fv (a.tdiv G) (b.tdiv G)) (by simp [results, Try.results34, go_sem]) rfl ⟨by rw [HA.out, HB.out], (by (repeat (first | exact New.refl _ | apply New.alloc | apply New.aft | apply New.drew | refine New.setCell ?_ ?_ _)); all_goals (first | done | (simp [size_aft]; done) | (simp [size_aft]; omega)))⟩)

end Go.Proofs.Ytpjekinmcdglbaa
