/- What functions of the reference return: on, On. -/
import Derived.Test.YtpdfbboagaflhaaGreatM49
import Derived.Test.YtpdfbboagaflhaaGreatM15
import Derived.Deep.RegionHeld3
import Derived.Deep.RegionWith
import Derived.BigRegion
import Derived.LoopTactic
import Derived.Test.YtpdfbboagaflhaaGreatM21
import Derived.Deep.AppendLies
import Derived.Deep.RegionLaw
import Derived.Test.YtpdfbboagaflhaaGreatM25

namespace Go.Proofs.YtpdfbboagaflhaaGreat
open Go.RowKit

def onR (p q a b c d : Int) : Bool := btwB p a c && btwB q b d && turnI a b c d p q == 0
set_option maxRecDepth 20000 in
set_option maxHeartbeats 2000000 in
theorem ref_on (p q a b c d : Int) (w : World) (hp : -40000 ≤ p ∧ p ≤ 40000) (hq : -40000 ≤ q ∧ q ≤ 40000) (ha : -40000 ≤ a ∧ a ≤ 40000) (hb : -40000 ≤ b ∧ b ≤ 40000) (hc : -40000 ≤ c ∧ c ≤ 40000) (hd : -40000 ≤ d ∧ d ≤ 40000) :
    Calls Tryz.prog 91 #[pv p q, sv a b c d] w fun e w' => e = .returned (.bool (onR p q a b c d)) ∧ New w w' := by
  have HA := Lib.hid (ref_between p a c)
  have HB := Lib.hid (ref_between q b d)
  have HT := Lib.hid (fun w1 : World => ref_turn a b c d p q w1 ha hb hc hd hp hq)
  by_cases h1 : btwB p a c = true
  · by_cases h2 : btwB q b d = true
    · rw [show onR p q a b c d = (turnI a b c d p q == 0) by simp [onR, h1, h2]]
      rw [h1] at HA
      rw [h2] at HB
      clear h1 h2
      generalize turnI a b c d p q = T at *
      go_enter Tryz.func91, Tryz.ntmps91
      go_wp2_with (first | (go_at_call 165; (with_reducible refine (HA.out _).mono ?_); rintro e w1 ⟨rfl, pw, rfl⟩) | (go_at_call 165; (with_reducible refine (HB.out _).mono ?_); rintro e w1 ⟨rfl, pw, rfl⟩) | (go_at_call 87; refine (HT.out _).mono ?_; rintro e w1 ⟨rfl, pw, rfl⟩))
      all_goals (go_ret; refine ⟨rfl, ?_⟩; (repeat (first | exact New.refl _ | apply New.alloc | apply New.aft | apply New.drew | refine New.setCell ?_ ?_ _)); all_goals (first | done | (simp [size_aft]; done) | (simp [size_aft]; omega)))
    · have h2' : btwB q b d = false := by simpa using h2
      rw [show onR p q a b c d = false by simp [onR, h2']]
      rw [h1] at HA
      rw [h2'] at HB
      clear h1 h2 h2' HT
      go_enter Tryz.func91, Tryz.ntmps91
      go_wp2_with (first | (go_at_call 165; (with_reducible refine (HA.out _).mono ?_); rintro e w1 ⟨rfl, pw, rfl⟩) | (go_at_call 165; (with_reducible refine (HB.out _).mono ?_); rintro e w1 ⟨rfl, pw, rfl⟩))
      all_goals (go_ret; refine ⟨rfl, ?_⟩; (repeat (first | exact New.refl _ | apply New.alloc | apply New.aft | apply New.drew | refine New.setCell ?_ ?_ _)); all_goals (first | done | (simp [size_aft]; done) | (simp [size_aft]; omega)))
  · have h1' : btwB p a c = false := by simpa using h1
    rw [show onR p q a b c d = false by simp [onR, h1']]
    rw [h1'] at HA
    clear h1 h1' HT
    generalize btwB q b d = B at HB
    go_enter Tryz.func91, Tryz.ntmps91
    go_wp2_with (first | (go_at_call 165; (with_reducible refine (HA.out _).mono ?_); rintro e w1 ⟨rfl, pw, rfl⟩) | (go_at_call 165; (with_reducible refine (HB.out _).mono ?_); rintro e w1 ⟨rfl, pw, rfl⟩))
    all_goals (go_ret; refine ⟨rfl, ?_⟩; (repeat (first | exact New.refl _ | apply New.alloc | apply New.aft | apply New.drew | refine New.setCell ?_ ?_ _)); all_goals (first | done | (simp [size_aft]; done) | (simp [size_aft]; omega)))

def OnR (p q a b c d : Int) : Bool := okP p q && okS a b c d && onR p q a b c d
set_option maxHeartbeats 2000000 in
theorem ref_On (p q a b c d : Int) (w : World) : Calls Tryz.prog 33 #[pv p q, sv a b c d] w fun e w' => e = .returned (.bool (OnR p q a b c d)) ∧ New w w' := by
  have HP := Lib.hid (ref_valid p q)
  have HV := Lib.hid (ref_validSeg a b c d)
  by_cases h1 : okP p q = true
  · rw [h1] at HP
    by_cases h2 : okS a b c d = true
    · rw [h2] at HV
      have k1 := okP_iff.1 h1
      have k2 := okS_iff.1 h2
      have HO := Lib.hid (fun w1 : World => ref_on p q a b c d w1 (by omega) (by omega) (by omega) (by omega) (by omega) (by omega))
      rw [show OnR p q a b c d = onR p q a b c d by simp [OnR, h1, h2]]
      clear h1 h2 k1 k2
      generalize onR p q a b c d = B at *
      go_enter Tryz.func33, Tryz.ntmps33
      go_wp2_with (first | (go_at_call 86; refine (HP.out _).mono ?_; rintro e w1 ⟨rfl, pw, rfl⟩) | (go_at_call 90; refine (HV.out _).mono ?_; rintro e w1 ⟨rfl, pw, rfl⟩) | (go_at_call 91; refine (HO.out _).mono ?_; rintro e w1 ⟨rfl, pw, rfl⟩))
      all_goals (go_ret; refine ⟨rfl, ?_⟩; (repeat (first | exact New.refl _ | apply New.alloc | apply New.aft | apply New.drew | refine New.setCell ?_ ?_ _)); all_goals (first | done | (simp [size_aft]; done) | (simp [size_aft]; omega)))
    · have h2' : okS a b c d = false := by simpa using h2
      rw [h2'] at HV
      rw [show OnR p q a b c d = false by simp [OnR, h2']]
      clear h1 h2 h2'
      go_enter Tryz.func33, Tryz.ntmps33
      go_wp2_with (first | (go_at_call 86; refine (HP.out _).mono ?_; rintro e w1 ⟨rfl, pw, rfl⟩) | (go_at_call 90; refine (HV.out _).mono ?_; rintro e w1 ⟨rfl, pw, rfl⟩))
      all_goals (go_ret; refine ⟨rfl, ?_⟩; (repeat (first | exact New.refl _ | apply New.alloc | apply New.aft | apply New.drew | refine New.setCell ?_ ?_ _)); all_goals (first | done | (simp [size_aft]; done) | (simp [size_aft]; omega)))
  · have h1' : okP p q = false := by simpa using h1
    rw [h1'] at HP
    rw [show OnR p q a b c d = false by simp [OnR, h1']]
    clear h1 h1'
    generalize okS a b c d = B at HV
    go_enter Tryz.func33, Tryz.ntmps33
    go_wp2_with (first | (go_at_call 86; refine (HP.out _).mono ?_; rintro e w1 ⟨rfl, pw, rfl⟩) | (go_at_call 90; refine (HV.out _).mono ?_; rintro e w1 ⟨rfl, pw, rfl⟩))
    all_goals (go_ret; refine ⟨rfl, ?_⟩; (repeat (first | exact New.refl _ | apply New.alloc | apply New.aft | apply New.drew | refine New.setCell ?_ ?_ _)); all_goals (first | done | (simp [size_aft]; done) | (simp [size_aft]; omega)))

end Go.Proofs.YtpdfbboagaflhaaGreat

/- Both say the same of a point on a segment. -/
namespace Go.Proofs.YtpdfbboagaflhaaGreat
open Go.RowKit

theorem on_core {a b c d p q : Int} (hac : a < c) (he : (c - a) * (q - b) = (d - b) * (p - a)) (h1 : a ≤ p) (h2 : p ≤ c) : (min b d ≤ q ∧ q ≤ max b d) ∧ (p = a → q = b) ∧ (p = c → q = d) := by
  obtain ⟨u, hu⟩ : ∃ u, u = c - a := ⟨_, rfl⟩
  obtain ⟨v, hv⟩ : ∃ v, v = q - b := ⟨_, rfl⟩
  obtain ⟨s, hs⟩ : ∃ s, s = d - b := ⟨_, rfl⟩
  obtain ⟨t, ht⟩ : ∃ t, t = p - a := ⟨_, rfl⟩
  rw [← hu, ← hv, ← hs, ← ht] at he
  have u0 : 0 < u := by omega
  have t0 : 0 ≤ t := by omega
  have tu : t ≤ u := by omega
  refine ⟨?_, ?_, ?_⟩
  · by_cases s0 : 0 ≤ s
    · have m1 : s * 0 ≤ s * t := Int.mul_le_mul_of_nonneg_left t0 s0
      have m2 : s * t ≤ s * u := Int.mul_le_mul_of_nonneg_left tu s0
      have k1 : u * 0 ≤ u * v := by rw [he]; simpa using m1
      have k2 : u * v ≤ u * s := by rw [he, Int.mul_comm u s]; exact m2
      have k3 := Int.le_of_mul_le_mul_left k1 u0
      have k4 := Int.le_of_mul_le_mul_left k2 u0
      omega
    · have s1 : 0 ≤ -s := by omega
      have m1 : -s * 0 ≤ -s * t := Int.mul_le_mul_of_nonneg_left t0 s1
      have m2 : -s * t ≤ -s * u := Int.mul_le_mul_of_nonneg_left tu s1
      rw [Int.neg_mul, Int.neg_mul] at m1 m2
      have k1 : u * v ≤ u * 0 := by rw [he]; omega
      have k2 : u * s ≤ u * v := by rw [he, Int.mul_comm u s]; omega
      have k3 := Int.le_of_mul_le_mul_left k1 u0
      have k4 := Int.le_of_mul_le_mul_left k2 u0
      omega
  · intro h
    have t1 : t = 0 := by omega
    rw [t1, Int.mul_zero] at he
    rcases Int.mul_eq_zero.1 he with h3 | h3 <;> omega
  · intro h
    have t1 : t = u := by omega
    rw [t1, Int.mul_comm s u] at he
    have := Int.eq_of_mul_eq_mul_left (by omega) he
    omega

theorem orI_le (x y x' y' : Int) : orI (cmpI x x') (cmpI y y') ≤ 0 ↔ x < x' ∨ (x = x' ∧ y ≤ y') := by
  unfold orI cmpI
  by_cases h1 : x < x'
  · simp [h1]
  · by_cases h2 : x' < x
    · simp [h1, h2] <;> omega
    · by_cases h3 : y < y'
      · simp [h1, h2, h3] <;> omega
      · by_cases h4 : y' < y
        · simp [h1, h2, h3, h4] <;> omega
        · simp [h1, h2, h3, h4] <;> omega

theorem turnI_zero (a b c d p q : Int) : turnI a b c d p q = 0 ↔ (c - a) * (q - b) = (d - b) * (p - a) := by
  unfold turnI cmpI
  by_cases h1 : (c - a) * (q - b) < (d - b) * (p - a)
  · simp [h1] <;> omega
  · by_cases h2 : (d - b) * (p - a) < (c - a) * (q - b)
    · simp [h1, h2] <;> omega
    · simp [h1, h2] <;> omega

/-- for ends in ascending order -/
theorem on_asc {a b c d p q : Int} (hl : a < c ∨ (a = c ∧ b ≤ d)) (he : (c - a) * (q - b) = (d - b) * (p - a)) :
    ((a < p ∨ (a = p ∧ b ≤ q)) ∧ (p < c ∨ (p = c ∧ q ≤ d))) ↔ ((min a c ≤ p ∧ p ≤ max a c) ∧ (min b d ≤ q ∧ q ≤ max b d)) := by
  rcases hl with hac | ⟨hac, hbd⟩
  · constructor
    · intro h
      obtain ⟨k1, k2, k3⟩ := on_core hac he (by omega) (by omega)
      omega
    · intro h
      obtain ⟨k1, k2, k3⟩ := on_core hac he (by omega) (by omega)
      by_cases e1 : p = a
      · have := k2 e1; omega
      · by_cases e2 : p = c
        · have := k3 e2; omega
        · omega
  · subst hac
    by_cases e : d = b
    · subst e; omega
    · have hp : p = a := by
        rw [Int.sub_self, Int.zero_mul] at he
        rcases Int.mul_eq_zero.1 he.symm with h3 | h3 <;> omega
      subst hp; omega

theorem onR_eq (p q a b c d : Int) : onR p q a b c d = onB p q a b c d := by
  rw [Bool.eq_iff_iff]
  simp only [onR, onB, btwB, Bool.and_eq_true, beq_iff_eq, decide_eq_true_eq, turnI_zero, orI_le]
  by_cases hf : 0 < orI (cmpI a c) (cmpI b d)
  · have hf' : ¬ (a < c ∨ (a = c ∧ b ≤ d)) := by rw [← orI_le]; omega
    have e1 : f1 a b c d = c := if_pos hf
    have e2 : f2 a b c d = d := if_pos hf
    have e3 : f3 a b c d = a := if_pos hf
    have e4 : f4 a b c d = b := if_pos hf
    rw [e1, e2, e3, e4]
    have sw : (c - a) * (q - b) = (d - b) * (p - a) ↔ (a - c) * (q - d) = (b - d) * (p - c) := by
      have r1 : (a - c) * (q - d) = (c - a) * (d - b) - (c - a) * (q - b) := by rw [← Int.mul_sub, show d - b - (q - b) = -(q - d) by omega, show c - a = -(a - c) by omega, Int.neg_mul_neg]
      have r2 : (b - d) * (p - c) = (d - b) * (c - a) - (d - b) * (p - a) := by rw [← Int.mul_sub, show c - a - (p - a) = -(p - c) by omega, show d - b = -(b - d) by omega, Int.neg_mul_neg]
      rw [r1, r2, Int.mul_comm (c - a) (d - b)]
      omega
    rw [sw]
    constructor
    · rintro ⟨⟨h1, h2⟩, h3⟩
      have := (on_asc (by omega) h3).2 (by omega)
      exact ⟨⟨h3, this.1⟩, this.2⟩
    · rintro ⟨⟨h3, h1⟩, h2⟩
      have := (on_asc (by omega) h3).1 ⟨h1, h2⟩
      exact ⟨by omega, h3⟩
  · have hf' : a < c ∨ (a = c ∧ b ≤ d) := by rw [← orI_le]; omega
    have e1 : f1 a b c d = a := if_neg hf
    have e2 : f2 a b c d = b := if_neg hf
    have e3 : f3 a b c d = c := if_neg hf
    have e4 : f4 a b c d = d := if_neg hf
    rw [e1, e2, e3, e4]
    constructor
    · rintro ⟨⟨h1, h2⟩, h3⟩
      have := (on_asc hf' h3).2 (by omega)
      exact ⟨⟨h3, this.1⟩, this.2⟩
    · rintro ⟨⟨h3, h1⟩, h2⟩
      have := (on_asc hf' h3).1 ⟨h1, h2⟩
      exact ⟨by omega, h3⟩
theorem OnR_eq (p q a b c d : Int) : OnR p q a b c d = OnX p q a b c d := by rw [OnR, OnX, onR_eq]

end Go.Proofs.YtpdfbboagaflhaaGreat

/- PlaneOn, where alive answers true. -/
namespace Go.Proofs.YtpdfbboagaflhaaGreat
open Go.RowKit

/-- what is still to show of alive -/
def Alive : Prop := ∀ w : World, Calls Tryz.prog 31 #[] w fun e w' => e = .returned (.bool true) ∧ New w w'
set_option maxHeartbeats 2000000 in
theorem planeOn_c (HAL : Hid Alive) (p q a b c d : Int) (w : World) : Calls Tryz.prog 4 #[pv p q, sv a b c d] w fun e w' => e = .returned (.bool true) ∧ New w w' := by
  have HX := Lib.hid (On_c p q a b c d)
  have HR := Lib.hid (ref_On p q a b c d)
  rw [OnR_eq] at HR
  have HL := Lib.hid (show ∀ w : World, Calls Tryz.prog 31 #[] w fun e w' => e = .returned (.bool true) ∧ New w w' from HAL.out)
  clear HAL
  generalize OnX p q a b c d = B at *
  go_enter Tryz.func4, Tryz.ntmps4
  go_wp2_with fail
  first | refine wp_region_at2 (by kernel_rfl) (by kernel_rfl) ?_ | refine wp_region_at (by kernel_rfl) (by kernel_rfl) ?_
  repeat (go_big_quiet_step (first | (go_at_call 31; exact calls_new (HL.out _)) | (go_at_call 32; exact calls_new (HX.out _)) | (go_at_call 33; exact calls_new (HR.out _))))
  refine wpQuiet_nil ?_
  rintro _ ⟨q0, rfl⟩
  go_wp2_with fail
  all_goals (go_ret; refine ⟨ret_bool (by simp), ?_⟩; (repeat (first | exact New.refl _ | apply New.alloc | apply New.aft | apply New.drew | refine New.setCell ?_ ?_ _)); all_goals (first | done | (simp [size_aft]; done) | (simp [size_aft]; omega)))

end Go.Proofs.YtpdfbboagaflhaaGreat

/- PlaneTurns, where alive answers true. -/
namespace Go.Proofs.YtpdfbboagaflhaaGreat
open Go.RowKit

theorem turn_rot_eq (ax ay bx by' cx cy : Int) : (cx - bx) * (ay - by') - (cy - by') * (ax - bx) = (bx - ax) * (cy - ay) - (by' - ay) * (cx - ax) := by grind
theorem turn_swap_eq (ax ay bx by' cx cy : Int) : (ax - bx) * (cy - by') - (ay - by') * (cx - bx) = -((bx - ax) * (cy - ay) - (by' - ay) * (cx - ax)) := by grind
theorem cmpI_neg (x : Int) : cmpI (-x) 0 = - cmpI x 0 := by
  unfold cmpI
  by_cases h1 : x < 0
  · rw [if_pos h1, if_neg (by omega), if_pos (by omega)]; rfl
  · by_cases h2 : 0 < x
    · rw [if_neg h1, if_pos h2, if_pos (by omega)]
    · rw [if_neg h1, if_neg h2, if_neg (by omega), if_neg (by omega)]; rfl
theorem turnI_rot (ax ay bx by' cx cy : Int) : turnI bx by' cx cy ax ay = turnI ax ay bx by' cx cy := by
  unfold turnI; rw [← cmpI_sub, ← cmpI_sub ((bx - ax) * (cy - ay)), turn_rot_eq]
theorem turnI_swap (ax ay bx by' cx cy : Int) : turnI bx by' ax ay cx cy = - turnI ax ay bx by' cx cy := by
  unfold turnI; rw [← cmpI_sub, ← cmpI_sub ((bx - ax) * (cy - ay)), turn_swap_eq, cmpI_neg]
theorem TurnI_rot (ax ay bx by' cx cy : Int) : TurnI bx by' cx cy ax ay = TurnI ax ay bx by' cx cy := by
  unfold TurnI; rw [okL3, okL3, turnI_rot]
  have : (okP bx by' && okP cx cy && okP ax ay) = (okP ax ay && okP bx by' && okP cx cy) := by cases okP ax ay <;> cases okP bx by' <;> cases okP cx cy <;> rfl
  rw [this]
theorem TurnI_swap (ax ay bx by' cx cy : Int) : TurnI bx by' ax ay cx cy = - TurnI ax ay bx by' cx cy := by
  unfold TurnI; rw [okL3, okL3, turnI_swap]
  have : (okP bx by' && okP ax ay && okP cx cy) = (okP ax ay && okP bx by' && okP cx cy) := by cases okP ax ay <;> cases okP bx by' <;> cases okP cx cy <;> rfl
  rw [this]; split <;> simp
theorem TurnI_bd (ax ay bx by' cx cy : Int) : -1 ≤ TurnI ax ay bx by' cx cy ∧ TurnI ax ay bx by' cx cy ≤ 1 := by
  unfold TurnI turnI cmpI
  split
  · split
    · omega
    · split <;> omega
  · omega

set_option maxRecDepth 20000 in
set_option maxHeartbeats 4000000 in
theorem planeTurns_c (HAL : Hid Alive) (ax ay bx by' cx cy : Int) (w : World) : Calls Tryz.prog 3 #[pv ax ay, pv bx by', pv cx cy] w fun e w' => e = .returned (.bool true) ∧ New w w' := by
  have HL := Lib.hid (show ∀ w : World, Calls Tryz.prog 31 #[] w fun e w' => e = .returned (.bool true) ∧ New w w' from HAL.out)
  clear HAL
  have H1 := Lib.hid (Turn_c ax ay bx by' cx cy)
  have H2 := Lib.hid (Turn_c bx by' cx cy ax ay)
  have H3 := Lib.hid (Turn_c bx by' ax ay cx cy)
  have HR := Lib.hid (ref_Turn ax ay bx by' cx cy)
  have HP := Lib.hid (checkPoint_c ax ay)
  have HQ := Lib.hid (ref_checkPoint ax ay)
  rw [TurnI_rot] at H2
  rw [TurnI_swap] at H3
  have hbd := TurnI_bd ax ay bx by' cx cy
  generalize TurnI ax ay bx by' cx cy = T at *
  generalize okErr ax ay = E at *
  have t1 : (T != T) = false := by simp
  have t2 : (E != E) = false := by simp
  go_enter Tryz.func3, Tryz.ntmps3
  go_wp2_with (go_at_call 27; (with_reducible refine (H1.out _).mono ?_); rintro e w1 ⟨rfl, pw, rfl⟩)
  first | refine wp_region_at2 (by kernel_rfl) (by kernel_rfl) ?_ | refine wp_region_at (by kernel_rfl) (by kernel_rfl) ?_
  repeat (go_big_quiet_step (first | (go_at_call 28; exact calls_new (HR.out _)) | (go_at_call 29; exact calls_new (HP.out _)) | (go_at_call 30; exact calls_new (HQ.out _))))
  refine wpQuiet_nil ?_
  rintro _ ⟨q0, rfl⟩
  go_wp2_with (first | (go_at_call 31; refine (HL.out _).mono ?_; rintro e w1 ⟨rfl, pw, rfl⟩) | (go_at_call 27; (with_reducible refine (H2.out _).mono ?_); rintro e w1 ⟨rfl, pw, rfl⟩) | (go_at_call 27; (with_reducible refine (H3.out _).mono ?_); rintro e w1 ⟨rfl, pw, rfl⟩))
  all_goals (go_ret; refine ⟨ret_bool (by simp), ?_⟩; (repeat (first | exact New.refl _ | apply New.alloc | apply New.aft | apply New.drew | refine New.setCell ?_ ?_ _)); all_goals (first | done | (simp [size_aft]; done) | (simp [size_aft]; omega)))

end Go.Proofs.YtpdfbboagaflhaaGreat
