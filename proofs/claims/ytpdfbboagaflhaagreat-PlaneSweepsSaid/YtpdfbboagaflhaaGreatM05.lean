/- What the functions on segments return: which is first, which are valid, which points are on them, how they meet. No condition beyond what each line names. -/
import Derived.Test.YtpdfbboagaflhaaGreatM04
import Derived.Deep.RegionHeld3
import Derived.BigRegion

namespace Go.Proofs.YtpdfbboagaflhaaGreat
open Go.RowKit

def f1 (a b c d : Int) : Int := if 0 < orI (cmpI a c) (cmpI b d) then c else a
def f2 (a b c d : Int) : Int := if 0 < orI (cmpI a c) (cmpI b d) then d else b
def f3 (a b c d : Int) : Int := if 0 < orI (cmpI a c) (cmpI b d) then a else c
def f4 (a b c d : Int) : Int := if 0 < orI (cmpI a c) (cmpI b d) then b else d
theorem f_bd (lo hi a b c d : Int) (ha : lo ≤ a ∧ a ≤ hi) (hb : lo ≤ b ∧ b ≤ hi) (hc : lo ≤ c ∧ c ≤ hi) (hd : lo ≤ d ∧ d ≤ hi) :
    (lo ≤ f1 a b c d ∧ f1 a b c d ≤ hi) ∧ (lo ≤ f2 a b c d ∧ f2 a b c d ≤ hi) ∧ (lo ≤ f3 a b c d ∧ f3 a b c d ≤ hi) ∧ (lo ≤ f4 a b c d ∧ f4 a b c d ≤ hi) := by
  unfold f1 f2 f3 f4; split <;> exact ⟨by omega, by omega, by omega, by omega⟩

set_option maxHeartbeats 1000000 in
theorem forward_c (a b c d : Int) (w : World) : Calls Tryz.prog 98 #[sv a b c d] w fun e w' => e = .returned (sv (f1 a b c d) (f2 a b c d) (f3 a b c d) (f4 a b c d)) ∧ New w w' := by
  by_cases h : 0 < orI (cmpI a c) (cmpI b d)
  · rw [show f1 a b c d = c from if_pos h, show f2 a b c d = d from if_pos h, show f3 a b c d = a from if_pos h, show f4 a b c d = b from if_pos h]
    go_enter Tryz.func98, Tryz.ntmps98
    go_wp2_with (go_at_call 125; refine (comparePoints_c _ _ _ _ _).mono ?_; rintro e w1 ⟨rfl, pw, rfl⟩)
    refine bodyPost_ret (v := sv c d a b) (by simp [results, Tryz.results98, go_sem]) rfl ⟨rfl, ?_⟩
    (repeat (first | exact New.refl _ | apply New.alloc | apply New.aft | apply New.drew | refine New.setCell ?_ ?_ _)); all_goals (first | done | (simp [size_aft]; done) | (simp [size_aft]; omega))
  · rw [show f1 a b c d = a from if_neg h, show f2 a b c d = b from if_neg h, show f3 a b c d = c from if_neg h, show f4 a b c d = d from if_neg h]
    go_enter Tryz.func98, Tryz.ntmps98
    go_wp2_with (go_at_call 125; refine (comparePoints_c _ _ _ _ _).mono ?_; rintro e w1 ⟨rfl, pw, rfl⟩)
    refine bodyPost_ret (v := sv a b c d) (by simp [results, Tryz.results98, go_sem]) rfl ⟨rfl, ?_⟩
    (repeat (first | exact New.refl _ | apply New.alloc | apply New.aft | apply New.drew | refine New.setCell ?_ ?_ _)); all_goals (first | done | (simp [size_aft]; done) | (simp [size_aft]; omega))

def okS (a b c d : Int) : Bool := okP a b && okP c d && !(a == c && b == d)
theorem okS_iff {a b c d : Int} : okS a b c d = true ↔ ((0 ≤ a ∧ a ≤ 10000) ∧ (0 ≤ b ∧ b ≤ 10000)) ∧ ((0 ≤ c ∧ c ≤ 10000) ∧ (0 ≤ d ∧ d ≤ 10000)) ∧ ¬ (a = c ∧ b = d) := by
  simp only [okS, Bool.and_eq_true, okP_iff, Bool.not_eq_true', Bool.and_eq_false_iff, beq_eq_false_iff_ne]
  constructor
  · rintro ⟨⟨h1, h2⟩, h3⟩; exact ⟨h1, h2, by omega⟩
  · rintro ⟨h1, h2, h3⟩; exact ⟨⟨h1, h2⟩, by omega⟩

set_option maxHeartbeats 2000000 in
theorem validSeg_c (a b c d : Int) (w : World) : Calls Tryz.prog 88 #[sv a b c d] w fun e w' => e = .returned (.bool (okS a b c d)) ∧ New w w' := by
  by_cases h1 : okP a b = true
  · have e1 := okErr_yes h1
    by_cases h2 : okP c d = true
    · have e2 := okErr_yes h2
      go_enter Tryz.func88, Tryz.ntmps88
      go_wp2_with (go_at_call 29; refine (checkPoint_c _ _ _).mono ?_; rintro e w1 ⟨rfl, pw, rfl⟩)
      all_goals (go_ret; refine ⟨ret_bool ?_, ?_⟩)
      all_goals (first | (simp_all [okS]; done) | ((repeat (first | exact New.refl _ | apply New.alloc | apply New.aft | apply New.drew | refine New.setCell ?_ ?_ _)); all_goals (first | done | (simp [size_aft]; done) | (simp [size_aft]; omega))))
    · have e2 := okErr_no (by simpa using h2)
      go_enter Tryz.func88, Tryz.ntmps88
      go_wp2_with (go_at_call 29; refine (checkPoint_c _ _ _).mono ?_; rintro e w1 ⟨rfl, pw, rfl⟩)
      all_goals (go_ret; refine ⟨ret_bool ?_, ?_⟩)
      all_goals (first | (simp_all [okS]; done) | ((repeat (first | exact New.refl _ | apply New.alloc | apply New.aft | apply New.drew | refine New.setCell ?_ ?_ _)); all_goals (first | done | (simp [size_aft]; done) | (simp [size_aft]; omega))))
  · have e1 := okErr_no (by simpa using h1)
    go_enter Tryz.func88, Tryz.ntmps88
    go_wp2_with (go_at_call 29; refine (checkPoint_c _ _ _).mono ?_; rintro e w1 ⟨rfl, pw, rfl⟩)
    all_goals (go_ret; refine ⟨ret_bool ?_, ?_⟩)
    all_goals (first | (simp_all [okS]; done) | ((repeat (first | exact New.refl _ | apply New.alloc | apply New.aft | apply New.drew | refine New.setCell ?_ ?_ _)); all_goals (first | done | (simp [size_aft]; done) | (simp [size_aft]; omega))))

theorem cmpI_bd (a b : Int) : -1 ≤ cmpI a b ∧ cmpI a b ≤ 1 := by unfold cmpI; split <;> (try split) <;> omega
theorem turnI_bd (a b c d e f : Int) : -1 ≤ turnI a b c d e f ∧ turnI a b c d e f ≤ 1 := cmpI_bd _ _
theorem orI_bd (a b : Int) (h : -1 ≤ a ∧ a ≤ 1) (k : -1 ≤ b ∧ b ≤ 1) : -1 ≤ orI a b ∧ orI a b ≤ 1 := by unfold orI; split <;> omega

def codeI (k : Int) : Int := if k = -1 then 4 else if k = 0 then 1 else 0
/-- how two segments of one line meet -/
def onLineI (a b c d e f g h : Int) : Int :=
  codeI (if orI (cmpI a e) (cmpI b f) < 0 then (if 0 < orI (cmpI c g) (cmpI d h) then orI (cmpI e g) (cmpI f h) else orI (cmpI e c) (cmpI f d)) else (if 0 < orI (cmpI c g) (cmpI d h) then orI (cmpI a g) (cmpI b h) else orI (cmpI a c) (cmpI b d)))

set_option maxHeartbeats 4000000 in
theorem mol11 (a b c d e f g h k : Int) (w : World) (h1 : orI (cmpI a e) (cmpI b f) < 0) (h2 : 0 < orI (cmpI c g) (cmpI d h)) (hk : orI (cmpI e g) (cmpI f h) = k) : Calls Tryz.prog 166 #[sv a b c d, sv e f g h] w fun en w' => en = .returned (.int .u8 (codeI k)) ∧ New w w' := by
  by_cases k1 : k = -1
  · subst k1
    rw [show codeI (-1) = 4 from rfl]
    go_enter Tryz.func166, Tryz.ntmps166
    go_wp2_with fail
    go_region
    all_goals (go_wp2_with (go_at_call 125; refine (comparePoints_c _ _ _ _ _).mono ?_; rintro e w1 ⟨rfl, pw, rfl⟩))
    all_goals (go_ret; refine ⟨rfl, ?_⟩; (repeat (first | exact New.refl _ | apply New.alloc | apply New.aft | apply New.drew | refine New.setCell ?_ ?_ _)); all_goals (first | done | (simp [size_aft]; done) | (simp [size_aft]; omega)))
  · by_cases k2 : k = 0
    · subst k2
      rw [show codeI 0 = 1 from rfl]
      go_enter Tryz.func166, Tryz.ntmps166
      go_wp2_with fail
      go_region
      all_goals (go_wp2_with (go_at_call 125; refine (comparePoints_c _ _ _ _ _).mono ?_; rintro e w1 ⟨rfl, pw, rfl⟩))
      all_goals (go_ret; refine ⟨rfl, ?_⟩; (repeat (first | exact New.refl _ | apply New.alloc | apply New.aft | apply New.drew | refine New.setCell ?_ ?_ _)); all_goals (first | done | (simp [size_aft]; done) | (simp [size_aft]; omega)))
    · rw [show codeI k = 0 by simp [codeI, k1, k2]]
      have k3 : (k == -1) = false := by simpa using k1
      have k4 : (k == 0) = false := by simpa using k2
      go_enter Tryz.func166, Tryz.ntmps166
      go_wp2_with fail
      go_region
      all_goals (go_wp2_with (go_at_call 125; refine (comparePoints_c _ _ _ _ _).mono ?_; rintro e w1 ⟨rfl, pw, rfl⟩))
      all_goals (go_ret; refine ⟨rfl, ?_⟩; (repeat (first | exact New.refl _ | apply New.alloc | apply New.aft | apply New.drew | refine New.setCell ?_ ?_ _)); all_goals (first | done | (simp [size_aft]; done) | (simp [size_aft]; omega)))

set_option maxHeartbeats 4000000 in
theorem mol10 (a b c d e f g h k : Int) (w : World) (h1 : orI (cmpI a e) (cmpI b f) < 0) (h2 : ¬ 0 < orI (cmpI c g) (cmpI d h)) (hk : orI (cmpI e c) (cmpI f d) = k) : Calls Tryz.prog 166 #[sv a b c d, sv e f g h] w fun en w' => en = .returned (.int .u8 (codeI k)) ∧ New w w' := by
  by_cases k1 : k = -1
  · subst k1
    rw [show codeI (-1) = 4 from rfl]
    go_enter Tryz.func166, Tryz.ntmps166
    go_wp2_with fail
    go_region
    all_goals (go_wp2_with (go_at_call 125; refine (comparePoints_c _ _ _ _ _).mono ?_; rintro e w1 ⟨rfl, pw, rfl⟩))
    all_goals (go_ret; refine ⟨rfl, ?_⟩; (repeat (first | exact New.refl _ | apply New.alloc | apply New.aft | apply New.drew | refine New.setCell ?_ ?_ _)); all_goals (first | done | (simp [size_aft]; done) | (simp [size_aft]; omega)))
  · by_cases k2 : k = 0
    · subst k2
      rw [show codeI 0 = 1 from rfl]
      go_enter Tryz.func166, Tryz.ntmps166
      go_wp2_with fail
      go_region
      all_goals (go_wp2_with (go_at_call 125; refine (comparePoints_c _ _ _ _ _).mono ?_; rintro e w1 ⟨rfl, pw, rfl⟩))
      all_goals (go_ret; refine ⟨rfl, ?_⟩; (repeat (first | exact New.refl _ | apply New.alloc | apply New.aft | apply New.drew | refine New.setCell ?_ ?_ _)); all_goals (first | done | (simp [size_aft]; done) | (simp [size_aft]; omega)))
    · rw [show codeI k = 0 by simp [codeI, k1, k2]]
      have k3 : (k == -1) = false := by simpa using k1
      have k4 : (k == 0) = false := by simpa using k2
      go_enter Tryz.func166, Tryz.ntmps166
      go_wp2_with fail
      go_region
      all_goals (go_wp2_with (go_at_call 125; refine (comparePoints_c _ _ _ _ _).mono ?_; rintro e w1 ⟨rfl, pw, rfl⟩))
      all_goals (go_ret; refine ⟨rfl, ?_⟩; (repeat (first | exact New.refl _ | apply New.alloc | apply New.aft | apply New.drew | refine New.setCell ?_ ?_ _)); all_goals (first | done | (simp [size_aft]; done) | (simp [size_aft]; omega)))

set_option maxHeartbeats 4000000 in
theorem mol01 (a b c d e f g h k : Int) (w : World) (h1 : ¬ orI (cmpI a e) (cmpI b f) < 0) (h2 : 0 < orI (cmpI c g) (cmpI d h)) (hk : orI (cmpI a g) (cmpI b h) = k) : Calls Tryz.prog 166 #[sv a b c d, sv e f g h] w fun en w' => en = .returned (.int .u8 (codeI k)) ∧ New w w' := by
  by_cases k1 : k = -1
  · subst k1
    rw [show codeI (-1) = 4 from rfl]
    go_enter Tryz.func166, Tryz.ntmps166
    go_wp2_with fail
    go_region
    all_goals (go_wp2_with (go_at_call 125; refine (comparePoints_c _ _ _ _ _).mono ?_; rintro e w1 ⟨rfl, pw, rfl⟩))
    all_goals (go_ret; refine ⟨rfl, ?_⟩; (repeat (first | exact New.refl _ | apply New.alloc | apply New.aft | apply New.drew | refine New.setCell ?_ ?_ _)); all_goals (first | done | (simp [size_aft]; done) | (simp [size_aft]; omega)))
  · by_cases k2 : k = 0
    · subst k2
      rw [show codeI 0 = 1 from rfl]
      go_enter Tryz.func166, Tryz.ntmps166
      go_wp2_with fail
      go_region
      all_goals (go_wp2_with (go_at_call 125; refine (comparePoints_c _ _ _ _ _).mono ?_; rintro e w1 ⟨rfl, pw, rfl⟩))
      all_goals (go_ret; refine ⟨rfl, ?_⟩; (repeat (first | exact New.refl _ | apply New.alloc | apply New.aft | apply New.drew | refine New.setCell ?_ ?_ _)); all_goals (first | done | (simp [size_aft]; done) | (simp [size_aft]; omega)))
    · rw [show codeI k = 0 by simp [codeI, k1, k2]]
      have k3 : (k == -1) = false := by simpa using k1
      have k4 : (k == 0) = false := by simpa using k2
      go_enter Tryz.func166, Tryz.ntmps166
      go_wp2_with fail
      go_region
      all_goals (go_wp2_with (go_at_call 125; refine (comparePoints_c _ _ _ _ _).mono ?_; rintro e w1 ⟨rfl, pw, rfl⟩))
      all_goals (go_ret; refine ⟨rfl, ?_⟩; (repeat (first | exact New.refl _ | apply New.alloc | apply New.aft | apply New.drew | refine New.setCell ?_ ?_ _)); all_goals (first | done | (simp [size_aft]; done) | (simp [size_aft]; omega)))

set_option maxHeartbeats 4000000 in
theorem mol00 (a b c d e f g h k : Int) (w : World) (h1 : ¬ orI (cmpI a e) (cmpI b f) < 0) (h2 : ¬ 0 < orI (cmpI c g) (cmpI d h)) (hk : orI (cmpI a c) (cmpI b d) = k) : Calls Tryz.prog 166 #[sv a b c d, sv e f g h] w fun en w' => en = .returned (.int .u8 (codeI k)) ∧ New w w' := by
  by_cases k1 : k = -1
  · subst k1
    rw [show codeI (-1) = 4 from rfl]
    go_enter Tryz.func166, Tryz.ntmps166
    go_wp2_with fail
    go_region
    all_goals (go_wp2_with (go_at_call 125; refine (comparePoints_c _ _ _ _ _).mono ?_; rintro e w1 ⟨rfl, pw, rfl⟩))
    all_goals (go_ret; refine ⟨rfl, ?_⟩; (repeat (first | exact New.refl _ | apply New.alloc | apply New.aft | apply New.drew | refine New.setCell ?_ ?_ _)); all_goals (first | done | (simp [size_aft]; done) | (simp [size_aft]; omega)))
  · by_cases k2 : k = 0
    · subst k2
      rw [show codeI 0 = 1 from rfl]
      go_enter Tryz.func166, Tryz.ntmps166
      go_wp2_with fail
      go_region
      all_goals (go_wp2_with (go_at_call 125; refine (comparePoints_c _ _ _ _ _).mono ?_; rintro e w1 ⟨rfl, pw, rfl⟩))
      all_goals (go_ret; refine ⟨rfl, ?_⟩; (repeat (first | exact New.refl _ | apply New.alloc | apply New.aft | apply New.drew | refine New.setCell ?_ ?_ _)); all_goals (first | done | (simp [size_aft]; done) | (simp [size_aft]; omega)))
    · rw [show codeI k = 0 by simp [codeI, k1, k2]]
      have k3 : (k == -1) = false := by simpa using k1
      have k4 : (k == 0) = false := by simpa using k2
      go_enter Tryz.func166, Tryz.ntmps166
      go_wp2_with fail
      go_region
      all_goals (go_wp2_with (go_at_call 125; refine (comparePoints_c _ _ _ _ _).mono ?_; rintro e w1 ⟨rfl, pw, rfl⟩))
      all_goals (go_ret; refine ⟨rfl, ?_⟩; (repeat (first | exact New.refl _ | apply New.alloc | apply New.aft | apply New.drew | refine New.setCell ?_ ?_ _)); all_goals (first | done | (simp [size_aft]; done) | (simp [size_aft]; omega)))

theorem meetOnLine_c (a b c d e f g h : Int) (w : World) : Calls Tryz.prog 166 #[sv a b c d, sv e f g h] w fun en w' => en = .returned (.int .u8 (onLineI a b c d e f g h)) ∧ New w w' := by
  unfold onLineI
  by_cases h1 : orI (cmpI a e) (cmpI b f) < 0 <;> by_cases h2 : 0 < orI (cmpI c g) (cmpI d h)
  · rw [if_pos h1, if_pos h2]; exact mol11 a b c d e f g h _ w h1 h2 rfl
  · rw [if_pos h1, if_neg h2]; exact mol10 a b c d e f g h _ w h1 h2 rfl
  · rw [if_neg h1, if_pos h2]; exact mol01 a b c d e f g h _ w h1 h2 rfl
  · rw [if_neg h1, if_neg h2]; exact mol00 a b c d e f g h _ w h1 h2 rfl

end Go.Proofs.YtpdfbboagaflhaaGreat
