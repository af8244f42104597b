/- What On returns. -/
import Derived.Test.YtpdfbboagaflhaaGreatM31
import Derived.Test.YtpdfbboagaflhaaGreatM15
import Derived.Deep.RegionHeld3
import Derived.Deep.RegionWith
import Derived.BigRegion
import Derived.LoopTactic
import Derived.Test.YtpdfbboagaflhaaGreatM21
import Derived.Deep.AppendLies
import Derived.Deep.RegionLaw
import Derived.Test.YtpdfbboagaflhaaGreatM25

namespace Go.Proofs.YtpdfbboagaflhaaGreat
open Go.RowKit

def OnX (p q a b c d : Int) : Bool := okP p q && okS a b c d && onB p q a b c d
set_option maxHeartbeats 2000000 in
theorem On_c (p q a b c d : Int) (w : World) : Calls Tryz.prog 32 #[pv p q, sv a b c d] w fun e w' => e = .returned (.bool (OnX p q a b c d)) ∧ New w w' := by
  have HP := Lib.hid (checkPoint_c p q)
  have HV := Lib.hid (validSeg_c a b c d)
  by_cases h1 : okP p q = true
  · rw [okErr_yes h1] at HP
    by_cases h2 : okS a b c d = true
    · rw [h2] at HV
      have k1 := okP_iff.1 h1
      have k2 := okS_iff.1 h2
      have HO := Lib.hid (fun w1 : World => on_c p q a b c d w1 (by omega) (by omega) (by omega) (by omega) (by omega) (by omega))
      rw [show OnX p q a b c d = onB p q a b c d by simp [OnX, h1, h2]]
      clear h1 h2 k1 k2
      generalize onB p q a b c d = B at *
      go_enter Tryz.func32, Tryz.ntmps32
      go_wp2_with (first | (go_at_call 29; refine (HP.out _).mono ?_; rintro e w1 ⟨rfl, pw, rfl⟩) | (go_at_call 88; refine (HV.out _).mono ?_; rintro e w1 ⟨rfl, pw, rfl⟩) | (go_at_call 89; refine (HO.out _).mono ?_; rintro e w1 ⟨rfl, pw, rfl⟩))
      all_goals (go_ret; refine ⟨rfl, ?_⟩; (repeat (first | exact New.refl _ | apply New.alloc | apply New.aft | apply New.drew | refine New.setCell ?_ ?_ _)); all_goals (first | done | (simp [size_aft]; done) | (simp [size_aft]; omega)))
    · have h2' : okS a b c d = false := by simpa using h2
      rw [h2'] at HV
      rw [show OnX p q a b c d = false by simp [OnX, h2']]
      clear h1 h2 h2'
      go_enter Tryz.func32, Tryz.ntmps32
      go_wp2_with (first | (go_at_call 29; refine (HP.out _).mono ?_; rintro e w1 ⟨rfl, pw, rfl⟩) | (go_at_call 88; refine (HV.out _).mono ?_; rintro e w1 ⟨rfl, pw, rfl⟩))
      all_goals (go_ret; refine ⟨rfl, ?_⟩; (repeat (first | exact New.refl _ | apply New.alloc | apply New.aft | apply New.drew | refine New.setCell ?_ ?_ _)); all_goals (first | done | (simp [size_aft]; done) | (simp [size_aft]; omega)))
  · have h1' : okP p q = false := by simpa using h1
    rw [okErr_no h1'] at HP
    rw [show OnX p q a b c d = false by simp [OnX, h1']]
    clear h1 h1'
    go_enter Tryz.func32, Tryz.ntmps32
    go_wp2_with (go_at_call 29; refine (HP.out _).mono ?_; rintro e w1 ⟨rfl, pw, rfl⟩)
    all_goals (go_ret; refine ⟨rfl, ?_⟩; (repeat (first | exact New.refl _ | apply New.alloc | apply New.aft | apply New.drew | refine New.setCell ?_ ?_ _)); all_goals (first | done | (simp [size_aft]; done) | (simp [size_aft]; omega)))

end Go.Proofs.YtpdfbboagaflhaaGreat

/- What functions of the reference return: Valid, sign, CheckPoint. -/
namespace Go.Proofs.YtpdfbboagaflhaaGreat
open Go.RowKit

set_option maxRecDepth 20000 in
set_option maxHeartbeats 1000000 in
/-- the reference's functions: the same values -/
theorem ref_valid (x y : Int) (w : World) : Calls Tryz.prog 86 #[pv x y] w fun e w' => e = .returned (.bool (okP x y)) ∧ New w w' := by
  by_cases h : okP x y = true
  · rw [h]
    rw [okP_iff] at h
    obtain ⟨⟨h1, h2⟩, h3, h4⟩ := h
    go_enter Tryz.func86, Tryz.ntmps86
    go_wp2
    all_goals (go_ret; refine ⟨rfl, ?_⟩; (repeat (first | exact New.refl _ | apply New.alloc | apply New.aft | apply New.drew | refine New.setCell ?_ ?_ _)); all_goals (first | done | (simp [size_aft]; done) | (simp [size_aft]; omega)))
  · rw [show okP x y = false by simpa using h]
    rw [okP_iff] at h
    by_cases a1 : 0 ≤ x
    · by_cases a2 : x ≤ 10000
      · by_cases a3 : 0 ≤ y
        · have a4 : ¬ y ≤ 10000 := by omega
          clear h
          go_enter Tryz.func86, Tryz.ntmps86
          go_wp2
          all_goals (go_ret; refine ⟨rfl, ?_⟩; (repeat (first | exact New.refl _ | apply New.alloc | apply New.aft | apply New.drew | refine New.setCell ?_ ?_ _)); all_goals (first | done | (simp [size_aft]; done) | (simp [size_aft]; omega)))
        · clear h
          go_enter Tryz.func86, Tryz.ntmps86
          go_wp2
          all_goals (go_ret; refine ⟨rfl, ?_⟩; (repeat (first | exact New.refl _ | apply New.alloc | apply New.aft | apply New.drew | refine New.setCell ?_ ?_ _)); all_goals (first | done | (simp [size_aft]; done) | (simp [size_aft]; omega)))
      · clear h
        go_enter Tryz.func86, Tryz.ntmps86
        go_wp2
        all_goals (go_ret; refine ⟨rfl, ?_⟩; (repeat (first | exact New.refl _ | apply New.alloc | apply New.aft | apply New.drew | refine New.setCell ?_ ?_ _)); all_goals (first | done | (simp [size_aft]; done) | (simp [size_aft]; omega)))
    · clear h
      go_enter Tryz.func86, Tryz.ntmps86
      go_wp2
      all_goals (go_ret; refine ⟨rfl, ?_⟩; (repeat (first | exact New.refl _ | apply New.alloc | apply New.aft | apply New.drew | refine New.setCell ?_ ?_ _)); all_goals (first | done | (simp [size_aft]; done) | (simp [size_aft]; omega)))

set_option maxHeartbeats 1000000 in
theorem ref_sign (x : Int) (w : World) : Calls Tryz.prog 164 #[.int .i64 x] w fun e w' => e = .returned (.int .i64 (cmpI x 0)) ∧ New w w' := by
  have h : (0 < x ∧ cmpI x 0 = 1) ∨ (¬ 0 < x ∧ x < 0 ∧ cmpI x 0 = -1) ∨ (¬ 0 < x ∧ ¬ x < 0 ∧ cmpI x 0 = 0) := by
    unfold cmpI
    by_cases h1 : 0 < x
    · left; refine ⟨h1, ?_⟩; split <;> first | rfl | omega | (split <;> first | rfl | omega)
    · by_cases h2 : x < 0
      · right; left; refine ⟨h1, h2, ?_⟩; split <;> first | rfl | omega | (split <;> first | rfl | omega)
      · right; right; refine ⟨h1, h2, ?_⟩; split <;> first | rfl | omega | (split <;> first | rfl | omega)
  rcases h with ⟨h1, h2⟩ | ⟨h1, h2, h3⟩ | ⟨h1, h2, h3⟩
  · rw [h2]; clear h2
    go_enter Tryz.func164, Tryz.ntmps164
    go_wp2
    all_goals (go_ret; exact ⟨rfl, New.refl _⟩)
  · rw [h3]; clear h3
    go_enter Tryz.func164, Tryz.ntmps164
    go_wp2
    all_goals (go_ret; exact ⟨rfl, New.refl _⟩)
  · rw [h3]; clear h3
    go_enter Tryz.func164, Tryz.ntmps164
    go_wp2
    all_goals (go_ret; exact ⟨rfl, New.refl _⟩)

set_option maxHeartbeats 1000000 in
theorem ref_checkPoint (x y : Int) (w : World) : Calls Tryz.prog 30 #[pv x y] w fun e w' => e = .returned (.int .i64 (okErr x y)) ∧ New w w' := by
  have HV := Lib.hid (ref_valid x y)
  by_cases h : okP x y = true
  · rw [okErr_yes h]
    rw [h] at HV
    clear h
    go_enter Tryz.func30, Tryz.ntmps30
    go_wp2_with (go_at_call 86; refine (HV.out _).mono ?_; rintro e w1 ⟨rfl, pw, rfl⟩)
    all_goals (go_ret; refine ⟨rfl, ?_⟩; (repeat (first | exact New.refl _ | apply New.alloc | apply New.aft | apply New.drew | refine New.setCell ?_ ?_ _)); all_goals (first | done | (simp [size_aft]; done) | (simp [size_aft]; omega)))
  · have h' : okP x y = false := by simpa using h
    rw [okErr_no h']
    rw [h'] at HV
    clear h h'
    go_enter Tryz.func30, Tryz.ntmps30
    go_wp2_with (go_at_call 86; refine (HV.out _).mono ?_; rintro e w1 ⟨rfl, pw, rfl⟩)
    all_goals (go_ret; refine ⟨rfl, ?_⟩; (repeat (first | exact New.refl _ | apply New.alloc | apply New.aft | apply New.drew | refine New.setCell ?_ ?_ _)); all_goals (first | done | (simp [size_aft]; done) | (simp [size_aft]; omega)))

end Go.Proofs.YtpdfbboagaflhaaGreat

/- What functions of the reference return: turn, ValidSeg. -/
namespace Go.Proofs.YtpdfbboagaflhaaGreat
open Go.RowKit

theorem cmpI_sub (a b : Int) : cmpI (a - b) 0 = cmpI a b := by
  unfold cmpI
  by_cases h1 : a < b
  · rw [if_pos h1, if_pos (by omega)]
  · by_cases h2 : b < a
    · rw [if_neg h1, if_pos h2, if_neg (by omega), if_pos (by omega)]
    · rw [if_neg h1, if_neg h2, if_neg (by omega), if_neg (by omega)]

set_option maxHeartbeats 1000000 in
theorem ref_turn (ax ay bx by' cx cy : Int) (w : World) (h1 : -40000 ≤ ax ∧ ax ≤ 40000) (h2 : -40000 ≤ ay ∧ ay ≤ 40000) (h3 : -40000 ≤ bx ∧ bx ≤ 40000) (h4 : -40000 ≤ by' ∧ by' ≤ 40000) (h5 : -40000 ≤ cx ∧ cx ≤ 40000) (h6 : -40000 ≤ cy ∧ cy ≤ 40000) :
    Calls Tryz.prog 87 #[pv ax ay, pv bx by', pv cx cy] w fun e w' => e = .returned (.int .i64 (turnI ax ay bx by' cx cy)) ∧ New w w' := by
  obtain ⟨p1, p2⟩ := mul_bd (bx - ax) (cy - ay) 80000 80000 (by omega) (by omega) (by omega) (by omega)
  obtain ⟨p3, p4⟩ := mul_bd (by' - ay) (cx - ax) 80000 80000 (by omega) (by omega) (by omega) (by omega)
  simp only [Int.reduceMul, Int.reduceNeg] at p1 p2 p3 p4
  have HS := Lib.hid (ref_sign ((bx - ax) * (cy - ay) - (by' - ay) * (cx - ax)))
  rw [cmpI_sub] at HS
  rw [show turnI ax ay bx by' cx cy = cmpI ((bx - ax) * (cy - ay)) ((by' - ay) * (cx - ax)) from rfl]
  generalize cmpI ((bx - ax) * (cy - ay)) ((by' - ay) * (cx - ax)) = C at *
  go_enter Tryz.func87, Tryz.ntmps87
  go_wp2_with (go_at_call 164; refine (HS.out _).mono ?_; rintro e w1 ⟨rfl, pw, rfl⟩)
  all_goals (go_ret; refine ⟨rfl, ?_⟩; (repeat (first | exact New.refl _ | apply New.alloc | apply New.aft | apply New.drew | refine New.setCell ?_ ?_ _)); all_goals (first | done | (simp [size_aft]; done) | (simp [size_aft]; omega)))

set_option maxRecDepth 20000 in
set_option maxHeartbeats 2000000 in
theorem ref_validSeg (a b c d : Int) (w : World) : Calls Tryz.prog 90 #[sv a b c d] w fun e w' => e = .returned (.bool (okS a b c d)) ∧ New w w' := by
  have HA := Lib.hid (ref_valid a b)
  have HB := Lib.hid (ref_valid c d)
  by_cases h1 : okP a b = true
  · by_cases h2 : okP c d = true
    · rw [h1] at HA
      rw [h2] at HB
      rw [show okS a b c d = !(a == c && b == d) by simp [okS, h1, h2]]
      clear h1 h2
      by_cases e1 : a = c
      · by_cases e2 : b = d
        · subst e1; subst e2
          rw [show (!(a == a && b == b)) = false by simp]
          go_enter Tryz.func90, Tryz.ntmps90
          go_wp2_with (first | (go_at_call 86; (with_reducible refine (HA.out _).mono ?_); rintro e w1 ⟨rfl, pw, rfl⟩) | (go_at_call 86; (with_reducible refine (HB.out _).mono ?_); rintro e w1 ⟨rfl, pw, rfl⟩))
          all_goals (go_ret; refine ⟨rfl, ?_⟩; (repeat (first | exact New.refl _ | apply New.alloc | apply New.aft | apply New.drew | refine New.setCell ?_ ?_ _)); all_goals (first | done | (simp [size_aft]; done) | (simp [size_aft]; omega)))
        · have t2 : (b == d) = false := by simpa using e2
          rw [show (!(a == c && b == d)) = true by simp [e2]]
          subst e1
          clear e2
          go_enter Tryz.func90, Tryz.ntmps90
          go_wp2_with (first | (go_at_call 86; (with_reducible refine (HA.out _).mono ?_); rintro e w1 ⟨rfl, pw, rfl⟩) | (go_at_call 86; (with_reducible refine (HB.out _).mono ?_); rintro e w1 ⟨rfl, pw, rfl⟩))
          all_goals (go_ret; refine ⟨rfl, ?_⟩; (repeat (first | exact New.refl _ | apply New.alloc | apply New.aft | apply New.drew | refine New.setCell ?_ ?_ _)); all_goals (first | done | (simp [size_aft]; done) | (simp [size_aft]; omega)))
      · have t1 : (a == c) = false := by simpa using e1
        rw [show (!(a == c && b == d)) = true by simp [e1]]
        clear e1
        go_enter Tryz.func90, Tryz.ntmps90
        go_wp2_with (first | (go_at_call 86; (with_reducible refine (HA.out _).mono ?_); rintro e w1 ⟨rfl, pw, rfl⟩) | (go_at_call 86; (with_reducible refine (HB.out _).mono ?_); rintro e w1 ⟨rfl, pw, rfl⟩))
        all_goals (go_ret; refine ⟨rfl, ?_⟩; (repeat (first | exact New.refl _ | apply New.alloc | apply New.aft | apply New.drew | refine New.setCell ?_ ?_ _)); all_goals (first | done | (simp [size_aft]; done) | (simp [size_aft]; omega)))
    · have h2' : okP c d = false := by simpa using h2
      rw [h1] at HA
      rw [h2'] at HB
      rw [show okS a b c d = false by simp [okS, h2']]
      clear h1 h2 h2'
      go_enter Tryz.func90, Tryz.ntmps90
      go_wp2_with (first | (go_at_call 86; (with_reducible refine (HA.out _).mono ?_); rintro e w1 ⟨rfl, pw, rfl⟩) | (go_at_call 86; (with_reducible refine (HB.out _).mono ?_); rintro e w1 ⟨rfl, pw, rfl⟩))
      all_goals (go_ret; refine ⟨rfl, ?_⟩; (repeat (first | exact New.refl _ | apply New.alloc | apply New.aft | apply New.drew | refine New.setCell ?_ ?_ _)); all_goals (first | done | (simp [size_aft]; done) | (simp [size_aft]; omega)))
  · have h1' : okP a b = false := by simpa using h1
    rw [h1'] at HA
    rw [show okS a b c d = false by simp [okS, h1']]
    clear h1 h1'
    generalize okP c d = B at HB
    go_enter Tryz.func90, Tryz.ntmps90
    go_wp2_with (first | (go_at_call 86; (with_reducible refine (HA.out _).mono ?_); rintro e w1 ⟨rfl, pw, rfl⟩) | (go_at_call 86; (with_reducible refine (HB.out _).mono ?_); rintro e w1 ⟨rfl, pw, rfl⟩))
    all_goals (go_ret; refine ⟨rfl, ?_⟩; (repeat (first | exact New.refl _ | apply New.alloc | apply New.aft | apply New.drew | refine New.setCell ?_ ?_ _)); all_goals (first | done | (simp [size_aft]; done) | (simp [size_aft]; omega)))

end Go.Proofs.YtpdfbboagaflhaaGreat

/- What functions of the reference return: Turn, between. -/
namespace Go.Proofs.YtpdfbboagaflhaaGreat
open Go.RowKit

theorem okL3 (ax ay bx by' cx cy : Int) : okL [(ax, ay), (bx, by'), (cx, cy)] = (okP ax ay && okP bx by' && okP cx cy) := by simp [okL, Bool.and_assoc]
set_option maxRecDepth 20000 in
set_option maxHeartbeats 2000000 in
theorem ref_Turn (ax ay bx by' cx cy : Int) (w : World) : Calls Tryz.prog 28 #[pv ax ay, pv bx by', pv cx cy] w fun e w' => e = .returned (.int .i64 (TurnI ax ay bx by' cx cy)) ∧ New w w' := by
  have HA := Lib.hid (ref_valid ax ay)
  have HB := Lib.hid (ref_valid bx by')
  have HC := Lib.hid (ref_valid cx cy)
  by_cases h1 : okP ax ay = true
  · by_cases h2 : okP bx by' = true
    · by_cases h3 : okP cx cy = true
      · rw [h1] at HA
        rw [h2] at HB
        rw [h3] at HC
        have k1 := okP_iff.1 h1
        have k2 := okP_iff.1 h2
        have k3 := okP_iff.1 h3
        have HT := Lib.hid (fun w1 : World => ref_turn ax ay bx by' cx cy w1 (by omega) (by omega) (by omega) (by omega) (by omega) (by omega))
        rw [show TurnI ax ay bx by' cx cy = turnI ax ay bx by' cx cy by rw [TurnI, okL3, h1, h2, h3]; rfl]
        clear h1 h2 h3 k1 k2 k3
        generalize turnI ax ay bx by' cx cy = T at *
        go_enter Tryz.func28, Tryz.ntmps28
        go_wp2_with (first | (go_at_call 86; (with_reducible refine (HA.out _).mono ?_); rintro e w1 ⟨rfl, pw, rfl⟩) | (go_at_call 86; (with_reducible refine (HB.out _).mono ?_); rintro e w1 ⟨rfl, pw, rfl⟩) | (go_at_call 86; (with_reducible refine (HC.out _).mono ?_); rintro e w1 ⟨rfl, pw, rfl⟩) | (go_at_call 87; refine (HT.out _).mono ?_; rintro e w1 ⟨rfl, pw, rfl⟩))
        all_goals (go_ret; refine ⟨rfl, ?_⟩; (repeat (first | exact New.refl _ | apply New.alloc | apply New.aft | apply New.drew | refine New.setCell ?_ ?_ _)); all_goals (first | done | (simp [size_aft]; done) | (simp [size_aft]; omega)))
      · have h3' : okP cx cy = false := by simpa using h3
        rw [show TurnI ax ay bx by' cx cy = 0 by rw [TurnI, okL3, h1, h2, h3']; rfl]
        rw [h1] at HA
        rw [h2] at HB
        rw [h3'] at HC
        clear h1 h2 h3 h3'
        go_enter Tryz.func28, Tryz.ntmps28
        go_wp2_with (first | (go_at_call 86; (with_reducible refine (HA.out _).mono ?_); rintro e w1 ⟨rfl, pw, rfl⟩) | (go_at_call 86; (with_reducible refine (HB.out _).mono ?_); rintro e w1 ⟨rfl, pw, rfl⟩) | (go_at_call 86; (with_reducible refine (HC.out _).mono ?_); rintro e w1 ⟨rfl, pw, rfl⟩))
        all_goals (go_ret; refine ⟨rfl, ?_⟩; (repeat (first | exact New.refl _ | apply New.alloc | apply New.aft | apply New.drew | refine New.setCell ?_ ?_ _)); all_goals (first | done | (simp [size_aft]; done) | (simp [size_aft]; omega)))
    · have h2' : okP bx by' = false := by simpa using h2
      rw [show TurnI ax ay bx by' cx cy = 0 by rw [TurnI, okL3, h1, h2']; rfl]
      rw [h1] at HA
      rw [h2'] at HB
      clear h1 h2 h2'
      generalize okP cx cy = B at HC
      go_enter Tryz.func28, Tryz.ntmps28
      go_wp2_with (first | (go_at_call 86; (with_reducible refine (HA.out _).mono ?_); rintro e w1 ⟨rfl, pw, rfl⟩) | (go_at_call 86; (with_reducible refine (HB.out _).mono ?_); rintro e w1 ⟨rfl, pw, rfl⟩) | (go_at_call 86; (with_reducible refine (HC.out _).mono ?_); rintro e w1 ⟨rfl, pw, rfl⟩))
      all_goals (go_ret; refine ⟨rfl, ?_⟩; (repeat (first | exact New.refl _ | apply New.alloc | apply New.aft | apply New.drew | refine New.setCell ?_ ?_ _)); all_goals (first | done | (simp [size_aft]; done) | (simp [size_aft]; omega)))
  · have h1' : okP ax ay = false := by simpa using h1
    rw [show TurnI ax ay bx by' cx cy = 0 by rw [TurnI, okL3, h1']; rfl]
    rw [h1'] at HA
    clear h1 h1'
    generalize okP cx cy = B at HC
    generalize okP bx by' = B' at HB
    go_enter Tryz.func28, Tryz.ntmps28
    go_wp2_with (first | (go_at_call 86; (with_reducible refine (HA.out _).mono ?_); rintro e w1 ⟨rfl, pw, rfl⟩) | (go_at_call 86; (with_reducible refine (HB.out _).mono ?_); rintro e w1 ⟨rfl, pw, rfl⟩) | (go_at_call 86; (with_reducible refine (HC.out _).mono ?_); rintro e w1 ⟨rfl, pw, rfl⟩))
    all_goals (go_ret; refine ⟨rfl, ?_⟩; (repeat (first | exact New.refl _ | apply New.alloc | apply New.aft | apply New.drew | refine New.setCell ?_ ?_ _)); all_goals (first | done | (simp [size_aft]; done) | (simp [size_aft]; omega)))

def btwB (x a b : Int) : Bool := decide (min a b ≤ x) && decide (x ≤ max a b)
set_option maxRecDepth 100000 in
set_option maxHeartbeats 2000000 in
theorem ref_between (x a b : Int) (w : World) : Calls Tryz.prog 165 #[.int .i64 x, .int .i64 a, .int .i64 b] w fun e w' => e = .returned (.bool (btwB x a b)) ∧ New w w' := by
  by_cases h1 : min a b ≤ x
  · by_cases h2 : x ≤ max a b
    · rw [show btwB x a b = true by simp [btwB, h1, h2]]
      go_enter Tryz.func165, Tryz.ntmps165
      go_wp2
      all_goals (try (exfalso; omega))
      all_goals (go_ret; refine ⟨ret_bool ?_, New.refl _⟩; first | rfl | (simp only [decide_eq_true_eq]; omega) | (simp only [decide_eq_false_iff_not]; omega))
    · rw [show btwB x a b = false by simp only [btwB, Bool.and_eq_false_iff, decide_eq_false_iff_not]; exact .inr h2]
      go_enter Tryz.func165, Tryz.ntmps165
      go_wp2
      all_goals (try (exfalso; omega))
      all_goals (go_ret; refine ⟨ret_bool ?_, New.refl _⟩; first | rfl | (simp only [decide_eq_true_eq]; omega) | (simp only [decide_eq_false_iff_not]; omega))
  · rw [show btwB x a b = false by simp only [btwB, Bool.and_eq_false_iff, decide_eq_false_iff_not]; exact .inl h1]
    go_enter Tryz.func165, Tryz.ntmps165
    go_wp2
    all_goals (try (exfalso; omega))
    all_goals (go_ret; refine ⟨ret_bool ?_, New.refl _⟩; first | rfl | (simp only [decide_eq_true_eq]; omega) | (simp only [decide_eq_false_iff_not]; omega))

end Go.Proofs.YtpdfbboagaflhaaGreat
