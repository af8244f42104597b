/- The triangle at a corner, what its corners are and what is in it, as the functions return it. -/
import Derived.Test.YtpdfbboagaflhaaGreatM20
import Derived.Test.YtpdfbboagaflhaaGreatM15
import Derived.Deep.RegionHeld3
import Derived.BigRegion
import Derived.LoopTactic

namespace Go.Proofs.YtpdfbboagaflhaaGreat
open Go.RowKit

abbrev tv (a b c d e f : Int) : Value := .agg #[.int .i64 a, .int .i64 b, .int .i64 c, .int .i64 d, .int .i64 e, .int .i64 f]
set_option maxHeartbeats 4000000 in
theorem triangleAt_c (b off n c k : Nat) (l : List P2) (w : World) (hk : k < n) (hl : n ≤ 1000000) (hw : Pts w b off n l) :
    Calls Tryz.prog 130 #[.slice (some ⟨b, off, none⟩) n c, .int .i64 (k : Int)] w fun en w' => en = .returned (tv (px l ((k + n - 1) % n)) (py l ((k + n - 1) % n)) (px l k) (py l k) (px l ((k + 1) % n)) (py l ((k + 1) % n))) ∧ New w w' := by
  have HW := Lib.hid hw
  clear hw
  go_enter Tryz.func130, Tryz.ntmps130
  go_wp2_with (go_at_call 111; refine (around_c _ _ _ _ k l _ hk hl (HW.out.new (by (repeat (first | exact New.refl _ | apply New.alloc | apply New.aft | apply New.drew | refine New.setCell ?_ ?_ _)); all_goals (first | done | (simp [size_aft]; done) | (simp [size_aft]; omega))))).mono ?_; rintro e w1 ⟨rfl, pw, rfl⟩)
  refine bodyPost_ret (v := tv (px l ((k + n - 1) % n)) (py l ((k + n - 1) % n)) (px l k) (py l k) (px l ((k + 1) % n)) (py l ((k + 1) % n))) (by simp [results, Tryz.results130, go_sem]) rfl ⟨rfl, ?_⟩
  (repeat (first | exact New.refl _ | apply New.alloc | apply New.aft | apply New.drew | refine New.setCell ?_ ?_ _)); all_goals (first | done | (simp [size_aft]; done) | (simp [size_aft]; omega))

def cornerB (p q a b c d e f : Int) : Bool := (p == a && q == b) || (p == c && q == d) || (p == e && q == f)
set_option maxHeartbeats 4000000 in
theorem isCorner_c (p q a b c d e f : Int) (w : World) : Calls Tryz.prog 174 #[pv p q, tv a b c d e f] w fun en w' => en = .returned (.bool (cornerB p q a b c d e f)) ∧ New w w' := by
  by_cases h1 : p = a ∧ q = b
  · have HV := Lib.hid (show true = cornerB p q a b c d e f by simp [cornerB, h1])
    obtain ⟨rfl, rfl⟩ := h1
    go_enter Tryz.func174, Tryz.ntmps174
    go_wp2_with fail
    all_goals (go_ret; exact ⟨ret_bool HV.out, by (repeat (first | exact New.refl _ | apply New.alloc | apply New.aft | apply New.drew | refine New.setCell ?_ ?_ _)); all_goals (first | done | (simp [size_aft]; done) | (simp [size_aft]; omega))⟩)
  · by_cases h2 : p = c ∧ q = d
    · have HV := Lib.hid (show true = cornerB p q a b c d e f by simp [cornerB, h2])
      have t1 : ¬ (p = a ∧ q = b) := h1
      obtain ⟨rfl, rfl⟩ := h2
      by_cases k1 : p = a
      · have k2 : ¬ q = b := fun h => t1 ⟨k1, h⟩
        subst k1
        clear h1 t1
        go_enter Tryz.func174, Tryz.ntmps174
        go_wp2_with fail
        all_goals (go_ret; exact ⟨ret_bool HV.out, by (repeat (first | exact New.refl _ | apply New.alloc | apply New.aft | apply New.drew | refine New.setCell ?_ ?_ _)); all_goals (first | done | (simp [size_aft]; done) | (simp [size_aft]; omega))⟩)
      · clear h1 t1
        go_enter Tryz.func174, Tryz.ntmps174
        go_wp2_with fail
        all_goals (go_ret; exact ⟨ret_bool HV.out, by (repeat (first | exact New.refl _ | apply New.alloc | apply New.aft | apply New.drew | refine New.setCell ?_ ?_ _)); all_goals (first | done | (simp [size_aft]; done) | (simp [size_aft]; omega))⟩)
    · have e1 : (p == a && q == b) = false := by simpa using h1
      have e2 : (p == c && q == d) = false := by simpa using h2
      have HV : Hid (cornerB p q a b c d e f = (p == e && q == f)) := Lib.hid (by rw [cornerB, e1, e2]; simp)
      by_cases h3 : p = e ∧ q = f
      · have HV2 := Lib.hid (show true = cornerB p q a b c d e f by rw [HV.out]; simp [h3])
        obtain ⟨rfl, rfl⟩ := h3
        clear e1 e2
        go_enter Tryz.func174, Tryz.ntmps174
        go_wp2_with fail
        all_goals (go_ret; refine ⟨ret_bool (by first | exact HV2.out | (exfalso; omega)), by (repeat (first | exact New.refl _ | apply New.alloc | apply New.aft | apply New.drew | refine New.setCell ?_ ?_ _)); all_goals (first | done | (simp [size_aft]; done) | (simp [size_aft]; omega))⟩)
      · have HV2 := Lib.hid (show false = cornerB p q a b c d e f by rw [HV.out]; simp; omega)
        clear e1 e2
        go_enter Tryz.func174, Tryz.ntmps174
        go_wp2_with fail
        all_goals (go_ret; refine ⟨ret_bool (by first | exact HV2.out | (exfalso; omega)), by (repeat (first | exact New.refl _ | apply New.alloc | apply New.aft | apply New.drew | refine New.setCell ?_ ?_ _)); all_goals (first | done | (simp [size_aft]; done) | (simp [size_aft]; omega))⟩)

def inTriB (p q a b c d e f : Int) : Bool := decide (0 ≤ turnI a b c d p q) && decide (0 ≤ turnI c d e f p q) && decide (0 ≤ turnI e f a b p q)
section
variable {p q a b c d e f : Int}
theorem inTri_1 (h1 : 0 ≤ turnI a b c d p q) (h2 : 0 ≤ turnI c d e f p q) : decide (0 ≤ turnI e f a b p q) = inTriB p q a b c d e f := by simp [inTriB, h1, h2]
theorem inTri_2 (h2 : turnI c d e f p q < 0) : false = inTriB p q a b c d e f := by simp [inTriB]; omega
theorem inTri_3 (h1 : turnI a b c d p q < 0) : false = inTriB p q a b c d e f := by simp [inTriB]; omega
end
set_option maxHeartbeats 4000000 in
theorem inTriangle_c (p q a b c d e f : Int) (w : World) (hp : -40000 ≤ p ∧ p ≤ 40000) (hq : -40000 ≤ q ∧ q ≤ 40000) (ha : -40000 ≤ a ∧ a ≤ 40000) (hb : -40000 ≤ b ∧ b ≤ 40000) (hc : -40000 ≤ c ∧ c ≤ 40000) (hd : -40000 ≤ d ∧ d ≤ 40000) (he : -40000 ≤ e ∧ e ≤ 40000) (hf : -40000 ≤ f ∧ f ≤ 40000) :
    Calls Tryz.prog 175 #[pv p q, tv a b c d e f] w fun en w' => en = .returned (.bool (inTriB p q a b c d e f)) ∧ New w w' := by
  by_cases h1 : 0 ≤ turnI a b c d p q
  · by_cases h2 : 0 ≤ turnI c d e f p q
    · rw [← inTri_1 h1 h2]
      go_enter Tryz.func175, Tryz.ntmps175
      go_wp2_with (go_at_call 85; refine (turn_c _ _ _ _ _ _ _ ?_ ?_ ?_ ?_ ?_ ?_).mono ?_; omega; omega; omega; omega; omega; omega; rintro e w1 ⟨rfl, pw, rfl⟩)
      all_goals (go_ret; refine ⟨rfl, ?_⟩; (repeat (first | exact New.refl _ | apply New.alloc | apply New.aft | apply New.drew | refine New.setCell ?_ ?_ _)); all_goals (first | done | (simp [size_aft]; done) | (simp [size_aft]; omega)))
    · rw [← inTri_2 (by omega)]
      go_enter Tryz.func175, Tryz.ntmps175
      go_wp2_with (go_at_call 85; refine (turn_c _ _ _ _ _ _ _ ?_ ?_ ?_ ?_ ?_ ?_).mono ?_; omega; omega; omega; omega; omega; omega; rintro e w1 ⟨rfl, pw, rfl⟩)
      all_goals (go_ret; refine ⟨rfl, ?_⟩; (repeat (first | exact New.refl _ | apply New.alloc | apply New.aft | apply New.drew | refine New.setCell ?_ ?_ _)); all_goals (first | done | (simp [size_aft]; done) | (simp [size_aft]; omega)))
  · rw [← inTri_3 (by omega)]
    go_enter Tryz.func175, Tryz.ntmps175
    go_wp2_with (go_at_call 85; refine (turn_c _ _ _ _ _ _ _ ?_ ?_ ?_ ?_ ?_ ?_).mono ?_; omega; omega; omega; omega; omega; omega; rintro e w1 ⟨rfl, pw, rfl⟩)
    all_goals (go_ret; refine ⟨rfl, ?_⟩; (repeat (first | exact New.refl _ | apply New.alloc | apply New.aft | apply New.drew | refine New.setCell ?_ ?_ _)); all_goals (first | done | (simp [size_aft]; done) | (simp [size_aft]; omega)))

end Go.Proofs.YtpdfbboagaflhaaGreat
