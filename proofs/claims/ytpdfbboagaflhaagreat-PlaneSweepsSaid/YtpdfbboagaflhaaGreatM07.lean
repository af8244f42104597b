/- How segments meet, as the function returns it. Numbers up to 40000 either way. -/
import Derived.Test.YtpdfbboagaflhaaGreatM05
import Derived.Deep.RegionHeld3
import Derived.BigRegion

namespace Go.Proofs.YtpdfbboagaflhaaGreat
open Go.RowKit

/-- how two segments meet -/
def meetI (a b c d e f g h : Int) : Int :=
  if turnI a b c d e f = 0 ∧ turnI a b c d g h = 0 then onLineI (f1 a b c d) (f2 a b c d) (f3 a b c d) (f4 a b c d) (f1 e f g h) (f2 e f g h) (f3 e f g h) (f4 e f g h)
  else if 0 < turnI a b c d e f * turnI a b c d g h ∨ 0 < turnI e f g h a b * turnI e f g h c d then 0
  else if turnI a b c d e f * turnI a b c d g h = 0 ∧ turnI e f g h a b * turnI e f g h c d = 0 then 1
  else if turnI a b c d e f * turnI a b c d g h = 0 ∨ turnI e f g h a b * turnI e f g h c d = 0 then 2 else 3

theorem m_bd (u v : Int) (h : -1 ≤ u ∧ u ≤ 1) (k : -1 ≤ v ∧ v ≤ 1) : -1 ≤ u * v ∧ u * v ≤ 1 := by
  have := mul_bd u v 1 1 h.1 h.2 k.1 k.2; omega

section
variable {a b c d e f g h : Int}
theorem meet_e0 (h1 : turnI a b c d e f = 0) (h2 : turnI a b c d g h = 0) : onLineI (f1 a b c d) (f2 a b c d) (f3 a b c d) (f4 a b c d) (f1 e f g h) (f2 e f g h) (f3 e f g h) (f4 e f g h) = meetI a b c d e f g h := by
  rw [meetI, if_pos ⟨h1, h2⟩]
theorem meet_e1 (h1 : ¬ (turnI a b c d e f = 0 ∧ turnI a b c d g h = 0)) (h2 : 0 < turnI a b c d e f * turnI a b c d g h ∨ 0 < turnI e f g h a b * turnI e f g h c d) : 0 = meetI a b c d e f g h := by
  rw [meetI, if_neg h1, if_pos h2]
theorem meet_e2 (h1 : ¬ (turnI a b c d e f = 0 ∧ turnI a b c d g h = 0)) (h2 : turnI a b c d e f * turnI a b c d g h = 0 ∧ turnI e f g h a b * turnI e f g h c d = 0) : 1 = meetI a b c d e f g h := by
  rw [meetI, if_neg h1, if_neg (by omega), if_pos h2]
theorem meet_e3 (h1 : ¬ (turnI a b c d e f = 0 ∧ turnI a b c d g h = 0)) (h0 : ¬ (0 < turnI a b c d e f * turnI a b c d g h ∨ 0 < turnI e f g h a b * turnI e f g h c d)) (h2 : ¬ (turnI a b c d e f * turnI a b c d g h = 0 ∧ turnI e f g h a b * turnI e f g h c d = 0)) (h3 : turnI a b c d e f * turnI a b c d g h = 0 ∨ turnI e f g h a b * turnI e f g h c d = 0) : 2 = meetI a b c d e f g h := by
  rw [meetI, if_neg h1, if_neg h0, if_neg h2, if_pos h3]
theorem meet_e4 (h1 : ¬ (turnI a b c d e f = 0 ∧ turnI a b c d g h = 0)) (h0 : ¬ (0 < turnI a b c d e f * turnI a b c d g h ∨ 0 < turnI e f g h a b * turnI e f g h c d)) (h3 : ¬ (turnI a b c d e f * turnI a b c d g h = 0 ∨ turnI e f g h a b * turnI e f g h c d = 0)) : 3 = meetI a b c d e f g h := by
  rw [meetI, if_neg h1, if_neg h0, if_neg (by omega), if_neg h3]
end

set_option maxHeartbeats 4000000 in
theorem meet_c (a b c d e f g h : Int) (w : World) (ha : -40000 ≤ a ∧ a ≤ 40000) (hb : -40000 ≤ b ∧ b ≤ 40000) (hc : -40000 ≤ c ∧ c ≤ 40000) (hd : -40000 ≤ d ∧ d ≤ 40000) (he : -40000 ≤ e ∧ e ≤ 40000) (hf : -40000 ≤ f ∧ f ≤ 40000) (hg : -40000 ≤ g ∧ g ≤ 40000) (hh : -40000 ≤ h ∧ h ≤ 40000) :
    Calls Tryz.prog 92 #[sv a b c d, sv e f g h] w fun en w' => en = .returned (.int .u8 (meetI a b c d e f g h)) ∧ New w w' := by
  have b1 := turnI_bd a b c d e f
  have b2 := turnI_bd a b c d g h
  have b3 := turnI_bd e f g h a b
  have b4 := turnI_bd e f g h c d
  have b5 := m_bd _ _ b1 b2
  have b6 := m_bd _ _ b3 b4
  have b7 : turnI a b c d e f = 0 → turnI a b c d e f * turnI a b c d g h = 0 := fun h => by rw [h, Int.zero_mul]
  go_enter Tryz.func92, Tryz.ntmps92
  go_wp2_with fail
  first | refine wp_region_at2 (by kernel_rfl) (by kernel_rfl) ?_ | refine wp_region_at (by kernel_rfl) (by kernel_rfl) ?_
  repeat (go_big_quiet_step ((go_at_call 85; exact calls_new (turn_c _ _ _ _ _ _ _ (by omega) (by omega) (by omega) (by omega) (by omega) (by omega)))))
  refine wpQuiet_nil ?_
  rintro _ ⟨q, rfl⟩
  go_wp2_with fail
  first | refine wp_region_at2 (by kernel_rfl) (by kernel_rfl) ?_ | refine wp_region_at (by kernel_rfl) (by kernel_rfl) ?_
  repeat (go_big_quiet_step ((go_at_call 85; exact calls_new (turn_c _ _ _ _ _ _ _ (by omega) (by omega) (by omega) (by omega) (by omega) (by omega)))))
  refine wpQuiet_nil ?_
  rintro _ ⟨q, rfl⟩
  go_wp2_with (go_at_call 85; refine (turn_c _ _ _ _ _ _ _ ?_ ?_ ?_ ?_ ?_ ?_).mono ?_; omega; omega; omega; omega; omega; omega; rintro e w1 ⟨rfl, pw, rfl⟩)
  · refine wp_region_at2 (by kernel_rfl) (by kernel_rfl) ?_
    repeat (go_big_quiet_step (first | (go_at_call 98; exact calls_new (forward_c _ _ _ _ _)) | (go_at_call 166; exact calls_new (meetOnLine_c _ _ _ _ _ _ _ _ _))))
    refine wpQuiet_nil ?_
    rintro _ ⟨q2, rfl⟩
    go_wp2_with fail
    go_ret
    refine ⟨ret_int (meet_e0 ‹_› (by simpa using ‹(turnI a b c d g h == 0) = true›)), ?_⟩
    (repeat (first | exact New.refl _ | apply New.alloc | apply New.aft | apply New.drew | refine New.setCell ?_ ?_ _)); all_goals (first | done | (simp [size_aft]; done) | (simp [size_aft]; omega))
  all_goals go_ret
  all_goals refine ⟨ret_int ?_, ?_⟩
  all_goals (try simp only [beq_iff_eq, beq_eq_false_iff_ne, ne_eq] at *)
  all_goals (first | exact meet_e1 (by omega) (by omega) | exact meet_e2 (by omega) (by omega) | exact meet_e3 (by omega) (by omega) (by omega) (by omega) | exact meet_e4 (by omega) (by omega) (by omega) | ((repeat (first | exact New.refl _ | apply New.alloc | apply New.aft | apply New.drew | refine New.setCell ?_ ?_ _)); all_goals (first | done | (simp [size_aft]; done) | (simp [size_aft]; omega))))

end Go.Proofs.YtpdfbboagaflhaaGreat
