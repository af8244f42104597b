/- Which points are on a segment, as the function returns it. Numbers up to 40000 either way. -/
import Derived.Test.YtpdfbboagaflhaaGreatM05
import Derived.Deep.RegionHeld3
import Derived.BigRegion

namespace Go.Proofs.YtpdfbboagaflhaaGreat
open Go.RowKit

def onB (p q a b c d : Int) : Bool := turnI (f1 a b c d) (f2 a b c d) (f3 a b c d) (f4 a b c d) p q == 0 && decide (orI (cmpI (f1 a b c d) p) (cmpI (f2 a b c d) q) ≤ 0) && decide (orI (cmpI p (f3 a b c d)) (cmpI q (f4 a b c d)) ≤ 0)
section
variable {p q a b c d : Int}
theorem onB_1 (h1 : turnI (f1 a b c d) (f2 a b c d) (f3 a b c d) (f4 a b c d) p q = 0) (h2 : orI (cmpI (f1 a b c d) p) (cmpI (f2 a b c d) q) ≤ 0) : decide (orI (cmpI p (f3 a b c d)) (cmpI q (f4 a b c d)) ≤ 0) = onB p q a b c d := by
  simp [onB, h1, h2]
theorem onB_2 (h2 : 0 < orI (cmpI (f1 a b c d) p) (cmpI (f2 a b c d) q)) : false = onB p q a b c d := by
  simp [onB]; omega
theorem onB_3 (h1 : ¬ turnI (f1 a b c d) (f2 a b c d) (f3 a b c d) (f4 a b c d) p q = 0) : false = onB p q a b c d := by
  simp [onB, h1]
end

set_option maxHeartbeats 2000000 in
theorem on_c (p q a b c d : Int) (w : World) (hp : -40000 ≤ p ∧ p ≤ 40000) (hq : -40000 ≤ q ∧ q ≤ 40000) (ha : -40000 ≤ a ∧ a ≤ 40000) (hb : -40000 ≤ b ∧ b ≤ 40000) (hc : -40000 ≤ c ∧ c ≤ 40000) (hd : -40000 ≤ d ∧ d ≤ 40000) :
    Calls Tryz.prog 89 #[pv p q, sv a b c d] w fun e w' => e = .returned (.bool (onB p q a b c d)) ∧ New w w' := by
  obtain ⟨k1, k2, k3, k4⟩ := f_bd _ _ a b c d ha hb hc hd
  go_enter Tryz.func89, Tryz.ntmps89
  go_wp2_with (first | (go_at_call 98; refine (forward_c _ _ _ _ _).mono ?_; rintro e w1 ⟨rfl, pw, rfl⟩) | (go_at_call 85; refine (turn_c _ _ _ _ _ _ _ ?_ ?_ ?_ ?_ ?_ ?_).mono ?_; omega; omega; omega; omega; omega; omega; rintro e w1 ⟨rfl, pw, rfl⟩) | (go_at_call 125; refine (comparePoints_c _ _ _ _ _).mono ?_; rintro e w1 ⟨rfl, pw, rfl⟩))
  all_goals (go_ret; refine ⟨ret_bool ?_, ?_⟩)
  all_goals (first | exact onB_1 ‹_› ‹_› | exact onB_2 ‹_› | exact onB_3 ‹_› | ((repeat (first | exact New.refl _ | apply New.alloc | apply New.aft | apply New.drew | refine New.setCell ?_ ?_ _)); all_goals (first | done | (simp [size_aft]; done) | (simp [size_aft]; omega))))

end Go.Proofs.YtpdfbboagaflhaaGreat
