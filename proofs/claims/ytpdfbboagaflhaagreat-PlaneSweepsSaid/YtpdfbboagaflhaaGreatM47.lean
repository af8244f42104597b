/- The one call of Cross that the law makes on its own. -/
import Derived.Test.YtpdfbboagaflhaaGreatM46
import Derived.Test.YtpdfbboagaflhaaGreatM45
import Derived.Deep.RegionHeld3
import Derived.BigRegion
import Derived.LoopTactic

namespace Go.Proofs.YtpdfbboagaflhaaGreat
open Go.RowKit

set_option maxHeartbeats 8000000 in
/-- the one call of Cross that the law makes on its own -/
theorem cross_alive (w : World) : Calls Tryz.prog 35 #[sv 0 0 3 1, sv 0 1 1 0] w fun e w' => e = .returned (.tuple #[pv 3 4, pv 1 4, .bool true]) ∧ New w w' := by
  have HM := Lib.hid (fun w1 : World => Meet_c 0 0 3 1 0 1 1 0 w1)
  rw [show MeetI 0 0 3 1 0 1 1 0 = 3 by decide] at HM
  have HC := Lib.hid (fun w1 : World => crossing_c 0 0 3 1 0 1 1 0 w1 (by omega) (by omega) (by omega) (by omega) (by omega) (by omega) (by omega) (by omega) (by decide))
  rw [show denI 0 0 3 1 0 1 1 0 = -4 by decide, show partI 0 0 0 1 1 0 = -1 by decide] at HC
  rw [show lowN ((0:Int) * (-4) + (-1) * (3 - 0)) (-4) = 3 by decide, show lowD ((0:Int) * (-4) + (-1) * (3 - 0)) (-4) = 4 by decide, show lowN ((0:Int) * (-4) + (-1) * (1 - 0)) (-4) = 1 by decide, show lowD ((0:Int) * (-4) + (-1) * (1 - 0)) (-4) = 4 by decide] at HC
  go_enter Tryz.func35, Tryz.ntmps35
  go_wp2_with (first | (go_at_call 34; refine (HM.out _).mono ?_; rintro e w1 ⟨rfl, pw, rfl⟩) | (go_at_call 94; refine (HC.out _).mono ?_; rintro e w1 ⟨rfl, pw, rfl⟩))
  go_region
  all_goals (go_wp2_with fail)
  all_goals (refine bodyPost_ret (v := .tuple #[pv 3 4, pv 1 4, .bool true]) (by simp [results, Tryz.results35, go_sem]) rfl ⟨rfl, ?_⟩; (repeat (first | exact New.refl _ | apply New.alloc | apply New.aft | apply New.drew | refine New.setCell ?_ ?_ _)); all_goals (first | done | (simp [size_aft]; done) | (simp [size_aft]; omega)))

end Go.Proofs.YtpdfbboagaflhaaGreat
