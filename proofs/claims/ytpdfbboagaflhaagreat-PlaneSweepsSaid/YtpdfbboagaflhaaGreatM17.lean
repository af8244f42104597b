/- The one call of Above that the law makes on its own. -/
import Derived.Test.YtpdfbboagaflhaaGreatM16
import Derived.Test.YtpdfbboagaflhaaGreatM15
import Derived.Deep.RegionHeld3
import Derived.Deep.RegionWith
import Derived.BigRegion
import Derived.LoopTactic

namespace Go.Proofs.YtpdfbboagaflhaaGreat
open Go.RowKit

set_option maxHeartbeats 8000000 in
/-- the one call of Above that the law makes on its own -/
theorem above_alive (w : World) : Calls Tryz.prog 38 #[sv 1 2 3 1, sv 0 0 4 0] w fun e w' => e = .returned (.tuple #[.int .i64 1, .bool true]) ∧ New w w' := by
  have e1 : okS 1 2 3 1 = true := by decide
  have e2 : okS 0 0 4 0 = true := by decide
  have HF1 := Lib.hid (forward_c 1 2 3 1)
  have HF2 := Lib.hid (forward_c 0 0 4 0)
  rw [show f1 1 2 3 1 = 1 by decide, show f2 1 2 3 1 = 2 by decide, show f3 1 2 3 1 = 3 by decide, show f4 1 2 3 1 = 1 by decide] at HF1
  rw [show f1 0 0 4 0 = 0 by decide, show f2 0 0 4 0 = 0 by decide, show f3 0 0 4 0 = 4 by decide, show f4 0 0 4 0 = 0 by decide] at HF2
  have HM := Lib.hid (fun w1 : World => meet_c 1 2 3 1 0 0 4 0 w1 (by omega) (by omega) (by omega) (by omega) (by omega) (by omega) (by omega) (by omega))
  rw [show meetI 1 2 3 1 0 0 4 0 = 0 by decide] at HM
  have HH1 := Lib.hid (fun w1 : World => heightAt_c 1 2 3 1 2 w1 (by omega) (by omega) (by omega) (by omega) (by omega))
  have HH2 := Lib.hid (fun w1 : World => heightAt_c 0 0 4 0 2 w1 (by omega) (by omega) (by omega) (by omega) (by omega))
  rw [show hN 1 2 3 1 2 = 8 by decide, show hW 1 2 3 1 = 4 by decide] at HH1
  rw [show hN 0 0 4 0 2 = 0 by decide, show hW 0 0 4 0 = 8 by decide] at HH2
  have HC := Lib.hid (fun w1 : World => rcompare_c 8 4 0 8 w1 (by omega) (by omega) (by omega) (by omega))
  rw [show cmpR 8 4 0 8 = 1 by decide] at HC
  go_enter Tryz.func38, Tryz.ntmps38
  go_wp2_with (go_at_call 88; refine (validSeg_c _ _ _ _ _).mono ?_; rintro e w1 ⟨rfl, pw, rfl⟩)
  go_region_with (first | (go_at_call 98; (with_reducible refine (HF1.out _).mono ?_); rintro e w1 ⟨rfl, pw, rfl⟩) | (go_at_call 98; (with_reducible refine (HF2.out _).mono ?_); rintro e w1 ⟨rfl, pw, rfl⟩))
  all_goals (go_wp2_with fail)
  all_goals go_region
  all_goals (go_wp2_with (go_at_call 92; refine (HM.out _).mono ?_; rintro e w1 ⟨rfl, pm, rfl⟩))
  all_goals (first | refine wp_region_at2 (by kernel_rfl) (by kernel_rfl) ?_ | refine wp_region_at (by kernel_rfl) (by kernel_rfl) ?_)
  all_goals (repeat (go_big_quiet_step (first | (go_at_call 99; first | (with_reducible exact calls_new (HH1.out _)) | (with_reducible exact calls_new (HH2.out _))) | (go_at_call 100; exact calls_new (HC.out _)))))
  all_goals refine wpQuiet_nil ?_
  all_goals rintro _ ⟨q, rfl⟩
  all_goals (go_wp2_with fail)
  all_goals (refine bodyPost_ret (v := .tuple #[.int .i64 1, .bool true]) (by simp [results, Tryz.results38, go_sem]) rfl ⟨rfl, ?_⟩; (repeat (first | exact New.refl _ | apply New.alloc | apply New.aft | apply New.drew | refine New.setCell ?_ ?_ _)); all_goals (first | done | (simp [size_aft]; done) | (simp [size_aft]; omega)))

end Go.Proofs.YtpdfbboagaflhaaGreat
