/- The closed facts of the row of OrderDays, one by one. No condition. -/
import Derived.Test.YtiejefehcpfkaaaDoorUr
set_option linter.unusedSimpArgs false
set_option linter.unusedVariables false
namespace Go.Proofs.YtiejefehcpfkaaaDoor
open Go.ChangeShapes Go.WideShapes Go.ChangeAt Go.RowKit Go.Deep
set_option maxRecDepth 100000

theorem dayss_wf : Rows.orderDaysRow.wf (OpenSpec.ofChange Rows.orderDaysSpec) = true := by kernel_rfl
theorem dayss_tie : namedTie Tryd.prog Rows.orderDaysRow.named Rows.orderDaysSpec.vars = true := by kernel_rfl
theorem dayss_inp : (Rows.orderDaysRow.inPlace == Tryd.prog.inPlace 10) = true := by kernel_rfl
theorem dayss_unf : (Rows.orderDaysRow.unfollowed == Tryd.prog.unfollowed 10) = true := by kernel_rfl
theorem dayss_rec : (Rows.orderDaysRow.recurses == Tryd.prog.recurses 10) = true := by kernel_rfl
theorem dayss_nam : (Rows.orderDaysRow.named == Tryd.prog.varsNamed 10) = true := by kernel_rfl
theorem dayss_lif : (Rows.orderDaysRow.lifted == Tryd.prog.liftsFinal) = true := by kernel_rfl
theorem dayss_mak : (Tryd.prog.make == some Rows.orderDaysRow.make) = true := by kernel_rfl
theorem dayss_wbt : Rows.orderDaysRow.wfByText (OpenSpec.ofChange Rows.orderDaysSpec) = true := by kernel_rfl
theorem dayss_goes : false = Rows.orderDaysRow.goesBy Tryd.pinned.checked.prog := by kernel_rfl
theorem dayss_facts : joinedFacts Tryd.prog 10 Tryd.f10 Rows.orderDaysSpec Rows.orderDaysRow = true :=
  jf_of dayss_wf laid_out s_rowed (by kernel_rfl) dayss_tie (by kernel_rfl) s_stops (by kernel_rfl) s_knobs dayss_inp dayss_unf dayss_rec dayss_nam (by kernel_rfl) (by kernel_rfl) (by kernel_rfl) (by kernel_rfl) (by kernel_rfl) (by kernel_rfl) (by kernel_rfl) (by kernel_rfl) (by kernel_rfl) (by kernel_rfl) (by kernel_rfl) s_heard s_enter dayss_lif dayss_mak (by kernel_rfl) (by kernel_rfl) (by kernel_rfl) (by kernel_rfl)
theorem dayss_named : Tryd.pinned.checked.prog.funcNamed Rows.orderDaysRow.func = some 10 := by kernel_rfl
theorem dayss_inst : Tryd.f10.isInstance Tryd.pinned.checked.prog Rows.orderDaysRow.origin Rows.orderDaysRow.targs := of_decide_eq_true (by kernel_rfl)
theorem dayss_wrap : Tryd.f10.isWrapper Tryd.pinned.checked.prog Rows.orderDaysRow.wrapper Rows.orderDaysRow.mainSum := by
  unfold Func.isWrapper; first | (rw [if_pos (by decide +kernel)]; kernel_rfl) | (rw [if_neg (by decide +kernel)]; exact ⟨rfl, rfl⟩)
end Go.Proofs.YtiejefehcpfkaaaDoor
