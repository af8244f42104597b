/- The closed facts of the row of OrderReasons, one by one. No condition. -/
import Derived.Test.YtiejefehcpfkaaaDoorUr
set_option linter.unusedSimpArgs false
set_option linter.unusedVariables false
namespace Go.Proofs.YtiejefehcpfkaaaDoor
open Go.ChangeShapes Go.WideShapes Go.ChangeAt Go.RowKit Go.Deep
set_option maxRecDepth 100000

theorem orr_wf : Rows.orderReasonsRow.wf (OpenSpec.ofChange Rows.orderReasonsSpec) = true := by kernel_rfl
theorem orr_tie : namedTie Tryd.prog Rows.orderReasonsRow.named Rows.orderReasonsSpec.vars = true := by kernel_rfl
theorem orr_inp : (Rows.orderReasonsRow.inPlace == Tryd.prog.inPlace 17) = true := by kernel_rfl
theorem orr_unf : (Rows.orderReasonsRow.unfollowed == Tryd.prog.unfollowed 17) = true := by kernel_rfl
theorem orr_rec : (Rows.orderReasonsRow.recurses == Tryd.prog.recurses 17) = true := by kernel_rfl
theorem orr_nam : (Rows.orderReasonsRow.named == Tryd.prog.varsNamed 17) = true := by kernel_rfl
theorem orr_lif : (Rows.orderReasonsRow.lifted == Tryd.prog.liftsFinal) = true := by kernel_rfl
theorem orr_mak : (Tryd.prog.make == some Rows.orderReasonsRow.make) = true := by kernel_rfl
theorem orr_wbt : Rows.orderReasonsRow.wfByText (OpenSpec.ofChange Rows.orderReasonsSpec) = true := by kernel_rfl
theorem orr_goes : false = Rows.orderReasonsRow.goesBy Tryd.pinned.checked.prog := by kernel_rfl
theorem orr_facts : joinedFacts Tryd.prog 17 Tryd.f17 Rows.orderReasonsSpec Rows.orderReasonsRow = true :=
  jf_of orr_wf laid_out s_rowed (by kernel_rfl) orr_tie (by kernel_rfl) s_stops (by kernel_rfl) s_knobs orr_inp orr_unf orr_rec orr_nam (by kernel_rfl) (by kernel_rfl) (by kernel_rfl) (by kernel_rfl) (by kernel_rfl) (by kernel_rfl) (by kernel_rfl) (by kernel_rfl) (by kernel_rfl) (by kernel_rfl) (by kernel_rfl) s_heard s_enter orr_lif orr_mak (by kernel_rfl) (by kernel_rfl) (by kernel_rfl) (by kernel_rfl)
theorem orr_named : Tryd.pinned.checked.prog.funcNamed Rows.orderReasonsRow.func = some 17 := by kernel_rfl
theorem orr_inst : Tryd.f17.isInstance Tryd.pinned.checked.prog Rows.orderReasonsRow.origin Rows.orderReasonsRow.targs := of_decide_eq_true (by kernel_rfl)
theorem orr_wrap : Tryd.f17.isWrapper Tryd.pinned.checked.prog Rows.orderReasonsRow.wrapper Rows.orderReasonsRow.mainSum := by
  unfold Func.isWrapper; first | (rw [if_pos (by decide +kernel)]; kernel_rfl) | (rw [if_neg (by decide +kernel)]; exact ⟨rfl, rfl⟩)
end Go.Proofs.YtiejefehcpfkaaaDoor
