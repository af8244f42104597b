/- The closed facts of the row of OrderChecks, one by one. No condition. -/
import Derived.Test.YtiejefehcpfkaaaDoorUr
set_option linter.unusedSimpArgs false
set_option linter.unusedVariables false
namespace Go.Proofs.YtiejefehcpfkaaaDoor
open Go.ChangeShapes Go.WideShapes Go.ChangeAt Go.RowKit Go.Deep
set_option maxRecDepth 100000

theorem oc_wf : Rows.orderChecksRow.wf (OpenSpec.ofChange Rows.orderChecksSpec) = true := by kernel_rfl
theorem oc_tie : namedTie Tryd.prog Rows.orderChecksRow.named Rows.orderChecksSpec.vars = true := by kernel_rfl
theorem oc_inp : (Rows.orderChecksRow.inPlace == Tryd.prog.inPlace 3) = true := by kernel_rfl
theorem oc_unf : (Rows.orderChecksRow.unfollowed == Tryd.prog.unfollowed 3) = true := by kernel_rfl
theorem oc_rec : (Rows.orderChecksRow.recurses == Tryd.prog.recurses 3) = true := by kernel_rfl
theorem oc_nam : (Rows.orderChecksRow.named == Tryd.prog.varsNamed 3) = true := by kernel_rfl
theorem oc_lif : (Rows.orderChecksRow.lifted == Tryd.prog.liftsFinal) = true := by kernel_rfl
theorem oc_mak : (Tryd.prog.make == some Rows.orderChecksRow.make) = true := by kernel_rfl
theorem oc_wbt : Rows.orderChecksRow.wfByText (OpenSpec.ofChange Rows.orderChecksSpec) = true := by kernel_rfl
theorem oc_goes : false = Rows.orderChecksRow.goesBy Tryd.pinned.checked.prog := by kernel_rfl
theorem oc_facts : joinedFacts Tryd.prog 3 Tryd.f3 Rows.orderChecksSpec Rows.orderChecksRow = true :=
  jf_of oc_wf laid_out s_rowed (by kernel_rfl) oc_tie (by kernel_rfl) s_stops (by kernel_rfl) s_knobs oc_inp oc_unf oc_rec oc_nam (by kernel_rfl) (by kernel_rfl) (by kernel_rfl) (by kernel_rfl) (by kernel_rfl) (by kernel_rfl) (by kernel_rfl) (by kernel_rfl) (by kernel_rfl) (by kernel_rfl) (by kernel_rfl) s_heard s_enter oc_lif oc_mak (by kernel_rfl) (by kernel_rfl) (by kernel_rfl) (by kernel_rfl)
theorem oc_named : Tryd.pinned.checked.prog.funcNamed Rows.orderChecksRow.func = some 3 := by kernel_rfl
theorem oc_inst : Tryd.f3.isInstance Tryd.pinned.checked.prog Rows.orderChecksRow.origin Rows.orderChecksRow.targs := of_decide_eq_true (by kernel_rfl)
theorem oc_wrap : Tryd.f3.isWrapper Tryd.pinned.checked.prog Rows.orderChecksRow.wrapper Rows.orderChecksRow.mainSum := by
  unfold Func.isWrapper; first | (rw [if_pos (by decide +kernel)]; kernel_rfl) | (rw [if_neg (by decide +kernel)]; exact ⟨rfl, rfl⟩)
end Go.Proofs.YtiejefehcpfkaaaDoor
