/- The closed facts of the row of OrderEarliest, one by one. No condition. -/
import Derived.Test.YtiejefehcpfkaaaDoorUr
set_option linter.unusedSimpArgs false
set_option linter.unusedVariables false
namespace Go.Proofs.YtiejefehcpfkaaaDoor
open Go.ChangeShapes Go.WideShapes Go.ChangeAt Go.RowKit Go.Deep
set_option maxRecDepth 100000

theorem earl_wf : Rows.orderEarliestRow.wf (OpenSpec.ofChange Rows.orderEarliestSpec) = true := by kernel_rfl
theorem earl_tie : namedTie Tryd.prog Rows.orderEarliestRow.named Rows.orderEarliestSpec.vars = true := by kernel_rfl
theorem earl_inp : (Rows.orderEarliestRow.inPlace == Tryd.prog.inPlace 16) = true := by kernel_rfl
theorem earl_unf : (Rows.orderEarliestRow.unfollowed == Tryd.prog.unfollowed 16) = true := by kernel_rfl
theorem earl_rec : (Rows.orderEarliestRow.recurses == Tryd.prog.recurses 16) = true := by kernel_rfl
theorem earl_nam : (Rows.orderEarliestRow.named == Tryd.prog.varsNamed 16) = true := by kernel_rfl
theorem earl_lif : (Rows.orderEarliestRow.lifted == Tryd.prog.liftsFinal) = true := by kernel_rfl
theorem earl_mak : (Tryd.prog.make == some Rows.orderEarliestRow.make) = true := by kernel_rfl
theorem earl_wbt : Rows.orderEarliestRow.wfByText (OpenSpec.ofChange Rows.orderEarliestSpec) = true := by kernel_rfl
theorem earl_goes : false = Rows.orderEarliestRow.goesBy Tryd.pinned.checked.prog := by kernel_rfl
theorem earl_facts : joinedFacts Tryd.prog 16 Tryd.f16 Rows.orderEarliestSpec Rows.orderEarliestRow = true :=
  jf_of earl_wf laid_out s_rowed (by kernel_rfl) earl_tie (by kernel_rfl) s_stops (by kernel_rfl) s_knobs earl_inp earl_unf earl_rec earl_nam (by kernel_rfl) (by kernel_rfl) (by kernel_rfl) (by kernel_rfl) (by kernel_rfl) (by kernel_rfl) (by kernel_rfl) (by kernel_rfl) (by kernel_rfl) (by kernel_rfl) (by kernel_rfl) s_heard s_enter earl_lif earl_mak (by kernel_rfl) (by kernel_rfl) (by kernel_rfl) (by kernel_rfl)
theorem earl_named : Tryd.pinned.checked.prog.funcNamed Rows.orderEarliestRow.func = some 16 := by kernel_rfl
theorem earl_inst : Tryd.f16.isInstance Tryd.pinned.checked.prog Rows.orderEarliestRow.origin Rows.orderEarliestRow.targs := of_decide_eq_true (by kernel_rfl)
theorem earl_wrap : Tryd.f16.isWrapper Tryd.pinned.checked.prog Rows.orderEarliestRow.wrapper Rows.orderEarliestRow.mainSum := by
  unfold Func.isWrapper; first | (rw [if_pos (by decide +kernel)]; kernel_rfl) | (rw [if_neg (by decide +kernel)]; exact ⟨rfl, rfl⟩)
end Go.Proofs.YtiejefehcpfkaaaDoor
