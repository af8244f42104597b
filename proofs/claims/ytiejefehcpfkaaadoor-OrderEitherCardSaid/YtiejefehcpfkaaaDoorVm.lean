/- The closed facts of the row of OrderEither, one by one. No condition. -/
import Derived.Test.YtiejefehcpfkaaaDoorUr
set_option linter.unusedSimpArgs false
set_option linter.unusedVariables false
namespace Go.Proofs.YtiejefehcpfkaaaDoor
open Go.ChangeShapes Go.WideShapes Go.ChangeAt Go.RowKit Go.Deep
set_option maxRecDepth 100000

theorem oe_wf : Rows.orderEitherRow.wf (OpenSpec.ofChange Rows.orderEitherSpec) = true := by kernel_rfl
theorem oe_tie : namedTie Tryd.prog Rows.orderEitherRow.named Rows.orderEitherSpec.vars = true := by kernel_rfl
theorem oe_inp : (Rows.orderEitherRow.inPlace == Tryd.prog.inPlace 12) = true := by kernel_rfl
theorem oe_unf : (Rows.orderEitherRow.unfollowed == Tryd.prog.unfollowed 12) = true := by kernel_rfl
theorem oe_rec : (Rows.orderEitherRow.recurses == Tryd.prog.recurses 12) = true := by kernel_rfl
theorem oe_nam : (Rows.orderEitherRow.named == Tryd.prog.varsNamed 12) = true := by kernel_rfl
theorem oe_lif : (Rows.orderEitherRow.lifted == Tryd.prog.liftsFinal) = true := by kernel_rfl
theorem oe_mak : (Tryd.prog.make == some Rows.orderEitherRow.make) = true := by kernel_rfl
theorem oe_wbt : Rows.orderEitherRow.wfByText (OpenSpec.ofChange Rows.orderEitherSpec) = true := by kernel_rfl
theorem oe_goes : false = Rows.orderEitherRow.goesBy Tryd.pinned.checked.prog := by kernel_rfl
theorem oe_facts : joinedFacts Tryd.prog 12 Tryd.f12 Rows.orderEitherSpec Rows.orderEitherRow = true :=
  jf_of oe_wf laid_out s_rowed (by kernel_rfl) oe_tie (by kernel_rfl) s_stops (by kernel_rfl) s_knobs oe_inp oe_unf oe_rec oe_nam (by kernel_rfl) (by kernel_rfl) (by kernel_rfl) (by kernel_rfl) (by kernel_rfl) (by kernel_rfl) (by kernel_rfl) (by kernel_rfl) (by kernel_rfl) (by kernel_rfl) (by kernel_rfl) s_heard s_enter oe_lif oe_mak (by kernel_rfl) (by kernel_rfl) (by kernel_rfl) (by kernel_rfl)
theorem oe_named : Tryd.pinned.checked.prog.funcNamed Rows.orderEitherRow.func = some 12 := by kernel_rfl
theorem oe_inst : Tryd.f12.isInstance Tryd.pinned.checked.prog Rows.orderEitherRow.origin Rows.orderEitherRow.targs := of_decide_eq_true (by kernel_rfl)
theorem oe_wrap : Tryd.f12.isWrapper Tryd.pinned.checked.prog Rows.orderEitherRow.wrapper Rows.orderEitherRow.mainSum := by
  unfold Func.isWrapper; first | (rw [if_pos (by decide +kernel)]; kernel_rfl) | (rw [if_neg (by decide +kernel)]; exact ⟨rfl, rfl⟩)
end Go.Proofs.YtiejefehcpfkaaaDoor
