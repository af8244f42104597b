/- The closed facts of the row of OrderFirsts, one by one. No condition. -/
import Derived.Test.YtiejefehcpfkaaaDoorUr
set_option linter.unusedSimpArgs false
set_option linter.unusedVariables false
namespace Go.Proofs.YtiejefehcpfkaaaDoor
open Go.ChangeShapes Go.WideShapes Go.ChangeAt Go.RowKit Go.Deep
set_option maxRecDepth 100000

theorem ofi_wf : Rows.orderFirstsRow.wf (OpenSpec.ofChange Rows.orderFirstsSpec) = true := by kernel_rfl
theorem ofi_tie : namedTie Tryd.prog Rows.orderFirstsRow.named Rows.orderFirstsSpec.vars = true := by kernel_rfl
theorem ofi_inp : (Rows.orderFirstsRow.inPlace == Tryd.prog.inPlace 5) = true := by kernel_rfl
theorem ofi_unf : (Rows.orderFirstsRow.unfollowed == Tryd.prog.unfollowed 5) = true := by kernel_rfl
theorem ofi_rec : (Rows.orderFirstsRow.recurses == Tryd.prog.recurses 5) = true := by kernel_rfl
theorem ofi_nam : (Rows.orderFirstsRow.named == Tryd.prog.varsNamed 5) = true := by kernel_rfl
theorem ofi_lif : (Rows.orderFirstsRow.lifted == Tryd.prog.liftsFinal) = true := by kernel_rfl
theorem ofi_mak : (Tryd.prog.make == some Rows.orderFirstsRow.make) = true := by kernel_rfl
theorem ofi_wbt : Rows.orderFirstsRow.wfByText (OpenSpec.ofChange Rows.orderFirstsSpec) = true := by kernel_rfl
theorem ofi_goes : false = Rows.orderFirstsRow.goesBy Tryd.pinned.checked.prog := by kernel_rfl
theorem ofi_facts : joinedFacts Tryd.prog 5 Tryd.f5 Rows.orderFirstsSpec Rows.orderFirstsRow = true :=
  jf_of ofi_wf laid_out s_rowed (by kernel_rfl) ofi_tie (by kernel_rfl) s_stops (by kernel_rfl) s_knobs ofi_inp ofi_unf ofi_rec ofi_nam (by kernel_rfl) (by kernel_rfl) (by kernel_rfl) (by kernel_rfl) (by kernel_rfl) (by kernel_rfl) (by kernel_rfl) (by kernel_rfl) (by kernel_rfl) (by kernel_rfl) (by kernel_rfl) s_heard s_enter ofi_lif ofi_mak (by kernel_rfl) (by kernel_rfl) (by kernel_rfl) (by kernel_rfl)
theorem ofi_named : Tryd.pinned.checked.prog.funcNamed Rows.orderFirstsRow.func = some 5 := by kernel_rfl
theorem ofi_inst : Tryd.f5.isInstance Tryd.pinned.checked.prog Rows.orderFirstsRow.origin Rows.orderFirstsRow.targs := of_decide_eq_true (by kernel_rfl)
theorem ofi_wrap : Tryd.f5.isWrapper Tryd.pinned.checked.prog Rows.orderFirstsRow.wrapper Rows.orderFirstsRow.mainSum := by
  unfold Func.isWrapper; first | (rw [if_pos (by decide +kernel)]; kernel_rfl) | (rw [if_neg (by decide +kernel)]; exact ⟨rfl, rfl⟩)
end Go.Proofs.YtiejefehcpfkaaaDoor
