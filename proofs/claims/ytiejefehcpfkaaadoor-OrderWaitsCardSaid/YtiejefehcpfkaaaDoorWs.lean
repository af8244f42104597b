/- The closed facts of the row of OrderWaits, one by one. No condition. -/
import Derived.Test.YtiejefehcpfkaaaDoorUr
set_option linter.unusedSimpArgs false
set_option linter.unusedVariables false
namespace Go.Proofs.YtiejefehcpfkaaaDoor
open Go.ChangeShapes Go.WideShapes Go.ChangeAt Go.RowKit Go.Deep
set_option maxRecDepth 100000

theorem waitz_wf : Rows.orderWaitsRow.wf (OpenSpec.ofChange Rows.orderWaitsSpec) = true := by kernel_rfl
theorem waitz_tie : namedTie Tryd.prog Rows.orderWaitsRow.named Rows.orderWaitsSpec.vars = true := by kernel_rfl
theorem waitz_inp : (Rows.orderWaitsRow.inPlace == Tryd.prog.inPlace 11) = true := by kernel_rfl
theorem waitz_unf : (Rows.orderWaitsRow.unfollowed == Tryd.prog.unfollowed 11) = true := by kernel_rfl
theorem waitz_rec : (Rows.orderWaitsRow.recurses == Tryd.prog.recurses 11) = true := by kernel_rfl
theorem waitz_nam : (Rows.orderWaitsRow.named == Tryd.prog.varsNamed 11) = true := by kernel_rfl
theorem waitz_lif : (Rows.orderWaitsRow.lifted == Tryd.prog.liftsFinal) = true := by kernel_rfl
theorem waitz_mak : (Tryd.prog.make == some Rows.orderWaitsRow.make) = true := by kernel_rfl
theorem waitz_wbt : Rows.orderWaitsRow.wfByText (OpenSpec.ofChange Rows.orderWaitsSpec) = true := by kernel_rfl
theorem waitz_goes : false = Rows.orderWaitsRow.goesBy Tryd.pinned.checked.prog := by kernel_rfl
theorem waitz_facts : joinedFacts Tryd.prog 11 Tryd.f11 Rows.orderWaitsSpec Rows.orderWaitsRow = true :=
  jf_of waitz_wf laid_out s_rowed (by kernel_rfl) waitz_tie (by kernel_rfl) s_stops (by kernel_rfl) s_knobs waitz_inp waitz_unf waitz_rec waitz_nam (by kernel_rfl) (by kernel_rfl) (by kernel_rfl) (by kernel_rfl) (by kernel_rfl) (by kernel_rfl) (by kernel_rfl) (by kernel_rfl) (by kernel_rfl) (by kernel_rfl) (by kernel_rfl) s_heard s_enter waitz_lif waitz_mak (by kernel_rfl) (by kernel_rfl) (by kernel_rfl) (by kernel_rfl)
theorem waitz_named : Tryd.pinned.checked.prog.funcNamed Rows.orderWaitsRow.func = some 11 := by kernel_rfl
theorem waitz_inst : Tryd.f11.isInstance Tryd.pinned.checked.prog Rows.orderWaitsRow.origin Rows.orderWaitsRow.targs := of_decide_eq_true (by kernel_rfl)
theorem waitz_wrap : Tryd.f11.isWrapper Tryd.pinned.checked.prog Rows.orderWaitsRow.wrapper Rows.orderWaitsRow.mainSum := by
  unfold Func.isWrapper; first | (rw [if_pos (by decide +kernel)]; kernel_rfl) | (rw [if_neg (by decide +kernel)]; exact ⟨rfl, rfl⟩)
end Go.Proofs.YtiejefehcpfkaaaDoor
