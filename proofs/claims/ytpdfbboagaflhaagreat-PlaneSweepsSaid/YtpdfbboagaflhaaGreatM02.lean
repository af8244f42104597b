/- The closed facts of the rows of PlaneOn and PlaneTurns, each for itself. -/
import Derived.Test.YtpdfbboagaflhaaGreatRows
import Derived.ProofKit
import Derived.Test.YtpdfbboagaflhaaGreatM01

namespace Go.Proofs.YtpdfbboagaflhaaGreat
open Go.ChangeShapes Go.WideShapes Go.ChangeAt Go.RowKit
set_option maxRecDepth 100000

theorem b_and {a b : Bool} (h : a = true) (k : b = true) : (a && b) = true := by rw [h, k]; rfl
theorem jp_laid : laidOutB Tryz.prog = true := by kernel_rfl
theorem jp_rowed : mapsRowed Tryz.prog = true := by kernel_rfl
theorem jp_stops : (Tryz.prog.stops == []) = true := by kernel_rfl
theorem jp_knobs : (Tryz.prog.stopKnobs == []) = true := by kernel_rfl
theorem jp_heard : Tryz.prog.stopsHeard = true := by kernel_rfl
theorem jp_enter : Tryz.prog.mayEnter = true := enter_is
theorem jOn_wf : Rows.planeOnRow.wf (OpenSpec.ofChange Rows.planeOnSpec) = true := by kernel_rfl
theorem jOn_par : Tryz.f4.params.all (Tryz.prog.readableRec ·) = true := by kernel_rfl
theorem jOn_tie : namedTie Tryz.prog Rows.planeOnRow.named Rows.planeOnSpec.vars = true := by kernel_rfl
theorem jOn_st : (Rows.planeOnRow.stops == []) = true := by kernel_rfl
theorem jOn_kn : (Rows.planeOnRow.knobs == []) = true := by kernel_rfl
theorem jOn_inp : (Rows.planeOnRow.inPlace == Tryz.prog.inPlace 4) = true := by kernel_rfl
theorem jOn_unf : (Rows.planeOnRow.unfollowed == Tryz.prog.unfollowed 4) = true := by kernel_rfl
theorem jOn_rec : (Rows.planeOnRow.recurses == Tryz.prog.recurses 4) = true := by kernel_rfl
theorem jOn_nam : (Rows.planeOnRow.named == Tryz.prog.varsNamed 4) = true := by kernel_rfl
theorem jOn_maps : (Rows.planeOnRow.maps == (Tryz.f4.params.toList ++ Rows.planeOnSpec.plain.varTypes Tryz.prog).any (Tryz.prog.mapsRec ·)) = true := by kernel_rfl
theorem jOn_ifs : (Rows.planeOnRow.ifaces == (Tryz.f4.params.toList ++ Rows.planeOnSpec.plain.varTypes Tryz.prog).any (Tryz.prog.ifacesRec ·)) = true := by kernel_rfl
theorem jOn_mout : (Rows.planeOnRow.mapsOut == Tryz.prog.mapsAmong Tryz.f4.resultTypes.toList) = true := by kernel_rfl
theorem jOn_loops : (Rows.planeOnRow.loops == (Tryz.f4.params.toList ++ Rows.planeOnSpec.plain.varTypes Tryz.prog).any (Tryz.prog.loopsFrom ·)) = true := by kernel_rfl
theorem jOn_wide : (Rows.planeOnRow.wideKeys == (Tryz.f4.params.toList ++ Rows.planeOnSpec.plain.varTypes Tryz.prog ++ Tryz.f4.resultTypes.toList).any (Tryz.prog.wideKeysFrom ·)) = true := by kernel_rfl
theorem jOn_vars : Rows.planeOnSpec.vars.all (Tryz.prog.varReadable ·) = true := by kernel_rfl
theorem jOn_res : Tryz.f4.resultTypes.all (fun t => Tryz.prog.readableRec t && decide (t < Tryz.prog.types.size)) = true := by kernel_rfl
theorem jOn_iout : (Rows.planeOnRow.ifacesOut == Tryz.f4.resultTypes.toList.any (Tryz.prog.ifacesRec ·)) = true := by kernel_rfl
theorem jOn_lout : (Rows.planeOnRow.loopsOut == Tryz.f4.resultTypes.toList.any (Tryz.prog.loopsFrom ·)) = true := by kernel_rfl
theorem jOn_plain : (Rows.planeOnRow.plainKeys == Tryz.prog.plainKeys) = true := by kernel_rfl
theorem jOn_short : Rows.planeOnRow.shortTexts.isNone = true := by kernel_rfl
theorem jOn_lift0 : (Rows.planeOnRow.lifted == false) = true := by kernel_rfl
theorem jOn_lift : (Rows.planeOnRow.lifted == Tryz.prog.liftsFinal) = true := (congrArg (fun b => (Rows.planeOnRow.lifted == b)) lift_is).trans jOn_lift0
theorem jOn_make0 : (some Make.cut == some Rows.planeOnRow.make) = true := by kernel_rfl
theorem jOn_make : (Tryz.prog.make == some Rows.planeOnRow.make) = true := (congrArg (fun b => (b == some Rows.planeOnRow.make)) make_is).trans jOn_make0
theorem jOn_kinds : (Rows.planeOnRow.kinds == (if Rows.planeOnRow.domain.isEmpty then [] else Tryz.f4.params.toList.map fun t => match Tryz.prog.underlying t with | some (.int k) => some k | _ => none)) = true := by kernel_rfl
theorem jOn_pin : (Rows.planeOnRow.pinned == Rows.planeOnRow.pinnedBy) = true := by kernel_rfl
theorem jOn_veil : (Rows.planeOnRow.veiled == (Tryz.f4.params.toList ++ Rows.planeOnSpec.plain.varTypes Tryz.prog ++ Tryz.f4.resultTypes.toList).any (Tryz.prog.veiledRec ·)) = true := by kernel_rfl
theorem jOn_vfit : Rows.planeOnRow.veiledFits Tryz.prog Tryz.f4.params.toList (Tryz.f4.params.toList ++ Rows.planeOnSpec.plain.varTypes Tryz.prog ++ Tryz.f4.resultTypes.toList) = true := by kernel_rfl
theorem jOn_closed : joinedFacts Tryz.prog 4 Tryz.f4 Rows.planeOnSpec Rows.planeOnRow = true := (b_and (b_and (b_and (b_and (b_and (b_and (b_and (b_and (b_and (b_and (b_and (b_and (b_and (b_and (b_and (b_and (b_and (b_and (b_and (b_and (b_and (b_and (b_and (b_and (b_and (b_and (b_and (b_and (b_and (b_and (b_and jOn_wf jp_laid) jp_rowed) jOn_par) jOn_tie) jOn_st) jp_stops) jOn_kn) jp_knobs) jOn_inp) jOn_unf) jOn_rec) jOn_nam) jOn_maps) jOn_ifs) jOn_mout) jOn_loops) jOn_wide) jOn_vars) jOn_res) jOn_iout) jOn_lout) jOn_plain) jOn_short) jp_heard) jp_enter) jOn_lift) jOn_make) jOn_kinds) jOn_pin) jOn_veil) jOn_vfit)
theorem jOn_name : Tryz.prog.funcNamed Rows.planeOnRow.func = some 4 := by kernel_rfl
theorem jOn_inst : Tryz.f4.isInstance Tryz.prog Rows.planeOnRow.origin Rows.planeOnRow.targs := of_decide_eq_true (by kernel_rfl)
theorem jOn_wrap : Tryz.f4.isWrapper Tryz.prog Rows.planeOnRow.wrapper Rows.planeOnRow.mainSum := by unfold Func.isWrapper; rw [if_neg (by decide +kernel)]; exact ⟨rfl, rfl⟩
theorem jTu_wf : Rows.planeTurnsRow.wf (OpenSpec.ofChange Rows.planeTurnsSpec) = true := by kernel_rfl
theorem jTu_par : Tryz.f3.params.all (Tryz.prog.readableRec ·) = true := by kernel_rfl
theorem jTu_tie : namedTie Tryz.prog Rows.planeTurnsRow.named Rows.planeTurnsSpec.vars = true := by kernel_rfl
theorem jTu_st : (Rows.planeTurnsRow.stops == []) = true := by kernel_rfl
theorem jTu_kn : (Rows.planeTurnsRow.knobs == []) = true := by kernel_rfl
theorem jTu_inp : (Rows.planeTurnsRow.inPlace == Tryz.prog.inPlace 3) = true := by kernel_rfl
theorem jTu_unf : (Rows.planeTurnsRow.unfollowed == Tryz.prog.unfollowed 3) = true := by kernel_rfl
theorem jTu_rec : (Rows.planeTurnsRow.recurses == Tryz.prog.recurses 3) = true := by kernel_rfl
theorem jTu_nam : (Rows.planeTurnsRow.named == Tryz.prog.varsNamed 3) = true := by kernel_rfl
theorem jTu_maps : (Rows.planeTurnsRow.maps == (Tryz.f3.params.toList ++ Rows.planeTurnsSpec.plain.varTypes Tryz.prog).any (Tryz.prog.mapsRec ·)) = true := by kernel_rfl
theorem jTu_ifs : (Rows.planeTurnsRow.ifaces == (Tryz.f3.params.toList ++ Rows.planeTurnsSpec.plain.varTypes Tryz.prog).any (Tryz.prog.ifacesRec ·)) = true := by kernel_rfl
theorem jTu_mout : (Rows.planeTurnsRow.mapsOut == Tryz.prog.mapsAmong Tryz.f3.resultTypes.toList) = true := by kernel_rfl
theorem jTu_loops : (Rows.planeTurnsRow.loops == (Tryz.f3.params.toList ++ Rows.planeTurnsSpec.plain.varTypes Tryz.prog).any (Tryz.prog.loopsFrom ·)) = true := by kernel_rfl
theorem jTu_wide : (Rows.planeTurnsRow.wideKeys == (Tryz.f3.params.toList ++ Rows.planeTurnsSpec.plain.varTypes Tryz.prog ++ Tryz.f3.resultTypes.toList).any (Tryz.prog.wideKeysFrom ·)) = true := by kernel_rfl
theorem jTu_vars : Rows.planeTurnsSpec.vars.all (Tryz.prog.varReadable ·) = true := by kernel_rfl
theorem jTu_res : Tryz.f3.resultTypes.all (fun t => Tryz.prog.readableRec t && decide (t < Tryz.prog.types.size)) = true := by kernel_rfl
theorem jTu_iout : (Rows.planeTurnsRow.ifacesOut == Tryz.f3.resultTypes.toList.any (Tryz.prog.ifacesRec ·)) = true := by kernel_rfl
theorem jTu_lout : (Rows.planeTurnsRow.loopsOut == Tryz.f3.resultTypes.toList.any (Tryz.prog.loopsFrom ·)) = true := by kernel_rfl
theorem jTu_plain : (Rows.planeTurnsRow.plainKeys == Tryz.prog.plainKeys) = true := by kernel_rfl
theorem jTu_short : Rows.planeTurnsRow.shortTexts.isNone = true := by kernel_rfl
theorem jTu_lift0 : (Rows.planeTurnsRow.lifted == false) = true := by kernel_rfl
theorem jTu_lift : (Rows.planeTurnsRow.lifted == Tryz.prog.liftsFinal) = true := (congrArg (fun b => (Rows.planeTurnsRow.lifted == b)) lift_is).trans jTu_lift0
theorem jTu_make0 : (some Make.cut == some Rows.planeTurnsRow.make) = true := by kernel_rfl
theorem jTu_make : (Tryz.prog.make == some Rows.planeTurnsRow.make) = true := (congrArg (fun b => (b == some Rows.planeTurnsRow.make)) make_is).trans jTu_make0
theorem jTu_kinds : (Rows.planeTurnsRow.kinds == (if Rows.planeTurnsRow.domain.isEmpty then [] else Tryz.f3.params.toList.map fun t => match Tryz.prog.underlying t with | some (.int k) => some k | _ => none)) = true := by kernel_rfl
theorem jTu_pin : (Rows.planeTurnsRow.pinned == Rows.planeTurnsRow.pinnedBy) = true := by kernel_rfl
theorem jTu_veil : (Rows.planeTurnsRow.veiled == (Tryz.f3.params.toList ++ Rows.planeTurnsSpec.plain.varTypes Tryz.prog ++ Tryz.f3.resultTypes.toList).any (Tryz.prog.veiledRec ·)) = true := by kernel_rfl
theorem jTu_vfit : Rows.planeTurnsRow.veiledFits Tryz.prog Tryz.f3.params.toList (Tryz.f3.params.toList ++ Rows.planeTurnsSpec.plain.varTypes Tryz.prog ++ Tryz.f3.resultTypes.toList) = true := by kernel_rfl
theorem jTu_closed : joinedFacts Tryz.prog 3 Tryz.f3 Rows.planeTurnsSpec Rows.planeTurnsRow = true := (b_and (b_and (b_and (b_and (b_and (b_and (b_and (b_and (b_and (b_and (b_and (b_and (b_and (b_and (b_and (b_and (b_and (b_and (b_and (b_and (b_and (b_and (b_and (b_and (b_and (b_and (b_and (b_and (b_and (b_and (b_and jTu_wf jp_laid) jp_rowed) jTu_par) jTu_tie) jTu_st) jp_stops) jTu_kn) jp_knobs) jTu_inp) jTu_unf) jTu_rec) jTu_nam) jTu_maps) jTu_ifs) jTu_mout) jTu_loops) jTu_wide) jTu_vars) jTu_res) jTu_iout) jTu_lout) jTu_plain) jTu_short) jp_heard) jp_enter) jTu_lift) jTu_make) jTu_kinds) jTu_pin) jTu_veil) jTu_vfit)
theorem jTu_name : Tryz.prog.funcNamed Rows.planeTurnsRow.func = some 3 := by kernel_rfl
theorem jTu_inst : Tryz.f3.isInstance Tryz.prog Rows.planeTurnsRow.origin Rows.planeTurnsRow.targs := of_decide_eq_true (by kernel_rfl)
theorem jTu_wrap : Tryz.f3.isWrapper Tryz.prog Rows.planeTurnsRow.wrapper Rows.planeTurnsRow.mainSum := by unfold Func.isWrapper; rw [if_neg (by decide +kernel)]; exact ⟨rfl, rfl⟩

end Go.Proofs.YtpdfbboagaflhaaGreat
