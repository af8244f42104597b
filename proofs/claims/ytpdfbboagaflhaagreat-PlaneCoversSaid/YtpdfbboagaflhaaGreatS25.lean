/- PlaneCovers returns true for every input, and its arguments read afterwards as before: the given statement, without a condition. -/
import Derived.Test.YtpdfbboagaflhaaGreatM51
import Derived.Test.YtpdfbboagaflhaaGreatS21
import Derived.Test.YtpdfbboagaflhaaGreatS24
import Derived.Test.YtpdfbboagaflhaaGreatRows
import Derived.ProofKit
import Derived.OpenShut
import Derived.Lib.SmallJoins
import Derived.Carry

set_option linter.unusedSimpArgs false
set_option linter.unusedVariables false
set_option linter.constructorNameAsVariable false
namespace Go.Proofs.YtpdfbboagaflhaaGreat
open Go.ChangeShapes Go.WideShapes Go.ChangeAt Go.RowKit Go.Joins
set_option maxRecDepth 100000

theorem jCv_wf : Rows.planeCoversRow.wf (OpenSpec.ofChange Rows.planeCoversSpec) = true := by kernel_rfl
theorem jCv_par : Tryz.f20.params.all (Tryz.prog.readableRec ·) = true := by kernel_rfl
theorem jCv_tie : namedTie Tryz.prog Rows.planeCoversRow.named Rows.planeCoversSpec.vars = true := by kernel_rfl
theorem jCv_st : (Rows.planeCoversRow.stops == []) = true := by kernel_rfl
theorem jCv_kn : (Rows.planeCoversRow.knobs == []) = true := by kernel_rfl
theorem jCv_inp : (Rows.planeCoversRow.inPlace == Tryz.prog.inPlace 20) = true := by kernel_rfl
theorem jCv_unf : (Rows.planeCoversRow.unfollowed == Tryz.prog.unfollowed 20) = true := by kernel_rfl
theorem jCv_rec : (Rows.planeCoversRow.recurses == Tryz.prog.recurses 20) = true := by kernel_rfl
theorem jCv_nam : (Rows.planeCoversRow.named == Tryz.prog.varsNamed 20) = true := by kernel_rfl
theorem jCv_maps : (Rows.planeCoversRow.maps == (Tryz.f20.params.toList ++ Rows.planeCoversSpec.plain.varTypes Tryz.prog).any (Tryz.prog.mapsRec ·)) = true := by kernel_rfl
theorem jCv_ifs : (Rows.planeCoversRow.ifaces == (Tryz.f20.params.toList ++ Rows.planeCoversSpec.plain.varTypes Tryz.prog).any (Tryz.prog.ifacesRec ·)) = true := by kernel_rfl
theorem jCv_mout : (Rows.planeCoversRow.mapsOut == Tryz.prog.mapsAmong Tryz.f20.resultTypes.toList) = true := by kernel_rfl
theorem jCv_loops : (Rows.planeCoversRow.loops == (Tryz.f20.params.toList ++ Rows.planeCoversSpec.plain.varTypes Tryz.prog).any (Tryz.prog.loopsFrom ·)) = true := by kernel_rfl
theorem jCv_wide : (Rows.planeCoversRow.wideKeys == (Tryz.f20.params.toList ++ Rows.planeCoversSpec.plain.varTypes Tryz.prog ++ Tryz.f20.resultTypes.toList).any (Tryz.prog.wideKeysFrom ·)) = true := by kernel_rfl
theorem jCv_vars : Rows.planeCoversSpec.vars.all (Tryz.prog.varReadable ·) = true := by kernel_rfl
theorem jCv_res : Tryz.f20.resultTypes.all (fun t => Tryz.prog.readableRec t && decide (t < Tryz.prog.types.size)) = true := by kernel_rfl
theorem jCv_iout : (Rows.planeCoversRow.ifacesOut == Tryz.f20.resultTypes.toList.any (Tryz.prog.ifacesRec ·)) = true := by kernel_rfl
theorem jCv_lout : (Rows.planeCoversRow.loopsOut == Tryz.f20.resultTypes.toList.any (Tryz.prog.loopsFrom ·)) = true := by kernel_rfl
theorem jCv_plain : (Rows.planeCoversRow.plainKeys == Tryz.prog.plainKeys) = true := by kernel_rfl
theorem jCv_short : Rows.planeCoversRow.shortTexts.isNone = true := by kernel_rfl
theorem jCv_lift0 : (Rows.planeCoversRow.lifted == false) = true := by kernel_rfl
theorem jCv_lift : (Rows.planeCoversRow.lifted == Tryz.prog.liftsFinal) = true := (congrArg (fun b => (Rows.planeCoversRow.lifted == b)) lift_is).trans jCv_lift0
theorem jCv_make0 : (some Make.cut == some Rows.planeCoversRow.make) = true := by kernel_rfl
theorem jCv_make : (Tryz.prog.make == some Rows.planeCoversRow.make) = true := (congrArg (fun b => (b == some Rows.planeCoversRow.make)) make_is).trans jCv_make0
theorem jCv_kinds : (Rows.planeCoversRow.kinds == (if Rows.planeCoversRow.domain.isEmpty then [] else Tryz.f20.params.toList.map fun t => match Tryz.prog.underlying t with | some (.int k) => some k | _ => none)) = true := by kernel_rfl
theorem jCv_pin : (Rows.planeCoversRow.pinned == Rows.planeCoversRow.pinnedBy) = true := by kernel_rfl
theorem jCv_veil : (Rows.planeCoversRow.veiled == (Tryz.f20.params.toList ++ Rows.planeCoversSpec.plain.varTypes Tryz.prog ++ Tryz.f20.resultTypes.toList).any (Tryz.prog.veiledRec ·)) = true := by kernel_rfl
theorem jCv_vfit : Rows.planeCoversRow.veiledFits Tryz.prog Tryz.f20.params.toList (Tryz.f20.params.toList ++ Rows.planeCoversSpec.plain.varTypes Tryz.prog ++ Tryz.f20.resultTypes.toList) = true := by kernel_rfl
theorem jCv_closed : joinedFacts Tryz.prog 20 Tryz.f20 Rows.planeCoversSpec Rows.planeCoversRow = true := (b_and (b_and (b_and (b_and (b_and (b_and (b_and (b_and (b_and (b_and (b_and (b_and (b_and (b_and (b_and (b_and (b_and (b_and (b_and (b_and (b_and (b_and (b_and (b_and (b_and (b_and (b_and (b_and (b_and (b_and (b_and jCv_wf jp_laid) jp_rowed) jCv_par) jCv_tie) jCv_st) jp_stops) jCv_kn) jp_knobs) jCv_inp) jCv_unf) jCv_rec) jCv_nam) jCv_maps) jCv_ifs) jCv_mout) jCv_loops) jCv_wide) jCv_vars) jCv_res) jCv_iout) jCv_lout) jCv_plain) jCv_short) jp_heard) jp_enter) jCv_lift) jCv_make) jCv_kinds) jCv_pin) jCv_veil) jCv_vfit)
theorem jCv_name : Tryz.prog.funcNamed Rows.planeCoversRow.func = some 20 := by kernel_rfl
theorem jCv_inst : Tryz.f20.isInstance Tryz.prog Rows.planeCoversRow.origin Rows.planeCoversRow.targs := of_decide_eq_true (by kernel_rfl)
theorem jCv_wrap : Tryz.f20.isWrapper Tryz.prog Rows.planeCoversRow.wrapper Rows.planeCoversRow.mainSum := by unfold Func.isWrapper; rw [if_neg (by decide +kernel)]; exact ⟨rfl, rfl⟩

set_option maxHeartbeats 2000000 in
theorem jCv_lifted (os : Os) (started : os.Started) (H : Type) (enc : TypeId × Value → H) :
    ReturnsInHanded {} Tryz.checked os 20 .any (Rows.planeCoversSpec.pre6 enc Tryz.prog Tryz.f20 Rows.planeCoversRow.domain false) (Rows.planeCoversSpec.post enc Tryz.prog Tryz.f20 false true false false) := by
  refine returnsInHanded_of_change (C := Tryz.checked) own_knob started (by kernel_rfl) Tryz.func20
    (ChangeSpec.witness6 (enc := enc) (C := Tryz.checked) false ⟨#[], #[.slice none 0 0, .slice none 0 0, .agg #[.int .i64 0, .int .i64 0]], []⟩ 8 (by kernel_rfl) (by kernel_rfl) (by kernel_rfl) (by kernel_rfl)) ?_
  intro W base args ds gs before hval0 hW hcnd _
  have hval : ∀ (j : Nat) t v, Tryz.f20.params[j]? = some t → args[j]? = some v → Value.okWide Tryz.prog W .any base t v := hval0
  have hW' := hW
  obtain ⟨p, q, hA0, hV, rfl, hfz, hnd⟩ := hW
  have hA : DataW.TrodAll enc Tryz.prog W 0 (fun _ => true) true Tryz.f20.params.toList args.toList ds p := hA0
  rw [Tryz.params20] at hA hval
  obtain ⟨v0, vs0, d0, ds0, p0, q0, hargs, rfl, rfl, h0, r0⟩ := trodAll_cons hA
  obtain ⟨v1, vs1, d1, ds1, p1, q1, rfl, rfl, rfl, h1, r1⟩ := trodAll_cons r0
  obtain ⟨v2, vs2, d2, ds2, p2, q2, rfl, rfl, rfl, h2, r2⟩ := trodAll_cons r1
  obtain ⟨rfl, rfl, rfl⟩ := trodAll_nil r2
  obtain rfl : args = #[v0, v1, v2] := by cases args; simp_all
  obtain ⟨rfl, rfl⟩ := trodVars_none hV
  have hlt : ∀ x ∈ p0 ++ p1 ++ p2, x.block < W.heap.size := fun x hx => hW'.lt x (by simpa using hx)
  have g0 := h0
  obtain ⟨av0, n0, cap0, l0, rfl, hl0, hp0⟩ := open_pts (hval 0 40 v0 rfl rfl) h0
  have g1 := h1
  obtain ⟨av1, n1, cap1, l1, rfl, hl1, hp1⟩ := open_tris (hval 1 53 v1 rfl rfl) h1
  have g2 := h2
  obtain ⟨x2, y2, rfl, _, _⟩ := open_pt (hval 2 23 v2 rfl rfl) h2
  clear hA0 hval0 hval
  refine (planeCovers_all W av0 n0 cap0 l0 hl0 hp0 av1 n1 cap1 l1 hl1 hp1 x2 y2).mono fun e W' ⟨he, hg⟩ => ?_
  subst he
  have t2 := Below.trod laidOut (by kernel_rfl) (of_decide_eq_true (by kernel_rfl)) g2 hg.below (fun x hx => hlt x (by simp [hx]))
  have t1 := Below.trod laidOut (by kernel_rfl) (of_decide_eq_true (by kernel_rfl)) g1 hg.below (fun x hx => hlt x (by simp [hx]))
  have t0 := Below.trod laidOut (by kernel_rfl) (of_decide_eq_true (by kernel_rfl)) g0 hg.below (fun x hx => hlt x (by simp [hx]))
  exact ⟨_, rfl, _, _, _, _, _, _, hW', trodAll_cons_mk (shut_bool Tryz.underlying4 _) trodAll_mk0, trodAll_cons_mk t0 (trodAll_cons_mk t1 (trodAll_cons_mk t2 trodAll_mk0)), rfl, hg.below.frame _, fun h => by cases h⟩

/-- PlaneCovers, as it is given -/
theorem planeCovers_proved : Rows.PlaneCoversSaid :=
  OpenClaim.holds_of_wide 20 Tryz.f20 rfl rfl rfl rfl rfl rfl rfl ⟨rfl, rfl, rfl, rfl, rfl⟩ rfl rfl rfl rfl rfl jCv_name Tryz.func20 jCv_closed jCv_inst jCv_wrap
    (fun os started H enc _ => jCv_lifted os started H enc)

end Go.Proofs.YtpdfbboagaflhaaGreat
