/- PlaneCrossing returns true for every input, and its arguments read afterwards as before: the given statement, without a condition. -/
import Derived.Test.YtpdfbboagaflhaaGreatN10
import Derived.Deep.Slices
import Derived.Test.YtpdfbboagaflhaaGreatM51
import Derived.Test.YtpdfbboagaflhaaGreatN11
import Derived.Test.YtpdfbboagaflhaaGreatRows
import Derived.ProofKit
import Derived.OpenShut
import Derived.Lib.SmallJoins
import Derived.Carry

set_option linter.unusedSimpArgs false
set_option linter.unusedVariables false
set_option linter.constructorNameAsVariable false
set_option maxRecDepth 100000
namespace Go.Proofs.YtpdfbboagaflhaaGreat
open Go.ChangeShapes Go.WideShapes Go.ChangeAt Go.RowKit Go.Joins Go.Deep

section
variable {H : Type} {enc : TypeId × Value → H} {W : World} {base b0 fuel : Nat} {spare : Nat → Bool} {held : Bool} {v : Value} {d : DataW H} {p : List MemPlace}
theorem sg_trod {cs : List Value} {x : DataW H × List MemPlace} (h : DataW.trod enc Tryz.prog W base spare held fuel 30 cs = some x) :
    ∃ q : S4, cs = [.int .i64 q.1, .int .i64 q.2.1, .int .i64 q.2.2.1, .int .i64 q.2.2.2] := by
  obtain ⟨y0, y1, n, hx, hl, h0, h1⟩ := trod_struct2 Tryz.underlying30 h
  rw [cells_30] at hl
  obtain ⟨c0, c1, c2, c3, rfl⟩ := list_4 hl
  simp only [cells_23, List.drop, List.take] at h0 h1
  obtain ⟨a, b, e0, _, _, _⟩ := pt_trod h0
  obtain ⟨a', b', e1, _, _, _⟩ := pt_trod h1
  simp only [List.cons.injEq, and_true] at e0 e1
  obtain ⟨rfl, rfl⟩ := e0
  obtain ⟨rfl, rfl⟩ := e1
  exact ⟨(a, b, a', b'), rfl⟩
theorem open_segs (hv : Value.okWide Tryz.prog W .any b0 58 v) (h : DataW.Trod enc Tryz.prog W base spare held 58 v d p) :
    ∃ av n cap l, v = .slice av n cap ∧ l.length = n ∧ (0 < n → ∃ b off, av = some ⟨b, off, none⟩ ∧ Segs W b off n l) := by
  obtain ⟨av, n, cap, rfl⟩ := okWide_slice Tryz.underlying58 hv
  obtain ⟨fuel, hf⟩ := h
  rcases open_slice Tryz.underlying58 hf with ⟨hcs, _⟩ | ⟨a, len, cap', m, n', D, Pl, hcs, _, hlc, _, hm, _, hi⟩
  · simp only [Value.cells, List.cons.injEq, Value.slice.injEq, and_true] at hcs
    obtain ⟨rfl, rfl, rfl⟩ := hcs
    exact ⟨none, 0, 0, [], rfl, rfl, fun h => absurd h (by omega)⟩
  · simp only [Value.cells, List.cons.injEq, Value.slice.injEq, and_true] at hcs
    obtain ⟨rfl, rfl, rfl⟩ := hcs
    have hnm : n ≤ m := by rw [hm]; split <;> omega
    have hx : ∀ i, i < n → ∃ q : S4, W.cell? (a.add (i * 4)) = some (.int .i64 q.1) ∧ W.cell? (a.add (i * 4 + 1)) = some (.int .i64 q.2.1) ∧ W.cell? (a.add (i * 4 + 2)) = some (.int .i64 q.2.2.1) ∧ W.cell? (a.add (i * 4 + 3)) = some (.int .i64 q.2.2.2) := fun i hi' => by
      obtain ⟨cs', hc, ht⟩ := hi i (by omega)
      rw [cells_30] at hc
      obtain ⟨q, rfl⟩ := sg_trod ht
      obtain ⟨_, _, hat⟩ := World.cells?_some hc
      have g0 := hat 0 (by omega)
      have g1 := hat 1 (by omega)
      have g2 := hat 2 (by omega)
      have g3 := hat 3 (by omega)
      rw [add_add] at g0 g1 g2 g3
      exact ⟨q, by simpa using g0, by simpa using g1, by simpa using g2, by simpa using g3⟩
    obtain ⟨q, hq⟩ := choose_lt hx
    refine ⟨some a, n, cap, (List.range n).map q, rfl, by simp, fun h0 => ?_⟩
    obtain ⟨b, off, spot⟩ := a
    have hspot : spot = none := by simpa [Addr.add] using World.cell?_spot (hq 0 h0).1
    subst hspot
    have hcell : ∀ i, i < n → W.cell? ⟨b, off + i * 4, none⟩ = some (.int .i64 (q i).1) ∧ W.cell? ⟨b, off + i * 4 + 1, none⟩ = some (.int .i64 (q i).2.1) ∧ W.cell? ⟨b, off + i * 4 + 2, none⟩ = some (.int .i64 (q i).2.2.1) ∧ W.cell? ⟨b, off + i * 4 + 3, none⟩ = some (.int .i64 (q i).2.2.2) := fun i hi' => by
      obtain ⟨k0, k1, k2, k3⟩ := hq i hi'
      rw [add_plain] at k0 k1 k2 k3
      exact ⟨k0, k1, k2, k3⟩
    refine ⟨b, off, rfl, by simp, cell_lt (hcell 0 h0).1, fun i hi' => ?_⟩
    have e1 : q1 ((List.range n).map q) i = (q i).1 := by simp [q1, List.getD_eq_getElem?_getD, hi']
    have e2 : q2 ((List.range n).map q) i = (q i).2.1 := by simp [q2, List.getD_eq_getElem?_getD, hi']
    have e3 : q3 ((List.range n).map q) i = (q i).2.2.1 := by simp [q3, List.getD_eq_getElem?_getD, hi']
    have e4 : q4 ((List.range n).map q) i = (q i).2.2.2 := by simp [q4, List.getD_eq_getElem?_getD, hi']
    rw [e1, e2, e3, e4]
    exact hcell i hi'
end
end Go.Proofs.YtpdfbboagaflhaaGreat

set_option linter.unusedSimpArgs false
set_option linter.unusedVariables false
set_option linter.constructorNameAsVariable false
namespace Go.Proofs.YtpdfbboagaflhaaGreat
open Go.ChangeShapes Go.WideShapes Go.ChangeAt Go.RowKit Go.Joins
set_option maxRecDepth 100000

theorem jCr_wf : Rows.planeCrossingRow.wf (OpenSpec.ofChange Rows.planeCrossingSpec) = true := by kernel_rfl
theorem jCr_par : Tryz.f15.params.all (Tryz.prog.readableRec ·) = true := by kernel_rfl
theorem jCr_tie : namedTie Tryz.prog Rows.planeCrossingRow.named Rows.planeCrossingSpec.vars = true := by kernel_rfl
theorem jCr_st : (Rows.planeCrossingRow.stops == []) = true := by kernel_rfl
theorem jCr_kn : (Rows.planeCrossingRow.knobs == []) = true := by kernel_rfl
theorem jCr_inp : (Rows.planeCrossingRow.inPlace == Tryz.prog.inPlace 15) = true := by kernel_rfl
theorem jCr_unf : (Rows.planeCrossingRow.unfollowed == Tryz.prog.unfollowed 15) = true := by kernel_rfl
theorem jCr_rec : (Rows.planeCrossingRow.recurses == Tryz.prog.recurses 15) = true := by kernel_rfl
theorem jCr_nam : (Rows.planeCrossingRow.named == Tryz.prog.varsNamed 15) = true := by kernel_rfl
theorem jCr_maps : (Rows.planeCrossingRow.maps == (Tryz.f15.params.toList ++ Rows.planeCrossingSpec.plain.varTypes Tryz.prog).any (Tryz.prog.mapsRec ·)) = true := by kernel_rfl
theorem jCr_ifs : (Rows.planeCrossingRow.ifaces == (Tryz.f15.params.toList ++ Rows.planeCrossingSpec.plain.varTypes Tryz.prog).any (Tryz.prog.ifacesRec ·)) = true := by kernel_rfl
theorem jCr_mout : (Rows.planeCrossingRow.mapsOut == Tryz.prog.mapsAmong Tryz.f15.resultTypes.toList) = true := by kernel_rfl
theorem jCr_loops : (Rows.planeCrossingRow.loops == (Tryz.f15.params.toList ++ Rows.planeCrossingSpec.plain.varTypes Tryz.prog).any (Tryz.prog.loopsFrom ·)) = true := by kernel_rfl
theorem jCr_wide : (Rows.planeCrossingRow.wideKeys == (Tryz.f15.params.toList ++ Rows.planeCrossingSpec.plain.varTypes Tryz.prog ++ Tryz.f15.resultTypes.toList).any (Tryz.prog.wideKeysFrom ·)) = true := by kernel_rfl
theorem jCr_vars : Rows.planeCrossingSpec.vars.all (Tryz.prog.varReadable ·) = true := by kernel_rfl
theorem jCr_res : Tryz.f15.resultTypes.all (fun t => Tryz.prog.readableRec t && decide (t < Tryz.prog.types.size)) = true := by kernel_rfl
theorem jCr_iout : (Rows.planeCrossingRow.ifacesOut == Tryz.f15.resultTypes.toList.any (Tryz.prog.ifacesRec ·)) = true := by kernel_rfl
theorem jCr_lout : (Rows.planeCrossingRow.loopsOut == Tryz.f15.resultTypes.toList.any (Tryz.prog.loopsFrom ·)) = true := by kernel_rfl
theorem jCr_plain : (Rows.planeCrossingRow.plainKeys == Tryz.prog.plainKeys) = true := by kernel_rfl
theorem jCr_short : Rows.planeCrossingRow.shortTexts.isNone = true := by kernel_rfl
theorem jCr_lift0 : (Rows.planeCrossingRow.lifted == false) = true := by kernel_rfl
theorem jCr_lift : (Rows.planeCrossingRow.lifted == Tryz.prog.liftsFinal) = true := (congrArg (fun b => (Rows.planeCrossingRow.lifted == b)) lift_is).trans jCr_lift0
theorem jCr_make0 : (some Make.cut == some Rows.planeCrossingRow.make) = true := by kernel_rfl
theorem jCr_make : (Tryz.prog.make == some Rows.planeCrossingRow.make) = true := (congrArg (fun b => (b == some Rows.planeCrossingRow.make)) make_is).trans jCr_make0
theorem jCr_kinds : (Rows.planeCrossingRow.kinds == (if Rows.planeCrossingRow.domain.isEmpty then [] else Tryz.f15.params.toList.map fun t => match Tryz.prog.underlying t with | some (.int k) => some k | _ => none)) = true := by kernel_rfl
theorem jCr_pin : (Rows.planeCrossingRow.pinned == Rows.planeCrossingRow.pinnedBy) = true := by kernel_rfl
theorem jCr_veil : (Rows.planeCrossingRow.veiled == (Tryz.f15.params.toList ++ Rows.planeCrossingSpec.plain.varTypes Tryz.prog ++ Tryz.f15.resultTypes.toList).any (Tryz.prog.veiledRec ·)) = true := by kernel_rfl
theorem jCr_vfit : Rows.planeCrossingRow.veiledFits Tryz.prog Tryz.f15.params.toList (Tryz.f15.params.toList ++ Rows.planeCrossingSpec.plain.varTypes Tryz.prog ++ Tryz.f15.resultTypes.toList) = true := by kernel_rfl
theorem jCr_closed : joinedFacts Tryz.prog 15 Tryz.f15 Rows.planeCrossingSpec Rows.planeCrossingRow = true := (b_and (b_and (b_and (b_and (b_and (b_and (b_and (b_and (b_and (b_and (b_and (b_and (b_and (b_and (b_and (b_and (b_and (b_and (b_and (b_and (b_and (b_and (b_and (b_and (b_and (b_and (b_and (b_and (b_and (b_and (b_and jCr_wf jp_laid) jp_rowed) jCr_par) jCr_tie) jCr_st) jp_stops) jCr_kn) jp_knobs) jCr_inp) jCr_unf) jCr_rec) jCr_nam) jCr_maps) jCr_ifs) jCr_mout) jCr_loops) jCr_wide) jCr_vars) jCr_res) jCr_iout) jCr_lout) jCr_plain) jCr_short) jp_heard) jp_enter) jCr_lift) jCr_make) jCr_kinds) jCr_pin) jCr_veil) jCr_vfit)
theorem jCr_name : Tryz.prog.funcNamed Rows.planeCrossingRow.func = some 15 := by kernel_rfl
theorem jCr_inst : Tryz.f15.isInstance Tryz.prog Rows.planeCrossingRow.origin Rows.planeCrossingRow.targs := of_decide_eq_true (by kernel_rfl)
theorem jCr_wrap : Tryz.f15.isWrapper Tryz.prog Rows.planeCrossingRow.wrapper Rows.planeCrossingRow.mainSum := by unfold Func.isWrapper; rw [if_neg (by decide +kernel)]; exact ⟨rfl, rfl⟩

set_option maxHeartbeats 2000000 in
theorem jCr_lifted (os : Os) (started : os.Started) (H : Type) (enc : TypeId × Value → H) :
    ReturnsInHanded {} Tryz.checked os 15 .any (Rows.planeCrossingSpec.pre6 enc Tryz.prog Tryz.f15 Rows.planeCrossingRow.domain false) (Rows.planeCrossingSpec.post enc Tryz.prog Tryz.f15 false true false false) := by
  refine returnsInHanded_of_change (C := Tryz.checked) own_knob started (by kernel_rfl) Tryz.func15
    (ChangeSpec.witness6 (enc := enc) (C := Tryz.checked) false ⟨#[], #[.slice none 0 0], []⟩ 8 (by kernel_rfl) (by kernel_rfl) (by kernel_rfl) (by kernel_rfl)) ?_
  intro W base args ds gs before hval0 hW hcnd _
  have hval : ∀ (j : Nat) t v, Tryz.f15.params[j]? = some t → args[j]? = some v → Value.okWide Tryz.prog W .any base t v := hval0
  have hW' := hW
  obtain ⟨p, q, hA0, hV, rfl, hfz, hnd⟩ := hW
  have hA : DataW.TrodAll enc Tryz.prog W 0 (fun _ => true) true Tryz.f15.params.toList args.toList ds p := hA0
  rw [Tryz.params15] at hA hval
  obtain ⟨v0, vs0, d0, ds0, p0, q0, hargs, rfl, rfl, h0, r0⟩ := trodAll_cons hA
  obtain ⟨rfl, rfl, rfl⟩ := trodAll_nil r0
  obtain rfl : args = #[v0] := by cases args; simp_all
  obtain ⟨rfl, rfl⟩ := trodVars_none hV
  have hlt : ∀ x ∈ p0, x.block < W.heap.size := fun x hx => hW'.lt x (by simpa using hx)
  have g0 := h0
  obtain ⟨av0, n0, cap0, l0, rfl, hl0, hp0⟩ := open_segs (hval 0 58 v0 rfl rfl) h0
  clear hA0 hval0 hval
  refine (planeCrossing_all W av0 n0 cap0 l0 hl0 hp0).mono fun e W' ⟨he, hg⟩ => ?_
  subst he
  have t0 := Below.trod laidOut (by kernel_rfl) (of_decide_eq_true (by kernel_rfl)) g0 hg.below (fun x hx => hlt x (by simp [hx]))
  exact ⟨_, rfl, _, _, _, _, _, _, hW', trodAll_cons_mk (shut_bool Tryz.underlying4 _) trodAll_mk0, trodAll_cons_mk t0 trodAll_mk0, rfl, hg.below.frame _, fun h => by cases h⟩

/-- PlaneCrossing, as it is given -/
theorem planeCrossing_proved : Rows.PlaneCrossingSaid :=
  OpenClaim.holds_of_wide 15 Tryz.f15 rfl rfl rfl rfl rfl rfl rfl ⟨rfl, rfl, rfl, rfl, rfl⟩ rfl rfl rfl rfl rfl jCr_name Tryz.func15 jCr_closed jCr_inst jCr_wrap
    (fun os started H enc _ => jCr_lifted os started H enc)

end Go.Proofs.YtpdfbboagaflhaaGreat
