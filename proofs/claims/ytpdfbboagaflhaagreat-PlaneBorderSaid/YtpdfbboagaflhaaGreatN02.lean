/- PlaneBorder returns true for every input, and its arguments read afterwards as before: the given statement, without a condition. -/
import Derived.Test.YtpdfbboagaflhaaGreatN10
import Derived.Deep.RegionHeld3
import Derived.Deep.RegionWith
import Derived.BigRegion
import Derived.LoopTactic
import Derived.Test.YtpdfbboagaflhaaGreatM51
import Derived.Test.YtpdfbboagaflhaaGreatRows
import Derived.ProofKit
import Derived.OpenShut
import Derived.Lib.SmallJoins
import Derived.Carry

set_option linter.unusedSimpArgs false
set_option linter.unusedVariables false
namespace Go.Proofs.YtpdfbboagaflhaaGreat
open Go.RowKit

set_option maxHeartbeats 2000000 in
theorem border_nil (v : Option Addr) (c : Nat) (p q : Int) (w : World) : Calls Tryz.prog 22 #[.slice v 0 c, pv p q] w fun e w' => e = .returned (.bool true) ∧ New w w' := by
  have HL := Lib.hid alive_c
  have HC := Lib.hid (checkPoly_nil v c)
  go_enter Tryz.func22, Tryz.ntmps22
  go_wp2_with (first | (go_at_call 44; refine (HC.out _).mono ?_; rintro e w1 ⟨rfl, pw, rfl⟩) | (go_at_call 31; refine (HL.out _).mono ?_; rintro e w1 ⟨rfl, pw, rfl⟩))
  all_goals (go_ret; refine ⟨ret_bool (by simp), ?_⟩; (repeat (first | exact New.refl _ | apply New.alloc | apply New.aft | apply New.drew | refine New.setCell ?_ ?_ _)); all_goals (first | done | (simp [size_aft]; done) | (simp [size_aft]; omega)))

set_option maxHeartbeats 2000000 in
theorem border_long (v : Option Addr) (n c : Nat) (p q : Int) (w : World) (hn : 60 < n) : Calls Tryz.prog 22 #[.slice v n c, pv p q] w fun e w' => e = .returned (.bool true) ∧ New w w' := by
  have HL := Lib.hid alive_c
  have hn2 : (60 : Int) < (n : Int) := by omega
  go_enter Tryz.func22, Tryz.ntmps22
  go_wp2_with (go_at_call 31; refine (HL.out _).mono ?_; rintro e w1 ⟨rfl, pw, rfl⟩)
  all_goals (go_ret; refine ⟨ret_bool (by simp), ?_⟩; (repeat (first | exact New.refl _ | apply New.alloc | apply New.aft | apply New.drew | refine New.setCell ?_ ?_ _)); all_goals (first | done | (simp [size_aft]; done) | (simp [size_aft]; omega)))

set_option maxHeartbeats 4000000 in
theorem border_no1 (b off n c : Nat) (l : List P2) (p q : Int) (w : World) (h0 : 0 < n) (hl : n ≤ 60) (hw : Pts w b off n l) (hpoly : polyI l ≠ 0) : Calls Tryz.prog 22 #[.slice (some ⟨b, off, none⟩) n c, pv p q] w fun e w' => e = .returned (.bool true) ∧ New w w' := by
  have HL := Lib.hid alive_c
  have HW := Lib.hid hw
  have HC := Lib.hid (fun (w1 : World) (h1 : New w w1) => checkPoly_c b off n c l w1 h0 (by omega) (HW.out.new h1))
  have hne : (polyI l == 0) = false := by simpa using hpoly
  have hne2 : (polyI l != 0) = true := by simpa using hpoly
  clear hw hpoly
  generalize polyI l = K at *
  go_enter Tryz.func22, Tryz.ntmps22
  go_wp2_with (first | (go_at_call 44; refine (HC.out _ (by (repeat (first | exact New.refl _ | apply New.alloc | apply New.aft | apply New.drew | refine New.setCell ?_ ?_ _)); all_goals (first | done | (simp [size_aft]; done) | (simp [size_aft]; omega)))).mono ?_; rintro e w1 ⟨rfl, pw, rfl⟩) | (go_at_call 31; refine (HL.out _).mono ?_; rintro e w1 ⟨rfl, pw, rfl⟩))
  all_goals (go_ret; refine ⟨ret_bool (by simp), ?_⟩; (repeat (first | exact New.refl _ | apply New.alloc | apply New.aft | apply New.drew | refine New.setCell ?_ ?_ _)); all_goals (first | done | (simp [size_aft]; done) | (simp [size_aft]; omega)))

set_option maxHeartbeats 4000000 in
theorem border_no2 (b off n c : Nat) (l : List P2) (p q : Int) (w : World) (h0 : 0 < n) (hl : n ≤ 60) (hw : Pts w b off n l) (hpoly : polyI l = 0) (hp : okP p q = false) : Calls Tryz.prog 22 #[.slice (some ⟨b, off, none⟩) n c, pv p q] w fun e w' => e = .returned (.bool true) ∧ New w w' := by
  have HL := Lib.hid alive_c
  have HW := Lib.hid hw
  have HC := Lib.hid (fun (w1 : World) (h1 : New w w1) => checkPoly_c b off n c l w1 h0 (by omega) (HW.out.new h1))
  rw [hpoly] at HC
  have HP := Lib.hid (checkPoint_c p q)
  rw [okErr_no hp] at HP
  clear hw hpoly hp
  go_enter Tryz.func22, Tryz.ntmps22
  go_wp2_with (first | (go_at_call 44; refine (HC.out _ (by (repeat (first | exact New.refl _ | apply New.alloc | apply New.aft | apply New.drew | refine New.setCell ?_ ?_ _)); all_goals (first | done | (simp [size_aft]; done) | (simp [size_aft]; omega)))).mono ?_; rintro e w1 ⟨rfl, pw, rfl⟩) | (go_at_call 29; refine (HP.out _).mono ?_; rintro e w1 ⟨rfl, pw, rfl⟩) | (go_at_call 31; refine (HL.out _).mono ?_; rintro e w1 ⟨rfl, pw, rfl⟩))
  all_goals (go_ret; refine ⟨ret_bool (by simp), ?_⟩; (repeat (first | exact New.refl _ | apply New.alloc | apply New.aft | apply New.drew | refine New.setCell ?_ ?_ _)); all_goals (first | done | (simp [size_aft]; done) | (simp [size_aft]; omega)))

set_option maxHeartbeats 8000000 in
theorem border_yes (b off n c : Nat) (l : List P2) (p q : Int) (w : World) (h0 : 0 < n) (hl : n ≤ 60) (hw : Pts w b off n l) (hpoly : polyI l = 0) (hp : okP p q = true) : Calls Tryz.prog 22 #[.slice (some ⟨b, off, none⟩) n c, pv p q] w fun e w' => e = .returned (.bool true) ∧ New w w' := by
  have HL := Lib.hid alive_c
  have HW := Lib.hid hw
  have HN := Lib.hid hw.1
  have HC := Lib.hid (fun (w1 : World) (h1 : New w w1) => checkPoly_c b off n c l w1 h0 (by omega) (HW.out.new h1))
  rw [hpoly] at HC
  have HP := Lib.hid (checkPoint_c p q)
  rw [okErr_yes hp] at HP
  have HWH := Lib.hid (fun (w1 : World) (h1 : New w w1) (x y : Int) => Where_c b off n c l x y w1 h0 (by omega) (HW.out.new h1))
  have HV := Lib.hid (fun (k : Nat) (hk : k < l.length) => where_corner hpoly hk)
  have HE := Lib.hid (fun (k : Nat) (hk : k < l.length) => on_edge hpoly hp hk)
  have HF := Lib.hid (border_last hpoly hp)
  clear hw hpoly hp
  go_enter Tryz.func22, Tryz.ntmps22
  go_wp2_with (first | (go_at_call 44; refine (HC.out _ (by (repeat (first | exact New.refl _ | apply New.alloc | apply New.aft | apply New.drew | refine New.setCell ?_ ?_ _)); all_goals (first | done | (simp [size_aft]; done) | (simp [size_aft]; omega)))).mono ?_; rintro e w1 ⟨rfl, pw, rfl⟩) | (go_at_call 29; refine (HP.out _).mono ?_; rintro e w2 ⟨rfl, hn2⟩; have k1 : w2.cell? ⟨w.heap.size, 0, none⟩ = some (.int .i64 p) := (by rw [hn2.cell (by simp [go_sem])]; simp [go_sem]); have k2 : w2.cell? ⟨w.heap.size, 1, none⟩ = some (.int .i64 q) := (by rw [hn2.cell (by simp [go_sem])]; simp [go_sem]); have kb : w.heap.size < w2.heap.size := (by have := hn2.size; simp [go_sem] at this; omega); have HN2 := Lib.hid (New.trans (by (repeat (first | exact New.refl _ | apply New.alloc | apply New.aft | apply New.drew | refine New.setCell ?_ ?_ _)); all_goals (first | done | (simp [size_aft]; done) | (simp [size_aft]; omega))) hn2 : New w w2); clear hn2))
  obtain ⟨_, hb2, hcell2⟩ := HW.out.new HN2.out
  go_loopw [5, 23] (fun v i wr => ∃ k : Nat, k ≤ n ∧ i = .int .i64 k ∧ v = .bool (anyOn (edgesL l) p q k) ∧ New w2 wr) (fun _ i _ => n - (intOf i).toNat)
  case atStart => exact ⟨0, Nat.zero_le _, rfl, rfl, New.refl _⟩
  case round =>
    obtain ⟨k, hk, rfl, rfl, pr, rfl⟩ := hrel
    have kb1 : w.heap.size < w2.heap.size + pr.os.size := by omega
    have kb2 : w.heap.size < w2.heap.size + pr.os.size + 1 := by omega
    by_cases hlt : k < n
    · obtain ⟨c1, c2⟩ := hcell2 k hlt
      have HWK := Lib.hid (fun (w1 : World) (h1 : New w w1) => HWH.out w1 h1 (px l k) (py l k))
      rw [HV.out k (by rw [HN.out]; exact hlt)] at HWK
      have HX := Lib.hid (On_c p q (px l k) (py l k) (px l ((k + 1) % l.length)) (py l ((k + 1) % l.length)))
      rw [HE.out k (by rw [HN.out]; exact hlt), HN.out] at HX
      have HS := Lib.hid (anyOn_succ (edgesL l) p q k)
      go_wp2_with (go_at_call 53; refine (HWK.out _ (HN2.out.trans (by (repeat (first | exact New.refl _ | apply New.alloc | apply New.aft | apply New.drew | refine New.setCell ?_ ?_ _)); all_goals (first | done | (simp [size_aft]; done) | (simp [size_aft]; omega))))).mono ?_; rintro e w1 ⟨rfl, pw, rfl⟩)
      cases hany : anyOn (edgesL l) p q k
      · rw [hany, Bool.false_or] at HS
        by_cases hlast : k + 1 = n
        · obtain ⟨d1, d2⟩ := hcell2 0 (by omega)
          simp only [Nat.zero_mul, Nat.add_zero] at d1 d2
          rw [hlast, Nat.mod_self] at HX
          have hr : ((k : Int) + 1).tmod (n : Int) = 0 := by rw [show (k : Int) + 1 = (n : Int) by omega]; exact Int.tmod_self
          have hw1 : IntKind.i64.wrap ((k : Int) + 1) = (k : Int) + 1 := IntWalk.i64_in _ (by omega)
          have hnz : (n = 0) = False := eq_false (by omega)
          generalize onAt (edgesL l) p q k = O at *
          first | refine wp_region_at2 (by kernel_rfl) (by kernel_rfl) ?_ | refine wp_region_at (by kernel_rfl) (by kernel_rfl) ?_
          repeat (go_big_quiet_step ((go_at_call 32; exact calls_new (HX.out _))))
          refine wpQuiet_nil ?_
          rintro _ ⟨q0, rfl⟩
          clear hr hw1
          go_wp2_with fail
          go_roundw
          case rel => exact ⟨k + 1, by omega, by go_num, by rw [HS.out], by (repeat (first | exact New.refl _ | apply New.alloc | apply New.aft | apply New.drew | refine New.setCell ?_ ?_ _)); all_goals (first | done | (simp [size_aft]; done) | (simp [size_aft]; omega))⟩
          case measure => simp [intOf]; omega
        · obtain ⟨d1, d2⟩ := hcell2 (k + 1) (by omega)
          rw [Nat.mod_eq_of_lt (by omega)] at HX
          have hr : ((k : Int) + 1).tmod (n : Int) = (k : Int) + 1 := Int.tmod_eq_of_lt (by omega) (by omega)
          have hw1 : IntKind.i64.wrap ((k : Int) + 1) = (k : Int) + 1 := IntWalk.i64_in _ (by omega)
          have hnz : (n = 0) = False := eq_false (by omega)
          have hge : (0 : Int) ≤ (k : Int) + 1 := by omega
          have hlt3 : (k : Int) + 1 < (n : Int) := by omega
          have htn : ((k : Int) + 1).toNat = k + 1 := by omega
          generalize onAt (edgesL l) p q k = O at *
          first | refine wp_region_at2 (by kernel_rfl) (by kernel_rfl) ?_ | refine wp_region_at (by kernel_rfl) (by kernel_rfl) ?_
          repeat (go_big_quiet_step ((go_at_call 32; exact calls_new (HX.out _))))
          refine wpQuiet_nil ?_
          rintro _ ⟨q0, rfl⟩
          clear hr hw1
          go_wp2_with fail
          go_roundw
          case rel => exact ⟨k + 1, by omega, by go_num, by rw [HS.out], by (repeat (first | exact New.refl _ | apply New.alloc | apply New.aft | apply New.drew | refine New.setCell ?_ ?_ _)); all_goals (first | done | (simp [size_aft]; done) | (simp [size_aft]; omega))⟩
          case measure => simp [intOf]; omega
      · rw [hany, Bool.true_or] at HS
        first | refine wp_region_at2 (by kernel_rfl) (by kernel_rfl) ?_ | refine wp_region_at (by kernel_rfl) (by kernel_rfl) ?_
        repeat (go_big_quiet_step (fail))
        refine wpQuiet_nil ?_
        rintro _ ⟨q0, rfl⟩
        go_wp2_with fail
        go_roundw
        case rel => exact ⟨k + 1, by omega, by go_num, by rw [HS.out], by (repeat (first | exact New.refl _ | apply New.alloc | apply New.aft | apply New.drew | refine New.setCell ?_ ?_ _)); all_goals (first | done | (simp [size_aft]; done) | (simp [size_aft]; omega))⟩
        case measure => simp [intOf]; omega
    · obtain rfl : k = n := by omega
      have HF2 := HF.out
      rw [HN.out] at HF2
      have HWP := Lib.hid (fun (w1 : World) (h1 : New w w1) => HWH.out w1 h1 p q)
      go_wp2_with (first | (go_at_call 31; refine (HL.out _).mono ?_; rintro e w1 ⟨rfl, pw, rfl⟩) | (go_at_call 53; refine (HWP.out _ (HN2.out.trans (by (repeat (first | exact New.refl _ | apply New.alloc | apply New.aft | apply New.drew | refine New.setCell ?_ ?_ _)); all_goals (first | done | (simp [size_aft]; done) | (simp [size_aft]; omega))))).mono ?_; rintro e w1 ⟨rfl, pw, rfl⟩))
      all_goals (go_ret; refine ⟨ret_bool (by first | exact HF2 | exact HF2.symm | simp), HN2.out.trans ?_⟩; (repeat (first | exact New.refl _ | apply New.alloc | apply New.aft | apply New.drew | refine New.setCell ?_ ?_ _)); all_goals (first | done | (simp [size_aft]; done) | (simp [size_aft]; omega)))

theorem border_c (b off n c : Nat) (l : List P2) (p q : Int) (w : World) (h0 : 0 < n) (hw : Pts w b off n l) : Calls Tryz.prog 22 #[.slice (some ⟨b, off, none⟩) n c, pv p q] w fun e w' => e = .returned (.bool true) ∧ New w w' := by
  by_cases hl : n ≤ 60
  · by_cases h1 : polyI l = 0
    · cases h2 : okP p q
      · exact border_no2 b off n c l p q w h0 hl hw h1 h2
      · exact border_yes b off n c l p q w h0 hl hw h1 h2
    · exact border_no1 b off n c l p q w h0 hl hw h1
  · exact border_long _ n c p q w (by omega)

theorem planeBorder_all (w : World) (av : Option Addr) (n c : Nat) (l : List P2) (hl : l.length = n) (hp : 0 < n → ∃ b off, av = some ⟨b, off, none⟩ ∧ Pts w b off n l) (p q : Int) : Calls Tryz.prog 22 #[.slice av n c, pv p q] w fun e w' => e = .returned (.bool true) ∧ New w w' := by
  by_cases h0 : 0 < n
  · obtain ⟨b, off, rfl, hw⟩ := hp h0
    exact border_c b off n c l p q w h0 hw
  · obtain rfl : n = 0 := by omega
    exact border_nil av c p q w

end Go.Proofs.YtpdfbboagaflhaaGreat

set_option linter.unusedSimpArgs false
set_option linter.unusedVariables false
set_option linter.constructorNameAsVariable false
namespace Go.Proofs.YtpdfbboagaflhaaGreat
open Go.ChangeShapes Go.WideShapes Go.ChangeAt Go.RowKit Go.Joins
set_option maxRecDepth 100000

theorem jBo_wf : Rows.planeBorderRow.wf (OpenSpec.ofChange Rows.planeBorderSpec) = true := by kernel_rfl
theorem jBo_par : Tryz.f22.params.all (Tryz.prog.readableRec ·) = true := by kernel_rfl
theorem jBo_tie : namedTie Tryz.prog Rows.planeBorderRow.named Rows.planeBorderSpec.vars = true := by kernel_rfl
theorem jBo_st : (Rows.planeBorderRow.stops == []) = true := by kernel_rfl
theorem jBo_kn : (Rows.planeBorderRow.knobs == []) = true := by kernel_rfl
theorem jBo_inp : (Rows.planeBorderRow.inPlace == Tryz.prog.inPlace 22) = true := by kernel_rfl
theorem jBo_unf : (Rows.planeBorderRow.unfollowed == Tryz.prog.unfollowed 22) = true := by kernel_rfl
theorem jBo_rec : (Rows.planeBorderRow.recurses == Tryz.prog.recurses 22) = true := by kernel_rfl
theorem jBo_nam : (Rows.planeBorderRow.named == Tryz.prog.varsNamed 22) = true := by kernel_rfl
theorem jBo_maps : (Rows.planeBorderRow.maps == (Tryz.f22.params.toList ++ Rows.planeBorderSpec.plain.varTypes Tryz.prog).any (Tryz.prog.mapsRec ·)) = true := by kernel_rfl
theorem jBo_ifs : (Rows.planeBorderRow.ifaces == (Tryz.f22.params.toList ++ Rows.planeBorderSpec.plain.varTypes Tryz.prog).any (Tryz.prog.ifacesRec ·)) = true := by kernel_rfl
theorem jBo_mout : (Rows.planeBorderRow.mapsOut == Tryz.prog.mapsAmong Tryz.f22.resultTypes.toList) = true := by kernel_rfl
theorem jBo_loops : (Rows.planeBorderRow.loops == (Tryz.f22.params.toList ++ Rows.planeBorderSpec.plain.varTypes Tryz.prog).any (Tryz.prog.loopsFrom ·)) = true := by kernel_rfl
theorem jBo_wide : (Rows.planeBorderRow.wideKeys == (Tryz.f22.params.toList ++ Rows.planeBorderSpec.plain.varTypes Tryz.prog ++ Tryz.f22.resultTypes.toList).any (Tryz.prog.wideKeysFrom ·)) = true := by kernel_rfl
theorem jBo_vars : Rows.planeBorderSpec.vars.all (Tryz.prog.varReadable ·) = true := by kernel_rfl
theorem jBo_res : Tryz.f22.resultTypes.all (fun t => Tryz.prog.readableRec t && decide (t < Tryz.prog.types.size)) = true := by kernel_rfl
theorem jBo_iout : (Rows.planeBorderRow.ifacesOut == Tryz.f22.resultTypes.toList.any (Tryz.prog.ifacesRec ·)) = true := by kernel_rfl
theorem jBo_lout : (Rows.planeBorderRow.loopsOut == Tryz.f22.resultTypes.toList.any (Tryz.prog.loopsFrom ·)) = true := by kernel_rfl
theorem jBo_plain : (Rows.planeBorderRow.plainKeys == Tryz.prog.plainKeys) = true := by kernel_rfl
theorem jBo_short : Rows.planeBorderRow.shortTexts.isNone = true := by kernel_rfl
theorem jBo_lift0 : (Rows.planeBorderRow.lifted == false) = true := by kernel_rfl
theorem jBo_lift : (Rows.planeBorderRow.lifted == Tryz.prog.liftsFinal) = true := (congrArg (fun b => (Rows.planeBorderRow.lifted == b)) lift_is).trans jBo_lift0
theorem jBo_make0 : (some Make.cut == some Rows.planeBorderRow.make) = true := by kernel_rfl
theorem jBo_make : (Tryz.prog.make == some Rows.planeBorderRow.make) = true := (congrArg (fun b => (b == some Rows.planeBorderRow.make)) make_is).trans jBo_make0
theorem jBo_kinds : (Rows.planeBorderRow.kinds == (if Rows.planeBorderRow.domain.isEmpty then [] else Tryz.f22.params.toList.map fun t => match Tryz.prog.underlying t with | some (.int k) => some k | _ => none)) = true := by kernel_rfl
theorem jBo_pin : (Rows.planeBorderRow.pinned == Rows.planeBorderRow.pinnedBy) = true := by kernel_rfl
theorem jBo_veil : (Rows.planeBorderRow.veiled == (Tryz.f22.params.toList ++ Rows.planeBorderSpec.plain.varTypes Tryz.prog ++ Tryz.f22.resultTypes.toList).any (Tryz.prog.veiledRec ·)) = true := by kernel_rfl
theorem jBo_vfit : Rows.planeBorderRow.veiledFits Tryz.prog Tryz.f22.params.toList (Tryz.f22.params.toList ++ Rows.planeBorderSpec.plain.varTypes Tryz.prog ++ Tryz.f22.resultTypes.toList) = true := by kernel_rfl
theorem jBo_closed : joinedFacts Tryz.prog 22 Tryz.f22 Rows.planeBorderSpec Rows.planeBorderRow = true := (b_and (b_and (b_and (b_and (b_and (b_and (b_and (b_and (b_and (b_and (b_and (b_and (b_and (b_and (b_and (b_and (b_and (b_and (b_and (b_and (b_and (b_and (b_and (b_and (b_and (b_and (b_and (b_and (b_and (b_and (b_and jBo_wf jp_laid) jp_rowed) jBo_par) jBo_tie) jBo_st) jp_stops) jBo_kn) jp_knobs) jBo_inp) jBo_unf) jBo_rec) jBo_nam) jBo_maps) jBo_ifs) jBo_mout) jBo_loops) jBo_wide) jBo_vars) jBo_res) jBo_iout) jBo_lout) jBo_plain) jBo_short) jp_heard) jp_enter) jBo_lift) jBo_make) jBo_kinds) jBo_pin) jBo_veil) jBo_vfit)
theorem jBo_name : Tryz.prog.funcNamed Rows.planeBorderRow.func = some 22 := by kernel_rfl
theorem jBo_inst : Tryz.f22.isInstance Tryz.prog Rows.planeBorderRow.origin Rows.planeBorderRow.targs := of_decide_eq_true (by kernel_rfl)
theorem jBo_wrap : Tryz.f22.isWrapper Tryz.prog Rows.planeBorderRow.wrapper Rows.planeBorderRow.mainSum := by unfold Func.isWrapper; rw [if_neg (by decide +kernel)]; exact ⟨rfl, rfl⟩

set_option maxHeartbeats 2000000 in
theorem jBo_lifted (os : Os) (started : os.Started) (H : Type) (enc : TypeId × Value → H) :
    ReturnsInHanded {} Tryz.checked os 22 .any (Rows.planeBorderSpec.pre6 enc Tryz.prog Tryz.f22 Rows.planeBorderRow.domain false) (Rows.planeBorderSpec.post enc Tryz.prog Tryz.f22 false true false false) := by
  refine returnsInHanded_of_change (C := Tryz.checked) own_knob started (by kernel_rfl) Tryz.func22
    (ChangeSpec.witness6 (enc := enc) (C := Tryz.checked) false ⟨#[], #[.slice none 0 0, .agg #[.int .i64 0, .int .i64 0]], []⟩ 8 (by kernel_rfl) (by kernel_rfl) (by kernel_rfl) (by kernel_rfl)) ?_
  intro W base args ds gs before hval0 hW hcnd _
  have hval : ∀ (j : Nat) t v, Tryz.f22.params[j]? = some t → args[j]? = some v → Value.okWide Tryz.prog W .any base t v := hval0
  have hW' := hW
  obtain ⟨p, q, hA0, hV, rfl, hfz, hnd⟩ := hW
  have hA : DataW.TrodAll enc Tryz.prog W 0 (fun _ => true) true Tryz.f22.params.toList args.toList ds p := hA0
  rw [Tryz.params22] at hA hval
  obtain ⟨v0, vs0, d0, ds0, p0, q0, hargs, rfl, rfl, h0, r0⟩ := trodAll_cons hA
  obtain ⟨v1, vs1, d1, ds1, p1, q1, rfl, rfl, rfl, h1, r1⟩ := trodAll_cons r0
  obtain ⟨rfl, rfl, rfl⟩ := trodAll_nil r1
  obtain rfl : args = #[v0, v1] := by cases args; simp_all
  obtain ⟨rfl, rfl⟩ := trodVars_none hV
  have hlt : ∀ x ∈ p0 ++ p1, x.block < W.heap.size := fun x hx => hW'.lt x (by simpa using hx)
  have g0 := h0
  obtain ⟨av0, n0, cap0, l0, rfl, hl0, hp0⟩ := open_pts (hval 0 40 v0 rfl rfl) h0
  have g1 := h1
  obtain ⟨x1, y1, rfl, _, _⟩ := open_pt (hval 1 23 v1 rfl rfl) h1
  clear hA0 hval0 hval
  refine (planeBorder_all W av0 n0 cap0 l0 hl0 hp0 x1 y1).mono fun e W' ⟨he, hg⟩ => ?_
  subst he
  have t1 := Below.trod laidOut (by kernel_rfl) (of_decide_eq_true (by kernel_rfl)) g1 hg.below (fun x hx => hlt x (by simp [hx]))
  have t0 := Below.trod laidOut (by kernel_rfl) (of_decide_eq_true (by kernel_rfl)) g0 hg.below (fun x hx => hlt x (by simp [hx]))
  exact ⟨_, rfl, _, _, _, _, _, _, hW', trodAll_cons_mk (shut_bool Tryz.underlying4 _) trodAll_mk0, trodAll_cons_mk t0 (trodAll_cons_mk t1 trodAll_mk0), rfl, hg.below.frame _, fun h => by cases h⟩

/-- PlaneBorder, as it is given -/
theorem planeBorder_proved : Rows.PlaneBorderSaid :=
  OpenClaim.holds_of_wide 22 Tryz.f22 rfl rfl rfl rfl rfl rfl rfl ⟨rfl, rfl, rfl, rfl, rfl⟩ rfl rfl rfl rfl rfl jBo_name Tryz.func22 jBo_closed jBo_inst jBo_wrap
    (fun os started H enc _ => jBo_lifted os started H enc)

end Go.Proofs.YtpdfbboagaflhaaGreat
