/- Reach and Cheapest where tints or shade are not valid: the error. · The law PigmentPlanes. -/
import Derived.Test.YtpjekinmcdglbaaCv
import Derived.Test.YtpjekinmcdglbaaEb
import Derived.Test.YtpjekinmcdglbaaCt
import Derived.Test.YtpjekinmcdglbaaCz
import Derived.Test.YtpjekinmcdglbaaMa
import Derived.Test.YtpjekinmcdglbaaEc

section
set_option linter.unusedSimpArgs false
set_option linter.unusedVariables false
namespace Go.Proofs.Ytpjekinmcdglbaa
open Go.RowKit Go.Shelf

attribute [local go_sem] Oper.semAt_some

theorem fine_le {T : List T5} {m : Nat} {lim : Int} (h : fineB T m lim = true) : (m : Int) ≤ lim := by
  simp [fineB] at h; exact h.1
theorem tn_sh {T : List T5} (h : tnOk T) : shOk T := fun p => ⟨(h p).1.1, (h p).1.2, (h p).2.1⟩
theorem re_resultsE (tmps : Array Value) (W : World) (a c d : Nat) (sa : Option Addr) (n sc : Nat) (r : Bool) (E : Int) (t1 t2 t3 : TypeId) (h4 : tmps.getD 4 undef = .pointer (some ⟨a, 0, none⟩)) (h5 : tmps.getD 5 undef = .pointer (some ⟨c, 0, none⟩)) (h6 : tmps.getD 6 undef = .pointer (some ⟨d, 0, none⟩))
    (hA : W.heap[a]? = some (.cells #[.slice sa n sc] t1 (0, 0))) (hC : W.heap[c]? = some (.cells #[.bool r] t2 (0, 0))) (hD : W.heap[d]? = some (.cells #[.int .i64 E] t3 (0, 0))) :
    (results Try.f15 tmps).run Try.prog W = .ok (.tuple #[.agg #[.slice sa n sc], .bool r, .int .i64 E]) W := by
  have c1 := (box_cell hA).1
  have c2 := (box_cell hC).1
  have c3 := (box_cell hD).1
  simp only [Array.getD_eq_getD_getElem?] at h4 h5 h6
  simp [results, Try.results15, go_sem, h4, h5, h6, c1, c2, c3]

set_option maxRecDepth 100000 in
set_option maxHeartbeats 8000000 in
theorem reach_err (tv : Option Addr) (n cp : Nat) (a1 a2 a3 E : Int) (w : World) (hE : E ≠ 0)
    (hcw : ∀ w1, New w w1 → Calls Try.prog 36 #[.slice tv n cp, vv a1 a2 a3] w1 fun e w' => e = .returned (.int .i64 E) ∧ New w1 w') :
    Calls Try.prog 15 #[.slice tv n cp, vv a1 a2 a3] w fun en w' => en = .returned (.tuple #[.agg #[.slice none 0 0], .bool false, .int .i64 E]) ∧ New w w' := by
  have HCW := Lib.hid (fun (w1 : World) h1 => (callsIn_wide (n := 4)).2 (hcw w1 h1))
  clear hcw
  refine (callsIn_wide (n := 5)).1 ?_
  refine callsIn_of_wp_marks Try.func15 rfl trivial ?_ rfl
  simp only [Try.ntmps15, List.size_toArray, List.length_cons, List.length_nil, Nat.reduceAdd, Nat.reduceSub, Array.replicate_succ, Array.replicate_zero, List.push_toArray, List.append_toArray, List.nil_append, List.cons_append]
  gi_wp2
  obtain ⟨W1, hW1⟩ : ∃ W1, W1 = (((w.alloc (.cells #[.int .i64 a1, .int .i64 a2, .int .i64 a3] 37)).alloc (.cells #[.slice none 0 0] 25)).alloc (.cells #[.bool false] 4)).alloc (.cells #[.int .i64 0] 31) := ⟨_, rfl⟩
  have HN1 := Lib.hid (show New w W1 by rw [hW1]; exact ((((New.refl _).alloc _).alloc _).alloc _).alloc _)
  have HA := Lib.hid (show W1.heap[w.heap.size]? = some (.cells #[.int .i64 a1, .int .i64 a2, .int .i64 a3] 37 (0, 0)) ∧ W1.heap[w.heap.size + 1]? = some (.cells #[.slice none 0 0] 25 (0, 0)) ∧ W1.heap[w.heap.size + 2]? = some (.cells #[.bool false] 4 (0, 0)) ∧ W1.heap[w.heap.size + 3]? = some (.cells #[.int .i64 0] 31 (0, 0)) by
    rw [hW1]; exact alloc4_heap _ _ _ _ _)
  rw [← hW1]
  clear hW1
  refine ⟨trivial, ?_⟩
  gi_at_call 36
  refine (HCW.out _ HN1.out).mono ?_
  rintro e w2 ⟨rfl, hn2⟩
  have HN2 := Lib.hid (HN1.out.trans hn2)
  have hk2 : ∀ k o, W1.heap[k]? = some o → w2.heap[k]? = some o := fun k o h => (hn2.below.block k (Array.getElem?_eq_some_iff.1 h).1).trans h
  have HB := Lib.hid (show w2.heap[w.heap.size + 1]? = some (.cells #[.slice none 0 0] 25 (0, 0)) ∧ w2.heap[w.heap.size + 1 + 1]? = some (.cells #[.bool false] 4 (0, 0)) ∧ w2.heap[w.heap.size + 1 + 1 + 1]? = some (.cells #[.int .i64 0] 31 (0, 0)) from
    ⟨hk2 _ _ HA.out.2.1, hk2 _ _ HA.out.2.2.1, hk2 _ _ HA.out.2.2.2⟩)
  have c1 := box_cell HB.out.1
  have c2 := box_cell HB.out.2.1
  have c3 := box_cell HB.out.2.2
  have hEn : (E = 0) = False := eq_false hE
  have hEb : (E == 0) = false := by simpa using hE
  clear hn2 hk2
  gi_wp2
  clear c1 c2 c3
  obtain ⟨WF, hWF⟩ : ∃ WF, WF = (((w2.setCell ⟨w.heap.size + 1, 0, none⟩ (.slice none 0 0)).setCell ⟨w.heap.size + 1 + 1, 0, none⟩ (.bool false)).setCell ⟨w.heap.size + 1 + 1 + 1, 0, none⟩ (.int .i64 E)) := ⟨_, rfl⟩
  rw [← hWF]
  obtain ⟨m2, m3, m4⟩ := HB.out
  have z1 : WF.heap[w.heap.size + 1]? = some (.cells #[.slice none 0 0] 25 (0, 0)) := by
    rw [hWF, heap_setCell_other _ _ _ _ _ (by omega), heap_setCell_other _ _ _ _ _ (by omega)]
    exact heap_setCell_same _ _ 0 _ m2
  have z2 : WF.heap[w.heap.size + 1 + 1]? = some (.cells #[.bool false] 4 (0, 0)) := by
    rw [hWF, heap_setCell_other _ _ _ _ _ (by omega)]
    exact heap_setCell_same _ _ 0 _ ((heap_setCell_other _ _ _ _ _ (by omega)).trans m3)
  have z3 : WF.heap[w.heap.size + 1 + 1 + 1]? = some (.cells #[.int .i64 E] 31 (0, 0)) := by
    rw [hWF]
    exact heap_setCell_same _ _ 0 _ ((heap_setCell_other _ _ _ _ _ (by omega)).trans ((heap_setCell_other _ _ _ _ _ (by omega)).trans m4))
  have z4 : New w WF := by
    rw [hWF]
    exact ((HN2.out.setCell (by show w.heap.size ≤ w.heap.size + 1; omega) _).setCell (by show w.heap.size ≤ w.heap.size + 1 + 1; omega) _).setCell (by show w.heap.size ≤ w.heap.size + 1 + 1 + 1; omega) _
  refine leaves_marks [] WF (by simp) (fun D hD => by simp at hD) (fun W9 hm => ?_)
  have hk : ∀ k o, k < w.heap.size + 4 → WF.heap[k]? = some o → W9.heap[k]? = some o := fun k o hk h => (hm.2 k (Array.getElem?_eq_some_iff.1 h).1 (by simp)).trans h
  exact ⟨_, re_resultsE _ _ (w.heap.size + 1) (w.heap.size + 1 + 1) (w.heap.size + 1 + 1 + 1) none 0 0 false E _ _ _ rfl rfl rfl (hk _ _ (by omega) z1) (hk _ _ (by omega) z2) (hk _ _ (by omega) z3), rfl, Mod.new z4 hm (fun k hk => by simp at hk)⟩

set_option maxRecDepth 100000 in
set_option maxHeartbeats 8000000 in
theorem cheap_err (tv : Option Addr) (n cp : Nat) (a1 a2 a3 E : Int) (w : World) (hE : E ≠ 0)
    (hcw : ∀ w1, New w w1 → Calls Try.prog 36 #[.slice tv n cp, vv a1 a2 a3] w1 fun e w' => e = .returned (.int .i64 E) ∧ New w1 w') :
    Calls Try.prog 21 #[.slice tv n cp, vv a1 a2 a3] w fun en w' => en = .returned (.tuple #[.agg #[.slice none 0 0], .agg (arr5 0 0 0 0 0), .int .i64 E]) ∧ New w w' := by
  have HCW := Lib.hid (fun (w1 : World) h1 => (callsIn_wide (n := 4)).2 (hcw w1 h1))
  clear hcw
  refine (callsIn_wide (n := 5)).1 ?_
  refine callsIn_of_wp_marks Try.func21 rfl trivial ?_ rfl
  simp only [Try.ntmps21, List.size_toArray, List.length_cons, List.length_nil, Nat.reduceAdd, Nat.reduceSub, Array.replicate_succ, Array.replicate_zero, List.push_toArray, List.append_toArray, List.nil_append, List.cons_append]
  gi_wp2
  obtain ⟨W1, hW1⟩ : ∃ W1, W1 = (((w.alloc (.cells #[.slice tv n cp] 22)).alloc (.cells #[.int .i64 a1, .int .i64 a2, .int .i64 a3] 37)).alloc (.cells #[.slice none 0 0] 25)).alloc (.cells (arr5 0 0 0 0 0) 49) := ⟨_, rfl⟩
  have HN1 := Lib.hid (show New w W1 by rw [hW1]; exact ((((New.refl _).alloc _).alloc _).alloc _).alloc _)
  have HA := Lib.hid (show ChH w W1 (.slice tv n cp) a1 a2 a3 by
    rw [hW1]; exact alloc4_heap _ _ _ _ _)
  unfold arr5 at hW1
  rw [← hW1]
  clear hW1
  refine ⟨trivial, ?_⟩
  gi_at_call 36
  refine (HCW.out _ HN1.out).mono ?_
  rintro e w2 ⟨rfl, hn2⟩
  have HN2 := Lib.hid (HN1.out.trans hn2)
  have HB := Lib.hid (HA.out.of (fun k o _ h => (hn2.below.block k (Array.getElem?_eq_some_iff.1 h).1).trans h))
  have fr1 := frozen_heap HB.out.2.2.1
  have fr2 := frozen_heap HB.out.2.2.2
  have cr := (box_cell HB.out.2.2.1)
  obtain ⟨⟨d0, d1, d2⟩, d3, d4⟩ := cell5 HB.out.2.2.2
  have hEn : (E = 0) = False := eq_false hE
  have hEb : (E == 0) = false := by simpa using hE
  clear hn2
  gi_wp2
  clear d0 d1 d2 d3 d4 fr1 fr2 cr
  obtain ⟨WF, hWF⟩ : ∃ WF, WF = (((((w2.setCell ⟨w.heap.size + 1 + 1, 0, none⟩ (.slice none 0 0)).setCell ⟨w.heap.size + 1 + 1 + 1, 0, none⟩ (.int .i64 0)).setCell ⟨w.heap.size + 1 + 1 + 1, 1, none⟩ (.int .i64 0)).setCell ⟨w.heap.size + 1 + 1 + 1, 2, none⟩ (.int .i64 0)).setCell ⟨w.heap.size + 1 + 1 + 1, 3, none⟩ (.int .i64 0)).setCell ⟨w.heap.size + 1 + 1 + 1, 4, none⟩ (.int .i64 0) := ⟨_, rfl⟩
  rw [← hWF]
  obtain ⟨⟨z1, z2⟩, z4, z6⟩ := fin_puts hWF HN2.out HB.out.2.2.1 HB.out.2.2.2
  clear hWF z6
  refine leaves_marks [] WF (by simp) (fun D hD => by simp at hD) (fun W9 hm => ?_)
  have hk : ∀ k o, k < w.heap.size + 4 → WF.heap[k]? = some o → W9.heap[k]? = some o := fun k o hk h => (hm.2 k (Array.getElem?_eq_some_iff.1 h).1 (by simp)).trans h
  exact ⟨_, ch_results _ _ (w.heap.size + 1 + 1) (w.heap.size + 1 + 1 + 1) none 0 0 0 0 0 0 0 E _ _ rfl rfl rfl (hk _ _ (by omega) z1) (hk _ _ (by omega) z2), rfl, Mod.new z4 hm (fun k hk => by simp at hk)⟩

end Go.Proofs.Ytpjekinmcdglbaa
end

section
set_option linter.unusedSimpArgs false
set_option linter.unusedVariables false
set_option maxRecDepth 100000
namespace Go.Proofs.Ytpjekinmcdglbaa
open Go.RowKit

/-- what Reach returns where a plane lies between -/
def RnR (w : World) (en : Ending) (w' : World) : Prop := en = .returned (.tuple #[.agg #[.slice none 0 0], .bool false, .int .i64 0]) ∧ New w w'
theorem reach_none (tv : Option Addr) (m tc : Nat) (T : List T5) (a b c N0 N1 N2 C : Int) (w : World) (hm : m ≤ 1000) (hTl : T.length = m) (hT : 0 < m → ∃ b off, tv = some ⟨b, off, none⟩ ∧ Tnts w b off m T) (hz : wntE T a b c m = 0) (hb : btB T m N0 N1 N2 C a b c = true) :
    Calls Try.prog 15 #[.slice tv m tc, vv a b c] w (RnR w) := by
  obtain ⟨htn, ha, hbb, hc⟩ := wntE_zero hTl hz
  obtain ⟨hchk, _⟩ := wntE_zero' hz
  have h1 := (chkE_zero hTl hchk).1
  obtain ⟨tb, off, rfl, hTn⟩ := hT (by omega)
  have hL : rcpL T m a b c = [] := by
    unfold btB at hb
    simp only [Bool.and_eq_true, decide_eq_true_eq] at hb
    refine plane_none (tn_sh htn) ha hbb hc (fun p hp => ?_) hb.2.2
    have := List.all_eq_true.1 hb.2.1 p (by simpa using hp)
    unfold sdB at this
    simpa using this
  refine (reach_ok tb off m tc a b c T w hTn (tn_sh htn) hm (by omega) (by omega) (by omega) (fun w1 hw1 => ?_)).mono ?_
  · have := checkWanted_c (some ⟨tb, off, none⟩) m tc T a b c w1 (by omega) (fun _ => ⟨tb, off, rfl, hTn.new hw1⟩)
    rw [hz] at this
    exact this
  · rintro en w' ⟨hn, h | ⟨x, rest, sv, h, _⟩⟩
    · exact ⟨h.2, hn⟩
    · rw [hL] at h; cases h

set_option maxHeartbeats 16000000 in
theorem planes_c (tv : Option Addr) (m tc : Nat) (T : List T5) (a b c N0 N1 N2 C : Int) (w : World) (hm : m ≤ 9223372036854775807) (hTl : T.length = m) (hT : 0 < m → ∃ b off, tv = some ⟨b, off, none⟩ ∧ Tnts w b off m T) :
    Calls Try.prog 5 #[.slice tv m tc, vv a b c, plV N0 N1 N2 C] w fun en w' => en = .returned (.bool true) ∧ New w w' := by
  have HFI := Lib.hid (fun (w1 : World) (h1 : New w w1) => fine_c tv m tc 14 T w1 hm (fun h => by obtain ⟨b, o, e, h2⟩ := hT h; exact ⟨b, o, e, h2.new h1⟩))
  have HA := Lib.hid (fun (h14 : m ≤ 14) (w1 : World) (h1 : New w w1) => checkPlane_c tv m tc T a b c N0 N1 N2 C w1 (by omega) hTl (fun h => by obtain ⟨b, o, e, h2⟩ := hT h; exact ⟨b, o, e, h2.new h1⟩))
  have HB := Lib.hid (fun (h14 : m ≤ 14) (w1 : World) (h1 : New w w1) => ref_checkPlane tv m tc T a b c N0 N1 N2 C w1 (by omega) hTl (fun h => by obtain ⟨b, o, e, h2⟩ := hT h; exact ⟨b, o, e, h2.new h1⟩))
  have HRN := Lib.hid (fun (h14 : m ≤ 14) (hv : (decide (wntE T a b c m = 0) && btB T m N0 N1 N2 C a b c) = true) (w1 : World) (h1 : New w w1) => reach_none tv m tc T a b c N0 N1 N2 C w1 (by omega) hTl (fun h => by obtain ⟨b, o, e, h2⟩ := hT h; exact ⟨b, o, e, h2.new h1⟩) (by simp at hv; exact hv.1) (by simp at hv; exact hv.2))
  have HMX := Lib.hid (fun (w1 : World) => mixed_c w1)
  clear hT
  generalize (decide (wntE T a b c m = 0) && btB T m N0 N1 N2 C a b c) = V at *
  have HLE := Lib.hid (show fineB T m 14 = true → m ≤ 14 from fun h => by have := fine_le h; omega)
  generalize fineB T m 14 = fb at *
  go_enter Try.func5, Try.ntmps5
  go_wp2_with fail
  go_at_call 9
  refine (HFI.out _ (((New.refl w).alloc _).alloc _)).mono ?_
  rintro e w1 ⟨rfl, hn1⟩
  have hP0 : ((w.alloc (.cells #[.int .i64 a, .int .i64 b, .int .i64 c] 37)).alloc (.cells #[.int .i64 N0, .int .i64 N1, .int .i64 N2, .int .i64 C] 41)).heap[w.heap.size + 1]? = some (.cells #[.int .i64 N0, .int .i64 N1, .int .i64 N2, .int .i64 C] 41 (0, 0)) := alloc2_new rfl
  have HW1 := Lib.hid (show RpW w w1 a b c N0 N1 N2 C from ⟨(((New.refl w).alloc _).alloc _).trans hn1, (hn1.below.block _ (by simp <;> omega)).trans ((Below.heap_alloc _ _ _ (by simp)).trans (heap_alloc_new _ _)), (hn1.below.block _ (Array.getElem?_eq_some_iff.1 hP0).1).trans hP0⟩)
  clear hn1 hP0
  cases fb
  · go_wp2_with fail
    go_at_call 10
    refine (HMX.out _).mono ?_
    rintro e w2 ⟨rfl, hn2⟩
    have HN2 := Lib.hid (HW1.out.1.trans hn2)
    clear hn2
    go_wp2_with fail
    all_goals (go_ret; exact ⟨rfl, HN2.out⟩)
  · obtain ⟨k1, k2, k3, k4⟩ := cell_pl HW1.out.2.2
    obtain ⟨k5, k6, k7⟩ := cell_v3 HW1.out.2.1
    have h14 := HLE.out rfl
    go_wp2_with fail
    go_at_call 19
    refine (HA.out h14 _ HW1.out.1).mono ?_
    rintro e w2 ⟨rfl, hn2⟩
    have HW2 := Lib.hid (HW1.out.keep hn2)
    clear hn2 k1 k2 k3 k4 k5 k6 k7
    obtain ⟨k1, k2, k3, k4⟩ := cell_pl HW2.out.2.2
    obtain ⟨k5, k6, k7⟩ := cell_v3 HW2.out.2.1
    go_wp2_with fail
    go_at_call 20
    refine (HB.out h14 _ HW2.out.1).mono ?_
    rintro e w3 ⟨rfl, hn3⟩
    have HW3 := Lib.hid (HW2.out.keep hn3)
    clear hn3 k1 k2 k3 k4 k5 k6 k7
    obtain ⟨k5, k6, k7⟩ := cell_v3 HW3.out.2.1
    cases V
    · go_wp2_with fail
      go_at_call 10
      refine (HMX.out _).mono ?_
      rintro e w4 ⟨rfl, hn4⟩
      have HN4 := Lib.hid (HW3.out.1.trans hn4)
      clear hn4
      go_wp2_with fail
      all_goals (go_ret; exact ⟨rfl, HN4.out⟩)
    · by_cases h7 : (m : Int) ≤ 7
      · go_wp2_with fail
        go_at_call 15
        refine (HRN.out h14 trivial _ HW3.out.1).mono ?_
        rintro e w4 ⟨rfl, hn4⟩
        have HN4 := Lib.hid (HW3.out.1.trans hn4)
        clear hn4 k5 k6 k7
        go_wp2_with fail
        go_at_call 10
        refine (HMX.out _).mono ?_
        rintro e w5 ⟨rfl, hn5⟩
        have HN5 := Lib.hid (HN4.out.trans (((New.refl _).alloc _).trans hn5))
        clear hn5
        go_wp2_with fail
        all_goals (go_ret; exact ⟨rfl, HN5.out⟩)
      · go_wp2_with fail
        go_at_call 10
        refine (HMX.out _).mono ?_
        rintro e w4 ⟨rfl, hn4⟩
        have HN4 := Lib.hid (HW3.out.1.trans hn4)
        clear hn4
        go_wp2_with fail
        all_goals (go_ret; exact ⟨rfl, HN4.out⟩)

end Go.Proofs.Ytpjekinmcdglbaa
end
