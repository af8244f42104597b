/- Reach and Cheapest where tints or shade are not valid: the error. -/
import Derived.Test.YtpjekinmcdglbaaCv
import Derived.Test.YtpjekinmcdglbaaEb
import Derived.Test.YtpjekinmcdglbaaCt
set_option linter.unusedSimpArgs false
set_option linter.unusedVariables false
namespace Go.Proofs.Ytpjekinmcdglbaa
open Go.RowKit Go.Shelf

attribute [local go_sem] Oper.semAt_some

theorem fine_le {T : List T5} {m : Nat} {lim : Int} (h : fineB T m lim = true) : (m : Int) ≤ lim := by
  simp [fineB] at h; exact h.1
theorem tn_sh {T : List T5} (h : tnOk T) : shOk T := fun p => ⟨(h p).1.1, (h p).1.2, (h p).2.1⟩
theorem re_resultsE (tmps : Array Value) (W : World) (a c d : Nat) (sa : Option Addr) (n sc : Nat) (r : Bool) (E : Int) (t1 t2 t3 : TypeId) (h4 : tmps.getD 4 undef = .pointer (some ⟨a, 0, none⟩)) (h5 : tmps.getD 5 undef = .pointer (some ⟨c, 0, none⟩)) (h6 : tmps.getD 6 undef = .pointer (some ⟨d, 0, none⟩))
    (hA : W.heap[a]? = some (.cells #[.slice sa n sc] t1 (0, 0))) (hC : W.heap[c]? = some (.cells #[.bool r] t2 (0, 0))) (hD : W.heap[d]? = some (.cells #[.int .i64 E] t3 (0, 0))) :
    (results Try.f15 tmps).run Try.prog W = .ok (.tuple #[.agg #[.slice sa n sc], .bool r, .int .i64 E]) W := by
  have c1 := (box_cell hA).1
  have c2 := (box_cell hC).1
  have c3 := (box_cell hD).1
  simp only [Array.getD_eq_getD_getElem?] at h4 h5 h6
  simp [results, Try.results15, go_sem, h4, h5, h6, c1, c2, c3]

set_option maxRecDepth 100000 in
set_option maxHeartbeats 8000000 in
theorem reach_err (tv : Option Addr) (n cp : Nat) (a1 a2 a3 E : Int) (w : World) (hE : E ≠ 0)
    (hcw : ∀ w1, New w w1 → Calls Try.prog 36 #[.slice tv n cp, vv a1 a2 a3] w1 fun e w' => e = .returned (.int .i64 E) ∧ New w1 w') :
    Calls Try.prog 15 #[.slice tv n cp, vv a1 a2 a3] w fun en w' => en = .returned (.tuple #[.agg #[.slice none 0 0], .bool false, .int .i64 E]) ∧ New w w' := by
  have HCW := Lib.hid (fun (w1 : World) h1 => (callsIn_wide (n := 4)).2 (hcw w1 h1))
  clear hcw
  refine (callsIn_wide (n := 5)).1 ?_
  refine callsIn_of_wp_marks Try.func15 rfl trivial ?_ rfl
  simp only [Try.ntmps15, List.size_toArray, List.length_cons, List.length_nil, Nat.reduceAdd, Nat.reduceSub, Array.replicate_succ, Array.replicate_zero, List.push_toArray, List.append_toArray, List.nil_append, List.cons_append]
  gi_wp2
  obtain ⟨W1, hW1⟩ : ∃ W1, W1 = (((w.alloc (.cells #[.int .i64 a1, .int .i64 a2, .int .i64 a3] 37)).alloc (.cells #[.slice none 0 0] 25)).alloc (.cells #[.bool false] 4)).alloc (.cells #[.int .i64 0] 31) := ⟨_, rfl⟩
  have HN1 := Lib.hid (show New w W1 by rw [hW1]; exact ((((New.refl _).alloc _).alloc _).alloc _).alloc _)
  have HA := Lib.hid (show W1.heap[w.heap.size]? = some (.cells #[.int .i64 a1, .int .i64 a2, .int .i64 a3] 37 (0, 0)) ∧ W1.heap[w.heap.size + 1]? = some (.cells #[.slice none 0 0] 25 (0, 0)) ∧ W1.heap[w.heap.size + 2]? = some (.cells #[.bool false] 4 (0, 0)) ∧ W1.heap[w.heap.size + 3]? = some (.cells #[.int .i64 0] 31 (0, 0)) by
    rw [hW1]; exact alloc4_heap _ _ _ _ _)
  rw [← hW1]
  clear hW1
  refine ⟨trivial, ?_⟩
  gi_at_call 36
  refine (HCW.out _ HN1.out).mono ?_
  rintro e w2 ⟨rfl, hn2⟩
  have HN2 := Lib.hid (HN1.out.trans hn2)
  have hk2 : ∀ k o, W1.heap[k]? = some o → w2.heap[k]? = some o := fun k o h => (hn2.below.block k (Array.getElem?_eq_some_iff.1 h).1).trans h
  have HB := Lib.hid (show w2.heap[w.heap.size + 1]? = some (.cells #[.slice none 0 0] 25 (0, 0)) ∧ w2.heap[w.heap.size + 1 + 1]? = some (.cells #[.bool false] 4 (0, 0)) ∧ w2.heap[w.heap.size + 1 + 1 + 1]? = some (.cells #[.int .i64 0] 31 (0, 0)) from
    ⟨hk2 _ _ HA.out.2.1, hk2 _ _ HA.out.2.2.1, hk2 _ _ HA.out.2.2.2⟩)
  have c1 := box_cell HB.out.1
  have c2 := box_cell HB.out.2.1
  have c3 := box_cell HB.out.2.2
  have hEn : (E = 0) = False := eq_false hE
  have hEb : (E == 0) = false := by simpa using hE
  clear hn2 hk2
  gi_wp2
  clear c1 c2 c3
  obtain ⟨WF, hWF⟩ : ∃ WF, WF = (((w2.setCell ⟨w.heap.size + 1, 0, none⟩ (.slice none 0 0)).setCell ⟨w.heap.size + 1 + 1, 0, none⟩ (.bool false)).setCell ⟨w.heap.size + 1 + 1 + 1, 0, none⟩ (.int .i64 E)) := ⟨_, rfl⟩
  rw [← hWF]
  obtain ⟨m2, m3, m4⟩ := HB.out
  have z1 : WF.heap[w.heap.size + 1]? = some (.cells #[.slice none 0 0] 25 (0, 0)) := by
    rw [hWF, heap_setCell_other _ _ _ _ _ (by omega), heap_setCell_other _ _ _ _ _ (by omega)]
    exact heap_setCell_same _ _ 0 _ m2
  have z2 : WF.heap[w.heap.size + 1 + 1]? = some (.cells #[.bool false] 4 (0, 0)) := by
    rw [hWF, heap_setCell_other _ _ _ _ _ (by omega)]
    exact heap_setCell_same _ _ 0 _ ((heap_setCell_other _ _ _ _ _ (by omega)).trans m3)
  have z3 : WF.heap[w.heap.size + 1 + 1 + 1]? = some (.cells #[.int .i64 E] 31 (0, 0)) := by
    rw [hWF]
    exact heap_setCell_same _ _ 0 _ ((heap_setCell_other _ _ _ _ _ (by omega)).trans ((heap_setCell_other _ _ _ _ _ (by omega)).trans m4))
  have z4 : New w WF := by
    rw [hWF]
    exact ((HN2.out.setCell (by show w.heap.size ≤ w.heap.size + 1; omega) _).setCell (by show w.heap.size ≤ w.heap.size + 1 + 1; omega) _).setCell (by show w.heap.size ≤ w.heap.size + 1 + 1 + 1; omega) _
  refine leaves_marks [] WF (by simp) (fun D hD => by simp at hD) (fun W9 hm => ?_)
  have hk : ∀ k o, k < w.heap.size + 4 → WF.heap[k]? = some o → W9.heap[k]? = some o := fun k o hk h => (hm.2 k (Array.getElem?_eq_some_iff.1 h).1 (by simp)).trans h
  exact ⟨_, re_resultsE _ _ (w.heap.size + 1) (w.heap.size + 1 + 1) (w.heap.size + 1 + 1 + 1) none 0 0 false E _ _ _ rfl rfl rfl (hk _ _ (by omega) z1) (hk _ _ (by omega) z2) (hk _ _ (by omega) z3), rfl, Mod.new z4 hm (fun k hk => by simp at hk)⟩

set_option maxRecDepth 100000 in
set_option maxHeartbeats 8000000 in
theorem cheap_err (tv : Option Addr) (n cp : Nat) (a1 a2 a3 E : Int) (w : World) (hE : E ≠ 0)
    (hcw : ∀ w1, New w w1 → Calls Try.prog 36 #[.slice tv n cp, vv a1 a2 a3] w1 fun e w' => e = .returned (.int .i64 E) ∧ New w1 w') :
    Calls Try.prog 21 #[.slice tv n cp, vv a1 a2 a3] w fun en w' => en = .returned (.tuple #[.agg #[.slice none 0 0], .agg (arr5 0 0 0 0 0), .int .i64 E]) ∧ New w w' := by
  have HCW := Lib.hid (fun (w1 : World) h1 => (callsIn_wide (n := 4)).2 (hcw w1 h1))
  clear hcw
  refine (callsIn_wide (n := 5)).1 ?_
  refine callsIn_of_wp_marks Try.func21 rfl trivial ?_ rfl
  simp only [Try.ntmps21, List.size_toArray, List.length_cons, List.length_nil, Nat.reduceAdd, Nat.reduceSub, Array.replicate_succ, Array.replicate_zero, List.push_toArray, List.append_toArray, List.nil_append, List.cons_append]
  gi_wp2
  obtain ⟨W1, hW1⟩ : ∃ W1, W1 = (((w.alloc (.cells #[.slice tv n cp] 22)).alloc (.cells #[.int .i64 a1, .int .i64 a2, .int .i64 a3] 37)).alloc (.cells #[.slice none 0 0] 25)).alloc (.cells (arr5 0 0 0 0 0) 49) := ⟨_, rfl⟩
  have HN1 := Lib.hid (show New w W1 by rw [hW1]; exact ((((New.refl _).alloc _).alloc _).alloc _).alloc _)
  have HA := Lib.hid (show ChH w W1 (.slice tv n cp) a1 a2 a3 by
    rw [hW1]; exact alloc4_heap _ _ _ _ _)
  unfold arr5 at hW1
  rw [← hW1]
  clear hW1
  refine ⟨trivial, ?_⟩
  gi_at_call 36
  refine (HCW.out _ HN1.out).mono ?_
  rintro e w2 ⟨rfl, hn2⟩
  have HN2 := Lib.hid (HN1.out.trans hn2)
  have HB := Lib.hid (HA.out.of (fun k o _ h => (hn2.below.block k (Array.getElem?_eq_some_iff.1 h).1).trans h))
  have fr1 := frozen_heap HB.out.2.2.1
  have fr2 := frozen_heap HB.out.2.2.2
  have cr := (box_cell HB.out.2.2.1)
  obtain ⟨⟨d0, d1, d2⟩, d3, d4⟩ := cell5 HB.out.2.2.2
  have hEn : (E = 0) = False := eq_false hE
  have hEb : (E == 0) = false := by simpa using hE
  clear hn2
  gi_wp2
  clear d0 d1 d2 d3 d4 fr1 fr2 cr
  obtain ⟨WF, hWF⟩ : ∃ WF, WF = (((((w2.setCell ⟨w.heap.size + 1 + 1, 0, none⟩ (.slice none 0 0)).setCell ⟨w.heap.size + 1 + 1 + 1, 0, none⟩ (.int .i64 0)).setCell ⟨w.heap.size + 1 + 1 + 1, 1, none⟩ (.int .i64 0)).setCell ⟨w.heap.size + 1 + 1 + 1, 2, none⟩ (.int .i64 0)).setCell ⟨w.heap.size + 1 + 1 + 1, 3, none⟩ (.int .i64 0)).setCell ⟨w.heap.size + 1 + 1 + 1, 4, none⟩ (.int .i64 0) := ⟨_, rfl⟩
  rw [← hWF]
  obtain ⟨⟨z1, z2⟩, z4, z6⟩ := fin_puts hWF HN2.out HB.out.2.2.1 HB.out.2.2.2
  clear hWF z6
  refine leaves_marks [] WF (by simp) (fun D hD => by simp at hD) (fun W9 hm => ?_)
  have hk : ∀ k o, k < w.heap.size + 4 → WF.heap[k]? = some o → W9.heap[k]? = some o := fun k o hk h => (hm.2 k (Array.getElem?_eq_some_iff.1 h).1 (by simp)).trans h
  exact ⟨_, ch_results _ _ (w.heap.size + 1 + 1) (w.heap.size + 1 + 1 + 1) none 0 0 0 0 0 0 0 E _ _ rfl rfl rfl (hk _ _ (by omega) z1) (hk _ _ (by omega) z2), rfl, Mod.new z4 hm (fun k hk => by simp at hk)⟩

end Go.Proofs.Ytpjekinmcdglbaa
