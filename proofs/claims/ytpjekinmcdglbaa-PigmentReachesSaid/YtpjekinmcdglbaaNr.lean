/- Plane at any input; equal recipes are the same. At most 1000 tints. -/
import Derived.Test.YtpjekinmcdglbaaNq
import Derived.Test.YtpjekinmcdglbaaNp
import Derived.Test.YtpjekinmcdglbaaEd
set_option linter.unusedSimpArgs false
set_option linter.unusedVariables false
namespace Go.Proofs.Ytpjekinmcdglbaa
open Go.RowKit Go.Shelf

attribute [local go_sem] Oper.semAt_some

theorem pn_resultsE (tmps : Array Value) (W : World) (a c d : Nat) (N0 N1 N2 C E : Int) (r : Bool) (t1 t2 t3 : TypeId) (h4 : tmps.getD 4 undef = .pointer (some ⟨a, 0, none⟩)) (h5 : tmps.getD 5 undef = .pointer (some ⟨c, 0, none⟩)) (h6 : tmps.getD 6 undef = .pointer (some ⟨d, 0, none⟩))
    (hA : W.heap[a]? = some (.cells #[.int .i64 N0, .int .i64 N1, .int .i64 N2, .int .i64 C] t1 (0, 0))) (hC : W.heap[c]? = some (.cells #[.bool r] t2 (0, 0))) (hD : W.heap[d]? = some (.cells #[.int .i64 E] t3 (0, 0))) :
    (results Try.f17 tmps).run Try.prog W = .ok (.tuple #[plV N0 N1 N2 C, .bool r, .int .i64 E]) W := by
  obtain ⟨⟨c1, c2, c3⟩, c4⟩ := cells4q hA
  have c5 := (box_cell hC).1
  have c6 := (box_cell hD).1
  simp only [Array.getD_eq_getD_getElem?] at h4 h5 h6
  simp [results, Try.results17, go_sem, h4, h5, h6, c1, c2, c3, c4, c5, c6, plV]

theorem pl_putE {w V : World} {S0 : Value} {x : V3} {bb : Bool} (h : PlK w S0 x plZ bb V) (q0 q1 q2 q3 : Value) (b' : Bool) (E : Int) :
    New w ((((((V.setCell ⟨w.heap.size + 2, 0, none⟩ q0).setCell ⟨w.heap.size + 2, 1, none⟩ q1).setCell ⟨w.heap.size + 2, 2, none⟩ q2).setCell ⟨w.heap.size + 2, 3, none⟩ q3).setCell ⟨w.heap.size + 3, 0, none⟩ (.bool b')).setCell ⟨w.heap.size + 4, 0, none⟩ (.int .i64 E)) ∧ ((((((V.setCell ⟨w.heap.size + 2, 0, none⟩ q0).setCell ⟨w.heap.size + 2, 1, none⟩ q1).setCell ⟨w.heap.size + 2, 2, none⟩ q2).setCell ⟨w.heap.size + 2, 3, none⟩ q3).setCell ⟨w.heap.size + 3, 0, none⟩ (.bool b')).setCell ⟨w.heap.size + 4, 0, none⟩ (.int .i64 E)).heap[w.heap.size + 2]? = some (.cells #[q0, q1, q2, q3] 41 (0, 0)) ∧ ((((((V.setCell ⟨w.heap.size + 2, 0, none⟩ q0).setCell ⟨w.heap.size + 2, 1, none⟩ q1).setCell ⟨w.heap.size + 2, 2, none⟩ q2).setCell ⟨w.heap.size + 2, 3, none⟩ q3).setCell ⟨w.heap.size + 3, 0, none⟩ (.bool b')).setCell ⟨w.heap.size + 4, 0, none⟩ (.int .i64 E)).heap[w.heap.size + 3]? = some (.cells #[.bool b'] 4 (0, 0)) ∧ ((((((V.setCell ⟨w.heap.size + 2, 0, none⟩ q0).setCell ⟨w.heap.size + 2, 1, none⟩ q1).setCell ⟨w.heap.size + 2, 2, none⟩ q2).setCell ⟨w.heap.size + 2, 3, none⟩ q3).setCell ⟨w.heap.size + 3, 0, none⟩ (.bool b')).setCell ⟨w.heap.size + 4, 0, none⟩ (.int .i64 E)).heap[w.heap.size + 4]? = some (.cells #[.int .i64 E] 31 (0, 0)) := by
  obtain ⟨h1, ⟨h2, h3⟩, h4, h5, h6⟩ := h
  have hz2 : w.heap.size ≤ w.heap.size + 2 := by omega
  have hz3 : w.heap.size ≤ w.heap.size + 3 := by omega
  have hz4 : w.heap.size ≤ w.heap.size + 4 := by omega
  refine ⟨(((((h1.setCell hz2 _).setCell hz2 _).setCell hz2 _).setCell hz2 _).setCell hz3 _).setCell hz4 _, ?_, ?_, ?_⟩
  · rw [heap_setCell_other _ _ _ _ _ (by omega), heap_setCell_other _ _ _ _ _ (by omega)]
    exact heap_put4z h4
  · rw [heap_setCell_other _ _ _ _ _ (by omega)]
    exact heap_setCell_same _ _ 0 _ ((heap_setCell_other _ _ _ _ _ (by omega)).trans ((heap_setCell_other _ _ _ _ _ (by omega)).trans ((heap_setCell_other _ _ _ _ _ (by omega)).trans ((heap_setCell_other _ _ _ _ _ (by omega)).trans h5))))
  · exact heap_setCell_same _ _ 0 _ ((heap_setCell_other _ _ _ _ _ (by omega)).trans ((heap_setCell_other _ _ _ _ _ (by omega)).trans ((heap_setCell_other _ _ _ _ _ (by omega)).trans ((heap_setCell_other _ _ _ _ _ (by omega)).trans ((heap_setCell_other _ _ _ _ _ (by omega)).trans h6)))))

set_option maxRecDepth 100000 in
set_option maxHeartbeats 8000000 in
theorem plane_err (tv : Option Addr) (n cp : Nat) (a1 a2 a3 E : Int) (w : World) (hE : E ≠ 0)
    (hcw : ∀ w1, New w w1 → Calls Try.prog 36 #[.slice tv n cp, vv a1 a2 a3] w1 fun e w' => e = .returned (.int .i64 E) ∧ New w1 w') :
    Calls Try.prog 17 #[.slice tv n cp, vv a1 a2 a3] w fun en w' => en = .returned (.tuple #[plV 0 0 0 0, .bool false, .int .i64 E]) ∧ New w w' := by
  have HCW := Lib.hid (fun (w1 : World) h1 => (callsIn_wide (n := 4)).2 (hcw w1 h1))
  clear hcw
  refine (callsIn_wide (n := 5)).1 ?_
  refine callsIn_of_wp_marks Try.func17 rfl trivial ?_ rfl
  simp only [Try.ntmps17, List.size_toArray, List.length_cons, List.length_nil, Nat.reduceAdd, Nat.reduceSub, Array.replicate_succ, Array.replicate_zero, List.push_toArray, List.append_toArray, List.nil_append, List.cons_append]
  gi_wp2
  obtain ⟨W1, hW1⟩ : ∃ W1, W1 = ((((w.alloc (.cells #[.slice tv n cp] 22)).alloc (.cells #[.int .i64 a1, .int .i64 a2, .int .i64 a3] 37)).alloc (.cells plZ 41)).alloc (.cells #[.bool false] 4)).alloc (.cells #[.int .i64 0] 31) := ⟨_, rfl⟩
  have HK1 := Lib.hid (show PlK w (.slice tv n cp) ⟨a1, a2, a3⟩ plZ false W1 by
    have h4 := alloc4_heap w (.cells #[.slice tv n cp] 22) (.cells #[.int .i64 a1, .int .i64 a2, .int .i64 a3] 37) (.cells plZ 41) (.cells #[.bool false] 4)
    have h5 := World.alloc_heap_new ((((w.alloc (.cells #[.slice tv n cp] 22)).alloc (.cells #[.int .i64 a1, .int .i64 a2, .int .i64 a3] 37)).alloc (.cells plZ 41)).alloc (.cells #[.bool false] 4)) (.cells #[.int .i64 0] 31)
    rw [hW1]
    obtain ⟨q1, q2, q3, q4⟩ := h4
    exact ⟨((((((New.refl _).alloc _).alloc _).alloc _).alloc _).alloc _), ⟨al_old q1, al_old q2⟩, al_old q3, al_old q4, by simpa using h5⟩)
  unfold plZ at hW1
  rw [← hW1]
  clear hW1
  have c0 := box_cell HK1.out.2.1.1
  obtain ⟨d0, d1, d2⟩ := cells3 HK1.out.2.1.2
  have hs1 := (Array.getElem?_eq_some_iff.1 HK1.out.2.2.2.2).1
  gi_wp2
  refine ⟨trivial, ?_⟩
  gi_at_call 36
  refine (HCW.out _ HK1.out.1).mono ?_
  rintro e w2 ⟨rfl, hn2⟩
  have HK := Lib.hid (HK1.out.mod (O := fun _ => False) (Mod.of_new hn2) (fun k h => h.elim))
  have kz := HK.out.2.2.1
  unfold plZ at kz
  obtain ⟨⟨h0, h1, h2⟩, h3⟩ := cells4q kz
  have hf := frozen_heap kz
  have hf0 := hf 0
  have hf1 := hf 1
  have hf2 := hf 2
  have hf3 := hf 3
  obtain ⟨c1, c1f⟩ := box_cell HK.out.2.2.2.1
  obtain ⟨c2, c2f⟩ := box_cell HK.out.2.2.2.2
  have hl7 := (Array.getElem?_eq_some_iff.1 HK.out.2.2.2.2).1
  have hEn : (E = 0) = False := eq_false hE
  have hEb : (E == 0) = false := by simpa using hE
  clear hn2 c0 d0 d1 d2 HK1 hs1 kz hf hE
  gi_wp2
  refine leaves_marks [] ((((((w2.setCell ⟨w.heap.size + 2, 0, none⟩ (.int .i64 0)).setCell ⟨w.heap.size + 2, 1, none⟩ (.int .i64 0)).setCell ⟨w.heap.size + 2, 2, none⟩ (.int .i64 0)).setCell ⟨w.heap.size + 2, 3, none⟩ (.int .i64 0)).setCell ⟨w.heap.size + 3, 0, none⟩ (.bool false)).setCell ⟨w.heap.size + 4, 0, none⟩ (.int .i64 E)) (by simp) (fun D hD => by simp at hD) (fun W9 hm => ?_)
  obtain ⟨y1, y2, y3, y4⟩ := pl_putE HK.out (.int .i64 0) (.int .i64 0) (.int .i64 0) (.int .i64 0) false E
  have hk : ∀ k o, ((((((w2.setCell ⟨w.heap.size + 2, 0, none⟩ (.int .i64 0)).setCell ⟨w.heap.size + 2, 1, none⟩ (.int .i64 0)).setCell ⟨w.heap.size + 2, 2, none⟩ (.int .i64 0)).setCell ⟨w.heap.size + 2, 3, none⟩ (.int .i64 0)).setCell ⟨w.heap.size + 3, 0, none⟩ (.bool false)).setCell ⟨w.heap.size + 4, 0, none⟩ (.int .i64 E)).heap[k]? = some o → W9.heap[k]? = some o := fun k o h => (hm.2 k (Array.getElem?_eq_some_iff.1 h).1 (by simp)).trans h
  exact ⟨_, pn_resultsE _ _ (w.heap.size + 2) (w.heap.size + 3) (w.heap.size + 4) 0 0 0 0 E false _ _ _ rfl rfl rfl (hk _ _ y2) (hk _ _ y3) (hk _ _ y4), rfl, Mod.new y1 hm (fun k hk => by simp at hk)⟩

/-- what Plane returns at any input -/
def PaR (w : World) (T : List T5) (m : Nat) (a b c : Int) (no : Bool) (E : Int) (en : Ending) (w' : World) : Prop :=
  ∃ N0 N1 N2 C, en = .returned (.tuple #[plV N0 N1 N2 C, .bool no, .int .i64 E]) ∧ New w w' ∧ (no = false → N0 = 0 ∧ N1 = 0 ∧ N2 = 0 ∧ C = 0) ∧ (no = true → btB T m N0 N1 N2 C a b c = true)
def noOf (T : List T5) (m : Nat) (a b c : Int) : Bool := decide (wntE T a b c m = 0) && (rcpL T m a b c).isEmpty
theorem plane_any (tv : Option Addr) (m tc : Nat) (T : List T5) (a b c : Int) (w : World) (hm : m ≤ 1000) (hTl : T.length = m) (hT : 0 < m → ∃ b off, tv = some ⟨b, off, none⟩ ∧ Tnts w b off m T) :
    Calls Try.prog 17 #[.slice tv m tc, vv a b c] w (PaR w T m a b c (noOf T m a b c) (wntE T a b c m)) := by
  have hcw : ∀ w1, New w w1 → Calls Try.prog 36 #[.slice tv m tc, vv a b c] w1 fun e w' => e = .returned (.int .i64 (wntE T a b c m)) ∧ New w1 w' :=
    fun w1 h1 => checkWanted_c tv m tc T a b c w1 (by omega) (fun h => by obtain ⟨b, o, e, h2⟩ := hT h; exact ⟨b, o, e, h2.new h1⟩)
  unfold noOf
  by_cases hz : wntE T a b c m = 0
  · obtain ⟨htn, ha, hb, hc⟩ := wntE_zero hTl hz
    have h1 := (chkE_zero hTl (wntE_zero' hz).1).1
    obtain ⟨tb, off, rfl, hTn⟩ := hT (by omega)
    have hx : bdV 1000 ⟨a, b, c⟩ := ⟨⟨by simp only; omega, by simp only; omega⟩, ⟨by simp only; omega, by simp only; omega⟩, by simp only; omega, by simp only; omega⟩
    rw [hz] at hcw ⊢
    refine (plane_ok tb off m tc a b c T w hTn htn (tn_sh htn) hm (by omega) ha hb hc hcw).mono ?_
    rintro en w' ⟨hn, ⟨hall, rfl⟩ | ⟨pl, hpl, hbt, rfl⟩⟩
    · have hne : rcpL T m a b c ≠ [] := fun h => by
        obtain ⟨pl, hpl, hb⟩ := pl_some (tn_sh htn) (show 0 < m by omega) hx h
        rw [hall pl hpl] at hb; cases hb
      have : (rcpL T m a b c).isEmpty = false := by cases h : rcpL T m a b c with
        | nil => exact absurd h hne
        | cons x l => rfl
      rw [this]
      exact ⟨0, 0, 0, 0, rfl, hn, fun _ => ⟨rfl, rfl, rfl, rfl⟩, fun h => by simp at h⟩
    · have he : rcpL T m a b c = [] := by
        rcases Classical.em (rcpL T m a b c = []) with h | h
        · exact h
        · rw [pl_none (tn_sh htn) ha hb hc h] at hbt; cases hbt
      rw [he]
      exact ⟨_, _, _, _, rfl, hn, fun h => by simp at h, fun _ => hbt⟩
  · refine (plane_err tv m tc a b c _ w hz hcw).mono ?_
    rintro en w' ⟨rfl, hn⟩
    rw [decide_eq_false hz]
    exact ⟨0, 0, 0, 0, rfl, hn, fun _ => ⟨rfl, rfl, rfl, rfl⟩, fun h => by simp at h⟩
theorem same_self (P : List (Int × Int)) (n : Nat) : sameB P P n n = true := by
  unfold sameB okS
  simp

end Go.Proofs.Ytpjekinmcdglbaa
