/- The price of a valid recipe: price. · checkRecipe, checkWanted; what valid tints and recipes keep. · Price of the program. -/
import Derived.Test.YtpjekinmcdglbaaGf
import Derived.Test.YtpjekinmcdglbaaCg
import Derived.Test.YtpjekinmcdglbaaGd

section
set_option linter.unusedSimpArgs false
set_option linter.unusedVariables false
set_option maxRecDepth 100000
namespace Go.Proofs.Ytpjekinmcdglbaa
open Go.RowKit

theorem sumW_pos {P : List (Int × Int)} {n m : Nat} (hok : prOk P n m) (hn : 0 < n) : 1 ≤ sumW P n := by
  obtain ⟨k, rfl⟩ : ∃ k, n = k + 1 := ⟨n - 1, by omega⟩
  have h1 := sumW_bd (P := P) (k := k) (fun i hi => (hok i (by omega)).1)
  have h2 := (hok k (by omega)).1
  simp only [sumW]; omega

set_option maxHeartbeats 8000000 in
theorem price_c (b off m tc pb poff n pc : Nat) (T : List T5) (P : List (Int × Int)) (w : World) (hT : Tnts w b off m T) (hP : Prts w pb poff n P) (hok : prOk P n m) (htn : tnOk T) (hn0 : 0 < n) (hn : n ≤ 4) (hm : m ≤ 1000) :
    Calls Try.prog 35 #[.slice (some ⟨b, off, none⟩) m tc, .agg #[.slice (some ⟨pb, poff, none⟩) n pc]] w fun en w' => en = .returned (fv (lowA (sumT P (tP T) n) (sumW P n)) (lowB (sumT P (tP T) n) (sumW P n))) ∧ New w w' := by
  have hwok : ∀ i, i < n → 1 ≤ pW P i ∧ pW P i ≤ 1000000000000 := fun i hi => (hok i hi).1
  have sP := sumT_bd (P := P) (f := tP T) (M := 10000) (by omega) (k := n) (fun i hi => ⟨hwok i hi, (htn _).2.2.1, (htn _).2.2.2⟩)
  have sW := sumW_bd (P := P) (k := n) hwok
  have sW1 := sumW_pos hok hn0
  have HFR := Lib.hid (fun w1 : World => fraction_c (sumT P (tP T) n) (sumW P n) w1 (by omega) (by omega))
  have HSU := Lib.hid (show ∀ w1, New w w1 → Calls Try.prog 29 #[.slice (some ⟨b, off, none⟩) m tc, .agg #[.slice (some ⟨pb, poff, none⟩) n pc]] w1 fun en w' =>
      en = .returned (.agg #[.int .i64 (sumW P n), .int .i64 (sumT P (tA T) n), .int .i64 (sumT P (tB T) n), .int .i64 (sumT P (tC T) n), .int .i64 (sumT P (tP T) n)]) ∧ New w1 w' from fun w1 h1 => sumsOf_c b off m tc pb poff n pc T P w1 (hT.new h1) (hP.new h1) hok htn hn hm)
  clear hT hP hok htn hwok sP sW sW1
  generalize sumW P n = S0 at *
  generalize sumT P (tA T) n = S1 at *
  generalize sumT P (tB T) n = S2 at *
  generalize sumT P (tC T) n = S3 at *
  generalize sumT P (tP T) n = S4 at *
  generalize lowA S4 S0 = LA at *
  generalize lowB S4 S0 = LB at *
  go_enter Try.func35, Try.ntmps35
  go_wp2_with fail
  go_at_call 29
  refine (HSU.out _ (((New.refl _).alloc _).alloc _)).mono ?_
  rintro e w1 ⟨rfl, hn1⟩
  have HN1 := Lib.hid ((((New.refl w).alloc _).alloc _).trans hn1)
  have hB : w1.heap[w.heap.size + 1]? = some (.cells #[.int .i64 0, .int .i64 0] 29 (0, 0)) := (hn1.below.block _ (by simp)).trans (alloc2_new rfl)
  have HB := Lib.hid hB
  clear hn1 hB
  go_wp2_with fail
  go_at_call 30
  refine (HFR.out _).mono ?_
  rintro e w2 ⟨rfl, hn2⟩
  have HN2 := Lib.hid (((New.refl w1).alloc _).trans hn2)
  have hB2 : w2.heap[w.heap.size + 1]? = some (.cells #[.int .i64 0, .int .i64 0] 29 (0, 0)) := (HN2.out.below.block _ (Array.getElem?_eq_some_iff.1 HB.out).1).trans HB.out
  have c0 : w2.cell? ⟨w.heap.size + 1, 0, none⟩ = some (.int .i64 0) := by simp [World.cell?, hB2]
  have c1 : w2.cell? ⟨w.heap.size + 1, 1, none⟩ = some (.int .i64 0) := by simp [World.cell?, hB2]
  have f0 := frozen5 hB2
  clear hn2 hB2
  go_wp2_with fail
  have HNF := Lib.hid (show New w ((w2.setCell ⟨w.heap.size + 1, 0, none⟩ (.int .i64 LA)).setCell ⟨w.heap.size + 1, 1, none⟩ (.int .i64 LB)) from
    ((HN1.out.trans HN2.out).setCell (by show w.heap.size ≤ w.heap.size + 1; omega) _).setCell (by show w.heap.size ≤ w.heap.size + 1; omega) _)
  exact bodyPost_ret (v := fv LA LB) (by simp [results, Try.results35, go_sem, c0, c1]) rfl ⟨rfl, HNF.out⟩

end Go.Proofs.Ytpjekinmcdglbaa
end

section
set_option linter.unusedSimpArgs false
set_option linter.unusedVariables false
set_option maxRecDepth 100000
namespace Go.Proofs.Ytpjekinmcdglbaa
open Go.RowKit

def rcpE (T : List T5) (P : List (Int × Int)) (m : Nat) : Int := if chkE T m ≠ 0 then chkE T m else if recB P m = true then 0 else 1
def wntE (T : List T5) (a b c : Int) (m : Nat) : Int := if chkE T m ≠ 0 then chkE T m else if shB a b c = true then 0 else 1
theorem chkE_zero {T : List T5} {m : Nat} (hl : T.length = m) (h : chkE T m = 0) : (1 ≤ m ∧ m ≤ 12) ∧ tnOk T := by
  unfold chkE at h
  split at h
  · cases h
  · split at h
    · cases h
    · split at h
      · cases h
      · rename_i h1 h2 h3
        refine ⟨by omega, fun p => ?_⟩
        by_cases hp : p < m
        · have h4 : (List.range m).all (okT T) = true := by simpa using h3
          have h5 := List.all_eq_true.1 h4 p (by simpa using hp)
          simp [okT, tintB, shB, shB1] at h5
          omega
        · simp [tA, tB, tC, tP, List.getElem?_eq_none (show T.length ≤ p by omega)]
theorem recB_true {P : List (Int × Int)} {n m : Nat} (hl : P.length = n) (h : recB P m = true) : (1 ≤ n ∧ n ≤ 4) ∧ prOk P n m := by
  unfold recB at h
  rw [hl] at h
  simp only [Bool.and_eq_true, decide_eq_true_eq] at h
  obtain ⟨⟨h1, h2⟩, h3⟩ := h
  refine ⟨h1, fun i hi => ?_⟩
  have h4 := List.all_eq_true.1 h2 i (by simpa using hi)
  have h5 : (List.range i).all (okPt P m) = true := List.all_eq_true.2 fun k hk => List.all_eq_true.1 h2 k (by simp at hk ⊢; omega)
  have h6 := lastT_bd h5
  simp only [okPt, Bool.and_eq_true, decide_eq_true_eq] at h4
  omega

set_option maxHeartbeats 8000000 in
theorem checkRecipe_c (tv pv : Option Addr) (m tc n pc : Nat) (T : List T5) (P : List (Int × Int)) (w : World) (hm : m ≤ 17592186044415) (hn : n ≤ 17592186044415) (hT : 0 < m → ∃ b off, tv = some ⟨b, off, none⟩ ∧ Tnts w b off m T) (hP : P.length = n) (hp : 0 < n → ∃ b off, pv = some ⟨b, off, none⟩ ∧ Prts w b off n P) :
    Calls Try.prog 28 #[.slice tv m tc, .agg #[.slice pv n pc]] w fun en w' => en = .returned (.int .i64 (rcpE T P m)) ∧ New w w' := by
  have HC := Lib.hid (fun (w1 : World) (h1 : New w w1) => checkTints_c tv m tc T w1 hm (fun h => by obtain ⟨b, o, e, h2⟩ := hT h; exact ⟨b, o, e, h2.new h1⟩))
  have HI := Lib.hid (fun (w1 : World) (h1 : New w w1) => isRecipe_c tv pv m tc n pc P w1 hm hn hP (fun h => by obtain ⟨b, o, e, h2⟩ := hp h; exact ⟨b, o, e, h2.new h1⟩))
  have HR := Lib.hid (show rcpE T P m = if chkE T m ≠ 0 then chkE T m else if recB P m = true then 0 else 1 from rfl)
  clear hT hp hP
  generalize rcpE T P m = R at *
  generalize hE : chkE T m = E at *
  generalize recB P m = q at *
  clear hE
  go_enter Try.func28, Try.ntmps28
  go_wp2_with fail
  go_at_call 53
  refine (HC.out _ ((New.refl w).alloc _)).mono ?_
  rintro e w2 ⟨rfl, hn2⟩
  have HN2 := Lib.hid (((New.refl w).alloc _).trans hn2)
  have hB : w2.heap[w.heap.size]? = some (.cells #[.slice pv n pc] 25 (0, 0)) := (hn2.below.block _ (by simp)).trans (heap_alloc_new _ _)
  have d0 : w2.cell? ⟨w.heap.size, 0, none⟩ = some (.slice pv n pc) := by simp [World.cell?, hB]
  clear hn2 hB
  by_cases hz : E = 0
  · subst hz
    go_wp2_with fail
    go_at_call 48
    refine (HI.out _ HN2.out).mono ?_
    rintro e w3 ⟨rfl, hn3⟩
    have HN3 := Lib.hid (HN2.out.trans hn3)
    clear hn3 d0
    cases q
    · have HF := Lib.hid (show (1 : Int) = R by rw [HR.out]; simp)
      go_wp2_with fail
      all_goals (go_ret; exact ⟨ret_int HF.out, HN3.out⟩)
    · have HF := Lib.hid (show (0 : Int) = R by rw [HR.out]; simp)
      go_wp2_with fail
      all_goals (go_ret; exact ⟨ret_int HF.out, HN3.out⟩)
  · have HF := Lib.hid (show E = R by rw [HR.out, if_pos hz])
    go_wp2_with fail
    all_goals (go_ret; exact ⟨ret_int HF.out, HN2.out⟩)

set_option maxHeartbeats 8000000 in
theorem checkWanted_c (tv : Option Addr) (m tc : Nat) (T : List T5) (a b c : Int) (w : World) (hm : m ≤ 17592186044415) (hT : 0 < m → ∃ b off, tv = some ⟨b, off, none⟩ ∧ Tnts w b off m T) :
    Calls Try.prog 36 #[.slice tv m tc, vv a b c] w fun en w' => en = .returned (.int .i64 (wntE T a b c m)) ∧ New w w' := by
  have HC := Lib.hid (fun (w1 : World) (h1 : New w w1) => checkTints_c tv m tc T w1 hm (fun h => by obtain ⟨b, o, e, h2⟩ := hT h; exact ⟨b, o, e, h2.new h1⟩))
  have HI := Lib.hid (fun (w1 : World) => isShade_c a b c w1)
  have HR := Lib.hid (show wntE T a b c m = if chkE T m ≠ 0 then chkE T m else if shB a b c = true then 0 else 1 from rfl)
  clear hT
  generalize wntE T a b c m = R at *
  generalize hE : chkE T m = E at *
  generalize shB a b c = q at *
  clear hE
  go_enter Try.func36, Try.ntmps36
  go_wp2_with fail
  go_at_call 53
  refine (HC.out _ ((New.refl w).alloc _)).mono ?_
  rintro e w2 ⟨rfl, hn2⟩
  have HN2 := Lib.hid (((New.refl w).alloc _).trans hn2)
  have hB : w2.heap[w.heap.size]? = some (.cells #[.int .i64 a, .int .i64 b, .int .i64 c] 66 (0, 0)) := (hn2.below.block _ (by simp)).trans (heap_alloc_new _ _)
  have d0 : w2.cell? ⟨w.heap.size, 0, none⟩ = some (.int .i64 a) := by simp [World.cell?, hB]
  have d1 : w2.cell? ⟨w.heap.size, 1, none⟩ = some (.int .i64 b) := by simp [World.cell?, hB]
  have d2 : w2.cell? ⟨w.heap.size, 2, none⟩ = some (.int .i64 c) := by simp [World.cell?, hB]
  clear hn2 hB
  by_cases hz : E = 0
  · subst hz
    go_wp2_with fail
    go_at_call 60
    refine (HI.out _).mono ?_
    rintro e w3 ⟨rfl, hn3⟩
    have HN3 := Lib.hid (HN2.out.trans hn3)
    clear hn3 d0 d1 d2
    cases q
    · have HF := Lib.hid (show (1 : Int) = R by rw [HR.out]; simp)
      go_wp2_with fail
      all_goals (go_ret; exact ⟨ret_int HF.out, HN3.out⟩)
    · have HF := Lib.hid (show (0 : Int) = R by rw [HR.out]; simp)
      go_wp2_with fail
      all_goals (go_ret; exact ⟨ret_int HF.out, HN3.out⟩)
  · have HF := Lib.hid (show E = R by rw [HR.out, if_pos hz])
    go_wp2_with fail
    all_goals (go_ret; exact ⟨ret_int HF.out, HN2.out⟩)

end Go.Proofs.Ytpjekinmcdglbaa
end

section
set_option linter.unusedSimpArgs false
set_option linter.unusedVariables false
set_option maxRecDepth 100000
namespace Go.Proofs.Ytpjekinmcdglbaa
open Go.RowKit

def priA (T : List T5) (P : List (Int × Int)) (m n : Nat) : Int := if rcpE T P m = 0 then lowA (sumT P (tP T) n) (sumW P n) else 0
def priB (T : List T5) (P : List (Int × Int)) (m n : Nat) : Int := if rcpE T P m = 0 then lowB (sumT P (tP T) n) (sumW P n) else 0
theorem rcpE_zero {T : List T5} {P : List (Int × Int)} {m n : Nat} (hl : T.length = m) (hP : P.length = n) (h : rcpE T P m = 0) : (1 ≤ m ∧ m ≤ 12) ∧ tnOk T ∧ (1 ≤ n ∧ n ≤ 4) ∧ prOk P n m := by
  unfold rcpE at h
  split at h
  · rename_i h1; exact absurd h h1
  · rename_i h1
    split at h
    · rename_i h2
      have a := chkE_zero hl (by simpa using h1)
      have b := recB_true hP h2
      exact ⟨a.1, a.2, b.1, b.2⟩
    · cases h

set_option maxHeartbeats 8000000 in
theorem Price_c (tv pv : Option Addr) (m tc n pc : Nat) (T : List T5) (P : List (Int × Int)) (w : World) (hm : m ≤ 17592186044415) (hn : n ≤ 17592186044415) (hTl : T.length = m) (hT : 0 < m → ∃ b off, tv = some ⟨b, off, none⟩ ∧ Tnts w b off m T) (hP : P.length = n) (hp : 0 < n → ∃ b off, pv = some ⟨b, off, none⟩ ∧ Prts w b off n P) :
    Calls Try.prog 13 #[.slice tv m tc, .agg #[.slice pv n pc]] w fun en w' => en = .returned (.tuple #[fv (priA T P m n) (priB T P m n), .int .i64 (rcpE T P m)]) ∧ New w w' := by
  have HC := Lib.hid (fun (w1 : World) (h1 : New w w1) => checkRecipe_c tv pv m tc n pc T P w1 hm hn (fun h => by obtain ⟨b, o, e, h2⟩ := hT h; exact ⟨b, o, e, h2.new h1⟩) hP (fun h => by obtain ⟨b, o, e, h2⟩ := hp h; exact ⟨b, o, e, h2.new h1⟩))
  have HPR := Lib.hid (show rcpE T P m = 0 → ∀ (w1 : World) (h1 : New w w1), Calls Try.prog 35 #[.slice tv m tc, .agg #[.slice pv n pc]] w1 fun en w' => en = .returned (fv (priA T P m n) (priB T P m n)) ∧ New w1 w' from fun h w1 h1 => by
    obtain ⟨⟨a1, a2⟩, a3, ⟨a4, a5⟩, a6⟩ := rcpE_zero hTl hP h
    obtain ⟨b, off, rfl, hT1⟩ := hT (by omega)
    obtain ⟨pb, poff, rfl, hP1⟩ := hp (by omega)
    unfold priA priB
    rw [if_pos h, if_pos h]
    exact price_c b off m tc pb poff n pc T P w1 (hT1.new h1) (hP1.new h1) a6 a3 (by omega) a5 (by omega))
  have HA := Lib.hid (show rcpE T P m ≠ 0 → priA T P m n = 0 ∧ priB T P m n = 0 from fun h => by unfold priA priB; rw [if_neg h, if_neg h]; exact ⟨rfl, rfl⟩)
  clear hT hp hP hTl
  generalize priA T P m n = LA at *
  generalize priB T P m n = LB at *
  generalize rcpE T P m = R at *
  go_enter Try.func13, Try.ntmps13
  go_wp2_with fail
  go_at_call 28
  refine (HC.out _ (((New.refl w).alloc _).alloc _)).mono ?_
  rintro e w2 ⟨rfl, hn2⟩
  have HN2 := Lib.hid ((((New.refl w).alloc _).alloc _).trans hn2)
  have hB : w2.heap[w.heap.size]? = some (.cells #[.slice pv n pc] 25 (0, 0)) := (hn2.below.block _ (by simp; omega)).trans ((Below.heap_alloc _ _ _ (by simp)).trans (heap_alloc_new _ _))
  have hB2 : w2.heap[w.heap.size + 1]? = some (.cells #[.int .i64 0, .int .i64 0] 29 (0, 0)) := (hn2.below.block _ (by simp)).trans (alloc2_new rfl)
  have d0 : w2.cell? ⟨w.heap.size, 0, none⟩ = some (.slice pv n pc) := by simp [World.cell?, hB]
  have HB2 := Lib.hid hB2
  have e0 : w2.cell? ⟨w.heap.size + 1, 0, none⟩ = some (.int .i64 0) := by simp [World.cell?, hB2]
  have e1 : w2.cell? ⟨w.heap.size + 1, 1, none⟩ = some (.int .i64 0) := by simp [World.cell?, hB2]
  have f0 := frozen5 hB2
  clear hn2 hB hB2
  by_cases hz : R = 0
  · subst hz
    clear e0 e1 f0
    go_wp2_with fail
    go_at_call 35
    refine (HPR.out (by simp) _ HN2.out).mono ?_
    rintro e w3 ⟨rfl, hn3⟩
    have HN3 := Lib.hid (HN2.out.trans hn3)
    have hB3 := (hn3.below.block _ (Array.getElem?_eq_some_iff.1 HB2.out).1).trans HB2.out
    have e0 : w3.cell? ⟨w.heap.size + 1, 0, none⟩ = some (.int .i64 0) := by simp [World.cell?, hB3]
    have e1 : w3.cell? ⟨w.heap.size + 1, 1, none⟩ = some (.int .i64 0) := by simp [World.cell?, hB3]
    have f0 := frozen5 hB3
    clear hn3 hB3 d0
    go_wp2_with fail
    have HNF := Lib.hid (show New w ((w3.setCell ⟨w.heap.size + 1, 0, none⟩ (.int .i64 LA)).setCell ⟨w.heap.size + 1, 1, none⟩ (.int .i64 LB)) from
      ((HN3.out).setCell (by show w.heap.size ≤ w.heap.size + 1; omega) _).setCell (by show w.heap.size ≤ w.heap.size + 1; omega) _)
    exact bodyPost_ret (v := .tuple #[fv LA LB, .int .i64 0]) (by simp [results, Try.results13, go_sem, e0, e1]) rfl ⟨rfl, HNF.out⟩
  · obtain ⟨h1, h2⟩ := HA.out hz
    subst h1 h2
    go_wp2_with fail
    have HNF := Lib.hid (show New w ((w2.setCell ⟨w.heap.size + 1, 0, none⟩ (.int .i64 0)).setCell ⟨w.heap.size + 1, 1, none⟩ (.int .i64 0)) from
      ((HN2.out).setCell (by show w.heap.size ≤ w.heap.size + 1; omega) _).setCell (by show w.heap.size ≤ w.heap.size + 1; omega) _)
    exact bodyPost_ret (v := .tuple #[fv 0 0, .int .i64 R]) (by simp [results, Try.results13, go_sem, e0, e1]) rfl ⟨rfl, HNF.out⟩

end Go.Proofs.Ytpjekinmcdglbaa
end
