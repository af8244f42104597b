/- checkRecipe, checkWanted; what valid tints and recipes keep. -/
import Derived.Test.YtpjekinmcdglbaaCg
import Derived.Test.YtpjekinmcdglbaaGp
import Derived.Test.YtpjekinmcdglbaaGd
set_option linter.unusedSimpArgs false
set_option linter.unusedVariables false
set_option maxRecDepth 100000
namespace Go.Proofs.Ytpjekinmcdglbaa
open Go.RowKit

def rcpE (T : List T5) (P : List (Int × Int)) (m : Nat) : Int := if chkE T m ≠ 0 then chkE T m else if recB P m = true then 0 else 1
def wntE (T : List T5) (a b c : Int) (m : Nat) : Int := if chkE T m ≠ 0 then chkE T m else if shB a b c = true then 0 else 1
theorem chkE_zero {T : List T5} {m : Nat} (hl : T.length = m) (h : chkE T m = 0) : (1 ≤ m ∧ m ≤ 12) ∧ tnOk T := by
  unfold chkE at h
  split at h
  · cases h
  · split at h
    · cases h
    · split at h
      · cases h
      · rename_i h1 h2 h3
        refine ⟨by omega, fun p => ?_⟩
        by_cases hp : p < m
        · have h4 : (List.range m).all (okT T) = true := by simpa using h3
          have h5 := List.all_eq_true.1 h4 p (by simpa using hp)
          simp [okT, tintB, shB, shB1] at h5
          omega
        · simp [tA, tB, tC, tP, List.getElem?_eq_none (show T.length ≤ p by omega)]
theorem recB_true {P : List (Int × Int)} {n m : Nat} (hl : P.length = n) (h : recB P m = true) : (1 ≤ n ∧ n ≤ 4) ∧ prOk P n m := by
  unfold recB at h
  rw [hl] at h
  simp only [Bool.and_eq_true, decide_eq_true_eq] at h
  obtain ⟨⟨h1, h2⟩, h3⟩ := h
  refine ⟨h1, fun i hi => ?_⟩
  have h4 := List.all_eq_true.1 h2 i (by simpa using hi)
  have h5 : (List.range i).all (okPt P m) = true := List.all_eq_true.2 fun k hk => List.all_eq_true.1 h2 k (by simp at hk ⊢; omega)
  have h6 := lastT_bd h5
  simp only [okPt, Bool.and_eq_true, decide_eq_true_eq] at h4
  omega

set_option maxHeartbeats 8000000 in
theorem checkRecipe_c (tv pv : Option Addr) (m tc n pc : Nat) (T : List T5) (P : List (Int × Int)) (w : World) (hm : m ≤ 17592186044415) (hn : n ≤ 17592186044415) (hT : 0 < m → ∃ b off, tv = some ⟨b, off, none⟩ ∧ Tnts w b off m T) (hP : P.length = n) (hp : 0 < n → ∃ b off, pv = some ⟨b, off, none⟩ ∧ Prts w b off n P) :
    Calls Try.prog 28 #[.slice tv m tc, .agg #[.slice pv n pc]] w fun en w' => en = .returned (.int .i64 (rcpE T P m)) ∧ New w w' := by
  have HC := Lib.hid (fun (w1 : World) (h1 : New w w1) => checkTints_c tv m tc T w1 hm (fun h => by obtain ⟨b, o, e, h2⟩ := hT h; exact ⟨b, o, e, h2.new h1⟩))
  have HI := Lib.hid (fun (w1 : World) (h1 : New w w1) => isRecipe_c tv pv m tc n pc P w1 hm hn hP (fun h => by obtain ⟨b, o, e, h2⟩ := hp h; exact ⟨b, o, e, h2.new h1⟩))
  have HR := Lib.hid (show rcpE T P m = if chkE T m ≠ 0 then chkE T m else if recB P m = true then 0 else 1 from rfl)
  clear hT hp hP
  generalize rcpE T P m = R at *
  generalize hE : chkE T m = E at *
  generalize recB P m = q at *
  clear hE
  go_enter Try.func28, Try.ntmps28
  go_wp2_with fail
  go_at_call 53
  refine (HC.out _ ((New.refl w).alloc _)).mono ?_
  rintro e w2 ⟨rfl, hn2⟩
  have HN2 := Lib.hid (((New.refl w).alloc _).trans hn2)
  have hB : w2.heap[w.heap.size]? = some (.cells #[.slice pv n pc] 25 (0, 0)) := (hn2.below.block _ (by simp)).trans (heap_alloc_new _ _)
  have d0 : w2.cell? ⟨w.heap.size, 0, none⟩ = some (.slice pv n pc) := by simp [World.cell?, hB]
  clear hn2 hB
  by_cases hz : E = 0
  · subst hz
    go_wp2_with fail
    go_at_call 48
    refine (HI.out _ HN2.out).mono ?_
    rintro e w3 ⟨rfl, hn3⟩
    have HN3 := Lib.hid (HN2.out.trans hn3)
    clear hn3 d0
    cases q
    · have HF := Lib.hid (show (1 : Int) = R by rw [HR.out]; simp)
      go_wp2_with fail
      all_goals (go_ret; exact ⟨ret_int HF.out, HN3.out⟩)
    · have HF := Lib.hid (show (0 : Int) = R by rw [HR.out]; simp)
      go_wp2_with fail
      all_goals (go_ret; exact ⟨ret_int HF.out, HN3.out⟩)
  · have HF := Lib.hid (show E = R by rw [HR.out, if_pos hz])
    go_wp2_with fail
    all_goals (go_ret; exact ⟨ret_int HF.out, HN2.out⟩)

set_option maxHeartbeats 8000000 in
theorem checkWanted_c (tv : Option Addr) (m tc : Nat) (T : List T5) (a b c : Int) (w : World) (hm : m ≤ 17592186044415) (hT : 0 < m → ∃ b off, tv = some ⟨b, off, none⟩ ∧ Tnts w b off m T) :
    Calls Try.prog 36 #[.slice tv m tc, vv a b c] w fun en w' => en = .returned (.int .i64 (wntE T a b c m)) ∧ New w w' := by
  have HC := Lib.hid (fun (w1 : World) (h1 : New w w1) => checkTints_c tv m tc T w1 hm (fun h => by obtain ⟨b, o, e, h2⟩ := hT h; exact ⟨b, o, e, h2.new h1⟩))
  have HI := Lib.hid (fun (w1 : World) => isShade_c a b c w1)
  have HR := Lib.hid (show wntE T a b c m = if chkE T m ≠ 0 then chkE T m else if shB a b c = true then 0 else 1 from rfl)
  clear hT
  generalize wntE T a b c m = R at *
  generalize hE : chkE T m = E at *
  generalize shB a b c = q at *
  clear hE
  go_enter Try.func36, Try.ntmps36
  go_wp2_with fail
  go_at_call 53
  refine (HC.out _ ((New.refl w).alloc _)).mono ?_
  rintro e w2 ⟨rfl, hn2⟩
  have HN2 := Lib.hid (((New.refl w).alloc _).trans hn2)
  have hB : w2.heap[w.heap.size]? = some (.cells #[.int .i64 a, .int .i64 b, .int .i64 c] 66 (0, 0)) := (hn2.below.block _ (by simp)).trans (heap_alloc_new _ _)
  have d0 : w2.cell? ⟨w.heap.size, 0, none⟩ = some (.int .i64 a) := by simp [World.cell?, hB]
  have d1 : w2.cell? ⟨w.heap.size, 1, none⟩ = some (.int .i64 b) := by simp [World.cell?, hB]
  have d2 : w2.cell? ⟨w.heap.size, 2, none⟩ = some (.int .i64 c) := by simp [World.cell?, hB]
  clear hn2 hB
  by_cases hz : E = 0
  · subst hz
    go_wp2_with fail
    go_at_call 60
    refine (HI.out _).mono ?_
    rintro e w3 ⟨rfl, hn3⟩
    have HN3 := Lib.hid (HN2.out.trans hn3)
    clear hn3 d0 d1 d2
    cases q
    · have HF := Lib.hid (show (1 : Int) = R by rw [HR.out]; simp)
      go_wp2_with fail
      all_goals (go_ret; exact ⟨ret_int HF.out, HN3.out⟩)
    · have HF := Lib.hid (show (0 : Int) = R by rw [HR.out]; simp)
      go_wp2_with fail
      all_goals (go_ret; exact ⟨ret_int HF.out, HN3.out⟩)
  · have HF := Lib.hid (show E = R by rw [HR.out, if_pos hz])
    go_wp2_with fail
    all_goals (go_ret; exact ⟨ret_int HF.out, HN2.out⟩)

end Go.Proofs.Ytpjekinmcdglbaa
