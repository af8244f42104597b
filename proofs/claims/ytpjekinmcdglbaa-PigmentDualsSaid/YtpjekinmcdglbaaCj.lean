/- Price of the program. -/
import Derived.Test.YtpjekinmcdglbaaCi
set_option linter.unusedSimpArgs false
set_option linter.unusedVariables false
set_option maxRecDepth 100000
namespace Go.Proofs.Ytpjekinmcdglbaa
open Go.RowKit

def priA (T : List T5) (P : List (Int × Int)) (m n : Nat) : Int := if rcpE T P m = 0 then lowA (sumT P (tP T) n) (sumW P n) else 0
def priB (T : List T5) (P : List (Int × Int)) (m n : Nat) : Int := if rcpE T P m = 0 then lowB (sumT P (tP T) n) (sumW P n) else 0
theorem rcpE_zero {T : List T5} {P : List (Int × Int)} {m n : Nat} (hl : T.length = m) (hP : P.length = n) (h : rcpE T P m = 0) : (1 ≤ m ∧ m ≤ 12) ∧ tnOk T ∧ (1 ≤ n ∧ n ≤ 4) ∧ prOk P n m := by
  unfold rcpE at h
  split at h
  · rename_i h1; exact absurd h h1
  · rename_i h1
    split at h
    · rename_i h2
      have a := chkE_zero hl (by simpa using h1)
      have b := recB_true hP h2
      exact ⟨a.1, a.2, b.1, b.2⟩
    · cases h

set_option maxHeartbeats 8000000 in
theorem Price_c (tv pv : Option Addr) (m tc n pc : Nat) (T : List T5) (P : List (Int × Int)) (w : World) (hm : m ≤ 17592186044415) (hn : n ≤ 17592186044415) (hTl : T.length = m) (hT : 0 < m → ∃ b off, tv = some ⟨b, off, none⟩ ∧ Tnts w b off m T) (hP : P.length = n) (hp : 0 < n → ∃ b off, pv = some ⟨b, off, none⟩ ∧ Prts w b off n P) :
    Calls Try.prog 13 #[.slice tv m tc, .agg #[.slice pv n pc]] w fun en w' => en = .returned (.tuple #[fv (priA T P m n) (priB T P m n), .int .i64 (rcpE T P m)]) ∧ New w w' := by
  have HC := Lib.hid (fun (w1 : World) (h1 : New w w1) => checkRecipe_c tv pv m tc n pc T P w1 hm hn (fun h => by obtain ⟨b, o, e, h2⟩ := hT h; exact ⟨b, o, e, h2.new h1⟩) hP (fun h => by obtain ⟨b, o, e, h2⟩ := hp h; exact ⟨b, o, e, h2.new h1⟩))
  have HPR := Lib.hid (show rcpE T P m = 0 → ∀ (w1 : World) (h1 : New w w1), Calls Try.prog 35 #[.slice tv m tc, .agg #[.slice pv n pc]] w1 fun en w' => en = .returned (fv (priA T P m n) (priB T P m n)) ∧ New w1 w' from fun h w1 h1 => by
    obtain ⟨⟨a1, a2⟩, a3, ⟨a4, a5⟩, a6⟩ := rcpE_zero hTl hP h
    obtain ⟨b, off, rfl, hT1⟩ := hT (by omega)
    obtain ⟨pb, poff, rfl, hP1⟩ := hp (by omega)
    unfold priA priB
    rw [if_pos h, if_pos h]
    exact price_c b off m tc pb poff n pc T P w1 (hT1.new h1) (hP1.new h1) a6 a3 (by omega) a5 (by omega))
  have HA := Lib.hid (show rcpE T P m ≠ 0 → priA T P m n = 0 ∧ priB T P m n = 0 from fun h => by unfold priA priB; rw [if_neg h, if_neg h]; exact ⟨rfl, rfl⟩)
  clear hT hp hP hTl
  generalize priA T P m n = LA at *
  generalize priB T P m n = LB at *
  generalize rcpE T P m = R at *
  go_enter Try.func13, Try.ntmps13
  go_wp2_with fail
  go_at_call 28
  refine (HC.out _ (((New.refl w).alloc _).alloc _)).mono ?_
  rintro e w2 ⟨rfl, hn2⟩
  have HN2 := Lib.hid ((((New.refl w).alloc _).alloc _).trans hn2)
  have hB : w2.heap[w.heap.size]? = some (.cells #[.slice pv n pc] 25 (0, 0)) := (hn2.below.block _ (by simp; omega)).trans ((Below.heap_alloc _ _ _ (by simp)).trans (heap_alloc_new _ _))
  have hB2 : w2.heap[w.heap.size + 1]? = some (.cells #[.int .i64 0, .int .i64 0] 29 (0, 0)) := (hn2.below.block _ (by simp)).trans (alloc2_new rfl)
  have d0 : w2.cell? ⟨w.heap.size, 0, none⟩ = some (.slice pv n pc) := by simp [World.cell?, hB]
  have HB2 := Lib.hid hB2
  have e0 : w2.cell? ⟨w.heap.size + 1, 0, none⟩ = some (.int .i64 0) := by simp [World.cell?, hB2]
  have e1 : w2.cell? ⟨w.heap.size + 1, 1, none⟩ = some (.int .i64 0) := by simp [World.cell?, hB2]
  have f0 := frozen5 hB2
  clear hn2 hB hB2
  by_cases hz : R = 0
  · subst hz
    clear e0 e1 f0
    go_wp2_with fail
    go_at_call 35
    refine (HPR.out (by simp) _ HN2.out).mono ?_
    rintro e w3 ⟨rfl, hn3⟩
    have HN3 := Lib.hid (HN2.out.trans hn3)
    have hB3 := (hn3.below.block _ (Array.getElem?_eq_some_iff.1 HB2.out).1).trans HB2.out
    have e0 : w3.cell? ⟨w.heap.size + 1, 0, none⟩ = some (.int .i64 0) := by simp [World.cell?, hB3]
    have e1 : w3.cell? ⟨w.heap.size + 1, 1, none⟩ = some (.int .i64 0) := by simp [World.cell?, hB3]
    have f0 := frozen5 hB3
    clear hn3 hB3 d0
    go_wp2_with fail
    have HNF := Lib.hid (show New w ((w3.setCell ⟨w.heap.size + 1, 0, none⟩ (.int .i64 LA)).setCell ⟨w.heap.size + 1, 1, none⟩ (.int .i64 LB)) from
      ((HN3.out).setCell (by show w.heap.size ≤ w.heap.size + 1; omega) _).setCell (by show w.heap.size ≤ w.heap.size + 1; omega) _)
    exact bodyPost_ret (v := .tuple #[fv LA LB, .int .i64 0]) (by simp [results, Try.results13, go_sem, e0, e1]) rfl ⟨rfl, HNF.out⟩
  · obtain ⟨h1, h2⟩ := HA.out hz
    subst h1 h2
    go_wp2_with fail
    have HNF := Lib.hid (show New w ((w2.setCell ⟨w.heap.size + 1, 0, none⟩ (.int .i64 0)).setCell ⟨w.heap.size + 1, 1, none⟩ (.int .i64 0)) from
      ((HN2.out).setCell (by show w.heap.size ≤ w.heap.size + 1; omega) _).setCell (by show w.heap.size ≤ w.heap.size + 1; omega) _)
    exact bodyPost_ret (v := .tuple #[fv 0 0, .int .i64 R]) (by simp [results, Try.results13, go_sem, e0, e1]) rfl ⟨rfl, HNF.out⟩

end Go.Proofs.Ytpjekinmcdglbaa
