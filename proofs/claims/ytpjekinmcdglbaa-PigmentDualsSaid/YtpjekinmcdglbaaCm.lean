/- Price of the reference. -/
import Derived.Test.YtpjekinmcdglbaaCl
set_option linter.unusedSimpArgs false
set_option linter.unusedVariables false
set_option maxRecDepth 100000
namespace Go.Proofs.Ytpjekinmcdglbaa
open Go.RowKit

/-- what the reference's Price and Mix ask of what they call -/
structure PrC (w : World) (tv pv : Option Addr) (m tc n pc : Nat) (T : List T5) (P : List (Int × Int)) : Prop where
  t : ∀ w1, New w w1 → Calls Try.prog 31 #[.slice tv m tc] w1 fun en w' => en = .returned (.int .i64 (chkE T m)) ∧ New w1 w'
  v : ∀ w1, New w w1 → Calls Try.prog 32 #[.slice tv m tc, .agg #[.slice pv n pc]] w1 fun en w' => en = .returned (.bool (recB P m)) ∧ New w1 w'
  s : rcpE T P m = 0 → ∀ w1, New w w1 → Calls Try.prog 33 #[.slice tv m tc, .agg #[.slice pv n pc]] w1 fun en w' =>
      en = .returned (.tuple #[.int .i64 (sumW P n), vv (sumT P (tA T) n) (sumT P (tB T) n) (sumT P (tC T) n), .int .i64 (sumT P (tP T) n)]) ∧ New w1 w'
  r : rcpE T P m = 0 → ∀ f, (f = tA T ∨ f = tB T ∨ f = tC T ∨ f = tP T) → ∀ w1 : World, Calls Try.prog 34 #[.int .i64 (sumT P f n), .int .i64 (sumW P n)] w1 fun en w' => en = .returned (fv (mixQ T P m n f) (mixR T P m n f)) ∧ New w1 w'
theorem prC_of (tv pv : Option Addr) (m tc n pc : Nat) (T : List T5) (P : List (Int × Int)) (w : World) (hm : m ≤ 17592186044415) (hn : n ≤ 17592186044415) (hTl : T.length = m) (hT : 0 < m → ∃ b off, tv = some ⟨b, off, none⟩ ∧ Tnts w b off m T) (hP : P.length = n) (hp : 0 < n → ∃ b off, pv = some ⟨b, off, none⟩ ∧ Prts w b off n P) : PrC w tv pv m tc n pc T P := by
  refine ⟨fun w1 h1 => ref_tints tv m tc T w1 hm (fun h => by obtain ⟨b, o, e, h2⟩ := hT h; exact ⟨b, o, e, h2.new h1⟩), fun w1 h1 => validRecipe_c tv pv m tc n pc P w1 hm hn hP (fun h => by obtain ⟨b, o, e, h2⟩ := hp h; exact ⟨b, o, e, h2.new h1⟩), fun h w1 h1 => ?_, fun h f hf w1 => ?_⟩
  · obtain ⟨⟨a1, a2⟩, a3, ⟨a4, a5⟩, a6⟩ := rcpE_zero hTl hP h
    obtain ⟨b, off, rfl, hT1⟩ := hT (by omega)
    obtain ⟨pb, poff, rfl, hP1⟩ := hp (by omega)
    exact ref_sums b off m tc pb poff n pc T P w1 (hT1.new h1) (hP1.new h1) a6 a3 a5 (by omega)
  · have := mixN_of hTl hP h
    unfold mixQ mixR
    rw [if_pos h, if_pos h]
    exact ratio_c _ _ w1 (this.2 f hf) this.1
theorem rcpE_of (T : List T5) (P : List (Int × Int)) (m : Nat) : rcpE T P m = if chkE T m ≠ 0 then chkE T m else if recB P m = true then 0 else 1 := rfl

set_option maxHeartbeats 16000000 in
theorem ref_Price (tv pv : Option Addr) (m tc n pc : Nat) (T : List T5) (P : List (Int × Int)) (w : World) (hc : PrC w tv pv m tc n pc T P) :
    Calls Try.prog 14 #[.slice tv m tc, .agg #[.slice pv n pc]] w fun en w' => en = .returned (.tuple #[fv (priA T P m n) (priB T P m n), .int .i64 (rcpE T P m)]) ∧ New w w' := by
  have HC := Lib.hid hc.t
  have HV := Lib.hid hc.v
  have HSU := Lib.hid hc.s
  have HR := Lib.hid (rcpE_of T P m)
  have HRT := Lib.hid (show rcpE T P m = 0 → ∀ w1 : World, Calls Try.prog 34 #[.int .i64 (sumT P (tP T) n), .int .i64 (sumW P n)] w1 fun en w' => en = .returned (fv (priA T P m n) (priB T P m n)) ∧ New w1 w' from fun h w1 => hc.r h (tP T) (.inr (.inr (.inr rfl))) w1)
  have HA := Lib.hid (show rcpE T P m ≠ 0 → priA T P m n = 0 ∧ priB T P m n = 0 from fun h => by unfold priA priB; rw [if_neg h, if_neg h]; exact ⟨rfl, rfl⟩)
  clear hc
  generalize priA T P m n = LA at *
  generalize priB T P m n = LB at *
  generalize rcpE T P m = R at *
  generalize chkE T m = E at *
  generalize recB P m = q at *
  generalize sumW P n = S0 at *
  generalize sumT P (tA T) n = S1 at *
  generalize sumT P (tB T) n = S2 at *
  generalize sumT P (tC T) n = S3 at *
  generalize sumT P (tP T) n = S4 at *
  go_enter Try.func14, Try.ntmps14
  go_wp2_with fail
  go_at_call 31
  refine (HC.out _ (((New.refl w).alloc _).alloc _)).mono ?_
  rintro e w2 ⟨rfl, hn2⟩
  have HN2 := Lib.hid ((((New.refl w).alloc _).alloc _).trans hn2)
  have hB : w2.heap[w.heap.size]? = some (.cells #[.slice pv n pc] 25 (0, 0)) := (hn2.below.block _ (by simp; omega)).trans ((Below.heap_alloc _ _ _ (by simp)).trans (heap_alloc_new _ _))
  have hB2 : w2.heap[w.heap.size + 1]? = some (.cells #[.int .i64 0, .int .i64 0] 29 (0, 0)) := (hn2.below.block _ (by simp)).trans (alloc2_new rfl)
  have d0 : w2.cell? ⟨w.heap.size, 0, none⟩ = some (.slice pv n pc) := by simp [World.cell?, hB]
  have HB := Lib.hid hB
  have HB2 := Lib.hid hB2
  have e0 : w2.cell? ⟨w.heap.size + 1, 0, none⟩ = some (.int .i64 0) := by simp [World.cell?, hB2]
  have e1 : w2.cell? ⟨w.heap.size + 1, 1, none⟩ = some (.int .i64 0) := by simp [World.cell?, hB2]
  have f0 := frozen5 hB2
  clear hn2 hB hB2
  by_cases hz : E = 0
  · subst hz
    clear e0 e1 f0
    go_wp2_with fail
    go_at_call 32
    refine (HV.out _ HN2.out).mono ?_
    rintro e w3 ⟨rfl, hn3⟩
    have HN3 := Lib.hid (HN2.out.trans hn3)
    have hB3 := (hn3.below.block _ (Array.getElem?_eq_some_iff.1 HB2.out).1).trans HB2.out
    have hA3 := (hn3.below.block _ (Array.getElem?_eq_some_iff.1 HB.out).1).trans HB.out
    have d1 : w3.cell? ⟨w.heap.size, 0, none⟩ = some (.slice pv n pc) := by simp [World.cell?, hA3]
    have e0 : w3.cell? ⟨w.heap.size + 1, 0, none⟩ = some (.int .i64 0) := by simp [World.cell?, hB3]
    have e1 : w3.cell? ⟨w.heap.size + 1, 1, none⟩ = some (.int .i64 0) := by simp [World.cell?, hB3]
    have f0 := frozen5 hB3
    have HB3 := Lib.hid hB3
    clear hn3 hB3 hA3 d0
    cases q
    · have hR : R = 1 := by rw [HR.out]; simp
      obtain ⟨h1, h2⟩ := HA.out (by omega)
      subst h1 h2 hR
      go_wp2_with fail
      have HNF := Lib.hid (show New w ((w3.setCell ⟨w.heap.size + 1, 0, none⟩ (.int .i64 0)).setCell ⟨w.heap.size + 1, 1, none⟩ (.int .i64 0)) from
        ((HN3.out).setCell (by show w.heap.size ≤ w.heap.size + 1; omega) _).setCell (by show w.heap.size ≤ w.heap.size + 1; omega) _)
      exact bodyPost_ret (v := .tuple #[fv 0 0, .int .i64 1]) (by simp [results, Try.results14, go_sem, e0, e1]) rfl ⟨rfl, HNF.out⟩
    · have hR : R = 0 := by rw [HR.out]; simp
      have HSU1 := Lib.hid (HSU.out hR)
      have HRT1 := Lib.hid (HRT.out hR)
      clear HSU HRT HA HR
      subst hR
      clear e0 e1 f0
      go_wp2_with fail
      go_at_call 33
      refine (HSU1.out _ HN3.out).mono ?_
      rintro e w4 ⟨rfl, hn4⟩
      have HN4 := Lib.hid (HN3.out.trans hn4)
      have HB4 := Lib.hid ((hn4.below.block _ (Array.getElem?_eq_some_iff.1 HB3.out).1).trans HB3.out)
      clear hn4 d1
      go_wp2_with fail
      go_at_call 34
      refine (HRT1.out _).mono ?_
      rintro e w5 ⟨rfl, hn5⟩
      have hn45 := (show New w4 _ from (New.refl w4).alloc _).trans hn5
      have HN5 := Lib.hid (HN4.out.trans hn45)
      have hB5 := (hn45.below.block _ (Array.getElem?_eq_some_iff.1 HB4.out).1).trans HB4.out
      have e0 : w5.cell? ⟨w.heap.size + 1, 0, none⟩ = some (.int .i64 0) := by simp [World.cell?, hB5]
      have e1 : w5.cell? ⟨w.heap.size + 1, 1, none⟩ = some (.int .i64 0) := by simp [World.cell?, hB5]
      have f0 := frozen5 hB5
      clear hn5 hn45 hB5
      go_wp2_with fail
      have HNF := Lib.hid (show New w ((w5.setCell ⟨w.heap.size + 1, 0, none⟩ (.int .i64 LA)).setCell ⟨w.heap.size + 1, 1, none⟩ (.int .i64 LB)) from
        ((HN5.out).setCell (by show w.heap.size ≤ w.heap.size + 1; omega) _).setCell (by show w.heap.size ≤ w.heap.size + 1; omega) _)
      exact bodyPost_ret (v := .tuple #[fv LA LB, .int .i64 0]) (by simp [results, Try.results14, go_sem, e0, e1]) rfl ⟨rfl, HNF.out⟩
  · have hR : R = E := by rw [HR.out, if_pos hz]
    obtain ⟨h1, h2⟩ := HA.out (by rw [hR]; exact hz)
    subst h1 h2 hR
    go_wp2_with fail
    have HNF := Lib.hid (show New w ((w2.setCell ⟨w.heap.size + 1, 0, none⟩ (.int .i64 0)).setCell ⟨w.heap.size + 1, 1, none⟩ (.int .i64 0)) from
      ((HN2.out).setCell (by show w.heap.size ≤ w.heap.size + 1; omega) _).setCell (by show w.heap.size ≤ w.heap.size + 1; omega) _)
    exact bodyPost_ret (v := .tuple #[fv 0 0, .int .i64 R]) (by simp [results, Try.results14, go_sem, e0, e1]) rfl ⟨rfl, HNF.out⟩

end Go.Proofs.Ytpjekinmcdglbaa
