/- The price of a valid recipe: price. -/
import Derived.Test.YtpjekinmcdglbaaGf
set_option linter.unusedSimpArgs false
set_option linter.unusedVariables false
set_option maxRecDepth 100000
namespace Go.Proofs.Ytpjekinmcdglbaa
open Go.RowKit

theorem sumW_pos {P : List (Int × Int)} {n m : Nat} (hok : prOk P n m) (hn : 0 < n) : 1 ≤ sumW P n := by
  obtain ⟨k, rfl⟩ : ∃ k, n = k + 1 := ⟨n - 1, by omega⟩
  have h1 := sumW_bd (P := P) (k := k) (fun i hi => (hok i (by omega)).1)
  have h2 := (hok k (by omega)).1
  simp only [sumW]; omega

set_option maxHeartbeats 8000000 in
theorem price_c (b off m tc pb poff n pc : Nat) (T : List T5) (P : List (Int × Int)) (w : World) (hT : Tnts w b off m T) (hP : Prts w pb poff n P) (hok : prOk P n m) (htn : tnOk T) (hn0 : 0 < n) (hn : n ≤ 4) (hm : m ≤ 1000) :
    Calls Try.prog 35 #[.slice (some ⟨b, off, none⟩) m tc, .agg #[.slice (some ⟨pb, poff, none⟩) n pc]] w fun en w' => en = .returned (fv (lowA (sumT P (tP T) n) (sumW P n)) (lowB (sumT P (tP T) n) (sumW P n))) ∧ New w w' := by
  have hwok : ∀ i, i < n → 1 ≤ pW P i ∧ pW P i ≤ 1000000000000 := fun i hi => (hok i hi).1
  have sP := sumT_bd (P := P) (f := tP T) (M := 10000) (by omega) (k := n) (fun i hi => ⟨hwok i hi, (htn _).2.2.1, (htn _).2.2.2⟩)
  have sW := sumW_bd (P := P) (k := n) hwok
  have sW1 := sumW_pos hok hn0
  have HFR := Lib.hid (fun w1 : World => fraction_c (sumT P (tP T) n) (sumW P n) w1 (by omega) (by omega))
  have HSU := Lib.hid (show ∀ w1, New w w1 → Calls Try.prog 29 #[.slice (some ⟨b, off, none⟩) m tc, .agg #[.slice (some ⟨pb, poff, none⟩) n pc]] w1 fun en w' =>
      en = .returned (.agg #[.int .i64 (sumW P n), .int .i64 (sumT P (tA T) n), .int .i64 (sumT P (tB T) n), .int .i64 (sumT P (tC T) n), .int .i64 (sumT P (tP T) n)]) ∧ New w1 w' from fun w1 h1 => sumsOf_c b off m tc pb poff n pc T P w1 (hT.new h1) (hP.new h1) hok htn hn hm)
  clear hT hP hok htn hwok sP sW sW1
  generalize sumW P n = S0 at *
  generalize sumT P (tA T) n = S1 at *
  generalize sumT P (tB T) n = S2 at *
  generalize sumT P (tC T) n = S3 at *
  generalize sumT P (tP T) n = S4 at *
  generalize lowA S4 S0 = LA at *
  generalize lowB S4 S0 = LB at *
  go_enter Try.func35, Try.ntmps35
  go_wp2_with fail
  go_at_call 29
  refine (HSU.out _ (((New.refl _).alloc _).alloc _)).mono ?_
  rintro e w1 ⟨rfl, hn1⟩
  have HN1 := Lib.hid ((((New.refl w).alloc _).alloc _).trans hn1)
  have hB : w1.heap[w.heap.size + 1]? = some (.cells #[.int .i64 0, .int .i64 0] 29 (0, 0)) := (hn1.below.block _ (by simp)).trans (alloc2_new rfl)
  have HB := Lib.hid hB
  clear hn1 hB
  go_wp2_with fail
  go_at_call 30
  refine (HFR.out _).mono ?_
  rintro e w2 ⟨rfl, hn2⟩
  have HN2 := Lib.hid (((New.refl w1).alloc _).trans hn2)
  have hB2 : w2.heap[w.heap.size + 1]? = some (.cells #[.int .i64 0, .int .i64 0] 29 (0, 0)) := (HN2.out.below.block _ (Array.getElem?_eq_some_iff.1 HB.out).1).trans HB.out
  have c0 : w2.cell? ⟨w.heap.size + 1, 0, none⟩ = some (.int .i64 0) := by simp [World.cell?, hB2]
  have c1 : w2.cell? ⟨w.heap.size + 1, 1, none⟩ = some (.int .i64 0) := by simp [World.cell?, hB2]
  have f0 := frozen5 hB2
  clear hn2 hB2
  go_wp2_with fail
  have HNF := Lib.hid (show New w ((w2.setCell ⟨w.heap.size + 1, 0, none⟩ (.int .i64 LA)).setCell ⟨w.heap.size + 1, 1, none⟩ (.int .i64 LB)) from
    ((HN1.out.trans HN2.out).setCell (by show w.heap.size ≤ w.heap.size + 1; omega) _).setCell (by show w.heap.size ≤ w.heap.size + 1; omega) _)
  exact bodyPost_ret (v := fv LA LB) (by simp [results, Try.results35, go_sem, c0, c1]) rfl ⟨rfl, HNF.out⟩

end Go.Proofs.Ytpjekinmcdglbaa
