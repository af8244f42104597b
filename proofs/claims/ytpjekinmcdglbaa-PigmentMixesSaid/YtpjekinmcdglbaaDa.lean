/- The law PigmentMixes. -/
import Derived.Test.YtpjekinmcdglbaaCz
set_option linter.unusedSimpArgs false
set_option linter.unusedVariables false
set_option maxRecDepth 100000
namespace Go.Proofs.Ytpjekinmcdglbaa
open Go.RowKit

theorem fine_len {T : List T5} {m : Nat} {lim : Int} (h : fineB T m lim = true) : (m : Int) ≤ lim := by
  simp [fineB] at h; exact h.1
set_option maxHeartbeats 16000000 in
theorem mixes_c (tv pv : Option Addr) (m tc n pc : Nat) (T : List T5) (P : List (Int × Int)) (w : World) (hm : m ≤ 9223372036854775807) (hn : n ≤ 9223372036854775807) (hTl : T.length = m) (hT : 0 < m → ∃ b off, tv = some ⟨b, off, none⟩ ∧ Tnts w b off m T) (hP : P.length = n) (hp : 0 < n → ∃ b off, pv = some ⟨b, off, none⟩ ∧ Prts w b off n P) :
    Calls Try.prog 3 #[.slice tv m tc, .agg #[.slice pv n pc]] w fun en w' => en = .returned (.bool true) ∧ New w w' := by
  have HFI := Lib.hid (fun (w1 : World) (h1 : New w w1) => fine_c tv m tc 14 T w1 hm (fun h => by obtain ⟨b, o, e, h2⟩ := hT h; exact ⟨b, o, e, h2.new h1⟩))
  have HM := Lib.hid (fun (h14 : m ≤ 14) (h6 : n ≤ 6) (w1 : World) (h1 : New w w1) => Mix_c tv pv m tc n pc T P w1 (by omega) (by omega) hTl (fun h => by obtain ⟨b, o, e, h2⟩ := hT h; exact ⟨b, o, e, h2.new h1⟩) hP (fun h => by obtain ⟨b, o, e, h2⟩ := hp h; exact ⟨b, o, e, h2.new h1⟩))
  have HPr := Lib.hid (fun (h14 : m ≤ 14) (h6 : n ≤ 6) (w1 : World) (h1 : New w w1) => Price_c tv pv m tc n pc T P w1 (by omega) (by omega) hTl (fun h => by obtain ⟨b, o, e, h2⟩ := hT h; exact ⟨b, o, e, h2.new h1⟩) hP (fun h => by obtain ⟨b, o, e, h2⟩ := hp h; exact ⟨b, o, e, h2.new h1⟩))
  have HC := Lib.hid (fun (h14 : m ≤ 14) (h6 : n ≤ 6) (w1 : World) (h1 : New w w1) => prC_of tv pv m tc n pc T P w1 (by omega) (by omega) hTl (fun h => by obtain ⟨b, o, e, h2⟩ := hT h; exact ⟨b, o, e, h2.new h1⟩) hP (fun h => by obtain ⟨b, o, e, h2⟩ := hp h; exact ⟨b, o, e, h2.new h1⟩))
  have HRM := Lib.hid (fun (h14 : m ≤ 14) (h6 : n ≤ 6) (w1 : World) (h1 : New w w1) => ref_Mix tv pv m tc n pc T P w1 (HC.out h14 h6 w1 h1))
  have HRP := Lib.hid (fun (h14 : m ≤ 14) (h6 : n ≤ 6) (w1 : World) (h1 : New w w1) => ref_Price tv pv m tc n pc T P w1 (HC.out h14 h6 w1 h1))
  have HMV := Lib.hid (show mixV T P m n = .agg (arr6 (mixQ T P m n (tA T)) (mixR T P m n (tA T)) (mixQ T P m n (tB T)) (mixR T P m n (tB T)) (mixQ T P m n (tC T)) (mixR T P m n (tC T))) from rfl)
  rw [HMV.out] at HM HRM
  have HMX := Lib.hid (fun (w1 : World) => mixed_c w1)
  clear hT hp HC HMV
  generalize mixQ T P m n (tA T) = Q1 at *
  generalize mixR T P m n (tA T) = R1 at *
  generalize mixQ T P m n (tB T) = Q2 at *
  generalize mixR T P m n (tB T) = R2 at *
  generalize mixQ T P m n (tC T) = Q3 at *
  generalize mixR T P m n (tC T) = R3 at *
  generalize priA T P m n = LA at *
  generalize priB T P m n = LB at *
  generalize rcpE T P m = E at *
  have HLE := Lib.hid (show fineB T m 14 = true → m ≤ 14 from fun h => by have := fine_len h; omega)
  generalize fineB T m 14 = fb at *
  go_enter Try.func3, Try.ntmps3
  go_wp2_with fail
  go_at_call 9
  refine (HFI.out _ ((New.refl w).alloc _)).mono ?_
  rintro e w1 ⟨rfl, hn1⟩
  have HN1 := Lib.hid (((New.refl w).alloc _).trans hn1)
  have hB : w1.heap[w.heap.size]? = some (.cells #[.slice pv n pc] 25 (0, 0)) := (hn1.below.block _ (by simp)).trans (heap_alloc_new _ _)
  have HB := Lib.hid hB
  have b0 := (box_cell hB).1
  clear hn1 hB
  cases fb
  · go_wp2_with fail
    go_at_call 10
    refine (HMX.out _).mono ?_
    rintro e w2 ⟨rfl, hn2⟩
    have HN2 := Lib.hid (HN1.out.trans hn2)
    clear hn2
    go_wp2_with fail
    all_goals (go_ret; exact ⟨rfl, HN2.out⟩)
  · by_cases h6 : (6 : Int) < (n : Int)
    · go_wp2_with fail
      go_at_call 10
      refine (HMX.out _).mono ?_
      rintro e w2 ⟨rfl, hn2⟩
      have HN2 := Lib.hid (HN1.out.trans hn2)
      clear hn2
      go_wp2_with fail
      all_goals (go_ret; exact ⟨rfl, HN2.out⟩)
    · go_wp2_with fail
      go_at_call 11
      refine (HM.out (HLE.out (by simp)) (by omega) _ HN1.out).mono ?_
      rintro e w2 ⟨rfl, hn2⟩
      have HN2 := Lib.hid (hn2.alloc (.cells (arr6 Q1 R1 Q2 R2 Q3 R3) 30))
      have HX1 := Lib.hid (show (w2.alloc (.cells (arr6 Q1 R1 Q2 R2 Q3 R3) 30)).heap[w2.heap.size]? = some (.cells (arr6 Q1 R1 Q2 R2 Q3 R3) 30 (0, 0)) from heap_alloc_new _ _)
      have b1 := (HN2.out.cell (o := 0) (Array.getElem?_eq_some_iff.1 HB.out).1).trans b0
      clear hn2
      unfold arr6
      unfold arr6 at b1
      go_wp2_with fail
      go_at_call 12
      refine (HRM.out (HLE.out (by simp)) (by omega) _ (HN1.out.trans HN2.out)).mono ?_
      rintro e w3 ⟨rfl, hn3⟩
      have HN3 := Lib.hid (hn3.alloc (.cells (arr6 Q1 R1 Q2 R2 Q3 R3) 30))
      have HX2 := Lib.hid (show (w3.alloc (.cells (arr6 Q1 R1 Q2 R2 Q3 R3) 30)).heap[w3.heap.size]? = some (.cells (arr6 Q1 R1 Q2 R2 Q3 R3) 30 (0, 0)) from heap_alloc_new _ _)
      have b2 := ((HN2.out.trans HN3.out).cell (o := 0) (Array.getElem?_eq_some_iff.1 HB.out).1).trans b0
      clear hn3 b1
      unfold arr6
      unfold arr6 at b2
      go_wp2_with fail
      go_at_call 13
      refine (HPr.out (HLE.out (by simp)) (by omega) _ (HN1.out.trans (HN2.out.trans HN3.out))).mono ?_
      rintro e w4 ⟨rfl, hn4⟩
      have HN4 := Lib.hid (hn4.alloc (.cells #[.int .i64 LA, .int .i64 LB] 29))
      have HX3 := Lib.hid (show (w4.alloc (.cells #[.int .i64 LA, .int .i64 LB] 29)).heap[w4.heap.size]? = some (.cells #[.int .i64 LA, .int .i64 LB] 29 (0, 0)) from heap_alloc_new _ _)
      have b3 := ((HN2.out.trans (HN3.out.trans HN4.out)).cell (o := 0) (Array.getElem?_eq_some_iff.1 HB.out).1).trans b0
      clear hn4 b2
      go_wp2_with fail
      go_at_call 14
      refine (HRP.out (HLE.out (by simp)) (by omega) _ (HN1.out.trans (HN2.out.trans (HN3.out.trans HN4.out)))).mono ?_
      rintro e w5 ⟨rfl, hn5⟩
      have HN5 := Lib.hid (hn5.alloc (.cells #[.int .i64 LA, .int .i64 LB] 29))
      have HX4 := Lib.hid (show (w5.alloc (.cells #[.int .i64 LA, .int .i64 LB] 29)).heap[w5.heap.size]? = some (.cells #[.int .i64 LA, .int .i64 LB] 29 (0, 0)) from heap_alloc_new _ _)
      clear hn5 b3 b0
      go_wp2_with fail
      go_at_call 10
      refine (HMX.out _).mono ?_
      rintro e w6 ⟨rfl, hn6⟩
      have y1 := ((HN3.out.trans (HN4.out.trans (HN5.out.trans hn6))).below.block _ (Array.getElem?_eq_some_iff.1 HX1.out).1).trans HX1.out
      have y2 := ((HN4.out.trans (HN5.out.trans hn6)).below.block _ (Array.getElem?_eq_some_iff.1 HX2.out).1).trans HX2.out
      have y3 := ((HN5.out.trans hn6).below.block _ (Array.getElem?_eq_some_iff.1 HX3.out).1).trans HX3.out
      have y4 := (hn6.below.block _ (Array.getElem?_eq_some_iff.1 HX4.out).1).trans HX4.out
      obtain ⟨⟨s0, s1, s2⟩, s3, s4, s5⟩ := arr6_cells y1
      obtain ⟨⟨t0, t1, t2⟩, t3, t4, t5⟩ := arr6_cells y2
      have p0 : w6.cell? ⟨w4.heap.size, 0, none⟩ = some (.int .i64 LA) := by simp [World.cell?, y3]
      have p1 : w6.cell? ⟨w4.heap.size, 1, none⟩ = some (.int .i64 LB) := by simp [World.cell?, y3]
      have q0 : w6.cell? ⟨w5.heap.size, 0, none⟩ = some (.int .i64 LA) := by simp [World.cell?, y4]
      have q1 : w6.cell? ⟨w5.heap.size, 1, none⟩ = some (.int .i64 LB) := by simp [World.cell?, y4]
      have HNF := Lib.hid (HN1.out.trans (HN2.out.trans (HN3.out.trans (HN4.out.trans (HN5.out.trans hn6)))))
      have r1 := eql_fr3 Q1 R1 Q2 R2 Q3 R3
      have r2 := eql_frac LA LB LA LB
      have r3 : (LA == LA && LB == LB) = true := by simp
      rw [r3] at r2
      clear y1 y2 y3 y4 hn6 r3
      go_wp2_with fail
      all_goals (go_ret; first | exact ⟨rfl, HNF.out⟩ | exact ⟨ret_bool (by simp), HNF.out⟩)

end Go.Proofs.Ytpjekinmcdglbaa
