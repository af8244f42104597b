/- The law PigmentPlanes. -/
import Derived.Test.YtpjekinmcdglbaaCz
import Derived.Test.YtpjekinmcdglbaaMa
import Derived.Test.YtpjekinmcdglbaaEc
import Derived.Test.YtpjekinmcdglbaaEf
set_option linter.unusedSimpArgs false
set_option linter.unusedVariables false
set_option maxRecDepth 100000
namespace Go.Proofs.Ytpjekinmcdglbaa
open Go.RowKit

/-- what Reach returns where a plane lies between -/
def RnR (w : World) (en : Ending) (w' : World) : Prop := en = .returned (.tuple #[.agg #[.slice none 0 0], .bool false, .int .i64 0]) ∧ New w w'
theorem reach_none (tv : Option Addr) (m tc : Nat) (T : List T5) (a b c N0 N1 N2 C : Int) (w : World) (hm : m ≤ 1000) (hTl : T.length = m) (hT : 0 < m → ∃ b off, tv = some ⟨b, off, none⟩ ∧ Tnts w b off m T) (hz : wntE T a b c m = 0) (hb : btB T m N0 N1 N2 C a b c = true) :
    Calls Try.prog 15 #[.slice tv m tc, vv a b c] w (RnR w) := by
  obtain ⟨htn, ha, hbb, hc⟩ := wntE_zero hTl hz
  obtain ⟨hchk, _⟩ := wntE_zero' hz
  have h1 := (chkE_zero hTl hchk).1
  obtain ⟨tb, off, rfl, hTn⟩ := hT (by omega)
  have hL : rcpL T m a b c = [] := by
    unfold btB at hb
    simp only [Bool.and_eq_true, decide_eq_true_eq] at hb
    refine plane_none (tn_sh htn) ha hbb hc (fun p hp => ?_) hb.2.2
    have := List.all_eq_true.1 hb.2.1 p (by simpa using hp)
    unfold sdB at this
    simpa using this
  refine (reach_ok tb off m tc a b c T w hTn (tn_sh htn) hm (by omega) (by omega) (by omega) (fun w1 hw1 => ?_)).mono ?_
  · have := checkWanted_c (some ⟨tb, off, none⟩) m tc T a b c w1 (by omega) (fun _ => ⟨tb, off, rfl, hTn.new hw1⟩)
    rw [hz] at this
    exact this
  · rintro en w' ⟨hn, h | ⟨x, rest, sv, h, _⟩⟩
    · exact ⟨h.2, hn⟩
    · rw [hL] at h; cases h

set_option maxHeartbeats 16000000 in
theorem planes_c (tv : Option Addr) (m tc : Nat) (T : List T5) (a b c N0 N1 N2 C : Int) (w : World) (hm : m ≤ 9223372036854775807) (hTl : T.length = m) (hT : 0 < m → ∃ b off, tv = some ⟨b, off, none⟩ ∧ Tnts w b off m T) :
    Calls Try.prog 5 #[.slice tv m tc, vv a b c, plV N0 N1 N2 C] w fun en w' => en = .returned (.bool true) ∧ New w w' := by
  have HFI := Lib.hid (fun (w1 : World) (h1 : New w w1) => fine_c tv m tc 14 T w1 hm (fun h => by obtain ⟨b, o, e, h2⟩ := hT h; exact ⟨b, o, e, h2.new h1⟩))
  have HA := Lib.hid (fun (h14 : m ≤ 14) (w1 : World) (h1 : New w w1) => checkPlane_c tv m tc T a b c N0 N1 N2 C w1 (by omega) hTl (fun h => by obtain ⟨b, o, e, h2⟩ := hT h; exact ⟨b, o, e, h2.new h1⟩))
  have HB := Lib.hid (fun (h14 : m ≤ 14) (w1 : World) (h1 : New w w1) => ref_checkPlane tv m tc T a b c N0 N1 N2 C w1 (by omega) hTl (fun h => by obtain ⟨b, o, e, h2⟩ := hT h; exact ⟨b, o, e, h2.new h1⟩))
  have HRN := Lib.hid (fun (h14 : m ≤ 14) (hv : (decide (wntE T a b c m = 0) && btB T m N0 N1 N2 C a b c) = true) (w1 : World) (h1 : New w w1) => reach_none tv m tc T a b c N0 N1 N2 C w1 (by omega) hTl (fun h => by obtain ⟨b, o, e, h2⟩ := hT h; exact ⟨b, o, e, h2.new h1⟩) (by simp at hv; exact hv.1) (by simp at hv; exact hv.2))
  have HMX := Lib.hid (fun (w1 : World) => mixed_c w1)
  clear hT
  generalize (decide (wntE T a b c m = 0) && btB T m N0 N1 N2 C a b c) = V at *
  have HLE := Lib.hid (show fineB T m 14 = true → m ≤ 14 from fun h => by have := fine_le h; omega)
  generalize fineB T m 14 = fb at *
  go_enter Try.func5, Try.ntmps5
  go_wp2_with fail
  go_at_call 9
  refine (HFI.out _ (((New.refl w).alloc _).alloc _)).mono ?_
  rintro e w1 ⟨rfl, hn1⟩
  have hP0 : ((w.alloc (.cells #[.int .i64 a, .int .i64 b, .int .i64 c] 37)).alloc (.cells #[.int .i64 N0, .int .i64 N1, .int .i64 N2, .int .i64 C] 41)).heap[w.heap.size + 1]? = some (.cells #[.int .i64 N0, .int .i64 N1, .int .i64 N2, .int .i64 C] 41 (0, 0)) := alloc2_new rfl
  have HW1 := Lib.hid (show RpW w w1 a b c N0 N1 N2 C from ⟨(((New.refl w).alloc _).alloc _).trans hn1, (hn1.below.block _ (by simp <;> omega)).trans ((Below.heap_alloc _ _ _ (by simp)).trans (heap_alloc_new _ _)), (hn1.below.block _ (Array.getElem?_eq_some_iff.1 hP0).1).trans hP0⟩)
  clear hn1 hP0
  cases fb
  · go_wp2_with fail
    go_at_call 10
    refine (HMX.out _).mono ?_
    rintro e w2 ⟨rfl, hn2⟩
    have HN2 := Lib.hid (HW1.out.1.trans hn2)
    clear hn2
    go_wp2_with fail
    all_goals (go_ret; exact ⟨rfl, HN2.out⟩)
  · obtain ⟨k1, k2, k3, k4⟩ := cell_pl HW1.out.2.2
    obtain ⟨k5, k6, k7⟩ := cell_v3 HW1.out.2.1
    have h14 := HLE.out rfl
    go_wp2_with fail
    go_at_call 19
    refine (HA.out h14 _ HW1.out.1).mono ?_
    rintro e w2 ⟨rfl, hn2⟩
    have HW2 := Lib.hid (HW1.out.keep hn2)
    clear hn2 k1 k2 k3 k4 k5 k6 k7
    obtain ⟨k1, k2, k3, k4⟩ := cell_pl HW2.out.2.2
    obtain ⟨k5, k6, k7⟩ := cell_v3 HW2.out.2.1
    go_wp2_with fail
    go_at_call 20
    refine (HB.out h14 _ HW2.out.1).mono ?_
    rintro e w3 ⟨rfl, hn3⟩
    have HW3 := Lib.hid (HW2.out.keep hn3)
    clear hn3 k1 k2 k3 k4 k5 k6 k7
    obtain ⟨k5, k6, k7⟩ := cell_v3 HW3.out.2.1
    cases V
    · go_wp2_with fail
      go_at_call 10
      refine (HMX.out _).mono ?_
      rintro e w4 ⟨rfl, hn4⟩
      have HN4 := Lib.hid (HW3.out.1.trans hn4)
      clear hn4
      go_wp2_with fail
      all_goals (go_ret; exact ⟨rfl, HN4.out⟩)
    · by_cases h7 : (m : Int) ≤ 7
      · go_wp2_with fail
        go_at_call 15
        refine (HRN.out h14 trivial _ HW3.out.1).mono ?_
        rintro e w4 ⟨rfl, hn4⟩
        have HN4 := Lib.hid (HW3.out.1.trans hn4)
        clear hn4 k5 k6 k7
        go_wp2_with fail
        go_at_call 10
        refine (HMX.out _).mono ?_
        rintro e w5 ⟨rfl, hn5⟩
        have HN5 := Lib.hid (HN4.out.trans (((New.refl _).alloc _).trans hn5))
        clear hn5
        go_wp2_with fail
        all_goals (go_ret; exact ⟨rfl, HN5.out⟩)
      · go_wp2_with fail
        go_at_call 10
        refine (HMX.out _).mono ?_
        rintro e w4 ⟨rfl, hn4⟩
        have HN4 := Lib.hid (HW3.out.1.trans hn4)
        clear hn4
        go_wp2_with fail
        all_goals (go_ret; exact ⟨rfl, HN4.out⟩)

end Go.Proofs.Ytpjekinmcdglbaa
