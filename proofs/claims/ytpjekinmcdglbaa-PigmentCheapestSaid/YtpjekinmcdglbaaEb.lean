/- isBetween and CheckPlane of the program. At most 1000 tints. -/
import Derived.Test.YtpjekinmcdglbaaEa
import Derived.Test.YtpjekinmcdglbaaCj
set_option linter.unusedSimpArgs false
set_option linter.unusedVariables false
set_option maxRecDepth 100000
namespace Go.Proofs.Ytpjekinmcdglbaa
open Go.RowKit

def pcB (C : Int) : Bool := decide (-10000000000000000 ≤ C) && decide (C ≤ 10000000000000000)
/-- the plane has the tints on one side, the shade on the other -/
def btB (T : List T5) (m : Nat) (N0 N1 N2 C a b c : Int) : Bool := (pnB3 N0 N1 N2 && pcB C) && ((List.range m).all (sdB T N0 N1 N2 C) && decide (C < N0 * a + N1 * b + N2 * c))
theorem pnB3_iff {a b c : Int} (h : pnB3 a b c = true) : (-1000000000000 ≤ a ∧ a ≤ 1000000000000) ∧ (-1000000000000 ≤ b ∧ b ≤ 1000000000000) ∧ (-1000000000000 ≤ c ∧ c ≤ 1000000000000) := by
  simp [pnB3, pnB] at h; omega
theorem wntE_zero {T : List T5} {a b c : Int} {m : Nat} (hl : T.length = m) (h : wntE T a b c m = 0) : tnOk T ∧ (0 ≤ a ∧ a ≤ 1000) ∧ (0 ≤ b ∧ b ≤ 1000) ∧ (0 ≤ c ∧ c ≤ 1000) := by
  unfold wntE at h
  split at h
  · rename_i h1; exact absurd h h1
  · rename_i h1
    have h1 : chkE T m = 0 := by omega
    split at h
    · rename_i h2
      refine ⟨(chkE_zero hl h1).2, ?_⟩
      simp [shB, shB1] at h2; omega
    · cases h
theorem wntE_zero' {T : List T5} {a b c : Int} {m : Nat} (h : wntE T a b c m = 0) : chkE T m = 0 ∧ shB a b c = true := by
  unfold wntE at h
  split at h
  · rename_i h1; exact absurd h h1
  · rename_i h1
    have h1 : chkE T m = 0 := by omega
    split at h
    · rename_i h2; exact ⟨h1, h2⟩
    · cases h
abbrev plV (N0 N1 N2 C : Int) : Value := .agg #[.int .i64 N0, .int .i64 N1, .int .i64 N2, .int .i64 C]
theorem cell_pl {W : World} {g : Nat} {a b c d : Int} {t : TypeId} {fr : Nat × Nat} (h : W.heap[g]? = some (.cells #[.int .i64 a, .int .i64 b, .int .i64 c, .int .i64 d] t fr)) : W.cell? ⟨g, 0, none⟩ = some (.int .i64 a) ∧ W.cell? ⟨g, 1, none⟩ = some (.int .i64 b) ∧ W.cell? ⟨g, 2, none⟩ = some (.int .i64 c) ∧ W.cell? ⟨g, 3, none⟩ = some (.int .i64 d) := by
  simp [World.cell?, h]
theorem cell_v3 {W : World} {g : Nat} {a b c : Int} {t : TypeId} {fr : Nat × Nat} (h : W.heap[g]? = some (.cells #[.int .i64 a, .int .i64 b, .int .i64 c] t fr)) : W.cell? ⟨g, 0, none⟩ = some (.int .i64 a) ∧ W.cell? ⟨g, 1, none⟩ = some (.int .i64 b) ∧ W.cell? ⟨g, 2, none⟩ = some (.int .i64 c) := by
  simp [World.cell?, h]
set_option maxHeartbeats 8000000 in
theorem isBetween_c (tv : Option Addr) (m tc : Nat) (T : List T5) (a b c N0 N1 N2 C : Int) (w : World) (hm : m ≤ 1000) (htn : tnOk T) (hT : 0 < m → ∃ b off, tv = some ⟨b, off, none⟩ ∧ Tnts w b off m T)
    (ha : 0 ≤ a ∧ a ≤ 1000) (hb : 0 ≤ b ∧ b ≤ 1000) (hc : 0 ≤ c ∧ c ≤ 1000) :
    Calls Try.prog 44 #[.slice tv m tc, vv a b c, plV N0 N1 N2 C] w fun en w' => en = .returned (.bool (btB T m N0 N1 N2 C a b c)) ∧ New w w' := by
  have HR := Lib.hid (show btB T m N0 N1 N2 C a b c = ((pnB3 N0 N1 N2 && pcB C) && ((List.range m).all (sdB T N0 N1 N2 C) && decide (C < N0 * a + N1 * b + N2 * c))) from rfl)
  generalize btB T m N0 N1 N2 C a b c = R at *
  have HC3 := Lib.hid (fun (g : Nat) (w1 : World) h0 h1 h2 hg => contains3n_c g N0 N1 N2 w1 h0 h1 h2 hg)
  have HT := Lib.hid (fun (g h : Nat) (w1 : World) (h1 : New w w1) (hp : PlW w1 g h N0 N1 N2 C) b1 b2 b3 => containsT_c tv m tc g h N0 N1 N2 C T w1 hm htn (fun h => by obtain ⟨b, o, e, h2⟩ := hT h; exact ⟨b, o, e, h2.new h1⟩) hp b1 b2 b3)
  clear htn hT
  go_enter Try.func44, Try.ntmps44
  go_wp2_with fail
  go_at_call 71
  have hP0 : ((w.alloc (.cells #[.int .i64 a, .int .i64 b, .int .i64 c] 66)).alloc (.cells #[.int .i64 N0, .int .i64 N1, .int .i64 N2, .int .i64 C] 41)).heap[w.heap.size + 1]? = some (.cells #[.int .i64 N0, .int .i64 N1, .int .i64 N2, .int .i64 C] 41 (0, 0)) := alloc2_new rfl
  refine (HC3.out (w.heap.size + 1) _ (cell_pl hP0).1 (cell_pl hP0).2.1 (cell_pl hP0).2.2.1 (Array.getElem?_eq_some_iff.1 hP0).1).mono ?_
  rintro e w2 ⟨rfl, hn2⟩
  have HN2 := Lib.hid ((((New.refl w).alloc _).alloc _).trans hn2)
  have HPL := Lib.hid ((hn2.below.block _ (Array.getElem?_eq_some_iff.1 hP0).1).trans hP0)
  have HWA := Lib.hid (show w2.heap[w.heap.size]? = some (.cells #[.int .i64 a, .int .i64 b, .int .i64 c] 66 (0, 0)) from
    (hn2.below.block _ (by simp <;> omega)).trans ((Below.heap_alloc _ _ _ (by simp)).trans (heap_alloc_new _ _)))
  clear hn2 hP0 HC3
  cases h3 : pnB3 N0 N1 N2
  · have HF := Lib.hid (show false = R by rw [HR.out, h3]; rfl)
    go_wp2_with fail
    all_goals (go_ret; exact ⟨ret_bool HF.out, HN2.out⟩)
  · obtain ⟨b1, b2, b3⟩ := pnB3_iff h3
    have k0 : w2.cell? ⟨w.heap.size + 1, 3, none⟩ = some (.int .i64 C) := by simp [World.cell?, HPL.out]
    have k1 : w2.cell? ⟨w.heap.size + 1, 0, none⟩ = some (.int .i64 N0) := by simp [World.cell?, HPL.out]
    have k2 : w2.cell? ⟨w.heap.size + 1, 1, none⟩ = some (.int .i64 N1) := by simp [World.cell?, HPL.out]
    have k3 : w2.cell? ⟨w.heap.size + 1, 2, none⟩ = some (.int .i64 N2) := by simp [World.cell?, HPL.out]
    by_cases v1 : C < -10000000000000000
    · have HF := Lib.hid (show false = R by rw [HR.out, h3]; unfold pcB; rw [decide_eq_false (show ¬ -10000000000000000 ≤ C by omega)]; rfl)
      go_wp2_with fail
      all_goals (go_ret; exact ⟨ret_bool HF.out, HN2.out⟩)
    · by_cases v2 : 10000000000000000 < C
      · have HF := Lib.hid (show false = R by rw [HR.out, h3]; unfold pcB; rw [decide_eq_false (show ¬ C ≤ 10000000000000000 by omega)]; simp)
        go_wp2_with fail
        all_goals (go_ret; exact ⟨ret_bool HF.out, HN2.out⟩)
      · have hpc : pcB C = true := by unfold pcB; rw [decide_eq_true (show -10000000000000000 ≤ C by omega), decide_eq_true (show C ≤ 10000000000000000 by omega)]; rfl
        go_upto_region 7 with fail
        obtain ⟨W3, hW3⟩ : ∃ W3, W3 = w2.alloc (.cells #[.int .i64 N0, .int .i64 N1, .int .i64 N2] 66) := ⟨_, rfl⟩
        have hn3 : New w2 W3 := by rw [hW3]; exact (New.refl _).alloc _
        have hpl : PlW W3 w2.heap.size (w.heap.size + 1) N0 N1 N2 C := ⟨by rw [hW3]; exact heap_alloc_new _ _, (hn3.below.block _ (Array.getElem?_eq_some_iff.1 HPL.out).1).trans HPL.out⟩
        have hwa : W3.heap[w.heap.size]? = some (.cells #[.int .i64 a, .int .i64 b, .int .i64 c] 66 (0, 0)) := (hn3.below.block _ (Array.getElem?_eq_some_iff.1 HWA.out).1).trans HWA.out
        have HN3 := Lib.hid (HN2.out.trans hn3)
        have HCT := Lib.hid (fun (V : World) (hV : New W3 V) => HT.out w2.heap.size (w.heap.size + 1) V (HN3.out.trans hV) (hpl.new hV) b1 b2 b3)
        have p1 := mulpn N0 a b1 ha
        have p2 := mulpn N1 b b2 hb
        have p3 := mulpn N2 c b3 hc
        have HD := Lib.hid (fun w1 : World => dot_c N0 N1 N2 a b c w1 (by omega) (by omega) (by omega) (by omega) (by omega))
        rw [← hW3]
        have k0 := (cell_pl hpl.2).2.2.2
        obtain ⟨k1, k2, k3⟩ := cell_v3 hpl.1
        obtain ⟨k4, k5, k6⟩ := cell_v3 hwa
        have hq1 := (Array.getElem?_eq_some_iff.1 hpl.1).1
        have hq2 := (Array.getElem?_eq_some_iff.1 hpl.2).1
        have hq3 := (Array.getElem?_eq_some_iff.1 hwa).1
        have HR2 := Lib.hid (show R = ((List.range m).all (sdB T N0 N1 N2 C) && decide (C < N0 * a + N1 * b + N2 * c)) by rw [HR.out, h3, hpc]; rfl)
        clear p1 p2 p3 hn3 hpl hwa HT HPL HWA HN2 HR h3 hpc hW3 b1 b2 b3 ha hb hc
        generalize (List.range m).all (sdB T N0 N1 N2 C) = A at *
        generalize N0 * a + N1 * b + N2 * c = V at *
        generalize w2.heap.size = G2 at *
        cases A
        · have HC2 := Lib.hid (show ∀ V, New W3 V → Calls Try.prog 74 #[.slice tv m tc, .func (.func 73) #[] #[.pointer (some ⟨G2, 0, none⟩), .pointer (some ⟨w.heap.size + 1, 0, none⟩)]] V fun en w' => en = .returned (.bool true) ∧ New V w' from HCT.out)
          clear HCT
          first | refine wp_region_at2 (by kernel_rfl) (by kernel_rfl) ?_ | refine wp_region_at (by kernel_rfl) (by kernel_rfl) ?_
          repeat (go_big_quiet_step (first | (go_at_call 74; (with_reducible exact calls_new (HC2.out _ ((New.refl _).aft _ _)))) | (go_at_call 67; (with_reducible exact calls_new (HD.out _)))))
          refine wpQuiet_nil ?_
          rintro U3 hq
          have HN4 := Lib.hid (HN3.out.trans (show New W3 U3 from hq))
          have HF := Lib.hid (show false = R by rw [HR2.out]; rfl)
          clear hq
          go_wp2_with fail
          all_goals (go_ret; exact ⟨ret_bool HF.out, HN4.out⟩)
        · have HC2 := Lib.hid (show ∀ V, New W3 V → Calls Try.prog 74 #[.slice tv m tc, .func (.func 73) #[] #[.pointer (some ⟨G2, 0, none⟩), .pointer (some ⟨w.heap.size + 1, 0, none⟩)]] V fun en w' => en = .returned (.bool false) ∧ New V w' from HCT.out)
          clear HCT
          first | refine wp_region_at2 (by kernel_rfl) (by kernel_rfl) ?_ | refine wp_region_at (by kernel_rfl) (by kernel_rfl) ?_
          repeat (go_big_quiet_step (first | (go_at_call 74; (with_reducible exact calls_new (HC2.out _ ((New.refl _).aft _ _)))) | (go_at_call 67; (with_reducible exact calls_new (HD.out _)))))
          refine wpQuiet_nil ?_
          rintro U3 hq
          have HN4 := Lib.hid (HN3.out.trans (show New W3 U3 from hq))
          have HF := Lib.hid (show decide (C < V) = R by rw [HR2.out]; simp)
          clear hq
          go_wp2_with fail
          all_goals (go_ret; exact ⟨ret_bool HF.out, HN4.out⟩)

set_option maxHeartbeats 8000000 in
theorem checkPlane_c (tv : Option Addr) (m tc : Nat) (T : List T5) (a b c N0 N1 N2 C : Int) (w : World) (hm : m ≤ 1000) (hTl : T.length = m) (hT : 0 < m → ∃ b off, tv = some ⟨b, off, none⟩ ∧ Tnts w b off m T) :
    Calls Try.prog 19 #[.slice tv m tc, vv a b c, plV N0 N1 N2 C] w fun en w' => en = .returned (.bool (decide (wntE T a b c m = 0) && btB T m N0 N1 N2 C a b c)) ∧ New w w' := by
  have HW := Lib.hid (fun (w1 : World) (h1 : New w w1) => checkWanted_c tv m tc T a b c w1 (by omega) (fun h => by obtain ⟨b, o, e, h2⟩ := hT h; exact ⟨b, o, e, h2.new h1⟩))
  have HB := Lib.hid (fun (hz : wntE T a b c m = 0) (w1 : World) (h1 : New w w1) => isBetween_c tv m tc T a b c N0 N1 N2 C w1 hm (wntE_zero hTl hz).1 (fun h => by obtain ⟨b, o, e, h2⟩ := hT h; exact ⟨b, o, e, h2.new h1⟩) (wntE_zero hTl hz).2.1 (wntE_zero hTl hz).2.2.1 (wntE_zero hTl hz).2.2.2)
  clear hT
  generalize hE : wntE T a b c m = E at *
  generalize btB T m N0 N1 N2 C a b c = R at *
  clear hE
  go_enter Try.func19, Try.ntmps19
  go_wp2_with fail
  go_at_call 36
  refine (HW.out _ (((New.refl w).alloc _).alloc _)).mono ?_
  rintro e w2 ⟨rfl, hn2⟩
  have HN2 := Lib.hid ((((New.refl w).alloc _).alloc _).trans hn2)
  have hP0 : ((w.alloc (.cells #[.int .i64 a, .int .i64 b, .int .i64 c] 37)).alloc (.cells #[.int .i64 N0, .int .i64 N1, .int .i64 N2, .int .i64 C] 41)).heap[w.heap.size + 1]? = some (.cells #[.int .i64 N0, .int .i64 N1, .int .i64 N2, .int .i64 C] 41 (0, 0)) := alloc2_new rfl
  have hpl := (hn2.below.block _ (Array.getElem?_eq_some_iff.1 hP0).1).trans hP0
  have hwa : w2.heap[w.heap.size]? = some (.cells #[.int .i64 a, .int .i64 b, .int .i64 c] 37 (0, 0)) :=
    (hn2.below.block _ (by simp <;> omega)).trans ((Below.heap_alloc _ _ _ (by simp)).trans (heap_alloc_new _ _))
  obtain ⟨k1, k2, k3, k4⟩ := cell_pl hpl
  obtain ⟨k5, k6, k7⟩ := cell_v3 hwa
  clear hn2 hP0 hpl hwa
  by_cases hz : E = 0
  · subst hz
    go_wp2_with fail
    go_at_call 44
    refine (HB.out trivial _ HN2.out).mono ?_
    rintro e w3 ⟨rfl, hn3⟩
    have HN3 := Lib.hid (HN2.out.trans hn3)
    clear hn3 k1 k2 k3 k4 k5 k6 k7
    go_wp2_with fail
    all_goals (go_ret; exact ⟨ret_bool (by simp), HN3.out⟩)
  · have hz1 : (E == 0) = false := by simpa using hz
    go_wp2_with fail
    all_goals (go_ret; exact ⟨ret_bool (by simp [hz]), HN2.out⟩)

end Go.Proofs.Ytpjekinmcdglbaa
