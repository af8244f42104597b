/- The reference's check of pairs. Lists of any length that memory takes. · The reference's Check, and that it says what the program's says. Lists of any length that memory takes. · The reference's has and arc. Lists of any length that memory takes. -/
import Derived.Test.YtiejefehcpfkaaaDoorTs

section
set_option linter.unusedSimpArgs false
set_option linter.unusedVariables false
set_option maxRecDepth 100000
namespace Go.Proofs.YtiejefehcpfkaaaDoor
open Go.RowKit Go.Shelf

attribute [local go_sem] Oper.semAt_some

def okR (n : Int) (near : Bool) (L : List (Int × Int)) (i : Nat) : Bool := (decide (0 ≤ pA L i) && decide (pA L i < n)) && (decide (0 ≤ pB L i) && decide (pB L i < n)) && !decide (pA L i = pB L i) && !(near && decide (pB L i < pA L i)) && (decide (i = 0) || ltP (pA L (i - 1)) (pB L (i - 1)) (pA L i) (pB L i))
def parR (n : Int) (near : Bool) (L : List (Int × Int)) : Bool := (List.range L.length).all (okR n near L)
set_option maxHeartbeats 16000000 in
theorem rpairs_c (n : Int) (near : Bool) (av : Option Addr) (cap : Nat) (L : List (Int × Int)) (w : World) (hl : L.length ≤ 17592186044415) (hP : Prs w av L) :
    Calls Tryd.prog 74 #[.slice av L.length cap, .int .i64 n, .bool near] w fun en w' => en = .returned (.bool (parR n near L)) ∧ New w w' := by
  obtain ⟨N, hN⟩ : ∃ N, N = L.length := ⟨_, rfl⟩
  have HP := Lib.hid hP
  have HR := Lib.hid (show parR n near L = (List.range N).all (okR n near L) by rw [hN]; rfl)
  have HO := Lib.hid (show ∀ i, okR n near L i = ((decide (0 ≤ pA L i) && decide (pA L i < n)) && (decide (0 ≤ pB L i) && decide (pB L i < n)) && !decide (pA L i = pB L i) && !(near && decide (pB L i < pA L i)) && (decide (i = 0) || ltP (pA L (i - 1)) (pB L (i - 1)) (pA L i) (pB L i))) from fun _ => rfl)
  have HNL := Lib.hid hN
  rw [← hN] at hl ⊢
  clear hP hN
  generalize parR n near L = R at *
  generalize okR n near L = ok at *
  go_enter Tryd.func74, Tryd.ntmps74
  go_wp2_with fail
  go_loopw [7] (fun i wr => ∃ k : Nat, k ≤ N ∧ i = .int .i64 k ∧ (List.range k).all ok = true ∧ New w wr) (fun i _ => N - (intOf i).toNat)
  case atStart => exact ⟨0, Nat.zero_le _, rfl, rfl, New.refl _⟩
  case round =>
    obtain ⟨k, hk, rfl, hall, hnew⟩ := hrel
    obtain ⟨U1, rfl⟩ : ∃ U1 : World, U1 = wr := ⟨_, rfl⟩
    have HALL := Lib.hid hall
    have HNEW := Lib.hid hnew
    clear hall hnew
    by_cases hlt : k < N
    · obtain ⟨b, off, rfl, gl, hcc⟩ := HP.out.new HNEW.out (by rw [← HNL.out]; omega)
      obtain ⟨c1, c2⟩ := hcc k (by rw [← HNL.out]; omega)
      have hk1 : (k : Int) < (N : Int) := by omega
      have HOk := Lib.hid (HO.out k)
      have HSN := Lib.hid (all_snoc ok k)
      have HMS := Lib.hid (fun (e : ok k = false) => (by rw [HR.out, all_miss hlt e] : R = false))
      have HPR := Lib.hid (fun (h : 0 < k) => hcc (k - 1) (by rw [← HNL.out]; omega))
      clear hcc
      generalize pA L k = x at *
      generalize pB L k = y at *
      by_cases u1 : x < 0
      · have HF := Lib.hid (show false = R from (HMS.out (by rw [HOk.out, decide_eq_false (show ¬ 0 ≤ x by omega)]; simp)).symm)
        go_wp2_with fail
        all_goals (go_ret; exact ⟨ret_bool HF.out, (by (repeat (first | exact HNEW.out | exact New.refl _ | apply New.alloc | apply New.aft | apply New.drew | refine New.setCell ?_ ?_ _)); all_goals (first | done | (simp [size_aft]; done) | (simp [size_aft]; omega) | (have := HNEW.out.size; simp [size_aft]; omega)))⟩)
      · skip
        by_cases u2 : n ≤ x
        · have HF := Lib.hid (show false = R from (HMS.out (by rw [HOk.out, decide_eq_false (show ¬ x < n by omega)]; simp)).symm)
          go_wp2_with fail
          all_goals (go_ret; exact ⟨ret_bool HF.out, (by (repeat (first | exact HNEW.out | exact New.refl _ | apply New.alloc | apply New.aft | apply New.drew | refine New.setCell ?_ ?_ _)); all_goals (first | done | (simp [size_aft]; done) | (simp [size_aft]; omega) | (have := HNEW.out.size; simp [size_aft]; omega)))⟩)
        · skip
          by_cases u3 : y < 0
          · have HF := Lib.hid (show false = R from (HMS.out (by rw [HOk.out, decide_eq_false (show ¬ 0 ≤ y by omega)]; simp)).symm)
            go_wp2_with fail
            all_goals (go_ret; exact ⟨ret_bool HF.out, (by (repeat (first | exact HNEW.out | exact New.refl _ | apply New.alloc | apply New.aft | apply New.drew | refine New.setCell ?_ ?_ _)); all_goals (first | done | (simp [size_aft]; done) | (simp [size_aft]; omega) | (have := HNEW.out.size; simp [size_aft]; omega)))⟩)
          · skip
            by_cases u4 : n ≤ y
            · have HF := Lib.hid (show false = R from (HMS.out (by rw [HOk.out, decide_eq_false (show ¬ y < n by omega)]; simp)).symm)
              go_wp2_with fail
              all_goals (go_ret; exact ⟨ret_bool HF.out, (by (repeat (first | exact HNEW.out | exact New.refl _ | apply New.alloc | apply New.aft | apply New.drew | refine New.setCell ?_ ?_ _)); all_goals (first | done | (simp [size_aft]; done) | (simp [size_aft]; omega) | (have := HNEW.out.size; simp [size_aft]; omega)))⟩)
            · skip
              by_cases u5 : x = y
              · have HF := Lib.hid (show false = R from (HMS.out (by rw [HOk.out, decide_eq_true u5]; simp)).symm)
                have u5' : (x == y) = true := by simpa using u5
                clear u5
                go_wp2_with fail
                all_goals (go_ret; exact ⟨ret_bool HF.out, (by (repeat (first | exact HNEW.out | exact New.refl _ | apply New.alloc | apply New.aft | apply New.drew | refine New.setCell ?_ ?_ _)); all_goals (first | done | (simp [size_aft]; done) | (simp [size_aft]; omega) | (have := HNEW.out.size; simp [size_aft]; omega)))⟩)
              · have u5' : (x == y) = false := by simpa using u5
                cases near
                · skip
                  have HOK := Lib.hid (show ok k = (decide (k = 0) || ltP (pA L (k - 1)) (pB L (k - 1)) x y) by rw [HOk.out, decide_eq_true (show 0 ≤ x by omega), decide_eq_true (show x < n by omega), decide_eq_true (show 0 ≤ y by omega), decide_eq_true (show y < n by omega), decide_eq_false u5]; simp)
                  clear u5
                  by_cases k0 : k = 0
                  · subst k0
                    have HV := Lib.hid (show ok 0 = true by rw [HOK.out]; rfl)
                    simp only [Nat.zero_mul, Nat.add_zero] at c1 c2
                    go_upto_region 7 with fail
                    first | refine wp_region_at2 (by kernel_rfl) (by kernel_rfl) ?_ | refine wp_region_at (by kernel_rfl) (by kernel_rfl) ?_
                    repeat (go_big_quiet_step (fail))
                    refine wpQuiet_nil ?_
                    rintro U3 hq3
                    have HN3 := Lib.hid (show New (U1.alloc (.cells #[.int .i64 x, .int .i64 y] 67)) U3 from hq3)
                    clear hq3
                    go_wp2_with fail
                    go_roundw
                    case rel => exact ⟨1, by omega, by go_num, by rw [HSN.out, HALL.out, HV.out]; rfl, HNEW.out.trans (((New.refl _).alloc _).trans HN3.out)⟩
                    case measure => simp [intOf]; omega
                  · obtain ⟨q, rfl⟩ : ∃ q, k = q + 1 := ⟨k - 1, by omega⟩
                    obtain ⟨d1, d2⟩ := HPR.out (by omega)
                    simp only [Nat.add_sub_cancel] at d1 d2 HOK
                    rw [decide_eq_false k0, Bool.false_or] at HOK
                    have e1 : ((q + 1 : Nat) : Int) - 1 = (q : Int) := by omega
                    have q1 : (0 : Int) < ((q + 1 : Nat) : Int) := by omega
                    have q2 : (q : Int) < (N : Int) := by omega
                    generalize pA L q = x0 at *
                    generalize pB L q = y0 at *
                    rcases Int.lt_trichotomy x0 x with h3 | h3 | h3
                    · have HV := Lib.hid (show ok (q + 1) = true by rw [HOK.out]; unfold ltP; simp [h3])
                      have h4 : ¬ x0 > x := by omega
                      have h5 : (x0 == x) = false := by simp; omega
                      clear h3
                      go_upto_region 7 with fail
                      have HN2 := Lib.hid (show New U1 (U1.alloc (.cells #[.int .i64 x, .int .i64 y] 67)) from (New.refl U1).alloc _)
                      have g3 : (U1.alloc (.cells #[.int .i64 x, .int .i64 y] 67)).cell? ⟨b, off + q * 2, none⟩ = some (.int .i64 x0) := by rw [HN2.out.cell gl]; exact d1
                      have g4 : (U1.alloc (.cells #[.int .i64 x, .int .i64 y] 67)).cell? ⟨b, off + q * 2 + 1, none⟩ = some (.int .i64 y0) := by rw [HN2.out.cell gl]; exact d2
                      first | refine wp_region_at2 (by kernel_rfl) (by kernel_rfl) ?_ | refine wp_region_at (by kernel_rfl) (by kernel_rfl) ?_
                      repeat (go_big_quiet_step (fail))
                      refine wpQuiet_nil ?_
                      rintro U3 hq3
                      have HN3 := Lib.hid (show New (U1.alloc (.cells #[.int .i64 x, .int .i64 y] 67)) U3 from hq3)
                      clear hq3
                      go_wp2_with fail
                      go_roundw
                      case rel => exact ⟨q + 2, by omega, by go_num, by rw [HSN.out, HALL.out, HV.out]; rfl, HNEW.out.trans (((New.refl _).alloc _).trans HN3.out)⟩
                      case measure => simp [intOf]; omega
                    · subst h3
                      have h4 : ¬ x0 > x0 := by omega
                      have h5 : (x0 == x0) = true := by simp
                      by_cases h6 : y0 ≥ y
                      · have HF := Lib.hid (show false = R from (HMS.out (by rw [HOK.out]; unfold ltP; simp; omega)).symm)
                        go_upto_region 7 with fail
                        have HN2 := Lib.hid (show New U1 (U1.alloc (.cells #[.int .i64 x0, .int .i64 y] 67)) from (New.refl U1).alloc _)
                        have g3 : (U1.alloc (.cells #[.int .i64 x0, .int .i64 y] 67)).cell? ⟨b, off + q * 2, none⟩ = some (.int .i64 x0) := by rw [HN2.out.cell gl]; exact d1
                        have g4 : (U1.alloc (.cells #[.int .i64 x0, .int .i64 y] 67)).cell? ⟨b, off + q * 2 + 1, none⟩ = some (.int .i64 y0) := by rw [HN2.out.cell gl]; exact d2
                        first | refine wp_region_at2 (by kernel_rfl) (by kernel_rfl) ?_ | refine wp_region_at (by kernel_rfl) (by kernel_rfl) ?_
                        repeat (go_big_quiet_step (fail))
                        refine wpQuiet_nil ?_
                        rintro U3 hq3
                        have HN3 := Lib.hid (show New (U1.alloc (.cells #[.int .i64 x0, .int .i64 y] 67)) U3 from hq3)
                        clear hq3
                        go_wp2_with fail
                        go_ret
                        exact ⟨ret_bool HF.out, HNEW.out.trans (((New.refl _).alloc _).trans HN3.out)⟩
                      · have HV := Lib.hid (show ok (q + 1) = true by rw [HOK.out]; unfold ltP; simp; omega)
                        go_upto_region 7 with fail
                        have HN2 := Lib.hid (show New U1 (U1.alloc (.cells #[.int .i64 x0, .int .i64 y] 67)) from (New.refl U1).alloc _)
                        have g3 : (U1.alloc (.cells #[.int .i64 x0, .int .i64 y] 67)).cell? ⟨b, off + q * 2, none⟩ = some (.int .i64 x0) := by rw [HN2.out.cell gl]; exact d1
                        have g4 : (U1.alloc (.cells #[.int .i64 x0, .int .i64 y] 67)).cell? ⟨b, off + q * 2 + 1, none⟩ = some (.int .i64 y0) := by rw [HN2.out.cell gl]; exact d2
                        first | refine wp_region_at2 (by kernel_rfl) (by kernel_rfl) ?_ | refine wp_region_at (by kernel_rfl) (by kernel_rfl) ?_
                        repeat (go_big_quiet_step (fail))
                        refine wpQuiet_nil ?_
                        rintro U3 hq3
                        have HN3 := Lib.hid (show New (U1.alloc (.cells #[.int .i64 x0, .int .i64 y] 67)) U3 from hq3)
                        clear hq3
                        go_wp2_with fail
                        go_roundw
                        case rel => exact ⟨q + 2, by omega, by go_num, by rw [HSN.out, HALL.out, HV.out]; rfl, HNEW.out.trans (((New.refl _).alloc _).trans HN3.out)⟩
                        case measure => simp [intOf]; omega
                    · have HF := Lib.hid (show false = R from (HMS.out (by rw [HOK.out]; unfold ltP; simp; omega)).symm)
                      have h4 : x0 > x := h3
                      go_upto_region 7 with fail
                      have HN2 := Lib.hid (show New U1 (U1.alloc (.cells #[.int .i64 x, .int .i64 y] 67)) from (New.refl U1).alloc _)
                      have g3 : (U1.alloc (.cells #[.int .i64 x, .int .i64 y] 67)).cell? ⟨b, off + q * 2, none⟩ = some (.int .i64 x0) := by rw [HN2.out.cell gl]; exact d1
                      have g4 : (U1.alloc (.cells #[.int .i64 x, .int .i64 y] 67)).cell? ⟨b, off + q * 2 + 1, none⟩ = some (.int .i64 y0) := by rw [HN2.out.cell gl]; exact d2
                      first | refine wp_region_at2 (by kernel_rfl) (by kernel_rfl) ?_ | refine wp_region_at (by kernel_rfl) (by kernel_rfl) ?_
                      repeat (go_big_quiet_step (fail))
                      refine wpQuiet_nil ?_
                      rintro U3 hq3
                      have HN3 := Lib.hid (show New (U1.alloc (.cells #[.int .i64 x, .int .i64 y] 67)) U3 from hq3)
                      clear hq3
                      go_wp2_with fail
                      go_ret
                      exact ⟨ret_bool HF.out, HNEW.out.trans (((New.refl _).alloc _).trans HN3.out)⟩
                · skip
                  by_cases u6 : y < x
                  · have HF := Lib.hid (show false = R from (HMS.out (by rw [HOk.out, decide_eq_true u6]; simp)).symm)
                    have u6' : x > y := u6
                    clear u5
                    go_wp2_with fail
                    all_goals (go_ret; exact ⟨ret_bool HF.out, (by (repeat (first | exact HNEW.out | exact New.refl _ | apply New.alloc | apply New.aft | apply New.drew | refine New.setCell ?_ ?_ _)); all_goals (first | done | (simp [size_aft]; done) | (simp [size_aft]; omega) | (have := HNEW.out.size; simp [size_aft]; omega)))⟩)
                  · have u6' : ¬ x > y := u6
                    have HOK := Lib.hid (show ok k = (decide (k = 0) || ltP (pA L (k - 1)) (pB L (k - 1)) x y) by rw [HOk.out, decide_eq_true (show 0 ≤ x by omega), decide_eq_true (show x < n by omega), decide_eq_true (show 0 ≤ y by omega), decide_eq_true (show y < n by omega), decide_eq_false u5, decide_eq_false u6]; simp)
                    clear u5
                    by_cases k0 : k = 0
                    · subst k0
                      have HV := Lib.hid (show ok 0 = true by rw [HOK.out]; rfl)
                      simp only [Nat.zero_mul, Nat.add_zero] at c1 c2
                      go_upto_region 7 with fail
                      first | refine wp_region_at2 (by kernel_rfl) (by kernel_rfl) ?_ | refine wp_region_at (by kernel_rfl) (by kernel_rfl) ?_
                      repeat (go_big_quiet_step (fail))
                      refine wpQuiet_nil ?_
                      rintro U3 hq3
                      have HN3 := Lib.hid (show New (U1.alloc (.cells #[.int .i64 x, .int .i64 y] 67)) U3 from hq3)
                      clear hq3
                      go_wp2_with fail
                      go_roundw
                      case rel => exact ⟨1, by omega, by go_num, by rw [HSN.out, HALL.out, HV.out]; rfl, HNEW.out.trans (((New.refl _).alloc _).trans HN3.out)⟩
                      case measure => simp [intOf]; omega
                    · obtain ⟨q, rfl⟩ : ∃ q, k = q + 1 := ⟨k - 1, by omega⟩
                      obtain ⟨d1, d2⟩ := HPR.out (by omega)
                      simp only [Nat.add_sub_cancel] at d1 d2 HOK
                      rw [decide_eq_false k0, Bool.false_or] at HOK
                      have e1 : ((q + 1 : Nat) : Int) - 1 = (q : Int) := by omega
                      have q1 : (0 : Int) < ((q + 1 : Nat) : Int) := by omega
                      have q2 : (q : Int) < (N : Int) := by omega
                      generalize pA L q = x0 at *
                      generalize pB L q = y0 at *
                      rcases Int.lt_trichotomy x0 x with h3 | h3 | h3
                      · have HV := Lib.hid (show ok (q + 1) = true by rw [HOK.out]; unfold ltP; simp [h3])
                        have h4 : ¬ x0 > x := by omega
                        have h5 : (x0 == x) = false := by simp; omega
                        clear h3
                        go_upto_region 7 with fail
                        have HN2 := Lib.hid (show New U1 (U1.alloc (.cells #[.int .i64 x, .int .i64 y] 67)) from (New.refl U1).alloc _)
                        have g3 : (U1.alloc (.cells #[.int .i64 x, .int .i64 y] 67)).cell? ⟨b, off + q * 2, none⟩ = some (.int .i64 x0) := by rw [HN2.out.cell gl]; exact d1
                        have g4 : (U1.alloc (.cells #[.int .i64 x, .int .i64 y] 67)).cell? ⟨b, off + q * 2 + 1, none⟩ = some (.int .i64 y0) := by rw [HN2.out.cell gl]; exact d2
                        first | refine wp_region_at2 (by kernel_rfl) (by kernel_rfl) ?_ | refine wp_region_at (by kernel_rfl) (by kernel_rfl) ?_
                        repeat (go_big_quiet_step (fail))
                        refine wpQuiet_nil ?_
                        rintro U3 hq3
                        have HN3 := Lib.hid (show New (U1.alloc (.cells #[.int .i64 x, .int .i64 y] 67)) U3 from hq3)
                        clear hq3
                        go_wp2_with fail
                        go_roundw
                        case rel => exact ⟨q + 2, by omega, by go_num, by rw [HSN.out, HALL.out, HV.out]; rfl, HNEW.out.trans (((New.refl _).alloc _).trans HN3.out)⟩
                        case measure => simp [intOf]; omega
                      · subst h3
                        have h4 : ¬ x0 > x0 := by omega
                        have h5 : (x0 == x0) = true := by simp
                        by_cases h6 : y0 ≥ y
                        · have HF := Lib.hid (show false = R from (HMS.out (by rw [HOK.out]; unfold ltP; simp; omega)).symm)
                          go_upto_region 7 with fail
                          have HN2 := Lib.hid (show New U1 (U1.alloc (.cells #[.int .i64 x0, .int .i64 y] 67)) from (New.refl U1).alloc _)
                          have g3 : (U1.alloc (.cells #[.int .i64 x0, .int .i64 y] 67)).cell? ⟨b, off + q * 2, none⟩ = some (.int .i64 x0) := by rw [HN2.out.cell gl]; exact d1
                          have g4 : (U1.alloc (.cells #[.int .i64 x0, .int .i64 y] 67)).cell? ⟨b, off + q * 2 + 1, none⟩ = some (.int .i64 y0) := by rw [HN2.out.cell gl]; exact d2
                          first | refine wp_region_at2 (by kernel_rfl) (by kernel_rfl) ?_ | refine wp_region_at (by kernel_rfl) (by kernel_rfl) ?_
                          repeat (go_big_quiet_step (fail))
                          refine wpQuiet_nil ?_
                          rintro U3 hq3
                          have HN3 := Lib.hid (show New (U1.alloc (.cells #[.int .i64 x0, .int .i64 y] 67)) U3 from hq3)
                          clear hq3
                          go_wp2_with fail
                          go_ret
                          exact ⟨ret_bool HF.out, HNEW.out.trans (((New.refl _).alloc _).trans HN3.out)⟩
                        · have HV := Lib.hid (show ok (q + 1) = true by rw [HOK.out]; unfold ltP; simp; omega)
                          go_upto_region 7 with fail
                          have HN2 := Lib.hid (show New U1 (U1.alloc (.cells #[.int .i64 x0, .int .i64 y] 67)) from (New.refl U1).alloc _)
                          have g3 : (U1.alloc (.cells #[.int .i64 x0, .int .i64 y] 67)).cell? ⟨b, off + q * 2, none⟩ = some (.int .i64 x0) := by rw [HN2.out.cell gl]; exact d1
                          have g4 : (U1.alloc (.cells #[.int .i64 x0, .int .i64 y] 67)).cell? ⟨b, off + q * 2 + 1, none⟩ = some (.int .i64 y0) := by rw [HN2.out.cell gl]; exact d2
                          first | refine wp_region_at2 (by kernel_rfl) (by kernel_rfl) ?_ | refine wp_region_at (by kernel_rfl) (by kernel_rfl) ?_
                          repeat (go_big_quiet_step (fail))
                          refine wpQuiet_nil ?_
                          rintro U3 hq3
                          have HN3 := Lib.hid (show New (U1.alloc (.cells #[.int .i64 x0, .int .i64 y] 67)) U3 from hq3)
                          clear hq3
                          go_wp2_with fail
                          go_roundw
                          case rel => exact ⟨q + 2, by omega, by go_num, by rw [HSN.out, HALL.out, HV.out]; rfl, HNEW.out.trans (((New.refl _).alloc _).trans HN3.out)⟩
                          case measure => simp [intOf]; omega
                      · have HF := Lib.hid (show false = R from (HMS.out (by rw [HOK.out]; unfold ltP; simp; omega)).symm)
                        have h4 : x0 > x := h3
                        go_upto_region 7 with fail
                        have HN2 := Lib.hid (show New U1 (U1.alloc (.cells #[.int .i64 x, .int .i64 y] 67)) from (New.refl U1).alloc _)
                        have g3 : (U1.alloc (.cells #[.int .i64 x, .int .i64 y] 67)).cell? ⟨b, off + q * 2, none⟩ = some (.int .i64 x0) := by rw [HN2.out.cell gl]; exact d1
                        have g4 : (U1.alloc (.cells #[.int .i64 x, .int .i64 y] 67)).cell? ⟨b, off + q * 2 + 1, none⟩ = some (.int .i64 y0) := by rw [HN2.out.cell gl]; exact d2
                        first | refine wp_region_at2 (by kernel_rfl) (by kernel_rfl) ?_ | refine wp_region_at (by kernel_rfl) (by kernel_rfl) ?_
                        repeat (go_big_quiet_step (fail))
                        refine wpQuiet_nil ?_
                        rintro U3 hq3
                        have HN3 := Lib.hid (show New (U1.alloc (.cells #[.int .i64 x, .int .i64 y] 67)) U3 from hq3)
                        clear hq3
                        go_wp2_with fail
                        go_ret
                        exact ⟨ret_bool HF.out, HNEW.out.trans (((New.refl _).alloc _).trans HN3.out)⟩
    · obtain rfl : k = N := by omega
      have hk1 : ¬ (k : Int) < (k : Int) := by omega
      have HT := Lib.hid (show true = R from by rw [HR.out]; exact HALL.out.symm)
      go_wp2_with fail
      go_ret
      exact ⟨ret_bool HT.out, HNEW.out⟩
end Go.Proofs.YtiejefehcpfkaaaDoor
end

section
set_option linter.unusedSimpArgs false
set_option linter.unusedVariables false
set_option maxRecDepth 100000
namespace Go.Proofs.YtiejefehcpfkaaaDoor
open Go.RowKit Go.Shelf

attribute [local go_sem] Oper.semAt_some

def rchkI (o : Prb) : Int := if 24 < o.n then 2 else if (decide (o.n < 0) || !parR o.n false o.A) || !parR o.n true o.B then 1 else 0
theorem par_false (n : Int) (L : List (Int × Int)) : parR n false L = arB n L := by
  unfold parR arB
  congr 1
  funext i
  unfold okR okA
  simp
theorem all_and (f g : Nat → Bool) (n : Nat) : ((List.range n).all fun i => f i && g i) = ((List.range n).all f && (List.range n).all g) := by
  induction n with
  | zero => rfl
  | succ n ih =>
    rw [all_snoc, all_snoc, all_snoc, ih]
    cases (List.range n).all f <;> cases (List.range n).all g <;> cases f n <;> cases g n <;> rfl
theorem par_true (n : Int) (L : List (Int × Int)) : parR n true L = (arB n L && (List.range L.length).all fun i => !decide (pB L i < pA L i)) := by
  unfold parR arB
  rw [← all_and]
  congr 1
  funext i
  unfold okR okA
  cases decide (0 ≤ pA L i) && decide (pA L i < n) && (decide (0 ≤ pB L i) && decide (pB L i < n)) && !decide (pA L i = pB L i) <;> cases decide (pB L i < pA L i) <;> cases (decide (i = 0) || ltP (pA L (i - 1)) (pB L (i - 1)) (pA L i) (pB L i)) <;> simp_all
theorem rchk_eq (o : Prb) : rchkI o = chkI o := by
  have hf : ((List.range o.B.length).all fun i => !decide (pB o.B i < pA o.B i)) = !falB o.B := by
    unfold falB
    rw [List.not_any_eq_all_not]
    rfl
  unfold rchkI chkI badB
  rw [par_false, par_true, hf]
  cases arB o.n o.A <;> cases arB o.n o.B <;> cases falB o.B <;> cases decide (o.n < 0) <;> simp
set_option maxHeartbeats 8000000 in
theorem rcheck_c (v : Value) (o : Prb) (w : World) (h : PrbV w v o) : Calls Tryd.prog 24 #[v] w fun en w' => en = .returned (.int .i64 (rchkI o)) ∧ New w w' := by
  obtain ⟨⟨av, ac, nv, nc, rfl, h1, h2⟩, h3, h4⟩ := h
  have HA := Lib.hid (fun (w1 : World) (hn : New w w1) => rpairs_c o.n false av ac o.A w1 h3 (h1.new hn))
  have HB := Lib.hid (fun (w1 : World) (hn : New w w1) => rpairs_c o.n true nv nc o.B w1 h4 (h2.new hn))
  have HR := Lib.hid (show rchkI o = if 24 < o.n then 2 else if (decide (o.n < 0) || !parR o.n false o.A) || !parR o.n true o.B then 1 else 0 from rfl)
  clear h1 h2 h3 h4
  generalize rchkI o = R at *
  generalize o.A.length = la at *
  generalize o.B.length = lb at *
  generalize parR o.n false o.A = ra at *
  generalize parR o.n true o.B = rb at *
  generalize o.n = n at *
  obtain ⟨H, hH⟩ : ∃ H, w.heap.size = H := ⟨_, rfl⟩
  have HH := Lib.hid hH
  have c1 : (w.alloc (.cells #[.int .i64 n, .slice av la ac, .slice nv lb nc] 24)).heap[H]? = some (.cells #[.int .i64 n, .slice av la ac, .slice nv lb nc] 24 (0, 0)) := by rw [← hH]; exact World.alloc_heap_new w _
  have HC := Lib.hid (show ∀ V, New (w.alloc (.cells #[.int .i64 n, .slice av la ac, .slice nv lb nc] 24)) V → V.cell? ⟨H, 0, none⟩ = some (.int .i64 n) ∧ V.cell? ⟨H, 1, none⟩ = some (.slice av la ac) ∧ V.cell? ⟨H, 2, none⟩ = some (.slice nv lb nc) from fun V hn =>
    ⟨(cell_of_row V H 0 _ _ _ (row_new c1 hn)).trans rfl, (cell_of_row V H 1 _ _ _ (row_new c1 hn)).trans rfl, (cell_of_row V H 2 _ _ _ (row_new c1 hn)).trans rfl⟩)
  clear c1
  by_cases u1 : 24 < n
  · rw [if_pos u1] at HR
    have u1' : n > 24 := u1
    go_enter Tryd.func24, Tryd.ntmps24
    go_wp2_with fail
    go_ret
    exact ⟨by rw [HR.out]; rfl, (New.refl _).alloc _⟩
  · rw [if_neg u1] at HR
    have u1' : ¬ n > 24 := u1
    cases ra <;> cases rb <;> by_cases u2 : n < 0
    all_goals (first | rw [decide_eq_true u2] at HR | rw [decide_eq_false u2] at HR)
    all_goals go_enter Tryd.func24, Tryd.ntmps24
    all_goals (go_wp2_with (first | (go_at_call 74; first | ((with_reducible refine (HA.out _ ?_).mono ?_); (· exact (New.refl w).alloc _); rintro e w4 ⟨rfl, n4⟩; have N4 := Lib.hid n4; obtain ⟨k0, k1, k2⟩ := HC.out _ N4.out; clear n4) | ((with_reducible refine (HB.out _ ?_).mono ?_); (· exact ((New.refl w).alloc _).trans N4.out); rintro e w5 ⟨rfl, n5⟩; have N5 := Lib.hid (N4.out.trans n5); obtain ⟨k0, k1, k2⟩ := HC.out _ N5.out; clear n5))))
    all_goals (go_ret; exact ⟨by rw [HR.out]; rfl, ((New.refl w).alloc _).trans N5.out⟩)
end Go.Proofs.YtiejefehcpfkaaaDoor
end

section
set_option linter.unusedSimpArgs false
set_option linter.unusedVariables false
set_option maxRecDepth 100000
namespace Go.Proofs.YtiejefehcpfkaaaDoor
open Go.RowKit Go.Shelf

attribute [local go_sem] Oper.semAt_some

theorem any_snocR (f : Nat → Bool) (k : Nat) : (List.range (k + 1)).any f = ((List.range k).any f || f k) := by
  rw [List.range_succ, List.any_append]; simp
def hasR (l : List Int) (x : Int) : Bool := (List.range l.length).any fun i => decide (nI l i = x)
set_option maxHeartbeats 8000000 in
theorem rhas_c {w : World} {u : Value} {l : List Int} (x : Int) (hu : SlI w u l) (hl : l.length ≤ 17592186044415) :
    Calls Tryd.prog 82 #[u, .int .i64 x] w fun en w' => en = .returned (.bool (hasR l x)) ∧ New w w' := by
  obtain ⟨au, cu, rfl, hu⟩ := hu
  have HU := Lib.hid hu
  clear hu
  obtain ⟨R, hR⟩ : ∃ R, hasR l x = R := ⟨_, rfl⟩
  rw [hR]
  have HR := Lib.hid (show (List.range l.length).any (fun i => decide (nI l i = x)) = R from hR)
  clear hR
  generalize hN : l.length = N at *
  have HN := Lib.hid hN
  clear hN
  go_enter Tryd.func82, Tryd.ntmps82
  go_wp2_with fail
  go_loopw [5] (fun i wr => ∃ k : Nat, k ≤ N ∧ i = .int .i64 k ∧ New w wr ∧ (List.range k).any (fun i => decide (nI l i = x)) = false) (fun i _ => N - (intOf i).toNat)
  case atStart => exact ⟨0, Nat.zero_le _, rfl, New.refl _, rfl⟩
  case round =>
    obtain ⟨k, hk, rfl, hnew, hall⟩ := hrel
    have HNEW := Lib.hid hnew
    have HALL := Lib.hid hall
    clear hnew hall
    by_cases hlt : k < N
    · obtain ⟨b, off, rfl, gl, hcc⟩ := HU.out.new HNEW.out (by rw [HN.out]; omega)
      have c1 := hcc k (by rw [HN.out]; omega)
      have hk1 : (k : Int) < (N : Int) := by omega
      have HSN := Lib.hid (any_snocR (fun i => decide (nI l i = x)) k)
      have HHT := Lib.hid (fun (e : nI l k = x) => (by rw [← HR.out]; exact any_hit hlt (by simp [e]) : R = true))
      clear hcc
      by_cases he : nI l k = x
      · have hxy : (nI l k == x) = true := by simpa using he
        have HT := Lib.hid (HHT.out he)
        clear he
        generalize nI l k = y at *
        go_wp2_with fail
        go_ret
        exact ⟨by rw [HT.out]; rfl, HNEW.out⟩
      · have hxy : (nI l k == x) = false := by simpa using he
        have HF := Lib.hid (show (List.range (k + 1)).any (fun i => decide (nI l i = x)) = false from by rw [HSN.out, HALL.out]; simp [he])
        clear he
        obtain ⟨y, hy⟩ : ∃ y, nI l k = y := ⟨_, rfl⟩
        rw [hy] at c1 hxy
        clear hy
        go_wp2_with fail
        go_roundw
        case rel => exact ⟨k + 1, by omega, by go_num, HNEW.out, HF.out⟩
        case measure => simp [intOf]; omega
    · obtain rfl : k = N := by omega
      have hk1 : ¬ (k : Int) < (k : Int) := by omega
      have HF := Lib.hid (show R = false from by rw [← HR.out]; exact HALL.out)
      go_wp2_with fail
      go_ret
      exact ⟨by rw [HF.out]; rfl, HNEW.out⟩
def arcR (o : Prb) (a b : Int) : Bool := (List.range o.A.length).any fun i => decide (pA o.A i = a) && decide (pB o.A i = b)
set_option maxHeartbeats 8000000 in
theorem rarc_c {w : World} {v : Value} {o : Prb} (h : PrbV w v o) (a b : Int) :
    Calls Tryd.prog 83 #[v, .int .i64 a, .int .i64 b] w fun en w' => en = .returned (.bool (arcR o a b)) ∧ New w w' := by
  obtain ⟨⟨av, ac, nv, nc, rfl, h1, h2⟩, h3, h4⟩ := h
  have HP := Lib.hid h1
  clear h1 h2 h4
  obtain ⟨R, hR⟩ : ∃ R, arcR o a b = R := ⟨_, rfl⟩
  rw [hR]
  have HR := Lib.hid (show (List.range o.A.length).any (fun i => decide (pA o.A i = a) && decide (pB o.A i = b)) = R from hR)
  clear hR
  generalize hN : o.A.length = N at *
  have HN := Lib.hid hN
  clear hN
  generalize o.B.length = M at *
  generalize o.n = n at *
  obtain ⟨H, hH⟩ : ∃ H, w.heap.size = H := ⟨_, rfl⟩
  have HH := Lib.hid hH
  have HB0 := Lib.hid (show (w.alloc (.cells #[.int .i64 n, .slice av N ac, .slice nv M nc] 24)).heap[H]? = some (.cells #[.int .i64 n, .slice av N ac, .slice nv M nc] 24 (0, 0)) from by rw [← hH]; exact World.alloc_heap_new w _)
  go_enter Tryd.func83, Tryd.ntmps83
  go_wp2_with fail
  go_loopw [7] (fun i wr => ∃ k : Nat, k ≤ N ∧ i = .int .i64 k ∧ New w wr ∧ wr.heap[H]? = some (.cells #[.int .i64 n, .slice av N ac, .slice nv M nc] 24 (0, 0)) ∧ (List.range k).any (fun i => decide (pA o.A i = a) && decide (pB o.A i = b)) = false) (fun i _ => N - (intOf i).toNat)
  case atStart => exact ⟨0, Nat.zero_le _, rfl, (New.refl _).alloc _, HB0.out, rfl⟩
  case round =>
    obtain ⟨k, hk, rfl, hnew, hbx, hall⟩ := hrel
    have HNEW := Lib.hid hnew
    have HALL := Lib.hid hall
    have HBX := Lib.hid hbx
    have c0 : wr.cell? ⟨H, 1, none⟩ = some (.slice av N ac) := (cell_of_row wr H 1 _ _ _ hbx).trans rfl
    clear hnew hall hbx
    by_cases hlt : k < N
    · obtain ⟨bb, off, rfl, gl, hcc⟩ := HP.out.new HNEW.out (by rw [HN.out]; omega)
      obtain ⟨c1, c2⟩ := hcc k (by rw [HN.out]; omega)
      have hk1 : (k : Int) < (N : Int) := by omega
      have HSN := Lib.hid (any_snocR (fun i => decide (pA o.A i = a) && decide (pB o.A i = b)) k)
      have HHT := Lib.hid (fun (e : pA o.A k = a ∧ pB o.A k = b) => (by rw [← HR.out]; exact any_hit hlt (by simp [e.1, e.2]) : R = true))
      clear hcc
      obtain ⟨x, hx⟩ : ∃ x, pA o.A k = x := ⟨_, rfl⟩
      obtain ⟨y, hy⟩ : ∃ y, pB o.A k = y := ⟨_, rfl⟩
      rw [hx, hy] at HHT
      rw [hx] at c1
      rw [hy] at c2
      have HXY := Lib.hid (And.intro hx hy)
      clear hx hy
      by_cases he : x = a ∧ y = b
      · have hxa : (x == a) = true := by simpa using he.1
        have hyb : (y == b) = true := by simpa using he.2
        have HT := Lib.hid (HHT.out he)
        clear he
        go_wp2_with fail
        go_ret
        exact ⟨by rw [HT.out]; rfl, HNEW.out⟩
      · have HF := Lib.hid (show (List.range (k + 1)).any (fun i => decide (pA o.A i = a) && decide (pB o.A i = b)) = false from by
          rw [HSN.out, HALL.out, HXY.out.1, HXY.out.2]
          simp only [Bool.false_or, Bool.and_eq_false_iff, decide_eq_false_iff_not]
          exact (Decidable.not_and_iff_or_not.1 he))
        rcases Decidable.not_and_iff_or_not.1 he with h5 | h5
        · have hxa : (x == a) = false := by simpa using h5
          clear he h5
          go_wp2_with fail
          go_roundw
          case rel => exact ⟨k + 1, by omega, by go_num, HNEW.out, HBX.out, HF.out⟩
          case measure => simp [intOf]; omega
        · have hyb : (y == b) = false := by simpa using h5
          clear he h5
          go_wp2_with fail
          go_roundw
          case rel => exact ⟨k + 1, by omega, by go_num, HNEW.out, HBX.out, HF.out⟩
          case measure => simp [intOf]; omega
    · obtain rfl : k = N := by omega
      have hk1 : ¬ (k : Int) < (k : Int) := by omega
      have HF := Lib.hid (show R = false from by rw [← HR.out]; exact HALL.out)
      go_wp2_with fail
      go_ret
      exact ⟨by rw [HF.out]; rfl, HNEW.out⟩
end Go.Proofs.YtiejefehcpfkaaaDoor
end
