/- Whether a recipe is valid, as ValidRecipe of the reference returns it: the same. -/
import Derived.Test.YtpjekinmcdglbaaCe
set_option linter.unusedSimpArgs false
set_option linter.unusedVariables false
set_option maxRecDepth 100000
namespace Go.Proofs.Ytpjekinmcdglbaa
open Go.RowKit

theorem lastT_bd {P : List (Int × Int)} {m : Nat} : ∀ {k : Nat}, (List.range k).all (okPt P m) = true → -1 ≤ lastT P k
  | 0, _ => by simp [lastT]
  | k + 1, h => by
    rw [all_snoc, Bool.and_eq_true] at h
    have h1 := lastT_bd h.1
    have h2 := h.2
    unfold okPt at h2
    simp only [Bool.and_eq_true, decide_eq_true_eq] at h2
    simp only [lastT]; omega

set_option maxHeartbeats 32000000 in
theorem validRecipe_c (tv pv : Option Addr) (m tc n pc : Nat) (P : List (Int × Int)) (w : World) (hm : m ≤ 17592186044415) (hn : n ≤ 17592186044415) (hP : P.length = n) (hp : 0 < n → ∃ b off, pv = some ⟨b, off, none⟩ ∧ Prts w b off n P) :
    Calls Try.prog 32 #[.slice tv m tc, .agg #[.slice pv n pc]] w fun en w' => en = .returned (.bool (recB P m)) ∧ New w w' := by
  have HP := Lib.hid hp
  have HR := Lib.hid (show recB P m = (((decide (1 ≤ n) && decide (n ≤ 4)) && (List.range n).all (okPt P m)) && (gcdTo P n == 1)) by unfold recB; rw [hP])
  have HO := Lib.hid (show ∀ i, okPt P m i = ((decide (lastT P i < pT P i) && decide (pT P i < (m : Int))) && (decide (1 ≤ pW P i) && decide (pW P i ≤ 1000000000000))) from fun _ => rfl)
  have HL0 := Lib.hid (show lastT P 0 = -1 from rfl)
  have HL := Lib.hid (show ∀ i, lastT P (i + 1) = pT P i from fun _ => rfl)
  have HG0 := Lib.hid (show gcdTo P 0 = 0 from rfl)
  have HG := Lib.hid (show ∀ i, gcdTo P (i + 1) = gcdI (gcdTo P i) (pW P i) from fun _ => rfl)
  have HGB := Lib.hid (fun k (h : (List.range k).all (okPt P m) = true) => gcdTo_bd h)
  have HLB := Lib.hid (fun k (h : (List.range k).all (okPt P m) = true) => lastT_bd h)
  have HBX := Lib.hid (show ∀ W, New (w.alloc (.cells #[.slice pv n pc] 25)) W → W.cell? ⟨w.heap.size, 0, none⟩ = some (.slice pv n pc) ∧ w.heap.size < W.heap.size from fun W h => ⟨(h.cell (by simp)).trans (by simp [go_sem]), by have := h.size; simp at this; omega⟩)
  clear hp hP
  generalize recB P m = R at *
  generalize okPt P m = ok at *
  generalize lastT P = la at *
  generalize gcdTo P = gc at *
  by_cases h1 : (n : Int) < 1
  · have HF := Lib.hid (show false = R by rw [HR.out, decide_eq_false (show ¬ 1 ≤ n by omega)]; rfl)
    go_enter Try.func32, Try.ntmps32
    go_wp2_with fail
    all_goals (go_ret; exact ⟨ret_bool HF.out, (by (repeat (first | exact New.refl _ | apply New.alloc | apply New.aft | apply New.drew | refine New.setCell ?_ ?_ _)); all_goals (first | done | (simp [size_aft]; done) | (simp [size_aft]; omega)))⟩)
  · by_cases h4 : (4 : Int) < (n : Int)
    · have HF := Lib.hid (show false = R by rw [HR.out, decide_eq_false (show ¬ n ≤ 4 by omega)]; simp)
      go_enter Try.func32, Try.ntmps32
      go_wp2_with fail
      all_goals (go_ret; exact ⟨ret_bool HF.out, (by (repeat (first | exact New.refl _ | apply New.alloc | apply New.aft | apply New.drew | refine New.setCell ?_ ?_ _)); all_goals (first | done | (simp [size_aft]; done) | (simp [size_aft]; omega)))⟩)
    · have hd1 : decide (1 ≤ n) = true := decide_eq_true (by omega)
      have hd4 : decide (n ≤ 4) = true := decide_eq_true (by omega)
      rw [hd1, hd4] at HR
      clear hd1 hd4
      go_enter Try.func32, Try.ntmps32
      go_wp2_with fail
      go_loopw [5, 6] (fun s5 i wr => ∃ k : Nat, k ≤ n ∧ i = .int .i64 k ∧ s5 = .int .i64 (gc k) ∧ (List.range k).all ok = true ∧ New (w.alloc (.cells #[.slice pv n pc] 25)) wr) (fun _ i _ => n - (intOf i).toNat)
      case atStart => exact ⟨0, Nat.zero_le _, rfl, by rw [HG0.out], rfl, (by (repeat (first | exact New.refl _ | apply New.alloc | apply New.aft | apply New.drew | refine New.setCell ?_ ?_ _)); all_goals (first | done | (simp [size_aft]; done) | (simp [size_aft]; omega)))⟩
      case round =>
        obtain ⟨k, hk, rfl, rfl, hall, hnew⟩ := hrel
        obtain ⟨U1, rfl⟩ : ∃ U1 : World, U1 = wr := ⟨_, rfl⟩
        have HALL := Lib.hid hall
        have HNEW := Lib.hid hnew
        have HNW := Lib.hid (show New w U1 from ((New.refl w).alloc _).trans hnew)
        have hgb := HGB.out k hall
        have hlb := HLB.out k hall
        obtain ⟨b0, hbb⟩ := HBX.out _ hnew
        clear hall hnew
        by_cases hlt : k < n
        · obtain ⟨b, off, rfl, hpr⟩ := HP.out (by omega)
          have hpr1 := hpr.new HNW.out
          have HPC := Lib.hid (fun (W : World) (h : New U1 W) (i : Nat) (hi : i < n) => (hpr1.new h).2.2 i hi)
          have HPG := Lib.hid (fun (W : World) (h : New U1 W) => (hpr1.new h).2.1)
          obtain ⟨c1, c2⟩ := HPC.out U1 (New.refl _) k hlt
          have gl := HPG.out U1 (New.refl _)
          have hk1 : (k : Int) < (n : Int) := by omega
          have HOk := Lib.hid (HO.out k)
          have HLk := Lib.hid (HL.out k)
          have HGk := Lib.hid (HG.out k)
          have HSN := Lib.hid (all_snoc ok k)
          have HMS := Lib.hid (fun (e : ok k = false) => (by rw [HR.out, all_miss hlt e]; rfl : R = false))
          clear hpr hpr1
          generalize hT : pT P k = T at *
          generalize hX : pW P k = X at *
          clear hT hX
          generalize hgc : gc k = G at *
          clear hgc
          cases k with
          | zero =>
            generalize hL : la 0 = L at *
            have hL1 : -1 ≤ L := hlb
            have hL2 : L ≤ -1 := by have := HL0.out; omega
            simp only [Nat.zero_mul, Nat.add_zero] at c1 c2
            clear hL hlb
            by_cases u0 : T < 0
            · have HF := Lib.hid (show false = R from (HMS.out (by rw [HOk.out, decide_eq_false (show ¬ L < T by omega)]; rfl)).symm)
              have z0a : decide (T < 0) = true := decide_eq_true (by omega)
              go_upto_region 8 with fail
              have HN2 := Lib.hid (show New U1 (U1.alloc (.cells #[.int .i64 T, .int .i64 X] 64)) from (New.refl U1).alloc _)
              have HD := Lib.hid (show ((U1.alloc (.cells #[.int .i64 T, .int .i64 X] 64)).cell? ⟨U1.heap.size, 0, none⟩ = some (.int .i64 T) ∧ (U1.alloc (.cells #[.int .i64 T, .int .i64 X] 64)).cell? ⟨U1.heap.size, 1, none⟩ = some (.int .i64 X)) ∧ U1.heap.size < (U1.alloc (.cells #[.int .i64 T, .int .i64 X] 64)).heap.size from ⟨⟨by simp [go_sem], by simp [go_sem]⟩, by simp⟩)
              generalize U1.alloc (.cells #[.int .i64 T, .int .i64 X] 64) = U2 at *
              obtain ⟨⟨d0, d1⟩, hdb⟩ := HD.out
              clear b0 hbb c1 c2 gl
              have b0 := (HBX.out _ (HNEW.out.trans HN2.out)).1
              have hbb := (HBX.out _ (HNEW.out.trans HN2.out)).2
              skip
              first | refine wp_region_at2 (by kernel_rfl) (by kernel_rfl) ?_ | refine wp_region_at (by kernel_rfl) (by kernel_rfl) ?_
              repeat (go_big_quiet_step (fail))
              refine wpQuiet_nil ?_
              rintro U3 hq3
              have HN3 := Lib.hid (show New U2 U3 from hq3)
              have e1 := (HN3.out.cell (o := 1) hdb).trans d1
              have hdb3 : U1.heap.size < U3.heap.size := Nat.lt_of_lt_of_le hdb HN3.out.size
              clear hq3 d0 d1 hdb b0 hbb 
              go_wp2_with fail
              go_ret
              exact ⟨ret_bool HF.out, HNW.out.trans (HN2.out.trans (by (repeat (first | exact HN3.out | exact New.refl _ | apply New.alloc | apply New.aft | apply New.drew | refine New.setCell ?_ ?_ _)); all_goals (first | done | (simp [size_aft]; done) | (simp [size_aft]; omega))))⟩
            · have z0a : decide (T < 0) = false := decide_eq_false (by omega)
              by_cases u2 : (m : Int) ≤ T
              · have HF := Lib.hid (show false = R from (HMS.out (by rw [HOk.out, decide_eq_false (show ¬ T < (m : Int) by omega)]; simp)).symm)
                have z2a : decide (T ≥ (m : Int)) = true := decide_eq_true (by omega)
                have z2b : decide ((m : Int) ≤ T) = true := decide_eq_true (by omega)
                go_upto_region 8 with fail
                have HN2 := Lib.hid (show New U1 (U1.alloc (.cells #[.int .i64 T, .int .i64 X] 64)) from (New.refl U1).alloc _)
                have HD := Lib.hid (show ((U1.alloc (.cells #[.int .i64 T, .int .i64 X] 64)).cell? ⟨U1.heap.size, 0, none⟩ = some (.int .i64 T) ∧ (U1.alloc (.cells #[.int .i64 T, .int .i64 X] 64)).cell? ⟨U1.heap.size, 1, none⟩ = some (.int .i64 X)) ∧ U1.heap.size < (U1.alloc (.cells #[.int .i64 T, .int .i64 X] 64)).heap.size from ⟨⟨by simp [go_sem], by simp [go_sem]⟩, by simp⟩)
                generalize U1.alloc (.cells #[.int .i64 T, .int .i64 X] 64) = U2 at *
                obtain ⟨⟨d0, d1⟩, hdb⟩ := HD.out
                clear b0 hbb c1 c2 gl
                have b0 := (HBX.out _ (HNEW.out.trans HN2.out)).1
                have hbb := (HBX.out _ (HNEW.out.trans HN2.out)).2
                skip
                first | refine wp_region_at2 (by kernel_rfl) (by kernel_rfl) ?_ | refine wp_region_at (by kernel_rfl) (by kernel_rfl) ?_
                repeat (go_big_quiet_step (fail))
                refine wpQuiet_nil ?_
                rintro U3 hq3
                have HN3 := Lib.hid (show New U2 U3 from hq3)
                have e1 := (HN3.out.cell (o := 1) hdb).trans d1
                have hdb3 : U1.heap.size < U3.heap.size := Nat.lt_of_lt_of_le hdb HN3.out.size
                clear hq3 d0 d1 hdb b0 hbb 
                go_wp2_with fail
                go_ret
                exact ⟨ret_bool HF.out, HNW.out.trans (HN2.out.trans (by (repeat (first | exact HN3.out | exact New.refl _ | apply New.alloc | apply New.aft | apply New.drew | refine New.setCell ?_ ?_ _)); all_goals (first | done | (simp [size_aft]; done) | (simp [size_aft]; omega))))⟩
              · have z2a : decide (T ≥ (m : Int)) = false := decide_eq_false (by omega)
                have z2b : decide ((m : Int) ≤ T) = false := decide_eq_false (by omega)
                by_cases u3 : X < 1
                · have HF := Lib.hid (show false = R from (HMS.out (by rw [HOk.out, decide_eq_false (show ¬ 1 ≤ X by omega)]; simp)).symm)
                  have z3a : decide (X < 1) = true := decide_eq_true (by omega)
                  go_upto_region 8 with fail
                  have HN2 := Lib.hid (show New U1 (U1.alloc (.cells #[.int .i64 T, .int .i64 X] 64)) from (New.refl U1).alloc _)
                  have HD := Lib.hid (show ((U1.alloc (.cells #[.int .i64 T, .int .i64 X] 64)).cell? ⟨U1.heap.size, 0, none⟩ = some (.int .i64 T) ∧ (U1.alloc (.cells #[.int .i64 T, .int .i64 X] 64)).cell? ⟨U1.heap.size, 1, none⟩ = some (.int .i64 X)) ∧ U1.heap.size < (U1.alloc (.cells #[.int .i64 T, .int .i64 X] 64)).heap.size from ⟨⟨by simp [go_sem], by simp [go_sem]⟩, by simp⟩)
                  generalize U1.alloc (.cells #[.int .i64 T, .int .i64 X] 64) = U2 at *
                  obtain ⟨⟨d0, d1⟩, hdb⟩ := HD.out
                  clear b0 hbb c1 c2 gl
                  have b0 := (HBX.out _ (HNEW.out.trans HN2.out)).1
                  have hbb := (HBX.out _ (HNEW.out.trans HN2.out)).2
                  skip
                  first | refine wp_region_at2 (by kernel_rfl) (by kernel_rfl) ?_ | refine wp_region_at (by kernel_rfl) (by kernel_rfl) ?_
                  repeat (go_big_quiet_step (fail))
                  refine wpQuiet_nil ?_
                  rintro U3 hq3
                  have HN3 := Lib.hid (show New U2 U3 from hq3)
                  have e1 := (HN3.out.cell (o := 1) hdb).trans d1
                  have hdb3 : U1.heap.size < U3.heap.size := Nat.lt_of_lt_of_le hdb HN3.out.size
                  clear hq3 d0 d1 hdb b0 hbb 
                  go_wp2_with fail
                  go_ret
                  exact ⟨ret_bool HF.out, HNW.out.trans (HN2.out.trans (by (repeat (first | exact HN3.out | exact New.refl _ | apply New.alloc | apply New.aft | apply New.drew | refine New.setCell ?_ ?_ _)); all_goals (first | done | (simp [size_aft]; done) | (simp [size_aft]; omega))))⟩
                · have z3a : decide (X < 1) = false := decide_eq_false (by omega)
                  by_cases u4 : (1000000000000 : Int) < X
                  · have HF := Lib.hid (show false = R from (HMS.out (by rw [HOk.out, decide_eq_false (show ¬ X ≤ 1000000000000 by omega)]; simp)).symm)
                    have z4a : decide (X > 1000000000000) = true := decide_eq_true (by omega)
                    have z4b : decide ((1000000000000 : Int) < X) = true := decide_eq_true (by omega)
                    go_upto_region 8 with fail
                    have HN2 := Lib.hid (show New U1 (U1.alloc (.cells #[.int .i64 T, .int .i64 X] 64)) from (New.refl U1).alloc _)
                    have HD := Lib.hid (show ((U1.alloc (.cells #[.int .i64 T, .int .i64 X] 64)).cell? ⟨U1.heap.size, 0, none⟩ = some (.int .i64 T) ∧ (U1.alloc (.cells #[.int .i64 T, .int .i64 X] 64)).cell? ⟨U1.heap.size, 1, none⟩ = some (.int .i64 X)) ∧ U1.heap.size < (U1.alloc (.cells #[.int .i64 T, .int .i64 X] 64)).heap.size from ⟨⟨by simp [go_sem], by simp [go_sem]⟩, by simp⟩)
                    generalize U1.alloc (.cells #[.int .i64 T, .int .i64 X] 64) = U2 at *
                    obtain ⟨⟨d0, d1⟩, hdb⟩ := HD.out
                    clear b0 hbb c1 c2 gl
                    have b0 := (HBX.out _ (HNEW.out.trans HN2.out)).1
                    have hbb := (HBX.out _ (HNEW.out.trans HN2.out)).2
                    skip
                    first | refine wp_region_at2 (by kernel_rfl) (by kernel_rfl) ?_ | refine wp_region_at (by kernel_rfl) (by kernel_rfl) ?_
                    repeat (go_big_quiet_step (fail))
                    refine wpQuiet_nil ?_
                    rintro U3 hq3
                    have HN3 := Lib.hid (show New U2 U3 from hq3)
                    have e1 := (HN3.out.cell (o := 1) hdb).trans d1
                    have hdb3 : U1.heap.size < U3.heap.size := Nat.lt_of_lt_of_le hdb HN3.out.size
                    clear hq3 d0 d1 hdb b0 hbb 
                    go_wp2_with fail
                    go_ret
                    exact ⟨ret_bool HF.out, HNW.out.trans (HN2.out.trans (by (repeat (first | exact HN3.out | exact New.refl _ | apply New.alloc | apply New.aft | apply New.drew | refine New.setCell ?_ ?_ _)); all_goals (first | done | (simp [size_aft]; done) | (simp [size_aft]; omega))))⟩
                  · have z4a : decide (X > 1000000000000) = false := decide_eq_false (by omega)
                    have z4b : decide ((1000000000000 : Int) < X) = false := decide_eq_false (by omega)
                    have HV := Lib.hid (show ok (0) = true by rw [HOk.out]; simp only [Bool.and_eq_true, decide_eq_true_eq]; omega)
                    have HGC := Lib.hid (fun w1 : World => ref_gcd G X w1 ⟨hgb.1, by omega⟩ ⟨by omega, by omega⟩)
                    have z5 : decide ((0 : Int) > 0) = false := by decide
                    go_upto_region 8 with fail
                    have HN2 := Lib.hid (show New U1 (U1.alloc (.cells #[.int .i64 T, .int .i64 X] 64)) from (New.refl U1).alloc _)
                    have HD := Lib.hid (show ((U1.alloc (.cells #[.int .i64 T, .int .i64 X] 64)).cell? ⟨U1.heap.size, 0, none⟩ = some (.int .i64 T) ∧ (U1.alloc (.cells #[.int .i64 T, .int .i64 X] 64)).cell? ⟨U1.heap.size, 1, none⟩ = some (.int .i64 X)) ∧ U1.heap.size < (U1.alloc (.cells #[.int .i64 T, .int .i64 X] 64)).heap.size from ⟨⟨by simp [go_sem], by simp [go_sem]⟩, by simp⟩)
                    generalize U1.alloc (.cells #[.int .i64 T, .int .i64 X] 64) = U2 at *
                    obtain ⟨⟨d0, d1⟩, hdb⟩ := HD.out
                    clear b0 hbb c1 c2 gl
                    have b0 := (HBX.out _ (HNEW.out.trans HN2.out)).1
                    have hbb := (HBX.out _ (HNEW.out.trans HN2.out)).2
                    skip
                    first | refine wp_region_at2 (by kernel_rfl) (by kernel_rfl) ?_ | refine wp_region_at (by kernel_rfl) (by kernel_rfl) ?_
                    repeat (go_big_quiet_step (fail))
                    refine wpQuiet_nil ?_
                    rintro U3 hq3
                    have HN3 := Lib.hid (show New U2 U3 from hq3)
                    have e1 := (HN3.out.cell (o := 1) hdb).trans d1
                    have hdb3 : U1.heap.size < U3.heap.size := Nat.lt_of_lt_of_le hdb HN3.out.size
                    clear hq3 d0 d1 hdb b0 hbb 
                    go_wp2_with (go_at_call 59; refine (HGC.out _).mono ?_; rintro e w4 ⟨rfl, hn4⟩; have HN4 := Lib.hid hn4; clear hn4)
                    go_roundw
                    case rel => exact ⟨0 + 1, by omega, by go_num, by rw [HGk.out], by rw [HSN.out, HALL.out, HV.out]; rfl, HNEW.out.trans (HN2.out.trans (HN3.out.trans (by (repeat (first | exact HN4.out | exact New.refl _ | apply New.alloc | apply New.aft | apply New.drew | refine New.setCell ?_ ?_ _)); all_goals (first | done | (simp [size_aft]; done) | (simp [size_aft]; omega)))))⟩
                    case measure => simp [intOf]; omega
          | succ j =>
            have HPV := Lib.hid (fun (W : World) (h : New U1 W) => HPC.out W h j (by omega))
            rw [HL.out j] at HOk hlb
            generalize hL : pT P j = L at *
            clear hL
            have hj0 : (0 : Int) ≤ (j : Int) := by omega
            have hj1 : (j : Int) < (n : Int) := by omega
            have hj2 : (j : Int) + 1 < (n : Int) := by omega
            have hj3 : (0 : Int) ≤ (j : Int) + 1 := by omega
            have hj4 : ((j : Int) + 1).toNat = j + 1 := by omega
            have hw1 : IntKind.i64.wrap (((j + 1 : Nat) : Int) - 1) = (j : Int) := by rw [show (((j + 1 : Nat) : Int) - 1) = (j : Int) by omega]; exact IntWalk.i64_in _ (by omega)
            have hw2 : IntKind.i64.wrap ((j : Int) + 1 - 1) = (j : Int) := by rw [show ((j : Int) + 1 - 1) = (j : Int) by omega]; exact IntWalk.i64_in _ (by omega)
            have z5a : decide (((j + 1 : Nat) : Int) > 0) = true := decide_eq_true (by omega)
            have z5b : decide ((0 : Int) < ((j + 1 : Nat) : Int)) = true := decide_eq_true (by omega)
            have z5c : decide ((j : Int) + 1 > 0) = true := decide_eq_true (by omega)
            have z5d : decide ((0 : Int) < (j : Int) + 1) = true := decide_eq_true (by omega)
            by_cases u0 : T < 0
            · have HF := Lib.hid (show false = R from (HMS.out (by rw [HOk.out, decide_eq_false (show ¬ L < T by omega)]; rfl)).symm)
              have z0a : decide (T < 0) = true := decide_eq_true (by omega)
              go_upto_region 8 with fail
              have HN2 := Lib.hid (show New U1 (U1.alloc (.cells #[.int .i64 T, .int .i64 X] 64)) from (New.refl U1).alloc _)
              have HD := Lib.hid (show ((U1.alloc (.cells #[.int .i64 T, .int .i64 X] 64)).cell? ⟨U1.heap.size, 0, none⟩ = some (.int .i64 T) ∧ (U1.alloc (.cells #[.int .i64 T, .int .i64 X] 64)).cell? ⟨U1.heap.size, 1, none⟩ = some (.int .i64 X)) ∧ U1.heap.size < (U1.alloc (.cells #[.int .i64 T, .int .i64 X] 64)).heap.size from ⟨⟨by simp [go_sem], by simp [go_sem]⟩, by simp⟩)
              generalize U1.alloc (.cells #[.int .i64 T, .int .i64 X] 64) = U2 at *
              obtain ⟨⟨d0, d1⟩, hdb⟩ := HD.out
              clear b0 hbb c1 c2 gl
              have b0 := (HBX.out _ (HNEW.out.trans HN2.out)).1
              have hbb := (HBX.out _ (HNEW.out.trans HN2.out)).2
              obtain ⟨r1, r2⟩ := HPV.out _ (HN2.out)
              have gl2 := HPG.out _ (HN2.out)
              first | refine wp_region_at2 (by kernel_rfl) (by kernel_rfl) ?_ | refine wp_region_at (by kernel_rfl) (by kernel_rfl) ?_
              repeat (go_big_quiet_step (fail))
              refine wpQuiet_nil ?_
              rintro U3 hq3
              have HN3 := Lib.hid (show New U2 U3 from hq3)
              have e1 := (HN3.out.cell (o := 1) hdb).trans d1
              have hdb3 : U1.heap.size < U3.heap.size := Nat.lt_of_lt_of_le hdb HN3.out.size
              clear hq3 d0 d1 hdb b0 hbb r1 r2 gl2
              go_wp2_with fail
              go_ret
              exact ⟨ret_bool HF.out, HNW.out.trans (HN2.out.trans (by (repeat (first | exact HN3.out | exact New.refl _ | apply New.alloc | apply New.aft | apply New.drew | refine New.setCell ?_ ?_ _)); all_goals (first | done | (simp [size_aft]; done) | (simp [size_aft]; omega))))⟩
            · have z0a : decide (T < 0) = false := decide_eq_false (by omega)
              by_cases u2 : (m : Int) ≤ T
              · have HF := Lib.hid (show false = R from (HMS.out (by rw [HOk.out, decide_eq_false (show ¬ T < (m : Int) by omega)]; simp)).symm)
                have z2a : decide (T ≥ (m : Int)) = true := decide_eq_true (by omega)
                have z2b : decide ((m : Int) ≤ T) = true := decide_eq_true (by omega)
                go_upto_region 8 with fail
                have HN2 := Lib.hid (show New U1 (U1.alloc (.cells #[.int .i64 T, .int .i64 X] 64)) from (New.refl U1).alloc _)
                have HD := Lib.hid (show ((U1.alloc (.cells #[.int .i64 T, .int .i64 X] 64)).cell? ⟨U1.heap.size, 0, none⟩ = some (.int .i64 T) ∧ (U1.alloc (.cells #[.int .i64 T, .int .i64 X] 64)).cell? ⟨U1.heap.size, 1, none⟩ = some (.int .i64 X)) ∧ U1.heap.size < (U1.alloc (.cells #[.int .i64 T, .int .i64 X] 64)).heap.size from ⟨⟨by simp [go_sem], by simp [go_sem]⟩, by simp⟩)
                generalize U1.alloc (.cells #[.int .i64 T, .int .i64 X] 64) = U2 at *
                obtain ⟨⟨d0, d1⟩, hdb⟩ := HD.out
                clear b0 hbb c1 c2 gl
                have b0 := (HBX.out _ (HNEW.out.trans HN2.out)).1
                have hbb := (HBX.out _ (HNEW.out.trans HN2.out)).2
                obtain ⟨r1, r2⟩ := HPV.out _ (HN2.out)
                have gl2 := HPG.out _ (HN2.out)
                first | refine wp_region_at2 (by kernel_rfl) (by kernel_rfl) ?_ | refine wp_region_at (by kernel_rfl) (by kernel_rfl) ?_
                repeat (go_big_quiet_step (fail))
                refine wpQuiet_nil ?_
                rintro U3 hq3
                have HN3 := Lib.hid (show New U2 U3 from hq3)
                have e1 := (HN3.out.cell (o := 1) hdb).trans d1
                have hdb3 : U1.heap.size < U3.heap.size := Nat.lt_of_lt_of_le hdb HN3.out.size
                clear hq3 d0 d1 hdb b0 hbb r1 r2 gl2
                go_wp2_with fail
                go_ret
                exact ⟨ret_bool HF.out, HNW.out.trans (HN2.out.trans (by (repeat (first | exact HN3.out | exact New.refl _ | apply New.alloc | apply New.aft | apply New.drew | refine New.setCell ?_ ?_ _)); all_goals (first | done | (simp [size_aft]; done) | (simp [size_aft]; omega))))⟩
              · have z2a : decide (T ≥ (m : Int)) = false := decide_eq_false (by omega)
                have z2b : decide ((m : Int) ≤ T) = false := decide_eq_false (by omega)
                by_cases u3 : X < 1
                · have HF := Lib.hid (show false = R from (HMS.out (by rw [HOk.out, decide_eq_false (show ¬ 1 ≤ X by omega)]; simp)).symm)
                  have z3a : decide (X < 1) = true := decide_eq_true (by omega)
                  go_upto_region 8 with fail
                  have HN2 := Lib.hid (show New U1 (U1.alloc (.cells #[.int .i64 T, .int .i64 X] 64)) from (New.refl U1).alloc _)
                  have HD := Lib.hid (show ((U1.alloc (.cells #[.int .i64 T, .int .i64 X] 64)).cell? ⟨U1.heap.size, 0, none⟩ = some (.int .i64 T) ∧ (U1.alloc (.cells #[.int .i64 T, .int .i64 X] 64)).cell? ⟨U1.heap.size, 1, none⟩ = some (.int .i64 X)) ∧ U1.heap.size < (U1.alloc (.cells #[.int .i64 T, .int .i64 X] 64)).heap.size from ⟨⟨by simp [go_sem], by simp [go_sem]⟩, by simp⟩)
                  generalize U1.alloc (.cells #[.int .i64 T, .int .i64 X] 64) = U2 at *
                  obtain ⟨⟨d0, d1⟩, hdb⟩ := HD.out
                  clear b0 hbb c1 c2 gl
                  have b0 := (HBX.out _ (HNEW.out.trans HN2.out)).1
                  have hbb := (HBX.out _ (HNEW.out.trans HN2.out)).2
                  obtain ⟨r1, r2⟩ := HPV.out _ (HN2.out)
                  have gl2 := HPG.out _ (HN2.out)
                  first | refine wp_region_at2 (by kernel_rfl) (by kernel_rfl) ?_ | refine wp_region_at (by kernel_rfl) (by kernel_rfl) ?_
                  repeat (go_big_quiet_step (fail))
                  refine wpQuiet_nil ?_
                  rintro U3 hq3
                  have HN3 := Lib.hid (show New U2 U3 from hq3)
                  have e1 := (HN3.out.cell (o := 1) hdb).trans d1
                  have hdb3 : U1.heap.size < U3.heap.size := Nat.lt_of_lt_of_le hdb HN3.out.size
                  clear hq3 d0 d1 hdb b0 hbb r1 r2 gl2
                  go_wp2_with fail
                  go_ret
                  exact ⟨ret_bool HF.out, HNW.out.trans (HN2.out.trans (by (repeat (first | exact HN3.out | exact New.refl _ | apply New.alloc | apply New.aft | apply New.drew | refine New.setCell ?_ ?_ _)); all_goals (first | done | (simp [size_aft]; done) | (simp [size_aft]; omega))))⟩
                · have z3a : decide (X < 1) = false := decide_eq_false (by omega)
                  by_cases u4 : (1000000000000 : Int) < X
                  · have HF := Lib.hid (show false = R from (HMS.out (by rw [HOk.out, decide_eq_false (show ¬ X ≤ 1000000000000 by omega)]; simp)).symm)
                    have z4a : decide (X > 1000000000000) = true := decide_eq_true (by omega)
                    have z4b : decide ((1000000000000 : Int) < X) = true := decide_eq_true (by omega)
                    go_upto_region 8 with fail
                    have HN2 := Lib.hid (show New U1 (U1.alloc (.cells #[.int .i64 T, .int .i64 X] 64)) from (New.refl U1).alloc _)
                    have HD := Lib.hid (show ((U1.alloc (.cells #[.int .i64 T, .int .i64 X] 64)).cell? ⟨U1.heap.size, 0, none⟩ = some (.int .i64 T) ∧ (U1.alloc (.cells #[.int .i64 T, .int .i64 X] 64)).cell? ⟨U1.heap.size, 1, none⟩ = some (.int .i64 X)) ∧ U1.heap.size < (U1.alloc (.cells #[.int .i64 T, .int .i64 X] 64)).heap.size from ⟨⟨by simp [go_sem], by simp [go_sem]⟩, by simp⟩)
                    generalize U1.alloc (.cells #[.int .i64 T, .int .i64 X] 64) = U2 at *
                    obtain ⟨⟨d0, d1⟩, hdb⟩ := HD.out
                    clear b0 hbb c1 c2 gl
                    have b0 := (HBX.out _ (HNEW.out.trans HN2.out)).1
                    have hbb := (HBX.out _ (HNEW.out.trans HN2.out)).2
                    obtain ⟨r1, r2⟩ := HPV.out _ (HN2.out)
                    have gl2 := HPG.out _ (HN2.out)
                    first | refine wp_region_at2 (by kernel_rfl) (by kernel_rfl) ?_ | refine wp_region_at (by kernel_rfl) (by kernel_rfl) ?_
                    repeat (go_big_quiet_step (fail))
                    refine wpQuiet_nil ?_
                    rintro U3 hq3
                    have HN3 := Lib.hid (show New U2 U3 from hq3)
                    have e1 := (HN3.out.cell (o := 1) hdb).trans d1
                    have hdb3 : U1.heap.size < U3.heap.size := Nat.lt_of_lt_of_le hdb HN3.out.size
                    clear hq3 d0 d1 hdb b0 hbb r1 r2 gl2
                    go_wp2_with fail
                    go_ret
                    exact ⟨ret_bool HF.out, HNW.out.trans (HN2.out.trans (by (repeat (first | exact HN3.out | exact New.refl _ | apply New.alloc | apply New.aft | apply New.drew | refine New.setCell ?_ ?_ _)); all_goals (first | done | (simp [size_aft]; done) | (simp [size_aft]; omega))))⟩
                  · have z4a : decide (X > 1000000000000) = false := decide_eq_false (by omega)
                    have z4b : decide ((1000000000000 : Int) < X) = false := decide_eq_false (by omega)
                    by_cases u5 : T ≤ L
                    · have HF := Lib.hid (show false = R from (HMS.out (by rw [HOk.out, decide_eq_false (show ¬ L < T by omega)]; rfl)).symm)
                      have z6a : decide (L ≥ T) = true := decide_eq_true (by omega)
                      have z6b : decide (T ≤ L) = true := decide_eq_true (by omega)
                      go_upto_region 8 with fail
                      have HN2 := Lib.hid (show New U1 (U1.alloc (.cells #[.int .i64 T, .int .i64 X] 64)) from (New.refl U1).alloc _)
                      have HD := Lib.hid (show ((U1.alloc (.cells #[.int .i64 T, .int .i64 X] 64)).cell? ⟨U1.heap.size, 0, none⟩ = some (.int .i64 T) ∧ (U1.alloc (.cells #[.int .i64 T, .int .i64 X] 64)).cell? ⟨U1.heap.size, 1, none⟩ = some (.int .i64 X)) ∧ U1.heap.size < (U1.alloc (.cells #[.int .i64 T, .int .i64 X] 64)).heap.size from ⟨⟨by simp [go_sem], by simp [go_sem]⟩, by simp⟩)
                      generalize U1.alloc (.cells #[.int .i64 T, .int .i64 X] 64) = U2 at *
                      obtain ⟨⟨d0, d1⟩, hdb⟩ := HD.out
                      clear b0 hbb c1 c2 gl
                      have b0 := (HBX.out _ (HNEW.out.trans HN2.out)).1
                      have hbb := (HBX.out _ (HNEW.out.trans HN2.out)).2
                      obtain ⟨r1, r2⟩ := HPV.out _ (HN2.out)
                      have gl2 := HPG.out _ (HN2.out)
                      first | refine wp_region_at2 (by kernel_rfl) (by kernel_rfl) ?_ | refine wp_region_at (by kernel_rfl) (by kernel_rfl) ?_
                      repeat (go_big_quiet_step (fail))
                      refine wpQuiet_nil ?_
                      rintro U3 hq3
                      have HN3 := Lib.hid (show New U2 U3 from hq3)
                      have e1 := (HN3.out.cell (o := 1) hdb).trans d1
                      have hdb3 : U1.heap.size < U3.heap.size := Nat.lt_of_lt_of_le hdb HN3.out.size
                      clear hq3 d0 d1 hdb b0 hbb r1 r2 gl2
                      go_wp2_with fail
                      go_ret
                      exact ⟨ret_bool HF.out, HNW.out.trans (HN2.out.trans (by (repeat (first | exact HN3.out | exact New.refl _ | apply New.alloc | apply New.aft | apply New.drew | refine New.setCell ?_ ?_ _)); all_goals (first | done | (simp [size_aft]; done) | (simp [size_aft]; omega))))⟩
                    · have z6a : decide (L ≥ T) = false := decide_eq_false (by omega)
                      have z6b : decide (T ≤ L) = false := decide_eq_false (by omega)
                      have HV := Lib.hid (show ok (j + 1) = true by rw [HOk.out]; simp only [Bool.and_eq_true, decide_eq_true_eq]; omega)
                      have HGC := Lib.hid (fun w1 : World => ref_gcd G X w1 ⟨hgb.1, by omega⟩ ⟨by omega, by omega⟩)
                      go_upto_region 8 with fail
                      have HN2 := Lib.hid (show New U1 (U1.alloc (.cells #[.int .i64 T, .int .i64 X] 64)) from (New.refl U1).alloc _)
                      have HD := Lib.hid (show ((U1.alloc (.cells #[.int .i64 T, .int .i64 X] 64)).cell? ⟨U1.heap.size, 0, none⟩ = some (.int .i64 T) ∧ (U1.alloc (.cells #[.int .i64 T, .int .i64 X] 64)).cell? ⟨U1.heap.size, 1, none⟩ = some (.int .i64 X)) ∧ U1.heap.size < (U1.alloc (.cells #[.int .i64 T, .int .i64 X] 64)).heap.size from ⟨⟨by simp [go_sem], by simp [go_sem]⟩, by simp⟩)
                      generalize U1.alloc (.cells #[.int .i64 T, .int .i64 X] 64) = U2 at *
                      obtain ⟨⟨d0, d1⟩, hdb⟩ := HD.out
                      clear b0 hbb c1 c2 gl
                      have b0 := (HBX.out _ (HNEW.out.trans HN2.out)).1
                      have hbb := (HBX.out _ (HNEW.out.trans HN2.out)).2
                      obtain ⟨r1, r2⟩ := HPV.out _ (HN2.out)
                      have gl2 := HPG.out _ (HN2.out)
                      first | refine wp_region_at2 (by kernel_rfl) (by kernel_rfl) ?_ | refine wp_region_at (by kernel_rfl) (by kernel_rfl) ?_
                      repeat (go_big_quiet_step (fail))
                      refine wpQuiet_nil ?_
                      rintro U3 hq3
                      have HN3 := Lib.hid (show New U2 U3 from hq3)
                      have e1 := (HN3.out.cell (o := 1) hdb).trans d1
                      have hdb3 : U1.heap.size < U3.heap.size := Nat.lt_of_lt_of_le hdb HN3.out.size
                      clear hq3 d0 d1 hdb b0 hbb r1 r2 gl2
                      go_wp2_with (go_at_call 59; refine (HGC.out _).mono ?_; rintro e w4 ⟨rfl, hn4⟩; have HN4 := Lib.hid hn4; clear hn4)
                      go_roundw
                      case rel => exact ⟨(j + 1) + 1, by omega, by go_num, by rw [HGk.out], by rw [HSN.out, HALL.out, HV.out]; rfl, HNEW.out.trans (HN2.out.trans (HN3.out.trans (by (repeat (first | exact HN4.out | exact New.refl _ | apply New.alloc | apply New.aft | apply New.drew | refine New.setCell ?_ ?_ _)); all_goals (first | done | (simp [size_aft]; done) | (simp [size_aft]; omega)))))⟩
                      case measure => simp [intOf]; omega
        · obtain rfl : n = k := by omega
          have HF := Lib.hid (show (gc n == 1) = R by rw [HR.out, HALL.out]; simp)
          generalize gc n = G at *
          generalize hz : (G == 1) = z at *
          go_wp2_with fail
          go_ret
          exact ⟨ret_bool HF.out, HNW.out⟩

end Go.Proofs.Ytpjekinmcdglbaa
