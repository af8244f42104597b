/- Names: isName of the program, Name of the reference. -/
import Derived.Test.YtpjekinmcdglbaaCa
import Derived.Test.YtpjekinmcdglbaaGc
set_option linter.unusedSimpArgs false
set_option linter.unusedVariables false
set_option maxRecDepth 100000
namespace Go.Proofs.Ytpjekinmcdglbaa
open Go.RowKit

def bAt (s : ByteArray) (i : Nat) : Int := if h : i < s.size then ((s[i]'h).toNat : Int) else 0
theorem bAt_of (s : ByteArray) (i : Nat) (h : i < s.size) : ((s[i]'h).toNat : Int) = bAt s i := by unfold bAt; rw [dif_pos h]
def okC (s : ByteArray) (i : Nat) : Bool := (lettB (bAt s i) || digB (bAt s i)) || decide (bAt s i = 45)
def nameB (s : ByteArray) : Bool := ((decide (1 ≤ s.size) && decide (s.size ≤ 24)) && lettB (bAt s 0)) && (List.range s.size).all (okC s)

set_option maxHeartbeats 8000000 in
theorem isName_c (s : ByteArray) (w : World) : Calls Try.prog 90 #[.string s] w fun en w' => en = .returned (.bool (nameB s)) ∧ New w w' := by
  have HB := Lib.hid (show ∀ i (h : i < s.size), ((s[i]'h).toNat : Int) = bAt s i from bAt_of s)
  have HR := Lib.hid (show nameB s = (((decide (1 ≤ s.size) && decide (s.size ≤ 24)) && lettB (bAt s 0)) && (List.range s.size).all (okC s)) from rfl)
  have HO := Lib.hid (show ∀ i, okC s i = ((lettB (bAt s i) || digB (bAt s i)) || decide (bAt s i = 45)) from fun _ => rfl)
  have HLE := Lib.hid (fun (x : Int) (w1 : World) => isLetter_c x w1)
  have HDI := Lib.hid (fun (x : Int) (w1 : World) => isDigit_c x w1)
  have HNEW := Lib.hid (New.refl w)
  generalize nameB s = R at *
  generalize okC s = ok at *
  by_cases h1 : (s.size : Int) < 1
  · have HF := Lib.hid (show false = R by rw [HR.out, decide_eq_false (show ¬ 1 ≤ s.size by omega)]; rfl)
    go_enter Try.func90, Try.ntmps90
    go_wp2_with fail
    all_goals (go_ret; exact ⟨ret_bool HF.out, New.refl _⟩)
  · by_cases h4 : (24 : Int) < (s.size : Int)
    · have HF := Lib.hid (show false = R by rw [HR.out, decide_eq_false (show ¬ s.size ≤ 24 by omega)]; simp)
      go_enter Try.func90, Try.ntmps90
      go_wp2_with fail
      all_goals (go_ret; exact ⟨ret_bool HF.out, New.refl _⟩)
    · have hi0 : (0 : Int) < (s.size : Int) := by omega
      have hi0' : 0 < s.size := by omega
      have HB0 := Lib.hid (HB.out 0 hi0')
      rw [decide_eq_true (show 1 ≤ s.size by omega), decide_eq_true (show s.size ≤ 24 by omega)] at HR
      go_enter Try.func90, Try.ntmps90
      go_wp2_with fail
      go_at_call 94
      refine (HLE.out _ _).mono ?_
      rintro e w1 ⟨rfl, hn1⟩
      have HN1 := Lib.hid (HNEW.out.trans hn1)
      clear hn1
      rw [HB0.out]
      cases hl : lettB (bAt s 0)
      · have HF := Lib.hid (show false = R by rw [HR.out, hl]; rfl)
        go_wp2_with fail
        all_goals (go_ret; exact ⟨ret_bool HF.out, HN1.out⟩)
      · rw [hl] at HR
        go_wp2_with fail
        go_loopw [20] (fun i wr => ∃ k : Nat, k ≤ s.size ∧ i = .int .i64 k ∧ (List.range k).all ok = true ∧ New w wr) (fun i _ => s.size - (intOf i).toNat)
        case atStart => exact ⟨0, Nat.zero_le _, rfl, rfl, HN1.out⟩
        case round =>
          obtain ⟨k, hk, rfl, hall, hnew⟩ := hrel
          have HALL := Lib.hid hall
          have HNW := Lib.hid hnew
          clear hall hnew HN1
          by_cases hlt : k < s.size
          · have hk1 : (k : Int) < (s.size : Int) := by omega
            have HBk := Lib.hid (HB.out k hlt)
            have HOk := Lib.hid (HO.out k)
            have HSN := Lib.hid (all_snoc ok k)
            have HMS := Lib.hid (fun (e : ok k = false) => (by rw [HR.out, all_miss hlt e]; simp : R = false))
            go_wp2_with fail
            go_at_call 94
            refine (HLE.out _ _).mono ?_
            rintro e w2 ⟨rfl, hn2⟩
            have HN2 := Lib.hid (HNW.out.trans hn2)
            clear hn2
            rw [HBk.out]
            cases hl2 : lettB (bAt s k)
            · go_wp2_with fail
              go_at_call 95
              refine (HDI.out _ _).mono ?_
              rintro e w3 ⟨rfl, hn3⟩
              have HN3 := Lib.hid (HN2.out.trans hn3)
              clear hn3
              rw [HBk.out]
              cases hd2 : digB (bAt s k)
              · by_cases h45 : bAt s k = 45
                · have HV := Lib.hid (show ok k = true by rw [HOk.out, h45]; simp)
                  have hx : ((s[k]'hlt).toNat : Int) = 45 := HBk.out.trans h45
                  go_wp2_with fail
                  go_roundw
                  case rel => exact ⟨k + 1, by omega, by go_num, by rw [HSN.out, HALL.out, HV.out]; rfl, HN3.out⟩
                  case measure => simp [intOf]; omega
                · have HF := Lib.hid (show false = R from (HMS.out (by rw [HOk.out, hl2, hd2, decide_eq_false h45]; rfl)).symm)
                  have hx : ¬ ((s[k]'hlt).toNat : Int) = 45 := fun h => h45 (HBk.out.symm.trans h)
                  go_wp2_with fail
                  all_goals (go_ret; exact ⟨ret_bool HF.out, HN3.out⟩)
              · have HV := Lib.hid (show ok k = true by rw [HOk.out, hl2, hd2]; rfl)
                go_wp2_with fail
                go_roundw
                case rel => exact ⟨k + 1, by omega, by go_num, by rw [HSN.out, HALL.out, HV.out]; rfl, HN3.out⟩
                case measure => simp [intOf]; omega
            · have HV := Lib.hid (show ok k = true by rw [HOk.out, hl2]; rfl)
              go_wp2_with fail
              go_roundw
              case rel => exact ⟨k + 1, by omega, by go_num, by rw [HSN.out, HALL.out, HV.out]; rfl, HN2.out⟩
              case measure => simp [intOf]; omega
          · have hke : k = s.size := by omega
            have hk1 : ¬ (k : Int) < (s.size : Int) := by omega
            have HF := Lib.hid (show true = R by rw [HR.out, ← hke, HALL.out]; rfl)
            go_wp2_with fail
            all_goals (go_ret; exact ⟨ret_bool HF.out, HNW.out⟩)

set_option maxHeartbeats 8000000 in
theorem ref_name (s : ByteArray) (w : World) : Calls Try.prog 57 #[.string s] w fun en w' => en = .returned (.bool (nameB s)) ∧ New w w' := by
  have HB := Lib.hid (show ∀ i (h : i < s.size), ((s[i]'h).toNat : Int) = bAt s i from bAt_of s)
  have HR := Lib.hid (show nameB s = (((decide (1 ≤ s.size) && decide (s.size ≤ 24)) && (decide (97 ≤ bAt s 0) && decide (bAt s 0 ≤ 122))) && (List.range s.size).all (okC s)) from rfl)
  have HO := Lib.hid (show ∀ i, okC s i = (((decide (97 ≤ bAt s i) && decide (bAt s i ≤ 122)) || (decide (48 ≤ bAt s i) && decide (bAt s i ≤ 57))) || decide (bAt s i = 45)) from fun _ => rfl)
  have HNEW := Lib.hid (New.refl w)
  generalize nameB s = R at *
  generalize okC s = ok at *
  by_cases h1 : (s.size : Int) < 1
  · have HF := Lib.hid (show false = R by rw [HR.out, decide_eq_false (show ¬ 1 ≤ s.size by omega)]; rfl)
    go_enter Try.func57, Try.ntmps57
    go_wp2_with fail
    all_goals (go_ret; exact ⟨ret_bool HF.out, New.refl _⟩)
  · by_cases h4 : (24 : Int) < (s.size : Int)
    · have HF := Lib.hid (show false = R by rw [HR.out, decide_eq_false (show ¬ s.size ≤ 24 by omega)]; simp)
      go_enter Try.func57, Try.ntmps57
      go_wp2_with fail
      all_goals (go_ret; exact ⟨ret_bool HF.out, New.refl _⟩)
    · have hi0 : (0 : Int) < (s.size : Int) := by omega
      have hi0' : 0 < s.size := by omega
      have HB0 := Lib.hid (HB.out 0 hi0')
      obtain ⟨X0, hX0⟩ : ∃ X : Int, ((s[0]'hi0').toNat : Int) = X := ⟨_, rfl⟩
      have hb0 : bAt s 0 = X0 := HB0.out.symm.trans hX0
      rw [decide_eq_true (show 1 ≤ s.size by omega), decide_eq_true (show s.size ≤ 24 by omega), hb0] at HR
      clear hb0 HB0
      by_cases v1 : X0 < 97
      · have HF := Lib.hid (show false = R by rw [HR.out, decide_eq_false (show ¬ 97 ≤ X0 by omega)]; rfl)
        go_enter Try.func57, Try.ntmps57
        go_wp2_with fail
        all_goals (go_ret; exact ⟨ret_bool HF.out, HNEW.out⟩)
      · by_cases v2 : 122 < X0
        · have HF := Lib.hid (show false = R by rw [HR.out, decide_eq_false (show ¬ X0 ≤ 122 by omega)]; simp)
          go_enter Try.func57, Try.ntmps57
          go_wp2_with fail
          all_goals (go_ret; exact ⟨ret_bool HF.out, HNEW.out⟩)
        · rw [decide_eq_true (show 97 ≤ X0 by omega), decide_eq_true (show X0 ≤ 122 by omega)] at HR
          go_enter Try.func57, Try.ntmps57
          go_wp2_with fail
          clear hX0 v1 v2
          go_loopw [3] (fun i wr => ∃ k : Nat, k ≤ s.size ∧ i = .int .i64 k ∧ (List.range k).all ok = true ∧ New w wr) (fun i _ => s.size - (intOf i).toNat)
          case atStart => exact ⟨0, Nat.zero_le _, rfl, rfl, HNEW.out⟩
          case round =>
            obtain ⟨k, hk, rfl, hall, hnew⟩ := hrel
            have HALL := Lib.hid hall
            have HNW := Lib.hid hnew
            clear hall hnew
            by_cases hlt : k < s.size
            · have hk1 : (k : Int) < (s.size : Int) := by omega
              have HBk := Lib.hid (HB.out k hlt)
              have HSN := Lib.hid (all_snoc ok k)
              have HMS := Lib.hid (fun (e : ok k = false) => (by rw [HR.out, all_miss hlt e]; simp : R = false))
              obtain ⟨X, hX⟩ : ∃ X : Int, ((s[k]'hlt).toNat : Int) = X := ⟨_, rfl⟩
              have hbk : bAt s k = X := HBk.out.symm.trans hX
              have HOk := Lib.hid (HO.out k)
              rw [hbk] at HOk
              clear hbk HBk
              have hcases : (97 ≤ X ∧ X ≤ 122) ∨ (48 ≤ X ∧ X ≤ 57) ∨ X = 45 ∨ (¬ (97 ≤ X ∧ X ≤ 122) ∧ ¬ (48 ≤ X ∧ X ≤ 57) ∧ X ≠ 45) := by omega
              rcases hcases with h | h | h | h
              · obtain ⟨a1, a2⟩ := h
                have HV := Lib.hid (show ok k = true by rw [HOk.out, decide_eq_true a1, decide_eq_true a2]; rfl)
                go_wp2_with fail
                go_roundw
                case rel => exact ⟨k + 1, by omega, by go_num, by rw [HSN.out, HALL.out, HV.out]; rfl, HNW.out⟩
                case measure => simp [intOf]; omega
              · obtain ⟨a1, a2⟩ := h
                have a3 : X < 97 := by omega
                have HV := Lib.hid (show ok k = true by rw [HOk.out, decide_eq_true a1, decide_eq_true a2]; simp)
                go_wp2_with fail
                go_roundw
                case rel => exact ⟨k + 1, by omega, by go_num, by rw [HSN.out, HALL.out, HV.out]; rfl, HNW.out⟩
                case measure => simp [intOf]; omega
              · have a3 : X < 97 := by omega
                have a4 : X < 48 := by omega
                have HV := Lib.hid (show ok k = true by rw [HOk.out, decide_eq_true h]; simp)
                go_wp2_with fail
                go_roundw
                case rel => exact ⟨k + 1, by omega, by go_num, by rw [HSN.out, HALL.out, HV.out]; rfl, HNW.out⟩
                case measure => simp [intOf]; omega
              · obtain ⟨a1, a2, a3⟩ := h
                have HF := Lib.hid (show false = R from (HMS.out (by rw [HOk.out]; simp; omega)).symm)
                by_cases b1 : X < 97
                · by_cases b2 : X < 48
                  · go_wp2_with fail
                    all_goals (go_ret; exact ⟨ret_bool HF.out, HNW.out⟩)
                  · have b3 : 57 < X := by omega
                    go_wp2_with fail
                    all_goals (go_ret; exact ⟨ret_bool HF.out, HNW.out⟩)
                · have b4 : 122 < X := by omega
                  have b5 : ¬ X < 48 := by omega
                  have b6 : 57 < X := by omega
                  go_wp2_with fail
                  all_goals (go_ret; exact ⟨ret_bool HF.out, HNW.out⟩)
            · have hke : k = s.size := by omega
              have hk1 : ¬ (k : Int) < (s.size : Int) := by omega
              have HF := Lib.hid (show true = R by rw [HR.out, ← hke, HALL.out]; rfl)
              go_wp2_with fail
              all_goals (go_ret; exact ⟨ret_bool HF.out, HNW.out⟩)

end Go.Proofs.Ytpjekinmcdglbaa
