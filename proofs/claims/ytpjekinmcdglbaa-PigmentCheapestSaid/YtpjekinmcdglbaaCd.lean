/- Names: isName of the program, Name of the reference. · Shades: isShade of the program, shade of the reference. · One tint: isTint. -/
import Derived.Test.YtpjekinmcdglbaaCy
import Derived.Test.YtpjekinmcdglbaaCe

section
set_option linter.unusedSimpArgs false
set_option linter.unusedVariables false
set_option maxRecDepth 100000
namespace Go.Proofs.Ytpjekinmcdglbaa
open Go.RowKit

def bAt (s : ByteArray) (i : Nat) : Int := if h : i < s.size then ((s[i]'h).toNat : Int) else 0
theorem bAt_of (s : ByteArray) (i : Nat) (h : i < s.size) : ((s[i]'h).toNat : Int) = bAt s i := by unfold bAt; rw [dif_pos h]
def okC (s : ByteArray) (i : Nat) : Bool := (lettB (bAt s i) || digB (bAt s i)) || decide (bAt s i = 45)
def nameB (s : ByteArray) : Bool := ((decide (1 ≤ s.size) && decide (s.size ≤ 24)) && lettB (bAt s 0)) && (List.range s.size).all (okC s)

set_option maxHeartbeats 8000000 in
theorem isName_c (s : ByteArray) (w : World) : Calls Try.prog 90 #[.string s] w fun en w' => en = .returned (.bool (nameB s)) ∧ New w w' := by
  have HB := Lib.hid (show ∀ i (h : i < s.size), ((s[i]'h).toNat : Int) = bAt s i from bAt_of s)
  have HR := Lib.hid (show nameB s = (((decide (1 ≤ s.size) && decide (s.size ≤ 24)) && lettB (bAt s 0)) && (List.range s.size).all (okC s)) from rfl)
  have HO := Lib.hid (show ∀ i, okC s i = ((lettB (bAt s i) || digB (bAt s i)) || decide (bAt s i = 45)) from fun _ => rfl)
  have HLE := Lib.hid (fun (x : Int) (w1 : World) => isLetter_c x w1)
  have HDI := Lib.hid (fun (x : Int) (w1 : World) => isDigit_c x w1)
  have HNEW := Lib.hid (New.refl w)
  generalize nameB s = R at *
  generalize okC s = ok at *
  by_cases h1 : (s.size : Int) < 1
  · have HF := Lib.hid (show false = R by rw [HR.out, decide_eq_false (show ¬ 1 ≤ s.size by omega)]; rfl)
    go_enter Try.func90, Try.ntmps90
    go_wp2_with fail
    all_goals (go_ret; exact ⟨ret_bool HF.out, New.refl _⟩)
  · by_cases h4 : (24 : Int) < (s.size : Int)
    · have HF := Lib.hid (show false = R by rw [HR.out, decide_eq_false (show ¬ s.size ≤ 24 by omega)]; simp)
      go_enter Try.func90, Try.ntmps90
      go_wp2_with fail
      all_goals (go_ret; exact ⟨ret_bool HF.out, New.refl _⟩)
    · have hi0 : (0 : Int) < (s.size : Int) := by omega
      have hi0' : 0 < s.size := by omega
      have HB0 := Lib.hid (HB.out 0 hi0')
      rw [decide_eq_true (show 1 ≤ s.size by omega), decide_eq_true (show s.size ≤ 24 by omega)] at HR
      go_enter Try.func90, Try.ntmps90
      go_wp2_with fail
      go_at_call 94
      refine (HLE.out _ _).mono ?_
      rintro e w1 ⟨rfl, hn1⟩
      have HN1 := Lib.hid (HNEW.out.trans hn1)
      clear hn1
      rw [HB0.out]
      cases hl : lettB (bAt s 0)
      · have HF := Lib.hid (show false = R by rw [HR.out, hl]; rfl)
        go_wp2_with fail
        all_goals (go_ret; exact ⟨ret_bool HF.out, HN1.out⟩)
      · rw [hl] at HR
        go_wp2_with fail
        go_loopw [20] (fun i wr => ∃ k : Nat, k ≤ s.size ∧ i = .int .i64 k ∧ (List.range k).all ok = true ∧ New w wr) (fun i _ => s.size - (intOf i).toNat)
        case atStart => exact ⟨0, Nat.zero_le _, rfl, rfl, HN1.out⟩
        case round =>
          obtain ⟨k, hk, rfl, hall, hnew⟩ := hrel
          have HALL := Lib.hid hall
          have HNW := Lib.hid hnew
          clear hall hnew HN1
          by_cases hlt : k < s.size
          · have hk1 : (k : Int) < (s.size : Int) := by omega
            have HBk := Lib.hid (HB.out k hlt)
            have HOk := Lib.hid (HO.out k)
            have HSN := Lib.hid (all_snoc ok k)
            have HMS := Lib.hid (fun (e : ok k = false) => (by rw [HR.out, all_miss hlt e]; simp : R = false))
            go_wp2_with fail
            go_at_call 94
            refine (HLE.out _ _).mono ?_
            rintro e w2 ⟨rfl, hn2⟩
            have HN2 := Lib.hid (HNW.out.trans hn2)
            clear hn2
            rw [HBk.out]
            cases hl2 : lettB (bAt s k)
            · go_wp2_with fail
              go_at_call 95
              refine (HDI.out _ _).mono ?_
              rintro e w3 ⟨rfl, hn3⟩
              have HN3 := Lib.hid (HN2.out.trans hn3)
              clear hn3
              rw [HBk.out]
              cases hd2 : digB (bAt s k)
              · by_cases h45 : bAt s k = 45
                · have HV := Lib.hid (show ok k = true by rw [HOk.out, h45]; simp)
                  have hx : ((s[k]'hlt).toNat : Int) = 45 := HBk.out.trans h45
                  go_wp2_with fail
                  go_roundw
                  case rel => exact ⟨k + 1, by omega, by go_num, by rw [HSN.out, HALL.out, HV.out]; rfl, HN3.out⟩
                  case measure => simp [intOf]; omega
                · have HF := Lib.hid (show false = R from (HMS.out (by rw [HOk.out, hl2, hd2, decide_eq_false h45]; rfl)).symm)
                  have hx : ¬ ((s[k]'hlt).toNat : Int) = 45 := fun h => h45 (HBk.out.symm.trans h)
                  go_wp2_with fail
                  all_goals (go_ret; exact ⟨ret_bool HF.out, HN3.out⟩)
              · have HV := Lib.hid (show ok k = true by rw [HOk.out, hl2, hd2]; rfl)
                go_wp2_with fail
                go_roundw
                case rel => exact ⟨k + 1, by omega, by go_num, by rw [HSN.out, HALL.out, HV.out]; rfl, HN3.out⟩
                case measure => simp [intOf]; omega
            · have HV := Lib.hid (show ok k = true by rw [HOk.out, hl2]; rfl)
              go_wp2_with fail
              go_roundw
              case rel => exact ⟨k + 1, by omega, by go_num, by rw [HSN.out, HALL.out, HV.out]; rfl, HN2.out⟩
              case measure => simp [intOf]; omega
          · have hke : k = s.size := by omega
            have hk1 : ¬ (k : Int) < (s.size : Int) := by omega
            have HF := Lib.hid (show true = R by rw [HR.out, ← hke, HALL.out]; rfl)
            go_wp2_with fail
            all_goals (go_ret; exact ⟨ret_bool HF.out, HNW.out⟩)

set_option maxHeartbeats 8000000 in
theorem ref_name (s : ByteArray) (w : World) : Calls Try.prog 57 #[.string s] w fun en w' => en = .returned (.bool (nameB s)) ∧ New w w' := by
  have HB := Lib.hid (show ∀ i (h : i < s.size), ((s[i]'h).toNat : Int) = bAt s i from bAt_of s)
  have HR := Lib.hid (show nameB s = (((decide (1 ≤ s.size) && decide (s.size ≤ 24)) && (decide (97 ≤ bAt s 0) && decide (bAt s 0 ≤ 122))) && (List.range s.size).all (okC s)) from rfl)
  have HO := Lib.hid (show ∀ i, okC s i = (((decide (97 ≤ bAt s i) && decide (bAt s i ≤ 122)) || (decide (48 ≤ bAt s i) && decide (bAt s i ≤ 57))) || decide (bAt s i = 45)) from fun _ => rfl)
  have HNEW := Lib.hid (New.refl w)
  generalize nameB s = R at *
  generalize okC s = ok at *
  by_cases h1 : (s.size : Int) < 1
  · have HF := Lib.hid (show false = R by rw [HR.out, decide_eq_false (show ¬ 1 ≤ s.size by omega)]; rfl)
    go_enter Try.func57, Try.ntmps57
    go_wp2_with fail
    all_goals (go_ret; exact ⟨ret_bool HF.out, New.refl _⟩)
  · by_cases h4 : (24 : Int) < (s.size : Int)
    · have HF := Lib.hid (show false = R by rw [HR.out, decide_eq_false (show ¬ s.size ≤ 24 by omega)]; simp)
      go_enter Try.func57, Try.ntmps57
      go_wp2_with fail
      all_goals (go_ret; exact ⟨ret_bool HF.out, New.refl _⟩)
    · have hi0 : (0 : Int) < (s.size : Int) := by omega
      have hi0' : 0 < s.size := by omega
      have HB0 := Lib.hid (HB.out 0 hi0')
      obtain ⟨X0, hX0⟩ : ∃ X : Int, ((s[0]'hi0').toNat : Int) = X := ⟨_, rfl⟩
      have hb0 : bAt s 0 = X0 := HB0.out.symm.trans hX0
      rw [decide_eq_true (show 1 ≤ s.size by omega), decide_eq_true (show s.size ≤ 24 by omega), hb0] at HR
      clear hb0 HB0
      by_cases v1 : X0 < 97
      · have HF := Lib.hid (show false = R by rw [HR.out, decide_eq_false (show ¬ 97 ≤ X0 by omega)]; rfl)
        go_enter Try.func57, Try.ntmps57
        go_wp2_with fail
        all_goals (go_ret; exact ⟨ret_bool HF.out, HNEW.out⟩)
      · by_cases v2 : 122 < X0
        · have HF := Lib.hid (show false = R by rw [HR.out, decide_eq_false (show ¬ X0 ≤ 122 by omega)]; simp)
          go_enter Try.func57, Try.ntmps57
          go_wp2_with fail
          all_goals (go_ret; exact ⟨ret_bool HF.out, HNEW.out⟩)
        · rw [decide_eq_true (show 97 ≤ X0 by omega), decide_eq_true (show X0 ≤ 122 by omega)] at HR
          go_enter Try.func57, Try.ntmps57
          go_wp2_with fail
          clear hX0 v1 v2
          go_loopw [3] (fun i wr => ∃ k : Nat, k ≤ s.size ∧ i = .int .i64 k ∧ (List.range k).all ok = true ∧ New w wr) (fun i _ => s.size - (intOf i).toNat)
          case atStart => exact ⟨0, Nat.zero_le _, rfl, rfl, HNEW.out⟩
          case round =>
            obtain ⟨k, hk, rfl, hall, hnew⟩ := hrel
            have HALL := Lib.hid hall
            have HNW := Lib.hid hnew
            clear hall hnew
            by_cases hlt : k < s.size
            · have hk1 : (k : Int) < (s.size : Int) := by omega
              have HBk := Lib.hid (HB.out k hlt)
              have HSN := Lib.hid (all_snoc ok k)
              have HMS := Lib.hid (fun (e : ok k = false) => (by rw [HR.out, all_miss hlt e]; simp : R = false))
              obtain ⟨X, hX⟩ : ∃ X : Int, ((s[k]'hlt).toNat : Int) = X := ⟨_, rfl⟩
              have hbk : bAt s k = X := HBk.out.symm.trans hX
              have HOk := Lib.hid (HO.out k)
              rw [hbk] at HOk
              clear hbk HBk
              have hcases : (97 ≤ X ∧ X ≤ 122) ∨ (48 ≤ X ∧ X ≤ 57) ∨ X = 45 ∨ (¬ (97 ≤ X ∧ X ≤ 122) ∧ ¬ (48 ≤ X ∧ X ≤ 57) ∧ X ≠ 45) := by omega
              rcases hcases with h | h | h | h
              · obtain ⟨a1, a2⟩ := h
                have HV := Lib.hid (show ok k = true by rw [HOk.out, decide_eq_true a1, decide_eq_true a2]; rfl)
                go_wp2_with fail
                go_roundw
                case rel => exact ⟨k + 1, by omega, by go_num, by rw [HSN.out, HALL.out, HV.out]; rfl, HNW.out⟩
                case measure => simp [intOf]; omega
              · obtain ⟨a1, a2⟩ := h
                have a3 : X < 97 := by omega
                have HV := Lib.hid (show ok k = true by rw [HOk.out, decide_eq_true a1, decide_eq_true a2]; simp)
                go_wp2_with fail
                go_roundw
                case rel => exact ⟨k + 1, by omega, by go_num, by rw [HSN.out, HALL.out, HV.out]; rfl, HNW.out⟩
                case measure => simp [intOf]; omega
              · have a3 : X < 97 := by omega
                have a4 : X < 48 := by omega
                have HV := Lib.hid (show ok k = true by rw [HOk.out, decide_eq_true h]; simp)
                go_wp2_with fail
                go_roundw
                case rel => exact ⟨k + 1, by omega, by go_num, by rw [HSN.out, HALL.out, HV.out]; rfl, HNW.out⟩
                case measure => simp [intOf]; omega
              · obtain ⟨a1, a2, a3⟩ := h
                have HF := Lib.hid (show false = R from (HMS.out (by rw [HOk.out]; simp; omega)).symm)
                by_cases b1 : X < 97
                · by_cases b2 : X < 48
                  · go_wp2_with fail
                    all_goals (go_ret; exact ⟨ret_bool HF.out, HNW.out⟩)
                  · have b3 : 57 < X := by omega
                    go_wp2_with fail
                    all_goals (go_ret; exact ⟨ret_bool HF.out, HNW.out⟩)
                · have b4 : 122 < X := by omega
                  have b5 : ¬ X < 48 := by omega
                  have b6 : 57 < X := by omega
                  go_wp2_with fail
                  all_goals (go_ret; exact ⟨ret_bool HF.out, HNW.out⟩)
            · have hke : k = s.size := by omega
              have hk1 : ¬ (k : Int) < (s.size : Int) := by omega
              have HF := Lib.hid (show true = R by rw [HR.out, ← hke, HALL.out]; rfl)
              go_wp2_with fail
              all_goals (go_ret; exact ⟨ret_bool HF.out, HNW.out⟩)

end Go.Proofs.Ytpjekinmcdglbaa
end

section
set_option linter.unusedSimpArgs false
set_option linter.unusedVariables false
set_option maxRecDepth 100000
namespace Go.Proofs.Ytpjekinmcdglbaa
open Go.RowKit

def shB1 (x : Int) : Bool := decide (0 ≤ x) && decide (x ≤ 1000)
def shB (a b c : Int) : Bool := (shB1 a && shB1 b) && shB1 c
theorem shade1_c (x : Int) (w : World) : Calls Try.prog 80 #[.int .i64 x] w fun en w' => en = .returned (.bool (!shB1 x)) ∧ New w w' := by
  have H := Lib.hid (show shB1 x = (decide (0 ≤ x) && decide (x ≤ 1000)) from rfl)
  generalize shB1 x = R at *
  by_cases h1 : x < 0
  · have HF := Lib.hid (show true = !R by rw [H.out, decide_eq_false (show ¬ 0 ≤ x by omega)]; rfl)
    go_enter Try.func80, Try.ntmps80
    go_wp2_with fail
    all_goals (go_ret; exact ⟨ret_bool HF.out, New.refl _⟩)
  · by_cases h2 : 1000 < x
    · have HF := Lib.hid (show true = !R by rw [H.out, decide_eq_false (show ¬ x ≤ 1000 by omega)]; simp)
      go_enter Try.func80, Try.ntmps80
      go_wp2_with fail
      all_goals (go_ret; exact ⟨ret_bool HF.out, New.refl _⟩)
    · have HF := Lib.hid (show false = !R by rw [H.out, decide_eq_true (show 0 ≤ x by omega), decide_eq_true (show x ≤ 1000 by omega)]; rfl)
      go_enter Try.func80, Try.ntmps80
      go_wp2_with fail
      all_goals (go_ret; exact ⟨ret_bool HF.out, New.refl _⟩)

def lk3 (a b c : Int) (i : Nat) : Int := if i = 0 then a else if i = 1 then b else c
set_option maxHeartbeats 8000000 in
theorem index3_c (g : Nat) (a b c : Int) (w : World) (h0 : w.cell? ⟨g, 0, none⟩ = some (.int .i64 a)) (h1 : w.cell? ⟨g, 1, none⟩ = some (.int .i64 b)) (h2 : w.cell? ⟨g, 2, none⟩ = some (.int .i64 c)) (hg : g < w.heap.size) :
    Calls Try.prog 87 #[.slice (some ⟨g, 0, none⟩) 3 3, .func (.func 80) #[] #[]] w fun en w' => ∃ r, en = .returned (.int .i64 r) ∧ decide (0 ≤ r) = !(shB a b c) ∧ New w w' := by
  have HC := Lib.hid (show ∀ i, i < 3 → w.cell? ⟨g, i, none⟩ = some (.int .i64 (lk3 a b c i)) from fun i hi => by
    rcases i with _ | _ | _ | i
    · exact h0
    · exact h1
    · exact h2
    · omega)
  have HR := Lib.hid (show shB a b c = (List.range 3).all (fun i => shB1 (lk3 a b c i)) by simp [shB, List.range_succ, lk3, Bool.and_assoc])
  clear h0 h1 h2
  generalize shB a b c = R at *
  generalize lk3 a b c = L at *
  obtain ⟨ok, hok⟩ : ∃ ok : Nat → Bool, ok = fun i => shB1 (L i) := ⟨_, rfl⟩
  have HO := Lib.hid (show ∀ i, ok i = shB1 (L i) from fun i => by rw [hok])
  rw [← hok] at HR
  clear hok
  have HS := Lib.hid (fun (x : Int) (w1 : World) => shade1_c x w1)
  go_enter Try.func87, Try.ntmps87
  go_wp2_with fail
  go_loopw [8] (fun i wr => ∃ k : Nat, k ≤ 3 ∧ i = .int .i64 k ∧ (List.range k).all ok = true ∧ New w wr) (fun i _ => 3 - (intOf i).toNat)
  case atStart => exact ⟨0, Nat.zero_le _, rfl, rfl, New.refl _⟩
  case round =>
    obtain ⟨k, hk, rfl, hall, hnew⟩ := hrel
    have HALL := Lib.hid hall
    have HNW := Lib.hid hnew
    clear hall hnew
    by_cases hlt : k < 3
    · have hk1 : (k : Int) < 3 := by omega
      have c0 := (HNW.out.cell (o := k) hg).trans (HC.out k hlt)
      have gl := Nat.lt_of_lt_of_le hg HNW.out.size
      have HOk := Lib.hid (HO.out k)
      have HSN := Lib.hid (all_snoc ok k)
      have HMS := Lib.hid (fun (e : ok k = false) => (by rw [HR.out, all_miss hlt e] : R = false))
      generalize L k = X at *
      go_wp2_with fail
      go_at_call 80
      refine (HS.out _ _).mono ?_
      rintro e w2 ⟨rfl, hn2⟩
      have HN2 := Lib.hid (HNW.out.trans hn2)
      clear hn2 c0
      cases hl2 : shB1 X
      · have HF := Lib.hid (HMS.out (by rw [HOk.out, hl2]))
        go_wp2_with fail
        all_goals (go_ret; exact ⟨_, rfl, by rw [HF.out]; simp, HN2.out⟩)
      · have HV := Lib.hid (show ok k = true by rw [HOk.out, hl2])
        go_wp2_with fail
        go_roundw
        case rel => exact ⟨k + 1, by omega, by go_num, by rw [HSN.out, HALL.out, HV.out]; rfl, HN2.out⟩
        case measure => simp [intOf]; omega
    · have hke : k = 3 := by omega
      have hk1 : ¬ (k : Int) < 3 := by omega
      have HF := Lib.hid (show R = true by rw [HR.out, ← hke, HALL.out])
      go_wp2_with fail
      all_goals (go_ret; exact ⟨_, rfl, by rw [HF.out]; simp, HNW.out⟩)

set_option maxHeartbeats 8000000 in
theorem contains3_c (g : Nat) (a b c : Int) (w : World) (h0 : w.cell? ⟨g, 0, none⟩ = some (.int .i64 a)) (h1 : w.cell? ⟨g, 1, none⟩ = some (.int .i64 b)) (h2 : w.cell? ⟨g, 2, none⟩ = some (.int .i64 c)) (hg : g < w.heap.size) :
    Calls Try.prog 71 #[.slice (some ⟨g, 0, none⟩) 3 3, .func (.func 80) #[] #[]] w fun en w' => en = .returned (.bool (!(shB a b c))) ∧ New w w' := by
  have HI := Lib.hid (index3_c g a b c w h0 h1 h2 hg)
  clear h0 h1 h2
  generalize shB a b c = R at *
  go_enter Try.func71, Try.ntmps71
  go_wp2_with fail
  go_at_call 87
  refine HI.out.mono ?_
  rintro e w2 ⟨r, rfl, hr, hn2⟩
  have HN2 := Lib.hid hn2
  have HRR := Lib.hid hr
  clear hn2 hr
  go_wp2_with fail
  all_goals (go_ret; exact ⟨ret_bool HRR.out, HN2.out⟩)

set_option maxHeartbeats 8000000 in
theorem isShade_c (a b c : Int) (w : World) :
    Calls Try.prog 60 #[vv a b c] w fun en w' => en = .returned (.bool (shB a b c)) ∧ New w w' := by
  have HI := Lib.hid (fun (g : Nat) (w1 : World) h0 h1 h2 hg => contains3_c g a b c w1 h0 h1 h2 hg)
  generalize shB a b c = R at *
  go_enter Try.func60, Try.ntmps60
  go_wp2_with fail
  go_at_call 71
  refine (HI.out w.heap.size _ (by simp [go_sem]) (by simp [go_sem]) (by simp [go_sem]) (by simp [go_sem])).mono ?_
  rintro e w2 ⟨rfl, hn2⟩
  have HN2 := Lib.hid (((New.refl w).alloc _).trans hn2)
  clear hn2
  go_wp2_with fail
  all_goals (go_ret; exact ⟨ret_bool (by cases R <;> rfl), HN2.out⟩)

set_option maxHeartbeats 8000000 in
theorem ref_shade (a b c : Int) (w : World) :
    Calls Try.prog 58 #[vv a b c] w fun en w' => en = .returned (.bool (shB a b c)) ∧ New w w' := by
  have HR := Lib.hid (show shB a b c = (List.range 3).all (fun i => shB1 (lk3 a b c i)) by simp [shB, List.range_succ, lk3, Bool.and_assoc])
  have HC := Lib.hid (show ∀ (W : World) (t : TypeId) i, i < 3 → (W.alloc (.cells #[.int .i64 a, .int .i64 b, .int .i64 c] t)).cell? ⟨W.heap.size, i, none⟩ = some (.int .i64 (lk3 a b c i)) from fun W t i hi => by
    rcases i with _ | _ | _ | i
    · simp [go_sem, lk3]
    · simp [go_sem, lk3]
    · simp [go_sem, lk3]
    · omega)
  generalize shB a b c = R at *
  generalize lk3 a b c = L at *
  obtain ⟨ok, hok⟩ : ∃ ok : Nat → Bool, ok = fun i => shB1 (L i) := ⟨_, rfl⟩
  have HO := Lib.hid (show ∀ i, ok i = (decide (0 ≤ L i) && decide (L i ≤ 1000)) from fun i => by rw [hok]; rfl)
  rw [← hok] at HR
  clear hok
  go_enter Try.func58, Try.ntmps58
  go_wp2_with fail
  have HC1 := Lib.hid (fun i hi => HC.out w 37 i hi)
  have HN1 := Lib.hid (show New w (w.alloc (.cells #[.int .i64 a, .int .i64 b, .int .i64 c] 37)) from (New.refl _).alloc _)
  have hg : w.heap.size < (w.alloc (.cells #[.int .i64 a, .int .i64 b, .int .i64 c] 37)).heap.size := by simp [go_sem]
  generalize w.alloc (.cells #[.int .i64 a, .int .i64 b, .int .i64 c] 37) = W1 at *
  go_loopw [3] (fun i wr => ∃ k : Nat, k ≤ 3 ∧ i = .int .i64 k ∧ (List.range k).all ok = true ∧ New W1 wr) (fun i _ => 3 - (intOf i).toNat)
  case atStart => exact ⟨0, Nat.zero_le _, rfl, rfl, New.refl _⟩
  case round =>
    obtain ⟨k, hk, rfl, hall, hnew⟩ := hrel
    have HALL := Lib.hid hall
    have HNW := Lib.hid hnew
    clear hall hnew
    by_cases hlt : k < 3
    · have hk1 : (k : Int) < 3 := by omega
      have c0 := (HNW.out.cell (o := k) hg).trans (HC1.out k hlt)
      have gl := Nat.lt_of_lt_of_le hg HNW.out.size
      have HOk := Lib.hid (HO.out k)
      have HSN := Lib.hid (all_snoc ok k)
      have HMS := Lib.hid (fun (e : ok k = false) => (by rw [HR.out, all_miss hlt e] : R = false))
      generalize L k = X at *
      by_cases v1 : X < 0
      · have HF := Lib.hid (show false = R from (HMS.out (by rw [HOk.out, decide_eq_false (show ¬ 0 ≤ X by omega)]; rfl)).symm)
        go_wp2_with fail
        all_goals (go_ret; exact ⟨ret_bool HF.out, HN1.out.trans HNW.out⟩)
      · by_cases v2 : 1000 < X
        · have HF := Lib.hid (show false = R from (HMS.out (by rw [HOk.out, decide_eq_false (show ¬ X ≤ 1000 by omega)]; simp)).symm)
          go_wp2_with fail
          all_goals (go_ret; exact ⟨ret_bool HF.out, HN1.out.trans HNW.out⟩)
        · have HV := Lib.hid (show ok k = true by rw [HOk.out, decide_eq_true (show 0 ≤ X by omega), decide_eq_true (show X ≤ 1000 by omega)]; rfl)
          go_wp2_with fail
          go_roundw
          case rel => exact ⟨k + 1, by omega, by go_num, by rw [HSN.out, HALL.out, HV.out]; rfl, HNW.out⟩
          case measure => simp [intOf]; omega
    · have hke : k = 3 := by omega
      have hk1 : ¬ (k : Int) < 3 := by omega
      have HF := Lib.hid (show true = R by rw [HR.out, ← hke, HALL.out])
      go_wp2_with fail
      all_goals (go_ret; exact ⟨ret_bool HF.out, HN1.out.trans HNW.out⟩)

end Go.Proofs.Ytpjekinmcdglbaa
end

section
set_option linter.unusedSimpArgs false
set_option linter.unusedVariables false
set_option maxRecDepth 100000
namespace Go.Proofs.Ytpjekinmcdglbaa
open Go.RowKit

abbrev tv5 (s : ByteArray) (a b c p : Int) : Value := .agg #[.string s, .int .i64 a, .int .i64 b, .int .i64 c, .int .i64 p]
def tintB (s : ByteArray) (a b c p : Int) : Bool := ((nameB s && shB a b c) && decide (0 ≤ p)) && decide (p ≤ 10000)
set_option maxHeartbeats 8000000 in
theorem isTint_c (s : ByteArray) (a b c p : Int) (w : World) :
    Calls Try.prog 78 #[tv5 s a b c p] w fun en w' => en = .returned (.bool (tintB s a b c p)) ∧ New w w' := by
  have HR := Lib.hid (show tintB s a b c p = (((nameB s && shB a b c) && decide (0 ≤ p)) && decide (p ≤ 10000)) from rfl)
  have HN := Lib.hid (fun (w1 : World) => isName_c s w1)
  have HS := Lib.hid (fun (w1 : World) => isShade_c a b c w1)
  generalize tintB s a b c p = R at *
  generalize hnb : nameB s = nb at *
  generalize hsb : shB a b c = sb at *
  clear hnb hsb
  go_enter Try.func78, Try.ntmps78
  go_wp2_with fail
  go_at_call 90
  refine (HN.out _).mono ?_
  rintro e w2 ⟨rfl, hn2⟩
  have HN2 := Lib.hid (((New.refl w).alloc _).trans hn2)
  have hB : w2.heap[w.heap.size]? = some (.cells #[.string s, .int .i64 a, .int .i64 b, .int .i64 c, .int .i64 p] 59 (0, 0)) := (hn2.below.block _ (by simp)).trans (heap_alloc_new _ _)
  have c0 : w2.cell? ⟨w.heap.size, 1, none⟩ = some (.int .i64 a) := by simp [World.cell?, hB]
  have c1 : w2.cell? ⟨w.heap.size, 2, none⟩ = some (.int .i64 b) := by simp [World.cell?, hB]
  have c2 : w2.cell? ⟨w.heap.size, 3, none⟩ = some (.int .i64 c) := by simp [World.cell?, hB]
  have c3 : w2.cell? ⟨w.heap.size, 4, none⟩ = some (.int .i64 p) := by simp [World.cell?, hB]
  have HB := Lib.hid hB
  clear hn2 hB
  cases nb
  · have HF := Lib.hid (show false = R by rw [HR.out]; simp)
    go_wp2_with fail
    all_goals (go_ret; exact ⟨ret_bool HF.out, HN2.out⟩)
  · go_wp2_with fail
    go_at_call 60
    refine (HS.out _).mono ?_
    rintro e w3 ⟨rfl, hn3⟩
    have HN3 := Lib.hid (HN2.out.trans hn3)
    have hgl : w.heap.size < w2.heap.size := (Array.getElem?_eq_some_iff.1 HB.out).1
    have c4 := (hn3.cell (o := 4) hgl).trans c3
    clear hn3 c0 c1 c2 c3
    cases sb
    · have HF := Lib.hid (show false = R by rw [HR.out]; simp)
      go_wp2_with fail
      all_goals (go_ret; exact ⟨ret_bool HF.out, HN3.out⟩)
    · by_cases v1 : p < 0
      · have HF := Lib.hid (show false = R by rw [HR.out, decide_eq_false (show ¬ 0 ≤ p by omega)]; simp)
        have v1' : ¬ 0 ≤ p := by omega
        go_wp2_with fail
        all_goals (go_ret; exact ⟨ret_bool HF.out, HN3.out⟩)
      · have v1' : 0 ≤ p := by omega
        by_cases v2 : p ≤ 10000
        · have HF := Lib.hid (show true = R by rw [HR.out, decide_eq_true v1', decide_eq_true v2]; simp)
          go_wp2_with fail
          all_goals (go_ret; exact ⟨ret_bool HF.out, HN3.out⟩)
        · have HF := Lib.hid (show decide (p ≤ 10000) = R by rw [HR.out, decide_eq_true v1']; simp)
          go_wp2_with fail
          all_goals (go_ret; exact ⟨ret_bool HF.out, HN3.out⟩)

end Go.Proofs.Ytpjekinmcdglbaa
end
