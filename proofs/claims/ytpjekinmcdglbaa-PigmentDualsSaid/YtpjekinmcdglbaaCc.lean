/- Shades: isShade of the program, shade of the reference. -/
import Derived.Test.YtpjekinmcdglbaaCa
import Derived.Test.YtpjekinmcdglbaaGc
set_option linter.unusedSimpArgs false
set_option linter.unusedVariables false
set_option maxRecDepth 100000
namespace Go.Proofs.Ytpjekinmcdglbaa
open Go.RowKit

def shB1 (x : Int) : Bool := decide (0 ≤ x) && decide (x ≤ 1000)
def shB (a b c : Int) : Bool := (shB1 a && shB1 b) && shB1 c
theorem shade1_c (x : Int) (w : World) : Calls Try.prog 80 #[.int .i64 x] w fun en w' => en = .returned (.bool (!shB1 x)) ∧ New w w' := by
  have H := Lib.hid (show shB1 x = (decide (0 ≤ x) && decide (x ≤ 1000)) from rfl)
  generalize shB1 x = R at *
  by_cases h1 : x < 0
  · have HF := Lib.hid (show true = !R by rw [H.out, decide_eq_false (show ¬ 0 ≤ x by omega)]; rfl)
    go_enter Try.func80, Try.ntmps80
    go_wp2_with fail
    all_goals (go_ret; exact ⟨ret_bool HF.out, New.refl _⟩)
  · by_cases h2 : 1000 < x
    · have HF := Lib.hid (show true = !R by rw [H.out, decide_eq_false (show ¬ x ≤ 1000 by omega)]; simp)
      go_enter Try.func80, Try.ntmps80
      go_wp2_with fail
      all_goals (go_ret; exact ⟨ret_bool HF.out, New.refl _⟩)
    · have HF := Lib.hid (show false = !R by rw [H.out, decide_eq_true (show 0 ≤ x by omega), decide_eq_true (show x ≤ 1000 by omega)]; rfl)
      go_enter Try.func80, Try.ntmps80
      go_wp2_with fail
      all_goals (go_ret; exact ⟨ret_bool HF.out, New.refl _⟩)

def lk3 (a b c : Int) (i : Nat) : Int := if i = 0 then a else if i = 1 then b else c
set_option maxHeartbeats 8000000 in
theorem index3_c (g : Nat) (a b c : Int) (w : World) (h0 : w.cell? ⟨g, 0, none⟩ = some (.int .i64 a)) (h1 : w.cell? ⟨g, 1, none⟩ = some (.int .i64 b)) (h2 : w.cell? ⟨g, 2, none⟩ = some (.int .i64 c)) (hg : g < w.heap.size) :
    Calls Try.prog 87 #[.slice (some ⟨g, 0, none⟩) 3 3, .func (.func 80) #[] #[]] w fun en w' => ∃ r, en = .returned (.int .i64 r) ∧ decide (0 ≤ r) = !(shB a b c) ∧ New w w' := by
  have HC := Lib.hid (show ∀ i, i < 3 → w.cell? ⟨g, i, none⟩ = some (.int .i64 (lk3 a b c i)) from fun i hi => by
    rcases i with _ | _ | _ | i
    · exact h0
    · exact h1
    · exact h2
    · omega)
  have HR := Lib.hid (show shB a b c = (List.range 3).all (fun i => shB1 (lk3 a b c i)) by simp [shB, List.range_succ, lk3, Bool.and_assoc])
  clear h0 h1 h2
  generalize shB a b c = R at *
  generalize lk3 a b c = L at *
  obtain ⟨ok, hok⟩ : ∃ ok : Nat → Bool, ok = fun i => shB1 (L i) := ⟨_, rfl⟩
  have HO := Lib.hid (show ∀ i, ok i = shB1 (L i) from fun i => by rw [hok])
  rw [← hok] at HR
  clear hok
  have HS := Lib.hid (fun (x : Int) (w1 : World) => shade1_c x w1)
  go_enter Try.func87, Try.ntmps87
  go_wp2_with fail
  go_loopw [8] (fun i wr => ∃ k : Nat, k ≤ 3 ∧ i = .int .i64 k ∧ (List.range k).all ok = true ∧ New w wr) (fun i _ => 3 - (intOf i).toNat)
  case atStart => exact ⟨0, Nat.zero_le _, rfl, rfl, New.refl _⟩
  case round =>
    obtain ⟨k, hk, rfl, hall, hnew⟩ := hrel
    have HALL := Lib.hid hall
    have HNW := Lib.hid hnew
    clear hall hnew
    by_cases hlt : k < 3
    · have hk1 : (k : Int) < 3 := by omega
      have c0 := (HNW.out.cell (o := k) hg).trans (HC.out k hlt)
      have gl := Nat.lt_of_lt_of_le hg HNW.out.size
      have HOk := Lib.hid (HO.out k)
      have HSN := Lib.hid (all_snoc ok k)
      have HMS := Lib.hid (fun (e : ok k = false) => (by rw [HR.out, all_miss hlt e] : R = false))
      generalize L k = X at *
      go_wp2_with fail
      go_at_call 80
      refine (HS.out _ _).mono ?_
      rintro e w2 ⟨rfl, hn2⟩
      have HN2 := Lib.hid (HNW.out.trans hn2)
      clear hn2 c0
      cases hl2 : shB1 X
      · have HF := Lib.hid (HMS.out (by rw [HOk.out, hl2]))
        go_wp2_with fail
        all_goals (go_ret; exact ⟨_, rfl, by rw [HF.out]; simp, HN2.out⟩)
      · have HV := Lib.hid (show ok k = true by rw [HOk.out, hl2])
        go_wp2_with fail
        go_roundw
        case rel => exact ⟨k + 1, by omega, by go_num, by rw [HSN.out, HALL.out, HV.out]; rfl, HN2.out⟩
        case measure => simp [intOf]; omega
    · have hke : k = 3 := by omega
      have hk1 : ¬ (k : Int) < 3 := by omega
      have HF := Lib.hid (show R = true by rw [HR.out, ← hke, HALL.out])
      go_wp2_with fail
      all_goals (go_ret; exact ⟨_, rfl, by rw [HF.out]; simp, HNW.out⟩)

set_option maxHeartbeats 8000000 in
theorem contains3_c (g : Nat) (a b c : Int) (w : World) (h0 : w.cell? ⟨g, 0, none⟩ = some (.int .i64 a)) (h1 : w.cell? ⟨g, 1, none⟩ = some (.int .i64 b)) (h2 : w.cell? ⟨g, 2, none⟩ = some (.int .i64 c)) (hg : g < w.heap.size) :
    Calls Try.prog 71 #[.slice (some ⟨g, 0, none⟩) 3 3, .func (.func 80) #[] #[]] w fun en w' => en = .returned (.bool (!(shB a b c))) ∧ New w w' := by
  have HI := Lib.hid (index3_c g a b c w h0 h1 h2 hg)
  clear h0 h1 h2
  generalize shB a b c = R at *
  go_enter Try.func71, Try.ntmps71
  go_wp2_with fail
  go_at_call 87
  refine HI.out.mono ?_
  rintro e w2 ⟨r, rfl, hr, hn2⟩
  have HN2 := Lib.hid hn2
  have HRR := Lib.hid hr
  clear hn2 hr
  go_wp2_with fail
  all_goals (go_ret; exact ⟨ret_bool HRR.out, HN2.out⟩)

set_option maxHeartbeats 8000000 in
theorem isShade_c (a b c : Int) (w : World) :
    Calls Try.prog 60 #[vv a b c] w fun en w' => en = .returned (.bool (shB a b c)) ∧ New w w' := by
  have HI := Lib.hid (fun (g : Nat) (w1 : World) h0 h1 h2 hg => contains3_c g a b c w1 h0 h1 h2 hg)
  generalize shB a b c = R at *
  go_enter Try.func60, Try.ntmps60
  go_wp2_with fail
  go_at_call 71
  refine (HI.out w.heap.size _ (by simp [go_sem]) (by simp [go_sem]) (by simp [go_sem]) (by simp [go_sem])).mono ?_
  rintro e w2 ⟨rfl, hn2⟩
  have HN2 := Lib.hid (((New.refl w).alloc _).trans hn2)
  clear hn2
  go_wp2_with fail
  all_goals (go_ret; exact ⟨ret_bool (by cases R <;> rfl), HN2.out⟩)

set_option maxHeartbeats 8000000 in
theorem ref_shade (a b c : Int) (w : World) :
    Calls Try.prog 58 #[vv a b c] w fun en w' => en = .returned (.bool (shB a b c)) ∧ New w w' := by
  have HR := Lib.hid (show shB a b c = (List.range 3).all (fun i => shB1 (lk3 a b c i)) by simp [shB, List.range_succ, lk3, Bool.and_assoc])
  have HC := Lib.hid (show ∀ (W : World) (t : TypeId) i, i < 3 → (W.alloc (.cells #[.int .i64 a, .int .i64 b, .int .i64 c] t)).cell? ⟨W.heap.size, i, none⟩ = some (.int .i64 (lk3 a b c i)) from fun W t i hi => by
    rcases i with _ | _ | _ | i
    · simp [go_sem, lk3]
    · simp [go_sem, lk3]
    · simp [go_sem, lk3]
    · omega)
  generalize shB a b c = R at *
  generalize lk3 a b c = L at *
  obtain ⟨ok, hok⟩ : ∃ ok : Nat → Bool, ok = fun i => shB1 (L i) := ⟨_, rfl⟩
  have HO := Lib.hid (show ∀ i, ok i = (decide (0 ≤ L i) && decide (L i ≤ 1000)) from fun i => by rw [hok]; rfl)
  rw [← hok] at HR
  clear hok
  go_enter Try.func58, Try.ntmps58
  go_wp2_with fail
  have HC1 := Lib.hid (fun i hi => HC.out w 37 i hi)
  have HN1 := Lib.hid (show New w (w.alloc (.cells #[.int .i64 a, .int .i64 b, .int .i64 c] 37)) from (New.refl _).alloc _)
  have hg : w.heap.size < (w.alloc (.cells #[.int .i64 a, .int .i64 b, .int .i64 c] 37)).heap.size := by simp [go_sem]
  generalize w.alloc (.cells #[.int .i64 a, .int .i64 b, .int .i64 c] 37) = W1 at *
  go_loopw [3] (fun i wr => ∃ k : Nat, k ≤ 3 ∧ i = .int .i64 k ∧ (List.range k).all ok = true ∧ New W1 wr) (fun i _ => 3 - (intOf i).toNat)
  case atStart => exact ⟨0, Nat.zero_le _, rfl, rfl, New.refl _⟩
  case round =>
    obtain ⟨k, hk, rfl, hall, hnew⟩ := hrel
    have HALL := Lib.hid hall
    have HNW := Lib.hid hnew
    clear hall hnew
    by_cases hlt : k < 3
    · have hk1 : (k : Int) < 3 := by omega
      have c0 := (HNW.out.cell (o := k) hg).trans (HC1.out k hlt)
      have gl := Nat.lt_of_lt_of_le hg HNW.out.size
      have HOk := Lib.hid (HO.out k)
      have HSN := Lib.hid (all_snoc ok k)
      have HMS := Lib.hid (fun (e : ok k = false) => (by rw [HR.out, all_miss hlt e] : R = false))
      generalize L k = X at *
      by_cases v1 : X < 0
      · have HF := Lib.hid (show false = R from (HMS.out (by rw [HOk.out, decide_eq_false (show ¬ 0 ≤ X by omega)]; rfl)).symm)
        go_wp2_with fail
        all_goals (go_ret; exact ⟨ret_bool HF.out, HN1.out.trans HNW.out⟩)
      · by_cases v2 : 1000 < X
        · have HF := Lib.hid (show false = R from (HMS.out (by rw [HOk.out, decide_eq_false (show ¬ X ≤ 1000 by omega)]; simp)).symm)
          go_wp2_with fail
          all_goals (go_ret; exact ⟨ret_bool HF.out, HN1.out.trans HNW.out⟩)
        · have HV := Lib.hid (show ok k = true by rw [HOk.out, decide_eq_true (show 0 ≤ X by omega), decide_eq_true (show X ≤ 1000 by omega)]; rfl)
          go_wp2_with fail
          go_roundw
          case rel => exact ⟨k + 1, by omega, by go_num, by rw [HSN.out, HALL.out, HV.out]; rfl, HNW.out⟩
          case measure => simp [intOf]; omega
    · have hke : k = 3 := by omega
      have hk1 : ¬ (k : Int) < 3 := by omega
      have HF := Lib.hid (show true = R by rw [HR.out, ← hke, HALL.out])
      go_wp2_with fail
      all_goals (go_ret; exact ⟨ret_bool HF.out, HN1.out.trans HNW.out⟩)

end Go.Proofs.Ytpjekinmcdglbaa
