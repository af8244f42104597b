/- Names: isLetter, isDigit, isName. -/
import Derived.Test.YtpjekinmcdglbaaGb
set_option linter.unusedSimpArgs false
set_option linter.unusedVariables false
set_option maxRecDepth 100000
namespace Go.Proofs.Ytpjekinmcdglbaa
open Go.RowKit

def lettB (x : Int) : Bool := decide (97 ≤ x) && decide (x ≤ 122)
def digB (x : Int) : Bool := decide (48 ≤ x) && decide (x ≤ 57)
theorem isLetter_c (x : Int) (w : World) : Calls Try.prog 94 #[.int .u8 x] w fun en w' => en = .returned (.bool (lettB x)) ∧ New w w' := by
  have H := Lib.hid (show lettB x = (decide (97 ≤ x) && decide (x ≤ 122)) from rfl)
  generalize lettB x = R at *
  by_cases h1 : 97 ≤ x <;> by_cases h2 : x ≤ 122 <;>
  · have HF := Lib.hid H.out
    simp only [h1, h2, decide_true, decide_false, Bool.and_true, Bool.and_false, Bool.false_and] at H
    go_enter Try.func94, Try.ntmps94
    go_wp2_with fail
    all_goals (go_ret; exact ⟨ret_bool (by rw [HF.out]; simp [h1, h2]), New.refl _⟩)
theorem isDigit_c (x : Int) (w : World) : Calls Try.prog 95 #[.int .u8 x] w fun en w' => en = .returned (.bool (digB x)) ∧ New w w' := by
  have H := Lib.hid (show digB x = (decide (48 ≤ x) && decide (x ≤ 57)) from rfl)
  generalize digB x = R at *
  by_cases h1 : 48 ≤ x <;> by_cases h2 : x ≤ 57 <;>
  · have HF := Lib.hid H.out
    go_enter Try.func95, Try.ntmps95
    go_wp2_with fail
    all_goals (go_ret; exact ⟨ret_bool (by rw [HF.out]; simp [h1, h2]), New.refl _⟩)

end Go.Proofs.Ytpjekinmcdglbaa
