/- isLess: two fractions compared by products of 128 bits. -/
import Derived.Test.YtpjekinmcdglbaaLa
import Derived.Test.YtpjekinmcdglbaaCy
set_option linter.unusedSimpArgs false
set_option linter.unusedVariables false
set_option maxRecDepth 100000
namespace Go.Proofs.Ytpjekinmcdglbaa
open Go.RowKit

theorem mul_c (x y : Nat) (hx : x < 18446744073709551616) (hy : y < 18446744073709551616) (w : World) :
    Calls Try.prog 75 #[.int .u64 (x : Int), .int .u64 (y : Int)] w fun e w' => e = .returned (.tuple #[.int .u64 ((x * y / 18446744073709551616 : Nat) : Int), .int .u64 ((x * y % 18446744073709551616 : Nat) : Int)]) ∧ w' = w :=
  Any.bits_Mul64 Try.mul64 x y hx hy w
def lessB (a b c d : Nat) : Bool := decide (a * d < c * b)
set_option maxHeartbeats 8000000 in
theorem isLess_c (a b c d : Nat) (w : World) (ha : a ≤ 4000000000000000000) (hb : b ≤ 4000000000000000000) (hc : c ≤ 4000000000000000000) (hd : d ≤ 4000000000000000000) :
    Calls Try.prog 46 #[fv (a : Int) (b : Int), fv (c : Int) (d : Int)] w fun e w' => e = .returned (.bool (lessB a b c d)) ∧ New w w' := by
  have H1 := Lib.hid (fun w1 : World => mul_c a d (by omega) (by omega) w1)
  have H2 := Lib.hid (fun w1 : World => mul_c c b (by omega) (by omega) w1)
  have HR := Lib.hid (show lessB a b c d = decide (a * d < c * b) from rfl)
  have ra : IntKind.u64.wrap (a : Int) = (a : Int) := by rw [IntKind.wrap_u64]; omega
  have rb : IntKind.u64.wrap (b : Int) = (b : Int) := by rw [IntKind.wrap_u64]; omega
  have rc : IntKind.u64.wrap (c : Int) = (c : Int) := by rw [IntKind.wrap_u64]; omega
  have rd : IntKind.u64.wrap (d : Int) = (d : Int) := by rw [IntKind.wrap_u64]; omega
  generalize a * d = p at *
  generalize c * b = q at *
  generalize lessB a b c d = R at *
  obtain ⟨p1, hp1⟩ : ∃ x : Nat, x = p / 18446744073709551616 := ⟨_, rfl⟩
  obtain ⟨p2, hp2⟩ : ∃ x : Nat, x = p % 18446744073709551616 := ⟨_, rfl⟩
  obtain ⟨q1, hq1⟩ : ∃ x : Nat, x = q / 18446744073709551616 := ⟨_, rfl⟩
  obtain ⟨q2, hq2⟩ : ∃ x : Nat, x = q % 18446744073709551616 := ⟨_, rfl⟩
  rw [← hp1, ← hp2] at H1
  rw [← hq1, ← hq2] at H2
  have HPQ := Lib.hid (show (p < q ↔ (p1 < q1 ∨ p1 = q1 ∧ p2 < q2)) by omega)
  clear hp1 hp2 hq1 hq2 ha hb hc hd
  go_enter Try.func46, Try.ntmps46
  go_wp2_with fail
  go_at_call 75
  refine (H1.out _).mono ?_
  rintro e w2 ⟨rfl, rfl⟩
  go_wp2_with fail
  go_at_call 75
  refine (H2.out _).mono ?_
  rintro e w2 ⟨rfl, rfl⟩
  have HN := Lib.hid (((New.refl w).alloc (.cells #[.int .i64 (a : Int), .int .i64 (b : Int)] 29)).alloc (.cells #[.int .i64 (c : Int), .int .i64 (d : Int)] 29))
  by_cases h1 : p1 < q1
  · have HF := Lib.hid (show true = R by rw [HR.out, decide_eq_true (HPQ.out.2 (.inl h1))])
    have h1' : (p1 : Int) < (q1 : Int) := by omega
    go_wp2_with fail
    all_goals (go_ret; exact ⟨ret_bool HF.out, HN.out⟩)
  · have h1' : ¬ (p1 : Int) < (q1 : Int) := by omega
    by_cases h2 : p1 = q1
    · have h2' : (p1 : Int) = (q1 : Int) := by omega
      by_cases h3 : p2 < q2
      · have HF := Lib.hid (show true = R by rw [HR.out, decide_eq_true (HPQ.out.2 (.inr ⟨h2, h3⟩))])
        have h3' : (p2 : Int) < (q2 : Int) := by omega
        go_wp2_with fail
        all_goals (go_ret; exact ⟨ret_bool HF.out, HN.out⟩)
      · have HF := Lib.hid (show false = R by rw [HR.out, decide_eq_false (fun h => by have := HPQ.out.1 h; omega)])
        have h3' : ¬ (p2 : Int) < (q2 : Int) := by omega
        go_wp2_with fail
        all_goals (go_ret; exact ⟨ret_bool HF.out, HN.out⟩)
    · have HF := Lib.hid (show false = R by rw [HR.out, decide_eq_false (fun h => by have := HPQ.out.1 h; omega)])
      have h2' : ¬ (p1 : Int) = (q1 : Int) := by omega
      go_wp2_with fail
      all_goals (go_ret; exact ⟨ret_bool HF.out, HN.out⟩)

end Go.Proofs.Ytpjekinmcdglbaa
