/- Sums and products of shades, as both sides return them; a row of a frame. Each product and sum within 4000000000000000000 either way. -/
import Derived.Test.YtpjekinmcdglbaaGa
set_option linter.unusedSimpArgs false
set_option linter.unusedVariables false
set_option maxRecDepth 100000
namespace Go.Proofs.Ytpjekinmcdglbaa
open Go.RowKit

theorem wr {x : Int} (h : (-4000000000000000000 ≤ x ∧ x ≤ 4000000000000000000)) : IntKind.i64.wrap x = x := IntWalk.i64_in _ (by omega)

set_option maxHeartbeats 4000000 in
theorem plus_c (a b c d e f : Int) (w : World) (k0 : (-4000000000000000000 ≤ a + d ∧ a + d ≤ 4000000000000000000)) (k1 : (-4000000000000000000 ≤ b + e ∧ b + e ≤ 4000000000000000000)) (k2 : (-4000000000000000000 ≤ c + f ∧ c + f ≤ 4000000000000000000)) :
    Calls Try.prog 54 #[vv a b c, vv d e f] w fun en w' => en = .returned (vv (a + d) (b + e) (c + f)) ∧ New w w' := by
  have q0 := wr k0
  have q1 := wr k1
  have q2 := wr k2
  go_enter Try.func54, Try.ntmps54
  go_wp2_with fail
  all_goals (refine bodyPost_ret (v := vv (a + d) (b + e) (c + f)) (by simp [results, Try.results54, go_sem]) rfl ⟨rfl, (by (repeat (first | exact New.refl _ | apply New.alloc | apply New.aft | apply New.drew | refine New.setCell ?_ ?_ _)); all_goals (first | done | (simp [size_aft]; done) | (simp [size_aft]; omega)))⟩)

set_option maxHeartbeats 4000000 in
theorem times_c (a b c n : Int) (w : World) (k0 : (-4000000000000000000 ≤ n * a ∧ n * a ≤ 4000000000000000000)) (k1 : (-4000000000000000000 ≤ n * b ∧ n * b ≤ 4000000000000000000)) (k2 : (-4000000000000000000 ≤ n * c ∧ n * c ≤ 4000000000000000000)) :
    Calls Try.prog 55 #[vv a b c, .int .i64 n] w fun en w' => en = .returned (vv (n * a) (n * b) (n * c)) ∧ New w w' := by
  have q0 := wr k0
  have q1 := wr k1
  have q2 := wr k2
  go_enter Try.func55, Try.ntmps55
  go_wp2_with fail
  all_goals (refine bodyPost_ret (v := vv (n * a) (n * b) (n * c)) (by simp [results, Try.results55, go_sem]) rfl ⟨rfl, (by (repeat (first | exact New.refl _ | apply New.alloc | apply New.aft | apply New.drew | refine New.setCell ?_ ?_ _)); all_goals (first | done | (simp [size_aft]; done) | (simp [size_aft]; omega)))⟩)

set_option maxHeartbeats 4000000 in
theorem dot_c (a b c d e f : Int) (w : World) (k0 : (-4000000000000000000 ≤ a * d ∧ a * d ≤ 4000000000000000000)) (k1 : (-4000000000000000000 ≤ b * e ∧ b * e ≤ 4000000000000000000)) (k2 : (-4000000000000000000 ≤ c * f ∧ c * f ≤ 4000000000000000000)) (k3 : (-4000000000000000000 ≤ a * d + b * e ∧ a * d + b * e ≤ 4000000000000000000)) (k4 : (-4000000000000000000 ≤ a * d + b * e + c * f ∧ a * d + b * e + c * f ≤ 4000000000000000000)) :
    Calls Try.prog 67 #[vv a b c, vv d e f] w fun en w' => en = .returned (.int .i64 (a * d + b * e + c * f)) ∧ New w w' := by
  have q0 := wr k0
  have q1 := wr k1
  have q2 := wr k2
  have q3 := wr k3
  have q4 := wr k4
  go_enter Try.func67, Try.ntmps67
  go_wp2_with fail
  all_goals (go_ret; exact ⟨rfl, (by (repeat (first | exact New.refl _ | apply New.alloc | apply New.aft | apply New.drew | refine New.setCell ?_ ?_ _)); all_goals (first | done | (simp [size_aft]; done) | (simp [size_aft]; omega)))⟩)

set_option maxHeartbeats 4000000 in
theorem ref_dot (a b c d e f : Int) (w : World) (k0 : (-4000000000000000000 ≤ a * d ∧ a * d ≤ 4000000000000000000)) (k1 : (-4000000000000000000 ≤ b * e ∧ b * e ≤ 4000000000000000000)) (k2 : (-4000000000000000000 ≤ c * f ∧ c * f ≤ 4000000000000000000)) (k3 : (-4000000000000000000 ≤ a * d + b * e ∧ a * d + b * e ≤ 4000000000000000000)) (k4 : (-4000000000000000000 ≤ a * d + b * e + c * f ∧ a * d + b * e + c * f ≤ 4000000000000000000)) :
    Calls Try.prog 45 #[vv a b c, vv d e f] w fun en w' => en = .returned (.int .i64 (a * d + b * e + c * f)) ∧ New w w' := by
  have q0 := wr k0
  have q1 := wr k1
  have q2 := wr k2
  have q3 := wr k3
  have q4 := wr k4
  go_enter Try.func45, Try.ntmps45
  go_wp2_with fail
  all_goals (go_ret; exact ⟨rfl, (by (repeat (first | exact New.refl _ | apply New.alloc | apply New.aft | apply New.drew | refine New.setCell ?_ ?_ _)); all_goals (first | done | (simp [size_aft]; done) | (simp [size_aft]; omega)))⟩)

set_option maxHeartbeats 4000000 in
theorem rowOf_c (a b c : Int) (w : World) : Calls Try.prog 84 #[vv a b c] w fun en w' => en = .returned (.agg #[.int .i64 1, .int .i64 a, .int .i64 b, .int .i64 c]) ∧ New w w' := by
  go_enter Try.func84, Try.ntmps84
  go_wp2_with fail
  all_goals (refine bodyPost_ret (v := .agg #[.int .i64 1, .int .i64 a, .int .i64 b, .int .i64 c]) (by simp [results, Try.results84, go_sem]) rfl ⟨rfl, (by (repeat (first | exact New.refl _ | apply New.alloc | apply New.aft | apply New.drew | refine New.setCell ?_ ?_ _)); all_goals (first | done | (simp [size_aft]; done) | (simp [size_aft]; omega)))⟩)

end Go.Proofs.Ytpjekinmcdglbaa
