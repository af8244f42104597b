/- An array of three fractions is equal to itself. -/
import Derived.Test.YtpjekinmcdglbaaCs
set_option linter.unusedSimpArgs false
set_option linter.unusedVariables false
set_option maxRecDepth 100000
namespace Go.Proofs.Ytpjekinmcdglbaa
open Go.RowKit

theorem fr3_part (i : Nat) (hi : i < 3) (a b c d e f : Int) (w : World) : (part 29 #[.int .i64 a, .int .i64 b, .int .i64 c, .int .i64 d, .int .i64 e, .int .i64 f] (i * 2)).run Try.prog w = .ok (.agg #[.int .i64 (if i = 0 then a else if i = 1 then c else e), .int .i64 (if i = 0 then b else if i = 1 then d else f)]) w := by
  have : i = 0 ∨ i = 1 ∨ i = 2 := by omega
  rcases this with rfl | rfl | rfl <;> rfl
theorem frac_self (D : Nat) (a b : Int) (w : World) : (Op.equalIn (D + 2) 29 (.agg #[.int .i64 a, .int .i64 b]) (.agg #[.int .i64 a, .int .i64 b])).run Try.prog w = .ok true w := by
  rw [frac_two]; simp
set_option maxHeartbeats 4000000 in
theorem equal_fr3 (D : Nat) (hq : ∀ a b w, (Op.equalIn D 29 (.agg #[.int .i64 a, .int .i64 b]) (.agg #[.int .i64 a, .int .i64 b])).run Try.prog w = .ok true w) (a b c d e f : Int) (w : World) : (Op.equalIn (D + 1) 30 (.agg #[.int .i64 a, .int .i64 b, .int .i64 c, .int .i64 d, .int .i64 e, .int .i64 f]) (.agg #[.int .i64 a, .int .i64 b, .int .i64 c, .int .i64 d, .int .i64 e, .int .i64 f])).run Try.prog w = .ok true w := by
  have ht : Try.prog.underlying 30 = some (.array 3 29) := by kernel_rfl
  have hs : ∀ w, (sizeOf 29).run Try.prog w = .ok 2 w := fun w => rfl
  have p0 : ∀ w, (part 29 #[.int .i64 a, .int .i64 b, .int .i64 c, .int .i64 d, .int .i64 e, .int .i64 f] (0 * 2)).run Try.prog w = .ok (.agg #[.int .i64 a, .int .i64 b]) w := fun w => rfl
  have p1 : ∀ w, (part 29 #[.int .i64 a, .int .i64 b, .int .i64 c, .int .i64 d, .int .i64 e, .int .i64 f] (1 * 2)).run Try.prog w = .ok (.agg #[.int .i64 c, .int .i64 d]) w := fun w => rfl
  have p2 : ∀ w, (part 29 #[.int .i64 a, .int .i64 b, .int .i64 c, .int .i64 d, .int .i64 e, .int .i64 f] (2 * 2)).run Try.prog w = .ok (.agg #[.int .i64 e, .int .i64 f]) w := fun w => rfl
  have q0 := hq a b
  have q1 := hq c d
  have q2 := hq e f
  simp only [Op.equalIn, Sem.run_bind, run_underlying ht, Result.andThen_ok, hs, Std.Legacy.Range.forIn_eq_forIn_range', Std.Legacy.Range.size]
  simp only [List.range', Nat.sub_zero, Nat.add_sub_cancel, Nat.div_one, Nat.zero_add, List.forIn_cons, List.forIn_nil, Sem.run_bind, Result.andThen_ok, p0, p1, p2, q0, q1, q2, Nat.reduceAdd, Nat.reduceSub, Nat.reduceDiv, Bool.not_true, Bool.false_eq_true, if_false, Sem.run_pure]
theorem eql_fr3 (a b c d e f : Int) (w : World) : (binOp .eql 30 (.agg #[.int .i64 a, .int .i64 b, .int .i64 c, .int .i64 d, .int .i64 e, .int .i64 f]) (.agg #[.int .i64 a, .int .i64 b, .int .i64 c, .int .i64 d, .int .i64 e, .int .i64 f])).run Try.prog w = .ok (.bool true) w := by
  rw [run_eql_struct, show (10000 : Nat) = 9999 + 1 from rfl, equal_fr3 9999 (fun a b w => frac_self 9997 a b w)]; rfl

end Go.Proofs.Ytpjekinmcdglbaa
