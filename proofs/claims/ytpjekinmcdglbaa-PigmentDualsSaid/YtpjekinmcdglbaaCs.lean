/- Structs of two numbers compared. -/
import Derived.Test.YtpjekinmcdglbaaGb
import Derived.Laws.StructEq
set_option linter.unusedSimpArgs false
set_option linter.unusedVariables false
set_option maxRecDepth 100000
namespace Go.Proofs.Ytpjekinmcdglbaa
open Go.RowKit

theorem equal_two (t : TypeId) (hs : Try.prog.underlying t = some (.struct (Try.prog.fieldsOf t))) (hp : Try.prog.stoodInHeld t = false) (hf : ((Try.prog.fieldsOf t).toList.map fun f => (f.type, f.offset, decide (f.name = "_"))) = [(3, 0, false), (3, 1, false)]) (d : Nat) (a b c e : Int) (w : World) :
    (Op.equalIn (d + 2) t (.agg #[.int .i64 a, .int .i64 b]) (.agg #[.int .i64 c, .int .i64 e])).run Try.prog w = .ok (a == c && b == e) w := by
  rw [run_equalIn_agg _ _ _ _ _ hs hp]
  generalize (Try.prog.fieldsOf t).toList = F at *
  rcases F with _ | ⟨f, _ | ⟨g, _ | ⟨x, F⟩⟩⟩
  · simp at hf
  · simp at hf
  · simp only [List.map_cons, List.map_nil, List.cons.injEq, Prod.mk.injEq, and_true, decide_eq_false_iff_not] at hf
    obtain ⟨⟨h1, h2, h3⟩, h4, h5, h6⟩ := hf
    simp [go_sem, Op.eqFields, h1, h2, h3, h4, h5, h6, Try.underlying3]
    by_cases k1 : a = c <;> by_cases k2 : b = e <;> simp [k1, k2]
  · simp at hf
theorem frac_two (d : Nat) (a b c e : Int) (w : World) : (Op.equalIn (d + 2) 29 (.agg #[.int .i64 a, .int .i64 b]) (.agg #[.int .i64 c, .int .i64 e])).run Try.prog w = .ok (a == c && b == e) w := equal_two _ (by kernel_rfl) (by kernel_rfl) (by kernel_rfl) d a b c e w
theorem part_two (d : Nat) (a b c e : Int) (w : World) : (Op.equalIn (d + 2) 64 (.agg #[.int .i64 a, .int .i64 b]) (.agg #[.int .i64 c, .int .i64 e])).run Try.prog w = .ok (a == c && b == e) w := equal_two _ (by kernel_rfl) (by kernel_rfl) (by kernel_rfl) d a b c e w
theorem eql_frac (a b c d : Int) (w : World) : (binOp .eql 29 (.agg #[.int .i64 a, .int .i64 b]) (.agg #[.int .i64 c, .int .i64 d])).run Try.prog w = .ok (.bool (a == c && b == d)) w := by
  rw [run_eql_struct, show (10000 : Nat) = 9998 + 2 from rfl, frac_two]; rfl
theorem neq_part (a b c d : Int) (w : World) : (binOp .neq 64 (.agg #[.int .i64 a, .int .i64 b]) (.agg #[.int .i64 c, .int .i64 d])).run Try.prog w = .ok (.bool (!(a == c && b == d))) w := by
  rw [run_neq_struct, show (10000 : Nat) = 9998 + 2 from rfl, part_two]; rfl

end Go.Proofs.Ytpjekinmcdglbaa
