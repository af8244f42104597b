/- OrderEither returns true for every input, and its arguments read afterwards as before: the tied card, without a condition. -/
import Derived.Test.YtiejefehcpfkaaaDoorCards
import Derived.Test.YtiejefehcpfkaaaDoorTie
import Derived.Test.YtiejefehcpfkaaaDoorVm
import Derived.Test.YtiejefehcpfkaaaDoorVl
import Derived.Test.YtiejefehcpfkaaaDoorUr
set_option linter.unusedSimpArgs false
set_option linter.unusedVariables false
namespace Go.Proofs.YtiejefehcpfkaaaDoor
open Go.ChangeShapes Go.WideShapes Go.ChangeAt Go.RowKit Go.Deep
set_option maxRecDepth 100000

theorem oe_over : Rows.orderEitherRow.holds Tryd.pinned (OpenSpec.ofChange Rows.orderEitherSpec) :=
  OpenClaim.holds_of_wide 12 Tryd.f12 rfl rfl rfl rfl rfl rfl rfl ⟨rfl, rfl, rfl, rfl, rfl⟩ rfl rfl rfl rfl rfl oe_named Tryd.func12 oe_facts
    oe_inst oe_wrap (fun os started H enc _ => either_lifted os started H enc)
theorem oe_params (j : Nat) (t : TypeId) (ht : Tryd.f12.params[j]? = some t) : Tryd.pinned.checked.prog.wantsStandIn t = false := by
  rw [Tryd.params12] at ht
  have hm := Array.mem_of_getElem? ht
  simp only [List.mem_toArray, List.mem_cons, List.not_mem_nil, or_false] at hm
  first
    | (rcases hm with rfl | rfl <;> first | exact s_order | exact s_int | exact s_ints | exact s_pairs | exact s_pair | exact s_intss)
    | (subst hm; first | exact s_order | exact s_int | exact s_ints | exact s_pairs | exact s_pair | exact s_intss)

/-- OrderEither, as it is given -/
theorem orderEither_proved : Rows.OrderEitherCardSaid :=
  Claim7.holds_tied_plain_at .later [] [.data] true (true, "3802c3c3ef4d64566898fef001bf7c7543fdb640cbc69497521df8e521673a9d") false oe_over (fun _ h => by cases h) oe_wbt (fun _ h => by cases h) orderEither_row_tie rfl ⟨rfl, rfl⟩ s_main rfl
    (fun f fn hf hfn => by
      obtain rfl : f = 12 := Option.some.inj (oe_named.symm.trans hf) |>.symm
      obtain rfl : fn = Tryd.f12 := (Option.some.inj (Tryd.func12.symm.trans hfn)).symm
      exact ⟨s_looks, oe_params⟩)
    oe_goes
end Go.Proofs.YtiejefehcpfkaaaDoor
