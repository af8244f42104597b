/- OrderChecks returns true for every input, and its arguments read afterwards as before: the tied card, without a condition. -/
import Derived.Test.YtiejefehcpfkaaaDoorCards
import Derived.Test.YtiejefehcpfkaaaDoorTie
import Derived.Test.YtiejefehcpfkaaaDoorUp
import Derived.Test.YtiejefehcpfkaaaDoorUr
set_option linter.unusedSimpArgs false
set_option linter.unusedVariables false
namespace Go.Proofs.YtiejefehcpfkaaaDoor
open Go.ChangeShapes Go.WideShapes Go.ChangeAt Go.RowKit Go.Deep
set_option maxRecDepth 100000

theorem oc_over : Rows.orderChecksRow.holds Tryd.pinned (OpenSpec.ofChange Rows.orderChecksSpec) :=
  OpenClaim.holds_of_wide 3 Tryd.f3 rfl rfl rfl rfl rfl rfl rfl ⟨rfl, rfl, rfl, rfl, rfl⟩ rfl rfl rfl rfl rfl oc_named Tryd.func3 oc_facts
    oc_inst oc_wrap (fun os started H enc _ => checks_lifted os started H enc)
theorem oc_params (j : Nat) (t : TypeId) (ht : Tryd.f3.params[j]? = some t) : Tryd.pinned.checked.prog.wantsStandIn t = false := by
  rw [Tryd.params3] at ht
  have hm := Array.mem_of_getElem? ht
  simp only [List.mem_toArray, List.mem_cons, List.not_mem_nil, or_false] at hm
  first
    | (rcases hm with rfl | rfl | rfl <;> first | exact s_order | exact s_int | exact s_ints | exact s_pairs | exact s_pair | exact s_intss)
    | (rcases hm with rfl | rfl <;> first | exact s_order | exact s_int | exact s_ints | exact s_pairs | exact s_pair | exact s_intss)
    | (subst hm; first | exact s_order | exact s_int | exact s_ints | exact s_pairs | exact s_pair | exact s_intss)

/-- OrderChecks, as it is given -/
theorem orderChecks_proved : Rows.OrderChecksCardSaid :=
  Claim7.holds_tied_plain_at .later [] [.data] true (true, "3802c3c3ef4d64566898fef001bf7c7543fdb640cbc69497521df8e521673a9d") false oc_over (fun _ h => by cases h) oc_wbt (fun _ h => by cases h) orderChecks_row_tie rfl ⟨rfl, rfl⟩ s_main rfl
    (fun f fn hf hfn => by
      obtain rfl : f = 3 := Option.some.inj (oc_named.symm.trans hf) |>.symm
      obtain rfl : fn = Tryd.f3 := (Option.some.inj (Tryd.func3.symm.trans hfn)).symm
      exact ⟨s_looks, oc_params⟩)
    oc_goes
end Go.Proofs.YtiejefehcpfkaaaDoor
