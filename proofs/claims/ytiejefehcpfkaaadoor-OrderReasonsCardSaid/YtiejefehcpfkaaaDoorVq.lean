/- OrderReasons returns true for every input, and its arguments read afterwards as before: the tied card, without a condition. -/
import Derived.Test.YtiejefehcpfkaaaDoorCards
import Derived.Test.YtiejefehcpfkaaaDoorTie
import Derived.Test.YtiejefehcpfkaaaDoorVp
import Derived.Test.YtiejefehcpfkaaaDoorVo
import Derived.Test.YtiejefehcpfkaaaDoorUr
set_option linter.unusedSimpArgs false
set_option linter.unusedVariables false
namespace Go.Proofs.YtiejefehcpfkaaaDoor
open Go.ChangeShapes Go.WideShapes Go.ChangeAt Go.RowKit Go.Deep
set_option maxRecDepth 100000

theorem orr_over : Rows.orderReasonsRow.holds Tryd.pinned (OpenSpec.ofChange Rows.orderReasonsSpec) :=
  OpenClaim.holds_of_wide 17 Tryd.f17 rfl rfl rfl rfl rfl rfl rfl ⟨rfl, rfl, rfl, rfl, rfl⟩ rfl rfl rfl rfl rfl orr_named Tryd.func17 orr_facts
    orr_inst orr_wrap (fun os started H enc _ => reasn_lifted os started H enc)
theorem orr_params (j : Nat) (t : TypeId) (ht : Tryd.f17.params[j]? = some t) : Tryd.pinned.checked.prog.wantsStandIn t = false := by
  rw [Tryd.params17] at ht
  have hm := Array.mem_of_getElem? ht
  simp only [List.mem_toArray, List.mem_cons, List.not_mem_nil, or_false] at hm
  first
    | (rcases hm with rfl | rfl | rfl <;> first | exact s_order | exact s_int | exact s_ints | exact s_pairs | exact s_pair | exact s_intss)
    | (rcases hm with rfl | rfl <;> first | exact s_order | exact s_int | exact s_ints | exact s_pairs | exact s_pair | exact s_intss)
    | (subst hm; first | exact s_order | exact s_int | exact s_ints | exact s_pairs | exact s_pair | exact s_intss)

/-- OrderReasons, as it is given -/
theorem orderReasons_proved : Rows.OrderReasonsCardSaid :=
  Claim7.holds_tied_plain_at .later [] [.data] true (true, "3802c3c3ef4d64566898fef001bf7c7543fdb640cbc69497521df8e521673a9d") false orr_over (fun _ h => by cases h) orr_wbt (fun _ h => by cases h) orderReasons_row_tie rfl ⟨rfl, rfl⟩ s_main rfl
    (fun f fn hf hfn => by
      obtain rfl : f = 17 := Option.some.inj (orr_named.symm.trans hf) |>.symm
      obtain rfl : fn = Tryd.f17 := (Option.some.inj (Tryd.func17.symm.trans hfn)).symm
      exact ⟨s_looks, orr_params⟩)
    orr_goes
end Go.Proofs.YtiejefehcpfkaaaDoor
