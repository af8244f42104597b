/- OrderFirsts returns true for every input, and its arguments read afterwards as before: the tied card, without a condition. -/
import Derived.Test.YtiejefehcpfkaaaDoorCards
import Derived.Test.YtiejefehcpfkaaaDoorTie
import Derived.Test.YtiejefehcpfkaaaDoorVu
import Derived.Test.YtiejefehcpfkaaaDoorVt
import Derived.Test.YtiejefehcpfkaaaDoorUr
set_option linter.unusedSimpArgs false
set_option linter.unusedVariables false
namespace Go.Proofs.YtiejefehcpfkaaaDoor
open Go.ChangeShapes Go.WideShapes Go.ChangeAt Go.RowKit Go.Deep
set_option maxRecDepth 100000

theorem ofi_over : Rows.orderFirstsRow.holds Tryd.pinned (OpenSpec.ofChange Rows.orderFirstsSpec) :=
  OpenClaim.holds_of_wide 5 Tryd.f5 rfl rfl rfl rfl rfl rfl rfl ⟨rfl, rfl, rfl, rfl, rfl⟩ rfl rfl rfl rfl rfl ofi_named Tryd.func5 ofi_facts
    ofi_inst ofi_wrap (fun os started H enc _ => firsts_lifted os started H enc)
theorem ofi_params (j : Nat) (t : TypeId) (ht : Tryd.f5.params[j]? = some t) : Tryd.pinned.checked.prog.wantsStandIn t = false := by
  rw [Tryd.params5] at ht
  have hm := Array.mem_of_getElem? ht
  simp only [List.mem_toArray, List.mem_cons, List.not_mem_nil, or_false] at hm
  first
    | (rcases hm with rfl | rfl <;> first | exact s_order | exact s_int | exact s_ints | exact s_pairs | exact s_pair | exact s_intss)
    | (subst hm; first | exact s_order | exact s_int | exact s_ints | exact s_pairs | exact s_pair | exact s_intss)

/-- OrderFirsts, as it is given -/
theorem orderFirsts_proved : Rows.OrderFirstsCardSaid :=
  Claim7.holds_tied_plain_at .later [] [.data] true (true, "3802c3c3ef4d64566898fef001bf7c7543fdb640cbc69497521df8e521673a9d") false ofi_over (fun _ h => by cases h) ofi_wbt (fun _ h => by cases h) orderFirsts_row_tie rfl ⟨rfl, rfl⟩ s_main rfl
    (fun f fn hf hfn => by
      obtain rfl : f = 5 := Option.some.inj (ofi_named.symm.trans hf) |>.symm
      obtain rfl : fn = Tryd.f5 := (Option.some.inj (Tryd.func5.symm.trans hfn)).symm
      exact ⟨s_looks, ofi_params⟩)
    ofi_goes
end Go.Proofs.YtiejefehcpfkaaaDoor
