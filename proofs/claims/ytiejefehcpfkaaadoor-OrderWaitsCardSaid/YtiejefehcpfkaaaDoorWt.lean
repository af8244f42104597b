/- The law OrderWaits at any problem, whatever its lengths, and its lift: no condition but the tied table. · OrderWaits returns true for every input, and its arguments read afterwards as before: the tied card, without a condition. -/
import Derived.Test.YtiejefehcpfkaaaDoorWq
import Derived.Test.YtiejefehcpfkaaaDoorUr
import Derived.Test.YtiejefehcpfkaaaDoorCards
import Derived.Test.YtiejefehcpfkaaaDoorTie
import Derived.Test.YtiejefehcpfkaaaDoorWs

section
set_option linter.unusedSimpArgs false
set_option linter.unusedVariables false
set_option maxRecDepth 100000
namespace Go.Proofs.YtiejefehcpfkaaaDoor
section
open Go.RowKit Go.Shelf

attribute [local go_sem] Oper.semAt_some

set_option maxHeartbeats 4000000 in
theorem wait_any (n : Int) (x y : Option Addr) (A B : List (Int × Int)) (ac bc : Nat) (w : World) (hA : Prs w x A) (hB : Prs w y B) (hT : Tab w) (i1 : Int) :
    Calls Tryd.prog 11 #[.agg #[.int .i64 n, .slice x A.length ac, .slice y B.length bc], .int .i64 i1] w fun en w' => en = .returned (.bool true) ∧ New w w' := by
  by_cases hl : A.length ≤ 600 ∧ B.length ≤ 300
  · exact OrderWaits_c (o := ⟨n, A, B⟩) (av := .slice x A.length ac) (nv := .slice y B.length bc) ⟨⟨⟨x, ac, y, bc, rfl, hA, hB⟩, by show A.length ≤ _; omega, by show B.length ≤ _; omega⟩, ⟨x, ac, y, bc, rfl, rfl⟩, rfl⟩ hT i1
  · have HSL := Lib.hid (slim_no n x y A.length B.length ac bc hl)
    have HAL := Lib.hid (fun (w1 : World) (hn : New w w1) => alive_c w1 (hT.new hn))
    clear hT hA hB hl 
    generalize A.length = LA at *
    generalize B.length = LB at *
    go_enter Tryd.func11, Tryd.ntmps11
    go_wp2_with (first | (go_at_call 20; (with_reducible refine (HSL.out _).mono ?_); rintro e w6 ⟨rfl, n6⟩; have N6 := Lib.hid (((New.refl w).alloc _).trans n6); clear n6) | (go_at_call 21; (with_reducible refine (HAL.out _ ?_).mono ?_); (· exact N6.out); rintro e w9 ⟨rfl, n9⟩; have N9 := Lib.hid (N6.out.trans n9); clear n9))
    go_ret
    exact ⟨rfl, N9.out⟩
end
section
open Go.ChangeShapes Go.WideShapes Go.ChangeAt Go.RowKit Go.Deep

theorem wait_lifted (os : Os) (started : os.Started) (H : Type) (enc : TypeId × Value → H) :
    ReturnsInHanded {} Tryd.checked os 11 .any (fun w args => (Rows.orderWaitsSpec.pre enc Tryd.prog Tryd.f11 Rows.orderWaitsRow.domain false w args ∧ laidMetH Tryd.prog laidT w) ∧ sizedMet enc Tryd.prog Tryd.f11 (OpenSpec.ofChange Rows.orderWaitsSpec) false w args)
      (Rows.orderWaitsSpec.post enc Tryd.prog Tryd.f11 false true false false) := by
  refine returnsInHanded_of_change_and (C := Tryd.checked) (X := fun w _ => laidMetH Tryd.prog laidT w) (fun _ _ _ hh h => h.of_heap hh) own_knob started (by kernel_rfl) Tryd.func11
    (ChangeSpec.witness_shaped (enc := enc) (C := Tryd.checked) (os := os) (X := fun w _ => laidMetH Tryd.prog laidT w) false (World.laidAll Tryd.prog os laidT) #[.agg #[.int .i64 0, .slice none 0 0, .slice none 0 0], .int .i64 0] 8 (World.laidAll_os _ _ _)
      (World.shaped_of_ZipB (by kernel_rfl) (by kernel_rfl)) (by kernel_rfl) (by kernel_rfl) (by kernel_rfl)
      (by rw [MakeChecks.laidMetH_plain _ _ _ (by kernel_rfl)]; exact laidMet_laidAll _ (by kernel_rfl) (by kernel_rfl))) ?_
  intro W base args ds gs before hval0 hW hc _ hL _
  have hval : ∀ (j : Nat) t v, Tryd.f11.params[j]? = some t → args[j]? = some v → Value.okWide Tryd.prog W .any base t v := hval0
  have hW' := hW
  obtain ⟨p, q, hA0, hV, rfl, _, _⟩ := hW
  have hA : DataW.TrodAll enc Tryd.prog W 0 (fun _ => true) true Tryd.f11.params.toList args.toList ds p := hA0
  rw [Tryd.params11] at hA hval
  obtain ⟨v0, vs0, d0, ds0, p0, q0, hargs, rfl, rfl, h0, r0⟩ := trodAll_cons hA
  obtain ⟨v1, vs1, d1, ds1, p1, q1, rfl, rfl, rfl, h1, r1⟩ := trodAll_cons r0
  obtain ⟨rfl, rfl, rfl⟩ := trodAll_nil r1
  obtain rfl : args = #[v0, v1] := by cases args; simp_all
  obtain ⟨rfl, rfl⟩ := trodVars_none hV
  have k0 := h0
  have lt0 : ∀ x ∈ p0, x.block < W.heap.size := by obtain ⟨m, hm⟩ := k0; exact DataW.trod_lt m _ _ _ hm
  obtain ⟨n, a, ac, A, b, bc, B, rfl, hPA, hPB⟩ := open_order (hval 0 24 v0 rfl rfl) h0
  obtain ⟨x1, rfl, rfl, rfl, wx1⟩ := open_int Tryd.underlying3 (hval 1 3 v1 rfl rfl) h1
  clear hA0 hval0
  refine (wait_any n a b A B ac bc W hPA hPB (tab_of_laid hL) x1).mono fun e W' ⟨he, hn⟩ => ?_
  have bel := hn.below
  subst he
  exact ⟨_, rfl, _, _, _, [], _, [], hW', trodAll_mk1 (shut_bool Tryd.underlying4 _), (trodAll_cons_mk (Below.trod laid_out (by kernel_rfl) (of_decide_eq_true (by kernel_rfl)) k0 bel lt0) (trodAll_cons_mk (shut_int Tryd.underlying3 wx1) trodAll_mk0)), rfl, bel.frame _, fun h => by cases h⟩
end
end Go.Proofs.YtiejefehcpfkaaaDoor
end

section
set_option linter.unusedSimpArgs false
set_option linter.unusedVariables false
namespace Go.Proofs.YtiejefehcpfkaaaDoor
open Go.ChangeShapes Go.WideShapes Go.ChangeAt Go.RowKit Go.Deep
set_option maxRecDepth 100000

theorem waitz_over : Rows.orderWaitsRow.holds Tryd.pinned (OpenSpec.ofChange Rows.orderWaitsSpec) :=
  OpenClaim.holds_of_wide 11 Tryd.f11 rfl rfl rfl rfl rfl rfl rfl ⟨rfl, rfl, rfl, rfl, rfl⟩ rfl rfl rfl rfl rfl waitz_named Tryd.func11 waitz_facts
    waitz_inst waitz_wrap (fun os started H enc _ => wait_lifted os started H enc)
theorem waitz_params (j : Nat) (t : TypeId) (ht : Tryd.f11.params[j]? = some t) : Tryd.pinned.checked.prog.wantsStandIn t = false := by
  rw [Tryd.params11] at ht
  have hm := Array.mem_of_getElem? ht
  simp only [List.mem_toArray, List.mem_cons, List.not_mem_nil, or_false] at hm
  first
    | (rcases hm with rfl | rfl <;> first | exact s_order | exact s_int | exact s_ints | exact s_pairs | exact s_pair | exact s_intss)
    | (subst hm; first | exact s_order | exact s_int | exact s_ints | exact s_pairs | exact s_pair | exact s_intss)

/-- OrderWaits, as it is given -/
theorem orderWaits_proved : Rows.OrderWaitsCardSaid :=
  Claim7.holds_tied_plain_at .later [] [.data] true (true, "3802c3c3ef4d64566898fef001bf7c7543fdb640cbc69497521df8e521673a9d") false waitz_over (fun _ h => by cases h) waitz_wbt (fun _ h => by cases h) orderWaits_row_tie rfl ⟨rfl, rfl⟩ s_main rfl
    (fun f fn hf hfn => by
      obtain rfl : f = 11 := Option.some.inj (waitz_named.symm.trans hf) |>.symm
      obtain rfl : fn = Tryd.f11 := (Option.some.inj (Tryd.func11.symm.trans hfn)).symm
      exact ⟨s_looks, waitz_params⟩)
    waitz_goes
end Go.Proofs.YtiejefehcpfkaaaDoor
end
