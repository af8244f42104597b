/- The law OrderFirsts at any problem, whatever its lengths, and its lift: no condition but the tied table. -/
import Derived.Test.YtiejefehcpfkaaaDoorVs
import Derived.Test.YtiejefehcpfkaaaDoorUk
import Derived.Test.YtiejefehcpfkaaaDoorUr
set_option linter.unusedSimpArgs false
set_option linter.unusedVariables false
set_option maxRecDepth 100000
namespace Go.Proofs.YtiejefehcpfkaaaDoor
section
open Go.RowKit Go.Shelf

attribute [local go_sem] Oper.semAt_some

set_option maxHeartbeats 4000000 in
theorem firsts_any (n : Int) (x y : Option Addr) (A B : List (Int × Int)) (ac bc : Nat) (w : World) (hA : Prs w x A) (hB : Prs w y B) (hT : Tab w) (v1 : Option Addr) (c1 : Nat) (l1 : List Int) (hc1 : l1.length ≤ c1) (hl1 : Ins w v1 l1) :
    Calls Tryd.prog 5 #[.agg #[.int .i64 n, .slice x A.length ac, .slice y B.length bc], .slice v1 l1.length c1] w fun en w' => en = .returned (.bool true) ∧ New w w' := by
  by_cases hl : A.length ≤ 600 ∧ B.length ≤ 300
  · exact OrderFirsts_c (o := ⟨n, A, B⟩) (av := .slice x A.length ac) (nv := .slice y B.length bc) ⟨⟨⟨x, ac, y, bc, rfl, hA, hB⟩, by show A.length ≤ _; omega, by show B.length ≤ _; omega⟩, ⟨x, ac, y, bc, rfl, rfl⟩, rfl⟩ hT v1 c1 l1 hc1 hl1
  · have HSL := Lib.hid (slim_no n x y A.length B.length ac bc hl)
    have HAL := Lib.hid (fun (w1 : World) (hn : New w w1) => alive_c w1 (hT.new hn))
    clear hT hA hB hl hc1 hl1
    generalize A.length = LA at *
    generalize B.length = LB at *
    generalize l1.length = N1 at *
    go_enter Tryd.func5, Tryd.ntmps5
    go_wp2_with (first | (go_at_call 20; (with_reducible refine (HSL.out _).mono ?_); rintro e w6 ⟨rfl, n6⟩; have N6 := Lib.hid (((New.refl w).alloc _).trans n6); clear n6) | (go_at_call 21; (with_reducible refine (HAL.out _ ?_).mono ?_); (· exact N6.out); rintro e w9 ⟨rfl, n9⟩; have N9 := Lib.hid (N6.out.trans n9); clear n9))
    go_ret
    exact ⟨rfl, N9.out⟩
end
section
open Go.ChangeShapes Go.WideShapes Go.ChangeAt Go.RowKit Go.Deep

theorem firsts_lifted (os : Os) (started : os.Started) (H : Type) (enc : TypeId × Value → H) :
    ReturnsInHanded {} Tryd.checked os 5 .any (fun w args => (Rows.orderFirstsSpec.pre enc Tryd.prog Tryd.f5 Rows.orderFirstsRow.domain false w args ∧ laidMetH Tryd.prog laidT w) ∧ sizedMet enc Tryd.prog Tryd.f5 (OpenSpec.ofChange Rows.orderFirstsSpec) false w args)
      (Rows.orderFirstsSpec.post enc Tryd.prog Tryd.f5 false true false false) := by
  refine returnsInHanded_of_change_and (C := Tryd.checked) (X := fun w _ => laidMetH Tryd.prog laidT w) (fun _ _ _ hh h => h.of_heap hh) own_knob started (by kernel_rfl) Tryd.func5
    (ChangeSpec.witness_shaped (enc := enc) (C := Tryd.checked) (os := os) (X := fun w _ => laidMetH Tryd.prog laidT w) false (World.laidAll Tryd.prog os laidT) #[.agg #[.int .i64 0, .slice none 0 0, .slice none 0 0], .slice none 0 0] 8 (World.laidAll_os _ _ _)
      (World.shaped_of_ZipB (by kernel_rfl) (by kernel_rfl)) (by kernel_rfl) (by kernel_rfl) (by kernel_rfl)
      (by rw [MakeChecks.laidMetH_plain _ _ _ (by kernel_rfl)]; exact laidMet_laidAll _ (by kernel_rfl) (by kernel_rfl))) ?_
  intro W base args ds gs before hval0 hW hc _ hL _
  have hval : ∀ (j : Nat) t v, Tryd.f5.params[j]? = some t → args[j]? = some v → Value.okWide Tryd.prog W .any base t v := hval0
  have hW' := hW
  obtain ⟨p, q, hA0, hV, rfl, _, _⟩ := hW
  have hA : DataW.TrodAll enc Tryd.prog W 0 (fun _ => true) true Tryd.f5.params.toList args.toList ds p := hA0
  rw [Tryd.params5] at hA hval
  obtain ⟨v0, vs0, d0, ds0, p0, q0, hargs, rfl, rfl, h0, r0⟩ := trodAll_cons hA
  obtain ⟨v1, vs1, d1, ds1, p1, q1, rfl, rfl, rfl, h1, r1⟩ := trodAll_cons r0
  obtain ⟨rfl, rfl, rfl⟩ := trodAll_nil r1
  obtain rfl : args = #[v0, v1] := by cases args; simp_all
  obtain ⟨rfl, rfl⟩ := trodVars_none hV
  have k0 := h0
  have lt0 : ∀ x ∈ p0, x.block < W.heap.size := by obtain ⟨m, hm⟩ := k0; exact DataW.trod_lt m _ _ _ hm
  have k1 := h1
  have lt1 : ∀ x ∈ p1, x.block < W.heap.size := by obtain ⟨m, hm⟩ := k1; exact DataW.trod_lt m _ _ _ hm
  obtain ⟨n, a, ac, A, b, bc, B, rfl, hPA, hPB⟩ := open_order (hval 0 24 v0 rfl rfl) h0
  obtain ⟨a1, tc1, l1, rfl, hI1, hcap1⟩ := open_intsT (hval 1 31 v1 rfl rfl) h1
  clear hA0 hval0
  refine (firsts_any n a b A B ac bc W hPA hPB (tab_of_laid hL) a1 tc1 l1 hcap1 hI1).mono fun e W' ⟨he, hn⟩ => ?_
  have bel := hn.below
  subst he
  exact ⟨_, rfl, _, _, _, [], _, [], hW', trodAll_mk1 (shut_bool Tryd.underlying4 _), (trodAll_cons_mk (Below.trod laid_out (by kernel_rfl) (of_decide_eq_true (by kernel_rfl)) k0 bel lt0) (trodAll_cons_mk (Below.trod laid_out (by kernel_rfl) (of_decide_eq_true (by kernel_rfl)) k1 bel lt1) trodAll_mk0)), rfl, bel.frame _, fun h => by cases h⟩
end
end Go.Proofs.YtiejefehcpfkaaaDoor
