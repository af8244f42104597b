/- The law OrderChecks at any problem whatever its lengths; opening its argument. No condition. · The law OrderChecks at any problem, whatever its lengths: no condition but the tied table. -/
import Derived.Test.YtiejefehcpfkaaaDoorRows
import Derived.Test.YtiejefehcpfkaaaDoorUk
import Derived.WalkKit
import Derived.ProofKit
import Derived.OpenShut
import Derived.ChangeOld
import Derived.Below
import Derived.Deep.Slices
import Derived.Deep.Strs

section
set_option linter.unusedSimpArgs false
set_option linter.unusedVariables false
namespace Go.Proofs.YtiejefehcpfkaaaDoor
open Go.ChangeShapes Go.WideShapes Go.ChangeAt Go.RowKit Go.Deep
set_option maxRecDepth 100000

section
variable {H : Type} {enc : TypeId × Value → H} {W : World} {base b0 fuel : Nat} {spare : Nat → Bool} {held : Bool} {v : Value} {d : DataW H} {p : List MemPlace}
theorem cells_int : Tryd.prog.cellsOf 3 = 1 := by kernel_rfl
theorem cells_pair : Tryd.prog.cellsOf 67 = 2 := by kernel_rfl
theorem cells_pairs : Tryd.prog.cellsOf 22 = 1 := by kernel_rfl
theorem cells_order : Tryd.prog.cellsOf 24 = 3 := by kernel_rfl
theorem list_3 {cs : List Value} (h : cs.length = 3) : ∃ a b c, cs = [a, b, c] := by
  match cs, h with
  | [a, b, c], _ => exact ⟨a, b, c, rfl⟩
theorem list_2 {cs : List Value} (h : cs.length = 2) : ∃ a b, cs = [a, b] := by
  match cs, h with
  | [a, b], _ => exact ⟨a, b, rfl⟩
theorem pair_trod {cs : List Value} {x : DataW H × List MemPlace} (h : DataW.trod enc Tryd.prog W base spare held fuel 67 cs = some x) :
    ∃ q : Int × Int, cs = [.int .i64 q.1, .int .i64 q.2] := by
  obtain ⟨y0, y1, n, _, hl, h0, h1⟩ := trod_struct2 Tryd.underlying67 h
  rw [cells_pair] at hl
  obtain ⟨c0, c1, rfl⟩ := list_2 hl
  simp only [cells_int, List.drop, List.take] at h0 h1
  obtain ⟨i1, e1, _⟩ := DataW.trod_int Tryd.underlying3 h0
  obtain ⟨i2, e2, _⟩ := DataW.trod_int Tryd.underlying3 h1
  simp only [List.cons.injEq, and_true] at e1 e2
  subst e1; subst e2
  exact ⟨(i1, i2), rfl⟩
theorem open_pairs {x : DataW H × List MemPlace} (h : DataW.trod enc Tryd.prog W base spare held fuel 22 [v] = some x) :
    ∃ a tc L, v = .slice a L.length tc ∧ Prs W a L := by
  rcases open_slice Tryd.underlying22 h with ⟨hcs, _⟩ | ⟨a, len, cap', m, n', D, Pl, hcs, _, hlc, hmx, hm, hx, hi⟩
  · simp only [List.cons.injEq, and_true] at hcs
    subst hcs
    exact ⟨none, 0, [], rfl, fun h => absurd h (by simp)⟩
  · simp only [List.cons.injEq, and_true] at hcs
    subst hcs
    have hnm : len ≤ m := by rw [hm]; split <;> omega
    have hq : ∀ i, i < len → ∃ q : Int × Int, W.cell? (a.add (i * 2)) = some (.int .i64 q.1) ∧ W.cell? (a.add (i * 2 + 1)) = some (.int .i64 q.2) := fun i hi' => by
      obtain ⟨cs', hc, ht⟩ := hi i (by omega)
      rw [cells_pair] at hc
      obtain ⟨q, rfl⟩ := pair_trod ht
      obtain ⟨_, _, hat⟩ := World.cells?_some hc
      have g0 := hat 0 (by omega)
      have g1 := hat 1 (by omega)
      rw [add_add] at g0 g1
      exact ⟨q, by simpa using g0, by simpa using g1⟩
    obtain ⟨q, hq⟩ := choose_lt hq
    refine ⟨some a, cap', (List.range len).map q, by simp, fun h0 => ?_⟩
    rw [List.length_map, List.length_range] at h0
    obtain ⟨b, off, spot⟩ := a
    have hc0 := (hq 0 h0).1
    have hspot : spot = none := by simpa [Addr.add] using World.cell?_spot hc0
    subst hspot
    refine ⟨b, off, rfl, ?_, fun i hi' => ?_⟩
    · apply Classical.byContradiction
      intro hge
      have hh : W.heap[b]? = none := Array.getElem?_eq_none (by omega)
      rw [Addr.add_mid] at hc0
      simp [World.cell?, hh] at hc0
    · rw [List.length_map, List.length_range] at hi'
      obtain ⟨k0, k1⟩ := hq i hi'
      rw [Addr.add_mid] at k0 k1
      have e : ((List.range len).map q).getD i (0, 0) = q i := by simp [List.getD_eq_getElem?_getD, hi']
      unfold pA pB
      rw [e]
      exact ⟨k0, k1⟩
theorem open_order (hv : Value.okWide Tryd.prog W .any b0 24 v) (h : DataW.Trod enc Tryd.prog W base spare held 24 v d p) :
    ∃ n a ac A b bc B, v = .agg #[.int .i64 n, .slice a (List.length A) ac, .slice b (List.length B) bc] ∧ Prs W a A ∧ Prs W b B := by
  obtain ⟨cs, rfl, _⟩ := okWide_struct Tryd.underlying24 hv
  obtain ⟨fuel, hf⟩ := h
  obtain ⟨y0, y1, y2, n, _, hl, h0, h1, h2⟩ := trod_struct3 Tryd.underlying24 hf
  rw [cells_order] at hl
  obtain ⟨c0, c1, c2, hc0⟩ := list_3 hl
  rw [hc0] at h0 h1 h2
  simp only [cells_pairs, cells_int, List.drop, List.take] at h0 h1 h2
  obtain ⟨i0, e0, _⟩ := DataW.trod_int Tryd.underlying3 h0
  obtain ⟨a, ac, A, rfl, r1⟩ := open_pairs h1
  obtain ⟨b, bc, B, rfl, r2⟩ := open_pairs h2
  simp only [List.cons.injEq, and_true] at e0
  subst e0
  refine ⟨i0, a, ac, A, b, bc, B, ?_, r1, r2⟩
  have hl2 : cs.toList = [.int .i64 i0, .slice a A.length ac, .slice b B.length bc] := by simpa [Value.cells] using hc0
  obtain ⟨l⟩ := cs
  simp only at hl2
  rw [hl2]
end
end Go.Proofs.YtiejefehcpfkaaaDoor
end

section
set_option linter.unusedSimpArgs false
set_option linter.unusedVariables false
set_option maxRecDepth 100000
namespace Go.Proofs.YtiejefehcpfkaaaDoor
open Go.RowKit Go.Shelf

attribute [local go_sem] Oper.semAt_some

set_option maxHeartbeats 4000000 in
theorem slim_no (n : Int) (av nv : Option Addr) (LA LB ac nc : Nat) (hl : ¬ (LA ≤ 600 ∧ LB ≤ 300)) (w : World) : Calls Tryd.prog 20 #[.agg #[.int .i64 n, .slice av LA ac, .slice nv LB nc]] w fun en w' => en = .returned (.bool false) ∧ New w w' := by
  by_cases u1 : (LA : Int) ≤ 600
  · have u2 : ¬ (LB : Int) ≤ 300 := by omega
    go_enter Tryd.func20, Tryd.ntmps20
    go_wp2_with fail
    go_ret
    exact ⟨rfl, (New.refl _).alloc _⟩
  · go_enter Tryd.func20, Tryd.ntmps20
    go_wp2_with fail
    go_ret
    exact ⟨rfl, (New.refl _).alloc _⟩
set_option maxHeartbeats 4000000 in
theorem OrderChecks_any (n : Int) (x y : Option Addr) (A B : List (Int × Int)) (ac bc : Nat) (w : World) (hA : Prs w x A) (hB : Prs w y B) (hT : Tab w) (a b : Int) :
    Calls Tryd.prog 3 #[.agg #[.int .i64 n, .slice x A.length ac, .slice y B.length bc], .int .i64 a, .int .i64 b] w fun en w' => en = .returned (.bool true) ∧ New w w' := by
  by_cases hl : A.length ≤ 600 ∧ B.length ≤ 300
  · exact OrderChecks_c (o := ⟨n, A, B⟩) (av := .slice x A.length ac) (nv := .slice y B.length bc) ⟨⟨⟨x, ac, y, bc, rfl, hA, hB⟩, by show A.length ≤ _; omega, by show B.length ≤ _; omega⟩, ⟨x, ac, y, bc, rfl, rfl⟩, rfl⟩ hT a b
  · have HSL := Lib.hid (slim_no n x y A.length B.length ac bc hl)
    have HAL := Lib.hid (fun (w1 : World) (hn : New w w1) => alive_c w1 (hT.new hn))
    clear hT hA hB hl
    generalize A.length = LA at *
    generalize B.length = LB at *
    go_enter Tryd.func3, Tryd.ntmps3
    go_wp2_with (first | (go_at_call 20; (with_reducible refine (HSL.out _).mono ?_); rintro e w6 ⟨rfl, n6⟩; have N6 := Lib.hid (((New.refl w).alloc _).trans n6); clear n6) | (go_at_call 21; (with_reducible refine (HAL.out _ ?_).mono ?_); (· exact N6.out); rintro e w9 ⟨rfl, n9⟩; have N9 := Lib.hid (N6.out.trans n9); clear n9))
    go_ret
    exact ⟨rfl, N9.out⟩
end Go.Proofs.YtiejefehcpfkaaaDoor
end
