/- Opening the arguments of the laws: tints, recipes, shades, planes. No condition. -/
import Derived.Test.YtpjekinmcdglbaaRows
import Derived.Test.YtpjekinmcdglbaaCt
import Derived.WalkKit
import Derived.ProofKit
import Derived.OpenShut
import Derived.ShutString
import Derived.ChangeOld
import Derived.Below
import Derived.Deep.Slices
import Derived.Deep.Strs
import Derived.Laws.IdiomArrays
set_option linter.unusedSimpArgs false
set_option linter.unusedVariables false
namespace Go.Proofs.Ytpjekinmcdglbaa
open Go.ChangeShapes Go.WideShapes Go.ChangeAt Go.RowKit Go.Deep
set_option maxRecDepth 100000

theorem own_knob : ownKnob Try.prog.godebug = none := by kernel_rfl
theorem laid_out : laidOutB Try.prog = true := by kernel_rfl

section
variable {H : Type} {enc : TypeId × Value → H} {W : World} {base b0 fuel : Nat} {spare : Nat → Bool} {held : Bool} {v : Value} {d : DataW H} {p : List MemPlace}
theorem cells_str : Try.prog.cellsOf 9 = 1 := by kernel_rfl
theorem cells_int : Try.prog.cellsOf 3 = 1 := by kernel_rfl
theorem cells_arr : Try.prog.cellsOf 37 = 3 := by kernel_rfl
theorem cells_tint : Try.prog.cellsOf 59 = 5 := by kernel_rfl
theorem cells_part : Try.prog.cellsOf 64 = 2 := by kernel_rfl
theorem cells_parts : Try.prog.cellsOf 23 = 1 := by kernel_rfl
theorem cells_rcp : Try.prog.cellsOf 25 = 1 := by kernel_rfl
theorem list_5 {cs : List Value} (h : cs.length = 5) : ∃ a b c d e, cs = [a, b, c, d, e] := by
  match cs, h with
  | [a, b, c, d, e], _ => exact ⟨a, b, c, d, e, rfl⟩
theorem list_2 {cs : List Value} (h : cs.length = 2) : ∃ a b, cs = [a, b] := by
  match cs, h with
  | [a, b], _ => exact ⟨a, b, rfl⟩
theorem list_1 {cs : List Value} (h : cs.length = 1) : ∃ a, cs = [a] := by
  match cs, h with
  | [a], _ => exact ⟨a, rfl⟩
theorem tint_trod {cs : List Value} {x : DataW H × List MemPlace} (h : DataW.trod enc Try.prog W base spare held fuel 59 cs = some x) :
    ∃ q : T5, cs = [.string q.1, .int .i64 q.2.1, .int .i64 q.2.2.1, .int .i64 q.2.2.2.1, .int .i64 q.2.2.2.2] := by
  obtain ⟨y0, y1, y2, n, _, hl, h0, h1, h2⟩ := trod_struct3 Try.underlying59 h
  rw [cells_tint] at hl
  obtain ⟨c0, c1, c2, c3, c4, rfl⟩ := list_5 hl
  simp only [cells_str, cells_arr, cells_int, List.drop, List.take] at h0 h1 h2
  obtain ⟨s, e0, _⟩ := DataW.trod_string Try.underlying9 h0
  obtain ⟨z0, z1, z2, n', _, g0, g1, g2⟩ := trod_array3 Try.underlying37 cells_int h1
  obtain ⟨i1, e1, _⟩ := DataW.trod_int Try.underlying3 g0
  obtain ⟨i2, e2, _⟩ := DataW.trod_int Try.underlying3 g1
  obtain ⟨i3, e3, _⟩ := DataW.trod_int Try.underlying3 g2
  obtain ⟨i4, e4, _⟩ := DataW.trod_int Try.underlying3 h2
  simp only [List.cons.injEq, and_true] at e0 e1 e2 e3 e4
  subst e0; subst e1; subst e2; subst e3; subst e4
  exact ⟨(s, i1, i2, i3, i4), rfl⟩
theorem part_trod {cs : List Value} {x : DataW H × List MemPlace} (h : DataW.trod enc Try.prog W base spare held fuel 64 cs = some x) :
    ∃ q : Int × Int, cs = [.int .i64 q.1, .int .i64 q.2] := by
  obtain ⟨y0, y1, n, _, hl, h0, h1⟩ := trod_struct2 Try.underlying64 h
  rw [cells_part] at hl
  obtain ⟨c0, c1, rfl⟩ := list_2 hl
  simp only [cells_int, List.drop, List.take] at h0 h1
  obtain ⟨i1, e1, _⟩ := DataW.trod_int Try.underlying3 h0
  obtain ⟨i2, e2, _⟩ := DataW.trod_int Try.underlying3 h1
  simp only [List.cons.injEq, and_true] at e1 e2
  subst e1; subst e2
  exact ⟨(i1, i2), rfl⟩
theorem open_tints (hv : Value.okWide Try.prog W .any b0 22 v) (h : DataW.Trod enc Try.prog W base spare held 22 v d p) :
    ∃ a m tc T, v = .slice a m tc ∧ m ≤ 9223372036854775807 ∧ T.length = m ∧ (0 < m → ∃ b off, a = some ⟨b, off, none⟩ ∧ Tnts W b off m T) := by
  obtain ⟨av, n, cap, rfl⟩ := okWide_slice Try.underlying22 hv
  obtain ⟨fuel, hf⟩ := h
  rcases open_slice Try.underlying22 hf with ⟨hcs, _⟩ | ⟨a, len, cap', m, n', D, Pl, hcs, _, hlc, hmx, hm, hx, hi⟩
  · simp only [Value.cells, List.cons.injEq, Value.slice.injEq, and_true] at hcs
    obtain ⟨rfl, rfl, rfl⟩ := hcs
    exact ⟨none, 0, 0, [], rfl, by simp, rfl, fun h => absurd h (by simp)⟩
  · simp only [Value.cells, List.cons.injEq, Value.slice.injEq, and_true] at hcs
    obtain ⟨rfl, rfl, rfl⟩ := hcs
    have hnm : n ≤ m := by rw [hm]; split <;> omega
    have hq : ∀ i, i < n → ∃ q : T5, (W.cell? (a.add (i * 5)) = some (.string q.1) ∧ W.cell? (a.add (i * 5 + 1)) = some (.int .i64 q.2.1) ∧ W.cell? (a.add (i * 5 + 2)) = some (.int .i64 q.2.2.1)) ∧ W.cell? (a.add (i * 5 + 3)) = some (.int .i64 q.2.2.2.1) ∧ W.cell? (a.add (i * 5 + 4)) = some (.int .i64 q.2.2.2.2) := fun i hi' => by
      obtain ⟨cs', hc, ht⟩ := hi i (by omega)
      rw [cells_tint] at hc
      obtain ⟨q, rfl⟩ := tint_trod ht
      obtain ⟨_, _, hat⟩ := World.cells?_some hc
      have g0 := hat 0 (by omega)
      have g1 := hat 1 (by omega)
      have g2 := hat 2 (by omega)
      have g3 := hat 3 (by omega)
      have g4 := hat 4 (by omega)
      rw [add_add] at g0 g1 g2 g3 g4
      exact ⟨q, ⟨by simpa using g0, by simpa using g1, by simpa using g2⟩, by simpa using g3, by simpa using g4⟩
    obtain ⟨q, hq⟩ := choose_lt hq
    refine ⟨some a, n, cap, (List.range n).map q, rfl, by unfold maxLen at hmx; omega, by simp, fun h0 => ?_⟩
    obtain ⟨b, off, spot⟩ := a
    have hc0 := (hq 0 h0).1.1
    have hspot : spot = none := by simpa [Addr.add] using World.cell?_spot hc0
    subst hspot
    refine ⟨b, off, rfl, by simp, ?_, fun i hi' => ?_⟩
    · apply Classical.byContradiction
      intro hge
      have hh : W.heap[b]? = none := Array.getElem?_eq_none (by omega)
      rw [Addr.add_mid] at hc0
      simp [World.cell?, hh] at hc0
    · obtain ⟨⟨k0, k1, k2⟩, k3, k4⟩ := hq i hi'
      rw [Addr.add_mid] at k0 k1 k2 k3 k4
      have e : ((List.range n).map q).getD i (ByteArray.empty, 0, 0, 0, 0) = q i := by simp [List.getD_eq_getElem?_getD, hi']
      unfold tN tA tB tC tP
      rw [e]
      exact ⟨⟨k0, k1, k2⟩, k3, k4⟩
theorem open_parts {x : DataW H × List MemPlace} (h : DataW.trod enc Try.prog W base spare held fuel 23 [v] = some x) :
    ∃ a m tc P, v = .slice a m tc ∧ m ≤ 9223372036854775807 ∧ P.length = m ∧ (0 < m → ∃ b off, a = some ⟨b, off, none⟩ ∧ Prts W b off m P) := by
  rcases open_slice Try.underlying23 h with ⟨hcs, _⟩ | ⟨a, len, cap', m, n', D, Pl, hcs, _, hlc, hmx, hm, hx, hi⟩
  · simp only [List.cons.injEq, and_true] at hcs
    subst hcs
    exact ⟨none, 0, 0, [], rfl, by simp, rfl, fun h => absurd h (by simp)⟩
  · simp only [List.cons.injEq, and_true] at hcs
    subst hcs
    have hnm : len ≤ m := by rw [hm]; split <;> omega
    have hq : ∀ i, i < len → ∃ q : Int × Int, W.cell? (a.add (i * 2)) = some (.int .i64 q.1) ∧ W.cell? (a.add (i * 2 + 1)) = some (.int .i64 q.2) := fun i hi' => by
      obtain ⟨cs', hc, ht⟩ := hi i (by omega)
      rw [cells_part] at hc
      obtain ⟨q, rfl⟩ := part_trod ht
      obtain ⟨_, _, hat⟩ := World.cells?_some hc
      have g0 := hat 0 (by omega)
      have g1 := hat 1 (by omega)
      rw [add_add] at g0 g1
      exact ⟨q, by simpa using g0, by simpa using g1⟩
    obtain ⟨q, hq⟩ := choose_lt hq
    refine ⟨some a, len, cap', (List.range len).map q, rfl, by unfold maxLen at hmx; omega, by simp, fun h0 => ?_⟩
    obtain ⟨b, off, spot⟩ := a
    have hc0 := (hq 0 h0).1
    have hspot : spot = none := by simpa [Addr.add] using World.cell?_spot hc0
    subst hspot
    refine ⟨b, off, rfl, by simp, ?_, fun i hi' => ?_⟩
    · apply Classical.byContradiction
      intro hge
      have hh : W.heap[b]? = none := Array.getElem?_eq_none (by omega)
      rw [Addr.add_mid] at hc0
      simp [World.cell?, hh] at hc0
    · obtain ⟨k0, k1⟩ := hq i hi'
      rw [Addr.add_mid] at k0 k1
      have e : ((List.range len).map q).getD i (0, 0) = q i := by simp [List.getD_eq_getElem?_getD, hi']
      unfold pT pW
      rw [e]
      exact ⟨k0, k1⟩
theorem open_rcp (hv : Value.okWide Try.prog W .any b0 25 v) (h : DataW.Trod enc Try.prog W base spare held 25 v d p) :
    ∃ a m tc P, v = .agg #[.slice a m tc] ∧ m ≤ 9223372036854775807 ∧ P.length = m ∧ (0 < m → ∃ b off, a = some ⟨b, off, none⟩ ∧ Prts W b off m P) := by
  obtain ⟨cs, rfl, _⟩ := okWide_struct Try.underlying25 hv
  obtain ⟨fuel, hf⟩ := h
  obtain ⟨y0, n, _, hl, h0⟩ := trod_struct1 Try.underlying25 hf
  rw [cells_rcp] at hl
  obtain ⟨c0, hc0⟩ := list_1 hl
  rw [hc0] at h0
  simp only [cells_parts, List.drop, List.take] at h0
  obtain ⟨a, m, tc, P, rfl, r⟩ := open_parts h0
  refine ⟨a, m, tc, P, ?_, r⟩
  have hl2 : cs.toList = [.slice a m tc] := by simpa [Value.cells] using hc0
  obtain ⟨l⟩ := cs
  simp only at hl2
  rw [hl2]
theorem cells_plane : Try.prog.cellsOf 41 = 4 := by kernel_rfl
theorem list_3 {cs : List Value} (h : cs.length = 3) : ∃ a b c, cs = [a, b, c] := by
  match cs, h with
  | [a, b, c], _ => exact ⟨a, b, c, rfl⟩
theorem list_4 {cs : List Value} (h : cs.length = 4) : ∃ a b c d, cs = [a, b, c, d] := by
  match cs, h with
  | [a, b, c, d], _ => exact ⟨a, b, c, d, rfl⟩
theorem okWide_arr3 (hv : Value.okWide Try.prog W .any b0 37 v) : ∃ cs, v = .agg cs ∧ cs.size = Try.prog.cellsOf 37 := by
  simp only [Value.okWide, Try.underlying37] at hv
  obtain ⟨cs, h1, h2, _⟩ := hv
  exact ⟨cs, h1, h2⟩
theorem arr3_trod {cs : List Value} {x : DataW H × List MemPlace} (hl : cs.length = 3) (h : DataW.trod enc Try.prog W base spare held fuel 37 cs = some x) : ∃ a b c, cs = [.int .i64 a, .int .i64 b, .int .i64 c] := by
  obtain ⟨c0, c1, c2, rfl⟩ := list_3 hl
  obtain ⟨z0, z1, z2, n', _, g0, g1, g2⟩ := trod_array3 Try.underlying37 cells_int h
  obtain ⟨i1, e1, _⟩ := DataW.trod_int Try.underlying3 g0
  obtain ⟨i2, e2, _⟩ := DataW.trod_int Try.underlying3 g1
  obtain ⟨i3, e3, _⟩ := DataW.trod_int Try.underlying3 g2
  simp only [List.cons.injEq, and_true] at e1 e2 e3
  subst e1; subst e2; subst e3
  exact ⟨i1, i2, i3, rfl⟩
theorem open_arr3 (hv : Value.okWide Try.prog W .any b0 37 v) (h : DataW.Trod enc Try.prog W base spare held 37 v d p) : ∃ a b c, v = .agg #[.int .i64 a, .int .i64 b, .int .i64 c] := by
  obtain ⟨⟨l⟩, rfl, hs⟩ := okWide_arr3 hv
  obtain ⟨fuel, hf⟩ := h
  rw [cells_arr] at hs
  obtain ⟨a, b, c, e⟩ := arr3_trod (by simpa [Value.cells] using hs) hf
  refine ⟨a, b, c, ?_⟩
  simp only [Value.cells] at e
  rw [e]
theorem open_plane (hv : Value.okWide Try.prog W .any b0 41 v) (h : DataW.Trod enc Try.prog W base spare held 41 v d p) : ∃ a b c e, v = .agg #[.int .i64 a, .int .i64 b, .int .i64 c, .int .i64 e] := by
  obtain ⟨⟨l⟩, rfl, hs⟩ := okWide_struct Try.underlying41 hv
  obtain ⟨fuel, hf⟩ := h
  obtain ⟨y0, y1, n, _, hl, h0, h1⟩ := trod_struct2 Try.underlying41 hf
  rw [cells_plane] at hl
  simp only [Value.cells] at hl h0 h1
  obtain ⟨c0, c1, c2, c3, rfl⟩ := list_4 hl
  simp only [cells_arr, cells_int, List.drop, List.take] at h0 h1
  obtain ⟨a, b, c, e⟩ := arr3_trod rfl h0
  obtain ⟨i4, e4, _⟩ := DataW.trod_int Try.underlying3 h1
  simp only [List.cons.injEq, and_true] at e e4
  obtain ⟨rfl, rfl, rfl⟩ := e
  subst e4
  exact ⟨a, b, c, i4, rfl⟩

theorem open_tint (hv : Value.okWide Try.prog W .any b0 59 v) (h : DataW.Trod enc Try.prog W base spare held 59 v d p) : ∃ s a b c e, v = .agg #[.string s, .int .i64 a, .int .i64 b, .int .i64 c, .int .i64 e] := by
  obtain ⟨⟨l⟩, rfl, hs⟩ := okWide_struct Try.underlying59 hv
  obtain ⟨fuel, hf⟩ := h
  obtain ⟨q, e⟩ := tint_trod hf
  simp only [Value.cells] at e
  exact ⟨q.1, q.2.1, q.2.2.1, q.2.2.2.1, q.2.2.2.2, by rw [e]⟩

theorem cells_dual : Try.prog.cellsOf 49 = 5 := by kernel_rfl
theorem cells_arr4 : Try.prog.cellsOf 47 = 4 := by kernel_rfl
theorem open_dual (hv : Value.okWide Try.prog W .any b0 49 v) (h : DataW.Trod enc Try.prog W base spare held 49 v d p) : ∃ a b c e f, v = .agg #[.int .i64 a, .int .i64 b, .int .i64 c, .int .i64 e, .int .i64 f] := by
  obtain ⟨⟨l⟩, rfl, hs⟩ := okWide_struct Try.underlying49 hv
  obtain ⟨fuel, hf⟩ := h
  obtain ⟨y0, y1, n, _, hl, h0, h1⟩ := trod_struct2 Try.underlying49 hf
  rw [cells_dual] at hl
  simp only [Value.cells] at hl h0 h1
  obtain ⟨c0, c1, c2, c3, c4, rfl⟩ := list_5 hl
  simp only [cells_arr4, cells_int, List.drop, List.take] at h0 h1
  obtain ⟨z0, z1, z2, z3, n', _, g0, g1, g2, g3⟩ := trod_array4 Try.underlying47 cells_int h0
  obtain ⟨i1, e1, _⟩ := DataW.trod_int Try.underlying3 g0
  obtain ⟨i2, e2, _⟩ := DataW.trod_int Try.underlying3 g1
  obtain ⟨i3, e3, _⟩ := DataW.trod_int Try.underlying3 g2
  obtain ⟨i4, e4, _⟩ := DataW.trod_int Try.underlying3 g3
  obtain ⟨i5, e5, _⟩ := DataW.trod_int Try.underlying3 h1
  simp only [List.cons.injEq, and_true] at e1 e2 e3 e4 e5
  subst e1; subst e2; subst e3; subst e4; subst e5
  exact ⟨i1, i2, i3, i4, i5, rfl⟩

end

end Go.Proofs.Ytpjekinmcdglbaa
