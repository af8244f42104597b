/- Cheapest, where its checks pass and its recipes are small: parts of a row; the best of a list. -/
import Derived.Test.YtpjekinmcdglbaaRv
import Derived.Test.YtpjekinmcdglbaaCo
import Derived.Test.YtpjekinmcdglbaaCj
set_option linter.unusedSimpArgs false
set_option linter.unusedVariables false
set_option maxRecDepth 100000
namespace Go.Proofs.Ytpjekinmcdglbaa
open Go.RowKit Go.Shelf

theorem partCells_at : ∀ (x : List (Int × Int)) (i : Nat), i < x.length → (partCells x)[i * 2]? = some (.int .i64 (pT x i)) ∧ (partCells x)[i * 2 + 1]? = some (.int .i64 (pW x i))
  | [], i, h => by simp at h
  | y :: x, 0, _ => by simp [partCells, pT, pW]
  | y :: x, i + 1, h => by
    have ih := partCells_at x i (by simpa using h)
    have e1 : (i + 1) * 2 = i * 2 + 1 + 1 := by omega
    have e2 : (i + 1) * 2 + 1 = i * 2 + 1 + 1 + 1 := by omega
    rw [e2, e1]
    refine ⟨?_, ?_⟩
    · simpa [partCells, pT] using ih.1
    · simpa [partCells, pW] using ih.2
theorem prts_of_own {W : World} {base g cap n : Nat} {x : List (Int × Int)} (hn : x.length = n) (h : W.ownsRow base 64 2 (.slice (some ⟨g, 0, none⟩) n cap) n (partCells x)) : Prts W g 0 n x :=
  ⟨hn, own_lt h, fun i hi => by
    have := partCells_at x i (by omega)
    rw [Nat.zero_add]
    exact ⟨(own_cell h this.1).1, (own_cell h this.2).1⟩⟩
def pxA (T : List T5) (x : List (Int × Int)) : Int := lowA (sumT x (tP T) x.length) (sumW x x.length)
def pxB (T : List T5) (x : List (Int × Int)) : Int := lowB (sumT x (tP T) x.length) (sumW x x.length)
def bstep (T : List T5) (o : Option (List (Int × Int))) (x : List (Int × Int)) : Option (List (Int × Int)) :=
  match o with
  | none => some x
  | some y => if lessB (pxA T x).toNat (pxB T x).toNat (pxA T y).toNat (pxB T y).toNat = true then some x else some y
def bestTo (T : List T5) (L : List (List (Int × Int))) : Option (List (Int × Int)) := L.foldl (bstep T) none
theorem bestTo_snoc (T : List T5) (L : List (List (Int × Int))) (x : List (Int × Int)) : bestTo T (L ++ [x]) = bstep T (bestTo T L) x := by simp [bestTo]
theorem bestTo_nil (T : List T5) : bestTo T [] = none := rfl
/-- a recipe that the program may reckon with -/
def smallR (x : List (Int × Int)) (n : Nat) : Prop := (1 ≤ x.length ∧ x.length ≤ 4) ∧ prOk x x.length n
theorem px_bd {T : List T5} {x : List (Int × Int)} {n : Nat} (htn : tnOk T) (h : smallR x n) : (0 ≤ pxA T x ∧ pxA T x ≤ 4000000000000000000) ∧ 0 ≤ pxB T x ∧ pxB T x ≤ 4000000000000000000 := by
  obtain ⟨⟨h1, h2⟩, h3⟩ := h
  have hwok : ∀ i, i < x.length → 1 ≤ pW x i ∧ pW x i ≤ 1000000000000 := fun i hi => (h3 i hi).1
  have sW := sumW_bd (P := x) (k := x.length) hwok
  have sW1 := sumW_pos h3 (by omega)
  have sP := sumT_bd (P := x) (f := tP T) (M := 10000) (by omega) (k := x.length) (fun i hi => ⟨hwok i hi, (htn _).2.2.1, (htn _).2.2.2⟩)
  unfold pxA pxB lowA lowB
  obtain ⟨g1, g2⟩ := gcdI_pos (sumT x (tP T) x.length) (sumW x x.length) (by omega)
  obtain ⟨t1, t2⟩ := tdiv_bd (sumT x (tP T) x.length) _ g1 4000000000000000000 (by omega) (by omega)
  obtain ⟨t3, t4⟩ := tdiv_bd (sumW x x.length) _ g1 4000000000000000000 (by omega) (by omega)
  exact ⟨⟨Int.tdiv_nonneg (by omega) (by omega), t2⟩, Int.tdiv_nonneg (by omega) (by omega), t4⟩

end Go.Proofs.Ytpjekinmcdglbaa
