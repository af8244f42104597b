/- The reference's recipe of one to four places. At most 1000 tints with shades from 0 to 1000. -/
import Derived.Test.YtpjekinmcdglbaaNk
set_option linter.unusedSimpArgs false
set_option linter.unusedVariables false
set_option maxRecDepth 100000
namespace Go.Proofs.Ytpjekinmcdglbaa
open Go.RowKit Go.Shelf

theorem pts_mono {w : World} {g n : Nat} {P Q : Nat → V3} (h : Pts3 w g n P) (hq : ∀ i, i < n → P i = Q i) : Pts3 w g n Q :=
  ⟨h.1, fun i hi => by rw [← hq i hi]; exact h.2 i hi⟩
theorem weights_all (g cap m : Nat) (P : Nat → V3) (x : V3) (w : World) (h1 : 1 ≤ m) (h4 : m ≤ 4) (hP : Pts3 w g m P) (hb : ∀ i, bdV 1000 (P i)) (hx : bdV 1000 x) :
    Calls Try.prog 64 #[.slice (some ⟨g, 0, none⟩) m cap, v3 x] w (WtR w (rwt ((List.range m).map P) x)) := by
  have : m = 1 ∨ m = 2 ∨ m = 3 ∨ m = 4 := by omega
  rcases this with rfl | rfl | rfl | rfl
  · exact weights1_c g cap (P 0) x w (pts_mono hP fun i hi => by rw [show i = 0 by omega]) (hb 0) hx
  · exact weights2_c g cap P x w hP hb hx
  · exact weights3_c g cap P x w hP hb hx
  · exact weights4_c g cap P x w hP hb hx
/-- the weights are far from the bounds of 64 bits -/
theorem rwt_bd (P : Nat → V3) (x : V3) (m : Nat) (h1 : 1 ≤ m) (h4 : m ≤ 4) (hb : ∀ i, bdV 1000 (P i)) (hx : bdV 1000 x) : (rwt ((List.range m).map P) x).1.length = m ∧ ∀ i, i < m → -4000000000000000000 ≤ (rwt ((List.range m).map P) x).1.getD i 0 ∧ (rwt ((List.range m).map P) x).1.getD i 0 ≤ 4000000000000000000 := by
  have hX := hx.sub (hb 0)
  have hU := (hb 1).sub (hb 0)
  have hV := (hb 2).sub (hb 0)
  have hW := (hb 3).sub (hb 0)
  have hN := hU.cross hV
  have hC1 := hX.cross hV
  have hC2 := hU.cross hX
  have : m = 1 ∨ m = 2 ∨ m = 3 ∨ m = 4 := by omega
  rcases this with rfl | rfl | rfl | rfl
  · refine ⟨rfl, fun i hi => ?_⟩
    obtain rfl : i = 0 := by omega
    show -4000000000000000000 ≤ (1 : Int) ∧ (1 : Int) ≤ 4000000000000000000
    omega
  · have b1 := hU.dot hU
    have b2 := hU.dot hX
    refine ⟨rfl, fun i hi => ?_⟩
    have : i = 0 ∨ i = 1 := by omega
    rcases this with rfl | rfl
    · show -4000000000000000000 ≤ (((P 1).sub (P 0)).dot ((P 1).sub (P 0)) - ((P 1).sub (P 0)).dot (x.sub (P 0)) : Int) ∧ (((P 1).sub (P 0)).dot ((P 1).sub (P 0)) - ((P 1).sub (P 0)).dot (x.sub (P 0)) : Int) ≤ 4000000000000000000
      omega
    · show -4000000000000000000 ≤ (((P 1).sub (P 0)).dot (x.sub (P 0)) : Int) ∧ (((P 1).sub (P 0)).dot (x.sub (P 0)) : Int) ≤ 4000000000000000000
      omega
  · have b1 := hN.dot hC1
    have b2 := hN.dot hC2
    have b3 := hN.dot hN
    have e : (rwt ((List.range 3).map P) x).1 = [(((P 1).sub (P 0)).cross ((P 2).sub (P 0))).dot (((P 1).sub (P 0)).cross ((P 2).sub (P 0))) - (((P 1).sub (P 0)).cross ((P 2).sub (P 0))).dot ((x.sub (P 0)).cross ((P 2).sub (P 0))) - (((P 1).sub (P 0)).cross ((P 2).sub (P 0))).dot (((P 1).sub (P 0)).cross (x.sub (P 0))), (((P 1).sub (P 0)).cross ((P 2).sub (P 0))).dot ((x.sub (P 0)).cross ((P 2).sub (P 0))), (((P 1).sub (P 0)).cross ((P 2).sub (P 0))).dot (((P 1).sub (P 0)).cross (x.sub (P 0)))] := rfl
    rw [e]
    refine ⟨rfl, fun i hi => ?_⟩
    have : i = 0 ∨ i = 1 ∨ i = 2 := by omega
    rcases this with rfl | rfl | rfl <;> simp only [List.getD_cons_zero, List.getD_cons_succ] <;> omega
  · have b1 := hC1.dot hW
    have b2 := hC2.dot hW
    have b3 := hN.dot hX
    have b4 := hN.dot hW
    have e : (rwt ((List.range 4).map P) x) = if (((P 1).sub (P 0)).cross ((P 2).sub (P 0))).dot ((P 3).sub (P 0)) < 0 then ([((x.sub (P 0)).cross ((P 2).sub (P 0))).dot ((P 3).sub (P 0)) + (((P 1).sub (P 0)).cross (x.sub (P 0))).dot ((P 3).sub (P 0)) + (((P 1).sub (P 0)).cross ((P 2).sub (P 0))).dot (x.sub (P 0)) - (((P 1).sub (P 0)).cross ((P 2).sub (P 0))).dot ((P 3).sub (P 0)), -((x.sub (P 0)).cross ((P 2).sub (P 0))).dot ((P 3).sub (P 0)), -(((P 1).sub (P 0)).cross (x.sub (P 0))).dot ((P 3).sub (P 0)), -(((P 1).sub (P 0)).cross ((P 2).sub (P 0))).dot (x.sub (P 0))], true) else ([(((P 1).sub (P 0)).cross ((P 2).sub (P 0))).dot ((P 3).sub (P 0)) - ((x.sub (P 0)).cross ((P 2).sub (P 0))).dot ((P 3).sub (P 0)) - (((P 1).sub (P 0)).cross (x.sub (P 0))).dot ((P 3).sub (P 0)) - (((P 1).sub (P 0)).cross ((P 2).sub (P 0))).dot (x.sub (P 0)), ((x.sub (P 0)).cross ((P 2).sub (P 0))).dot ((P 3).sub (P 0)), (((P 1).sub (P 0)).cross (x.sub (P 0))).dot ((P 3).sub (P 0)), (((P 1).sub (P 0)).cross ((P 2).sub (P 0))).dot (x.sub (P 0))], decide (0 < (((P 1).sub (P 0)).cross ((P 2).sub (P 0))).dot ((P 3).sub (P 0)))) := rfl
    rw [e]
    generalize ((x.sub (P 0)).cross ((P 2).sub (P 0))).dot ((P 3).sub (P 0)) = a at *
    generalize (((P 1).sub (P 0)).cross (x.sub (P 0))).dot ((P 3).sub (P 0)) = b at *
    generalize (((P 1).sub (P 0)).cross ((P 2).sub (P 0))).dot (x.sub (P 0)) = c at *
    generalize (((P 1).sub (P 0)).cross ((P 2).sub (P 0))).dot ((P 3).sub (P 0)) = d at *
    split
    · refine ⟨rfl, fun i hi => ?_⟩
      have : i = 0 ∨ i = 1 ∨ i = 2 ∨ i = 3 := by omega
      rcases this with rfl | rfl | rfl | rfl <;> simp only [List.getD_cons_zero, List.getD_cons_succ] <;> omega
    · refine ⟨rfl, fun i hi => ?_⟩
      have : i = 0 ∨ i = 1 ∨ i = 2 ∨ i = 3 := by omega
      rcases this with rfl | rfl | rfl | rfl <;> simp only [List.getD_cons_zero, List.getD_cons_succ] <;> omega

theorem arr3_info : (Try.prog.info? 37).map (fun i => (i.zero, i.size, i.bytes)) = some (some (.agg #[.int .i64 0, .int .i64 0, .int .i64 0]), 3, 24) := by kernel_rfl
def ptC (P : Nat → V3) : Nat → List Value
  | 0 => []
  | k + 1 => ptC P k ++ [.int .i64 (P k).x, .int .i64 (P k).y, .int .i64 (P k).z]
theorem ptC_len (P : Nat → V3) : ∀ k, (ptC P k).length = k * 3
  | 0 => rfl
  | k + 1 => by simp [ptC, ptC_len P k]; omega
theorem ptC_at (P : Nat → V3) : ∀ {k i : Nat}, i < k → (ptC P k)[i * 3]? = some (.int .i64 (P i).x) ∧ (ptC P k)[i * 3 + 1]? = some (.int .i64 (P i).y) ∧ (ptC P k)[i * 3 + 2]? = some (.int .i64 (P i).z)
  | 0, i, h => by omega
  | k + 1, i, h => by
    have hl := ptC_len P k
    by_cases e : i = k
    · subst e
      simp only [ptC]
      rw [List.getElem?_append_right (by omega), List.getElem?_append_right (by omega), List.getElem?_append_right (by omega), hl]
      refine ⟨by simp, ?_, ?_⟩
      · rw [show i * 3 + 1 - i * 3 = 1 by omega]; rfl
      · rw [show i * 3 + 2 - i * 3 = 2 by omega]; rfl
    · have := ptC_at P (show i < k by omega)
      simp only [ptC]
      rw [List.getElem?_append_left (by omega), List.getElem?_append_left (by omega), List.getElem?_append_left (by omega)]
      exact this
theorem pts_own {W : World} {base g cap m : Nat} {P : Nat → V3} (h : W.ownsRow base 37 3 (.slice (some ⟨g, 0, none⟩) m cap) m (ptC P m)) : Pts3 W g m P :=
  ⟨own_lt h, fun i hi => ⟨(own_cell h (ptC_at P hi).1).1, (own_cell h (ptC_at P hi).2.1).1, (own_cell h (ptC_at P hi).2.2).1⟩⟩

/-- the first k parts of the reference's recipe -/
def prtTo (pl : List Nat) (y : Nat → Int) (m k : Nat) : List (Int × Int) := (List.range k).map fun i => ((pl.getD i 0 : Int), (y i).tdiv (gcTo y m))
theorem prtTo_succ (pl : List Nat) (y : Nat → Int) (m k : Nat) : prtTo pl y m (k + 1) = prtTo pl y m k ++ [((pl.getD k 0 : Int), (y k).tdiv (gcTo y m))] := by simp [prtTo, List.range_succ]
theorem prtTo_len (pl : List Nat) (y : Nat → Int) (m k : Nat) : (prtTo pl y m k).length = k := by simp [prtTo]
theorem gcP_bd {y : Nat → Int} {m : Nat} (hp : ∀ i, i < m → 0 < y i) (hb : ∀ i, i < m → y i ≤ 4000000000000000000) : ∀ k, k ≤ m → 0 ≤ gcTo y k ∧ gcTo y k ≤ 4000000000000000000 ∧ (0 < k → 0 < gcTo y k)
  | 0, _ => by simp [gcTo]
  | k + 1, hk => by
    have h1 := gcdI_pos (gcTo y k) (y k) (hp k (by omega))
    have h2 := hb k (by omega)
    simp only [gcTo]
    exact ⟨gcdI_nonneg _ _, Int.le_trans h1.2 h2, fun _ => h1.1⟩
/-- what the reference's recipe returns: the recipe of R, or none -/
def RcR (w : World) (R : Option (List (Int × Int))) (en : Ending) (w' : World) : Prop :=
  ∃ sv, New w w' ∧ ((R = none ∧ en = .returned (.tuple #[.agg #[.slice none 0 0], .bool false]) ∧ sv = .slice none 0 0) ∨ ∃ l, R = some l ∧ en = .returned (.tuple #[.agg #[sv], .bool true]) ∧ w'.ownsRow w.heap.size 64 2 sv l.length (partCells l))

theorem rec_results (tmps : Array Value) (W : World) (a : Nat) (sv : Value) (ok : Bool) (t : TypeId) (h6 : tmps.getD 6 undef = .pointer (some ⟨a, 0, none⟩)) (h7 : tmps.getD 7 undef = .bool ok) (hA : W.heap[a]? = some (.cells #[sv] t (0, 0))) :
    (results Try.f40 tmps).run Try.prog W = .ok (.tuple #[.agg #[sv], .bool ok]) W := by
  have c1 := (box_cell hA).1
  simp only [Array.getD_eq_getD_getElem?] at h6 h7
  simp [results, Try.results40, go_sem, h6, h7, c1]

end Go.Proofs.Ytpjekinmcdglbaa
