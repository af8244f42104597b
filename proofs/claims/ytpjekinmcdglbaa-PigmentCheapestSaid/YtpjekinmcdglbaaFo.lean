/- The frame of some tints: frameOf, whatever tints with shades from 0 to 1000 and one to four places. -/
import Derived.Test.YtpjekinmcdglbaaCh
import Derived.Test.YtpjekinmcdglbaaFd
import Derived.Test.YtpjekinmcdglbaaCt
import Derived.Sort.CutIn
set_option linter.unusedSimpArgs false
set_option linter.unusedVariables false
namespace Go.Proofs.Ytpjekinmcdglbaa
open Go.RowKit Go.Shelf

attribute [local go_sem] Oper.semAt_some

theorem arr16_ext {m m' : Nat → Int} (h : ∀ j, j < 16 → m j = m' j) : arr16 m = arr16 m' := by
  unfold arr16
  rw [h 0 (by omega), h 1 (by omega), h 2 (by omega), h 3 (by omega), h 4 (by omega), h 5 (by omega), h 6 (by omega), h 7 (by omega), h 8 (by omega), h 9 (by omega), h 10 (by omega), h 11 (by omega), h 12 (by omega), h 13 (by omega), h 14 (by omega), h 15 (by omega)]
def put1 (m : Nat → Int) (j : Nat) (x : Int) : Nat → Int := fun k => if k = j then x else m k
theorem arr16_set (m : Nat → Int) (j : Nat) (hj : j < 16) (x : Int) : (arr16 m).setIfInBounds j (.int .i64 x) = arr16 (put1 m j x) := by
  have : j = 0 ∨ j = 1 ∨ j = 2 ∨ j = 3 ∨ j = 4 ∨ j = 5 ∨ j = 6 ∨ j = 7 ∨ j = 8 ∨ j = 9 ∨ j = 10 ∨ j = 11 ∨ j = 12 ∨ j = 13 ∨ j = 14 ∨ j = 15 := by omega
  rcases this with rfl | rfl | rfl | rfl | rfl | rfl | rfl | rfl | rfl | rfl | rfl | rfl | rfl | rfl | rfl | rfl <;> simp [arr16, put1]
theorem heap_put1 {W : World} {b : Nat} {m : Nat → Int} {t : TypeId} (h : W.heap[b]? = some (.cells (arr16 m) t (0, 0))) (j : Nat) (hj : j < 16) (x : Int) : (W.setCell ⟨b, j, none⟩ (.int .i64 x)).heap[b]? = some (.cells (arr16 (put1 m j x)) t (0, 0)) := by
  rw [heap_setCell_same _ _ _ _ h, arr16_set m j hj]
def put4 (m : Nat → Int) (j : Nat) (x y z u : Int) : Nat → Int := put1 (put1 (put1 (put1 m j x) (j + 1) y) (j + 2) z) (j + 3) u
theorem heap_put4 {W : World} {b : Nat} {m : Nat → Int} {t : TypeId} (h : W.heap[b]? = some (.cells (arr16 m) t (0, 0))) (j : Nat) (hj : j + 3 < 16) (x y z u : Int) :
    ((((W.setCell ⟨b, j, none⟩ (.int .i64 x)).setCell ⟨b, j + 1, none⟩ (.int .i64 y)).setCell ⟨b, j + 2, none⟩ (.int .i64 z)).setCell ⟨b, j + 3, none⟩ (.int .i64 u)).heap[b]? = some (.cells (arr16 (put4 m j x y z u)) t (0, 0)) :=
  heap_put1 (heap_put1 (heap_put1 (heap_put1 h j (by omega) x) (j + 1) (by omega) y) (j + 2) (by omega) z) (j + 3) (by omega) u

/-- one entry of the row of a tint -/
def rowT (T : List T5) (p c : Nat) : Int := if c = 0 then 1 else if c = 1 then tA T p else if c = 2 then tB T p else tC T p
/-- the frame of the tints pl and the directions ds -/
def frm (T : List T5) (pl ds : List Nat) : Nat → Int := fun k => if k / 4 < pl.length then rowT T (pl.getD (k / 4) 0) (k % 4) else if k % 4 = ds.getD (k / 4 - pl.length) 0 + 1 then 1 else 0
def shOk (T : List T5) : Prop := ∀ p, (0 ≤ tA T p ∧ tA T p ≤ 1000) ∧ (0 ≤ tB T p ∧ tB T p ≤ 1000) ∧ 0 ≤ tC T p ∧ tC T p ≤ 1000
theorem frm_bd {T : List T5} (h : shOk T) (pl ds : List Nat) : bd16 (frm T pl ds) := by
  intro k hk
  obtain ⟨a, b, c⟩ := h (pl.getD (k / 4) 0)
  unfold frm rowT
  split
  · split
    · omega
    · split
      · omega
      · split <;> omega
  · split <;> omega
/-- the first k rows of m are those of the frame -/
def rowsOk (T : List T5) (pl ds : List Nat) (k : Nat) (m : Nat → Int) : Prop := ∀ j, j < 16 → j / 4 < k → m j = frm T pl ds j
theorem put4_at (m : Nat → Int) (j : Nat) (x y z u : Int) (k : Nat) : put4 m j x y z u k = if k = j + 3 then u else if k = j + 2 then z else if k = j + 1 then y else if k = j then x else m k := rfl
theorem rowsOk_tint {T : List T5} {pl ds : List Nat} {k : Nat} {m : Nat → Int} (h : rowsOk T pl ds k m) (hk : k < pl.length) :
    rowsOk T pl ds (k + 1) (put4 m (k * 4) 1 (tA T (pl.getD k 0)) (tB T (pl.getD k 0)) (tC T (pl.getD k 0))) := by
  intro j hj hjk
  rw [put4_at]
  by_cases e : j / 4 = k
  · have hm : j % 4 = 0 ∨ j % 4 = 1 ∨ j % 4 = 2 ∨ j % 4 = 3 := by omega
    unfold frm rowT
    rw [if_pos (show j / 4 < pl.length by omega), e]
    rcases hm with hm | hm | hm | hm
    · rw [if_neg (by omega), if_neg (by omega), if_neg (by omega), if_pos (by omega), if_pos hm]
    · rw [if_neg (by omega), if_neg (by omega), if_pos (by omega), if_neg (by omega), if_pos hm]
    · rw [if_neg (by omega), if_pos (by omega), if_neg (by omega), if_neg (by omega), if_pos hm]
    · rw [if_pos (by omega), if_neg (by omega), if_neg (by omega), if_neg (by omega)]
  · rw [if_neg (by omega), if_neg (by omega), if_neg (by omega), if_neg (by omega)]
    exact h j hj (by omega)
theorem rowsOk_dir {T : List T5} {pl ds : List Nat} {k d : Nat} {m : Nat → Int} (h : rowsOk T pl ds (pl.length + k) m) (hd : ds.getD k 0 = d) (hd3 : d < 3) :
    rowsOk T pl ds (pl.length + k + 1) (put1 (put4 m ((pl.length + k) * 4) 0 0 0 0) ((pl.length + k) * 4 + (d + 1)) 1) := by
  intro j hj hjk
  unfold put1
  rw [put4_at]
  by_cases e : j / 4 = pl.length + k
  · unfold frm
    rw [if_neg (show ¬ j / 4 < pl.length by omega), e, show pl.length + k - pl.length = k by omega, hd]
    by_cases e2 : j % 4 = d + 1
    · rw [if_pos (by omega), if_pos e2]
    · rw [if_neg (by omega), if_neg e2]
      split; · rfl
      split; · rfl
      split; · rfl
      split; · rfl
      omega
  · rw [if_neg (by omega), if_neg (by omega), if_neg (by omega), if_neg (by omega), if_neg (by omega)]
    exact h j hj (by omega)
theorem bd16_put1 {m : Nat → Int} (h : bd16 m) (j : Nat) {x : Int} (hx : -10000 ≤ x ∧ x ≤ 10000) : bd16 (put1 m j x) := by
  intro k hk; unfold put1; split
  · exact hx
  · exact h k hk
theorem bd16_put4 {m : Nat → Int} (h : bd16 m) (j : Nat) {x y z u : Int} (hx : -10000 ≤ x ∧ x ≤ 10000) (hy : -10000 ≤ y ∧ y ≤ 10000) (hz : -10000 ≤ z ∧ z ≤ 10000) (hu : -10000 ≤ u ∧ u ≤ 10000) : bd16 (put4 m j x y z u) :=
  bd16_put1 (bd16_put1 (bd16_put1 (bd16_put1 h _ hx) _ hy) _ hz) _ hu

/-- the frame that frameOf returns -/
def frameR (T : List T5) (pl : List Nat) : (Nat → Int) × Bool :=
  match (extL 3 (4 - pl.length) [] 0).find? (fun ds => decide (detI (frm T pl ds) ≠ 0)) with
  | some ds => (frm T pl ds, true)
  | none => (fun _ => 0, false)

theorem extL_mem {n : Nat} : ∀ {k : Nat} {pre : List Nat} {s : Nat} {x : List Nat}, x ∈ extL n k pre s → x.length = pre.length + k ∧ ((∀ p ∈ pre, p < n) → ∀ p ∈ x, p < n)
  | 0, pre, s, x, h => by
    simp [extL] at h; subst h; exact ⟨rfl, fun h => h⟩
  | k + 1, pre, s, x, h => by
    simp only [extL, List.mem_flatMap, List.mem_range] at h
    obtain ⟨i, hi, hx⟩ := h
    have := extL_mem hx
    refine ⟨by rw [this.1]; simp; omega, fun hp => this.2 fun p hpm => ?_⟩
    rw [List.mem_append] at hpm
    rcases hpm with h | h
    · exact hp p h
    · simp at h; omega

theorem heap_setCell4_other (w : World) (g a b c d k : Nat) (x y z u : Value) (hk : k ≠ g) : ((((w.setCell ⟨g, a, none⟩ x).setCell ⟨g, b, none⟩ y).setCell ⟨g, c, none⟩ z).setCell ⟨g, d, none⟩ u).heap[k]? = w.heap[k]? := by
  rw [heap_setCell_other _ _ _ _ _ hk, heap_setCell_other _ _ _ _ _ hk, heap_setCell_other _ _ _ _ _ hk, heap_setCell_other _ _ _ _ _ hk]

theorem Mod.set4 {O : Nat → Prop} (A : World) (g a b c d : Nat) (x y z u : Value) (hg : O g) : Mod O A ((((A.setCell ⟨g, a, none⟩ x).setCell ⟨g, b, none⟩ y).setCell ⟨g, c, none⟩ z).setCell ⟨g, d, none⟩ u) :=
  (((Mod.setCell _ _ _ _ hg).trans (Mod.setCell _ _ _ _ hg)).trans (Mod.setCell _ _ _ _ hg)).trans (Mod.setCell _ _ _ _ hg)
theorem frameR_some {T : List T5} {pl : List Nat} {pre : List (List Nat)} {x : List Nat} (h : pre ++ [x] <+: extL 3 (4 - pl.length) [] 0) (h0 : ∀ y ∈ pre, detI (frm T pl y) = 0) (h1 : detI (frm T pl x) ≠ 0) : frameR T pl = (frm T pl x, true) := by
  obtain ⟨rest, hr⟩ := h
  unfold frameR
  rw [← hr, List.append_assoc, List.find?_append, List.find?_eq_none.2 (fun y hy => by simpa using h0 y hy)]
  simp [h1]

/-- the world in the midst of frameOf: the boxes of places, of the results, and of the frame m -/
def FoW (w W : World) (v : Value) (m : Nat → Int) : Prop :=
  New w W ∧ W.heap[w.heap.size]? = some (.cells #[v] 84 (0, 0)) ∧ W.heap[w.heap.size + 1]? = some (.cells (arr16 fun _ => 0) 107 (0, 0)) ∧ W.heap[w.heap.size + 1 + 1]? = some (.cells #[.bool false] 4 (0, 0)) ∧ W.heap[w.heap.size + 1 + 1 + 1]? = some (.cells (arr16 m) 107 (0, 0))
theorem frozen_heap {W : World} {b : Nat} {cs : Array Value} {t : TypeId} (h : W.heap[b]? = some (.cells cs t (0, 0))) (o : Nat) : W.frozen? ⟨b, o, none⟩ = false := by simp [World.frozen?, h]

theorem alloc4_heap (W : World) (A B C D : Obj) : ((((W.alloc A).alloc B).alloc C).alloc D).heap[W.heap.size]? = some A ∧ ((((W.alloc A).alloc B).alloc C).alloc D).heap[W.heap.size + 1]? = some B ∧ ((((W.alloc A).alloc B).alloc C).alloc D).heap[W.heap.size + 2]? = some C ∧ ((((W.alloc A).alloc B).alloc C).alloc D).heap[W.heap.size + 3]? = some D := by
  obtain ⟨a, b, c⟩ := alloc3_heap W A B C
  have e4 := World.alloc_heap_new (((W.alloc A).alloc B).alloc C) D
  simp only [World.size_alloc] at e4
  exact ⟨by rw [Below.heap_alloc _ _ _ (by simp <;> omega)]; exact a, by rw [Below.heap_alloc _ _ _ (by simp <;> omega)]; exact b, by rw [Below.heap_alloc _ _ _ (by simp <;> omega)]; exact c, e4⟩

theorem heap_put16 {W : World} {b : Nat} {m : Nat → Int} {t : TypeId} (h : W.heap[b]? = some (.cells (arr16 m) t (0, 0))) (M : Nat → Int) :
    ((((((((((((((((W.setCell ⟨b, 0, none⟩ (.int .i64 (M 0))).setCell ⟨b, 1, none⟩ (.int .i64 (M 1))).setCell ⟨b, 2, none⟩ (.int .i64 (M 2))).setCell ⟨b, 3, none⟩ (.int .i64 (M 3))).setCell ⟨b, 4, none⟩ (.int .i64 (M 4))).setCell ⟨b, 5, none⟩ (.int .i64 (M 5))).setCell ⟨b, 6, none⟩ (.int .i64 (M 6))).setCell ⟨b, 7, none⟩ (.int .i64 (M 7))).setCell ⟨b, 8, none⟩ (.int .i64 (M 8))).setCell ⟨b, 9, none⟩ (.int .i64 (M 9))).setCell ⟨b, 10, none⟩ (.int .i64 (M 10))).setCell ⟨b, 11, none⟩ (.int .i64 (M 11))).setCell ⟨b, 12, none⟩ (.int .i64 (M 12))).setCell ⟨b, 13, none⟩ (.int .i64 (M 13))).setCell ⟨b, 14, none⟩ (.int .i64 (M 14))).setCell ⟨b, 15, none⟩ (.int .i64 (M 15))).heap[b]? = some (.cells (arr16 M) t (0, 0)) := by
  rw [(heap_put1 (heap_put1 (heap_put1 (heap_put1 (heap_put1 (heap_put1 (heap_put1 (heap_put1 (heap_put1 (heap_put1 (heap_put1 (heap_put1 (heap_put1 (heap_put1 (heap_put1 (heap_put1 h 0 (by omega) (M 0)) 1 (by omega) (M 1)) 2 (by omega) (M 2)) 3 (by omega) (M 3)) 4 (by omega) (M 4)) 5 (by omega) (M 5)) 6 (by omega) (M 6)) 7 (by omega) (M 7)) 8 (by omega) (M 8)) 9 (by omega) (M 9)) 10 (by omega) (M 10)) 11 (by omega) (M 11)) 12 (by omega) (M 12)) 13 (by omega) (M 13)) 14 (by omega) (M 14)) 15 (by omega) (M 15))]
  refine congrArg some ?_
  refine congrArg (fun c => Obj.cells c t (0, 0)) ?_
  simp [arr16, put1]
theorem heap_put16_other (W : World) (b k : Nat) (hk : k ≠ b) (M : Nat → Int) :
    ((((((((((((((((W.setCell ⟨b, 0, none⟩ (.int .i64 (M 0))).setCell ⟨b, 1, none⟩ (.int .i64 (M 1))).setCell ⟨b, 2, none⟩ (.int .i64 (M 2))).setCell ⟨b, 3, none⟩ (.int .i64 (M 3))).setCell ⟨b, 4, none⟩ (.int .i64 (M 4))).setCell ⟨b, 5, none⟩ (.int .i64 (M 5))).setCell ⟨b, 6, none⟩ (.int .i64 (M 6))).setCell ⟨b, 7, none⟩ (.int .i64 (M 7))).setCell ⟨b, 8, none⟩ (.int .i64 (M 8))).setCell ⟨b, 9, none⟩ (.int .i64 (M 9))).setCell ⟨b, 10, none⟩ (.int .i64 (M 10))).setCell ⟨b, 11, none⟩ (.int .i64 (M 11))).setCell ⟨b, 12, none⟩ (.int .i64 (M 12))).setCell ⟨b, 13, none⟩ (.int .i64 (M 13))).setCell ⟨b, 14, none⟩ (.int .i64 (M 14))).setCell ⟨b, 15, none⟩ (.int .i64 (M 15))).heap[k]? = W.heap[k]? := by
  simp only [heap_setCell_other _ _ _ _ _ hk]
theorem New.put16 {w W : World} (h : New w W) (b : Nat) (hb : w.heap.size ≤ b) (M : Nat → Int) :
    New w ((((((((((((((((W.setCell ⟨b, 0, none⟩ (.int .i64 (M 0))).setCell ⟨b, 1, none⟩ (.int .i64 (M 1))).setCell ⟨b, 2, none⟩ (.int .i64 (M 2))).setCell ⟨b, 3, none⟩ (.int .i64 (M 3))).setCell ⟨b, 4, none⟩ (.int .i64 (M 4))).setCell ⟨b, 5, none⟩ (.int .i64 (M 5))).setCell ⟨b, 6, none⟩ (.int .i64 (M 6))).setCell ⟨b, 7, none⟩ (.int .i64 (M 7))).setCell ⟨b, 8, none⟩ (.int .i64 (M 8))).setCell ⟨b, 9, none⟩ (.int .i64 (M 9))).setCell ⟨b, 10, none⟩ (.int .i64 (M 10))).setCell ⟨b, 11, none⟩ (.int .i64 (M 11))).setCell ⟨b, 12, none⟩ (.int .i64 (M 12))).setCell ⟨b, 13, none⟩ (.int .i64 (M 13))).setCell ⟨b, 14, none⟩ (.int .i64 (M 14))).setCell ⟨b, 15, none⟩ (.int .i64 (M 15))) := by
  exact ((((((((((((((((h).setCell hb _).setCell hb _).setCell hb _).setCell hb _).setCell hb _).setCell hb _).setCell hb _).setCell hb _).setCell hb _).setCell hb _).setCell hb _).setCell hb _).setCell hb _).setCell hb _).setCell hb _).setCell hb _

set_option maxHeartbeats 4000000 in
theorem fo_results (tmps : Array Value) (W : World) (a c : Nat) (M : Nat → Int) (r : Bool) (t1 t2 : TypeId) (h4 : tmps.getD 4 undef = .pointer (some ⟨a, 0, none⟩)) (h5 : tmps.getD 5 undef = .pointer (some ⟨c, 0, none⟩))
    (hA : W.heap[a]? = some (.cells (arr16 M) t1 (0, 0))) (hC : W.heap[c]? = some (.cells #[.bool r] t2 (0, 0))) : (results Try.f82 tmps).run Try.prog W = .ok (.tuple #[frV M, .bool r]) W := by
  have e0 := cell16 hA 0 (by omega)
  have e1 := cell16 hA 1 (by omega)
  have e2 := cell16 hA 2 (by omega)
  have e3 := cell16 hA 3 (by omega)
  have e4 := cell16 hA 4 (by omega)
  have e5 := cell16 hA 5 (by omega)
  have e6 := cell16 hA 6 (by omega)
  have e7 := cell16 hA 7 (by omega)
  have e8 := cell16 hA 8 (by omega)
  have e9 := cell16 hA 9 (by omega)
  have e10 := cell16 hA 10 (by omega)
  have e11 := cell16 hA 11 (by omega)
  have e12 := cell16 hA 12 (by omega)
  have e13 := cell16 hA 13 (by omega)
  have e14 := cell16 hA 14 (by omega)
  have e15 := cell16 hA 15 (by omega)
  have c2 := (box_cell hC).1
  simp only [Array.getD_eq_getD_getElem?] at h4 h5
  simp [results, Try.results82, go_sem, h4, h5, e0, e1, e2, e3, e4, e5, e6, e7, e8, e9, e10, e11, e12, e13, e14, e15, c2]

theorem Mod.put16 {O : Nat → Prop} (W : World) (b : Nat) (hb : O b) (M : Nat → Int) : Mod O W ((((((((((((((((W.setCell ⟨b, 0, none⟩ (.int .i64 (M 0))).setCell ⟨b, 1, none⟩ (.int .i64 (M 1))).setCell ⟨b, 2, none⟩ (.int .i64 (M 2))).setCell ⟨b, 3, none⟩ (.int .i64 (M 3))).setCell ⟨b, 4, none⟩ (.int .i64 (M 4))).setCell ⟨b, 5, none⟩ (.int .i64 (M 5))).setCell ⟨b, 6, none⟩ (.int .i64 (M 6))).setCell ⟨b, 7, none⟩ (.int .i64 (M 7))).setCell ⟨b, 8, none⟩ (.int .i64 (M 8))).setCell ⟨b, 9, none⟩ (.int .i64 (M 9))).setCell ⟨b, 10, none⟩ (.int .i64 (M 10))).setCell ⟨b, 11, none⟩ (.int .i64 (M 11))).setCell ⟨b, 12, none⟩ (.int .i64 (M 12))).setCell ⟨b, 13, none⟩ (.int .i64 (M 13))).setCell ⟨b, 14, none⟩ (.int .i64 (M 14))).setCell ⟨b, 15, none⟩ (.int .i64 (M 15))) := ((((((((((((((((Mod.refl _ _).trans (Mod.setCell _ _ _ _ hb)).trans (Mod.setCell _ _ _ _ hb)).trans (Mod.setCell _ _ _ _ hb)).trans (Mod.setCell _ _ _ _ hb)).trans (Mod.setCell _ _ _ _ hb)).trans (Mod.setCell _ _ _ _ hb)).trans (Mod.setCell _ _ _ _ hb)).trans (Mod.setCell _ _ _ _ hb)).trans (Mod.setCell _ _ _ _ hb)).trans (Mod.setCell _ _ _ _ hb)).trans (Mod.setCell _ _ _ _ hb)).trans (Mod.setCell _ _ _ _ hb)).trans (Mod.setCell _ _ _ _ hb)).trans (Mod.setCell _ _ _ _ hb)).trans (Mod.setCell _ _ _ _ hb)).trans (Mod.setCell _ _ _ _ hb)

/-- what frameOf keeps while it goes through the directions -/
def FoI (w : World) (T : List T5) (pl : List Nat) (v : Value) (O : Nat → Prop) (done : List (List Nat)) (b : Bool) (W : World) : Prop :=
  New w W ∧ (∀ k, O k → w.heap.size + 4 ≤ k) ∧ W.heap[w.heap.size]? = some (.cells #[v] 84 (0, 0)) ∧ W.heap[w.heap.size + 1 + 1]? = some (.cells #[.bool b] 4 (0, 0)) ∧
  (∃ m, W.heap[w.heap.size + 1 + 1 + 1]? = some (.cells (arr16 m) 107 (0, 0)) ∧ bd16 m ∧ ∀ ds, rowsOk T pl ds pl.length m) ∧
  ∃ r, W.heap[w.heap.size + 1]? = some (.cells (arr16 r) 107 (0, 0)) ∧
    ((b = false ∧ (r = fun _ => 0) ∧ ∀ x ∈ done, detI (frm T pl x) = 0) ∨ (b = true ∧ ∃ pre x, done = pre ++ [x] ∧ (∀ y ∈ pre, detI (frm T pl y) = 0) ∧ detI (frm T pl x) ≠ 0 ∧ r = frm T pl x))
theorem FoI.stable (w : World) (T : List T5) (pl : List Nat) (v : Value) : StableJ (FoI w T pl v) := by
  rintro O O' done b W W' ⟨h1, h2, h3, h4, ⟨m, h5, h6⟩, r, h7, h8⟩ hm ho
  have hk : ∀ k o, k < w.heap.size + 4 → W.heap[k]? = some o → W'.heap[k]? = some o := fun k o hk h => (hm.2 k (Array.getElem?_eq_some_iff.1 h).1 (fun h' => by have := h2 k h'; omega)).trans h
  refine ⟨Mod.new h1 hm fun k h => by have := h2 k h; omega, fun k h => ?_, hk _ _ (by omega) h3, hk _ _ (by omega) h4, ⟨m, hk _ _ (by omega) h5, h6⟩, r, hk _ _ (by omega) h7, h8⟩
  rcases ho k h with h' | h'
  · exact h2 k h'
  · have := (Array.getElem?_eq_some_iff.1 h5).1; omega

set_option maxRecDepth 100000 in
set_option maxHeartbeats 8000000 in
theorem frameOf_c (b off n cp base : Nat) (T : List T5) (pl : List Nat) (w : World) (v : Value) (hT : Tnts w b off n T) (hS : shOk T) (hl1 : 1 ≤ pl.length) (hl4 : pl.length ≤ 4) (hlt : ∀ p ∈ pl, p < n) (hn : n ≤ 1000)
    (hv : w.ownsRow base 3 1 v pl.length (natCells pl)) :
    Calls Try.prog 82 #[.slice (some ⟨b, off, none⟩) n cp, v] w fun e w' => e = .returned (.tuple #[frV (frameR T pl).1, .bool (frameR T pl).2]) ∧ New w w' := by
  obtain ⟨av, cv, rfl⟩ := own_slice hv
  have HT := Lib.hid hT
  have HS := Lib.hid hS
  have HV := Lib.hid hv
  have HLT := Lib.hid hlt
  clear hT hS hv hlt
  have HRO := Lib.hid (fun a b c (w1 : World) => (callsIn_wide (n := 4)).2 (rowOf_c a b c w1))
  refine (callsIn_wide (n := 5)).1 ?_
  refine callsIn_of_wp_marks Try.func82 rfl trivial ?_ rfl
  simp only [Try.ntmps82, List.size_toArray, List.length_cons, List.length_nil, Nat.reduceAdd, Nat.reduceSub, Array.replicate_succ, Array.replicate_zero, List.push_toArray, List.append_toArray, List.nil_append, List.cons_append]
  gi_wp2
  gi_loopw [14] (fun i wr => ∃ (k : Nat) (m : Nat → Int), k ≤ pl.length ∧ i = .int .i64 (k : Int) ∧ FoW w wr (.slice av pl.length cv) m ∧ bd16 m ∧ ∀ ds, rowsOk T pl ds k m) (fun i _ => pl.length - (intOf i).toNat)
  case atStart =>
    obtain ⟨e1, e2, e3, e4⟩ := alloc4_heap w (.cells #[.slice av pl.length cv] 84) (.cells (arr16 fun _ => 0) 107) (.cells #[.bool false] 4) (.cells (arr16 fun _ => 0) 107)
    exact ⟨0, fun _ => 0, Nat.zero_le _, rfl, ⟨((((New.refl w).alloc _).alloc _).alloc _).alloc _, e1, e2, e3, e4⟩, fun k hk => by show (-10000 : Int) ≤ 0 ∧ (0 : Int) ≤ 10000; omega, fun ds j hj hjk => by omega⟩
  case round =>
    obtain ⟨k, m, hk, rfl, hfw, hbd, hrow⟩ := hrel
    have HFW := Lib.hid hfw
    have HBD := Lib.hid hbd
    have HROW := Lib.hid hrow
    obtain ⟨hnw, k1, k2, k3, k4⟩ := hfw
    have HNW := Lib.hid hnw
    have HK4 := Lib.hid k4
    by_cases hlt : k < pl.length
    · have hp : pl.getD k 0 < n := HLT.out _ (by rw [List.getD_eq_getElem?_getD, List.getElem?_eq_getElem hlt]; simp)
      obtain ⟨g, cap, he, hg1, hg2⟩ := HV.out.form (by omega)
      injection he with he1 he2 he3
      subst he1
      subst he3
      have c1 := (own_cell (own_new HV.out hnw) (natCells_at pl k hlt)).1
      obtain ⟨⟨_, d1, d2⟩, d3, _⟩ := (HT.out.new hnw).2.2 (pl.getD k 0) hp
      have hbl := (HT.out.new hnw).2.1
      have HRK := Lib.hid (fun ds => rowsOk_tint (hrow ds) hlt)
      obtain ⟨s1, s2, s3⟩ := HS.out (pl.getD k 0)
      generalize pl.getD k 0 = p at *
      have HBK := Lib.hid (show bd16 (put4 m (k * 4) 1 (tA T p) (tB T p) (tC T p)) from bd16_put4 hbd _ (by omega) (by omega) (by omega) (by omega))
      generalize tA T p = A at *
      generalize tB T p = B at *
      generalize tC T p = C at *
      have hk4 : (k : Int) < 4 := by omega
      clear hbd hrow hnw k1 k2 k3 k4
      gi_wp2
      refine ⟨trivial, ?_⟩
      gi_at_call 84
      refine (HRO.out A B C _).mono ?_
      rintro e w1 ⟨rfl, hn1⟩
      have HN1 := Lib.hid hn1
      have k4 : w1.heap[w.heap.size + 1 + 1 + 1]? = some (.cells (arr16 m) 107 (0, 0)) := (hn1.below.block _ (Array.getElem?_eq_some_iff.1 HK4.out).1).trans HK4.out
      have HKW := Lib.hid k4
      have e0 := cell16 k4 (k * 4) (by omega)
      have e1 := cell16 k4 (k * 4 + 1) (by omega)
      have e2 := cell16 k4 (k * 4 + 2) (by omega)
      have e3 := cell16 k4 (k * 4 + 3) (by omega)
      have f0 := frozen_heap k4 (k * 4)
      have f1 := frozen_heap k4 (k * 4 + 1)
      have f2 := frozen_heap k4 (k * 4 + 2)
      have f3 := frozen_heap k4 (k * 4 + 3)
      generalize m (k * 4) = M0 at *
      generalize m (k * 4 + 1) = M1 at *
      generalize m (k * 4 + 2) = M2 at *
      generalize m (k * 4 + 3) = M3 at *
      clear hn1 k4
      gi_wp2
      go_roundw
      case rel => exact ⟨k + 1, _, by omega, by go_num, ⟨(((((HNW.out.trans HN1.out).setCell (by show w.heap.size ≤ w.heap.size + 1 + 1 + 1; omega) _).setCell (by show w.heap.size ≤ w.heap.size + 1 + 1 + 1; omega) _).setCell (by show w.heap.size ≤ w.heap.size + 1 + 1 + 1; omega) _).setCell (by show w.heap.size ≤ w.heap.size + 1 + 1 + 1; omega) _), ((heap_setCell4_other _ _ _ _ _ _ _ _ _ _ _ (by omega)).trans ((HN1.out.below.block _ (Array.getElem?_eq_some_iff.1 HFW.out.2.1).1).trans HFW.out.2.1)), ((heap_setCell4_other _ _ _ _ _ _ _ _ _ _ _ (by omega)).trans ((HN1.out.below.block _ (Array.getElem?_eq_some_iff.1 HFW.out.2.2.1).1).trans HFW.out.2.2.1)), ((heap_setCell4_other _ _ _ _ _ _ _ _ _ _ _ (by omega)).trans ((HN1.out.below.block _ (Array.getElem?_eq_some_iff.1 HFW.out.2.2.2.1).1).trans HFW.out.2.2.2.1)), heap_put4 HKW.out (k * 4) (by omega) 1 A B C⟩, HBK.out, HRK.out⟩
      case measure => simp [intOf]; omega
    · obtain rfl : k = pl.length := by omega
      have c1 : wr.cell? ⟨w.heap.size, 0, none⟩ = some (.slice av pl.length cv) := (box_cell k1).1
      have hw4 : IntKind.i64.wrap ((4 : Int) - (pl.length : Int)) = ((4 - pl.length : Nat) : Int) := by rw [show ((4 - pl.length : Nat) : Int) = (4 : Int) - (pl.length : Int) by omega]; exact IntWalk.i64_in _ (by omega)
      have hws := (Array.getElem?_eq_some_iff.1 k4).1
      have HK0 := Lib.hid k1
      have HK1 := Lib.hid k2
      have HK2 := Lib.hid k3
      clear hbd hrow hnw k1 k2 k3 k4
      have HCC := Lib.hid (fun (w1 : World) => (callsIn_wide (n := 4)).2 (choices_c 3 ((4 - pl.length : Nat) : Int) w1))
      gi_wp2
      refine ⟨trivial, ?_⟩
      gi_at_call 41
      refine (HCC.out _).mono ?_
      rintro e w2 ⟨rfl, rfl⟩
      gi_wp2
      obtain ⟨WS, HWS⟩ : ∃ WS : World, Hid (WS = (wr.alloc (.cells #[.int .i64 3] 3)).alloc (.cells #[.int .i64 ((4 - pl.length : Nat) : Int)] 3)) := ⟨_, Lib.hid rfl⟩
      rw [← HWS.out]
      have HNS := Lib.hid (show New wr WS by rw [HWS.out]; exact ((New.refl _).alloc _).alloc _)
      have hss : wr.heap.size + 2 ≤ WS.heap.size := by rw [HWS.out]; simp
      have HSB : Hid (WS.heap[wr.heap.size + 1]? = some (.cells #[.int .i64 ((4 - pl.length : Nat) : Int)] 3 (0, 0)) ∧ WS.heap[wr.heap.size]? = some (.cells #[.int .i64 3] 3 (0, 0))) := Lib.hid (by
        rw [HWS.out]
        exact ⟨alloc2_new rfl, by rw [Below.heap_alloc _ _ _ (by simp)]; exact World.alloc_heap_new _ _⟩)
      refine range_iter (n := 5) (by omega) (gf := 65) (lb := #[.pointer (some ⟨wr.heap.size + 1, 0, none⟩), .pointer (some ⟨wr.heap.size, 0, none⟩)]) rfl (enters_of Try.func65 (by kernel_rfl) rfl)
        (Elem := ElemL) (xs := extL 3 (4 - pl.length) [] 0) (E := fun k => k = wr.heap.size + 1 ∨ k = wr.heap.size)
        (fun W1 hn1 _ => choices_it 3 (4 - pl.length) _ _ (by omega) (by omega) W1 ((hn1.below.block _ (by omega)).trans HSB.out.1) ((hn1.below.block _ (by omega)).trans HSB.out.2))
        (by intro k hk; omega) (by rintro x args O W ⟨_, _, rfl, _⟩; rfl)
        (FoI w T pl (.slice av pl.length cv)) (FoI.stable _ _ _ _) ?h0 ?hbody ?hdone ?hstop
      case h0 =>
        have hw2 := HNS.out.size
        have ho : ∀ k o, k < wr.heap.size → wr.heap[k]? = some o → WS.heap[k]? = some o := fun k o hk h => (HNS.out.below.block k hk).trans h
        refine ⟨HNW.out.trans HNS.out, ?_, ho _ _ (by omega) HK0.out, ho _ _ (by omega) HK2.out, ⟨m, ho _ _ hws HK4.out, HBD.out, HROW.out⟩, _, ho _ _ (by omega) HK1.out, .inl ⟨rfl, rfl, fun x hx => by cases hx⟩⟩
        rintro k (hk | hk | hk)
        · cases hk
        · omega
        · omega
      case hbody =>
        intro mm O done x args W hI hE hpre hO1 hO2 hrec _
        obtain ⟨base', v', rfl, hpl⟩ := hE
        obtain ⟨ax, cx, rfl⟩ := own_slice hpl.1
        obtain ⟨hxl, hx3⟩ := extL_mem (hpre.subset (by simp : x ∈ done ++ [x]))
        have hx3 := hx3 (by simp)
        have HX3 := Lib.hid hx3
        have HEB := Lib.hid (show ∀ p, p < w.heap.size + 4 → ∀ k, (plus WS.heap.size O k ∨ (k = wr.heap.size + 1 ∨ k = wr.heap.size)) → ¬ k = p from fun p hp k hk e => by
          rcases hk with hk | hk
          · have := hI.2.1 k hk; omega
          · omega)
        have hxl1 : x.length ≤ 4 - pl.length := by simp at hxl; omega
        have hxl2 : 4 - pl.length ≤ x.length := by simp at hxl; omega
        have HPL := Lib.hid hpl
        have HPRE := Lib.hid hpre
        have HI := Lib.hid hI
        clear hxl hx3 hpl hpre
        gi_wp2
        refine ⟨Keep.refl _ _, ?_⟩
        intro W2 hb2 hs2 ho2 hrec2
        have HO2 := Lib.hid ho2
        have HB2 := Lib.hid hb2
        obtain ⟨hnw, hO, g0, g2, ⟨m0, g3, hbd0, hrow0⟩, r, g1, hcase⟩ := hI
        have hsn := HNS.out.size
        have hlt2 : ∀ k o, k < w.heap.size + 4 → W.heap[k]? = some o → W2.heap[k]? = some o := fun k o hk h => (ho2 k (by omega)).trans h
        have HG0 := Lib.hid (hlt2 _ _ (by omega) g0)
        have HG1 := Lib.hid (hlt2 _ _ (by omega) g1)
        have HG2 := Lib.hid (hlt2 _ _ (by omega) g2)
        have HG3 := Lib.hid (hlt2 _ _ (by omega) g3)
        have hsz : W.heap.size ≤ W2.heap.size := hb2.size
        have HXO := Lib.hid (show W2.ownsRow base' 3 1 (.slice ax x.length cx) x.length (natCells x) from own_keep HPL.out.1 (fun g hg => ho2 g (fun e => hO1 (e ▸ HPL.out.2 g hg))))
        have HXB := Lib.hid (show ∀ g, (Value.slice ax x.length cx).ownBlock = some g → g ≠ w.heap.size + 1 + 1 + 1 from fun g hg e => by have := hO g (.inl (HPL.out.2 g hg)); omega)
        have HBD0 := Lib.hid hbd0
        have HROW0 := Lib.hid hrow0
        have HR0 := Lib.hid (show r = fun _ => 0 from hcase.elim (fun h => h.2.1) (fun h => by cases h.1))
        clear hnw g0 g2 g3 hbd0 hrow0 g1 hcase ho2 hlt2 hb2 hO1 hO2 hrec hrec2
        gi_wp2
        gi_loopw [35] (fun i wr2 => ∃ (k : Nat) (m' : Nat → Int), k ≤ x.length ∧ i = .int .i64 (k : Int) ∧ Mod (fun q => q = w.heap.size + 1 + 1 + 1) W2 wr2 ∧ wr2.heap[w.heap.size + 1 + 1 + 1]? = some (.cells (arr16 m') 107 (0, 0)) ∧ bd16 m' ∧ rowsOk T pl x (pl.length + k) m') (fun i _ => x.length - (intOf i).toNat)
        case atStart => exact ⟨0, m0, Nat.zero_le _, rfl, Mod.refl _ _, HG3.out, HBD0.out, HROW0.out x⟩
        case round =>
          obtain ⟨k, m', hk, rfl, hmod, h3, hbd, hrow⟩ := hrel
          have HMOD := Lib.hid hmod
          have HH3 := Lib.hid h3
          have HBD := Lib.hid hbd
          have HROW := Lib.hid hrow
          by_cases hlt : k < x.length
          · obtain ⟨gx, cap, he, hg1, hg2⟩ := HXO.out.form (by omega)
            injection he with he1 he2 he3
            subst he1
            subst he3
            have c1 := (own_cell (own_keep (w' := wr) HXO.out (fun g hg => hmod.2 g (HXO.out.lt g hg).2 (HXB.out g hg))) (natCells_at x k hlt)).1
            have c0 : wr.cell? ⟨w.heap.size, 0, none⟩ = some (.slice av pl.length cv) := (box_cell ((hmod.2 _ (Array.getElem?_eq_some_iff.1 HG0.out).1 (by omega)).trans HG0.out)).1
            have hd3 : x.getD k 0 < 3 := HX3.out _ (by rw [List.getD_eq_getElem?_getD, List.getElem?_eq_getElem hlt]; simp)
            have HRD := Lib.hid (rowsOk_dir hrow (d := x.getD k 0) rfl hd3)
            generalize x.getD k 0 = d at *
            have HBP := Lib.hid (show bd16 (put1 (put4 m' ((pl.length + k) * 4) 0 0 0 0) ((pl.length + k) * 4 + (d + 1)) 1) from bd16_put1 (bd16_put4 hbd _ (by omega) (by omega) (by omega) (by omega)) _ (by omega))
            obtain ⟨R, hR⟩ : ∃ R : Nat, R = pl.length + k := ⟨_, rfl⟩
            have hR4 : R < 4 := by omega
            have hwR : IntKind.i64.wrap ((pl.length : Int) + (k : Int)) = (R : Int) := by rw [hR]; exact IntWalk.i64_in _ (by omega)
            have hwd : IntKind.i64.wrap ((d : Int) + 1) = ((d + 1 : Nat) : Int) := IntWalk.i64_in _ (by omega)
            obtain ⟨C, hC⟩ : ∃ C : Nat, C = d + 1 := ⟨_, rfl⟩
            rw [← hC] at hwd
            rw [← hR, ← hC] at HBP
            have HRD2 := Lib.hid (show rowsOk T pl x (pl.length + (k + 1)) (put1 (put4 m' (R * 4) 0 0 0 0) (R * 4 + C) 1) by rw [hR, hC]; exact HRD.out)
            have hC4 : C < 4 := by omega
            have e0 := cell16 h3 (R * 4) (by omega)
            have e1 := cell16 h3 (R * 4 + 1) (by omega)
            have e2 := cell16 h3 (R * 4 + 2) (by omega)
            have e3 := cell16 h3 (R * 4 + 3) (by omega)
            have f0 := frozen_heap h3
            generalize m' (R * 4) = M0 at *
            generalize m' (R * 4 + 1) = M1 at *
            generalize m' (R * 4 + 2) = M2 at *
            generalize m' (R * 4 + 3) = M3 at *
            clear hmod h3 hbd hrow hR hC HRD
            gi_upto_region 13 with (fail)
            have hq := heap_put4 HH3.out (R * 4) (by omega) 0 0 0 0
            have HM4 := Lib.hid (show Mod (fun q => q = w.heap.size + 1 + 1 + 1) wr ((((wr.setCell ⟨w.heap.size + 1 + 1 + 1, R * 4, none⟩ (.int .i64 0)).setCell ⟨w.heap.size + 1 + 1 + 1, R * 4 + 1, none⟩ (.int .i64 0)).setCell ⟨w.heap.size + 1 + 1 + 1, R * 4 + 2, none⟩ (.int .i64 0)).setCell ⟨w.heap.size + 1 + 1 + 1, R * 4 + 3, none⟩ (.int .i64 0)) from Mod.set4 _ _ _ _ _ _ _ _ _ _ rfl)
            have c0' : ((((wr.setCell ⟨w.heap.size + 1 + 1 + 1, R * 4, none⟩ (.int .i64 0)).setCell ⟨w.heap.size + 1 + 1 + 1, R * 4 + 1, none⟩ (.int .i64 0)).setCell ⟨w.heap.size + 1 + 1 + 1, R * 4 + 2, none⟩ (.int .i64 0)).setCell ⟨w.heap.size + 1 + 1 + 1, R * 4 + 3, none⟩ (.int .i64 0)).cell? ⟨w.heap.size, 0, none⟩ = some (.slice av pl.length cv) := (cell_same (heap_setCell4_other _ _ _ _ _ _ _ _ _ _ _ (by omega))).trans c0
            clear c0 c1 e0 e1 e2 e3 f0
            generalize ((((wr.setCell ⟨w.heap.size + 1 + 1 + 1, R * 4, none⟩ (.int .i64 0)).setCell ⟨w.heap.size + 1 + 1 + 1, R * 4 + 1, none⟩ (.int .i64 0)).setCell ⟨w.heap.size + 1 + 1 + 1, R * 4 + 2, none⟩ (.int .i64 0)).setCell ⟨w.heap.size + 1 + 1 + 1, R * 4 + 3, none⟩ (.int .i64 0)) = W4 at *
            have HQ := Lib.hid hq
            have e9 := cell16 hq (R * 4 + C) (by omega)
            have f9 := frozen_heap hq (R * 4 + C)
            have hC0 : (C : Int) < 4 := by omega
            have hR0 : (R : Int) < 4 := by omega
            clear hq
            generalize put4 m' (R * 4) 0 0 0 0 (R * 4 + C) = M9 at *
            gi_wp2
            go_roundw
            case rel => exact ⟨k + 1, _, by omega, by go_num, HMOD.out.trans (HM4.out.trans (Mod.setCell _ _ _ _ rfl)), heap_put1 HQ.out (R * 4 + C) (by omega) 1, HBP.out, HRD2.out⟩
            case measure => simp [intOf]; omega
          · obtain rfl : k = x.length := by omega
            have hm := arr16_ext (fun j hj => hrow j hj (by omega))
            rw [hm] at h3
            have hbf := frm_bd HS.out pl x
            have HFR := Lib.hid h3
            have HI2 := Lib.hid (show ∀ (W3 : World) (bb : Bool) (rr : Nat → Int), New wr W3 ∨ True → New w W3 → W3.heap[w.heap.size]? = some (.cells #[.slice av pl.length cv] 84 (0, 0)) → W3.heap[w.heap.size + 1 + 1]? = some (.cells #[.bool bb] 4 (0, 0)) → W3.heap[w.heap.size + 1 + 1 + 1]? = some (.cells (arr16 (frm T pl x)) 107 (0, 0)) → W3.heap[w.heap.size + 1]? = some (.cells (arr16 rr) 107 (0, 0)) →
                ((bb = false ∧ (rr = fun _ => 0) ∧ detI (frm T pl x) = 0) ∨ (bb = true ∧ detI (frm T pl x) ≠ 0 ∧ rr = frm T pl x)) → FoI w T pl (.slice av pl.length cv) (plus WS.heap.size O) (done ++ [x]) bb W3 from fun W3 bb rr _ a1 a2 a3 a4 a5 a6 => by
              obtain ⟨_, hO, _, _, ⟨_, _, _, hrw0⟩, r, _, hcase⟩ := HI.out
              have hcase := hcase.elim (fun h => h.2.2) (fun h => by cases h.1)
              refine ⟨a1, hO, a2, a3, ⟨_, a4, frm_bd HS.out pl x, fun ds j hj hjk => by unfold frm; rw [if_pos hjk, if_pos hjk]⟩, rr, a5, ?_⟩
              rcases a6 with ⟨rfl, rfl, h0⟩ | ⟨rfl, h0, rfl⟩
              · refine .inl ⟨rfl, rfl, fun y hy => ?_⟩
                rw [List.mem_append] at hy
                rcases hy with hy | hy
                · exact hcase y hy
                · simp at hy; rw [hy]; exact h0
              · exact .inr ⟨rfl, done, x, rfl, hcase, h0, rfl⟩)
            have HDT := Lib.hid (fun w1 => CallsIn.inRound (WS.heap.size + 1) ((callsIn_wide (n := mm - 1)).2 (determinant_c (frm T pl x) w1 hbf)))
            have e0 := cell16 h3 0 (by omega)
            have e1 := cell16 h3 1 (by omega)
            have e2 := cell16 h3 2 (by omega)
            have e3 := cell16 h3 3 (by omega)
            have e4 := cell16 h3 4 (by omega)
            have e5 := cell16 h3 5 (by omega)
            have e6 := cell16 h3 6 (by omega)
            have e7 := cell16 h3 7 (by omega)
            have e8 := cell16 h3 8 (by omega)
            have e9 := cell16 h3 9 (by omega)
            have e10 := cell16 h3 10 (by omega)
            have e11 := cell16 h3 11 (by omega)
            have e12 := cell16 h3 12 (by omega)
            have e13 := cell16 h3 13 (by omega)
            have e14 := cell16 h3 14 (by omega)
            have e15 := cell16 h3 15 (by omega)
            have HZ := Lib.hid (Decidable.em (detI (frm T pl x) = 0))
            generalize hD : detI (frm T pl x) = D at *
            generalize frm T pl x = F at *
            clear hmod h3 hbd hrow hm hbf
            have HG1r := Lib.hid (show wr.heap[w.heap.size + 1]? = some (.cells (arr16 r) 107 (0, 0)) from (HMOD.out.2 _ (Array.getElem?_eq_some_iff.1 HG1.out).1 (by omega)).trans HG1.out)
            have HG0r := Lib.hid (show wr.heap[w.heap.size]? = some (.cells #[.slice av pl.length cv] 84 (0, 0)) from (HMOD.out.2 _ (Array.getElem?_eq_some_iff.1 HG0.out).1 (by omega)).trans HG0.out)
            have HG2r := Lib.hid (show wr.heap[w.heap.size + 1 + 1]? = some (.cells #[.bool false] 4 (0, 0)) from (HMOD.out.2 _ (Array.getElem?_eq_some_iff.1 HG2.out).1 (by omega)).trans HG2.out)
            have HNWr := Lib.hid (show New w wr from Mod.new (Mod.new HI.out.1 (show Mod (fun q => q = WS.heap.size + 1) W W2 from ⟨HB2.out, fun k hk hne => HO2.out k hne⟩) (fun k hk => by omega)) HMOD.out (fun k hk => by omega))
            have HKr := Lib.hid (Keep.of_mod HMOD.out (HEB.out _ (by omega)))
            gi_wp2
            refine ⟨trivial, (fun h => by cases h), ?_⟩
            gi_at_call 89
            refine (HDT.out _).mono ?_
            rintro e w5 ⟨rfl, hn5⟩
            have HN5 := Lib.hid hn5
            have hold : ∀ k o, wr.heap[k]? = some o → w5.heap[k]? = some o := fun k o h => (hn5.below.block k (Array.getElem?_eq_some_iff.1 h).1).trans h
            have HH1 := Lib.hid (hold _ _ HG1r.out)
            have HH0 := Lib.hid (hold _ _ HG0r.out)
            have HH2 := Lib.hid (hold _ _ HG2r.out)
            have HH3 := Lib.hid (hold _ _ HFR.out)
            clear hold hn5 e0 e1 e2 e3 e4 e5 e6 e7 e8 e9 e10 e11 e12 e13 e14 e15
            rcases HZ.out with hz | hz
            · have hR0 := Lib.hid HR0.out
              have hz1 : ((D : Int) != 0) = false := by simp [hz]
              have hz2 : ((D : Int) == 0) = true := by simp [hz]
              have HZ0 := Lib.hid hz
              clear hz
              gi_wp2
              exact ⟨HKr.out.trans (Keep.of_new HN5.out), false, HI2.out _ false r (.inr trivial) (HNWr.out.trans HN5.out) HH0.out HH2.out HH3.out HH1.out (.inl ⟨rfl, hR0.out, HZ0.out⟩), .inl ⟨rfl, rfl⟩⟩
            · have hz1 : ((D : Int) != 0) = true := by simpa using hz
              have hz2 : ((D : Int) == 0) = false := by simpa using hz
              have HZ0 := Lib.hid hz
              have e0 := cell16 HH3.out 0 (by omega)
              have e1 := cell16 HH3.out 1 (by omega)
              have e2 := cell16 HH3.out 2 (by omega)
              have e3 := cell16 HH3.out 3 (by omega)
              have e4 := cell16 HH3.out 4 (by omega)
              have e5 := cell16 HH3.out 5 (by omega)
              have e6 := cell16 HH3.out 6 (by omega)
              have e7 := cell16 HH3.out 7 (by omega)
              have e8 := cell16 HH3.out 8 (by omega)
              have e9 := cell16 HH3.out 9 (by omega)
              have e10 := cell16 HH3.out 10 (by omega)
              have e11 := cell16 HH3.out 11 (by omega)
              have e12 := cell16 HH3.out 12 (by omega)
              have e13 := cell16 HH3.out 13 (by omega)
              have e14 := cell16 HH3.out 14 (by omega)
              have e15 := cell16 HH3.out 15 (by omega)
              have d0 := cell16 HH1.out 0 (by omega)
              have d1 := cell16 HH1.out 1 (by omega)
              have d2 := cell16 HH1.out 2 (by omega)
              have d3 := cell16 HH1.out 3 (by omega)
              have d4 := cell16 HH1.out 4 (by omega)
              have d5 := cell16 HH1.out 5 (by omega)
              have d6 := cell16 HH1.out 6 (by omega)
              have d7 := cell16 HH1.out 7 (by omega)
              have d8 := cell16 HH1.out 8 (by omega)
              have d9 := cell16 HH1.out 9 (by omega)
              have d10 := cell16 HH1.out 10 (by omega)
              have d11 := cell16 HH1.out 11 (by omega)
              have d12 := cell16 HH1.out 12 (by omega)
              have d13 := cell16 HH1.out 13 (by omega)
              have d14 := cell16 HH1.out 14 (by omega)
              have d15 := cell16 HH1.out 15 (by omega)
              have f1 := frozen_heap HH1.out
              have c2 := box_cell HH2.out
              clear hz
              gi_wp2
              clear c2 f1 e0 d0 e1 d1 e2 d2 e3 d3 e4 d4 e5 d5 e6 d6 e7 d7 e8 d8 e9 d9 e10 d10 e11 d11 e12 d12 e13 d13 e14 d14 e15 d15
              obtain ⟨WF, HWF⟩ : ∃ WF : World, Hid (WF = ((((((((((((((((w5.setCell ⟨w.heap.size + 1, 0, none⟩ (.int .i64 (F 0))).setCell ⟨w.heap.size + 1, 1, none⟩ (.int .i64 (F 1))).setCell ⟨w.heap.size + 1, 2, none⟩ (.int .i64 (F 2))).setCell ⟨w.heap.size + 1, 3, none⟩ (.int .i64 (F 3))).setCell ⟨w.heap.size + 1, 4, none⟩ (.int .i64 (F 4))).setCell ⟨w.heap.size + 1, 5, none⟩ (.int .i64 (F 5))).setCell ⟨w.heap.size + 1, 6, none⟩ (.int .i64 (F 6))).setCell ⟨w.heap.size + 1, 7, none⟩ (.int .i64 (F 7))).setCell ⟨w.heap.size + 1, 8, none⟩ (.int .i64 (F 8))).setCell ⟨w.heap.size + 1, 9, none⟩ (.int .i64 (F 9))).setCell ⟨w.heap.size + 1, 10, none⟩ (.int .i64 (F 10))).setCell ⟨w.heap.size + 1, 11, none⟩ (.int .i64 (F 11))).setCell ⟨w.heap.size + 1, 12, none⟩ (.int .i64 (F 12))).setCell ⟨w.heap.size + 1, 13, none⟩ (.int .i64 (F 13))).setCell ⟨w.heap.size + 1, 14, none⟩ (.int .i64 (F 14))).setCell ⟨w.heap.size + 1, 15, none⟩ (.int .i64 (F 15))).setCell ⟨w.heap.size + 1 + 1, 0, none⟩ (.bool true)) := ⟨_, Lib.hid rfl⟩
              rw [← HWF.out]
              have HMW := Lib.hid (show Mod (fun q => q = w.heap.size + 1 ∨ q = w.heap.size + 1 + 1) w5 WF by rw [HWF.out]; exact (Mod.put16 w5 _ (.inl rfl) F).trans (Mod.setCell _ _ _ _ (.inr rfl)))
              have q1 : WF.heap[w.heap.size + 1]? = some (.cells (arr16 F) 107 (0, 0)) := by
                rw [HWF.out]; exact (heap_setCell_other _ _ _ _ _ (by omega)).trans (heap_put16 HH1.out F)
              have q2 : WF.heap[w.heap.size + 1 + 1]? = some (.cells #[.bool true] 4 (0, 0)) := by
                rw [HWF.out]; exact heap_setCell_same _ _ 0 _ ((heap_put16_other w5 _ _ (by omega) F).trans HH2.out)
              refine ⟨HKr.out.trans ((Keep.of_new HN5.out).trans (Keep.of_mod HMW.out (fun k hk e => by rcases e with e | e <;> exact HEB.out _ (by omega) k hk e))), true, HI2.out _ true F (.inr trivial) (Mod.new (HNWr.out.trans HN5.out) HMW.out (fun k hk => by omega)) ((HMW.out.2 _ (Array.getElem?_eq_some_iff.1 HH0.out).1 (by omega)).trans HH0.out) q2 ((HMW.out.2 _ (Array.getElem?_eq_some_iff.1 HH3.out).1 (by omega)).trans HH3.out) q1 (.inr ⟨rfl, HZ0.out, rfl⟩), .inr ⟨rfl, rfl⟩⟩
      case hdone =>
        rintro O W ⟨hnw, _, _, g2, _, r, g1, hcase⟩ hdf
        obtain ⟨rfl, hz⟩ : (r = fun _ => 0) ∧ ∀ x ∈ extL 3 (4 - pl.length) [] 0, detI (frm T pl x) = 0 := hcase.elim (fun h => h.2) (fun h => by cases h.1)
        clear hcase
        have HN := Lib.hid hnw
        have HDF := Lib.hid hdf
        have HG1 := Lib.hid g1
        have HG2 := Lib.hid g2
        have HR := Lib.hid (show frameR T pl = (fun _ => 0, false) by
          unfold frameR
          rw [List.find?_eq_none.2 (fun x hx => by simpa using hz x hx)])
        have hdw := (Array.getElem?_eq_some_iff.1 hdf).1
        have hsn := HNS.out.size
        have e0 := cell16 g1 0 (by omega)
        have e1 := cell16 g1 1 (by omega)
        have e2 := cell16 g1 2 (by omega)
        have e3 := cell16 g1 3 (by omega)
        have e4 := cell16 g1 4 (by omega)
        have e5 := cell16 g1 5 (by omega)
        have e6 := cell16 g1 6 (by omega)
        have e7 := cell16 g1 7 (by omega)
        have e8 := cell16 g1 8 (by omega)
        have e9 := cell16 g1 9 (by omega)
        have e10 := cell16 g1 10 (by omega)
        have e11 := cell16 g1 11 (by omega)
        have e12 := cell16 g1 12 (by omega)
        have e13 := cell16 g1 13 (by omega)
        have e14 := cell16 g1 14 (by omega)
        have e15 := cell16 g1 15 (by omega)
        have f1 := frozen_heap g1
        have c2 := box_cell g2
        clear hnw hdf g1 g2 hz
        gi_wp2
        clear c2
        obtain ⟨WF, HWF⟩ : ∃ WF : World, Hid (WF = ((((((((((((((((W.setCell ⟨w.heap.size + 1, 0, none⟩ (.int .i64 0)).setCell ⟨w.heap.size + 1, 1, none⟩ (.int .i64 0)).setCell ⟨w.heap.size + 1, 2, none⟩ (.int .i64 0)).setCell ⟨w.heap.size + 1, 3, none⟩ (.int .i64 0)).setCell ⟨w.heap.size + 1, 4, none⟩ (.int .i64 0)).setCell ⟨w.heap.size + 1, 5, none⟩ (.int .i64 0)).setCell ⟨w.heap.size + 1, 6, none⟩ (.int .i64 0)).setCell ⟨w.heap.size + 1, 7, none⟩ (.int .i64 0)).setCell ⟨w.heap.size + 1, 8, none⟩ (.int .i64 0)).setCell ⟨w.heap.size + 1, 9, none⟩ (.int .i64 0)).setCell ⟨w.heap.size + 1, 10, none⟩ (.int .i64 0)).setCell ⟨w.heap.size + 1, 11, none⟩ (.int .i64 0)).setCell ⟨w.heap.size + 1, 12, none⟩ (.int .i64 0)).setCell ⟨w.heap.size + 1, 13, none⟩ (.int .i64 0)).setCell ⟨w.heap.size + 1, 14, none⟩ (.int .i64 0)).setCell ⟨w.heap.size + 1, 15, none⟩ (.int .i64 0)).setCell ⟨w.heap.size + 1 + 1, 0, none⟩ (.bool false)) := ⟨_, Lib.hid rfl⟩
        rw [← HWF.out]
        have q1 : WF.heap[w.heap.size + 1]? = some (.cells (arr16 (fun _ => 0)) 107 (0, 0)) := by
          rw [HWF.out]; exact (heap_setCell_other _ _ _ _ _ (by omega)).trans (heap_put16 HG1.out (fun _ => 0))
        have q2 : WF.heap[w.heap.size + 1 + 1]? = some (.cells #[.bool false] 4 (0, 0)) := by
          rw [HWF.out]; exact heap_setCell_same _ _ 0 _ ((heap_put16_other W _ _ (by omega) (fun _ => 0)).trans HG2.out)
        have q3 : WF.heap[WS.heap.size]? = some (.deferred (some [])) := by
          rw [HWF.out]; exact (heap_setCell_other _ _ _ _ _ (by omega)).trans ((heap_put16_other W _ _ (by omega) (fun _ => 0)).trans HDF.out)
        have q4 : New w WF := by
          rw [HWF.out]; exact (HN.out.put16 _ (by omega) (fun _ => 0)).setCell (by show w.heap.size ≤ w.heap.size + 1 + 1; omega) _
        refine ⟨by simp, .inl ⟨_, _, rfl, run_takeDeferred q3, ?_⟩⟩
        refine ⟨_, fo_results _ _ (w.heap.size + 1) (w.heap.size + 1 + 1) (fun _ => 0) false _ _ rfl rfl ((putObj_heap _ _ _ _ (by omega)).trans q1) ((putObj_heap _ _ _ _ (by omega)).trans q2), by rw [HR.out], new_putObj q4 _ (by omega)⟩
      case hstop =>
        rintro O done W ⟨hnw, _, _, g2, _, r, g1, hcase⟩ hpre hdf
        obtain ⟨pre, x, rfl, hz, hx, rfl⟩ : ∃ pre x, done = pre ++ [x] ∧ (∀ y ∈ pre, detI (frm T pl y) = 0) ∧ detI (frm T pl x) ≠ 0 ∧ r = frm T pl x := hcase.elim (fun h => by cases h.1) (fun h => h.2)
        have HR := Lib.hid (frameR_some hpre hz hx)
        have HN := Lib.hid hnw
        have HDF := Lib.hid hdf
        have HG1 := Lib.hid g1
        have HG2 := Lib.hid g2
        have hdw := (Array.getElem?_eq_some_iff.1 hdf).1
        have hsn := HNS.out.size
        clear hcase hnw hdf g1 g2 hz hx hpre
        gi_wp2
        refine ⟨by simp, .inl ⟨_, _, rfl, run_takeDeferred HDF.out, ?_⟩⟩
        refine ⟨_, fo_results _ _ (w.heap.size + 1) (w.heap.size + 1 + 1) (frm T pl x) true _ _ rfl rfl ((putObj_heap _ _ _ _ (by omega)).trans HG1.out) ((putObj_heap _ _ _ _ (by omega)).trans HG2.out), by rw [HR.out], new_putObj HN.out _ (by omega)⟩

end Go.Proofs.Ytpjekinmcdglbaa
