/- What slices.Compact leaves of points in a slice that the call owns. At most 1000000 points. -/
import Derived.Test.YtpdfbboagaflhaaGreatM22
import Derived.Test.YtpdfbboagaflhaaGreatM25
import Derived.Deep.RegionHeld3
import Derived.BigRegion
import Derived.LoopTactic
import Derived.Deep.LoopGhost
import Derived.Test.YtpdfbboagaflhaaGreatM04

namespace Go.Proofs.YtpdfbboagaflhaaGreat
open Go.RowKit

def same (l : List P2) (i j : Nat) : Bool := px l i == px l j && py l i == py l j
/-- the first m points without those that are as the one before them -/
def ddTo (l : List P2) : Nat → List P2
  | 0 => []
  | k + 1 => if k = 0 ∨ same l k (k - 1) = false then ddTo l k ++ [(px l k, py l k)] else ddTo l k
theorem ddTo_le (l : List P2) : ∀ k, (ddTo l k).length ≤ k
  | 0 => by simp [ddTo]
  | k + 1 => by have := ddTo_le l k; simp only [ddTo]; split <;> simp <;> omega
theorem ddTo_keep {l : List P2} {k : Nat} (h : k = 0 ∨ same l k (k - 1) = false) : ddTo l (k + 1) = ddTo l k ++ [(px l k, py l k)] := by simp only [ddTo]; rw [if_pos h]
theorem ddTo_skip {l : List P2} {k : Nat} (h0 : 0 < k) (h : same l k (k - 1) = true) : ddTo l (k + 1) = ddTo l k := by
  simp only [ddTo]; rw [if_neg]; rintro (h1 | h1); omega; rw [h] at h1; cases h1
theorem same_yes {l : List P2} {i j : Nat} (h1 : px l i = px l j) (h2 : py l i = py l j) : same l i j = true := by simp [same, h1, h2]
theorem same_no {l : List P2} {i j : Nat} (h : ¬ (px l i = px l j ∧ py l i = py l j)) : same l i j = false := by
  rw [Bool.eq_false_iff]; intro h1; simp [same] at h1; exact h h1
theorem take_ext (l : List P2) (k : Nat) (h : k < l.length) : l.take (k + 1) = l.take k ++ [(px l k, py l k)] := take_snoc l k h

theorem ptCells_take (l : List P2) (k : Nat) : (ptCells l).take (k * 2) = ptCells (l.take k) := by
  induction l generalizing k with
  | nil => simp [ptCells]
  | cons s l ih =>
    cases k with
    | zero => simp [ptCells]
    | succ k =>
      have e : ptCells (s :: l) = [.int .i64 s.1, .int .i64 s.2] ++ ptCells l := by simp [ptCells]
      have e2 : ptCells (s :: l.take k) = [.int .i64 s.1, .int .i64 s.2] ++ ptCells (l.take k) := by simp [ptCells]
      rw [List.take_succ_cons, e, e2, ← ih k, show (k + 1) * 2 = k * 2 + 1 + 1 by omega]; rfl
theorem ptCells_set (l : List P2) (k : Nat) (a b : Int) : ((ptCells l).set (k * 2) (.int .i64 a)).set (k * 2 + 1) (.int .i64 b) = ptCells (l.set k (a, b)) := by
  induction l generalizing k with
  | nil => simp [ptCells]
  | cons s l ih =>
    have e : ptCells (s :: l) = .int .i64 s.1 :: .int .i64 s.2 :: ptCells l := by simp [ptCells]
    cases k with
    | zero => rw [e]; simp [ptCells]
    | succ k =>
      have e2 : ptCells (s :: l.set k (a, b)) = .int .i64 s.1 :: .int .i64 s.2 :: ptCells (l.set k (a, b)) := by simp [ptCells]
      rw [List.set_cons_succ, e, e2, ← ih k, show (k + 1) * 2 = k * 2 + 1 + 1 by omega]; rfl

/-- the row while the second loop runs: kk points are kept, those behind are as they were -/
def Mid (l m : List P2) (kk j : Nat) : Prop := m.length = l.length ∧ m.take kk = ddTo l j ∧ kk < j ∧ kk = (ddTo l j).length ∧ ∀ i, kk ≤ i → px m i = px l i ∧ py m i = py l i
theorem Mid.skip {l m : List P2} {kk j : Nat} (h : Mid l m kk j) (h0 : 0 < j) (hs : same l j (j - 1) = true) : Mid l m kk (j + 1) := by
  obtain ⟨h1, h2, h3, h4, h5⟩ := h
  exact ⟨h1, by rw [ddTo_skip h0 hs]; exact h2, by omega, by rw [ddTo_skip h0 hs]; exact h4, h5⟩
theorem Mid.keep {l m : List P2} {kk j : Nat} (h : Mid l m kk j) (hj : j < l.length) (hs : same l j (j - 1) = false) : Mid l (m.set kk (px l j, py l j)) (kk + 1) (j + 1) := by
  obtain ⟨h1, h2, h3, h4, h5⟩ := h
  refine ⟨by rw [List.length_set]; exact h1, ?_, by omega, by rw [ddTo_keep (.inr hs), List.length_append, ← h4]; rfl, fun i hi => ?_⟩
  · rw [ddTo_keep (.inr hs), ← h2]
    have hk : kk < m.length := by omega
    rw [List.take_succ_eq_append_getElem (by simpa using hk)]
    simp [List.take_set]
    rw [List.set_eq_of_length_le (by simp; omega)]
  · have := h5 i (by omega)
    simpa [px, py, List.getD_eq_getElem?_getD, List.getElem?_set, show ¬ kk = i by omega] using this
theorem Mid.start {l : List P2} {k : Nat} (hk : 0 < k) (hl : k < l.length) (h : ddTo l k = l.take k) (hs : same l k (k - 1) = true) : Mid l l k (k + 1) :=
  ⟨rfl, by rw [ddTo_skip hk hs, h], by omega, by rw [ddTo_skip hk hs, h, List.length_take]; omega, fun _ _ => ⟨rfl, rfl⟩⟩

theorem own_setPt {w : World} {base g cap n : Nat} {m : List P2} (h : w.ownsRow base 23 2 (.slice (some ⟨g, 0, none⟩) n cap) n (ptCells m)) (i : Nat) (a b : Int) :
    ((w.setCell ⟨g, i * 2, none⟩ (.int .i64 a)).setCell ⟨g, i * 2 + 1, none⟩ (.int .i64 b)).ownsRow base 23 2 (.slice (some ⟨g, 0, none⟩) n cap) n (ptCells (m.set i (a, b))) := by
  have := own_set (own_set h (i * 2) (.int .i64 a)) (i * 2 + 1) (.int .i64 b)
  rwa [ptCells_set] at this
theorem own_pt {w : World} {base g cap n : Nat} {m : List P2} (h : w.ownsRow base 23 2 (.slice (some ⟨g, 0, none⟩) n cap) n (ptCells m)) (hn : m.length = n) {i : Nat} (hi : i < n) :
    (w.cell? ⟨g, i * 2, none⟩ = some (.int .i64 (px m i)) ∧ w.cell? ⟨g, i * 2 + 1, none⟩ = some (.int .i64 (py m i))) ∧ w.frozen? ⟨g, i * 2, none⟩ = false ∧ w.frozen? ⟨g, i * 2 + 1, none⟩ = false := by
  obtain ⟨a1, a2⟩ := ptCells_at m i (by omega)
  have b1 := own_cell h a1
  have b2 := own_cell h a2
  exact ⟨⟨b1.1, b2.1⟩, b1.2, b2.2⟩

end Go.Proofs.YtpdfbboagaflhaaGreat

/- What comparePoints returns, and that it draws on and lays new blocks alone. No condition. -/
namespace Go.Proofs.YtpdfbboagaflhaaGreat
open Go.RowKit

/-- as New, and no draw is taken back -/
def NewD (w w' : World) : Prop := ∃ p : AtBy, w' = Aft w p.d p.os ∧ w.drawn ≤ p.d
theorem newD_of {w w' : World} (h : New w w') (hd : w.drawn ≤ w'.drawn) : NewD w w' := by
  obtain ⟨p, rfl⟩ := h
  exact ⟨p, rfl, hd⟩
theorem drawn_aft (w : World) (d : Nat) (os : Array Obj) : (Aft w d os).drawn = d := rfl
theorem drawn_alloc (w : World) (o : Obj) : (w.alloc o).drawn = w.drawn := rfl
theorem drawn_drew (w : World) : w.drew.drawn = w.drawn + 1 := rfl
theorem drawn_setCell (w : World) (a : Addr) (v : Value) : (w.setCell a v).drawn = w.drawn := rfl
theorem NewD.new {w w' : World} (h : NewD w w') : New w w' := by obtain ⟨p, hp, _⟩ := h; exact ⟨p, hp⟩
theorem NewD.grow {w w' : World} (h : NewD w w') : ∃ q os, w' = Go.Sort.grow (w.drewN q) os := by
  obtain ⟨p, rfl, hd⟩ := h
  exact ⟨p.d - w.drawn, p.os, by simp [Aft, Go.Sort.grow, World.drewN]; omega⟩

set_option maxHeartbeats 400000 in
theorem compare_d (x y : Int) (w : World) : Calls Tryz.prog 163 #[.int .i64 x, .int .i64 y] w fun e w' => e = .returned (.int .i64 (cmpI x y)) ∧ NewD w w' := by
  unfold cmpI
  go_enter Tryz.func163, Tryz.ntmps163
  go_wp2
  all_goals (go_ret; refine ⟨rfl, newD_of ?_ (Nat.le_refl _)⟩; (repeat (first | exact New.refl _ | apply New.alloc | apply New.aft | apply New.drew | refine New.setCell ?_ ?_ _)); all_goals (first | done | (simp [size_aft]; done) | (simp [size_aft]; omega)))

set_option maxHeartbeats 400000 in
theorem or_d (a b : Int) (g : Nat) (w : World) (h0 : w.cell? ⟨g, 0, none⟩ = some (.int .i64 a)) (h1 : w.cell? ⟨g, 1, none⟩ = some (.int .i64 b)) : Calls Tryz.prog 173 #[.slice (some ⟨g, 0, none⟩) 2 2] w fun e w' => e = .returned (.int .i64 (orI a b)) ∧ NewD w w' := by
  by_cases ha : a = 0
  · subst ha
    by_cases hb : b = 0
    · subst hb
      rw [show orI 0 0 = 0 from rfl]
      go_enter Tryz.func173, Tryz.ntmps173
      go_wp2
      refine wp_loop_rounds 3 ?_
      repeat any_goals (rw [rounds_succ]; go_wp2)
      go_ret; refine ⟨rfl, newD_of ?_ (Nat.le_refl _)⟩; (repeat (first | exact New.refl _ | apply New.alloc | apply New.aft | apply New.drew | refine New.setCell ?_ ?_ _)); all_goals (first | done | (simp [size_aft]; done) | (simp [size_aft]; omega))
    · rw [show orI 0 b = b from by simp [orI]]
      have hb' : (b == 0) = false := by simpa using hb
      have hb2 : (b != 0) = true := by simpa using hb
      clear hb
      go_enter Tryz.func173, Tryz.ntmps173
      go_wp2
      refine wp_loop_rounds 3 ?_
      repeat any_goals (rw [rounds_succ]; go_wp2)
      go_ret; refine ⟨rfl, newD_of ?_ (Nat.le_refl _)⟩; (repeat (first | exact New.refl _ | apply New.alloc | apply New.aft | apply New.drew | refine New.setCell ?_ ?_ _)); all_goals (first | done | (simp [size_aft]; done) | (simp [size_aft]; omega))
  · rw [show orI a b = a from by simp [orI, ha]]
    have ha' : (a == 0) = false := by simpa using ha
    have ha2 : (a != 0) = true := by simpa using ha
    clear ha
    go_enter Tryz.func173, Tryz.ntmps173
    go_wp2
    refine wp_loop_rounds 3 ?_
    repeat any_goals (rw [rounds_succ]; go_wp2)
    go_ret; refine ⟨rfl, newD_of ?_ (Nat.le_refl _)⟩; (repeat (first | exact New.refl _ | apply New.alloc | apply New.aft | apply New.drew | refine New.setCell ?_ ?_ _)); all_goals (first | done | (simp [size_aft]; done) | (simp [size_aft]; omega))

set_option maxHeartbeats 1000000 in
theorem comparePoints_d (ax ay bx by' : Int) (w : World) : Calls Tryz.prog 125 #[pv ax ay, pv bx by'] w fun e w' => e = .returned (.int .i64 (orI (cmpI ax bx) (cmpI ay by'))) ∧ NewD w w' := by
  go_enter Tryz.func125, Tryz.ntmps125
  go_wp2_with fail
  go_region_held3 (fun w' => (w'.cell? ⟨w.heap.size, 0, none⟩ = some (.int .i64 ax) ∧ w'.cell? ⟨w.heap.size, 1, none⟩ = some (.int .i64 ay) ∧ w'.cell? ⟨w.heap.size + 1, 0, none⟩ = some (.int .i64 bx) ∧ w'.cell? ⟨w.heap.size + 1, 1, none⟩ = some (.int .i64 by')) ∧ w.drawn ≤ w'.drawn) (refine ⟨by (first | (simp [go_sem]; done) | (simp [go_sem, *]; done) | (go_keep; done)), by (simp only [drawn_aft, drawn_alloc, drawn_drew] at *; omega)⟩)
    (first | (go_at_call 163; refine (compare_d _ _ _).mono ?_; rintro e w1 ⟨rfl, pw, rfl, hd⟩) | (go_at_call 173; refine (or_d (cmpI ax bx) (cmpI ay by') _ _ ?_ ?_).mono ?_; simp [go_sem]; simp [go_sem]; rintro e w1 ⟨rfl, pw, rfl, hd⟩))
  all_goals (go_wp2_with fail)
  all_goals (go_ret; refine ⟨rfl, newD_of ?_ ?_⟩; (repeat (first | exact New.refl _ | apply New.alloc | apply New.aft | apply New.drew | refine New.setCell ?_ ?_ _)); all_goals (first | done | (simp [size_aft]; done) | (simp [size_aft]; omega) | (simp only [drawn_aft, drawn_alloc, drawn_drew] at *; omega)))

end Go.Proofs.YtpdfbboagaflhaaGreat
