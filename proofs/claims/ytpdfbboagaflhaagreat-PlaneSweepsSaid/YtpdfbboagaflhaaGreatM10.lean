/- Slices of segments and of points, the segments that edges returns, and what Area2 returns. From one to 1000000 points. -/
import Derived.Test.YtpdfbboagaflhaaGreatM09
import Derived.Deep.RegionHeld3
import Derived.BigRegion
import Derived.LoopTactic

namespace Go.Proofs.YtpdfbboagaflhaaGreat
open Go.RowKit

theorem New.cell {w w1 : World} (h : New w w1) {b o : Nat} (hb : b < w.heap.size) : w1.cell? ⟨b, o, none⟩ = w.cell? ⟨b, o, none⟩ := h.below.cell (p := ⟨b, o, none⟩) hb
theorem Pts.new {w w1 : World} {b off n : Nat} {l : List P2} (h : Pts w b off n l) (hn : New w w1) : Pts w1 b off n l := by
  obtain ⟨h1, h2, h3⟩ := h
  exact ⟨h1, Nat.lt_of_lt_of_le h2 hn.size, fun i hi => by rw [hn.cell h2, hn.cell h2]; exact h3 i hi⟩

def q1 (l : List S4) (i : Nat) : Int := (l.getD i (0, 0, 0, 0)).1
def q2 (l : List S4) (i : Nat) : Int := (l.getD i (0, 0, 0, 0)).2.1
def q3 (l : List S4) (i : Nat) : Int := (l.getD i (0, 0, 0, 0)).2.2.1
def q4 (l : List S4) (i : Nat) : Int := (l.getD i (0, 0, 0, 0)).2.2.2
/-- a slice of segments: its numbers lie in the cells of the block b from off on -/
def Segs (w : World) (b off n : Nat) (l : List S4) : Prop := l.length = n ∧ b < w.heap.size ∧ ∀ i, i < n → w.cell? ⟨b, off + i * 4, none⟩ = some (.int .i64 (q1 l i)) ∧ w.cell? ⟨b, off + i * 4 + 1, none⟩ = some (.int .i64 (q2 l i)) ∧ w.cell? ⟨b, off + i * 4 + 2, none⟩ = some (.int .i64 (q3 l i)) ∧ w.cell? ⟨b, off + i * 4 + 3, none⟩ = some (.int .i64 (q4 l i))
theorem Segs.new {w w1 : World} {b off n : Nat} {l : List S4} (h : Segs w b off n l) (hn : New w w1) : Segs w1 b off n l := by
  obtain ⟨h1, h2, h3⟩ := h
  exact ⟨h1, Nat.lt_of_lt_of_le h2 hn.size, fun i hi => by rw [hn.cell h2, hn.cell h2, hn.cell h2, hn.cell h2]; exact h3 i hi⟩

theorem segCells_at (l : List S4) : ∀ (i : Nat), i < l.length → (segCells l)[i * 4]? = some (.int .i64 (q1 l i)) ∧ (segCells l)[i * 4 + 1]? = some (.int .i64 (q2 l i)) ∧ (segCells l)[i * 4 + 2]? = some (.int .i64 (q3 l i)) ∧ (segCells l)[i * 4 + 3]? = some (.int .i64 (q4 l i)) := by
  induction l with
  | nil => intro i h; simp at h
  | cons s l ih =>
    intro i h
    have e : segCells (s :: l) = [.int .i64 s.1, .int .i64 s.2.1, .int .i64 s.2.2.1, .int .i64 s.2.2.2] ++ segCells l := by simp [segCells]
    cases i with
    | zero => rw [e]; exact ⟨rfl, rfl, rfl, rfl⟩
    | succ i =>
      have hh := ih i (by simpa using h)
      rw [e, show (i + 1) * 4 = i * 4 + 4 by omega]
      have f : ∀ j, ([Value.int .i64 s.1, .int .i64 s.2.1, .int .i64 s.2.2.1, .int .i64 s.2.2.2] ++ segCells l)[i * 4 + 4 + j]? = (segCells l)[i * 4 + j]? := by
        intro j
        rw [List.getElem?_append_right (by simp; omega)]
        congr 1; simp; omega
      have g1 := f 0; have g2 := f 1; have g3 := f 2; have g4 := f 3
      simp only [Nat.add_zero] at g1
      rw [g1, g2, g3, g4]
      simpa [q1, q2, q3, q4] using hh

theorem segs_own {w : World} {base g n cap : Nat} {l : List S4} (h : w.ownsRow base 30 4 (.slice (some ⟨g, 0, none⟩) n cap) n (segCells l)) (hl : l.length = n) : Segs w g 0 n l := by
  refine ⟨hl, (h.lt g rfl).2, fun i hi => ?_⟩
  have hc := h.cells (g := g) rfl
  have hadd : ∀ j, (⟨g, 0, none⟩ : Addr).add j = ⟨g, j, none⟩ := by intro j; unfold Addr.add; split <;> simp_all
  obtain ⟨a1, a2, a3, a4⟩ := segCells_at l i (by omega)
  have b1 := hc _ _ a1; have b2 := hc _ _ a2; have b3 := hc _ _ a3; have b4 := hc _ _ a4
  rw [hadd] at b1 b2 b3 b4
  simp only [Nat.zero_add]
  exact ⟨b1, b2, b3, b4⟩

def edgesL (l : List P2) : List S4 := edgesTo l l.length
theorem edgesL_length (l : List P2) : (edgesL l).length = l.length := by simp [edgesL, edgesTo]
theorem edgesL_at (l : List P2) (i : Nat) (h : i < l.length) : q1 (edgesL l) i = px l i ∧ q2 (edgesL l) i = py l i ∧ q3 (edgesL l) i = px l ((i + 1) % l.length) ∧ q4 (edgesL l) i = py l ((i + 1) % l.length) := by
  simp [q1, q2, q3, q4, edgesL, edgesTo, edgeAt, List.getD_eq_getElem?_getD, h]

theorem edges_s (b off n c : Nat) (l : List P2) (w : World) (h0 : 0 < n) (hl : n ≤ 1000000) (hw : Pts w b off n l) :
    Calls Tryz.prog 109 #[.slice (some ⟨b, off, none⟩) n c] w fun en w' => ∃ g cap, en = .returned (.slice (some ⟨g, 0, none⟩) n cap) ∧ Segs w' g 0 n (edgesL l) ∧ New w w' := by
  have hn := hw.1
  refine (edges_c b off n c l w h0 hl hw).mono ?_
  rintro e w' ⟨g, cap, rfl, ho, hnew⟩
  refine ⟨g, cap, rfl, ?_, hnew⟩
  subst hn
  exact segs_own ho (edgesL_length l)

theorem okL_bd {l : List P2} (h : okL l = true) (i : Nat) : (0 ≤ px l i ∧ px l i ≤ 10000) ∧ (0 ≤ py l i ∧ py l i ≤ 10000) := by
  by_cases hi : i < l.length
  · exact okP_iff.1 (okL_at l i hi h)
  · simp [px, py, List.getD_eq_getElem?_getD, List.getElem?_eq_none (Nat.le_of_not_lt hi)]
theorem edgesL_bd {l : List P2} (h : okL l = true) (i : Nat) (hi : i < l.length) : (0 ≤ q1 (edgesL l) i ∧ q1 (edgesL l) i ≤ 10000) ∧ (0 ≤ q2 (edgesL l) i ∧ q2 (edgesL l) i ≤ 10000) ∧ (0 ≤ q3 (edgesL l) i ∧ q3 (edgesL l) i ≤ 10000) ∧ (0 ≤ q4 (edgesL l) i ∧ q4 (edgesL l) i ≤ 10000) := by
  obtain ⟨e1, e2, e3, e4⟩ := edgesL_at l i hi
  rw [e1, e2, e3, e4]
  exact ⟨(okL_bd h i).1, (okL_bd h i).2, (okL_bd h _).1, (okL_bd h _).2⟩

def crossTo (L : List S4) : Nat → Int
  | 0 => 0
  | k + 1 => crossTo L k + (q1 L k * q4 L k - q2 L k * q3 L k)
def areaI (l : List P2) : Int := if ckPts l 400 = 0 then crossTo (edgesL l) l.length else 0
theorem areaI_no {l : List P2} (h : ckPts l 400 ≠ 0) : 0 = areaI l := (if_neg h).symm
theorem areaI_yes {l : List P2} (h : ckPts l 400 = 0) : crossTo (edgesL l) l.length = areaI l := (if_pos h).symm
theorem ckPts_zero {l : List P2} {m : Int} (h : ckPts l m = 0) : (l.length : Int) ≤ m ∧ okL l = true := by
  unfold ckPts at h
  split at h
  · cases h
  · split at h
    · exact ⟨by omega, by assumption⟩
    · cases h
theorem pos_bd (a b : Int) (h1 : 0 ≤ a ∧ a ≤ 10000) (h2 : 0 ≤ b ∧ b ≤ 10000) : 0 ≤ a * b ∧ a * b ≤ 100000000 := by
  refine ⟨Int.mul_nonneg h1.1 h2.1, ?_⟩
  have := mul_bd a b 10000 10000 (by omega) (by omega) (by omega) (by omega)
  omega
theorem crossTo_bd {l : List P2} (h : okL l = true) : ∀ k : Nat, k ≤ l.length → -(100000000 * (k : Int)) ≤ crossTo (edgesL l) k ∧ crossTo (edgesL l) k ≤ 100000000 * (k : Int)
  | 0, _ => by simp [crossTo]
  | k + 1, hk => by
    have ih := crossTo_bd h k (by omega)
    obtain ⟨b1, b2, b3, b4⟩ := edgesL_bd h k (by omega)
    have c1 := pos_bd _ _ b1 b4
    have c2 := pos_bd _ _ b2 b3
    simp only [crossTo]
    push_cast
    omega

set_option maxHeartbeats 4000000 in
theorem area2_c (b off n c : Nat) (l : List P2) (w : World) (h0 : 0 < n) (hl : n ≤ 1000000) (hw : Pts w b off n l) :
    Calls Tryz.prog 46 #[.slice (some ⟨b, off, none⟩) n c] w fun en w' => en = .returned (.int .i64 (areaI l)) ∧ New w w' := by
  have HW := Lib.hid hw
  have HN := Lib.hid hw.1
  clear hw
  by_cases hck : ckPts l 400 = 0
  · obtain ⟨hn4, hok⟩ := ckPts_zero hck
    have HB := Lib.hid (edgesL_bd hok)
    have HC := Lib.hid (crossTo_bd hok)
    have HA := Lib.hid (areaI_yes hck)
    have hn5 : (n : Int) ≤ 400 := by rw [← HN.out]; exact hn4
    have HK := Lib.hid hck
    have HOK := Lib.hid hok
    clear hn4 hok hck
    go_enter Tryz.func46, Tryz.ntmps46
    go_wp2_with (go_at_call 84; refine (checkPoints_c _ _ _ _ l _ _ ?_ HW.out).mono ?_; omega; rintro e w1 ⟨rfl, hnew⟩; rw [HK.out]; have HW1 := Lib.hid (HW.out.new hnew); have HNEW := Lib.hid hnew; clear hnew)
    go_at_call 109
    refine (edges_s _ _ _ _ l _ h0 hl HW1.out).mono ?_
    rintro e w2 ⟨g, cap, rfl, ⟨hsl, hgb, hsc⟩, hnew2⟩
    have HN2 := Lib.hid (HNEW.out.trans hnew2)
    clear hnew2 hsl
    go_wp2_with fail
    go_loopw [3, 12] (fun v i wr => ∃ k : Nat, k ≤ n ∧ i = .int .i64 k ∧ v = .int .i64 (crossTo (edgesL l) k) ∧ New w2 wr) (fun _ i _ => n - (intOf i).toNat)
    case atStart => exact ⟨0, Nat.zero_le _, rfl, rfl, New.refl _⟩
    case round =>
      obtain ⟨k, hk, rfl, rfl, pr, rfl⟩ := hrel
      have cb := HC.out k (by rw [HN.out]; exact hk)
      by_cases hlt : k < n
      · obtain ⟨c1, c2, c3, c4⟩ := hsc k hlt
        simp only [Nat.zero_add] at c1 c2 c3 c4
        obtain ⟨b1, b2, b3, b4⟩ := HB.out k (by rw [HN.out]; exact hlt)
        have m1 := pos_bd _ _ b1 b4
        have m2 := pos_bd _ _ b2 b3
        go_wp2_with fail
        go_roundw
        case rel => exact ⟨k + 1, by omega, by go_num, rfl, by (repeat (first | exact New.refl _ | apply New.alloc | apply New.aft | apply New.drew | refine New.setCell ?_ ?_ _)); all_goals (first | done | (simp [size_aft]; done) | (simp [size_aft]; omega))⟩
        case measure => simp [intOf]; omega
      · go_wp2_with fail
        obtain rfl : k = n := by omega
        go_ret
        refine ⟨ret_int (by rw [← HA.out, HN.out]), ?_⟩
        exact HN2.out.trans (by (repeat (first | exact New.refl _ | apply New.alloc | apply New.aft | apply New.drew | refine New.setCell ?_ ?_ _)); all_goals (first | done | (simp [size_aft]; done) | (simp [size_aft]; omega)))
  · have HA := Lib.hid (areaI_no hck)
    have hck1 : (ckPts l 400 == 0) = false := by simpa using hck
    have hck2 : (ckPts l 400 != 0) = true := by simpa using hck
    clear hck
    go_enter Tryz.func46, Tryz.ntmps46
    go_wp2_with (go_at_call 84; refine (checkPoints_c _ _ _ _ l _ _ ?_ HW.out).mono ?_; omega; rintro e w1 ⟨rfl, hnew⟩; have HNEW := Lib.hid hnew; clear hnew)
    go_ret
    exact ⟨ret_int HA.out, HNEW.out⟩

end Go.Proofs.YtpdfbboagaflhaaGreat
