/- A list backwards, as backwards returns it. From one to 1000000 points. -/
import Derived.Test.YtpdfbboagaflhaaGreatM21
import Derived.Deep.RegionHeld3
import Derived.BigRegion
import Derived.LoopTactic
import Derived.Deep.AppendLies
import Derived.Deep.RegionLaw
import Derived.WalkSpells

namespace Go.Proofs.YtpdfbboagaflhaaGreat
open Go.RowKit

def revTo (l : List P2) (n : Nat) : Nat → List P2
  | 0 => []
  | m + 1 => revTo l n m ++ [(px l (n - 1 - m), py l (n - 1 - m))]
theorem revTo_length (l : List P2) (n : Nat) : ∀ m, (revTo l n m).length = m
  | 0 => rfl
  | m + 1 => by simp [revTo, revTo_length l n m]

set_option maxHeartbeats 4000000 in
theorem backwards_c (b off n c : Nat) (l : List P2) (w : World) (h0 : 0 < n) (hl : n ≤ 1000000) (hw : Pts w b off n l) :
    Calls Tryz.prog 113 #[.slice (some ⟨b, off, none⟩) n c] w fun en w' => ∃ g cap, en = .returned (.slice (some ⟨g, 0, none⟩) n cap) ∧ w'.ownsRow w.heap.size 23 2 (.slice (some ⟨g, 0, none⟩) n cap) n (ptCells (revTo l n n)) ∧ New w w' := by
  obtain ⟨i0, hi, hz0, hz1, hz2⟩ := info_parts info23
  obtain ⟨hwl, hb, hcell⟩ := hw
  clear hwl
  have hmk : ∀ w : World, (Instr.makeSlice 40 (.int .i64 0) (.int .i64 (n : Int))).run Tryz.prog w = .ok (.slice (some ⟨w.heap.size, 0, none⟩) 0 n) (w.alloc (.cells (madeCells (.agg #[.int .i64 0, .int .i64 0] : Value).cells (n * 2)) 23)) := by
    intro w
    have := run_make (P := Tryz.prog) w 40 23 i0 _ Tryz.underlying40 hi hz0 .i64 .i64 0 n (by omega) (by omega) (by rw [hz2]; omega) (by omega)
    rw [hz1] at this
    simpa using this
  go_enter Tryz.func113, Tryz.ntmps113
  go_wp2_with fail
  go_loopw [3, 4] (fun v i wr => ∃ k m : Nat, k + m = n ∧ i = .int .i64 ((k : Int) - 1) ∧ wr.ownsRow w.heap.size 23 2 v m (ptCells (revTo l n m)) ∧ New w wr) (fun _ i _ => (intOf i + 1).toNat)
  case atStart => exact ⟨n, 0, rfl, rfl, World.ownsRow_made _ _ _ (Nat.le_refl _) (by unfold maxLen; omega) (by simp [size_madeCells]), (New.refl w).alloc _⟩
  case round =>
    obtain ⟨k, m, hkm, rfl, hown, pr, rfl⟩ := hrel
    have HO := Lib.hid hown
    have HKM := Lib.hid hkm
    have hmn : m ≤ n := by omega
    have hkn : k ≤ n := by omega
    clear hown hkm
    cases k with
    | succ k =>
      obtain ⟨c1, c2⟩ := hcell k (by omega)
      have hz : ((k + 1 : Nat) : Int) - 1 = (k : Int) := by omega
      simp only [hz]
      clear hz
      go_wp2_with (at_builtin; refine wpList_append_lies _ rfl (.tmp 15) (.tmp 20) 40 rfl w.heap.size 23 i0 _ 2 16 Tryz.underlying40 hi hz0 hz1 hz2 rfl (by omega) u3 m (ptCells (revTo l n m)) rfl ?_ _ 1 1 [.int .i64 (px l k), .int .i64 (py l k)] rfl rfl ?_ ?_ (by omega) ?_ ?_ ?_ _ rfl ?_; exact own_new HO.out (by (repeat (first | exact New.refl _ | apply New.alloc | apply New.aft | apply New.drew | refine New.setCell ?_ ?_ _)); all_goals (first | done | (simp [size_aft]; done) | (simp [size_aft]; omega))); (refine cells_new _ _ _ _ ?_); (simp [go_sem]); (intro u hu; simp at hu; rcases hu with rfl | rfl <;> rfl); (unfold maxLen; omega); omega; (simp [go_sem, Nat.add_assoc]); intro g cap w2 hown2 hgrow2 hor2 hlt2; have HNW := Lib.hid (show New w w2 from new_grown (by (repeat (first | exact New.refl _ | apply New.alloc | apply New.aft | apply New.drew | refine New.setCell ?_ ?_ _)); all_goals (first | done | (simp [size_aft]; done) | (simp [size_aft]; omega))) hgrow2 HO.out); have HO2 := Lib.hid hown2; clear hown2 hgrow2 hor2 hlt2)
      go_roundw
      case rel =>
        have e : n - 1 - m = k := by have := HKM.out; omega
        exact ⟨k, m + 1, by have := HKM.out; omega, by go_num, by rw [revTo, e, ptCells_snoc]; exact HO2.out, HNW.out⟩
      case measure => simp [intOf]
    | zero =>
      go_wp2_with fail
      have hm : m = n := by have := HKM.out; omega
      have h1 := HO.out
      rw [hm] at h1
      rcases h1.2 with ⟨_, hk0⟩ | ⟨g, cap, cur, rfl, hg⟩
      · exact absurd hk0 (by omega)
      · go_ret
        exact ⟨g, cap, rfl, h1, by (repeat (first | exact New.refl _ | apply New.alloc | apply New.aft | apply New.drew | refine New.setCell ?_ ?_ _)); all_goals (first | done | (simp [size_aft]; done) | (simp [size_aft]; omega))⟩

end Go.Proofs.YtpdfbboagaflhaaGreat

/- A list turned so that it begins elsewhere, as startingAt returns it. From one to 1000000 points. -/
namespace Go.Proofs.YtpdfbboagaflhaaGreat
open Go.RowKit

def rotL (l : List P2) (f : Nat) : List P2 := l.drop f ++ l.take f
theorem rotL_length (l : List P2) (f : Nat) (h : f ≤ l.length) : (rotL l f).length = l.length := by simp [rotL]; omega
theorem ptCells_append (a b : List P2) : ptCells (a ++ b) = ptCells a ++ ptCells b := by simp [ptCells]
theorem ptCells_length (a : List P2) : (ptCells a).length = a.length * 2 := by
  induction a with
  | nil => rfl
  | cons s a ih => rw [show ptCells (s :: a) = [.int .i64 s.1, .int .i64 s.2] ++ ptCells a by simp [ptCells], List.length_append, ih]; simp; omega
theorem ptCells_one (a : List P2) : ∀ u ∈ ptCells a, u.oneCell' = true := by
  intro u hu
  simp only [ptCells, List.mem_flatMap] at hu
  obtain ⟨s, _, hs⟩ := hu
  simp at hs
  rcases hs with rfl | rfl <;> rfl
/-- the cells of a part of a slice of points -/
theorem pts_part {w : World} {b off n : Nat} {l : List P2} (h : Pts w b off n l) (f m : Nat) (hm : f + m ≤ n) : ∀ j u, (ptCells ((l.drop f).take m))[j]? = some u → w.cell? ((⟨b, off + f * 2, none⟩ : Addr).add j) = some u := by
  obtain ⟨h1, h2, h3⟩ := h
  intro j u hu
  have hadd : (⟨b, off + f * 2, none⟩ : Addr).add j = ⟨b, off + f * 2 + j, none⟩ := by unfold Addr.add; split <;> simp_all
  rw [hadd]
  have hj : j < m * 2 := by
    have := (List.getElem?_eq_some_iff.1 hu).1
    rw [ptCells_length] at this
    simp at this; omega
  have hlen : j / 2 < ((l.drop f).take m).length := by simp; omega
  have e1 : px ((l.drop f).take m) (j / 2) = px l (f + j / 2) := by simp [px, List.getD_eq_getElem?_getD, show j / 2 < m by omega]
  have e2 : py ((l.drop f).take m) (j / 2) = py l (f + j / 2) := by simp [py, List.getD_eq_getElem?_getD, show j / 2 < m by omega]
  obtain ⟨a1, a2⟩ := ptCells_at _ _ hlen
  obtain ⟨b1, b2⟩ := h3 (f + j / 2) (by omega)
  rcases Nat.mod_two_eq_zero_or_one j with hp | hp
  · rw [show j / 2 * 2 = j by omega, hu, e1] at a1
    rw [show off + f * 2 + j = off + (f + j / 2) * 2 by omega, b1, a1]
  · rw [show j / 2 * 2 + 1 = j by omega, hu, e2] at a2
    rw [show off + f * 2 + j = off + (f + j / 2) * 2 + 1 by omega, b2, a2]

set_option maxHeartbeats 4000000 in
theorem startingAt_c (b off n c f : Nat) (l : List P2) (w : World) (hf : f < n) (hl : n ≤ 1000000) (hc : n ≤ c) (hw : Pts w b off n l) :
    Calls Tryz.prog 114 #[.slice (some ⟨b, off, none⟩) n c, .int .i64 (f : Int)] w fun en w' => ∃ v, en = .returned v ∧ w'.ownsRow w.heap.size 23 2 v n (ptCells (rotL l f)) ∧ New w w' := by
  obtain ⟨i0, hi, hz0, hz1, hz2⟩ := info_parts info23
  have HW := Lib.hid hw
  obtain ⟨hwl, hb, hcell⟩ := hw
  have HN := Lib.hid hwl
  clear hwl hcell
  have hmk : ∀ w : World, (Instr.makeSlice 40 (.int .i64 0) (.int .i64 (n : Int))).run Tryz.prog w = .ok (.slice (some ⟨w.heap.size, 0, none⟩) 0 n) (w.alloc (.cells (madeCells (.agg #[.int .i64 0, .int .i64 0] : Value).cells (n * 2)) 23)) := by
    intro w
    have := run_make (P := Tryz.prog) w 40 23 i0 _ Tryz.underlying40 hi hz0 .i64 .i64 0 n (by omega) (by omega) (by rw [hz2]; omega) (by omega)
    rw [hz1] at this
    simpa using this
  have hcf : (c = f) = False := eq_false (by omega)
  have hcf2 : (c == f) = false := by simp; omega
  have HMADE := Lib.hid (show (w.alloc (.cells (madeCells (.agg #[.int .i64 0, .int .i64 0] : Value).cells (n * 2)) 23)).ownsRow w.heap.size 23 2 (.slice (some ⟨w.heap.size, 0, none⟩) 0 n) 0 [] from World.ownsRow_made _ _ _ (Nat.le_refl _) (by unfold maxLen; omega) (by simp [size_madeCells]))
  have HP2 := Lib.hid (show ∀ w1 : World, New w w1 → ∀ j u, (ptCells ((l.drop 0).take f))[j]? = some u → w1.cell? ((⟨b, off, none⟩ : Addr).add j) = some u from fun w1 h1 => by have := pts_part (HW.out.new h1) 0 f (by omega); simpa using this)
  go_enter Tryz.func114, Tryz.ntmps114
  go_wp2_with (first | (at_builtin; refine wpList_append_own _ rfl (.tmp 9) (.tmp 12) 40 rfl w.heap.size 23 i0 _ 2 16 Tryz.underlying40 hi hz0 hz1 hz2 rfl (by omega) _ 0 [] rfl ?_ ⟨b, off + f * 2, none⟩ (n - f) _ (ptCells ((l.drop f).take (n - f))) rfl ?_ ?_ ?_ ?_ ?_ ?_ ?_; exact HMADE.out; (rw [ptCells_length]; simp; have := HN.out; omega); exact pts_part (HW.out.new ((New.refl w).alloc _)) f (n - f) (by omega); exact ptCells_one _; (unfold maxLen; omega); omega; (simp [go_sem]); intro v1 w1 hown1 hgrow1 hnil1; have HO1 := Lib.hid hown1; have HN1 := Lib.hid (show New w w1 from new_grown ((New.refl w).alloc _) hgrow1 HMADE.out); clear hown1 hgrow1 hnil1) | (at_builtin; refine wpList_append_own _ rfl (.tmp 14) (.tmp 17) 40 rfl w.heap.size 23 i0 _ 2 16 Tryz.underlying40 hi hz0 hz1 hz2 rfl (by omega) v1 (0 + (n - f)) ([] ++ ptCells ((l.drop f).take (n - f))) rfl ?_ ⟨b, off, none⟩ f _ (ptCells ((l.drop 0).take f)) rfl ?_ ?_ ?_ ?_ ?_ ?_ ?_; exact HO1.out; (rw [ptCells_length]; simp; have := HN.out; omega); exact HP2.out _ HN1.out; exact ptCells_one _; (unfold maxLen; omega); omega; exact HN1.out.size; intro v2 w2 hown2 hgrow2 hnil2; have HO2 := Lib.hid hown2; have HN2 := Lib.hid (show New w w2 from new_grown HN1.out hgrow2 HO1.out); clear hown2 hgrow2 hnil2))
  go_ret
  refine ⟨v2, rfl, ?_, HN2.out⟩
  have h1 := HO2.out
  rw [show 0 + (n - f) + f = n by omega] at h1
  have e : ptCells (rotL l f) = [] ++ ptCells ((l.drop f).take (n - f)) ++ ptCells ((l.drop 0).take f) := by
    have e1 : (l.drop f).take (n - f) = l.drop f := List.take_of_length_le (by have := HN.out; rw [List.length_drop]; omega)
    rw [rotL, ptCells_append, e1, List.drop_zero, List.nil_append]
  rw [e]; exact h1

end Go.Proofs.YtpdfbboagaflhaaGreat
