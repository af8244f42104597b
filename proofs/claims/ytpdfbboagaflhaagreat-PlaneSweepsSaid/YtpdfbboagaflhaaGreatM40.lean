/- What slices.Delete leaves of points in a slice that the call owns, where one point is taken out. At most 1000000 points. -/
import Derived.Test.YtpdfbboagaflhaaGreatM26
import Derived.RegionTactic
import Derived.Outline
import Derived.Deep.RegionLaw
import Derived.Test.YtpdfbboagaflhaaGreatM25
import Derived.Test.YtpdfbboagaflhaaGreatM21
import Derived.Deep.RegionHeld3
import Derived.BigRegion
import Derived.LoopTactic
import Derived.Deep.AppendLies
import Derived.WalkSpells

namespace Go.Proofs.YtpdfbboagaflhaaGreat
open Go.RowKit

set_option maxRecDepth 1000000 in
set_option maxHeartbeats 4000000 in
theorem deleteP_c (base g n cap i : Nat) (l : List P2) (w : World) (hl : n ≤ 1000000) (hn : l.length = n) (hin : i < n) (ho : w.ownsRow base 23 2 (.slice (some ⟨g, 0, none⟩) n cap) n (ptCells l)) :
    Calls Tryz.prog 131 #[.slice (some ⟨g, 0, none⟩) n cap, .int .i64 (i : Int), .int .i64 ((i : Int) + 1)] w fun en w' => en = .returned (.slice (some ⟨g, 0, none⟩) (n - 1) cap) ∧ w'.ownsRow base 23 2 (.slice (some ⟨g, 0, none⟩) (n - 1) cap) (n - 1) (ptCells (l.eraseIdx i)) ∧ w.grownBy w' (some g) := by
  obtain ⟨i0, hi0, hz0, hz1, hz2⟩ := info_parts info23
  have HO := Lib.hid ho
  have HN := Lib.hid hn
  have hcl := (own_cap ho).1
  have hcm := (own_cap ho).2
  unfold maxLen at hcm
  have hlen : Hid ((ptCells (l.drop (i + 1))).length = (n - (i + 1)) * 2) := Lib.hid (by rw [ptCells_length, List.length_drop, hn])
  obtain ⟨A, hA, hnews⟩ : ∃ A : Addr, (if cap = i + 1 then some (⟨g, 0, none⟩ : Addr) else some ⟨g, (i + 1) * 2, none⟩) = some A ∧ Hid (∀ w1 : World, New w w1 → ∀ j u, (ptCells (l.drop (i + 1)))[j]? = some u → w1.cell? (A.add j) = some u) := by
    by_cases h : cap = i + 1
    · refine ⟨⟨g, 0, none⟩, by simp [h], Lib.hid fun w1 h1 j u hu => ?_⟩
      have h0 : (ptCells (l.drop (i + 1))).length = 0 := by rw [hlen.out]; omega
      rw [List.length_eq_zero_iff.1 h0] at hu
      simp at hu
    · refine ⟨⟨g, (i + 1) * 2, none⟩, by simp [h], Lib.hid fun w1 h1 j u hu => ?_⟩
      have := pts_part (pts_own (own_new ho h1) hn) (i + 1) (n - (i + 1)) (by omega)
      rw [List.take_of_length_le (by rw [List.length_drop]; omega)] at this
      simpa using this j u hu
  have s2 : Hid (∀ u ∈ ptCells (l.drop (i + 1)), u.oneCell' = true) := Lib.hid (ptCells_one _)
  have s3 : Hid (∀ w1 : World, New w w1 → ∀ j, j < (ptCells (l.drop (i + 1))).length → (w1.cell? ⟨g, 0 + i * 2 + j, none⟩).isSome = true ∧ w1.frozen? ⟨g, 0 + i * 2 + j, none⟩ = false) := Lib.hid fun w1 h1 j hj => by
    rw [hlen.out] at hj
    rw [Nat.zero_add]
    exact own_any (own_new ho h1) (by omega)
  have hwr : IntKind.i64.wrap ((i : Int) + 1) = (i : Int) + 1 := by rw [IntKind.wrap_i64]; omega
  have hp0 : (0 : Int) ≤ (i : Int) + 1 := by omega
  have hp1 : (i : Int) + 1 ≤ (n : Int) := by omega
  have hp2 : ((i : Int) + 1).toNat = i + 1 := by omega
  have hni : (n = i) = False := eq_false (by omega)
  have hni2 : (n == i) = false := by simp; omega
  have hii : ((i : Int) == (i : Int) + 1) = false := by simp; omega
  have hic : i ≤ cap := by omega
  have hM : i + (n - (i + 1)) = n - 1 := by omega
  have hM2 : ((n : Int) - 1) ≤ n := by omega
  have hM3 : (cap = n - 1) = False := eq_false (by omega)
  have hM4 : (cap == n - 1) = false := by simp; omega
  have hM5 : n - 1 ≤ n := by omega
  have hM6 : n ≤ cap := by omega
  have hM7 : n - (n - 1) = 1 := by omega
  have hown1 := own_setMany (ptCells (l.drop (i + 1))) (ptCells l) w.drew (i * 2) (own_new ho (New.refl w).drew) (by rw [hlen.out, ptCells_length]; omega)
  have HOWN1 := Lib.hid hown1
  obtain ⟨vs, HVL, hclr⟩ := run_clear_k (P := Tryz.prog) (w.drew.setCells g (i * 2) (ptCells (l.drop (i + 1)))) 40 23 (.agg #[.int .i64 0, .int .i64 0]) 2 Tryz.underlying40 (fun _ => by kernel_rfl) rfl (by omega) (by intro u hu; simp [Value.cells] at hu; rcases hu with rfl | rfl <;> rfl) g ((n - 1) * 2) 1 (cap - (n - 1)) (by omega) (fun j hj => (own_any hown1.1 (j := (n - 1) * 2 + j) (by omega)).1) (fun j hj => (own_any hown1.1 (j := (n - 1) * 2 + j) (by omega)).2)
  have HVL2 := Lib.hid HVL
  clear HVL hown1
  clear hn ho
  go_enter Tryz.func131, Tryz.ntmps131
  go_wp2_with fail
  go_region_law (refine step_append_room rfl (.tmp 22) (.tmp 25) 40 rfl 23 i0 2 Tryz.underlying40 hi0 hz1 g 0 i cap (by simp [Act.eval, Act.put]) A (n - (i + 1)) (cap - (i + 1)) (ptCells (l.drop (i + 1))) (by simp [Act.eval, Act.put]) hlen.out (hnews.out _ (New.refl w).drew) s2.out (by omega) (s3.out _ (New.refl w).drew) ?_)
  go_wp2_with fail
  go_ret
  have o1 := own_prefix HOWN1.out.1 (n - 1) (by omega)
  have e1 : ((ptCells l).take (i * 2) ++ ptCells (l.drop (i + 1)) ++ (ptCells l).drop (i * 2 + (ptCells (l.drop (i + 1))).length)).take ((n - 1) * 2) = ptCells (l.eraseIdx i) := by
    rw [List.eraseIdx_eq_take_drop_succ, ptCells_append, ptCells_take, List.take_append_of_le_length, List.take_of_length_le]
    · rw [List.length_append, ptCells_length, ptCells_length, List.length_take, List.length_drop, HN.out]; omega
    · rw [List.length_append, ptCells_length, ptCells_length, List.length_take, List.length_drop, HN.out]; omega
  rw [e1] at o1
  have o2 := own_setCells vs _ ((n - 1) * 2) o1 (Nat.le_refl _)
  exact ⟨rfl, o2.1, grownBy_trans (grownBy_new (grownBy_refl w _) (New.refl w).drew) (grownBy_trans HOWN1.out.2 o2.2)⟩

end Go.Proofs.YtpdfbboagaflhaaGreat

/- What Normal returns. From one to 1000000 points; where the polygon is simple, at least one corner that is not straight. -/
namespace Go.Proofs.YtpdfbboagaflhaaGreat
open Go.RowKit

def normB (l : List P2) : List P2 := bendsTo l l.length l.length
def normC (l : List P2) : List P2 := if areaI (normB l) < 0 then revTo (normB l) (normB l).length (normB l).length else normB l
/-- the normal form -/
def normL (l : List P2) : List P2 := rotL (normC l) (leastTo (normC l) (normC l).length)
theorem normC_length (l : List P2) : (normC l).length = (normB l).length := by unfold normC; split <;> simp [revTo_length]
theorem normL_length (l : List P2) (h : 0 < (normB l).length) : (normL l).length = (normB l).length := by
  rw [normL, rotL_length _ _ (Nat.le_of_lt (leastTo_lt _ _ _ (by rw [normC_length]; exact h) (Nat.le_refl _))), normC_length]

set_option maxHeartbeats 4000000 in
theorem normal_no (b off n c : Nat) (l : List P2) (w : World) (h0 : 0 < n) (hl : n ≤ 1000000) (hw : Pts w b off n l) (hp : polyI l ≠ 0) :
    Calls Tryz.prog 50 #[.slice (some ⟨b, off, none⟩) n c] w fun en w' => en = .returned (.tuple #[.slice none 0 0, .int .i64 (polyI l)]) ∧ New w w' := by
  have HP := Lib.hid (checkPoly_c b off n c l w h0 hl hw)
  have hq1 : (polyI l == 0) = false := by simpa using hp
  have hq2 : (polyI l != 0) = true := by simpa using hp
  clear hp hw
  go_enter Tryz.func50, Tryz.ntmps50
  go_wp2_with (go_at_call 44; refine HP.out.mono ?_; rintro e w2 ⟨rfl, hn2⟩; have HN2 := Lib.hid hn2; clear hn2)
  go_ret2
  exact ⟨rfl, HN2.out⟩

set_option maxHeartbeats 4000000 in
theorem normal_yes (b off n c : Nat) (l : List P2) (w : World) (h0 : 0 < n) (hl : n ≤ 1000000) (hw : Pts w b off n l) (hp : polyI l = 0) (hB : 0 < (normB l).length) :
    Calls Tryz.prog 50 #[.slice (some ⟨b, off, none⟩) n c] w fun en w' => ∃ g cap, en = .returned (.tuple #[.slice (some ⟨g, 0, none⟩) (normB l).length cap, .int .i64 0]) ∧ w'.ownsRow w.heap.size 23 2 (.slice (some ⟨g, 0, none⟩) (normB l).length cap) (normB l).length (ptCells (normL l)) ∧ New w w' := by
  have HN := Lib.hid hw.1
  have HW := Lib.hid hw
  have HP := Lib.hid (checkPoly_c b off n c l w h0 hl hw)
  have HPZ := Lib.hid hp
  have hbd := bdL_of_ok (ckPts_zero (polyI_ok hp).1).2
  have HBD := Lib.hid hbd
  have hle : (normB l).length ≤ 1000000 := by have := bendsTo_le l l.length l.length; rw [HN.out] at this; unfold normB; rw [HN.out]; omega
  have HB := Lib.hid (show normB l = bendsTo l n n by unfold normB; rw [HN.out])
  clear hp hw hbd
  generalize hm : (normB l).length = m at *
  have HM := Lib.hid hm
  clear hm
  go_enter Tryz.func50, Tryz.ntmps50
  go_wp2_with (first | (go_at_call 44; refine HP.out.mono ?_; rintro e w2 ⟨rfl, hn2⟩; rw [HPZ.out]; have HN2 := Lib.hid hn2; clear hn2))
  refine (bends_c _ _ _ _ l _ hl (HW.out.new HN2.out) HBD.out).mono ?_
  rintro e w3 ⟨v3, rfl, ho3, hn3⟩
  rw [← HB.out, HM.out] at ho3
  have HN3 := Lib.hid (HN2.out.trans hn3)
  rcases ho3.2 with ⟨_, hz⟩ | ⟨g3, cap3, cur3, rfl, hg3⟩
  · exact absurd hz (by omega)
  have HP3 := Lib.hid (pts_own ho3 HM.out)
  have hc3 : m ≤ cap3 := hg3.2.2.1
  clear hg3 hn3 ho3
  by_cases hs : areaI (normB l) < 0
  · have HC : normC l = revTo (normB l) m m := by unfold normC; rw [if_pos hs, HM.out]
    go_wp2_with (first | (go_at_call 46; refine (area2_c _ _ _ _ (normB l) _ hB hle HP3.out).mono ?_; rintro e w4 ⟨rfl, hn4⟩; have HN4 := Lib.hid hn4; clear hn4))
    refine (backwards_c _ _ _ _ (normB l) _ hB hle (HP3.out.new HN4.out)).mono ?_
    rintro e w5 ⟨g5, cap5, rfl, ho5, hn5⟩
    have HN5 := Lib.hid (HN3.out.trans (HN4.out.trans hn5))
    have HP5 := Lib.hid (pts_own ho5 (revTo_length _ _ _))
    have hc5 : m ≤ cap5 := by
      rcases ho5.2 with ⟨h, _⟩ | ⟨g, cap, cur, h, _, _, h3, _⟩
      · cases h
      · injection h with _ _ h4; omega
    have HCC := Lib.hid HC
    clear HC ho5 hn5
    generalize hrev : revTo (normB l) m m = CC at *
    have HREV := Lib.hid hrev
    clear hrev
    go_wp2_with (first | (go_at_call 115; refine (leastAt_c _ _ _ _ CC _ hB hle HP5.out).mono ?_; rintro e w6 ⟨rfl, hn6⟩; have HN6 := Lib.hid hn6; clear hn6) | (go_at_call 114; refine (startingAt_c _ _ _ _ (leastTo CC m) CC _ (leastTo_lt _ _ _ hB (Nat.le_refl _)) hle hc5 (HP5.out.new HN6.out)).mono ?_; rintro e w7 ⟨v7, rfl, ho7, hn7⟩; have HN7 := Lib.hid (HN5.out.trans (HN6.out.trans hn7)); have HO7 := Lib.hid ho7; clear ho7 hn7))
    rcases HO7.out.2 with ⟨_, hz⟩ | ⟨g7, cap7, cur7, rfl, hg7⟩
    · exact absurd hz (by omega)
    clear hg7
    go_ret2
    refine ⟨g7, cap7, rfl, ?_, HN7.out⟩
    have h1 := HO7.out
    have e1 : normL l = rotL CC (leastTo CC m) := by
      rw [normL, show normC l = CC from HCC.out, show CC.length = m by rw [← HREV.out, revTo_length]]
    rw [e1]
    rcases h1 with ⟨ha, hb⟩
    refine ⟨ha, hb.imp (fun h => h) (fun ⟨g, cap, cur, x1, x2, x3⟩ => ⟨g, cap, cur, x1, ?_, x3⟩)⟩
    have q1 := HN5.out.size
    have q2 := HN6.out.size
    omega
  · have HC : normC l = normB l := by unfold normC; rw [if_neg hs]
    have HCC := Lib.hid HC
    clear HC
    generalize hrev : normB l = CC at *
    have HREV := Lib.hid hrev
    clear hrev
    go_wp2_with (first | (go_at_call 46; refine (area2_c _ _ _ _ CC _ hB hle HP3.out).mono ?_; rintro e w4 ⟨rfl, hn4⟩; have HN4 := Lib.hid hn4; clear hn4; have HN5 := Lib.hid (HN3.out.trans HN4.out); have HP5 := Lib.hid (HP3.out.new HN4.out)) | (go_at_call 115; refine (leastAt_c _ _ _ _ CC _ hB hle HP5.out).mono ?_; rintro e w6 ⟨rfl, hn6⟩; have HN6 := Lib.hid hn6; clear hn6) | (go_at_call 114; refine (startingAt_c _ _ _ _ (leastTo CC m) CC _ (leastTo_lt _ _ _ hB (Nat.le_refl _)) hle hc3 (HP5.out.new HN6.out)).mono ?_; rintro e w7 ⟨v7, rfl, ho7, hn7⟩; have HN7 := Lib.hid (HN5.out.trans (HN6.out.trans hn7)); have HO7 := Lib.hid ho7; clear ho7 hn7))
    rcases HO7.out.2 with ⟨_, hz⟩ | ⟨g7, cap7, cur7, rfl, hg7⟩
    · exact absurd hz (by omega)
    clear hg7
    go_ret2
    refine ⟨g7, cap7, rfl, ?_, HN7.out⟩
    have h1 := HO7.out
    have e1 : normL l = rotL CC (leastTo CC m) := by
      rw [normL, show normC l = CC from HCC.out, show CC.length = m from HM.out]
    rw [e1]
    rcases h1 with ⟨ha, hb⟩
    refine ⟨ha, hb.imp (fun h => h) (fun ⟨g, cap, cur, x1, x2, x3⟩ => ⟨g, cap, cur, x1, ?_, x3⟩)⟩
    have q1 := HN5.out.size
    have q2 := HN6.out.size
    omega

end Go.Proofs.YtpdfbboagaflhaaGreat
