/- A list of segments that is read: its numbers lie in the cells. -/
import Derived.Test.YtpdfbboagaflhaaGreatS21
import Derived.Deep.RegionHeld3
import Derived.Deep.RegionWith
import Derived.BigRegion
import Derived.LoopTactic
import Derived.Deep.AppendLies
import Derived.Deep.RegionLaw
import Derived.Test.YtpdfbboagaflhaaGreatS22
import Derived.Test.YtpdfbboagaflhaaGreatM51
import Derived.Deep.Slices

set_option linter.unusedSimpArgs false
set_option linter.unusedVariables false
set_option maxRecDepth 100000
namespace Go.Proofs.YtpdfbboagaflhaaGreat
open Go.RowKit

/-- a result that is a list of points -/
def PtsR (w : World) (v : Value) (R : List P2) : Prop := ∃ av cap, v = .slice av R.length cap ∧ ((0 < R.length → ∃ g, av = some ⟨g, 0, none⟩ ∧ Pts w g 0 R.length R) ∧ R.length ≤ cap)
theorem PtsR.new {w w' : World} {v : Value} {R : List P2} (h : PtsR w v R) (hn : New w w') : PtsR w' v R := by
  obtain ⟨av, cap, h1, h2, h5⟩ := h
  exact ⟨av, cap, h1, fun h0 => by obtain ⟨g, h3, h4⟩ := h2 h0; exact ⟨g, h3, h4.new hn⟩, h5⟩

set_option maxHeartbeats 2000000 in
theorem move1_c (x y dx dy : Int) (B1 B2 : Nat) (w : World) (hx : 0 ≤ x ∧ x ≤ 10000) (hy : 0 ≤ y ∧ y ≤ 10000) (h1 : -20000 ≤ dx ∧ dx ≤ 20000) (h2 : -20000 ≤ dy ∧ dy ≤ 20000) (c1 : w.cell? ⟨B1, 0, none⟩ = some (.int .i64 dx)) (c2 : w.cell? ⟨B2, 0, none⟩ = some (.int .i64 dy)) (b1 : B1 < w.heap.size) (b2 : B2 < w.heap.size) :
    Calls Tryz.prog 159 #[pv x y, .pointer (some ⟨B1, 0, none⟩), .pointer (some ⟨B2, 0, none⟩)] w fun en w' => en = .returned (pv (x + dx) (y + dy)) ∧ New w w' := by
  have b3 : B1 < w.heap.size + 1 := by omega
  have b4 : B2 < w.heap.size + 1 := by omega
  have b5 : B1 < w.heap.size + 1 + 1 := by omega
  have b6 : B2 < w.heap.size + 1 + 1 := by omega
  go_enter Tryz.func159, Tryz.ntmps159
  go_wp2_with fail
  all_goals (refine bodyPost_ret (v := pv (x + dx) (y + dy)) (by simp [results, Tryz.results159, go_sem]) rfl ⟨rfl, ?_⟩; (repeat (first | exact New.refl _ | apply New.alloc | apply New.aft | apply New.drew | refine New.setCell ?_ ?_ _)); all_goals (first | done | (simp [size_aft]; done) | (simp [size_aft]; omega)))
set_option maxHeartbeats 2000000 in
theorem mirror1_c (x y dx : Int) (B1 : Nat) (w : World) (hx : 0 ≤ x ∧ x ≤ 10000) (hy : 0 ≤ y ∧ y ≤ 10000) (h1 : -20000 ≤ dx ∧ dx ≤ 20000) (c1 : w.cell? ⟨B1, 0, none⟩ = some (.int .i64 dx)) (b1 : B1 < w.heap.size) :
    Calls Tryz.prog 161 #[pv x y, .pointer (some ⟨B1, 0, none⟩)] w fun en w' => en = .returned (pv (dx - x) y) ∧ New w w' := by
  have b3 : B1 < w.heap.size + 1 := by omega
  have b5 : B1 < w.heap.size + 1 + 1 := by omega
  go_enter Tryz.func161, Tryz.ntmps161
  go_wp2_with fail
  all_goals (refine bodyPost_ret (v := pv (dx - x) y) (by simp [results, Tryz.results161, go_sem]) rfl ⟨rfl, ?_⟩; (repeat (first | exact New.refl _ | apply New.alloc | apply New.aft | apply New.drew | refine New.setCell ?_ ?_ _)); all_goals (first | done | (simp [size_aft]; done) | (simp [size_aft]; omega)))
set_option maxHeartbeats 2000000 in
theorem enlarge1_c (x y k : Int) (B1 : Nat) (w : World) (hx : 0 ≤ x ∧ x ≤ 10000) (hy : 0 ≤ y ∧ y ≤ 10000) (h1 : -20000 ≤ k ∧ k ≤ 20000) (c1 : w.cell? ⟨B1, 0, none⟩ = some (.int .i64 k)) (b1 : B1 < w.heap.size) :
    Calls Tryz.prog 162 #[pv x y, .pointer (some ⟨B1, 0, none⟩)] w fun en w' => en = .returned (pv (x * k) (y * k)) ∧ New w w' := by
  have m1 := mul_bd x k 10000 20000 (by omega) (by omega) (by omega) (by omega)
  have m2 := mul_bd y k 10000 20000 (by omega) (by omega) (by omega) (by omega)
  simp only [Int.reduceMul, Int.reduceNeg] at m1 m2
  have b3 : B1 < w.heap.size + 1 := by omega
  have b5 : B1 < w.heap.size + 1 + 1 := by omega
  go_enter Tryz.func162, Tryz.ntmps162
  go_wp2_with fail
  all_goals (refine bodyPost_ret (v := pv (x * k) (y * k)) (by simp [results, Tryz.results162, go_sem]) rfl ⟨rfl, ?_⟩; (repeat (first | exact New.refl _ | apply New.alloc | apply New.aft | apply New.drew | refine New.setCell ?_ ?_ _)); all_goals (first | done | (simp [size_aft]; done) | (simp [size_aft]; omega)))

set_option maxHeartbeats 4000000 in
theorem samePoints_c (v u : Value) (R : List P2) (w : World) (hl : R.length ≤ 1000000) (hv : PtsR w v R) (hu : PtsR w u R) : Calls Tryz.prog 52 #[v, u] w fun en w' => en = .returned (.bool true) ∧ New w w' := by
  obtain ⟨av, cv, rfl, hv, _⟩ := hv
  obtain ⟨au, cu, rfl, hu, _⟩ := hu
  by_cases h0 : 0 < R.length
  · obtain ⟨g, rfl, _, hg1, hg2⟩ := hv h0
    obtain ⟨g', rfl, _, hg3, hg4⟩ := hu h0
    generalize R.length = n at *
    have t0 : ((n : Int) != (n : Int)) = false := by simp
    clear hv hu
    go_enter Tryz.func52, Tryz.ntmps52
    go_wp2_with fail
    go_loopw [5] (fun i wr => ∃ k : Nat, k ≤ n ∧ i = .int .i64 k ∧ New w wr) (fun i _ => n - (intOf i).toNat)
    case atStart => exact ⟨0, Nat.zero_le _, rfl, New.refl _⟩
    case round =>
      obtain ⟨k, hk, rfl, pr, rfl⟩ := hrel
      by_cases hlt : k < n
      · obtain ⟨c1, c2⟩ := hg2 k hlt
        obtain ⟨d1, d2⟩ := hg4 k hlt
        simp only [Nat.zero_add] at c1 c2 d1 d2
        have hkn : (k : Int) < (n : Int) := by omega
        clear hg2 hg4
        generalize px R k = X at *
        generalize py R k = Y at *
        have e1 : (X == X) = true := by simp
        have e2 : (Y == Y) = true := by simp
        go_wp2_with fail
        first | refine wp_region_at2 (by kernel_rfl) (by kernel_rfl) ?_ | refine wp_region_at (by kernel_rfl) (by kernel_rfl) ?_
        repeat (go_big_quiet_step (fail))
        refine wpQuiet_nil ?_
        rintro _ ⟨q, rfl⟩
        go_wp2_with fail
        go_roundw
        case rel => exact ⟨k + 1, by omega, by go_num, by (repeat (first | exact New.refl _ | apply New.alloc | apply New.aft | apply New.drew | refine New.setCell ?_ ?_ _)); all_goals (first | done | (simp [size_aft]; done) | (simp [size_aft]; omega))⟩
        case measure => simp [intOf]; omega
      · go_wp2_with fail
        go_ret
        exact ⟨rfl, by (repeat (first | exact New.refl _ | apply New.alloc | apply New.aft | apply New.drew | refine New.setCell ?_ ?_ _)); all_goals (first | done | (simp [size_aft]; done) | (simp [size_aft]; omega))⟩
  · have h1 : R.length = 0 := by omega
    rw [h1]
    clear hv hu
    go_enter Tryz.func52, Tryz.ntmps52
    go_wp2_with fail
    refine wp_loop_rounds 1 ?_
    repeat any_goals (rw [rounds_succ]; go_wp2)
    go_ret; exact ⟨rfl, New.refl _⟩

/-- a slice of points, nil or not -/
def PtsA (w : World) (av : Option Addr) (n : Nat) (l : List P2) : Prop := l.length = n ∧ (0 < n → ∃ b off, av = some ⟨b, off, none⟩ ∧ Pts w b off n l)
theorem PtsA.new {w w' : World} {av : Option Addr} {n : Nat} {l : List P2} (h : PtsA w av n l) (hn : New w w') : PtsA w' av n l :=
  ⟨h.1, fun h0 => by obtain ⟨b, off, h1, h2⟩ := h.2 h0; exact ⟨b, off, h1, h2.new hn⟩⟩
theorem PtsR.nil (w : World) : PtsR w (.slice none 0 0) [] := ⟨none, 0, rfl, fun h => absurd h (by simp), Nat.le_refl _⟩
theorem PtsR.own {w : World} {B : Nat} {v : Value} {R : List P2} (h : w.ownsRow B 23 2 v R.length (ptCells R)) : PtsR w v R := by
  have h0 := h
  obtain ⟨h1, h2⟩ := h
  rcases h2 with ⟨rfl, h3⟩ | ⟨g, cap, cur, rfl, hg⟩
  · exact ⟨none, 0, by rw [h3], fun hh => absurd hh (by omega), by omega⟩
  · exact ⟨_, cap, rfl, fun _ => ⟨g, rfl, pts_own h0 rfl⟩, hg.2.2.1⟩

end Go.Proofs.YtpdfbboagaflhaaGreat

set_option linter.unusedSimpArgs false
set_option linter.unusedVariables false
set_option maxRecDepth 100000
namespace Go.Proofs.YtpdfbboagaflhaaGreat
open Go.RowKit

theorem made_pts (n : Nat) : (madeCells (.agg #[.int .i64 0, .int .i64 0] : Value).cells (n * 2)).toList = ptCells (List.replicate n (0, 0)) := by
  have h1 : ∀ n : Nat, ptCells (List.replicate n (0, 0)) = List.replicate (n * 2) (.int .i64 0) := by
    intro n
    induction n with
    | zero => rfl
    | succ n ih =>
      rw [List.replicate_succ, show ptCells ((0, 0) :: List.replicate n (0, 0)) = [.int .i64 0, .int .i64 0] ++ ptCells (List.replicate n (0, 0)) by simp [ptCells], ih, show (n + 1) * 2 = n * 2 + 1 + 1 by omega, List.replicate_succ, List.replicate_succ]
      rfl
  rw [h1]
  unfold madeCells
  rw [Array.toList_map, List.eq_replicate_iff]
  refine ⟨by simp, fun v hv => ?_⟩
  rw [List.mem_map] at hv
  obtain ⟨i, _, rfl⟩ := hv
  have : i % 2 = 0 ∨ i % 2 = 1 := by omega
  rcases this with h | h <;> simp [h, Value.cells]
theorem own_made {w : World} (n : Nat) (h : n ≤ maxLen) : (w.alloc (.cells (madeCells (.agg #[.int .i64 0, .int .i64 0] : Value).cells (n * 2)) 23)).ownsRow w.heap.size 23 2 (.slice (some ⟨w.heap.size, 0, none⟩) n n) n (ptCells (List.replicate n (0, 0))) := by
  refine own_mk (by rw [ptCells_length, List.length_replicate]) (Nat.le_refl _) (heap_alloc_new _ _) (Nat.le_refl _) h (by rw [size_madeCells]) ?_
  rw [made_pts, List.take_of_length_le (by rw [ptCells_length, List.length_replicate]; exact Nat.le_refl _)]

/-- a list as a result, and no error -/
def ListR (w w' : World) (en : Ending) (R : List P2) : Prop := ∃ v, en = .returned (.tuple #[v, .int .i64 0]) ∧ PtsR w' v R ∧ New w w'

set_option maxHeartbeats 4000000 in
theorem ref_normal_no (b off n c : Nat) (l : List P2) (w : World) (h0 : 0 < n) (hl : n ≤ 1000000) (hw : Pts w b off n l) (hp : polyI l ≠ 0) :
    Calls Tryz.prog 51 #[.slice (some ⟨b, off, none⟩) n c] w fun en w' => en = .returned (.tuple #[.slice none 0 0, .int .i64 (polyI l)]) ∧ New w w' := by
  have HP := Lib.hid (ref_checkPoly b off n c l w h0 hl hw)
  have hq1 : (polyI l == 0) = false := by simpa using hp
  have hq2 : (polyI l != 0) = true := by simpa using hp
  clear hp hw
  go_enter Tryz.func51, Tryz.ntmps51
  go_wp2_with (go_at_call 45; refine HP.out.mono ?_; rintro e w2 ⟨rfl, hn2⟩; have HN2 := Lib.hid hn2; clear hn2)
  go_ret2
  exact ⟨rfl, HN2.out⟩

theorem lessB_ltP (l : List P2) (i j : Nat) : lessB (px l i) (py l i) (px l j) (py l j) = ltP l i j := by
  unfold lessB ltP
  rw [decide_eq_decide, orI_lt]
theorem tm_nat (a k : Nat) (x : Int) (h : x = (a : Int)) : x.tmod (k : Int) = ((a % k : Nat) : Int) := by
  rw [h, Int.tmod_eq_emod_of_nonneg (by omega), ← Int.natCast_emod]
/-- how far the first list is filled -/
def Filled (A m : List P2) (n k : Nat) : Prop := m.length = n ∧ ∀ j, j < k → px m j = px A j ∧ py m j = py A j
theorem filled_set {A m : List P2} {n k : Nat} (h : Filled A m n k) (hk : k < n) : Filled A (m.set k (px A k, py A k)) n (k + 1) := by
  refine ⟨by rw [List.length_set]; exact h.1, fun j hj => ?_⟩
  by_cases e : j = k
  · subst e
    simp [px, py, List.getD_eq_getElem?_getD, h.1, hk]
  · have := h.2 j (by omega)
    simp only [px, py, List.getD_eq_getElem?_getD] at *
    rw [List.getElem?_set_ne (by omega)]
    exact this
theorem filled_all {A m : List P2} {n : Nat} (h : Filled A m n n) (hA : A.length = n) : m = A := by
  apply List.ext_getElem (by rw [h.1, hA])
  intro i h1 h2
  have := h.2 i (by rw [← h.1]; exact h1)
  rw [← ptAt_get m i h1, ← ptAt_get A i h2]
  exact Prod.ext this.1 this.2

set_option maxHeartbeats 16000000 in
theorem ref_normal_yes (b off n c : Nat) (l : List P2) (w : World) (h0 : 0 < n) (hw : Pts w b off n l) (hp : polyI l = 0) :
    Calls Tryz.prog 51 #[.slice (some ⟨b, off, none⟩) n c] w fun en w' => ListR w w' en (refN l) := by
  obtain ⟨i0, hi, hz0, hz1, hz2⟩ := info_parts info23
  obtain ⟨g1, g2, g3, g4⟩ := polyI_ok hp
  obtain ⟨g5, g6⟩ := ckPts_zero g1
  have hn2 : n ≤ 200 := by rw [hw.1] at g5; omega
  have HW := Lib.hid hw
  have HN := Lib.hid hw.1
  have HP := Lib.hid (ref_checkPoly b off n c l w h0 (by omega) hw)
  rw [hp] at HP
  have HAR := Lib.hid (fun (w1 : World) (h1 : New w w1) => ref_area2 b off n c l w1 (by omega) (HW.out.new h1))
  have hAl : (refA l).length = n := by unfold refA; split <;> simp [hw.1]
  have hAv : ∀ i, i < n → (areaI l < 0 → px (refA l) i = px l (n - 1 - i) ∧ py (refA l) i = py l (n - 1 - i)) ∧ (¬ areaI l < 0 → px (refA l) i = px l i ∧ py (refA l) i = py l i) := fun i hi => by
    unfold refA
    refine ⟨fun h => ?_, fun h => ?_⟩
    · rw [if_pos h, ← hw.1]; exact rev_px l i (by rw [hw.1]; exact hi)
    · rw [if_neg h]; exact ⟨rfl, rfl⟩
  have HAV := Lib.hid hAv
  have HAL := Lib.hid hAl
  have HAB := Lib.hid (show ∀ i, i < n → (0 ≤ px (refA l) i ∧ px (refA l) i ≤ 10000) ∧ (0 ≤ py (refA l) i ∧ py (refA l) i ≤ 10000) from fun i hi => by
    have b1 := okL_bd g6 i
    have b2 := okL_bd g6 (n - 1 - i)
    have h := hAv i hi
    by_cases hs : areaI l < 0
    · have := h.1 hs; omega
    · have := h.2 hs; omega)
  have HRN := Lib.hid (show refN l = normB (rotL (refA l) (leastTo (refA l) n)) by unfold refN; rw [hAl])
  generalize refA l = A at *
  clear hw hp g1 g2 g3 g4 g5 g6 hAl hAv
  have hmk : ∀ w : World, (Instr.makeSlice 40 (.int .i64 (n : Int)) (.int .i64 (n : Int))).run Tryz.prog w = .ok (.slice (some ⟨w.heap.size, 0, none⟩) n n) (w.alloc (.cells (madeCells (.agg #[.int .i64 0, .int .i64 0] : Value).cells (n * 2)) 23)) := by
    intro w
    have := run_make (P := Tryz.prog) w 40 23 i0 _ Tryz.underlying40 hi hz0 .i64 .i64 n n (by omega) (by omega) (by rw [hz2]; omega) (by omega)
    rw [hz1] at this
    simpa using this
  go_enter Tryz.func51, Tryz.ntmps51
  go_wp2_with (go_at_call 45; refine HP.out.mono ?_; rintro e w1 ⟨rfl, hn1⟩; have HN1 := Lib.hid hn1; clear hn1)
  go_loopw [7] (fun i wr => ∃ (k : Nat) (m : List P2), k ≤ n ∧ i = .int .i64 k ∧ Filled A m n k ∧ wr.ownsRow w1.heap.size 23 2 (.slice (some ⟨w1.heap.size, 0, none⟩) n n) n (ptCells m) ∧ New w1 wr) (fun i _ => n - (intOf i).toNat)
  case atStart => exact ⟨0, _, Nat.zero_le _, rfl, ⟨by rw [List.length_replicate], fun j hj => absurd hj (Nat.not_lt_zero _)⟩, own_made n (by unfold maxLen; omega), (New.refl _).alloc _⟩
  case round =>
    obtain ⟨k, m, hk, rfl, hfil, hown, hnew⟩ := hrel
    have HFIL := Lib.hid hfil
    have HO := Lib.hid hown
    have HNEW := Lib.hid hnew
    clear hfil hown hnew
    by_cases hlt : k < n
    · obtain ⟨_, hb2, hcell⟩ := HW.out.new (HN1.out.trans HNEW.out)
      obtain ⟨c1, c2⟩ := hcell k hlt
      clear hcell
      have hkn : (k : Int) < (n : Int) := by omega
      obtain ⟨⟨p1, p2⟩, pf⟩ := own_pt HO.out HFIL.out.1 hlt
      have hgl := (HO.out.lt w1.heap.size rfl).2
      have HAVk := Lib.hid (HAV.out k hlt)
      have hGe : w1.heap.size < wr.heap.size := hgl
      have HFS := Lib.hid (filled_set HFIL.out hlt)
      have hwA : IntKind.i64.wrap ((n : Int) - 1) = (n : Int) - 1 := IntWalk.i64_in _ (by omega)
      have hwB : IntKind.i64.wrap ((n : Int) - 1 - (k : Int)) = (n : Int) - 1 - (k : Int) := IntWalk.i64_in _ (by omega)
      have hq1 : ((n : Int) - 1 - (k : Int)).toNat = n - 1 - k := by omega
      have hq2 : (0 : Int) ≤ (n : Int) - 1 - (k : Int) := by omega
      have hq3 : (n : Int) - 1 - (k : Int) < (n : Int) := by omega
      obtain ⟨wo, rfl⟩ : ∃ wo : World, wo = wr := ⟨_, rfl⟩
      generalize areaI l = S at *
      by_cases hs : S < 0
      · obtain ⟨ax, ay⟩ := HAVk.out.1 (by omega)
        go_wp2_with (go_at_call 47; refine (HAR.out _ (HN1.out.trans (by (repeat (first | exact HNEW.out | exact New.refl _ | apply New.alloc | apply New.aft | apply New.drew | refine New.setCell ?_ ?_ _)); all_goals (first | done | (simp [size_aft]; done) | (simp [size_aft]; omega))))).mono ?_; rintro e w2 ⟨rfl, hn⟩; have HO2 := Lib.hid (own_new (own_setPt HO.out k (px l k) (py l k)) hn); have HN2 := Lib.hid (New.trans (by (repeat (first | exact HNEW.out | exact New.refl _ | apply New.alloc | apply New.aft | apply New.drew | refine New.setCell ?_ ?_ _)); all_goals (first | done | (simp [size_aft]; done) | (simp [size_aft]; omega))) hn : New w1 w2); obtain ⟨_, hb4, hc4⟩ := HW.out.new (HN1.out.trans HN2.out); obtain ⟨c5, c6⟩ := hc4 (n - 1 - k) (by omega); obtain ⟨⟨p3, p4⟩, pf2⟩ := own_pt HO2.out (by rw [List.length_set]; exact HFIL.out.1) hlt; have hgl2 := (HO2.out.lt w1.heap.size rfl).2; clear hc4 hn)
        go_roundw
        case rel => exact ⟨k + 1, m.set k (px A k, py A k), by omega, by go_num, HFS.out, by have := own_setPt HO2.out k (px l (n - 1 - k)) (py l (n - 1 - k)); rw [List.set_set] at this; rw [ax, ay]; exact this, (by (repeat (first | exact HN2.out | exact New.refl _ | apply New.alloc | apply New.aft | apply New.drew | refine New.setCell ?_ ?_ _)); all_goals (first | done | (simp [size_aft]; done) | (simp [size_aft]; omega)))⟩
        case measure => simp [intOf]; omega
      · obtain ⟨ax, ay⟩ := HAVk.out.2 (by omega)
        go_wp2_with (go_at_call 47; refine (HAR.out _ (HN1.out.trans (by (repeat (first | exact HNEW.out | exact New.refl _ | apply New.alloc | apply New.aft | apply New.drew | refine New.setCell ?_ ?_ _)); all_goals (first | done | (simp [size_aft]; done) | (simp [size_aft]; omega))))).mono ?_; rintro e w2 ⟨rfl, hn⟩; have HO2 := Lib.hid (own_new (own_setPt HO.out k (px l k) (py l k)) hn); have HN2 := Lib.hid (New.trans (by (repeat (first | exact HNEW.out | exact New.refl _ | apply New.alloc | apply New.aft | apply New.drew | refine New.setCell ?_ ?_ _)); all_goals (first | done | (simp [size_aft]; done) | (simp [size_aft]; omega))) hn : New w1 w2); clear hn)
        go_roundw
        case rel => exact ⟨k + 1, m.set k (px A k, py A k), by omega, by go_num, HFS.out, by rw [ax, ay]; exact HO2.out, HN2.out⟩
        case measure => simp [intOf]; omega
    · have hkn : ¬ (k : Int) < (n : Int) := by omega
      obtain rfl : k = n := by omega
      have hmA := filled_all HFIL.out HAL.out
      rw [hmA] at HO
      have HPA := Lib.hid (pts_own HO.out HAL.out)
      obtain ⟨wl, rfl⟩ : ∃ wl : World, wl = wr := ⟨_, rfl⟩
      have HNL := Lib.hid (HN1.out.trans HNEW.out)
      clear hmA HFIL HAV HAR HP HW
      generalize hG : w1.heap.size = G at *
      clear hG
      go_wp2_with fail
      go_loopw [8, 9] (fun v i wr => ∃ j : Nat, j ≤ k ∧ i = .int .i64 j ∧ v = .int .i64 (leastTo A j : Nat) ∧ New wl wr) (fun _ i _ => k - (intOf i).toNat)
      case atStart => exact ⟨0, Nat.zero_le _, rfl, rfl, New.refl _⟩
      case round =>
        obtain ⟨j, hj, rfl, rfl, pr, rfl⟩ := hrel
        by_cases hjn : j < k
        · have hjn2 : (j : Int) < (k : Int) := by omega
          obtain ⟨_, hb2, hcell⟩ := HPA.out
          have hlt2 : leastTo A j < k := by
            by_cases e : j = 0
            · subst e; show 0 < k; omega
            · have := (least_spec A j (by omega)).1; omega
          obtain ⟨c1, c2⟩ := hcell j hjn
          obtain ⟨c3, c4⟩ := hcell (leastTo A j) hlt2
          simp only [Nat.zero_add] at c1 c2 c3 c4
          have HLS := Lib.hid (fun w1 : World => ref_less (px A j) (py A j) (px A (leastTo A j)) (py A (leastTo A j)) w1)
          rw [lessB_ltP] at HLS
          have hlo : leastTo A (j + 1) = if ltP A j (leastTo A j) = true then j else leastTo A j := rfl
          have hl2 : (leastTo A j : Int) < (k : Int) := by omega
          clear hcell
          generalize px A j = X at *
          generalize py A j = Y at *
          generalize px A (leastTo A j) = LX at *
          generalize py A (leastTo A j) = LY at *
          cases hp : ltP A j (leastTo A j)
          · rw [hp] at HLS hlo
            have HLO := Lib.hid hlo
            clear hlo hp
            generalize leastTo A j = f at *
            go_wp2_with fail
            first | refine wp_region_at2 (by kernel_rfl) (by kernel_rfl) ?_ | refine wp_region_at (by kernel_rfl) (by kernel_rfl) ?_
            repeat (go_big_quiet_step (first | (go_at_call 116; (with_reducible exact calls_new (HLS.out _)))))
            refine wpQuiet_nil ?_
            rintro _ ⟨q0, rfl⟩
            go_wp2_with fail
            go_roundw
            case rel => exact ⟨j + 1, by omega, by go_num, by rw [HLO.out]; rfl, (by (repeat (first | exact New.refl _ | apply New.alloc | apply New.aft | apply New.drew | refine New.setCell ?_ ?_ _)); all_goals (first | done | (simp [size_aft]; done) | (simp [size_aft]; omega)))⟩
            case measure => simp [intOf]; omega
          · rw [hp] at HLS hlo
            have HLO := Lib.hid hlo
            clear hlo hp
            generalize leastTo A j = f at *
            go_wp2_with fail
            first | refine wp_region_at2 (by kernel_rfl) (by kernel_rfl) ?_ | refine wp_region_at (by kernel_rfl) (by kernel_rfl) ?_
            repeat (go_big_quiet_step (first | (go_at_call 116; (with_reducible exact calls_new (HLS.out _)))))
            refine wpQuiet_nil ?_
            rintro _ ⟨q0, rfl⟩
            go_wp2_with fail
            go_roundw
            case rel => exact ⟨j + 1, by omega, by go_num, by rw [HLO.out]; rfl, (by (repeat (first | exact New.refl _ | apply New.alloc | apply New.aft | apply New.drew | refine New.setCell ?_ ?_ _)); all_goals (first | done | (simp [size_aft]; done) | (simp [size_aft]; omega)))⟩
            case measure => simp [intOf]; omega
        · have hjn2 : ¬ (j : Int) < (k : Int) := by omega
          have HJE := Lib.hid (show leastTo A j = leastTo A k by rw [show j = k by omega])
          have hfk : leastTo A j < k := by rw [HJE.out]; exact (least_spec A k h0).1
          have HRN2 := Lib.hid (show refN l = normB (rotL A (leastTo A j)) by rw [HRN.out, HJE.out])
          generalize leastTo A j = f at *
          have hBl := rotL_len A f (by rw [HAL.out]; omega)
          rw [HAL.out] at hBl
          have HBX := Lib.hid (show ∀ i, i < k → px (rotL A f) i = px A ((f + i) % k) ∧ py (rotL A f) i = py A ((f + i) % k) from fun i hi => by
            have := rot_at A f i (by rw [HAL.out]; omega) (by rw [HAL.out]; exact hi)
            rw [HAL.out] at this; exact this)
          have HBL := Lib.hid hBl
          clear hBl
          generalize rotL A f = B at *
          go_wp2_with fail
          go_loopw [11, 12] (fun v i wr => ∃ t : Nat, t ≤ k ∧ i = .int .i64 t ∧ wr.ownsRow wl.heap.size 23 2 v (bendsTo B k t).length (ptCells (bendsTo B k t)) ∧ New wl wr) (fun _ i _ => k - (intOf i).toNat)
          case atStart => exact ⟨0, Nat.zero_le _, rfl, World.ownsRow_nil _ _ _ _, (by (repeat (first | exact New.refl _ | apply New.alloc | apply New.aft | apply New.drew | refine New.setCell ?_ ?_ _)); all_goals (first | done | (simp [size_aft]; done) | (simp [size_aft]; omega)))⟩
          case round =>
            obtain ⟨wt, rfl⟩ : ∃ wt : World, wt = wr := ⟨_, rfl⟩
            obtain ⟨t, ht, rfl, hown, hnew⟩ := hrel
            have HNT := Lib.hid hnew
            have HOT := Lib.hid hown
            have HLE := bendsTo_le B k t
            clear hown hnew
            by_cases htk : t < k
            · have htk2 : (t : Int) < (k : Int) := by omega
              obtain ⟨_, hb2, hcell⟩ := HPA.out.new HNT.out
              have j1 : (f + t) % k < k := Nat.mod_lt _ h0
              have j0 : (f + t + k - 1) % k < k := Nat.mod_lt _ h0
              have j2 : (f + t + 1) % k < k := Nat.mod_lt _ h0
              obtain ⟨c1, c2⟩ := hcell _ j1
              obtain ⟨c3, c4⟩ := hcell _ j0
              obtain ⟨c5, c6⟩ := hcell _ j2
              simp only [Nat.zero_add] at c1 c2 c3 c4 c5 c6
              clear hcell
              have m1 := tm_nat (f + t) k ((f : Int) + (t : Int)) (by omega)
              have m0 := tm_nat (f + t + k - 1) k ((f : Int) + (t : Int) + (k : Int) - 1) (by omega)
              have m2 := tm_nat (f + t + 1) k ((f : Int) + (t : Int) + 1) (by omega)
              have w1' : IntKind.i64.wrap ((f : Int) + (t : Int)) = (f : Int) + (t : Int) := IntWalk.i64_in _ (by omega)
              have w2' : IntKind.i64.wrap ((f : Int) + (t : Int) + (k : Int)) = (f : Int) + (t : Int) + (k : Int) := IntWalk.i64_in _ (by omega)
              have w3' : IntKind.i64.wrap ((f : Int) + (t : Int) + (k : Int) - 1) = (f : Int) + (t : Int) + (k : Int) - 1 := IntWalk.i64_in _ (by omega)
              have w4' : IntKind.i64.wrap ((f : Int) + (t : Int) + 1) = (f : Int) + (t : Int) + 1 := IntWalk.i64_in _ (by omega)
              have hnz : (k = 0) = False := eq_false (by omega)
              have b1 := HAB.out _ j1
              have b0 := HAB.out _ j0
              have b2 := HAB.out _ j2
              have HTT := Lib.hid (show turnAt B k t = turnI (px A ((f + t + k - 1) % k)) (py A ((f + t + k - 1) % k)) (px A ((f + t) % k)) (py A ((f + t) % k)) (px A ((f + t + 1) % k)) (py A ((f + t + 1) % k)) by
                unfold turnAt
                rw [(HBX.out _ (Nat.mod_lt (t + k - 1) h0)).1, (HBX.out _ (Nat.mod_lt (t + k - 1) h0)).2, (HBX.out t htk).1, (HBX.out t htk).2, (HBX.out _ (Nat.mod_lt (t + 1) h0)).1, (HBX.out _ (Nat.mod_lt (t + 1) h0)).2]
                rw [Nat.add_mod_mod, Nat.add_mod_mod, show f + (t + k - 1) = f + t + k - 1 by omega, show f + (t + 1) = f + t + 1 by omega])
              have HTU := Lib.hid (fun w2 : World => ref_turn (px A ((f + t + k - 1) % k)) (py A ((f + t + k - 1) % k)) (px A ((f + t) % k)) (py A ((f + t) % k)) (px A ((f + t + 1) % k)) (py A ((f + t + 1) % k)) w2 (by omega) (by omega) (by omega) (by omega) (by omega) (by omega))
              have HBS := Lib.hid (show bendsTo B k (t + 1) = if turnAt B k t = 0 then bendsTo B k t else bendsTo B k t ++ [(px A ((f + t) % k), py A ((f + t) % k))] by rw [← (HBX.out t htk).1, ← (HBX.out t htk).2]; rfl)
              rw [HTT.out] at HBS
              clear HTT b1 b0 b2
              generalize (f + t + k - 1) % k = i0' at *
              generalize (f + t) % k = i1' at *
              generalize (f + t + 1) % k = i2' at *
              generalize px A i0' = X0 at *
              generalize py A i0' = Y0 at *
              generalize px A i1' = X1 at *
              generalize py A i1' = Y1 at *
              generalize px A i2' = X2 at *
              generalize py A i2' = Y2 at *
              generalize turnI X0 Y0 X1 Y1 X2 Y2 = T at *
              by_cases hT : T = 0
              · subst hT
                have HBE := Lib.hid (show bendsTo B k (t + 1) = bendsTo B k t by rw [HBS.out, if_pos rfl])
                clear HBS
                go_wp2_with (go_at_call 87; refine (HTU.out _).mono ?_; rintro e w3 ⟨rfl, pv3, rfl⟩)
                go_roundw
                case rel => exact ⟨t + 1, by omega, by go_num, by rw [HBE.out]; exact own_new HOT.out (by (repeat (first | exact New.refl _ | apply New.alloc | apply New.aft | apply New.drew | refine New.setCell ?_ ?_ _)); all_goals (first | done | (simp [size_aft]; done) | (simp [size_aft]; omega))), (by (repeat (first | exact HNT.out | exact New.refl _ | apply New.alloc | apply New.aft | apply New.drew | refine New.setCell ?_ ?_ _)); all_goals (first | done | (simp [size_aft]; done) | (simp [size_aft]; omega)))⟩
                case measure => simp [intOf]; omega
              · have t2 : (T == 0) = false := by simpa using hT
                have t3 : (T != 0) = true := by simpa using hT
                have HBE := Lib.hid (show bendsTo B k (t + 1) = bendsTo B k t ++ [(X1, Y1)] by rw [HBS.out, if_neg hT])
                clear HBS hT
                go_wp2_with (first | (go_at_call 87; refine (HTU.out _).mono ?_; rintro e w3 ⟨rfl, pv3, rfl⟩) | (at_builtin; refine wpList_append_lies _ rfl (.tmp 104) (.tmp 106) 40 rfl wl.heap.size 23 i0 _ 2 16 Tryz.underlying40 hi hz0 hz1 hz2 rfl (by omega) u11 (bendsTo B k t).length (ptCells (bendsTo B k t)) rfl ?_ _ 1 1 [.int .i64 X1, .int .i64 Y1] rfl rfl ?_ ?_ (by omega) ?_ ?_ ?_ _ rfl ?_; exact own_new HOT.out (by (repeat (first | exact New.refl _ | apply New.alloc | apply New.aft | apply New.drew | refine New.setCell ?_ ?_ _)); all_goals (first | done | (simp [size_aft]; done) | (simp [size_aft]; omega))); (refine cells_new _ _ _ _ ?_); (simp [go_sem]); (intro u hu; simp at hu; rcases hu with rfl | rfl <;> rfl); (unfold maxLen; omega); omega; (have z1 := HNT.out.size; simp [go_sem, size_aft]; omega); intro g4 cap4 w4 hown4 hgrow4 hor4 hlt4; have HNW4 := Lib.hid (show New wl w4 from new_grown (by (repeat (first | exact HNT.out | exact New.refl _ | apply New.alloc | apply New.aft | apply New.drew | refine New.setCell ?_ ?_ _)); all_goals (first | done | (simp [size_aft]; done) | (simp [size_aft]; omega))) hgrow4 HOT.out); have HO4 := Lib.hid hown4; clear hown4 hgrow4 hor4 hlt4))
                go_roundw
                case rel => exact ⟨t + 1, by omega, by go_num, by rw [HBE.out, ptCells_snoc, List.length_append]; exact HO4.out, HNW4.out⟩
                case measure => simp [intOf]; omega
            · have htk2 : ¬ (t : Int) < (k : Int) := by omega
              have HRE := Lib.hid (show bendsTo B k t = refN l by rw [HRN2.out, show t = k by omega]; unfold normB; rw [HBL.out])
              go_wp2_with fail
              go_ret2
              have h1 := HOT.out
              rw [HRE.out] at h1
              exact ⟨u11, rfl, PtsR.own h1, HNL.out.trans HNT.out⟩

end Go.Proofs.YtpdfbboagaflhaaGreat

set_option linter.unusedSimpArgs false
set_option linter.unusedVariables false
set_option maxRecDepth 100000
namespace Go.Proofs.YtpdfbboagaflhaaGreat
open Go.RowKit

theorem norm_facts {l : List P2} (hp : polyI l = 0) : 0 < (normB l).length ∧ 0 < l.length ∧ l.length ≤ 200 ∧ (normL l).length = (normB l).length ∧ (normL l).length ≤ 200 ∧ 0 < (normL l).length ∧ polyI (normL l) = 0 ∧ normL (normL l) = normL l := by
  have h1 := (area_bends hp).2.1
  obtain ⟨s1, _, _, _, s5, s6, s7⟩ := Geo.norm_self hp
  obtain ⟨hck, h3, _, _⟩ := polyI_ok hp
  have := (ckPts_zero hck).1
  have h4 := normL_length l h1
  exact ⟨h1, by omega, by omega, h4, by omega, by omega, s6, s7⟩
theorem normal_any (b off n c : Nat) (l : List P2) (w : World) (hw : Pts w b off n l) (hp : polyI l = 0) :
    Calls Tryz.prog 50 #[.slice (some ⟨b, off, none⟩) n c] w fun en w' => ListR w w' en (normL l) := by
  obtain ⟨f1, f2, f3, f4, f5, f6, f7⟩ := norm_facts hp
  have e := hw.1
  refine (normal_yes b off n c l w (by omega) (by omega) hw hp f1).mono ?_
  rintro en w' ⟨g, cap, rfl, ho, hn⟩
  refine ⟨_, rfl, PtsR.own (B := w.heap.size) ?_, hn⟩
  rw [f4]; exact ho
theorem ref_normal_any (b off n c : Nat) (l : List P2) (w : World) (hw : Pts w b off n l) (hp : polyI l = 0) :
    Calls Tryz.prog 51 #[.slice (some ⟨b, off, none⟩) n c] w fun en w' => ListR w w' en (normL l) := by
  obtain ⟨f1, f2, f3, f4, f5, f6, f7⟩ := norm_facts hp
  have e := hw.1
  rw [← norm_eq hp]
  exact ref_normal_yes b off n c l w (by omega) hw hp
/-- a list as a result that has points -/
theorem listR_at {w w' : World} {en : Ending} {R : List P2} (h : ListR w w' en R) (h0 : 0 < R.length) : ∃ g cap, en = .returned (.tuple #[.slice (some ⟨g, 0, none⟩) R.length cap, .int .i64 0]) ∧ R.length ≤ cap ∧ Pts w' g 0 R.length R ∧ New w w' := by
  obtain ⟨v, rfl, ⟨av, cap, rfl, hp, hc⟩, hn⟩ := h
  obtain ⟨g, rfl, hg⟩ := hp h0
  exact ⟨g, cap, rfl, hc, hg, hn⟩
theorem normal_nil (v : Option Addr) (c : Nat) (w1 : World) : Calls Tryz.prog 50 #[.slice v 0 c] w1 fun en w' => en = .returned (.tuple #[.slice none 0 0, .int .i64 1]) ∧ New w1 w' := by
  have HC := Lib.hid (fun w1 : World => checkPoly_nil v c w1)
  go_enter Tryz.func50, Tryz.ntmps50
  go_wp2_with (go_at_call 44; refine (HC.out _).mono ?_; rintro e w2 ⟨rfl, hn⟩; have HN1 := Lib.hid hn; clear hn)
  go_ret2; exact ⟨rfl, HN1.out⟩
theorem ref_normal_nil (v : Option Addr) (c : Nat) (w1 : World) : Calls Tryz.prog 51 #[.slice v 0 c] w1 fun en w' => en = .returned (.tuple #[.slice none 0 0, .int .i64 1]) ∧ New w1 w' := by
  have HC := Lib.hid (fun w1 : World => ref_checkPoly_nil v c w1)
  go_enter Tryz.func51, Tryz.ntmps51
  go_wp2_with (go_at_call 45; refine (HC.out _).mono ?_; rintro e w2 ⟨rfl, hn⟩; have HN1 := Lib.hid hn; clear hn)
  go_ret2; exact ⟨rfl, HN1.out⟩


end Go.Proofs.YtpdfbboagaflhaaGreat

set_option linter.unusedSimpArgs false
set_option linter.unusedVariables false
set_option linter.constructorNameAsVariable false
set_option maxRecDepth 100000
namespace Go.Proofs.YtpdfbboagaflhaaGreat
open Go.ChangeShapes Go.WideShapes Go.ChangeAt Go.RowKit Go.Joins Go.Deep

section
variable {H : Type} {enc : TypeId × Value → H} {W : World} {base b0 fuel : Nat} {spare : Nat → Bool} {held : Bool} {v : Value} {d : DataW H} {p : List MemPlace}
theorem sg_trod {cs : List Value} {x : DataW H × List MemPlace} (h : DataW.trod enc Tryz.prog W base spare held fuel 30 cs = some x) :
    ∃ q : S4, cs = [.int .i64 q.1, .int .i64 q.2.1, .int .i64 q.2.2.1, .int .i64 q.2.2.2] := by
  obtain ⟨y0, y1, n, hx, hl, h0, h1⟩ := trod_struct2 Tryz.underlying30 h
  rw [cells_30] at hl
  obtain ⟨c0, c1, c2, c3, rfl⟩ := list_4 hl
  simp only [cells_23, List.drop, List.take] at h0 h1
  obtain ⟨a, b, e0, _, _, _⟩ := pt_trod h0
  obtain ⟨a', b', e1, _, _, _⟩ := pt_trod h1
  simp only [List.cons.injEq, and_true] at e0 e1
  obtain ⟨rfl, rfl⟩ := e0
  obtain ⟨rfl, rfl⟩ := e1
  exact ⟨(a, b, a', b'), rfl⟩
theorem open_segs (hv : Value.okWide Tryz.prog W .any b0 58 v) (h : DataW.Trod enc Tryz.prog W base spare held 58 v d p) :
    ∃ av n cap l, v = .slice av n cap ∧ l.length = n ∧ (0 < n → ∃ b off, av = some ⟨b, off, none⟩ ∧ Segs W b off n l) := by
  obtain ⟨av, n, cap, rfl⟩ := okWide_slice Tryz.underlying58 hv
  obtain ⟨fuel, hf⟩ := h
  rcases open_slice Tryz.underlying58 hf with ⟨hcs, _⟩ | ⟨a, len, cap', m, n', D, Pl, hcs, _, hlc, _, hm, _, hi⟩
  · simp only [Value.cells, List.cons.injEq, Value.slice.injEq, and_true] at hcs
    obtain ⟨rfl, rfl, rfl⟩ := hcs
    exact ⟨none, 0, 0, [], rfl, rfl, fun h => absurd h (by omega)⟩
  · simp only [Value.cells, List.cons.injEq, Value.slice.injEq, and_true] at hcs
    obtain ⟨rfl, rfl, rfl⟩ := hcs
    have hnm : n ≤ m := by rw [hm]; split <;> omega
    have hx : ∀ i, i < n → ∃ q : S4, W.cell? (a.add (i * 4)) = some (.int .i64 q.1) ∧ W.cell? (a.add (i * 4 + 1)) = some (.int .i64 q.2.1) ∧ W.cell? (a.add (i * 4 + 2)) = some (.int .i64 q.2.2.1) ∧ W.cell? (a.add (i * 4 + 3)) = some (.int .i64 q.2.2.2) := fun i hi' => by
      obtain ⟨cs', hc, ht⟩ := hi i (by omega)
      rw [cells_30] at hc
      obtain ⟨q, rfl⟩ := sg_trod ht
      obtain ⟨_, _, hat⟩ := World.cells?_some hc
      have g0 := hat 0 (by omega)
      have g1 := hat 1 (by omega)
      have g2 := hat 2 (by omega)
      have g3 := hat 3 (by omega)
      rw [add_add] at g0 g1 g2 g3
      exact ⟨q, by simpa using g0, by simpa using g1, by simpa using g2, by simpa using g3⟩
    obtain ⟨q, hq⟩ := choose_lt hx
    refine ⟨some a, n, cap, (List.range n).map q, rfl, by simp, fun h0 => ?_⟩
    obtain ⟨b, off, spot⟩ := a
    have hspot : spot = none := by simpa [Addr.add] using World.cell?_spot (hq 0 h0).1
    subst hspot
    have hcell : ∀ i, i < n → W.cell? ⟨b, off + i * 4, none⟩ = some (.int .i64 (q i).1) ∧ W.cell? ⟨b, off + i * 4 + 1, none⟩ = some (.int .i64 (q i).2.1) ∧ W.cell? ⟨b, off + i * 4 + 2, none⟩ = some (.int .i64 (q i).2.2.1) ∧ W.cell? ⟨b, off + i * 4 + 3, none⟩ = some (.int .i64 (q i).2.2.2) := fun i hi' => by
      obtain ⟨k0, k1, k2, k3⟩ := hq i hi'
      rw [add_plain] at k0 k1 k2 k3
      exact ⟨k0, k1, k2, k3⟩
    refine ⟨b, off, rfl, by simp, cell_lt (hcell 0 h0).1, fun i hi' => ?_⟩
    have e1 : q1 ((List.range n).map q) i = (q i).1 := by simp [q1, List.getD_eq_getElem?_getD, hi']
    have e2 : q2 ((List.range n).map q) i = (q i).2.1 := by simp [q2, List.getD_eq_getElem?_getD, hi']
    have e3 : q3 ((List.range n).map q) i = (q i).2.2.1 := by simp [q3, List.getD_eq_getElem?_getD, hi']
    have e4 : q4 ((List.range n).map q) i = (q i).2.2.2 := by simp [q4, List.getD_eq_getElem?_getD, hi']
    rw [e1, e2, e3, e4]
    exact hcell i hi'
end
end Go.Proofs.YtpdfbboagaflhaaGreat
