/- PlaneTriangles returns true for every input, and its arguments read afterwards as before: the given statement, without a condition. -/
import Derived.Test.YtpdfbboagaflhaaGreatS01
import Derived.Deep.RegionHeld3
import Derived.Deep.RegionWith
import Derived.BigRegion
import Derived.LoopTactic
import Derived.Deep.AppendLies
import Derived.Deep.RegionLaw
import Derived.Test.YtpdfbboagaflhaaGreatS02
import Derived.Test.YtpdfbboagaflhaaGreatS03
import Derived.Test.YtpdfbboagaflhaaGreatM51
import Derived.Deep.DeepCutAuto
import Derived.WalkSpells
import Derived.Test.YtpdfbboagaflhaaGreatS10
import Derived.StillTailTactics
import Derived.Test.YtpdfbboagaflhaaGreatRows
import Derived.ProofKit
import Derived.OpenShut
import Derived.Lib.SmallJoins
import Derived.Carry

set_option linter.unusedSimpArgs false
set_option linter.unusedVariables false
set_option maxRecDepth 100000
namespace Go.Proofs.YtpdfbboagaflhaaGreat
open Go.RowKit

/-- a result that is a list of points -/
def PtsR (w : World) (v : Value) (R : List P2) : Prop := ∃ av cap, v = .slice av R.length cap ∧ ((0 < R.length → ∃ g, av = some ⟨g, 0, none⟩ ∧ Pts w g 0 R.length R) ∧ R.length ≤ cap)
theorem PtsR.new {w w' : World} {v : Value} {R : List P2} (h : PtsR w v R) (hn : New w w') : PtsR w' v R := by
  obtain ⟨av, cap, h1, h2, h5⟩ := h
  exact ⟨av, cap, h1, fun h0 => by obtain ⟨g, h3, h4⟩ := h2 h0; exact ⟨g, h3, h4.new hn⟩, h5⟩

set_option maxHeartbeats 2000000 in
theorem move1_c (x y dx dy : Int) (B1 B2 : Nat) (w : World) (hx : 0 ≤ x ∧ x ≤ 10000) (hy : 0 ≤ y ∧ y ≤ 10000) (h1 : -20000 ≤ dx ∧ dx ≤ 20000) (h2 : -20000 ≤ dy ∧ dy ≤ 20000) (c1 : w.cell? ⟨B1, 0, none⟩ = some (.int .i64 dx)) (c2 : w.cell? ⟨B2, 0, none⟩ = some (.int .i64 dy)) (b1 : B1 < w.heap.size) (b2 : B2 < w.heap.size) :
    Calls Tryz.prog 159 #[pv x y, .pointer (some ⟨B1, 0, none⟩), .pointer (some ⟨B2, 0, none⟩)] w fun en w' => en = .returned (pv (x + dx) (y + dy)) ∧ New w w' := by
  have b3 : B1 < w.heap.size + 1 := by omega
  have b4 : B2 < w.heap.size + 1 := by omega
  have b5 : B1 < w.heap.size + 1 + 1 := by omega
  have b6 : B2 < w.heap.size + 1 + 1 := by omega
  go_enter Tryz.func159, Tryz.ntmps159
  go_wp2_with fail
  all_goals (refine bodyPost_ret (v := pv (x + dx) (y + dy)) (by simp [results, Tryz.results159, go_sem]) rfl ⟨rfl, ?_⟩; (repeat (first | exact New.refl _ | apply New.alloc | apply New.aft | apply New.drew | refine New.setCell ?_ ?_ _)); all_goals (first | done | (simp [size_aft]; done) | (simp [size_aft]; omega)))
set_option maxHeartbeats 2000000 in
theorem mirror1_c (x y dx : Int) (B1 : Nat) (w : World) (hx : 0 ≤ x ∧ x ≤ 10000) (hy : 0 ≤ y ∧ y ≤ 10000) (h1 : -20000 ≤ dx ∧ dx ≤ 20000) (c1 : w.cell? ⟨B1, 0, none⟩ = some (.int .i64 dx)) (b1 : B1 < w.heap.size) :
    Calls Tryz.prog 161 #[pv x y, .pointer (some ⟨B1, 0, none⟩)] w fun en w' => en = .returned (pv (dx - x) y) ∧ New w w' := by
  have b3 : B1 < w.heap.size + 1 := by omega
  have b5 : B1 < w.heap.size + 1 + 1 := by omega
  go_enter Tryz.func161, Tryz.ntmps161
  go_wp2_with fail
  all_goals (refine bodyPost_ret (v := pv (dx - x) y) (by simp [results, Tryz.results161, go_sem]) rfl ⟨rfl, ?_⟩; (repeat (first | exact New.refl _ | apply New.alloc | apply New.aft | apply New.drew | refine New.setCell ?_ ?_ _)); all_goals (first | done | (simp [size_aft]; done) | (simp [size_aft]; omega)))
set_option maxHeartbeats 2000000 in
theorem enlarge1_c (x y k : Int) (B1 : Nat) (w : World) (hx : 0 ≤ x ∧ x ≤ 10000) (hy : 0 ≤ y ∧ y ≤ 10000) (h1 : -20000 ≤ k ∧ k ≤ 20000) (c1 : w.cell? ⟨B1, 0, none⟩ = some (.int .i64 k)) (b1 : B1 < w.heap.size) :
    Calls Tryz.prog 162 #[pv x y, .pointer (some ⟨B1, 0, none⟩)] w fun en w' => en = .returned (pv (x * k) (y * k)) ∧ New w w' := by
  have m1 := mul_bd x k 10000 20000 (by omega) (by omega) (by omega) (by omega)
  have m2 := mul_bd y k 10000 20000 (by omega) (by omega) (by omega) (by omega)
  simp only [Int.reduceMul, Int.reduceNeg] at m1 m2
  have b3 : B1 < w.heap.size + 1 := by omega
  have b5 : B1 < w.heap.size + 1 + 1 := by omega
  go_enter Tryz.func162, Tryz.ntmps162
  go_wp2_with fail
  all_goals (refine bodyPost_ret (v := pv (x * k) (y * k)) (by simp [results, Tryz.results162, go_sem]) rfl ⟨rfl, ?_⟩; (repeat (first | exact New.refl _ | apply New.alloc | apply New.aft | apply New.drew | refine New.setCell ?_ ?_ _)); all_goals (first | done | (simp [size_aft]; done) | (simp [size_aft]; omega)))

set_option maxHeartbeats 4000000 in
theorem samePoints_c (v u : Value) (R : List P2) (w : World) (hl : R.length ≤ 1000000) (hv : PtsR w v R) (hu : PtsR w u R) : Calls Tryz.prog 52 #[v, u] w fun en w' => en = .returned (.bool true) ∧ New w w' := by
  obtain ⟨av, cv, rfl, hv, _⟩ := hv
  obtain ⟨au, cu, rfl, hu, _⟩ := hu
  by_cases h0 : 0 < R.length
  · obtain ⟨g, rfl, _, hg1, hg2⟩ := hv h0
    obtain ⟨g', rfl, _, hg3, hg4⟩ := hu h0
    generalize R.length = n at *
    have t0 : ((n : Int) != (n : Int)) = false := by simp
    clear hv hu
    go_enter Tryz.func52, Tryz.ntmps52
    go_wp2_with fail
    go_loopw [5] (fun i wr => ∃ k : Nat, k ≤ n ∧ i = .int .i64 k ∧ New w wr) (fun i _ => n - (intOf i).toNat)
    case atStart => exact ⟨0, Nat.zero_le _, rfl, New.refl _⟩
    case round =>
      obtain ⟨k, hk, rfl, pr, rfl⟩ := hrel
      by_cases hlt : k < n
      · obtain ⟨c1, c2⟩ := hg2 k hlt
        obtain ⟨d1, d2⟩ := hg4 k hlt
        simp only [Nat.zero_add] at c1 c2 d1 d2
        have hkn : (k : Int) < (n : Int) := by omega
        clear hg2 hg4
        generalize px R k = X at *
        generalize py R k = Y at *
        have e1 : (X == X) = true := by simp
        have e2 : (Y == Y) = true := by simp
        go_wp2_with fail
        first | refine wp_region_at2 (by kernel_rfl) (by kernel_rfl) ?_ | refine wp_region_at (by kernel_rfl) (by kernel_rfl) ?_
        repeat (go_big_quiet_step (fail))
        refine wpQuiet_nil ?_
        rintro _ ⟨q, rfl⟩
        go_wp2_with fail
        go_roundw
        case rel => exact ⟨k + 1, by omega, by go_num, by (repeat (first | exact New.refl _ | apply New.alloc | apply New.aft | apply New.drew | refine New.setCell ?_ ?_ _)); all_goals (first | done | (simp [size_aft]; done) | (simp [size_aft]; omega))⟩
        case measure => simp [intOf]; omega
      · go_wp2_with fail
        go_ret
        exact ⟨rfl, by (repeat (first | exact New.refl _ | apply New.alloc | apply New.aft | apply New.drew | refine New.setCell ?_ ?_ _)); all_goals (first | done | (simp [size_aft]; done) | (simp [size_aft]; omega))⟩
  · have h1 : R.length = 0 := by omega
    rw [h1]
    clear hv hu
    go_enter Tryz.func52, Tryz.ntmps52
    go_wp2_with fail
    refine wp_loop_rounds 1 ?_
    repeat any_goals (rw [rounds_succ]; go_wp2)
    go_ret; exact ⟨rfl, New.refl _⟩

/-- a slice of points, nil or not -/
def PtsA (w : World) (av : Option Addr) (n : Nat) (l : List P2) : Prop := l.length = n ∧ (0 < n → ∃ b off, av = some ⟨b, off, none⟩ ∧ Pts w b off n l)
theorem PtsA.new {w w' : World} {av : Option Addr} {n : Nat} {l : List P2} (h : PtsA w av n l) (hn : New w w') : PtsA w' av n l :=
  ⟨h.1, fun h0 => by obtain ⟨b, off, h1, h2⟩ := h.2 h0; exact ⟨b, off, h1, h2.new hn⟩⟩
theorem PtsR.nil (w : World) : PtsR w (.slice none 0 0) [] := ⟨none, 0, rfl, fun h => absurd h (by simp), Nat.le_refl _⟩
theorem PtsR.own {w : World} {B : Nat} {v : Value} {R : List P2} (h : w.ownsRow B 23 2 v R.length (ptCells R)) : PtsR w v R := by
  have h0 := h
  obtain ⟨h1, h2⟩ := h
  rcases h2 with ⟨rfl, h3⟩ | ⟨g, cap, cur, rfl, hg⟩
  · exact ⟨none, 0, by rw [h3], fun hh => absurd hh (by omega), by omega⟩
  · exact ⟨_, cap, rfl, fun _ => ⟨g, rfl, pts_own h0 rfl⟩, hg.2.2.1⟩

end Go.Proofs.YtpdfbboagaflhaaGreat

set_option linter.unusedSimpArgs false
set_option linter.unusedVariables false
set_option maxRecDepth 100000
namespace Go.Proofs.YtpdfbboagaflhaaGreat
open Go.RowKit

theorem made_pts (n : Nat) : (madeCells (.agg #[.int .i64 0, .int .i64 0] : Value).cells (n * 2)).toList = ptCells (List.replicate n (0, 0)) := by
  have h1 : ∀ n : Nat, ptCells (List.replicate n (0, 0)) = List.replicate (n * 2) (.int .i64 0) := by
    intro n
    induction n with
    | zero => rfl
    | succ n ih =>
      rw [List.replicate_succ, show ptCells ((0, 0) :: List.replicate n (0, 0)) = [.int .i64 0, .int .i64 0] ++ ptCells (List.replicate n (0, 0)) by simp [ptCells], ih, show (n + 1) * 2 = n * 2 + 1 + 1 by omega, List.replicate_succ, List.replicate_succ]
      rfl
  rw [h1]
  unfold madeCells
  rw [Array.toList_map, List.eq_replicate_iff]
  refine ⟨by simp, fun v hv => ?_⟩
  rw [List.mem_map] at hv
  obtain ⟨i, _, rfl⟩ := hv
  have : i % 2 = 0 ∨ i % 2 = 1 := by omega
  rcases this with h | h <;> simp [h, Value.cells]
theorem own_made {w : World} (n : Nat) (h : n ≤ maxLen) : (w.alloc (.cells (madeCells (.agg #[.int .i64 0, .int .i64 0] : Value).cells (n * 2)) 23)).ownsRow w.heap.size 23 2 (.slice (some ⟨w.heap.size, 0, none⟩) n n) n (ptCells (List.replicate n (0, 0))) := by
  refine own_mk (by rw [ptCells_length, List.length_replicate]) (Nat.le_refl _) (heap_alloc_new _ _) (Nat.le_refl _) h (by rw [size_madeCells]) ?_
  rw [made_pts, List.take_of_length_le (by rw [ptCells_length, List.length_replicate]; exact Nat.le_refl _)]

/-- a list as a result, and no error -/
def ListR (w w' : World) (en : Ending) (R : List P2) : Prop := ∃ v, en = .returned (.tuple #[v, .int .i64 0]) ∧ PtsR w' v R ∧ New w w'

set_option maxHeartbeats 4000000 in
theorem ref_normal_no (b off n c : Nat) (l : List P2) (w : World) (h0 : 0 < n) (hl : n ≤ 1000000) (hw : Pts w b off n l) (hp : polyI l ≠ 0) :
    Calls Tryz.prog 51 #[.slice (some ⟨b, off, none⟩) n c] w fun en w' => en = .returned (.tuple #[.slice none 0 0, .int .i64 (polyI l)]) ∧ New w w' := by
  have HP := Lib.hid (ref_checkPoly b off n c l w h0 hl hw)
  have hq1 : (polyI l == 0) = false := by simpa using hp
  have hq2 : (polyI l != 0) = true := by simpa using hp
  clear hp hw
  go_enter Tryz.func51, Tryz.ntmps51
  go_wp2_with (go_at_call 45; refine HP.out.mono ?_; rintro e w2 ⟨rfl, hn2⟩; have HN2 := Lib.hid hn2; clear hn2)
  go_ret2
  exact ⟨rfl, HN2.out⟩

theorem lessB_ltP (l : List P2) (i j : Nat) : lessB (px l i) (py l i) (px l j) (py l j) = ltP l i j := by
  unfold lessB ltP
  rw [decide_eq_decide, orI_lt]
theorem tm_nat (a k : Nat) (x : Int) (h : x = (a : Int)) : x.tmod (k : Int) = ((a % k : Nat) : Int) := by
  rw [h, Int.tmod_eq_emod_of_nonneg (by omega), ← Int.natCast_emod]
/-- how far the first list is filled -/
def Filled (A m : List P2) (n k : Nat) : Prop := m.length = n ∧ ∀ j, j < k → px m j = px A j ∧ py m j = py A j
theorem filled_set {A m : List P2} {n k : Nat} (h : Filled A m n k) (hk : k < n) : Filled A (m.set k (px A k, py A k)) n (k + 1) := by
  refine ⟨by rw [List.length_set]; exact h.1, fun j hj => ?_⟩
  by_cases e : j = k
  · subst e
    simp [px, py, List.getD_eq_getElem?_getD, h.1, hk]
  · have := h.2 j (by omega)
    simp only [px, py, List.getD_eq_getElem?_getD] at *
    rw [List.getElem?_set_ne (by omega)]
    exact this
theorem filled_all {A m : List P2} {n : Nat} (h : Filled A m n n) (hA : A.length = n) : m = A := by
  apply List.ext_getElem (by rw [h.1, hA])
  intro i h1 h2
  have := h.2 i (by rw [← h.1]; exact h1)
  rw [← ptAt_get m i h1, ← ptAt_get A i h2]
  exact Prod.ext this.1 this.2

set_option maxHeartbeats 16000000 in
theorem ref_normal_yes (b off n c : Nat) (l : List P2) (w : World) (h0 : 0 < n) (hw : Pts w b off n l) (hp : polyI l = 0) :
    Calls Tryz.prog 51 #[.slice (some ⟨b, off, none⟩) n c] w fun en w' => ListR w w' en (refN l) := by
  obtain ⟨i0, hi, hz0, hz1, hz2⟩ := info_parts info23
  obtain ⟨g1, g2, g3, g4⟩ := polyI_ok hp
  obtain ⟨g5, g6⟩ := ckPts_zero g1
  have hn2 : n ≤ 200 := by rw [hw.1] at g5; omega
  have HW := Lib.hid hw
  have HN := Lib.hid hw.1
  have HP := Lib.hid (ref_checkPoly b off n c l w h0 (by omega) hw)
  rw [hp] at HP
  have HAR := Lib.hid (fun (w1 : World) (h1 : New w w1) => ref_area2 b off n c l w1 (by omega) (HW.out.new h1))
  have hAl : (refA l).length = n := by unfold refA; split <;> simp [hw.1]
  have hAv : ∀ i, i < n → (areaI l < 0 → px (refA l) i = px l (n - 1 - i) ∧ py (refA l) i = py l (n - 1 - i)) ∧ (¬ areaI l < 0 → px (refA l) i = px l i ∧ py (refA l) i = py l i) := fun i hi => by
    unfold refA
    refine ⟨fun h => ?_, fun h => ?_⟩
    · rw [if_pos h, ← hw.1]; exact rev_px l i (by rw [hw.1]; exact hi)
    · rw [if_neg h]; exact ⟨rfl, rfl⟩
  have HAV := Lib.hid hAv
  have HAL := Lib.hid hAl
  have HAB := Lib.hid (show ∀ i, i < n → (0 ≤ px (refA l) i ∧ px (refA l) i ≤ 10000) ∧ (0 ≤ py (refA l) i ∧ py (refA l) i ≤ 10000) from fun i hi => by
    have b1 := okL_bd g6 i
    have b2 := okL_bd g6 (n - 1 - i)
    have h := hAv i hi
    by_cases hs : areaI l < 0
    · have := h.1 hs; omega
    · have := h.2 hs; omega)
  have HRN := Lib.hid (show refN l = normB (rotL (refA l) (leastTo (refA l) n)) by unfold refN; rw [hAl])
  generalize refA l = A at *
  clear hw hp g1 g2 g3 g4 g5 g6 hAl hAv
  have hmk : ∀ w : World, (Instr.makeSlice 40 (.int .i64 (n : Int)) (.int .i64 (n : Int))).run Tryz.prog w = .ok (.slice (some ⟨w.heap.size, 0, none⟩) n n) (w.alloc (.cells (madeCells (.agg #[.int .i64 0, .int .i64 0] : Value).cells (n * 2)) 23)) := by
    intro w
    have := run_make (P := Tryz.prog) w 40 23 i0 _ Tryz.underlying40 hi hz0 .i64 .i64 n n (by omega) (by omega) (by rw [hz2]; omega) (by omega)
    rw [hz1] at this
    simpa using this
  go_enter Tryz.func51, Tryz.ntmps51
  go_wp2_with (go_at_call 45; refine HP.out.mono ?_; rintro e w1 ⟨rfl, hn1⟩; have HN1 := Lib.hid hn1; clear hn1)
  go_loopw [7] (fun i wr => ∃ (k : Nat) (m : List P2), k ≤ n ∧ i = .int .i64 k ∧ Filled A m n k ∧ wr.ownsRow w1.heap.size 23 2 (.slice (some ⟨w1.heap.size, 0, none⟩) n n) n (ptCells m) ∧ New w1 wr) (fun i _ => n - (intOf i).toNat)
  case atStart => exact ⟨0, _, Nat.zero_le _, rfl, ⟨by rw [List.length_replicate], fun j hj => absurd hj (Nat.not_lt_zero _)⟩, own_made n (by unfold maxLen; omega), (New.refl _).alloc _⟩
  case round =>
    obtain ⟨k, m, hk, rfl, hfil, hown, hnew⟩ := hrel
    have HFIL := Lib.hid hfil
    have HO := Lib.hid hown
    have HNEW := Lib.hid hnew
    clear hfil hown hnew
    by_cases hlt : k < n
    · obtain ⟨_, hb2, hcell⟩ := HW.out.new (HN1.out.trans HNEW.out)
      obtain ⟨c1, c2⟩ := hcell k hlt
      clear hcell
      have hkn : (k : Int) < (n : Int) := by omega
      obtain ⟨⟨p1, p2⟩, pf⟩ := own_pt HO.out HFIL.out.1 hlt
      have hgl := (HO.out.lt w1.heap.size rfl).2
      have HAVk := Lib.hid (HAV.out k hlt)
      have hGe : w1.heap.size < wr.heap.size := hgl
      have HFS := Lib.hid (filled_set HFIL.out hlt)
      have hwA : IntKind.i64.wrap ((n : Int) - 1) = (n : Int) - 1 := IntWalk.i64_in _ (by omega)
      have hwB : IntKind.i64.wrap ((n : Int) - 1 - (k : Int)) = (n : Int) - 1 - (k : Int) := IntWalk.i64_in _ (by omega)
      have hq1 : ((n : Int) - 1 - (k : Int)).toNat = n - 1 - k := by omega
      have hq2 : (0 : Int) ≤ (n : Int) - 1 - (k : Int) := by omega
      have hq3 : (n : Int) - 1 - (k : Int) < (n : Int) := by omega
      obtain ⟨wo, rfl⟩ : ∃ wo : World, wo = wr := ⟨_, rfl⟩
      generalize areaI l = S at *
      by_cases hs : S < 0
      · obtain ⟨ax, ay⟩ := HAVk.out.1 (by omega)
        go_wp2_with (go_at_call 47; refine (HAR.out _ (HN1.out.trans (by (repeat (first | exact HNEW.out | exact New.refl _ | apply New.alloc | apply New.aft | apply New.drew | refine New.setCell ?_ ?_ _)); all_goals (first | done | (simp [size_aft]; done) | (simp [size_aft]; omega))))).mono ?_; rintro e w2 ⟨rfl, hn⟩; have HO2 := Lib.hid (own_new (own_setPt HO.out k (px l k) (py l k)) hn); have HN2 := Lib.hid (New.trans (by (repeat (first | exact HNEW.out | exact New.refl _ | apply New.alloc | apply New.aft | apply New.drew | refine New.setCell ?_ ?_ _)); all_goals (first | done | (simp [size_aft]; done) | (simp [size_aft]; omega))) hn : New w1 w2); obtain ⟨_, hb4, hc4⟩ := HW.out.new (HN1.out.trans HN2.out); obtain ⟨c5, c6⟩ := hc4 (n - 1 - k) (by omega); obtain ⟨⟨p3, p4⟩, pf2⟩ := own_pt HO2.out (by rw [List.length_set]; exact HFIL.out.1) hlt; have hgl2 := (HO2.out.lt w1.heap.size rfl).2; clear hc4 hn)
        go_roundw
        case rel => exact ⟨k + 1, m.set k (px A k, py A k), by omega, by go_num, HFS.out, by have := own_setPt HO2.out k (px l (n - 1 - k)) (py l (n - 1 - k)); rw [List.set_set] at this; rw [ax, ay]; exact this, (by (repeat (first | exact HN2.out | exact New.refl _ | apply New.alloc | apply New.aft | apply New.drew | refine New.setCell ?_ ?_ _)); all_goals (first | done | (simp [size_aft]; done) | (simp [size_aft]; omega)))⟩
        case measure => simp [intOf]; omega
      · obtain ⟨ax, ay⟩ := HAVk.out.2 (by omega)
        go_wp2_with (go_at_call 47; refine (HAR.out _ (HN1.out.trans (by (repeat (first | exact HNEW.out | exact New.refl _ | apply New.alloc | apply New.aft | apply New.drew | refine New.setCell ?_ ?_ _)); all_goals (first | done | (simp [size_aft]; done) | (simp [size_aft]; omega))))).mono ?_; rintro e w2 ⟨rfl, hn⟩; have HO2 := Lib.hid (own_new (own_setPt HO.out k (px l k) (py l k)) hn); have HN2 := Lib.hid (New.trans (by (repeat (first | exact HNEW.out | exact New.refl _ | apply New.alloc | apply New.aft | apply New.drew | refine New.setCell ?_ ?_ _)); all_goals (first | done | (simp [size_aft]; done) | (simp [size_aft]; omega))) hn : New w1 w2); clear hn)
        go_roundw
        case rel => exact ⟨k + 1, m.set k (px A k, py A k), by omega, by go_num, HFS.out, by rw [ax, ay]; exact HO2.out, HN2.out⟩
        case measure => simp [intOf]; omega
    · have hkn : ¬ (k : Int) < (n : Int) := by omega
      obtain rfl : k = n := by omega
      have hmA := filled_all HFIL.out HAL.out
      rw [hmA] at HO
      have HPA := Lib.hid (pts_own HO.out HAL.out)
      obtain ⟨wl, rfl⟩ : ∃ wl : World, wl = wr := ⟨_, rfl⟩
      have HNL := Lib.hid (HN1.out.trans HNEW.out)
      clear hmA HFIL HAV HAR HP HW
      generalize hG : w1.heap.size = G at *
      clear hG
      go_wp2_with fail
      go_loopw [8, 9] (fun v i wr => ∃ j : Nat, j ≤ k ∧ i = .int .i64 j ∧ v = .int .i64 (leastTo A j : Nat) ∧ New wl wr) (fun _ i _ => k - (intOf i).toNat)
      case atStart => exact ⟨0, Nat.zero_le _, rfl, rfl, New.refl _⟩
      case round =>
        obtain ⟨j, hj, rfl, rfl, pr, rfl⟩ := hrel
        by_cases hjn : j < k
        · have hjn2 : (j : Int) < (k : Int) := by omega
          obtain ⟨_, hb2, hcell⟩ := HPA.out
          have hlt2 : leastTo A j < k := by
            by_cases e : j = 0
            · subst e; show 0 < k; omega
            · have := (least_spec A j (by omega)).1; omega
          obtain ⟨c1, c2⟩ := hcell j hjn
          obtain ⟨c3, c4⟩ := hcell (leastTo A j) hlt2
          simp only [Nat.zero_add] at c1 c2 c3 c4
          have HLS := Lib.hid (fun w1 : World => ref_less (px A j) (py A j) (px A (leastTo A j)) (py A (leastTo A j)) w1)
          rw [lessB_ltP] at HLS
          have hlo : leastTo A (j + 1) = if ltP A j (leastTo A j) = true then j else leastTo A j := rfl
          have hl2 : (leastTo A j : Int) < (k : Int) := by omega
          clear hcell
          generalize px A j = X at *
          generalize py A j = Y at *
          generalize px A (leastTo A j) = LX at *
          generalize py A (leastTo A j) = LY at *
          cases hp : ltP A j (leastTo A j)
          · rw [hp] at HLS hlo
            have HLO := Lib.hid hlo
            clear hlo hp
            generalize leastTo A j = f at *
            go_wp2_with fail
            first | refine wp_region_at2 (by kernel_rfl) (by kernel_rfl) ?_ | refine wp_region_at (by kernel_rfl) (by kernel_rfl) ?_
            repeat (go_big_quiet_step (first | (go_at_call 116; (with_reducible exact calls_new (HLS.out _)))))
            refine wpQuiet_nil ?_
            rintro _ ⟨q0, rfl⟩
            go_wp2_with fail
            go_roundw
            case rel => exact ⟨j + 1, by omega, by go_num, by rw [HLO.out]; rfl, (by (repeat (first | exact New.refl _ | apply New.alloc | apply New.aft | apply New.drew | refine New.setCell ?_ ?_ _)); all_goals (first | done | (simp [size_aft]; done) | (simp [size_aft]; omega)))⟩
            case measure => simp [intOf]; omega
          · rw [hp] at HLS hlo
            have HLO := Lib.hid hlo
            clear hlo hp
            generalize leastTo A j = f at *
            go_wp2_with fail
            first | refine wp_region_at2 (by kernel_rfl) (by kernel_rfl) ?_ | refine wp_region_at (by kernel_rfl) (by kernel_rfl) ?_
            repeat (go_big_quiet_step (first | (go_at_call 116; (with_reducible exact calls_new (HLS.out _)))))
            refine wpQuiet_nil ?_
            rintro _ ⟨q0, rfl⟩
            go_wp2_with fail
            go_roundw
            case rel => exact ⟨j + 1, by omega, by go_num, by rw [HLO.out]; rfl, (by (repeat (first | exact New.refl _ | apply New.alloc | apply New.aft | apply New.drew | refine New.setCell ?_ ?_ _)); all_goals (first | done | (simp [size_aft]; done) | (simp [size_aft]; omega)))⟩
            case measure => simp [intOf]; omega
        · have hjn2 : ¬ (j : Int) < (k : Int) := by omega
          have HJE := Lib.hid (show leastTo A j = leastTo A k by rw [show j = k by omega])
          have hfk : leastTo A j < k := by rw [HJE.out]; exact (least_spec A k h0).1
          have HRN2 := Lib.hid (show refN l = normB (rotL A (leastTo A j)) by rw [HRN.out, HJE.out])
          generalize leastTo A j = f at *
          have hBl := rotL_len A f (by rw [HAL.out]; omega)
          rw [HAL.out] at hBl
          have HBX := Lib.hid (show ∀ i, i < k → px (rotL A f) i = px A ((f + i) % k) ∧ py (rotL A f) i = py A ((f + i) % k) from fun i hi => by
            have := rot_at A f i (by rw [HAL.out]; omega) (by rw [HAL.out]; exact hi)
            rw [HAL.out] at this; exact this)
          have HBL := Lib.hid hBl
          clear hBl
          generalize rotL A f = B at *
          go_wp2_with fail
          go_loopw [11, 12] (fun v i wr => ∃ t : Nat, t ≤ k ∧ i = .int .i64 t ∧ wr.ownsRow wl.heap.size 23 2 v (bendsTo B k t).length (ptCells (bendsTo B k t)) ∧ New wl wr) (fun _ i _ => k - (intOf i).toNat)
          case atStart => exact ⟨0, Nat.zero_le _, rfl, World.ownsRow_nil _ _ _ _, (by (repeat (first | exact New.refl _ | apply New.alloc | apply New.aft | apply New.drew | refine New.setCell ?_ ?_ _)); all_goals (first | done | (simp [size_aft]; done) | (simp [size_aft]; omega)))⟩
          case round =>
            obtain ⟨wt, rfl⟩ : ∃ wt : World, wt = wr := ⟨_, rfl⟩
            obtain ⟨t, ht, rfl, hown, hnew⟩ := hrel
            have HNT := Lib.hid hnew
            have HOT := Lib.hid hown
            have HLE := bendsTo_le B k t
            clear hown hnew
            by_cases htk : t < k
            · have htk2 : (t : Int) < (k : Int) := by omega
              obtain ⟨_, hb2, hcell⟩ := HPA.out.new HNT.out
              have j1 : (f + t) % k < k := Nat.mod_lt _ h0
              have j0 : (f + t + k - 1) % k < k := Nat.mod_lt _ h0
              have j2 : (f + t + 1) % k < k := Nat.mod_lt _ h0
              obtain ⟨c1, c2⟩ := hcell _ j1
              obtain ⟨c3, c4⟩ := hcell _ j0
              obtain ⟨c5, c6⟩ := hcell _ j2
              simp only [Nat.zero_add] at c1 c2 c3 c4 c5 c6
              clear hcell
              have m1 := tm_nat (f + t) k ((f : Int) + (t : Int)) (by omega)
              have m0 := tm_nat (f + t + k - 1) k ((f : Int) + (t : Int) + (k : Int) - 1) (by omega)
              have m2 := tm_nat (f + t + 1) k ((f : Int) + (t : Int) + 1) (by omega)
              have w1' : IntKind.i64.wrap ((f : Int) + (t : Int)) = (f : Int) + (t : Int) := IntWalk.i64_in _ (by omega)
              have w2' : IntKind.i64.wrap ((f : Int) + (t : Int) + (k : Int)) = (f : Int) + (t : Int) + (k : Int) := IntWalk.i64_in _ (by omega)
              have w3' : IntKind.i64.wrap ((f : Int) + (t : Int) + (k : Int) - 1) = (f : Int) + (t : Int) + (k : Int) - 1 := IntWalk.i64_in _ (by omega)
              have w4' : IntKind.i64.wrap ((f : Int) + (t : Int) + 1) = (f : Int) + (t : Int) + 1 := IntWalk.i64_in _ (by omega)
              have hnz : (k = 0) = False := eq_false (by omega)
              have b1 := HAB.out _ j1
              have b0 := HAB.out _ j0
              have b2 := HAB.out _ j2
              have HTT := Lib.hid (show turnAt B k t = turnI (px A ((f + t + k - 1) % k)) (py A ((f + t + k - 1) % k)) (px A ((f + t) % k)) (py A ((f + t) % k)) (px A ((f + t + 1) % k)) (py A ((f + t + 1) % k)) by
                unfold turnAt
                rw [(HBX.out _ (Nat.mod_lt (t + k - 1) h0)).1, (HBX.out _ (Nat.mod_lt (t + k - 1) h0)).2, (HBX.out t htk).1, (HBX.out t htk).2, (HBX.out _ (Nat.mod_lt (t + 1) h0)).1, (HBX.out _ (Nat.mod_lt (t + 1) h0)).2]
                rw [Nat.add_mod_mod, Nat.add_mod_mod, show f + (t + k - 1) = f + t + k - 1 by omega, show f + (t + 1) = f + t + 1 by omega])
              have HTU := Lib.hid (fun w2 : World => ref_turn (px A ((f + t + k - 1) % k)) (py A ((f + t + k - 1) % k)) (px A ((f + t) % k)) (py A ((f + t) % k)) (px A ((f + t + 1) % k)) (py A ((f + t + 1) % k)) w2 (by omega) (by omega) (by omega) (by omega) (by omega) (by omega))
              have HBS := Lib.hid (show bendsTo B k (t + 1) = if turnAt B k t = 0 then bendsTo B k t else bendsTo B k t ++ [(px A ((f + t) % k), py A ((f + t) % k))] by rw [← (HBX.out t htk).1, ← (HBX.out t htk).2]; rfl)
              rw [HTT.out] at HBS
              clear HTT b1 b0 b2
              generalize (f + t + k - 1) % k = i0' at *
              generalize (f + t) % k = i1' at *
              generalize (f + t + 1) % k = i2' at *
              generalize px A i0' = X0 at *
              generalize py A i0' = Y0 at *
              generalize px A i1' = X1 at *
              generalize py A i1' = Y1 at *
              generalize px A i2' = X2 at *
              generalize py A i2' = Y2 at *
              generalize turnI X0 Y0 X1 Y1 X2 Y2 = T at *
              by_cases hT : T = 0
              · subst hT
                have HBE := Lib.hid (show bendsTo B k (t + 1) = bendsTo B k t by rw [HBS.out, if_pos rfl])
                clear HBS
                go_wp2_with (go_at_call 87; refine (HTU.out _).mono ?_; rintro e w3 ⟨rfl, pv3, rfl⟩)
                go_roundw
                case rel => exact ⟨t + 1, by omega, by go_num, by rw [HBE.out]; exact own_new HOT.out (by (repeat (first | exact New.refl _ | apply New.alloc | apply New.aft | apply New.drew | refine New.setCell ?_ ?_ _)); all_goals (first | done | (simp [size_aft]; done) | (simp [size_aft]; omega))), (by (repeat (first | exact HNT.out | exact New.refl _ | apply New.alloc | apply New.aft | apply New.drew | refine New.setCell ?_ ?_ _)); all_goals (first | done | (simp [size_aft]; done) | (simp [size_aft]; omega)))⟩
                case measure => simp [intOf]; omega
              · have t2 : (T == 0) = false := by simpa using hT
                have t3 : (T != 0) = true := by simpa using hT
                have HBE := Lib.hid (show bendsTo B k (t + 1) = bendsTo B k t ++ [(X1, Y1)] by rw [HBS.out, if_neg hT])
                clear HBS hT
                go_wp2_with (first | (go_at_call 87; refine (HTU.out _).mono ?_; rintro e w3 ⟨rfl, pv3, rfl⟩) | (at_builtin; refine wpList_append_lies _ rfl (.tmp 104) (.tmp 106) 40 rfl wl.heap.size 23 i0 _ 2 16 Tryz.underlying40 hi hz0 hz1 hz2 rfl (by omega) u11 (bendsTo B k t).length (ptCells (bendsTo B k t)) rfl ?_ _ 1 1 [.int .i64 X1, .int .i64 Y1] rfl rfl ?_ ?_ (by omega) ?_ ?_ ?_ _ rfl ?_; exact own_new HOT.out (by (repeat (first | exact New.refl _ | apply New.alloc | apply New.aft | apply New.drew | refine New.setCell ?_ ?_ _)); all_goals (first | done | (simp [size_aft]; done) | (simp [size_aft]; omega))); (refine cells_new _ _ _ _ ?_); (simp [go_sem]); (intro u hu; simp at hu; rcases hu with rfl | rfl <;> rfl); (unfold maxLen; omega); omega; (have z1 := HNT.out.size; simp [go_sem, size_aft]; omega); intro g4 cap4 w4 hown4 hgrow4 hor4 hlt4; have HNW4 := Lib.hid (show New wl w4 from new_grown (by (repeat (first | exact HNT.out | exact New.refl _ | apply New.alloc | apply New.aft | apply New.drew | refine New.setCell ?_ ?_ _)); all_goals (first | done | (simp [size_aft]; done) | (simp [size_aft]; omega))) hgrow4 HOT.out); have HO4 := Lib.hid hown4; clear hown4 hgrow4 hor4 hlt4))
                go_roundw
                case rel => exact ⟨t + 1, by omega, by go_num, by rw [HBE.out, ptCells_snoc, List.length_append]; exact HO4.out, HNW4.out⟩
                case measure => simp [intOf]; omega
            · have htk2 : ¬ (t : Int) < (k : Int) := by omega
              have HRE := Lib.hid (show bendsTo B k t = refN l by rw [HRN2.out, show t = k by omega]; unfold normB; rw [HBL.out])
              go_wp2_with fail
              go_ret2
              have h1 := HOT.out
              rw [HRE.out] at h1
              exact ⟨u11, rfl, PtsR.own h1, HNL.out.trans HNT.out⟩

end Go.Proofs.YtpdfbboagaflhaaGreat

set_option linter.unusedSimpArgs false
set_option linter.unusedVariables false
set_option maxRecDepth 100000
namespace Go.Proofs.YtpdfbboagaflhaaGreat
open Go.RowKit

theorem norm_facts {l : List P2} (hp : polyI l = 0) : 0 < (normB l).length ∧ 0 < l.length ∧ l.length ≤ 200 ∧ (normL l).length = (normB l).length ∧ (normL l).length ≤ 200 ∧ 0 < (normL l).length ∧ polyI (normL l) = 0 ∧ normL (normL l) = normL l := by
  have h1 := (area_bends hp).2.1
  obtain ⟨s1, _, _, _, s5, s6, s7⟩ := Geo.norm_self hp
  obtain ⟨hck, h3, _, _⟩ := polyI_ok hp
  have := (ckPts_zero hck).1
  have h4 := normL_length l h1
  exact ⟨h1, by omega, by omega, h4, by omega, by omega, s6, s7⟩
theorem normal_any (b off n c : Nat) (l : List P2) (w : World) (hw : Pts w b off n l) (hp : polyI l = 0) :
    Calls Tryz.prog 50 #[.slice (some ⟨b, off, none⟩) n c] w fun en w' => ListR w w' en (normL l) := by
  obtain ⟨f1, f2, f3, f4, f5, f6, f7⟩ := norm_facts hp
  have e := hw.1
  refine (normal_yes b off n c l w (by omega) (by omega) hw hp f1).mono ?_
  rintro en w' ⟨g, cap, rfl, ho, hn⟩
  refine ⟨_, rfl, PtsR.own (B := w.heap.size) ?_, hn⟩
  rw [f4]; exact ho
theorem ref_normal_any (b off n c : Nat) (l : List P2) (w : World) (hw : Pts w b off n l) (hp : polyI l = 0) :
    Calls Tryz.prog 51 #[.slice (some ⟨b, off, none⟩) n c] w fun en w' => ListR w w' en (normL l) := by
  obtain ⟨f1, f2, f3, f4, f5, f6, f7⟩ := norm_facts hp
  have e := hw.1
  rw [← norm_eq hp]
  exact ref_normal_yes b off n c l w (by omega) hw hp
/-- a list as a result that has points -/
theorem listR_at {w w' : World} {en : Ending} {R : List P2} (h : ListR w w' en R) (h0 : 0 < R.length) : ∃ g cap, en = .returned (.tuple #[.slice (some ⟨g, 0, none⟩) R.length cap, .int .i64 0]) ∧ R.length ≤ cap ∧ Pts w' g 0 R.length R ∧ New w w' := by
  obtain ⟨v, rfl, ⟨av, cap, rfl, hp, hc⟩, hn⟩ := h
  obtain ⟨g, rfl, hg⟩ := hp h0
  exact ⟨g, cap, rfl, hc, hg, hn⟩
theorem normal_nil (v : Option Addr) (c : Nat) (w1 : World) : Calls Tryz.prog 50 #[.slice v 0 c] w1 fun en w' => en = .returned (.tuple #[.slice none 0 0, .int .i64 1]) ∧ New w1 w' := by
  have HC := Lib.hid (fun w1 : World => checkPoly_nil v c w1)
  go_enter Tryz.func50, Tryz.ntmps50
  go_wp2_with (go_at_call 44; refine (HC.out _).mono ?_; rintro e w2 ⟨rfl, hn⟩; have HN1 := Lib.hid hn; clear hn)
  go_ret2; exact ⟨rfl, HN1.out⟩
theorem ref_normal_nil (v : Option Addr) (c : Nat) (w1 : World) : Calls Tryz.prog 51 #[.slice v 0 c] w1 fun en w' => en = .returned (.tuple #[.slice none 0 0, .int .i64 1]) ∧ New w1 w' := by
  have HC := Lib.hid (fun w1 : World => ref_checkPoly_nil v c w1)
  go_enter Tryz.func51, Tryz.ntmps51
  go_wp2_with (go_at_call 45; refine (HC.out _).mono ?_; rintro e w2 ⟨rfl, hn⟩; have HN1 := Lib.hid hn; clear hn)
  go_ret2; exact ⟨rfl, HN1.out⟩


end Go.Proofs.YtpdfbboagaflhaaGreat

set_option linter.unusedSimpArgs false
set_option linter.unusedVariables false
set_option maxRecDepth 100000
namespace Go.Proofs.YtpdfbboagaflhaaGreat
open Go.RowKit

set_option maxHeartbeats 4000000 in
theorem has_c (p q a b c d e f : Int) (w : World) (hp : -40000 ≤ p ∧ p ≤ 40000) (hq : -40000 ≤ q ∧ q ≤ 40000) (ha : -40000 ≤ a ∧ a ≤ 40000) (hb : -40000 ≤ b ∧ b ≤ 40000) (hc : -40000 ≤ c ∧ c ≤ 40000) (hd : -40000 ≤ d ∧ d ≤ 40000) (he : -40000 ≤ e ∧ e ≤ 40000) (hf : -40000 ≤ f ∧ f ≤ 40000) :
    Calls Tryz.prog 176 #[tv a b c d e f, pv p q] w fun en w' => en = .returned (.bool (inTriB p q a b c d e f)) ∧ New w w' := by
  by_cases h1 : 0 ≤ turnI a b c d p q
  · by_cases h2 : 0 ≤ turnI c d e f p q
    · rw [← inTri_1 h1 h2]
      go_enter Tryz.func176, Tryz.ntmps176
      go_wp2_with (go_at_call 87; refine (ref_turn _ _ _ _ _ _ _ ?_ ?_ ?_ ?_ ?_ ?_).mono ?_; omega; omega; omega; omega; omega; omega; rintro e w1 ⟨rfl, pw, rfl⟩)
      all_goals (go_ret; refine ⟨rfl, ?_⟩; (repeat (first | exact New.refl _ | apply New.alloc | apply New.aft | apply New.drew | refine New.setCell ?_ ?_ _)); all_goals (first | done | (simp [size_aft]; done) | (simp [size_aft]; omega)))
    · rw [← inTri_2 (by omega)]
      go_enter Tryz.func176, Tryz.ntmps176
      go_wp2_with (go_at_call 87; refine (ref_turn _ _ _ _ _ _ _ ?_ ?_ ?_ ?_ ?_ ?_).mono ?_; omega; omega; omega; omega; omega; omega; rintro e w1 ⟨rfl, pw, rfl⟩)
      all_goals (go_ret; refine ⟨rfl, ?_⟩; (repeat (first | exact New.refl _ | apply New.alloc | apply New.aft | apply New.drew | refine New.setCell ?_ ?_ _)); all_goals (first | done | (simp [size_aft]; done) | (simp [size_aft]; omega)))
  · rw [← inTri_3 (by omega)]
    go_enter Tryz.func176, Tryz.ntmps176
    go_wp2_with (go_at_call 87; refine (ref_turn _ _ _ _ _ _ _ ?_ ?_ ?_ ?_ ?_ ?_).mono ?_; omega; omega; omega; omega; omega; omega; rintro e w1 ⟨rfl, pw, rfl⟩)
    all_goals (go_ret; refine ⟨rfl, ?_⟩; (repeat (first | exact New.refl _ | apply New.alloc | apply New.aft | apply New.drew | refine New.setCell ?_ ?_ _)); all_goals (first | done | (simp [size_aft]; done) | (simp [size_aft]; omega)))

/-! two points are compared: one Bool -/
theorem fieldsT_23 : ((Tryz.prog.fieldsOf 23).toList.map fun f => (f.type, f.offset, decide (f.name = "_"))) = [(3, 0, false), (3, 1, false)] := by kernel_rfl
theorem eqlT_bool (a b c d : Int) : ∃ e : Bool, e = (a == c && b == d) ∧ ∀ w : World, (binOp .eql 23 (.agg #[.int .i64 a, .int .i64 b]) (.agg #[.int .i64 c, .int .i64 d])).run Tryz.prog w = .ok (.bool e) w := by
  refine ⟨a == c && b == d, rfl, fun w => ?_⟩
  have hs : Tryz.prog.underlying 23 = some (.struct (Tryz.prog.fieldsOf 23)) := by kernel_rfl
  have hp : Tryz.prog.stoodInHeld 23 = false := by kernel_rfl
  have hf := fieldsT_23
  rw [run_eql_struct, run_equalIn_agg _ _ _ _ _ hs hp]
  generalize (Tryz.prog.fieldsOf 23).toList = F at *
  rcases F with _ | ⟨f, _ | ⟨g, _ | ⟨x, F⟩⟩⟩
  · simp at hf
  · simp at hf
  · simp only [List.map_cons, List.map_nil, List.cons.injEq, Prod.mk.injEq, and_true, decide_eq_false_iff_not] at hf
    obtain ⟨⟨h1, h2, h3⟩, h4, h5, h6⟩ := hf
    simp [go_sem, Op.eqFields, h1, h2, h3, h4, h5, h6, Tryz.underlying3]
    by_cases k1 : a = c <;> by_cases k2 : b = d <;> simp [k1, k2]
  · simp at hf

theorem turnI_cases (a b c d e f : Int) : turnI a b c d e f = -1 ∨ turnI a b c d e f = 0 ∨ turnI a b c d e f = 1 := by
  unfold turnI cmpI; split
  · omega
  · split <;> omega
/-- a triangle that lies in a block -/
def TriC (w : World) (g : Nat) (a b c d e f : Int) : Prop := ((w.cell? ⟨g, 0, none⟩ = some (.int .i64 a) ∧ w.cell? ⟨g, 1, none⟩ = some (.int .i64 b)) ∧ (w.cell? ⟨g, 2, none⟩ = some (.int .i64 c) ∧ w.cell? ⟨g, 3, none⟩ = some (.int .i64 d)) ∧ (w.cell? ⟨g, 4, none⟩ = some (.int .i64 e) ∧ w.cell? ⟨g, 5, none⟩ = some (.int .i64 f))) ∧ g < w.heap.size
theorem TriC.new {w w' : World} {g : Nat} {a b c d e f : Int} (h : TriC w g a b c d e f) (hn : New w w') : TriC w' g a b c d e f := by
  obtain ⟨⟨⟨h1, h2⟩, ⟨h3, h4⟩, h5, h6⟩, h7⟩ := h
  have k : ∀ o, w'.cell? ⟨g, o, none⟩ = w.cell? ⟨g, o, none⟩ := fun o => hn.below.cell (p := ⟨g, o, none⟩) h7
  exact ⟨⟨⟨(k 0).trans h1, (k 1).trans h2⟩, ⟨(k 2).trans h3, (k 3).trans h4⟩, (k 4).trans h5, (k 5).trans h6⟩, Nat.lt_of_lt_of_le h7 hn.size⟩

theorem tmT_nat (a k : Nat) (x : Int) (h : x = (a : Int)) : x.tmod (k : Int) = ((a % k : Nat) : Int) := by
  rw [h, Int.tmod_eq_emod_of_nonneg (by omega), ← Int.natCast_emod]

set_option maxHeartbeats 16000000 in
theorem ear_c (b off n c k : Nat) (l : List P2) (w : World) (hk : k < n) (hl : n ≤ 1000000) (hw : Pts w b off n l) (hbd : bdL l) :
    Calls Tryz.prog 132 #[.slice (some ⟨b, off, none⟩) n c, .int .i64 (k : Int)] w fun en w' => en = .returned (.bool (isEar l n k)) ∧ New w w' := by
  have HW := Lib.hid hw
  have j0 : (k + n - 1) % n < n := Nat.mod_lt _ (by omega)
  have j2 : (k + 1) % n < n := Nat.mod_lt _ (by omega)
  have HBD := Lib.hid hbd
  have b1 := hbd k
  have b0 := hbd ((k + n - 1) % n)
  have b2 := hbd ((k + 1) % n)
  obtain ⟨_, hbs, hcell⟩ := hw
  obtain ⟨c1, c2⟩ := hcell k hk
  obtain ⟨c3, c4⟩ := hcell _ j0
  obtain ⟨c5, c6⟩ := hcell _ j2
  clear hcell hbd
  have HT := Lib.hid (fun w1 : World => ref_turn (px l ((k + n - 1) % n)) (py l ((k + n - 1) % n)) (px l k) (py l k) (px l ((k + 1) % n)) (py l ((k + 1) % n)) w1 (by omega) (by omega) (by omega) (by omega) (by omega) (by omega))
  have HB := Lib.hid (show ∀ j, bars l n k j = (!cornerB (px l j) (py l j) (px l ((k + n - 1) % n)) (py l ((k + n - 1) % n)) (px l k) (py l k) (px l ((k + 1) % n)) (py l ((k + 1) % n)) && inTriB (px l j) (py l j) (px l ((k + n - 1) % n)) (py l ((k + n - 1) % n)) (px l k) (py l k) (px l ((k + 1) % n)) (py l ((k + 1) % n))) from fun j => rfl)
  have HE := Lib.hid (show isEar l n k = (turnI (px l ((k + n - 1) % n)) (py l ((k + n - 1) % n)) (px l k) (py l k) (px l ((k + 1) % n)) (py l ((k + 1) % n)) == 1 && !barTo l n k n) from rfl)
  have tb := turnI_cases (px l ((k + n - 1) % n)) (py l ((k + n - 1) % n)) (px l k) (py l k) (px l ((k + 1) % n)) (py l ((k + 1) % n))
  have m0 := tmT_nat (k + n - 1) n ((k : Int) + (n : Int) - 1) (by omega)
  have m2 := tmT_nat (k + 1) n ((k : Int) + 1) (by omega)
  have w2' : IntKind.i64.wrap ((k : Int) + (n : Int)) = (k : Int) + (n : Int) := IntWalk.i64_in _ (by omega)
  have w3' : IntKind.i64.wrap ((k : Int) + (n : Int) - 1) = (k : Int) + (n : Int) - 1 := IntWalk.i64_in _ (by omega)
  have w4' : IntKind.i64.wrap ((k : Int) + 1) = (k : Int) + 1 := IntWalk.i64_in _ (by omega)
  have hnz : (n = 0) = False := eq_false (by omega)
  have i1 : (k : Int) < (n : Int) := by omega
  generalize (k + n - 1) % n = i0' at *
  generalize (k + 1) % n = i2' at *
  generalize px l i0' = X0 at *
  generalize py l i0' = Y0 at *
  generalize px l k = X1 at *
  generalize py l k = Y1 at *
  generalize px l i2' = X2 at *
  generalize py l i2' = Y2 at *
  have HHS := Lib.hid (show ∀ j (w1 : World), Calls Tryz.prog 176 #[tv X0 Y0 X1 Y1 X2 Y2, pv (px l j) (py l j)] w1 fun en w' => en = .returned (.bool (inTriB (px l j) (py l j) X0 Y0 X1 Y1 X2 Y2)) ∧ New w1 w' from fun j w1 => has_c _ _ _ _ _ _ _ _ w1 (HBD.out j).1 (HBD.out j).2 (by omega) (by omega) (by omega) (by omega) (by omega) (by omega))
  clear b0 b1 b2
  generalize turnI X0 Y0 X1 Y1 X2 Y2 = T at *
  have hbs1 : b < w.heap.size + 1 := by omega
  go_enter Tryz.func132, Tryz.ntmps132
  go_upto_region 2 with fail
  go_cut [6] (fun s6 wx => (∃ g : Nat, s6 = .pointer (some ⟨g, 0, none⟩) ∧ TriC wx g X0 Y0 X1 Y1 X2 Y2) ∧ New w wx)
  case first =>
    go_region
    all_goals (go_wp2_with fail; go_meet)
    all_goals exact ⟨⟨_, rfl, ⟨⟨by simp [go_sem], by simp [go_sem]⟩, ⟨by simp [go_sem], by simp [go_sem]⟩, by simp [go_sem], by simp [go_sem]⟩, by simp [go_sem]⟩, (by (repeat (first | exact New.refl _ | apply New.alloc | apply New.aft | apply New.drew | refine New.setCell ?_ ?_ _)); all_goals (first | done | (simp [size_aft]; done) | (simp [size_aft]; omega)))⟩
  case rest =>
    obtain ⟨⟨g, rfl, htri⟩, hn1⟩ := hcut
    obtain ⟨W1, rfl⟩ : ∃ W1 : World, W1 = wc := ⟨_, rfl⟩
    have HTR := Lib.hid htri
    have HN1 := Lib.hid hn1
    obtain ⟨⟨⟨d1, d2⟩, ⟨d3, d4⟩, d5, d6⟩, hg⟩ := htri
    clear c1 c2 c3 c4 c5 c6 hn1 hbs hbs1 m0 m2 w2' w3' w4'
    by_cases hT : T ≤ 0
    · have hT1 : (T == 1) = false := by rw [beq_eq_false_iff_ne]; omega
      have HE2 := Lib.hid (show false = isEar l n k by rw [HE.out, hT1]; rfl)
      clear hT1
      go_wp2_with (go_at_call 87; refine (HT.out _).mono ?_; rintro e w2 ⟨rfl, hn⟩; have HN2 := Lib.hid (HN1.out.trans hn); clear hn)
      go_ret; exact ⟨ret_bool HE2.out, HN2.out⟩
    · have hT1 : (T == 1) = true := by rw [beq_iff_eq]; omega
      have HE2 := Lib.hid (show isEar l n k = !barTo l n k n by rw [HE.out, hT1]; rfl)
      clear hT1
      clear tb
      go_wp2_with (go_at_call 87; refine (HT.out _).mono ?_; rintro e w2 ⟨rfl, hn⟩; have HN2 := Lib.hid (HN1.out.trans hn); have HTR2 := Lib.hid (HTR.out.new hn); clear hn)
      obtain ⟨W2, rfl⟩ : ∃ W2 : World, W2 = w2 := ⟨_, rfl⟩
      clear d1 d2 d3 d4 d5 d6 hg
      go_loopw [7, 8, 9] (fun i _ _ wr => ∃ j : Nat, j ≤ n ∧ i = .int .i64 j ∧ barTo l n k j = false ∧ New W2 wr) (fun i _ _ _ => n - (intOf i).toNat)
      case atStart => exact ⟨0, Nat.zero_le _, rfl, by simp [barTo], New.refl _⟩
      case round =>
        obtain ⟨wt, rfl⟩ : ∃ wt : World, wt = wr := ⟨_, rfl⟩
        obtain ⟨j, hj, rfl, hbar, hnew⟩ := hrel
        have HNT := Lib.hid hnew
        have HBAR := Lib.hid hbar
        clear hbar hnew
        by_cases hjn : j < n
        · have hjn2 : (j : Int) < (n : Int) := by omega
          obtain ⟨_, hb2, hcell⟩ := HW.out.new (HN2.out.trans HNT.out)
          obtain ⟨c1, c2⟩ := hcell j hjn
          obtain ⟨⟨⟨d1, d2⟩, ⟨d3, d4⟩, d5, d6⟩, hg⟩ := HTR2.out.new HNT.out
          clear hcell
          have HBJ := Lib.hid (HB.out j)
          have HH := Lib.hid (HHS.out j)
          have HBS := Lib.hid (barTo_succ l n k j)
          have HBA := Lib.hid (fun (h : bars l n k j = true) => barTo_at l n k j n hjn h)
          generalize px l j = P at *
          generalize py l j = Y at *
          obtain ⟨e1, he1, hr1⟩ := eqlT_bool P Y X0 Y0
          obtain ⟨e2, he2, hr2⟩ := eqlT_bool P Y X1 Y1
          obtain ⟨e3, he3, hr3⟩ := eqlT_bool P Y X2 Y2
          have HCR := Lib.hid (show cornerB P Y X0 Y0 X1 Y1 X2 Y2 = (e1 || e2 || e3) by rw [he1, he2, he3]; rfl)
          clear he1 he2 he3
          rw [HCR.out] at HBJ
          generalize inTriB P Y X0 Y0 X1 Y1 X2 Y2 = V at *
          clear HCR
          cases e1
          · cases e2
            · cases e3
              · cases V
                · go_wp2_with fail
                  first | refine wp_region_at2 (by kernel_rfl) (by kernel_rfl) ?_ | refine wp_region_at (by kernel_rfl) (by kernel_rfl) ?_
                  repeat (go_big_quiet_step (fail))
                  refine wpQuiet_nil ?_
                  rintro _ ⟨q8, rfl⟩
                  go_wp2_with fail
                  first | refine wp_region_at2 (by kernel_rfl) (by kernel_rfl) ?_ | refine wp_region_at (by kernel_rfl) (by kernel_rfl) ?_
                  repeat (go_big_quiet_step (first | (go_at_call 176; exact calls_new (HH.out _))))
                  refine wpQuiet_nil ?_
                  rintro _ ⟨q9, rfl⟩
                  go_wp2_with fail
                  go_roundw
                  case rel => exact ⟨j + 1, by omega, by go_num, by rw [HBS.out, HBAR.out, HBJ.out]; rfl, HNT.out.trans (by (repeat (first | exact New.refl _ | apply New.alloc | apply New.aft | apply New.drew | refine New.setCell ?_ ?_ _)); all_goals (first | done | (simp [size_aft]; done) | (simp [size_aft]; omega)))⟩
                  case measure => simp [intOf]; omega
                · go_wp2_with fail
                  first | refine wp_region_at2 (by kernel_rfl) (by kernel_rfl) ?_ | refine wp_region_at (by kernel_rfl) (by kernel_rfl) ?_
                  repeat (go_big_quiet_step (fail))
                  refine wpQuiet_nil ?_
                  rintro _ ⟨q8, rfl⟩
                  go_wp2_with fail
                  first | refine wp_region_at2 (by kernel_rfl) (by kernel_rfl) ?_ | refine wp_region_at (by kernel_rfl) (by kernel_rfl) ?_
                  repeat (go_big_quiet_step (first | (go_at_call 176; exact calls_new (HH.out _))))
                  refine wpQuiet_nil ?_
                  rintro _ ⟨q9, rfl⟩
                  go_wp2_with fail
                  go_ret; exact ⟨ret_bool (by rw [HE2.out, HBA.out (by rw [HBJ.out]; rfl)]; rfl), HN2.out.trans (HNT.out.trans (by (repeat (first | exact New.refl _ | apply New.alloc | apply New.aft | apply New.drew | refine New.setCell ?_ ?_ _)); all_goals (first | done | (simp [size_aft]; done) | (simp [size_aft]; omega))))⟩
              · cases V
                · go_wp2_with fail
                  first | refine wp_region_at2 (by kernel_rfl) (by kernel_rfl) ?_ | refine wp_region_at (by kernel_rfl) (by kernel_rfl) ?_
                  repeat (go_big_quiet_step (fail))
                  refine wpQuiet_nil ?_
                  rintro _ ⟨q8, rfl⟩
                  go_wp2_with fail
                  first | refine wp_region_at2 (by kernel_rfl) (by kernel_rfl) ?_ | refine wp_region_at (by kernel_rfl) (by kernel_rfl) ?_
                  repeat (go_big_quiet_step (first | (go_at_call 176; exact calls_new (HH.out _))))
                  refine wpQuiet_nil ?_
                  rintro _ ⟨q9, rfl⟩
                  go_wp2_with fail
                  go_roundw
                  case rel => exact ⟨j + 1, by omega, by go_num, by rw [HBS.out, HBAR.out, HBJ.out]; rfl, HNT.out.trans (by (repeat (first | exact New.refl _ | apply New.alloc | apply New.aft | apply New.drew | refine New.setCell ?_ ?_ _)); all_goals (first | done | (simp [size_aft]; done) | (simp [size_aft]; omega)))⟩
                  case measure => simp [intOf]; omega
                · go_wp2_with fail
                  first | refine wp_region_at2 (by kernel_rfl) (by kernel_rfl) ?_ | refine wp_region_at (by kernel_rfl) (by kernel_rfl) ?_
                  repeat (go_big_quiet_step (fail))
                  refine wpQuiet_nil ?_
                  rintro _ ⟨q8, rfl⟩
                  go_wp2_with fail
                  first | refine wp_region_at2 (by kernel_rfl) (by kernel_rfl) ?_ | refine wp_region_at (by kernel_rfl) (by kernel_rfl) ?_
                  repeat (go_big_quiet_step (first | (go_at_call 176; exact calls_new (HH.out _))))
                  refine wpQuiet_nil ?_
                  rintro _ ⟨q9, rfl⟩
                  go_wp2_with fail
                  go_roundw
                  case rel => exact ⟨j + 1, by omega, by go_num, by rw [HBS.out, HBAR.out, HBJ.out]; rfl, HNT.out.trans (by (repeat (first | exact New.refl _ | apply New.alloc | apply New.aft | apply New.drew | refine New.setCell ?_ ?_ _)); all_goals (first | done | (simp [size_aft]; done) | (simp [size_aft]; omega)))⟩
                  case measure => simp [intOf]; omega
            · cases V
              · go_wp2_with fail
                first | refine wp_region_at2 (by kernel_rfl) (by kernel_rfl) ?_ | refine wp_region_at (by kernel_rfl) (by kernel_rfl) ?_
                repeat (go_big_quiet_step (fail))
                refine wpQuiet_nil ?_
                rintro _ ⟨q8, rfl⟩
                go_wp2_with fail
                first | refine wp_region_at2 (by kernel_rfl) (by kernel_rfl) ?_ | refine wp_region_at (by kernel_rfl) (by kernel_rfl) ?_
                repeat (go_big_quiet_step (first | (go_at_call 176; exact calls_new (HH.out _))))
                refine wpQuiet_nil ?_
                rintro _ ⟨q9, rfl⟩
                go_wp2_with fail
                go_roundw
                case rel => exact ⟨j + 1, by omega, by go_num, by rw [HBS.out, HBAR.out, HBJ.out]; rfl, HNT.out.trans (by (repeat (first | exact New.refl _ | apply New.alloc | apply New.aft | apply New.drew | refine New.setCell ?_ ?_ _)); all_goals (first | done | (simp [size_aft]; done) | (simp [size_aft]; omega)))⟩
                case measure => simp [intOf]; omega
              · go_wp2_with fail
                first | refine wp_region_at2 (by kernel_rfl) (by kernel_rfl) ?_ | refine wp_region_at (by kernel_rfl) (by kernel_rfl) ?_
                repeat (go_big_quiet_step (fail))
                refine wpQuiet_nil ?_
                rintro _ ⟨q8, rfl⟩
                go_wp2_with fail
                first | refine wp_region_at2 (by kernel_rfl) (by kernel_rfl) ?_ | refine wp_region_at (by kernel_rfl) (by kernel_rfl) ?_
                repeat (go_big_quiet_step (first | (go_at_call 176; exact calls_new (HH.out _))))
                refine wpQuiet_nil ?_
                rintro _ ⟨q9, rfl⟩
                go_wp2_with fail
                go_roundw
                case rel => exact ⟨j + 1, by omega, by go_num, by rw [HBS.out, HBAR.out, HBJ.out]; rfl, HNT.out.trans (by (repeat (first | exact New.refl _ | apply New.alloc | apply New.aft | apply New.drew | refine New.setCell ?_ ?_ _)); all_goals (first | done | (simp [size_aft]; done) | (simp [size_aft]; omega)))⟩
                case measure => simp [intOf]; omega
          · cases V
            · go_wp2_with fail
              first | refine wp_region_at2 (by kernel_rfl) (by kernel_rfl) ?_ | refine wp_region_at (by kernel_rfl) (by kernel_rfl) ?_
              repeat (go_big_quiet_step (fail))
              refine wpQuiet_nil ?_
              rintro _ ⟨q8, rfl⟩
              go_wp2_with fail
              first | refine wp_region_at2 (by kernel_rfl) (by kernel_rfl) ?_ | refine wp_region_at (by kernel_rfl) (by kernel_rfl) ?_
              repeat (go_big_quiet_step (first | (go_at_call 176; exact calls_new (HH.out _))))
              refine wpQuiet_nil ?_
              rintro _ ⟨q9, rfl⟩
              go_wp2_with fail
              go_roundw
              case rel => exact ⟨j + 1, by omega, by go_num, by rw [HBS.out, HBAR.out, HBJ.out]; rfl, HNT.out.trans (by (repeat (first | exact New.refl _ | apply New.alloc | apply New.aft | apply New.drew | refine New.setCell ?_ ?_ _)); all_goals (first | done | (simp [size_aft]; done) | (simp [size_aft]; omega)))⟩
              case measure => simp [intOf]; omega
            · go_wp2_with fail
              first | refine wp_region_at2 (by kernel_rfl) (by kernel_rfl) ?_ | refine wp_region_at (by kernel_rfl) (by kernel_rfl) ?_
              repeat (go_big_quiet_step (fail))
              refine wpQuiet_nil ?_
              rintro _ ⟨q8, rfl⟩
              go_wp2_with fail
              first | refine wp_region_at2 (by kernel_rfl) (by kernel_rfl) ?_ | refine wp_region_at (by kernel_rfl) (by kernel_rfl) ?_
              repeat (go_big_quiet_step (first | (go_at_call 176; exact calls_new (HH.out _))))
              refine wpQuiet_nil ?_
              rintro _ ⟨q9, rfl⟩
              go_wp2_with fail
              go_roundw
              case rel => exact ⟨j + 1, by omega, by go_num, by rw [HBS.out, HBAR.out, HBJ.out]; rfl, HNT.out.trans (by (repeat (first | exact New.refl _ | apply New.alloc | apply New.aft | apply New.drew | refine New.setCell ?_ ?_ _)); all_goals (first | done | (simp [size_aft]; done) | (simp [size_aft]; omega)))⟩
              case measure => simp [intOf]; omega
        · have hjn2 : ¬ (j : Int) < (n : Int) := by omega
          obtain rfl : j = n := by omega
          have HE3 := Lib.hid (show true = isEar l j k by rw [HE2.out, HBAR.out]; rfl)
          go_wp2_with fail
          go_ret; exact ⟨ret_bool HE3.out, HN2.out.trans HNT.out⟩

end Go.Proofs.YtpdfbboagaflhaaGreat

set_option linter.unusedSimpArgs false
set_option linter.unusedVariables false
set_option maxRecDepth 100000
namespace Go.Proofs.YtpdfbboagaflhaaGreat
open Go.RowKit

/-- what the loop from the last corner down has found: the least ear so far -/
def dnI (r : List P2) (n : Nat) : Nat → Int
  | 0 => -1
  | s + 1 => if isEar r n (n - 1 - s) = true then ((n - 1 - s : Nat) : Int) else dnI r n s
theorem dnI_before {r : List P2} {n e : Nat} (hn : e < n) (he : isEar r n e = true) (hb : ∀ j, j < e → isEar r n j = false) : ∀ s, s ≤ n → n - e ≤ s → dnI r n s = (e : Int)
  | 0, _, h => by omega
  | s + 1, hs, h => by
    unfold dnI
    by_cases hh : n - e = s + 1
    · have : n - 1 - s = e := by omega
      rw [this, if_pos he]
    · rw [if_neg (by rw [hb _ (by omega)]; decide)]
      exact dnI_before hn he hb s (by omega) (by omega)
theorem dnI_all {r : List P2} (h : Geo.EarOk r) : dnI r r.length r.length = ((earI r r.length : Nat) : Int) := by
  obtain ⟨h1, h2, h3⟩ := Geo.earI_spec h
  exact dnI_before h1 h2 h3 _ (Nat.le_refl _) (by omega)
theorem grown_cellT {X w4 : World} {row : Option Nat} (h : X.grownBy w4 row) {k : Nat} (hk : k < X.heap.size) (hne : some k ≠ row) : ∀ o, w4.cell? ⟨k, o, none⟩ = X.cell? ⟨k, o, none⟩ := fun o => by
  simp only [World.cell?, h.block k hk hne]
theorem pts_grown {X w4 : World} {row : Option Nat} {g off n : Nat} {l : List P2} (hp : Pts X g off n l) (h : X.grownBy w4 row) (hne : some g ≠ row) : Pts w4 g off n l := by
  obtain ⟨h1, h2, h3⟩ := hp
  refine ⟨h1, Nat.lt_of_lt_of_le h2 h.size, fun i hi => ?_⟩
  have k := grown_cellT h h2 hne
  obtain ⟨a, b⟩ := h3 i hi
  exact ⟨(k _).trans a, (k _).trans b⟩
theorem bdL_ok {r : List P2} (h : okL r = true) : bdL r := by
  intro i
  have := okL_bd h i
  omega

theorem own_leU {w : World} {base e size n g cap : Nat} {xs : List Value} (h : w.ownsRow base e size (.slice (some ⟨g, 0, none⟩) n cap) n xs) (hg : g < w.heap.size) : base ≤ w.heap.size := by
  have := (h.lt g rfl).1; omega
theorem own_noneU {W : World} {base g : Nat} (hg : g = W.heap.size) (hb : base ≤ W.heap.size) : (W.alloc (.cells #[] 23)).ownsRow base 23 2 (.slice (some ⟨g, 0, none⟩) 0 0) 0 [] := by
  subst hg
  exact own_mk (by simp) hb (heap_alloc_new _ _) (Nat.le_refl _) (by unfold maxLen; omega) (by simp) (by simp)
theorem grown_cellU {X w4 : World} {row : Option Nat} (h : X.grownBy w4 row) {k : Nat} (hk : k < X.heap.size) (hne : some k ≠ row) : ∀ o, w4.cell? ⟨k, o, none⟩ = X.cell? ⟨k, o, none⟩ := fun o => by
  simp only [World.cell?, h.block k hk hne]
theorem news_newU {X0 X : World} (hn : New X0 X) {H : Nat} (hk : H < X0.heap.size) {cs : List Value} (hc : ∀ j u, cs[j]? = some u → X0.cell? ((⟨H, 0, none⟩ : Addr).add j) = some u) : ∀ j u, cs[j]? = some u → X.cell? ((⟨H, 0, none⟩ : Addr).add j) = some u := by
  intro j u hu
  have hadd : (⟨H, 0, none⟩ : Addr).add j = ⟨H, j, none⟩ := by unfold Addr.add; split <;> simp_all
  have := hc j u hu
  rw [hadd] at this ⊢
  rw [← this]; exact hn.below.cell (p := ⟨H, j, none⟩) hk
theorem grown_newsU {X w4 : World} {row : Option Nat} (h : X.grownBy w4 row) {H : Nat} (hk : H < X.heap.size) (hne : some H ≠ row) {cs : List Value} (hc : ∀ j u, cs[j]? = some u → X.cell? ((⟨H, 0, none⟩ : Addr).add j) = some u) : ∀ j u, cs[j]? = some u → w4.cell? ((⟨H, 0, none⟩ : Addr).add j) = some u := by
  intro j u hu
  have hadd : (⟨H, 0, none⟩ : Addr).add j = ⟨H, j, none⟩ := by unfold Addr.add; split <;> simp_all
  have := hc j u hu
  rw [hadd] at this ⊢
  rw [← this]; exact grown_cellU h hk hne j
/-- append of points to a row of the call's own, as a step of a region that draws -/
theorem step_copyU {ops : Array Oper} {o : Oper} {a : Act} {w : World} {K : Act → World → Prop} {Q : Exit → Act → World → Prop} {E : Prop} (hgd : o.guard = none) (s x : Operand) (ho : o.op = .call { callee := .builtin .append, args := #[s, x], argTypes := #[40, 40] })
    (base : Nat) (v : Value) (k : Nat) (xs : List P2) (hs : a.eval s = v) (hown : w.ownsRow base 23 2 v k (ptCells xs)) (ad : Addr) (m c : Nat) (news : List P2) (hx : a.eval x = .slice (some ad) m c) (hl : news.length = m)
    (hnews : ∀ j u, (ptCells news)[j]? = some u → w.cell? (ad.add j) = some u) (hm : 0 < m) (h63 : k + m ≤ 1000) (hbase : base ≤ w.heap.size)
    (h : ∀ g cap w', w'.ownsRow base 23 2 (.slice (some ⟨g, 0, none⟩) (k + m) cap) (k + m) (ptCells (xs ++ news)) → w.grownBy w' v.ownBlock → (v.ownBlock = some g ∨ g = w.heap.size) → g < w'.heap.size → K (a.put o.dst (.slice (some ⟨g, 0, none⟩) (k + m) cap)) w') :
    if Region.wanted o (yielded ops a.tmps) = true then Oper.wp Tryz.prog o a w K Q else E := by
  obtain ⟨i0, hi, hz0, hz1, hz2⟩ := info_parts info23
  refine step_append_lies _ hgd s x 40 ho base 23 i0 _ 2 16 Tryz.underlying40 hi hz0 hz1 hz2 rfl (by omega) v k (ptCells xs) hs hown ad m c (ptCells news) hx (by rw [ptCells_length, hl]) hnews (ptCells_one _) hm (by unfold maxLen; omega) (by omega) hbase _ rfl ?_
  intro g cap w' h1 h2 h3 h4
  rw [← ptCells_append] at h1
  exact h g cap w' h1 h2 h3 h4
theorem own_capU {w : World} {base e size n g cap : Nat} {xs : List Value} (h : w.ownsRow base e size (.slice (some ⟨g, 0, none⟩) n cap) n xs) : n ≤ cap := by
  rcases h.2 with ⟨h1, _⟩ | ⟨g', cap', cur, h1, h2, h3, h4, _⟩
  · cases h1
  · cases h1; exact h4
theorem earI_last {r : List P2} (h : Geo.EarOk r) (h4 : 4 ≤ r.length) : earI r r.length + 1 < r.length := by
  obtain ⟨e1, e2, e3⟩ := Geo.earI_spec h
  obtain ⟨t, n1, n2, hE⟩ := Geo.ear_ex r.length r (Nat.le_refl _) (Geo.okL_bnd h.ok) h.si h.ar _ (Geo.EE_mem.2 ⟨r.length - 2, by omega, rfl⟩)
  obtain ⟨p, q, h1, hh⟩ := hE
  obtain ⟨k, hk, rfl⟩ := Geo.pt_mem.1 (Geo.edge_mem h1).2
  have hk' := (Geo.ear_idx h.si hk).2 ⟨p, q, h1, hh⟩
  have ek : (r.length - 2 + 1) % r.length = r.length - 1 := by rw [Nat.mod_eq_of_lt (by omega)]; omega
  simp only [ek] at n2
  have : k ≠ r.length - 1 := fun e => n2 (by rw [e])
  by_cases hlt : k < earI r r.length
  · rw [e3 k hlt] at hk'; exact absurd hk' (by decide)
  · omega
theorem list_take_pts {w : World} {g n : Nat} {r : List P2} (h : Pts w g 0 n r) (k : Nat) (hk : k ≤ n) : ∀ j u, (ptCells (r.take k))[j]? = some u → w.cell? ((⟨g, 0, none⟩ : Addr).add j) = some u := by
  have := pts_part h 0 k (by omega); simpa using this

set_option maxHeartbeats 16000000 in
theorem ref_triangles_yes (b off n c : Nat) (l : List P2) (w : World) (hw : Pts w b off n l) (hp : polyI l = 0) :
    Calls Tryz.prog 60 #[.slice (some ⟨b, off, none⟩) n c] w fun en w' => ∃ v B, en = .returned (.tuple #[v, .int .i64 0]) ∧ w'.ownsRow B 75 6 v (trisL l).length (trCells (trisL l)) ∧ New w w' := by
  obtain ⟨i0, hi, hz0, hz1, hz2⟩ := info_parts info75
  obtain ⟨p0, hpi, pz0, pz1, pz2⟩ := info_parts info23
  obtain ⟨f1, f2, f3, f4, f5, f6, f7, f8⟩ := norm_facts hp
  have hE0 := Geo.earOk_norm hp
  have h30 := hE0.si.three
  have HN := Lib.hid (ref_normal_any b off n c l w hw hp)
  have HTL := Lib.hid (show earsF (normL l).length (normL l) [] = trisL l from rfl)
  have HLA := Lib.hid (show ∀ w1 en w2, ListR w1 w2 en (normL l) → ∃ g cap, en = .returned (.tuple #[.slice (some ⟨g, 0, none⟩) (normL l).length cap, .int .i64 0]) ∧ (normL l).length ≤ cap ∧ Pts w2 g 0 (normL l).length (normL l) ∧ New w1 w2 from fun _ _ _ h => listR_at h f6)
  have HE0 := Lib.hid hE0
  clear hw hp f1 f2 f3 f4 f7 f8 hE0
  generalize normL l = R at *
  go_enter Tryz.func60, Tryz.ntmps60
  go_wp2_with (go_at_call 51; refine HN.out.mono ?_; rintro en w2 hh; obtain ⟨g0, cap0, rfl, hc0, hp0, hn0⟩ := HLA.out _ _ _ hh; have HP0 := Lib.hid hp0; have HN2 := Lib.hid hn0; clear hp0 hn0 hh)
  generalize hm : R.length = m at *
  have HM := Lib.hid hm
  clear hm
  go_loopg [4, 6] m (fun gh s4 s6 wx => ∃ (g cap : Nat) (r : List P2) (tr : List T6), (s4 = .slice (some ⟨g, 0, none⟩) r.length cap ∧ r.length ≤ cap ∧ Pts wx g 0 r.length r ∧ s6.ownBlock ≠ some g) ∧ wx.ownsRow w2.heap.size 75 6 s6 tr.length (trCells tr) ∧ (3 ≤ r.length ∧ r.length + tr.length = m ∧ r.length ≤ gh) ∧ Geo.EarOk r ∧ earsF r.length r tr = trisL l ∧ New w2 wx)
  case atStart => exact ⟨g0, cap0, R, [], ⟨by rw [HM.out], by rw [HM.out]; exact hc0, by rw [HM.out]; exact HP0.out, by simp [Value.ownBlock]⟩, World.ownsRow_nil _ _ _ _, ⟨by rw [HM.out]; exact h30, by rw [HM.out]; rfl, by rw [HM.out]; exact Nat.le_refl _⟩, HE0.out, by have := HTL.out; rw [HM.out]; exact this, New.refl _⟩
  case round =>
    obtain ⟨wt, rfl⟩ : ∃ wt : World, wt = wr := ⟨_, rfl⟩
    obtain ⟨g, cap, r, tr, ⟨rfl, hrc, hpt, hob⟩, hot, ⟨hr3, hrt, hrg⟩, heo, hears, hnew⟩ := hrel
    have HPT := Lib.hid hpt
    have HOT := Lib.hid hot
    have HOB := Lib.hid hob
    have HEO := Lib.hid heo
    have HE := Lib.hid hears
    have HNEW := Lib.hid hnew
    have HBR := Lib.hid (bdL_ok heo.ok)
    clear hpt hot hears hnew hob
    generalize hk : r.length = k at *
    generalize hq : tr.length = q at *
    have HK := Lib.hid hk
    have HQ := Lib.hid hq
    clear hk hq heo
    by_cases h4 : 3 < k
    · have h4' : (3 : Int) < (k : Int) := by omega
      obtain ⟨e1, e2, e3⟩ := Geo.earI_spec HEO.out
      have HDN := Lib.hid (show dnI r k k = ((earI r k : Nat) : Int) by have := dnI_all HEO.out; rw [HK.out] at this; exact this)
      have HER := Lib.hid (Geo.ear_erase HEO.out (by rw [HK.out]; omega) e1 e2)
      rw [HK.out] at e1 HER
      have HLS := Lib.hid (earI_last HEO.out (by rw [HK.out]; omega))
      rw [HK.out] at HLS
      clear e2 e3
      generalize hEE : earI r k = E at *
      have HEE := Lib.hid hEE
      clear hEE
      have HEAR := Lib.hid (fun (j : Nat) (hj : j < k) (w1 : World) (h1 : New wt w1) => ear_c g 0 k cap j r w1 hj (by omega) (HPT.out.new h1) HBR.out)
      have HDS := Lib.hid (show ∀ s, dnI r k (s + 1) = if isEar r k (k - 1 - s) = true then ((k - 1 - s : Nat) : Int) else dnI r k s from fun s => rfl)
      have HD0 := Lib.hid (show dnI r k 0 = -1 from rfl)
      generalize dnI r k = DN at *
      go_wp2_with fail
      go_loopw [8, 9, 10] (fun a i _ wr => ∃ s : Nat, s ≤ k ∧ i = .int .i64 ((k : Int) - 1 - (s : Int)) ∧ a = .int .i64 (DN s) ∧ New wt wr) (fun _ i _ _ => (intOf i + 1).toNat)
      case atStart => exact ⟨0, Nat.zero_le _, by simp, by rw [HD0.out], New.refl _⟩
      case round =>
        obtain ⟨s, hs, rfl, rfl, hnew⟩ := hrel
        have HNT := Lib.hid hnew
        clear hnew
        by_cases hsk : s < k
        · have ix : (k : Int) - 1 - (s : Int) = ((k - 1 - s : Nat) : Int) := by omega
          have HIX := Lib.hid ix
          have HIS := Lib.hid (HDS.out s)
          have HC := Lib.hid (HEAR.out (k - 1 - s) (by omega) _ HNT.out)
          rw [HIX.out]
          have hpos : (0 : Int) ≤ ((k - 1 - s : Nat) : Int) := by omega
          have wm : IntKind.i64.wrap (((k - 1 - s : Nat) : Int) - 1) = ((k - 1 - s : Nat) : Int) - 1 := IntWalk.i64_in _ (by omega)
          have HJ := Lib.hid (show ((k - 1 - s : Nat) : Int) - 1 = (k : Int) - 1 - ((s + 1 : Nat) : Int) by omega)
          have HMS := Lib.hid (show ((k - 1 - s : Nat) : Int) - 1 + 1 < ((k - 1 - s : Nat) : Int) + 1 by omega)
          clear ix
          generalize k - 1 - s = J at *
          generalize isEar r k J = V at *
          cases V
          · go_wp2_with (go_at_call 132; refine (HC.out).mono ?_; rintro en w4 ⟨rfl, hn⟩; have HN4 := Lib.hid hn; clear hn)
            go_roundw
            case rel => exact ⟨s + 1, by omega, by rw [HJ.out], by rw [HIS.out]; rfl, HNT.out.trans HN4.out⟩
            case measure => simp only [intOf]; omega
          · go_wp2_with (go_at_call 132; refine (HC.out).mono ?_; rintro en w4 ⟨rfl, hn⟩; have HN4 := Lib.hid hn; clear hn)
            go_roundw
            case rel => exact ⟨s + 1, by omega, by rw [HJ.out], by rw [HIS.out]; rfl, HNT.out.trans HN4.out⟩
            case measure => simp only [intOf]; omega
        · obtain rfl : s = k := by omega
          rw [HDN.out]
          have hneg : ¬ (0 : Int) ≤ (s : Int) - 1 - (s : Int) := by omega
          go_wp2_with fail
          obtain ⟨W3, rfl⟩ : ∃ W3 : World, W3 = wr := ⟨_, rfl⟩
          have HP3 := Lib.hid (HPT.out.new HNT.out)
          have HO3 := Lib.hid (own_new HOT.out HNT.out)
          have HN3 := Lib.hid (HNEW.out.trans HNT.out)
          have j0 : (E + s - 1) % s < s := Nat.mod_lt _ (by omega)
          have j2 : (E + 1) % s < s := Nat.mod_lt _ (by omega)
          obtain ⟨_, hbs, hcell⟩ := HP3.out
          obtain ⟨c1, c2⟩ := hcell E e1
          obtain ⟨c3, c4⟩ := hcell _ j0
          obtain ⟨c5, c6⟩ := hcell _ j2
          clear hcell
          simp only [Nat.zero_add] at c1 c2 c3 c4 c5 c6
          have m0 := tmT_nat (E + s - 1) s ((E : Int) + (s : Int) - 1) (by omega)
          have m2 := tmT_nat (E + 1) s ((E : Int) + 1) (by omega)
          have w2' : IntKind.i64.wrap ((E : Int) + (s : Int)) = (E : Int) + (s : Int) := IntWalk.i64_in _ (by omega)
          have w3' : IntKind.i64.wrap ((E : Int) + (s : Int) - 1) = (E : Int) + (s : Int) - 1 := IntWalk.i64_in _ (by omega)
          have w4' : IntKind.i64.wrap ((E : Int) + 1) = (E : Int) + 1 := IntWalk.i64_in _ (by omega)
          have hnz : (s = 0) = False := eq_false (by omega)
          have i1 : (E : Int) < (s : Int) := by omega
          have HTA := Lib.hid (show trAt r s E = ((px r ((E + s - 1) % s), py r ((E + s - 1) % s)), (px r E, py r E), (px r ((E + 1) % s), py r ((E + 1) % s))) from rfl)
          generalize (E + s - 1) % s = x0 at *
          generalize (E + 1) % s = x2 at *
          generalize px r x0 = A1 at *
          generalize py r x0 = A2 at *
          generalize px r E = B1 at *
          generalize py r E = B2 at *
          generalize px r x2 = C1 at *
          generalize py r x2 = C2 at *
          have hbase := HN3.out.size
          go_upto_region 16 with fail
          go_cut [6] (fun s6 wx => (∃ g4 cap4 : Nat, s6 = .slice (some ⟨g4, 0, none⟩) (q + 1) cap4 ∧ g4 ≠ g ∧ g4 < wx.heap.size) ∧ wx.ownsRow w2.heap.size 75 6 s6 (q + 1) (trCells (tr ++ [trAt r s E])) ∧ Pts wx g 0 s r ∧ New w2 wx)
          case first =>
            have HPn := Lib.hid (show ∀ w1, New W3 w1 → Pts w1 g 0 s r from fun w1 h1 => HP3.out.new h1)
            have HOn := Lib.hid (show ∀ w1, New W3 w1 → w1.ownsRow w2.heap.size 75 6 u6 q (trCells tr) from fun w1 h1 => own_new HO3.out h1)
            have HCn := Lib.hid (show ∀ w1, New W3 w1 → w1.cell? ⟨g, x0 * 2, none⟩ = some (.int .i64 A1) ∧ w1.cell? ⟨g, x0 * 2 + 1, none⟩ = some (.int .i64 A2) ∧ w1.cell? ⟨g, E * 2, none⟩ = some (.int .i64 B1) ∧ w1.cell? ⟨g, E * 2 + 1, none⟩ = some (.int .i64 B2) ∧ w1.cell? ⟨g, x2 * 2, none⟩ = some (.int .i64 C1) ∧ w1.cell? ⟨g, x2 * 2 + 1, none⟩ = some (.int .i64 C2) from fun w1 h1 => by
              have K := fun o => h1.below.cell (p := ⟨g, o, none⟩) hbs
              exact ⟨(K _).trans c3, (K _).trans c4, (K _).trans c1, (K _).trans c2, (K _).trans c5, (K _).trans c6⟩)
            have HGn := Lib.hid (show ∀ w1 w4 : World, New W3 w1 → w1.grownBy w4 u6.ownBlock → w4.cell? ⟨g, x0 * 2, none⟩ = some (.int .i64 A1) ∧ w4.cell? ⟨g, x0 * 2 + 1, none⟩ = some (.int .i64 A2) ∧ w4.cell? ⟨g, E * 2, none⟩ = some (.int .i64 B1) ∧ w4.cell? ⟨g, E * 2 + 1, none⟩ = some (.int .i64 B2) ∧ w4.cell? ⟨g, x2 * 2, none⟩ = some (.int .i64 C1) ∧ w4.cell? ⟨g, x2 * 2 + 1, none⟩ = some (.int .i64 C2) from fun w1 w4 h1 hg => by
              have K := fun o => grown_cellT hg (k := g) (Nat.lt_of_lt_of_le hbs h1.size) (fun e => HOB.out e.symm) o
              obtain ⟨d1, d2, d3, d4, d5, d6⟩ := HCn.out w1 h1
              exact ⟨(K _).trans d1, (K _).trans d2, (K _).trans d3, (K _).trans d4, (K _).trans d5, (K _).trans d6⟩)
            have hgW := hbs
            clear HP0 HN2 HPT HOT HEO HE HNEW HBR HEAR HDS HD0 HDN HER HEE HNT HLA HTL HE0 HM HN HK HLS
            go_region_held3 (fun w' => w'.cell? ⟨g, x0 * 2, none⟩ = some (.int .i64 A1) ∧ w'.cell? ⟨g, x0 * 2 + 1, none⟩ = some (.int .i64 A2) ∧ w'.cell? ⟨g, E * 2, none⟩ = some (.int .i64 B1) ∧ w'.cell? ⟨g, E * 2 + 1, none⟩ = some (.int .i64 B2) ∧ w'.cell? ⟨g, x2 * 2, none⟩ = some (.int .i64 C1) ∧ w'.cell? ⟨g, x2 * 2 + 1, none⟩ = some (.int .i64 C2)) (first | exact HS4.out | exact HCn.out _ (by (repeat (first | exact New.refl _ | apply New.alloc | apply New.aft | apply New.drew | refine New.setCell ?_ ?_ _)); all_goals (first | done | (simp [size_aft]; done) | (simp [size_aft]; omega)))) (first | (refine step_append_lies _ ?_ (.tmp 38) (.tmp 60) 53 ?_ w2.heap.size 75 i0 _ 6 48 Tryz.underlying53 hi hz0 hz1 hz2 rfl (by omega) u6 q (trCells tr) ?_ ?_ ⟨W3.heap.size, 0, none⟩ 1 1 [.int .i64 A1, .int .i64 A2, .int .i64 B1, .int .i64 B2, .int .i64 C1, .int .i64 C2] ?_ rfl ?_ ?_ (by omega) ?_ ?_ ?_ _ rfl ?_; exact rfl; exact rfl; exact rfl; exact HOn.out _ (by (repeat (first | exact New.refl _ | apply New.alloc | apply New.aft | apply New.drew | refine New.setCell ?_ ?_ _)); all_goals (first | done | (simp [size_aft]; done) | (simp [size_aft]; omega))); exact rfl; (refine cells_new _ _ _ _ ?_); (simp [go_sem]); (intro u hu; simp at hu; rcases hu with rfl | rfl | rfl | rfl | rfl | rfl <;> rfl); (unfold maxLen; omega); omega; (simp [go_sem]; omega); intro g4 cap4 w4 hown4 hgrow4 hor4 hlt4; have HS4 := Lib.hid (HGn.out _ _ (by (repeat (first | exact New.refl _ | apply New.alloc | apply New.aft | apply New.drew | refine New.setCell ?_ ?_ _)); all_goals (first | done | (simp [size_aft]; done) | (simp [size_aft]; omega))) hgrow4)))
            all_goals (go_wp2_with fail; go_meet)
            all_goals
              refine ⟨⟨g4, cap4, rfl, ?_, hlt4⟩, by rw [HTA.out, trCells_snoc]; exact hown4, pts_grown (HPn.out _ (by (repeat (first | exact New.refl _ | apply New.alloc | apply New.aft | apply New.drew | refine New.setCell ?_ ?_ _)); all_goals (first | done | (simp [size_aft]; done) | (simp [size_aft]; omega)))) hgrow4 (fun e => HOB.out e.symm), new_grown (by (repeat (first | exact HN3.out | apply New.alloc | apply New.aft | apply New.drew | refine New.setCell ?_ ?_ _)); all_goals (first | done | (simp [size_aft]; done) | (simp [size_aft]; omega))) hgrow4 HO3.out⟩
              rcases hor4 with h | h
              · intro e; subst e; exact HOB.out h
              · have : g < g4 := by rw [h]; simp [go_sem, size_aft]; omega
                omega
          case rest =>
            obtain ⟨W0, rfl⟩ : ∃ W0 : World, W0 = wc := ⟨_, rfl⟩
            obtain ⟨⟨gt, ct, rfl, hgt, hgl⟩, hto, hpp, hnn⟩ := hcut
            have HTO := Lib.hid hto
            have HPP := Lib.hid hpp
            have HNN := Lib.hid hnn
            have HLQ := Lib.hid HP3.out.1
            clear hto hpp hnn
            have hls := HLS.out
            have k1 : (0 : Int) ≤ (E : Int) := by omega
            have k2 : (E : Int) ≤ (cap : Int) := by omega
            have k3 : (E : Int) + 1 ≤ (s : Int) := by omega
            have k4 : (E : Int) + 1 ≤ (cap : Int) := by omega
            have k5 : (s : Int) ≤ (cap : Int) := by omega
            have k6 : (0 : Int) ≤ (E : Int) + 1 := by omega
            have k7 : ((E : Int) + 1).toNat = E + 1 := by omega
            have k8 : ¬ cap = E + 1 := by omega
            have k9 : E ≤ cap := by omega
            have HTE := Lib.hid (show (r.take E).length = E by rw [List.length_take, HLQ.out]; omega)
            have HDE := Lib.hid (show (r.drop (E + 1)).length = s - (E + 1) by rw [List.length_drop, HLQ.out])
            have HWA := Lib.hid (show ∀ w1, New W0 w1 → ∀ j u, (ptCells (r.take E))[j]? = some u → w1.cell? ((⟨g, 0, none⟩ : Addr).add j) = some u from fun w1 h1 => list_take_pts (HPP.out.new h1) E (by omega))
            have HWB := Lib.hid (show ∀ w1, New W0 w1 → ∀ j u, (ptCells (r.drop (E + 1)))[j]? = some u → w1.cell? ((⟨g, (E + 1) * 2, none⟩ : Addr).add j) = some u from fun w1 h1 => by
              have := pts_part (HPP.out.new h1) (E + 1) (s - (E + 1)) (by omega)
              rw [List.take_of_length_le (by rw [HDE.out]; exact Nat.le_refl _)] at this
              simpa using this)
            have HLE := Lib.hid (show (r.eraseIdx E).length = s - 1 by rw [List.length_eraseIdx, if_pos (by rw [HLQ.out]; exact e1), HLQ.out])
            have HLT := Lib.hid (show (tr ++ [trAt r s E]).length = q + 1 by rw [List.length_append, HQ.out]; rfl)
            have HEN := Lib.hid (show earsF (s - 1) (r.eraseIdx E) (tr ++ [trAt r s E]) = trisL l by
              have h1 := HE.out
              obtain ⟨f, hf⟩ : ∃ f, s = f + 1 := ⟨s - 1, by omega⟩
              have h2 : earsF (f + 1) r tr = trisL l := by rw [← hf]; exact h1
              simp only [earsF] at h2
              rw [if_pos (by rw [HLQ.out]; exact h4), HLQ.out, HEE.out] at h2
              rw [show s - 1 = f by omega]
              exact h2)
            have HAR := Lib.hid (show E + (s - (E + 1)) = s - 1 by omega)
            by_cases hE0 : E = 0
            · subst hE0
              have z1 : IntKind.i64.wrap 1 = 1 := by decide
              have z2 : (1 : Int) ≤ (s : Int) := by omega
              have z3 : ¬ cap = 1 := by omega
              have z4 : (1 : Int).toNat = 1 := rfl
              have HEI := Lib.hid (show ([] : List P2) ++ r.drop (0 + 1) = r.eraseIdx 0 by cases r <;> rfl)
              go_upto_region 17 with fail
              go_region_law (first | (refine step_copyU rfl (.tmp 66) (.tmp 70) rfl W0.heap.size (.slice (some ⟨W0.heap.size, 0, none⟩) 0 0) 0 [] rfl ?_ ⟨g, (0 + 1) * 2, none⟩ (s - (0 + 1)) (cap - (0 + 1)) (r.drop (0 + 1)) rfl HDE.out ?_ (by omega) (by omega) ?_ ?_; (exact own_new (own_noneU (W := W0) rfl (Nat.le_refl _)) (by (repeat (first | exact New.refl _ | apply New.alloc | apply New.aft | apply New.drew)))); (exact HWB.out _ (by (repeat (first | exact New.refl _ | apply New.alloc | apply New.aft | apply New.drew)))); (exact New.size (by (repeat (first | exact New.refl _ | apply New.alloc | apply New.aft | apply New.drew)))); intro g5 cap5 w5 hown5 hgrow5 hor5 hlt5; have HO5 := Lib.hid hown5; have HN5 := Lib.hid (show New W0 w5 from new_grown (by (repeat (first | exact New.refl _ | apply New.alloc | apply New.aft | apply New.drew))) hgrow5 (own_noneU (W := W0) rfl (Nat.le_refl _)))))
              all_goals (go_wp2_with fail)
              all_goals
                have HO6 := Lib.hid (show w5.ownsRow W0.heap.size 23 2 (.slice (some ⟨g5, 0, none⟩) (s - 1) cap5) (s - 1) (ptCells (r.eraseIdx 0)) from by have h := HO5.out; rw [HAR.out, HEI.out] at h; exact h)
                have hg5 := (HO6.out.lt g5 rfl).1
                go_roundg (s - 1)
                case measure => omega
                case rel =>
                  refine ⟨g5, cap5, r.eraseIdx 0, tr ++ [trAt r s 0], ⟨by first | rw [HLE.out, HAR.out] | rw [HLE.out], by rw [HLE.out]; exact own_capU HO6.out, by rw [HLE.out]; exact pts_own (own_new HO6.out (by (repeat (first | exact New.refl _ | apply New.alloc | apply New.aft | apply New.drew)))) HLE.out, fun e => by simp [Value.ownBlock] at e; omega⟩, by rw [HLT.out]; exact own_new HTO.out (by (repeat (first | exact HN5.out | apply New.alloc | apply New.aft | apply New.drew))), ⟨by rw [HLE.out]; omega, by rw [HLE.out, HLT.out]; omega, by rw [HLE.out]; exact Nat.le_refl _⟩, HER.out, by rw [HLE.out]; exact HEN.out, HNN.out.trans (by (repeat (first | exact HN5.out | apply New.alloc | apply New.aft | apply New.drew)))⟩
            · have HEI := Lib.hid (show r.take E ++ r.drop (E + 1) = r.eraseIdx E from (List.eraseIdx_eq_take_drop_succ ..).symm)
              go_upto_region 17 with fail
              go_region_law (first | (refine step_copyU rfl (.tmp 62) (.tmp 65) rfl W0.heap.size (.slice (some ⟨W0.heap.size, 0, none⟩) 0 0) 0 [] rfl ?_ ⟨g, 0, none⟩ E cap (r.take E) rfl HTE.out ?_ (by omega) (by omega) ?_ ?_; (exact own_new (own_noneU (W := W0) rfl (Nat.le_refl _)) (by (repeat (first | exact New.refl _ | apply New.alloc | apply New.aft | apply New.drew)))); (exact HWA.out _ (by (repeat (first | exact New.refl _ | apply New.alloc | apply New.aft | apply New.drew)))); (exact New.size (by (repeat (first | exact New.refl _ | apply New.alloc | apply New.aft | apply New.drew)))); intro g4 cap4 w4 hown4 hgrow4 hor4 hlt4; simp only [Nat.zero_add, List.nil_append] at hown4; have HN4 := Lib.hid (show New W0 w4 from new_grown (by (repeat (first | exact New.refl _ | apply New.alloc | apply New.aft | apply New.drew))) hgrow4 (own_noneU (W := W0) rfl (Nat.le_refl _))); have HO4 := Lib.hid hown4) | (refine step_copyU rfl (.tmp 66) (.tmp 70) rfl W0.heap.size (.slice (some ⟨g4, 0, none⟩) E cap4) E (r.take E) rfl ?_ ⟨g, (E + 1) * 2, none⟩ (s - (E + 1)) (cap - (E + 1)) (r.drop (E + 1)) rfl HDE.out ?_ (by omega) (by omega) ?_ ?_; (exact own_new HO4.out (by (repeat (first | exact New.refl _ | apply New.alloc | apply New.aft | apply New.drew)))); (exact HWB.out _ (by (repeat (first | exact HN4.out | apply New.alloc | apply New.aft | apply New.drew)))); (exact New.size (by (repeat (first | exact HN4.out | apply New.alloc | apply New.aft | apply New.drew)))); intro g5 cap5 w5 hown5 hgrow5 hor5 hlt5; have HO5 := Lib.hid hown5; have HN5 := Lib.hid (show New W0 w5 from new_grown (by (repeat (first | exact HN4.out | apply New.alloc | apply New.aft | apply New.drew))) hgrow5 HO4.out)))
              all_goals (go_wp2_with fail)
              all_goals
                have HO6 := Lib.hid (show w5.ownsRow W0.heap.size 23 2 (.slice (some ⟨g5, 0, none⟩) (s - 1) cap5) (s - 1) (ptCells (r.eraseIdx E)) from by have h := HO5.out; rw [HAR.out, HEI.out] at h; exact h)
                have hg5 := (HO6.out.lt g5 rfl).1
                go_roundg (s - 1)
                case measure => omega
                case rel =>
                  refine ⟨g5, cap5, r.eraseIdx E, tr ++ [trAt r s E], ⟨by first | rw [HLE.out, HAR.out] | rw [HLE.out], by rw [HLE.out]; exact own_capU HO6.out, by rw [HLE.out]; exact pts_own (own_new HO6.out (by (repeat (first | exact New.refl _ | apply New.alloc | apply New.aft | apply New.drew)))) HLE.out, fun e => by simp [Value.ownBlock] at e; omega⟩, by rw [HLT.out]; exact own_new HTO.out (by (repeat (first | exact HN5.out | apply New.alloc | apply New.aft | apply New.drew))), ⟨by rw [HLE.out]; omega, by rw [HLE.out, HLT.out]; omega, by rw [HLE.out]; exact Nat.le_refl _⟩, HER.out, by rw [HLE.out]; exact HEN.out, HNN.out.trans (by (repeat (first | exact HN5.out | apply New.alloc | apply New.aft | apply New.drew)))⟩
    · have hk3 : k = 3 := by omega
      obtain ⟨_, hbs, hcell⟩ := HPT.out
      obtain ⟨a1, a2⟩ := hcell 0 (by omega)
      obtain ⟨b1, b2⟩ := hcell 1 (by omega)
      obtain ⟨c1, c2⟩ := hcell 2 (by omega)
      clear hcell
      simp only [Nat.zero_mul, Nat.one_mul, Nat.zero_add, Nat.reduceMul, Nat.reduceAdd] at a1 a2 b1 b2 c1 c2
      have hk0 : (0 : Int) < (k : Int) := by omega
      have hk1 : (1 : Int) < (k : Int) := by omega
      have hk2 : (2 : Int) < (k : Int) := by omega
      have HEN := Lib.hid (show tr ++ [((px r 0, py r 0), (px r 1, py r 1), (px r 2, py r 2))] = trisL l by
        have h1 := HE.out
        obtain ⟨f, hf⟩ : ∃ f, k = f + 1 := ⟨k - 1, by omega⟩
        have h2 : earsF (f + 1) r tr = trisL l := by rw [← hf]; exact h1
        simp only [earsF] at h2
        rw [if_neg (by rw [HK.out]; exact h4)] at h2
        exact h2)
      have HN9 := Lib.hid HNEW.out
      have HN8 := Lib.hid (show New w wt from HN2.out.trans HNEW.out)
      have HO8 := Lib.hid (show ∀ w1, New wt w1 → w1.ownsRow w2.heap.size 75 6 u6 q (trCells tr) from fun w1 h1 => own_new HOT.out h1)
      have hbase := HNEW.out.size
      generalize px r 0 = A1 at *
      generalize py r 0 = A2 at *
      generalize px r 1 = B1 at *
      generalize py r 1 = B2 at *
      generalize px r 2 = C1 at *
      generalize py r 2 = C2 at *
      subst hk3
      clear hk0 hk1 hk2 hr3 h4 HPT HOB HEO HNEW HBR HE
      have HLEN3 := Lib.hid (show q + 1 = (trisL l).length by rw [← HEN.out, List.length_append, HQ.out]; rfl)
      go_wp2_with fail
      go_region_law (first | (refine step_append_lies _ ?_ (.tmp 72) (.tmp 83) 53 ?_ w2.heap.size 75 i0 _ 6 48 Tryz.underlying53 hi hz0 hz1 hz2 rfl (by omega) u6 q (trCells tr) ?_ ?_ ⟨wt.heap.size, 0, none⟩ 1 1 [.int .i64 A1, .int .i64 A2, .int .i64 B1, .int .i64 B2, .int .i64 C1, .int .i64 C2] ?_ rfl ?_ ?_ (by omega) ?_ ?_ ?_ _ rfl ?_; exact rfl; exact rfl; exact rfl; exact HO8.out _ (by (repeat (first | exact New.refl _ | apply New.alloc | apply New.aft | apply New.drew | refine New.setCell ?_ ?_ _)); all_goals (first | done | (simp [size_aft]; done) | (simp [size_aft]; omega))); exact rfl; (refine cells_new _ _ _ _ ?_); (simp [go_sem]); (intro u hu; simp at hu; rcases hu with rfl | rfl | rfl | rfl | rfl | rfl <;> rfl); (unfold maxLen; omega); omega; (simp [go_sem]; omega); intro g4 cap4 w5 hown5 hgrow5 hor5 hlt5))
      all_goals (go_wp2_with fail; go_ret2; exact ⟨_, w2.heap.size, rfl, by rw [← HLEN3.out, ← HEN.out, trCells_snoc]; exact hown5, HN2.out.trans (new_grown (by (repeat (first | exact HN9.out | exact New.refl _ | apply New.alloc | apply New.aft | apply New.drew | refine New.setCell ?_ ?_ _)); all_goals (first | done | (simp [size_aft]; done) | (simp [size_aft]; omega))) hgrow5 HOT.out)⟩)

end Go.Proofs.YtpdfbboagaflhaaGreat

set_option linter.unusedSimpArgs false
set_option linter.unusedVariables false
set_option maxRecDepth 100000
namespace Go.Proofs.YtpdfbboagaflhaaGreat
open Go.RowKit

def TriAt (w : World) (g k : Nat) (t : T6) : Prop := (w.cell? ⟨g, k * 6, none⟩ = some (.int .i64 t.1.1) ∧ w.cell? ⟨g, k * 6 + 1, none⟩ = some (.int .i64 t.1.2)) ∧ (w.cell? ⟨g, k * 6 + 2, none⟩ = some (.int .i64 t.2.1.1) ∧ w.cell? ⟨g, k * 6 + 3, none⟩ = some (.int .i64 t.2.1.2)) ∧ w.cell? ⟨g, k * 6 + 4, none⟩ = some (.int .i64 t.2.2.1) ∧ w.cell? ⟨g, k * 6 + 5, none⟩ = some (.int .i64 t.2.2.2)
theorem trCells_get : ∀ (T : List T6) (k : Nat) (t : T6), T[k]? = some t → (trCells T)[k * 6]? = some (.int .i64 t.1.1) ∧ (trCells T)[k * 6 + 1]? = some (.int .i64 t.1.2) ∧ (trCells T)[k * 6 + 2]? = some (.int .i64 t.2.1.1) ∧ (trCells T)[k * 6 + 3]? = some (.int .i64 t.2.1.2) ∧ (trCells T)[k * 6 + 4]? = some (.int .i64 t.2.2.1) ∧ (trCells T)[k * 6 + 5]? = some (.int .i64 t.2.2.2)
  | [], k, t, h => by simp at h
  | ((a, b), (c, d), (e, f)) :: T, 0, t, h => by
    have : t = ((a, b), (c, d), (e, f)) := by simpa using h.symm
    subst this
    simp [trCells]
  | ((a, b), (c, d), (e, f)) :: T, k + 1, t, h => by
    have ih := trCells_get T k t (by simpa using h)
    have he : trCells (((a, b), (c, d), (e, f)) :: T) = [.int .i64 a, .int .i64 b, .int .i64 c, .int .i64 d, .int .i64 e, .int .i64 f] ++ trCells T := by simp [trCells]
    rw [he]
    have go : ∀ j, ([.int .i64 a, .int .i64 b, .int .i64 c, .int .i64 d, .int .i64 e, .int .i64 f] ++ trCells T : List Value)[(k + 1) * 6 + j]? = (trCells T)[k * 6 + j]? := fun j => by
      rw [List.getElem?_append_right (by simp; omega)]
      congr 1
      simp; omega
    have g0 := go 0
    simp only [Nat.add_zero] at g0
    rw [g0, go 1, go 2, go 3, go 4, go 5]
    exact ih
theorem triAt_own {w : World} {base g m cap : Nat} {T : List T6} (h : w.ownsRow base 75 6 (.slice (some ⟨g, 0, none⟩) m cap) m (trCells T)) (hm : T.length = m) : ∀ k, k < m → TriAt w g k (T.getD k ((0, 0), (0, 0), (0, 0))) := by
  intro k hk
  have hc := h.cells (g := g) rfl
  have hadd : ∀ j, (⟨g, 0, none⟩ : Addr).add j = ⟨g, j, none⟩ := by intro j; unfold Addr.add; split <;> simp_all
  have ht : T[k]? = some (T.getD k ((0, 0), (0, 0), (0, 0))) := by
    rw [List.getD_eq_getElem?_getD]; cases e : T[k]? with
    | none => rw [List.getElem?_eq_none_iff] at e; omega
    | some t => rfl
  obtain ⟨t1, t2, t3, t4, t5, t6⟩ := trCells_get T k _ ht
  refine ⟨⟨?_, ?_⟩, ⟨?_, ?_⟩, ?_, ?_⟩
  all_goals (rw [← hadd]; apply hc; assumption)

set_option maxHeartbeats 4000000 in
theorem sameTris_c (ga ca gb cb m B1 B2 : Nat) (T : List T6) (w : World) (hm : T.length = m) (hl : m ≤ 1000000) (h1 : w.ownsRow B1 75 6 (.slice (some ⟨ga, 0, none⟩) m ca) m (trCells T)) (h2 : w.ownsRow B2 75 6 (.slice (some ⟨gb, 0, none⟩) m cb) m (trCells T)) :
    Calls Tryz.prog 61 #[.slice (some ⟨ga, 0, none⟩) m ca, .slice (some ⟨gb, 0, none⟩) m cb] w fun en w' => en = .returned (.bool true) ∧ New w w' := by
  have G1 := Lib.hid (triAt_own h1 hm)
  have G2 := Lib.hid (triAt_own h2 hm)
  have t0 : ((m : Int) != (m : Int)) = false := by simp
  have b1 := (h1.lt ga rfl).2
  have b2 := (h2.lt gb rfl).2
  have HM := Lib.hid hm
  clear h1 h2 hm
  go_enter Tryz.func61, Tryz.ntmps61
  go_wp2_with fail
  go_loopw [5] (fun i wr => ∃ k : Nat, k ≤ m ∧ i = .int .i64 k ∧ New w wr) (fun i _ => m - (intOf i).toNat)
  case atStart => exact ⟨0, Nat.zero_le _, rfl, New.refl _⟩
  case round =>
    obtain ⟨k, hk, rfl, hn⟩ := hrel
    have HN := Lib.hid hn
    by_cases hlt : k < m
    · obtain ⟨⟨c1, c2⟩, ⟨c3, c4⟩, c5, c6⟩ := G1.out k hlt
      obtain ⟨⟨d1, d2⟩, ⟨d3, d4⟩, d5, d6⟩ := G2.out k hlt
      have L1 := fun o => hn.below.cell (p := ⟨ga, o, none⟩) b1
      have L2 := fun o => hn.below.cell (p := ⟨gb, o, none⟩) b2
      replace c1 := (L1 _).trans c1
      replace c2 := (L1 _).trans c2
      replace c3 := (L1 _).trans c3
      replace c4 := (L1 _).trans c4
      replace c5 := (L1 _).trans c5
      replace c6 := (L1 _).trans c6
      replace d1 := (L2 _).trans d1
      replace d2 := (L2 _).trans d2
      replace d3 := (L2 _).trans d3
      replace d4 := (L2 _).trans d4
      replace d5 := (L2 _).trans d5
      replace d6 := (L2 _).trans d6
      have hkn : (k : Int) < (m : Int) := by omega
      clear L1 L2 G1 G2 hn
      generalize T.getD k ((0, 0), (0, 0), (0, 0)) = t at *
      obtain ⟨⟨A1, A2⟩, ⟨B1, B2⟩, C1, C2⟩ := t
      simp only at c1 c2 c3 c4 c5 c6 d1 d2 d3 d4 d5 d6
      have e1 : (A1 == A1) = true := by simp
      have e2 : (A2 == A2) = true := by simp
      have e3 : (B1 == B1) = true := by simp
      have e4 : (B2 == B2) = true := by simp
      have e5 : (C1 == C1) = true := by simp
      have e6 : (C2 == C2) = true := by simp
      go_wp2_with fail
      go_region
      go_wp2_with fail
      go_roundw
      case rel => exact ⟨k + 1, by omega, by go_num, (by (repeat (first | exact HN.out | exact New.refl _ | apply New.alloc | apply New.aft | apply New.drew | refine New.setCell ?_ ?_ _)); all_goals (first | done | (simp [size_aft]; done) | (simp [size_aft]; omega)))⟩
      case measure => simp [intOf]; omega
    · go_wp2_with fail
      go_ret
      exact ⟨rfl, HN.out⟩
  done

theorem triangles_err (v : Value) (E : Int) (w : World) (hE : E ≠ 0) (H : Hid (Calls Tryz.prog 50 #[v] w fun en w' => en = .returned (.tuple #[.slice none 0 0, .int .i64 E]) ∧ New w w')) :
    Calls Tryz.prog 59 #[v] w fun en w' => en = .returned (.tuple #[.slice none 0 0, .int .i64 E]) ∧ New w w' := by
  have q2 : (E != 0) = true := by simpa using hE
  go_enter Tryz.func59, Tryz.ntmps59
  go_wp2_with (go_at_call 50; refine H.out.mono ?_; rintro e w2 ⟨rfl, hn⟩; have HN1 := Lib.hid hn; clear hn)
  go_ret2; exact ⟨rfl, HN1.out⟩
theorem ref_triangles_err (v : Value) (E : Int) (w : World) (hE : E ≠ 0) (H : Hid (Calls Tryz.prog 51 #[v] w fun en w' => en = .returned (.tuple #[.slice none 0 0, .int .i64 E]) ∧ New w w')) :
    Calls Tryz.prog 60 #[v] w fun en w' => en = .returned (.tuple #[.slice none 0 0, .int .i64 E]) ∧ New w w' := by
  have q2 : (E != 0) = true := by simpa using hE
  go_enter Tryz.func60, Tryz.ntmps60
  go_wp2_with (go_at_call 51; refine H.out.mono ?_; rintro e w2 ⟨rfl, hn⟩; have HN1 := Lib.hid hn; clear hn)
  go_ret2; exact ⟨rfl, HN1.out⟩
theorem sameTris_nil (w : World) : Calls Tryz.prog 61 #[.slice none 0 0, .slice none 0 0] w fun en w' => en = .returned (.bool true) ∧ New w w' := by
  go_enter Tryz.func61, Tryz.ntmps61
  go_wp2_with fail
  refine wp_loop_rounds 1 ?_
  repeat any_goals (rw [rounds_succ]; go_wp2)
  go_ret; exact ⟨rfl, New.refl _⟩

/-- what a call of Triangles leaves, of either -/
def TriR (R : Prop) (w : World) (v : Value) (E : Int) (en : Ending) (w' : World) : Prop := en = .returned (.tuple #[v, .int .i64 E]) ∧ New w w'

set_option maxHeartbeats 4000000 in
theorem tri_long (av : Option Addr) (n c : Nat) (w : World) (h : 24 < n) : Calls Tryz.prog 13 #[.slice av n c] w fun e w' => e = .returned (.bool true) ∧ New w w' := by
  have k1 : (24 : Int) < (n : Int) := by omega
  have HL := Lib.hid alive_c
  go_enter Tryz.func13, Tryz.ntmps13
  go_wp2_with (go_at_call 31; refine (HL.out _).mono ?_; rintro e w2 ⟨rfl, hn⟩; have HN1 := Lib.hid hn; clear hn)
  go_ret; exact ⟨rfl, HN1.out⟩

set_option maxHeartbeats 4000000 in
theorem tri_err (v : Option Addr) (n c : Nat) (E : Int) (w : World) (h : n ≤ 24) (hE : E ≠ 0)
    (H1 : Hid (∀ w1, New w w1 → Calls Tryz.prog 50 #[.slice v n c] w1 fun en w' => en = .returned (.tuple #[.slice none 0 0, .int .i64 E]) ∧ New w1 w'))
    (H2 : Hid (∀ w1, New w w1 → Calls Tryz.prog 51 #[.slice v n c] w1 fun en w' => en = .returned (.tuple #[.slice none 0 0, .int .i64 E]) ∧ New w1 w')) :
    Calls Tryz.prog 13 #[.slice v n c] w fun e w' => e = .returned (.bool true) ∧ New w w' := by
  have k1 : ¬ (24 : Int) < (n : Int) := by omega
  have HL := Lib.hid alive_c
  have HA := Lib.hid (fun w1 h1 => triangles_err (.slice v n c) E w1 hE (Lib.hid (H1.out w1 h1)))
  have HB := Lib.hid (fun w1 h1 => ref_triangles_err (.slice v n c) E w1 hE (Lib.hid (H2.out w1 h1)))
  have q1 : (E == E) = true := by simp
  clear H1 H2
  go_enter Tryz.func13, Tryz.ntmps13
  go_wp2_with (first | (go_at_call 59; refine (HA.out _ (New.refl _)).mono ?_; rintro e w2 ⟨rfl, hn⟩; have HN1 := Lib.hid hn; clear hn) | (go_at_call 60; refine (HB.out _ HN1.out).mono ?_; rintro e w3 ⟨rfl, hn⟩; have HN2 := Lib.hid hn; clear hn) | (go_at_call 31; refine (HL.out _).mono ?_; rintro e w4 ⟨rfl, hn⟩; have HN3 := Lib.hid hn; clear hn) | (go_at_call 61; refine (sameTris_nil _).mono ?_; rintro e w5 ⟨rfl, hn⟩; have HN4 := Lib.hid hn; clear hn))
  go_ret; exact ⟨rfl, HN1.out.trans (HN2.out.trans (HN3.out.trans HN4.out))⟩

set_option maxHeartbeats 4000000 in
theorem tri_yes (b off n c : Nat) (l : List P2) (w : World) (h : n ≤ 24) (hw : Pts w b off n l) (hp : polyI l = 0) :
    Calls Tryz.prog 13 #[.slice (some ⟨b, off, none⟩) n c] w fun e w' => e = .returned (.bool true) ∧ New w w' := by
  have k1 : ¬ (24 : Int) < (n : Int) := by omega
  have hE := Geo.earOk_norm hp
  obtain ⟨f1, f2, f3, f4, f5, f6, f7, f8⟩ := norm_facts hp
  have hl := hw.1
  have HL := Lib.hid alive_c
  have HTL := Lib.hid (show (trisL l).length + 2 = (normL l).length by
    have := earsF_len (normL l).length (normL l) [] hE.si.three (Nat.le_refl _)
    have h3 := hE.si.three
    unfold trisL
    simp only [List.length_nil] at this
    omega)
  have HA := Lib.hid (triangles_yes b off n c l w (by omega) (by omega) hw hp (by rw [← f4]; exact hE.si.three) (bdL_ok hE.ok))
  have HB := Lib.hid (fun w1 (h1 : New w w1) => show Calls Tryz.prog 60 #[.slice (some ⟨b, off, none⟩) n c] w1 fun en w' => ∃ B g cap, en = .returned (.tuple #[.slice (some ⟨g, 0, none⟩) (trisL l).length cap, .int .i64 0]) ∧ w'.ownsRow B 75 6 (.slice (some ⟨g, 0, none⟩) (trisL l).length cap) (trisL l).length (trCells (trisL l)) ∧ New w1 w' from
    (ref_triangles_yes b off n c l w1 (hw.new h1) hp).mono (by
      rintro en w' ⟨v, B, rfl, ho, hn⟩
      rcases ho.2 with ⟨rfl, h0⟩ | ⟨g, cap, cur, rfl, _⟩
      · have h3 := hE.si.three
        have := HTL.out
        omega
      · exact ⟨B, g, cap, rfl, ho, hn⟩))
  have HLE := Lib.hid (show (trisL l).length ≤ 1000000 by have := HTL.out; omega)
  clear hw hp hE f1 f2 f3 f4 f5 f6 f7 f8 hl HTL
  have HSL := Lib.hid (show (trisL l).length = (trisL l).length from rfl)
  generalize hTR : trisL l = TR at *
  clear hTR
  have HS := Lib.hid (fun (ga ca gb cb B1 B2 : Nat) (w1 : World) => sameTris_c ga ca gb cb TR.length B1 B2 TR w1 rfl HLE.out)
  generalize TR.length = m at *
  go_enter Tryz.func13, Tryz.ntmps13
  go_wp2_with (first | (go_at_call 59; refine HA.out.mono ?_; rintro e w2 ⟨ga, ca, rfl, ho1, hn⟩; have HO1 := Lib.hid ho1; have HN1 := Lib.hid hn; clear hn ho1) | (go_at_call 60; refine (HB.out _ HN1.out).mono ?_; rintro e w3 ⟨B, gb, cb, rfl, ho2, hn⟩; have HO2 := Lib.hid ho2; have HN2 := Lib.hid hn; clear hn ho2) | (go_at_call 31; refine (HL.out _).mono ?_; rintro e w4 ⟨rfl, hn⟩; have HN3 := Lib.hid hn; clear hn) | (go_at_call 61; refine (HS.out ga ca gb cb _ _ _ (own_new HO1.out (HN2.out.trans HN3.out)) (own_new HO2.out HN3.out)).mono ?_; rintro e w5 ⟨rfl, hn⟩; have HN4 := Lib.hid hn; clear hn))
  go_ret; exact ⟨rfl, HN1.out.trans (HN2.out.trans (HN3.out.trans HN4.out))⟩

theorem planeTriangles_all (w : World) (av : Option Addr) (n c : Nat) (l : List P2) (hl : l.length = n) (hp : 0 < n → ∃ b off, av = some ⟨b, off, none⟩ ∧ Pts w b off n l) : Calls Tryz.prog 13 #[.slice av n c] w fun e w' => e = .returned (.bool true) ∧ New w w' := by
  by_cases h : 24 < n
  · exact tri_long av n c w h
  · by_cases h0 : 0 < n
    · obtain ⟨b, off, rfl, hw⟩ := hp h0
      by_cases hpo : polyI l = 0
      · exact tri_yes b off n c l w (by omega) hw hpo
      · exact tri_err _ n c (polyI l) w (by omega) hpo (Lib.hid fun w1 h1 => normal_no b off n c l w1 h0 (by omega) (hw.new h1) hpo) (Lib.hid fun w1 h1 => ref_normal_no b off n c l w1 h0 (by omega) (hw.new h1) hpo)
    · obtain rfl : n = 0 := by omega
      exact tri_err av 0 c 1 w (by omega) (by decide) (Lib.hid fun w1 _ => normal_nil av c w1) (Lib.hid fun w1 _ => ref_normal_nil av c w1)

end Go.Proofs.YtpdfbboagaflhaaGreat

set_option linter.unusedSimpArgs false
set_option linter.unusedVariables false
set_option linter.constructorNameAsVariable false
namespace Go.Proofs.YtpdfbboagaflhaaGreat
open Go.ChangeShapes Go.WideShapes Go.ChangeAt Go.RowKit Go.Joins
set_option maxRecDepth 100000

theorem jTr_wf : Rows.planeTrianglesRow.wf (OpenSpec.ofChange Rows.planeTrianglesSpec) = true := by kernel_rfl
theorem jTr_par : Tryz.f13.params.all (Tryz.prog.readableRec ·) = true := by kernel_rfl
theorem jTr_tie : namedTie Tryz.prog Rows.planeTrianglesRow.named Rows.planeTrianglesSpec.vars = true := by kernel_rfl
theorem jTr_st : (Rows.planeTrianglesRow.stops == []) = true := by kernel_rfl
theorem jTr_kn : (Rows.planeTrianglesRow.knobs == []) = true := by kernel_rfl
theorem jTr_inp : (Rows.planeTrianglesRow.inPlace == Tryz.prog.inPlace 13) = true := by kernel_rfl
theorem jTr_unf : (Rows.planeTrianglesRow.unfollowed == Tryz.prog.unfollowed 13) = true := by kernel_rfl
theorem jTr_rec : (Rows.planeTrianglesRow.recurses == Tryz.prog.recurses 13) = true := by kernel_rfl
theorem jTr_nam : (Rows.planeTrianglesRow.named == Tryz.prog.varsNamed 13) = true := by kernel_rfl
theorem jTr_maps : (Rows.planeTrianglesRow.maps == (Tryz.f13.params.toList ++ Rows.planeTrianglesSpec.plain.varTypes Tryz.prog).any (Tryz.prog.mapsRec ·)) = true := by kernel_rfl
theorem jTr_ifs : (Rows.planeTrianglesRow.ifaces == (Tryz.f13.params.toList ++ Rows.planeTrianglesSpec.plain.varTypes Tryz.prog).any (Tryz.prog.ifacesRec ·)) = true := by kernel_rfl
theorem jTr_mout : (Rows.planeTrianglesRow.mapsOut == Tryz.prog.mapsAmong Tryz.f13.resultTypes.toList) = true := by kernel_rfl
theorem jTr_loops : (Rows.planeTrianglesRow.loops == (Tryz.f13.params.toList ++ Rows.planeTrianglesSpec.plain.varTypes Tryz.prog).any (Tryz.prog.loopsFrom ·)) = true := by kernel_rfl
theorem jTr_wide : (Rows.planeTrianglesRow.wideKeys == (Tryz.f13.params.toList ++ Rows.planeTrianglesSpec.plain.varTypes Tryz.prog ++ Tryz.f13.resultTypes.toList).any (Tryz.prog.wideKeysFrom ·)) = true := by kernel_rfl
theorem jTr_vars : Rows.planeTrianglesSpec.vars.all (Tryz.prog.varReadable ·) = true := by kernel_rfl
theorem jTr_res : Tryz.f13.resultTypes.all (fun t => Tryz.prog.readableRec t && decide (t < Tryz.prog.types.size)) = true := by kernel_rfl
theorem jTr_iout : (Rows.planeTrianglesRow.ifacesOut == Tryz.f13.resultTypes.toList.any (Tryz.prog.ifacesRec ·)) = true := by kernel_rfl
theorem jTr_lout : (Rows.planeTrianglesRow.loopsOut == Tryz.f13.resultTypes.toList.any (Tryz.prog.loopsFrom ·)) = true := by kernel_rfl
theorem jTr_plain : (Rows.planeTrianglesRow.plainKeys == Tryz.prog.plainKeys) = true := by kernel_rfl
theorem jTr_short : Rows.planeTrianglesRow.shortTexts.isNone = true := by kernel_rfl
theorem jTr_lift0 : (Rows.planeTrianglesRow.lifted == false) = true := by kernel_rfl
theorem jTr_lift : (Rows.planeTrianglesRow.lifted == Tryz.prog.liftsFinal) = true := (congrArg (fun b => (Rows.planeTrianglesRow.lifted == b)) lift_is).trans jTr_lift0
theorem jTr_make0 : (some Make.cut == some Rows.planeTrianglesRow.make) = true := by kernel_rfl
theorem jTr_make : (Tryz.prog.make == some Rows.planeTrianglesRow.make) = true := (congrArg (fun b => (b == some Rows.planeTrianglesRow.make)) make_is).trans jTr_make0
theorem jTr_kinds : (Rows.planeTrianglesRow.kinds == (if Rows.planeTrianglesRow.domain.isEmpty then [] else Tryz.f13.params.toList.map fun t => match Tryz.prog.underlying t with | some (.int k) => some k | _ => none)) = true := by kernel_rfl
theorem jTr_pin : (Rows.planeTrianglesRow.pinned == Rows.planeTrianglesRow.pinnedBy) = true := by kernel_rfl
theorem jTr_veil : (Rows.planeTrianglesRow.veiled == (Tryz.f13.params.toList ++ Rows.planeTrianglesSpec.plain.varTypes Tryz.prog ++ Tryz.f13.resultTypes.toList).any (Tryz.prog.veiledRec ·)) = true := by kernel_rfl
theorem jTr_vfit : Rows.planeTrianglesRow.veiledFits Tryz.prog Tryz.f13.params.toList (Tryz.f13.params.toList ++ Rows.planeTrianglesSpec.plain.varTypes Tryz.prog ++ Tryz.f13.resultTypes.toList) = true := by kernel_rfl
theorem jTr_closed : joinedFacts Tryz.prog 13 Tryz.f13 Rows.planeTrianglesSpec Rows.planeTrianglesRow = true := (b_and (b_and (b_and (b_and (b_and (b_and (b_and (b_and (b_and (b_and (b_and (b_and (b_and (b_and (b_and (b_and (b_and (b_and (b_and (b_and (b_and (b_and (b_and (b_and (b_and (b_and (b_and (b_and (b_and (b_and (b_and jTr_wf jp_laid) jp_rowed) jTr_par) jTr_tie) jTr_st) jp_stops) jTr_kn) jp_knobs) jTr_inp) jTr_unf) jTr_rec) jTr_nam) jTr_maps) jTr_ifs) jTr_mout) jTr_loops) jTr_wide) jTr_vars) jTr_res) jTr_iout) jTr_lout) jTr_plain) jTr_short) jp_heard) jp_enter) jTr_lift) jTr_make) jTr_kinds) jTr_pin) jTr_veil) jTr_vfit)
theorem jTr_name : Tryz.prog.funcNamed Rows.planeTrianglesRow.func = some 13 := by kernel_rfl
theorem jTr_inst : Tryz.f13.isInstance Tryz.prog Rows.planeTrianglesRow.origin Rows.planeTrianglesRow.targs := of_decide_eq_true (by kernel_rfl)
theorem jTr_wrap : Tryz.f13.isWrapper Tryz.prog Rows.planeTrianglesRow.wrapper Rows.planeTrianglesRow.mainSum := by unfold Func.isWrapper; rw [if_neg (by decide +kernel)]; exact ⟨rfl, rfl⟩

set_option maxHeartbeats 2000000 in
theorem jTr_lifted (os : Os) (started : os.Started) (H : Type) (enc : TypeId × Value → H) :
    ReturnsInHanded {} Tryz.checked os 13 .any (Rows.planeTrianglesSpec.pre6 enc Tryz.prog Tryz.f13 Rows.planeTrianglesRow.domain false) (Rows.planeTrianglesSpec.post enc Tryz.prog Tryz.f13 false true false false) := by
  refine returnsInHanded_of_change (C := Tryz.checked) own_knob started (by kernel_rfl) Tryz.func13
    (ChangeSpec.witness6 (enc := enc) (C := Tryz.checked) false ⟨#[], #[.slice none 0 0], []⟩ 8 (by kernel_rfl) (by kernel_rfl) (by kernel_rfl) (by kernel_rfl)) ?_
  intro W base args ds gs before hval0 hW hcnd _
  have hval : ∀ (j : Nat) t v, Tryz.f13.params[j]? = some t → args[j]? = some v → Value.okWide Tryz.prog W .any base t v := hval0
  have hW' := hW
  obtain ⟨p, q, hA0, hV, rfl, hfz, hnd⟩ := hW
  have hA : DataW.TrodAll enc Tryz.prog W 0 (fun _ => true) true Tryz.f13.params.toList args.toList ds p := hA0
  rw [Tryz.params13] at hA hval
  obtain ⟨v0, vs0, d0, ds0, p0, q0, hargs, rfl, rfl, h0, r0⟩ := trodAll_cons hA
  obtain ⟨rfl, rfl, rfl⟩ := trodAll_nil r0
  obtain rfl : args = #[v0] := by cases args; simp_all
  obtain ⟨rfl, rfl⟩ := trodVars_none hV
  have hlt : ∀ x ∈ p0, x.block < W.heap.size := fun x hx => hW'.lt x (by simpa using hx)
  have g0 := h0
  obtain ⟨av0, n0, cap0, l0, rfl, hl0, hp0⟩ := open_pts (hval 0 40 v0 rfl rfl) h0
  clear hA0 hval0 hval
  refine (planeTriangles_all W av0 n0 cap0 l0 hl0 hp0).mono fun e W' ⟨he, hg⟩ => ?_
  subst he
  have t0 := Below.trod laidOut (by kernel_rfl) (of_decide_eq_true (by kernel_rfl)) g0 hg.below (fun x hx => hlt x (by simp [hx]))
  exact ⟨_, rfl, _, _, _, _, _, _, hW', trodAll_cons_mk (shut_bool Tryz.underlying4 _) trodAll_mk0, trodAll_cons_mk t0 trodAll_mk0, rfl, hg.below.frame _, fun h => by cases h⟩

/-- PlaneTriangles, as it is given -/
theorem planeTriangles_proved : Rows.PlaneTrianglesSaid :=
  OpenClaim.holds_of_wide 13 Tryz.f13 rfl rfl rfl rfl rfl rfl rfl ⟨rfl, rfl, rfl, rfl, rfl⟩ rfl rfl rfl rfl rfl jTr_name Tryz.func13 jTr_closed jTr_inst jTr_wrap
    (fun os started H enc _ => jTr_lifted os started H enc)

end Go.Proofs.YtpdfbboagaflhaaGreat
