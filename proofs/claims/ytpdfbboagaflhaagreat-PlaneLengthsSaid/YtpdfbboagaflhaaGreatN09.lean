/- PlaneLengths returns true for every input, and its arguments read afterwards as before: the given statement, without a condition. -/
import Derived.Test.YtpdfbboagaflhaaGreatN10
import Derived.Deep.RegionHeld3
import Derived.Deep.RegionWith
import Derived.BigRegion
import Derived.LoopTactic
import Derived.Test.YtpdfbboagaflhaaGreatM51
import Derived.Test.YtpdfbboagaflhaaGreatRows
import Derived.ProofKit
import Derived.OpenShut
import Derived.Lib.SmallJoins
import Derived.Carry

set_option linter.unusedSimpArgs false
set_option linter.unusedVariables false
set_option maxRecDepth 100000
namespace Go.Proofs.YtpdfbboagaflhaaGreat
open Go.RowKit

def mnTo (f : Nat → Int) : Nat → Int
  | 0 => f 0
  | k + 1 => min (mnTo f k) (f k)
def mxTo (f : Nat → Int) : Nat → Int
  | 0 => f 0
  | k + 1 => max (mxTo f k) (f k)
def boxV (l : List P2) (n : Nat) : Value := .tuple #[pv (mnTo (px l) n) (mnTo (py l) n), pv (mxTo (px l) n) (mxTo (py l) n), .bool true]
def boxNo : Value := .tuple #[pv 0 0, pv 0 0, .bool false]

set_option maxHeartbeats 2000000 in
theorem box_nil (v : Option Addr) (c : Nat) (w : World) : Calls Tryz.prog 40 #[.slice v 0 c] w fun en w' => en = .returned boxNo ∧ New w w' := by
  go_enter Tryz.func40, Tryz.ntmps40
  go_wp2_with fail
  all_goals (refine bodyPost_ret (v := boxNo) (by simp [results, Tryz.results40, go_sem, boxNo]) rfl ⟨rfl, ?_⟩; (repeat (first | exact New.refl _ | apply New.alloc | apply New.aft | apply New.drew | refine New.setCell ?_ ?_ _)); all_goals (first | done | (simp [size_aft]; done) | (simp [size_aft]; omega)))

set_option maxHeartbeats 2000000 in
theorem box_no (b off n c : Nat) (l : List P2) (w : World) (h0 : 0 < n) (hl : n ≤ 1000000) (hw : Pts w b off n l) (hok : okL l = false) : Calls Tryz.prog 40 #[.slice (some ⟨b, off, none⟩) n c] w fun en w' => en = .returned boxNo ∧ New w w' := by
  have HW := Lib.hid hw
  have hck : ckPts l n = 1 := by simp [ckPts, hw.1, hok]
  have HC := Lib.hid (fun (w1 : World) (h1 : New w w1) => checkPoints_c b off n c l n w1 (by omega) (HW.out.new h1))
  rw [hck] at HC
  have hnz : (n = 0) = False := eq_false (by omega)
  clear hw hck hok
  go_enter Tryz.func40, Tryz.ntmps40
  go_wp2_with (go_at_call 84; refine (HC.out _ (by (repeat (first | exact New.refl _ | apply New.alloc | apply New.aft | apply New.drew | refine New.setCell ?_ ?_ _)); all_goals (first | done | (simp [size_aft]; done) | (simp [size_aft]; omega)))).mono ?_; rintro e w1 ⟨rfl, pw, rfl⟩)
  all_goals (refine bodyPost_ret (v := boxNo) (by simp [results, Tryz.results40, go_sem, boxNo]) rfl ⟨rfl, ?_⟩; (repeat (first | exact New.refl _ | apply New.alloc | apply New.aft | apply New.drew | refine New.setCell ?_ ?_ _)); all_goals (first | done | (simp [size_aft]; done) | (simp [size_aft]; omega)))

/-- the two results lie in cells of the call's own -/
def Low4 (w : World) (H : Nat) (a b c d : Int) : Prop := H + 1 < w.heap.size ∧ (w.cell? ⟨H, 0, none⟩ = some (.int .i64 a) ∧ w.cell? ⟨H, 1, none⟩ = some (.int .i64 b)) ∧ (w.cell? ⟨H + 1, 0, none⟩ = some (.int .i64 c) ∧ w.cell? ⟨H + 1, 1, none⟩ = some (.int .i64 d)) ∧ (∀ o, w.frozen? ⟨H, o, none⟩ = false) ∧ (∀ o, w.frozen? ⟨H + 1, o, none⟩ = false)

set_option maxHeartbeats 8000000 in
theorem box_yes (b off n c : Nat) (l : List P2) (w : World) (h0 : 0 < n) (hl : n ≤ 1000000) (hw : Pts w b off n l) (hok : okL l = true) :
    Calls Tryz.prog 40 #[.slice (some ⟨b, off, none⟩) n c] w fun en w' => en = .returned (boxV l n) ∧ New w w' := by
  have HW := Lib.hid hw
  have hck : ckPts l n = 0 := by simp [ckPts, hw.1, hok]
  have HC := Lib.hid (fun (w1 : World) (h1 : New w w1) => checkPoints_c b off n c l n w1 (by omega) (HW.out.new h1))
  rw [hck] at HC
  have hnz : (n = 0) = False := eq_false (by omega)
  obtain ⟨c1, c2⟩ := hw.2.2 0 h0
  have hb := hw.2.1
  have hb1 : b < w.heap.size + 1 := by omega
  have hb2 : b < w.heap.size + 1 + 1 := by omega
  simp only [Nat.zero_mul, Nat.add_zero] at c1 c2
  clear hw hck hok
  go_enter Tryz.func40, Tryz.ntmps40
  go_wp2_with (go_at_call 84; refine (HC.out _ (by (repeat (first | exact New.refl _ | apply New.alloc | apply New.aft | apply New.drew | refine New.setCell ?_ ?_ _)); all_goals (first | done | (simp [size_aft]; done) | (simp [size_aft]; omega)))).mono ?_; rintro e w1 ⟨rfl, pw, rfl⟩)
  go_region
  all_goals (go_wp2_with fail)
  all_goals
    go_loopw [27] (fun i wr => ∃ k : Nat, k ≤ n ∧ i = .int .i64 k ∧ Low4 wr w.heap.size (mnTo (px l) k) (mnTo (py l) k) (mxTo (px l) k) (mxTo (py l) k) ∧ New w wr) (fun i _ => n - (intOf i).toNat)
    case atStart => exact ⟨0, Nat.zero_le _, rfl, by refine ⟨?_, ⟨?_, ?_⟩, ⟨?_, ?_⟩, fun o => ?_, fun o => ?_⟩ <;> simp [go_sem, size_aft, mnTo, mxTo], by ((repeat (first | exact New.refl _ | apply New.alloc | apply New.aft | apply New.drew | refine New.setCell ?_ ?_ _)); all_goals (first | done | (simp [size_aft]; done) | (simp [size_aft]; omega)))⟩
    case round =>
      rename_i wr
      obtain ⟨k, hk, rfl, hlow, hnew⟩ := hrel
      have HNW := Lib.hid hnew
      obtain ⟨_, hb2, hcell2⟩ := HW.out.new hnew
      obtain ⟨hH, ⟨l1, l2⟩, ⟨l3, l4⟩, fz1, fz2⟩ := hlow
      clear hnew
      have hH1 : w.heap.size < wr.heap.size := by omega
      have hH2 : w.heap.size < wr.heap.size + 1 := by omega
      have hH3 : w.heap.size + 1 < wr.heap.size + 1 := by omega
      by_cases hlt : k < n
      · obtain ⟨c3, c4⟩ := hcell2 k hlt
        go_wp2_with fail
        refine ⟨⟨k + 1, by omega, by go_num, ?_, ?_⟩, by simp [intOf]; omega⟩
        · refine ⟨?_, ⟨?_, ?_⟩, ⟨?_, ?_⟩, fun o => ?_, fun o => ?_⟩ <;> simp [go_sem, mnTo, mxTo, *]
        · (repeat (first | exact HNW.out | exact New.refl _ | apply New.alloc | apply New.aft | apply New.drew | refine New.setCell ?_ ?_ _)); all_goals (first | done | (simp [size_aft]; done) | (simp [size_aft]; omega))
      · obtain rfl : k = n := by omega
        go_wp2_with fail
        go_region
        all_goals (go_wp2_with fail)
        all_goals (refine bodyPost_ret (v := boxV l k) (by simp [results, Tryz.results40, go_sem, boxV, *]) rfl ⟨rfl, ?_⟩; (repeat (first | exact HNW.out | exact New.refl _ | apply New.alloc | apply New.aft | apply New.drew | refine New.setCell ?_ ?_ _)); all_goals (first | done | (simp [size_aft]; done) | (simp [size_aft]; omega)))

set_option maxHeartbeats 2000000 in
theorem ref_box_nil (v : Option Addr) (c : Nat) (w : World) : Calls Tryz.prog 41 #[.slice v 0 c] w fun en w' => en = .returned boxNo ∧ New w w' := by
  have HA := Lib.hid (fun w1 : World => ref_allValid_nil w1 v c)
  go_enter Tryz.func41, Tryz.ntmps41
  go_wp2_with (go_at_call 104; refine (HA.out _).mono ?_; rintro e w1 ⟨rfl, pw, rfl⟩)
  all_goals (refine bodyPost_ret (v := boxNo) (by simp [results, Tryz.results41, go_sem, boxNo]) rfl ⟨rfl, ?_⟩; (repeat (first | exact New.refl _ | apply New.alloc | apply New.aft | apply New.drew | refine New.setCell ?_ ?_ _)); all_goals (first | done | (simp [size_aft]; done) | (simp [size_aft]; omega)))

set_option maxHeartbeats 2000000 in
theorem ref_box_no (b off n c : Nat) (l : List P2) (w : World) (h0 : 0 < n) (hl : n ≤ 1000000) (hw : Pts w b off n l) (hok : okL l = false) : Calls Tryz.prog 41 #[.slice (some ⟨b, off, none⟩) n c] w fun en w' => en = .returned boxNo ∧ New w w' := by
  have HW := Lib.hid hw
  have HA := Lib.hid (fun (w1 : World) (h1 : New w w1) => ref_allValid b off n c l w1 (by omega) (HW.out.new h1))
  rw [hok] at HA
  clear hw hok
  go_enter Tryz.func41, Tryz.ntmps41
  go_wp2_with (go_at_call 104; refine (HA.out _ (by (repeat (first | exact New.refl _ | apply New.alloc | apply New.aft | apply New.drew | refine New.setCell ?_ ?_ _)); all_goals (first | done | (simp [size_aft]; done) | (simp [size_aft]; omega)))).mono ?_; rintro e w1 ⟨rfl, pw, rfl⟩)
  all_goals (refine bodyPost_ret (v := boxNo) (by simp [results, Tryz.results41, go_sem, boxNo]) rfl ⟨rfl, ?_⟩; (repeat (first | exact New.refl _ | apply New.alloc | apply New.aft | apply New.drew | refine New.setCell ?_ ?_ _)); all_goals (first | done | (simp [size_aft]; done) | (simp [size_aft]; omega)))

theorem Low4.new {w w' : World} {H : Nat} {a b c d : Int} (h : Low4 w H a b c d) (hn : New w w') : Low4 w' H a b c d := by
  obtain ⟨h1, ⟨h2, h3⟩, ⟨h4, h5⟩, h6, h7⟩ := h
  have z1 : H < w.heap.size := by omega
  exact ⟨Nat.lt_of_lt_of_le h1 hn.size, ⟨(hn.cell z1).trans h2, (hn.cell z1).trans h3⟩, ⟨(hn.cell h1).trans h4, (hn.cell h1).trans h5⟩, fun o => (hn.below.frozen (p := ⟨H, o, none⟩) z1).trans (h6 o), fun o => (hn.below.frozen (p := ⟨H + 1, o, none⟩) h1).trans (h7 o)⟩

set_option maxHeartbeats 8000000 in
theorem ref_box_yes (b off n c : Nat) (l : List P2) (w : World) (h0 : 0 < n) (hl : n ≤ 1000000) (hw : Pts w b off n l) (hok : okL l = true) :
    Calls Tryz.prog 41 #[.slice (some ⟨b, off, none⟩) n c] w fun en w' => en = .returned (boxV l n) ∧ New w w' := by
  have HW := Lib.hid hw
  have HA := Lib.hid (fun (w1 : World) (h1 : New w w1) => ref_allValid b off n c l w1 (by omega) (HW.out.new h1))
  rw [hok] at HA
  have hnz : (n = 0) = False := eq_false (by omega)
  clear hw hok
  go_enter Tryz.func41, Tryz.ntmps41
  go_wp2_with (go_at_call 104; refine (HA.out _ (by (repeat (first | exact New.refl _ | apply New.alloc | apply New.aft | apply New.drew | refine New.setCell ?_ ?_ _)); all_goals (first | done | (simp [size_aft]; done) | (simp [size_aft]; omega)))).mono ?_; rintro e w1 ⟨rfl, hn⟩; have HN1 := Lib.hid (New.trans (by (repeat (first | exact New.refl _ | apply New.alloc | apply New.aft | apply New.drew | refine New.setCell ?_ ?_ _)); all_goals (first | done | (simp [size_aft]; done) | (simp [size_aft]; omega))) hn : New w w1); have HR := Lib.hid ((show Low4 _ w.heap.size 0 0 0 0 from (by refine ⟨?_, ⟨?_, ?_⟩, ⟨?_, ?_⟩, fun o => ?_, fun o => ?_⟩ <;> simp [go_sem])).new hn); obtain ⟨_, hbb, hcc⟩ := HW.out.new HN1.out; obtain ⟨c1, c2⟩ := hcc 0 h0; simp only [Nat.zero_mul, Nat.add_zero] at c1 c2; have hbb1 : b < w1.heap.size + 1 := (by omega); clear hcc hn)
  go_loopw [8] (fun i wr => ∃ k : Nat, k ≤ n ∧ i = .int .i64 k ∧ Low4 wr w1.heap.size (mnTo (px l) k) (mnTo (py l) k) (mxTo (px l) k) (mxTo (py l) k) ∧ Low4 wr w.heap.size 0 0 0 0 ∧ New w1 wr) (fun i _ => n - (intOf i).toNat)
  case atStart => exact ⟨0, Nat.zero_le _, rfl, by refine ⟨?_, ⟨?_, ?_⟩, ⟨?_, ?_⟩, fun o => ?_, fun o => ?_⟩ <;> simp [go_sem, mnTo, mxTo], HR.out.new (((New.refl _).alloc _).alloc _), ((New.refl _).alloc _).alloc _⟩
  case round =>
    obtain ⟨k, hk, rfl, hlow, hres, hnew⟩ := hrel
    have HNW := Lib.hid (HN1.out.trans hnew)
    have HNW1 := Lib.hid hnew
    have HRES := Lib.hid hres
    obtain ⟨_, hb2, hcell2⟩ := HW.out.new HNW.out
    obtain ⟨hH, ⟨l1, l2⟩, ⟨l3, l4⟩, fz1, fz2⟩ := hlow
    have hH1 := Nat.lt_of_succ_lt hH
    have hr0 := HR.out.1
    have hr1 := Nat.lt_of_succ_lt hr0
    have hr2 : w.heap.size < w1.heap.size + 1 := by omega
    have hr3 : w.heap.size + 1 < w1.heap.size + 1 := by omega
    clear hnew hres c1 c2
    by_cases hlt : k < n
    · obtain ⟨c3, c4⟩ := hcell2 k hlt
      go_wp2_with fail
      go_region
      all_goals (go_wp2_with fail)
      all_goals go_region
      all_goals (go_wp2_with fail)
      all_goals
        refine ⟨⟨k + 1, by omega, by go_num, ?_, ?_, ?_⟩, by simp [intOf]; omega⟩
        · refine ⟨?_, ⟨?_, ?_⟩, ⟨?_, ?_⟩, fun o => ?_, fun o => ?_⟩ <;> simp [go_sem, mnTo, mxTo, *]
        · obtain ⟨rH, ⟨r1, r2⟩, ⟨r3, r4⟩, rf1, rf2⟩ := HRES.out
          have e1 : w1.heap.size ≠ w.heap.size := by omega
          have e2 : w1.heap.size ≠ w.heap.size + 1 := by omega
          have e3 : w1.heap.size + 1 ≠ w.heap.size := by omega
          have e4 : w1.heap.size + 1 ≠ w.heap.size + 1 := by omega
          refine ⟨?_, ⟨?_, ?_⟩, ⟨?_, ?_⟩, fun o => ?_, fun o => ?_⟩ <;> simp [go_sem, e1, e2, e3, e4, e1.symm, e2.symm, e3.symm, e4.symm, *]
        · (repeat (first | exact HNW1.out | exact New.refl _ | apply New.alloc | apply New.aft | apply New.drew | refine New.setCell ?_ ?_ _)); all_goals (first | done | (simp [size_aft]; done) | (simp [size_aft]; omega))
    · obtain rfl : k = n := by omega
      obtain ⟨rH, ⟨r1, r2⟩, ⟨r3, r4⟩, rf1, rf2⟩ := HRES.out
      have hH2 := Nat.lt_of_succ_lt rH
      go_wp2_with fail
      go_region
      all_goals (go_wp2_with fail)
      all_goals (refine bodyPost_ret (v := boxV l k) (by simp [results, Tryz.results41, go_sem, boxV, *]) rfl ⟨rfl, ?_⟩; (repeat (first | exact HNW.out | exact New.refl _ | apply New.alloc | apply New.aft | apply New.drew | refine New.setCell ?_ ?_ _)); all_goals (first | done | (simp [size_aft]; done) | (simp [size_aft]; omega)))

theorem lenI_long {l : List P2} (h : (400 : Int) < l.length) : lenI l = 0 := by
  unfold lenI; rw [if_neg]; unfold ckPts; rw [if_pos h]; decide
theorem lenI_bad {l : List P2} (h : okL l = false) : lenI l = 0 := by
  unfold lenI; rw [if_neg]; unfold ckPts; rw [h]; split <;> decide
theorem distI_comm (a b : Int) : max (b - a) (a - b) = distI a b := by unfold distI; omega

set_option maxHeartbeats 2000000 in
theorem ref_length_no (b off n c : Nat) (l : List P2) (w : World) (h0 : 0 < n) (hl : n ≤ 1000000) (hw : Pts w b off n l) (hk : okL l = false ∨ 400 < n) : Calls Tryz.prog 43 #[.slice (some ⟨b, off, none⟩) n c] w fun en w' => en = .returned (.int .i64 (lenI l)) ∧ New w w' := by
  have HW := Lib.hid hw
  have HA := Lib.hid (fun (w1 : World) (h1 : New w w1) => ref_allValid b off n c l w1 (by omega) (HW.out.new h1))
  have hN := hw.1
  have hv : lenI l = 0 := by
    rcases hk with hk | hk
    · exact lenI_bad hk
    · exact lenI_long (by omega)
  rw [hv]
  cases hok : okL l
  · rw [hok] at HA
    clear hw hk hv hok
    go_enter Tryz.func43, Tryz.ntmps43
    go_wp2_with (go_at_call 104; refine (HA.out _ (by (repeat (first | exact New.refl _ | apply New.alloc | apply New.aft | apply New.drew | refine New.setCell ?_ ?_ _)); all_goals (first | done | (simp [size_aft]; done) | (simp [size_aft]; omega)))).mono ?_; rintro e w1 ⟨rfl, pw, rfl⟩)
    all_goals (go_ret; refine ⟨rfl, ?_⟩; (repeat (first | exact New.refl _ | apply New.alloc | apply New.aft | apply New.drew | refine New.setCell ?_ ?_ _)); all_goals (first | done | (simp [size_aft]; done) | (simp [size_aft]; omega)))
  · have hk2 : (400 : Int) < (n : Int) := by
      rcases hk with hk | hk
      · rw [hk] at hok; cases hok
      · omega
    rw [hok] at HA
    clear hw hk hv hok
    go_enter Tryz.func43, Tryz.ntmps43
    go_wp2_with (go_at_call 104; refine (HA.out _ (by (repeat (first | exact New.refl _ | apply New.alloc | apply New.aft | apply New.drew | refine New.setCell ?_ ?_ _)); all_goals (first | done | (simp [size_aft]; done) | (simp [size_aft]; omega)))).mono ?_; rintro e w1 ⟨rfl, pw, rfl⟩)
    all_goals (go_ret; refine ⟨rfl, ?_⟩; (repeat (first | exact New.refl _ | apply New.alloc | apply New.aft | apply New.drew | refine New.setCell ?_ ?_ _)); all_goals (first | done | (simp [size_aft]; done) | (simp [size_aft]; omega)))

set_option maxHeartbeats 1000000 in
theorem ref_length_nil (v : Option Addr) (c : Nat) (w : World) : Calls Tryz.prog 43 #[.slice v 0 c] w fun en w' => en = .returned (.int .i64 0) ∧ New w w' := by
  have HA := Lib.hid (fun w1 : World => ref_allValid_nil w1 v c)
  go_enter Tryz.func43, Tryz.ntmps43
  go_wp2_with (go_at_call 104; refine (HA.out _).mono ?_; rintro e w1 ⟨rfl, pw, rfl⟩)
  refine wp_loop_rounds 1 ?_
  repeat any_goals (rw [rounds_succ]; go_wp2)
  go_ret; refine ⟨rfl, ?_⟩; (repeat (first | exact New.refl _ | apply New.alloc | apply New.aft | apply New.drew | refine New.setCell ?_ ?_ _)); all_goals (first | done | (simp [size_aft]; done) | (simp [size_aft]; omega))

set_option maxHeartbeats 8000000 in
theorem ref_length_yes (b off n c : Nat) (l : List P2) (w : World) (h0 : 0 < n) (hl : n ≤ 400) (hw : Pts w b off n l) (hok : okL l = true) : Calls Tryz.prog 43 #[.slice (some ⟨b, off, none⟩) n c] w fun en w' => en = .returned (.int .i64 (lenI l)) ∧ New w w' := by
  have HW := Lib.hid hw
  have HN := Lib.hid hw.1
  have HA := Lib.hid (fun (w1 : World) (h1 : New w w1) => ref_allValid b off n c l w1 (by omega) (HW.out.new h1))
  rw [hok] at HA
  have hck : ckPts l 400 = 0 := by unfold ckPts; rw [hok, if_neg (by rw [hw.1]; omega)]; rfl
  have HV := Lib.hid (lenI_yes hck)
  have HOK := Lib.hid hok
  have HB := Lib.hid (lenTo_bd hok)
  obtain ⟨_, hb, hcell⟩ := hw
  have hl4 : ¬ (400 : Int) < (n : Int) := by omega
  clear hok hck
  go_enter Tryz.func43, Tryz.ntmps43
  go_wp2_with (go_at_call 104; refine (HA.out _ (by (repeat (first | exact New.refl _ | apply New.alloc | apply New.aft | apply New.drew | refine New.setCell ?_ ?_ _)); all_goals (first | done | (simp [size_aft]; done) | (simp [size_aft]; omega)))).mono ?_; rintro e w1 ⟨rfl, pw, rfl⟩)
  go_loopw [4, 5] (fun v i wr => ∃ k : Nat, k + 1 ≤ n ∧ i = .int .i64 ((k + 1 : Nat) : Int) ∧ v = .int .i64 (lenTo l k) ∧ New w wr) (fun _ i _ => n - (intOf i).toNat)
  case atStart => exact ⟨0, by omega, rfl, rfl, by (repeat (first | exact New.refl _ | apply New.alloc | apply New.aft | apply New.drew | refine New.setCell ?_ ?_ _)); all_goals (first | done | (simp [size_aft]; done) | (simp [size_aft]; omega))⟩
  case round =>
    obtain ⟨k, hk, rfl, rfl, pr, rfl⟩ := hrel
    have cb := HB.out k
    by_cases hlt : k + 1 < n
    · obtain ⟨c1, c2⟩ := hcell k (by omega)
      obtain ⟨d1, d2⟩ := hcell (k + 1) hlt
      have e1 := okL_bd HOK.out k
      have e2 := okL_bd HOK.out (k + 1)
      have m1 := distI_bd _ _ e1.1 e2.1
      have m2 := distI_bd _ _ e1.2 e2.2
      have g1 : max (px l (k + 1) - px l k) (px l k - px l (k + 1)) = distI (px l k) (px l (k + 1)) := distI_comm _ _
      have g2 : max (py l (k + 1) - py l k) (py l k - py l (k + 1)) = distI (py l k) (py l (k + 1)) := distI_comm _ _
      have ec : ((k + 1 : Nat) : Int) = (k : Int) + 1 := by omega
      have hi1 : IntKind.i64.wrap (k : Int) = (k : Int) := IntWalk.i64_in _ (by omega)
      have hi2 : IntKind.i64.wrap ((k : Int) + 1 - 1) = (k : Int) := by rw [IntWalk.i64_in _ (by omega)]; omega
      have ht1 : ((k : Int) + 1).toNat = k + 1 := by omega
      have hk0 : (0 : Int) ≤ (k : Int) + 1 := by omega
      have hk2 : (k : Int) + 1 < (n : Int) := by omega
      have hk3 : (k : Int) < (n : Int) := by omega
      have x1 : IntKind.i64.wrap (px l (k + 1) - px l k) = px l (k + 1) - px l k := IntWalk.i64_in _ (by omega)
      have x2 : IntKind.i64.wrap (px l k - px l (k + 1)) = px l k - px l (k + 1) := IntWalk.i64_in _ (by omega)
      have y1 : IntKind.i64.wrap (py l (k + 1) - py l k) = py l (k + 1) - py l k := IntWalk.i64_in _ (by omega)
      have y2 : IntKind.i64.wrap (py l k - py l (k + 1)) = py l k - py l (k + 1) := IntWalk.i64_in _ (by omega)
      have s1 : IntKind.i64.wrap (lenTo l k + distI (px l k) (px l (k + 1))) = lenTo l k + distI (px l k) (px l (k + 1)) := IntWalk.i64_in _ (by omega)
      have s2 : IntKind.i64.wrap (lenTo l k + distI (px l k) (px l (k + 1)) + distI (py l k) (py l (k + 1))) = lenTo l k + distI (px l k) (px l (k + 1)) + distI (py l k) (py l (k + 1)) := IntWalk.i64_in _ (by omega)
      go_wp2_with fail
      first | refine wp_region_at2 (by kernel_rfl) (by kernel_rfl) ?_ | refine wp_region_at (by kernel_rfl) (by kernel_rfl) ?_
      repeat (go_big_quiet_step (fail))
      refine wpQuiet_nil ?_
      rintro _ ⟨q, rfl⟩
      clear hi1 hi2 ht1 x1 x2 y1 y2 s1 s2
      go_wp2_with fail
      go_roundw
      case rel => exact ⟨k + 1, by omega, by go_num, by simp only [lenTo]; congr 1; omega, by (repeat (first | exact New.refl _ | apply New.alloc | apply New.aft | apply New.drew | refine New.setCell ?_ ?_ _)); all_goals (first | done | (simp [size_aft]; done) | (simp [size_aft]; omega))⟩
      case measure => simp [intOf]; omega
    · obtain rfl : k + 1 = n := by omega
      go_wp2_with fail
      go_ret
      exact ⟨ret_int (by rw [← HV.out, HN.out]; rfl), by (repeat (first | exact New.refl _ | apply New.alloc | apply New.aft | apply New.drew | refine New.setCell ?_ ?_ _)); all_goals (first | done | (simp [size_aft]; done) | (simp [size_aft]; omega))⟩

end Go.Proofs.YtpdfbboagaflhaaGreat

set_option linter.unusedSimpArgs false
set_option linter.unusedVariables false
set_option maxRecDepth 100000
namespace Go.Proofs.YtpdfbboagaflhaaGreat
open Go.RowKit

set_option maxHeartbeats 8000000 in
theorem lengths_of (v : Option Addr) (n c : Nat) (A1 A2 B1 B2 L : Int) (O : Bool) (w : World) (hn : n ≤ 500)
    (HB1 : Hid (∀ w1 : World, New w w1 → Calls Tryz.prog 40 #[.slice v n c] w1 fun en w' => en = .returned (.tuple #[pv A1 A2, pv B1 B2, .bool O]) ∧ New w1 w'))
    (HB2 : Hid (∀ w1 : World, New w w1 → Calls Tryz.prog 41 #[.slice v n c] w1 fun en w' => en = .returned (.tuple #[pv A1 A2, pv B1 B2, .bool O]) ∧ New w1 w'))
    (HL1 : Hid (∀ w1 : World, New w w1 → Calls Tryz.prog 42 #[.slice v n c] w1 fun en w' => en = .returned (.int .i64 L) ∧ New w1 w'))
    (HL2 : Hid (∀ w1 : World, New w w1 → Calls Tryz.prog 43 #[.slice v n c] w1 fun en w' => en = .returned (.int .i64 L) ∧ New w1 w')) :
    Calls Tryz.prog 7 #[.slice v n c] w fun e w' => e = .returned (.bool true) ∧ New w w' := by
  have HL := Lib.hid alive_c
  have hn2 : ¬ (500 : Int) < (n : Int) := by omega
  have t1 : (L == L) = true := by simp
  have t2 : (O == O) = true := by simp
  have t3 : (A1 == A1) = true := by simp
  have t4 : (A2 == A2) = true := by simp
  have t5 : (B1 == B1) = true := by simp
  have t6 : (B2 == B2) = true := by simp
  go_enter Tryz.func7, Tryz.ntmps7
  go_wp2_with (first | (go_at_call 31; refine (HL.out _).mono ?_; rintro e w1 ⟨rfl, pw, rfl⟩) | (go_at_call 40; refine (HB1.out _ (by (repeat (first | exact New.refl _ | apply New.alloc | apply New.aft | apply New.drew | refine New.setCell ?_ ?_ _)); all_goals (first | done | (simp [size_aft]; done) | (simp [size_aft]; omega)))).mono ?_; rintro e w1 ⟨rfl, pw, rfl⟩) | (go_at_call 41; refine (HB2.out _ (by (repeat (first | exact New.refl _ | apply New.alloc | apply New.aft | apply New.drew | refine New.setCell ?_ ?_ _)); all_goals (first | done | (simp [size_aft]; done) | (simp [size_aft]; omega)))).mono ?_; rintro e w1 ⟨rfl, pw, rfl⟩) | (go_at_call 42; refine (HL1.out _ (by (repeat (first | exact New.refl _ | apply New.alloc | apply New.aft | apply New.drew | refine New.setCell ?_ ?_ _)); all_goals (first | done | (simp [size_aft]; done) | (simp [size_aft]; omega)))).mono ?_; rintro e w1 ⟨rfl, pw, rfl⟩) | (go_at_call 43; refine (HL2.out _ (by (repeat (first | exact New.refl _ | apply New.alloc | apply New.aft | apply New.drew | refine New.setCell ?_ ?_ _)); all_goals (first | done | (simp [size_aft]; done) | (simp [size_aft]; omega)))).mono ?_; rintro e w1 ⟨rfl, pw, rfl⟩))
  all_goals (go_ret; refine ⟨ret_bool (by simp), ?_⟩; (repeat (first | exact New.refl _ | apply New.alloc | apply New.aft | apply New.drew | refine New.setCell ?_ ?_ _)); all_goals (first | done | (simp [size_aft]; done) | (simp [size_aft]; omega)))

set_option maxHeartbeats 2000000 in
theorem lengths_long (v : Option Addr) (n c : Nat) (w : World) (hn : 500 < n) : Calls Tryz.prog 7 #[.slice v n c] w fun e w' => e = .returned (.bool true) ∧ New w w' := by
  have HL := Lib.hid alive_c
  have hn2 : (500 : Int) < (n : Int) := by omega
  go_enter Tryz.func7, Tryz.ntmps7
  go_wp2_with (go_at_call 31; refine (HL.out _).mono ?_; rintro e w1 ⟨rfl, pw, rfl⟩)
  all_goals (go_ret; refine ⟨ret_bool (by simp), ?_⟩; (repeat (first | exact New.refl _ | apply New.alloc | apply New.aft | apply New.drew | refine New.setCell ?_ ?_ _)); all_goals (first | done | (simp [size_aft]; done) | (simp [size_aft]; omega)))

theorem planeLengths_all (w : World) (av : Option Addr) (n c : Nat) (l : List P2) (hl : l.length = n) (hp : 0 < n → ∃ b off, av = some ⟨b, off, none⟩ ∧ Pts w b off n l) : Calls Tryz.prog 7 #[.slice av n c] w fun e w' => e = .returned (.bool true) ∧ New w w' := by
  by_cases hn : n ≤ 500
  · by_cases h0 : 0 < n
    · obtain ⟨b, off, rfl, hw⟩ := hp h0
      have HL1 := Lib.hid (fun (w1 : World) (h1 : New w w1) => length_c b off n c l w1 h0 (by omega) (hw.new h1))
      cases hok : okL l
      · exact lengths_of _ n c 0 0 0 0 (lenI l) false w hn (Lib.hid (fun w1 h1 => box_no b off n c l w1 h0 (by omega) (hw.new h1) hok)) (Lib.hid (fun w1 h1 => ref_box_no b off n c l w1 h0 (by omega) (hw.new h1) hok)) HL1 (Lib.hid (fun w1 h1 => ref_length_no b off n c l w1 h0 (by omega) (hw.new h1) (.inl hok)))
      · refine lengths_of _ n c _ _ _ _ (lenI l) true w hn (Lib.hid (fun w1 h1 => box_yes b off n c l w1 h0 (by omega) (hw.new h1) hok)) (Lib.hid (fun w1 h1 => ref_box_yes b off n c l w1 h0 (by omega) (hw.new h1) hok)) HL1 (Lib.hid (fun w1 h1 => ?_))
        by_cases h4 : 400 < n
        · exact ref_length_no b off n c l w1 h0 (by omega) (hw.new h1) (.inr h4)
        · exact ref_length_yes b off n c l w1 h0 (by omega) (hw.new h1) hok
    · obtain rfl : n = 0 := by omega
      exact lengths_of av 0 c 0 0 0 0 0 false w hn (Lib.hid (fun w1 _ => box_nil av c w1)) (Lib.hid (fun w1 _ => ref_box_nil av c w1)) (Lib.hid (fun w1 _ => length_nil av c w1)) (Lib.hid (fun w1 _ => ref_length_nil av c w1))
  · exact lengths_long av n c w (by omega)

end Go.Proofs.YtpdfbboagaflhaaGreat

set_option linter.unusedSimpArgs false
set_option linter.unusedVariables false
set_option linter.constructorNameAsVariable false
namespace Go.Proofs.YtpdfbboagaflhaaGreat
open Go.ChangeShapes Go.WideShapes Go.ChangeAt Go.RowKit Go.Joins
set_option maxRecDepth 100000

theorem jLe_wf : Rows.planeLengthsRow.wf (OpenSpec.ofChange Rows.planeLengthsSpec) = true := by kernel_rfl
theorem jLe_par : Tryz.f7.params.all (Tryz.prog.readableRec ·) = true := by kernel_rfl
theorem jLe_tie : namedTie Tryz.prog Rows.planeLengthsRow.named Rows.planeLengthsSpec.vars = true := by kernel_rfl
theorem jLe_st : (Rows.planeLengthsRow.stops == []) = true := by kernel_rfl
theorem jLe_kn : (Rows.planeLengthsRow.knobs == []) = true := by kernel_rfl
theorem jLe_inp : (Rows.planeLengthsRow.inPlace == Tryz.prog.inPlace 7) = true := by kernel_rfl
theorem jLe_unf : (Rows.planeLengthsRow.unfollowed == Tryz.prog.unfollowed 7) = true := by kernel_rfl
theorem jLe_rec : (Rows.planeLengthsRow.recurses == Tryz.prog.recurses 7) = true := by kernel_rfl
theorem jLe_nam : (Rows.planeLengthsRow.named == Tryz.prog.varsNamed 7) = true := by kernel_rfl
theorem jLe_maps : (Rows.planeLengthsRow.maps == (Tryz.f7.params.toList ++ Rows.planeLengthsSpec.plain.varTypes Tryz.prog).any (Tryz.prog.mapsRec ·)) = true := by kernel_rfl
theorem jLe_ifs : (Rows.planeLengthsRow.ifaces == (Tryz.f7.params.toList ++ Rows.planeLengthsSpec.plain.varTypes Tryz.prog).any (Tryz.prog.ifacesRec ·)) = true := by kernel_rfl
theorem jLe_mout : (Rows.planeLengthsRow.mapsOut == Tryz.prog.mapsAmong Tryz.f7.resultTypes.toList) = true := by kernel_rfl
theorem jLe_loops : (Rows.planeLengthsRow.loops == (Tryz.f7.params.toList ++ Rows.planeLengthsSpec.plain.varTypes Tryz.prog).any (Tryz.prog.loopsFrom ·)) = true := by kernel_rfl
theorem jLe_wide : (Rows.planeLengthsRow.wideKeys == (Tryz.f7.params.toList ++ Rows.planeLengthsSpec.plain.varTypes Tryz.prog ++ Tryz.f7.resultTypes.toList).any (Tryz.prog.wideKeysFrom ·)) = true := by kernel_rfl
theorem jLe_vars : Rows.planeLengthsSpec.vars.all (Tryz.prog.varReadable ·) = true := by kernel_rfl
theorem jLe_res : Tryz.f7.resultTypes.all (fun t => Tryz.prog.readableRec t && decide (t < Tryz.prog.types.size)) = true := by kernel_rfl
theorem jLe_iout : (Rows.planeLengthsRow.ifacesOut == Tryz.f7.resultTypes.toList.any (Tryz.prog.ifacesRec ·)) = true := by kernel_rfl
theorem jLe_lout : (Rows.planeLengthsRow.loopsOut == Tryz.f7.resultTypes.toList.any (Tryz.prog.loopsFrom ·)) = true := by kernel_rfl
theorem jLe_plain : (Rows.planeLengthsRow.plainKeys == Tryz.prog.plainKeys) = true := by kernel_rfl
theorem jLe_short : Rows.planeLengthsRow.shortTexts.isNone = true := by kernel_rfl
theorem jLe_lift0 : (Rows.planeLengthsRow.lifted == false) = true := by kernel_rfl
theorem jLe_lift : (Rows.planeLengthsRow.lifted == Tryz.prog.liftsFinal) = true := (congrArg (fun b => (Rows.planeLengthsRow.lifted == b)) lift_is).trans jLe_lift0
theorem jLe_make0 : (some Make.cut == some Rows.planeLengthsRow.make) = true := by kernel_rfl
theorem jLe_make : (Tryz.prog.make == some Rows.planeLengthsRow.make) = true := (congrArg (fun b => (b == some Rows.planeLengthsRow.make)) make_is).trans jLe_make0
theorem jLe_kinds : (Rows.planeLengthsRow.kinds == (if Rows.planeLengthsRow.domain.isEmpty then [] else Tryz.f7.params.toList.map fun t => match Tryz.prog.underlying t with | some (.int k) => some k | _ => none)) = true := by kernel_rfl
theorem jLe_pin : (Rows.planeLengthsRow.pinned == Rows.planeLengthsRow.pinnedBy) = true := by kernel_rfl
theorem jLe_veil : (Rows.planeLengthsRow.veiled == (Tryz.f7.params.toList ++ Rows.planeLengthsSpec.plain.varTypes Tryz.prog ++ Tryz.f7.resultTypes.toList).any (Tryz.prog.veiledRec ·)) = true := by kernel_rfl
theorem jLe_vfit : Rows.planeLengthsRow.veiledFits Tryz.prog Tryz.f7.params.toList (Tryz.f7.params.toList ++ Rows.planeLengthsSpec.plain.varTypes Tryz.prog ++ Tryz.f7.resultTypes.toList) = true := by kernel_rfl
theorem jLe_closed : joinedFacts Tryz.prog 7 Tryz.f7 Rows.planeLengthsSpec Rows.planeLengthsRow = true := (b_and (b_and (b_and (b_and (b_and (b_and (b_and (b_and (b_and (b_and (b_and (b_and (b_and (b_and (b_and (b_and (b_and (b_and (b_and (b_and (b_and (b_and (b_and (b_and (b_and (b_and (b_and (b_and (b_and (b_and (b_and jLe_wf jp_laid) jp_rowed) jLe_par) jLe_tie) jLe_st) jp_stops) jLe_kn) jp_knobs) jLe_inp) jLe_unf) jLe_rec) jLe_nam) jLe_maps) jLe_ifs) jLe_mout) jLe_loops) jLe_wide) jLe_vars) jLe_res) jLe_iout) jLe_lout) jLe_plain) jLe_short) jp_heard) jp_enter) jLe_lift) jLe_make) jLe_kinds) jLe_pin) jLe_veil) jLe_vfit)
theorem jLe_name : Tryz.prog.funcNamed Rows.planeLengthsRow.func = some 7 := by kernel_rfl
theorem jLe_inst : Tryz.f7.isInstance Tryz.prog Rows.planeLengthsRow.origin Rows.planeLengthsRow.targs := of_decide_eq_true (by kernel_rfl)
theorem jLe_wrap : Tryz.f7.isWrapper Tryz.prog Rows.planeLengthsRow.wrapper Rows.planeLengthsRow.mainSum := by unfold Func.isWrapper; rw [if_neg (by decide +kernel)]; exact ⟨rfl, rfl⟩

set_option maxHeartbeats 2000000 in
theorem jLe_lifted (os : Os) (started : os.Started) (H : Type) (enc : TypeId × Value → H) :
    ReturnsInHanded {} Tryz.checked os 7 .any (Rows.planeLengthsSpec.pre6 enc Tryz.prog Tryz.f7 Rows.planeLengthsRow.domain false) (Rows.planeLengthsSpec.post enc Tryz.prog Tryz.f7 false true false false) := by
  refine returnsInHanded_of_change (C := Tryz.checked) own_knob started (by kernel_rfl) Tryz.func7
    (ChangeSpec.witness6 (enc := enc) (C := Tryz.checked) false ⟨#[], #[.slice none 0 0], []⟩ 8 (by kernel_rfl) (by kernel_rfl) (by kernel_rfl) (by kernel_rfl)) ?_
  intro W base args ds gs before hval0 hW hcnd _
  have hval : ∀ (j : Nat) t v, Tryz.f7.params[j]? = some t → args[j]? = some v → Value.okWide Tryz.prog W .any base t v := hval0
  have hW' := hW
  obtain ⟨p, q, hA0, hV, rfl, hfz, hnd⟩ := hW
  have hA : DataW.TrodAll enc Tryz.prog W 0 (fun _ => true) true Tryz.f7.params.toList args.toList ds p := hA0
  rw [Tryz.params7] at hA hval
  obtain ⟨v0, vs0, d0, ds0, p0, q0, hargs, rfl, rfl, h0, r0⟩ := trodAll_cons hA
  obtain ⟨rfl, rfl, rfl⟩ := trodAll_nil r0
  obtain rfl : args = #[v0] := by cases args; simp_all
  obtain ⟨rfl, rfl⟩ := trodVars_none hV
  have hlt : ∀ x ∈ p0, x.block < W.heap.size := fun x hx => hW'.lt x (by simpa using hx)
  have g0 := h0
  obtain ⟨av0, n0, cap0, l0, rfl, hl0, hp0⟩ := open_pts (hval 0 40 v0 rfl rfl) h0
  clear hA0 hval0 hval
  refine (planeLengths_all W av0 n0 cap0 l0 hl0 hp0).mono fun e W' ⟨he, hg⟩ => ?_
  subst he
  have t0 := Below.trod laidOut (by kernel_rfl) (of_decide_eq_true (by kernel_rfl)) g0 hg.below (fun x hx => hlt x (by simp [hx]))
  exact ⟨_, rfl, _, _, _, _, _, _, hW', trodAll_cons_mk (shut_bool Tryz.underlying4 _) trodAll_mk0, trodAll_cons_mk t0 trodAll_mk0, rfl, hg.below.frame _, fun h => by cases h⟩

/-- PlaneLengths, as it is given -/
theorem planeLengths_proved : Rows.PlaneLengthsSaid :=
  OpenClaim.holds_of_wide 7 Tryz.f7 rfl rfl rfl rfl rfl rfl rfl ⟨rfl, rfl, rfl, rfl, rfl⟩ rfl rfl rfl rfl rfl jLe_name Tryz.func7 jLe_closed jLe_inst jLe_wrap
    (fun os started H enc _ => jLe_lifted os started H enc)

end Go.Proofs.YtpdfbboagaflhaaGreat
