/- The corners beside a corner, as around returns them. At most 1000000 points. -/
import Derived.Test.YtpdfbboagaflhaaGreatM15
import Derived.Deep.RegionHeld3
import Derived.BigRegion
import Derived.LoopTactic
import Derived.Deep.AppendLies
import Derived.Deep.RegionLaw

namespace Go.Proofs.YtpdfbboagaflhaaGreat
open Go.RowKit

theorem prev_fact (k n : Nat) (hk : k < n) (hn : n ≤ 1000000) : ∃ p : Nat, p = (k + n - 1) % n ∧ p < n ∧ ((k : Int) + (n : Int) - 1).tmod (n : Int) = (p : Int) := by
  refine ⟨_, rfl, Nat.mod_lt _ (by omega), ?_⟩
  rw [Int.tmod_eq_emod_of_nonneg (by omega), show (k : Int) + (n : Int) - 1 = ((k + n - 1 : Nat) : Int) by omega, ← Int.natCast_emod]
theorem next_fact (k n : Nat) (hk : k < n) : ∃ p : Nat, p = (k + 1) % n ∧ p < n ∧ ((k : Int) + 1).tmod (n : Int) = (p : Int) := by
  refine ⟨_, rfl, Nat.mod_lt _ (by omega), ?_⟩
  rw [Int.tmod_eq_emod_of_nonneg (by omega), show (k : Int) + 1 = ((k + 1 : Nat) : Int) by omega, ← Int.natCast_emod]

set_option maxHeartbeats 8000000 in
theorem around_c (b off n c k : Nat) (l : List P2) (w : World) (hk : k < n) (hl : n ≤ 1000000) (hw : Pts w b off n l) :
    Calls Tryz.prog 111 #[.slice (some ⟨b, off, none⟩) n c, .int .i64 (k : Int)] w fun en w' => en = .returned (.tuple #[pv (px l ((k + n - 1) % n)) (py l ((k + n - 1) % n)), pv (px l k) (py l k), pv (px l ((k + 1) % n)) (py l ((k + 1) % n))]) ∧ New w w' := by
  obtain ⟨p, hp, hpn, hpe⟩ := prev_fact k n hk hl
  obtain ⟨x, hx, hxn, hxe⟩ := next_fact k n hk
  rw [← hp, ← hx]
  obtain ⟨hwl, hb, hcell⟩ := hw
  obtain ⟨c1, c2⟩ := hcell k hk
  obtain ⟨d1, d2⟩ := hcell p hpn
  obtain ⟨e1, e2⟩ := hcell x hxn
  have hw1 : IntKind.i64.wrap ((k : Int) + (n : Int)) = (k : Int) + (n : Int) := IntWalk.i64_in _ (by omega)
  have hw2 : IntKind.i64.wrap ((k : Int) + (n : Int) - 1) = (k : Int) + (n : Int) - 1 := IntWalk.i64_in _ (by omega)
  have hw3 : IntKind.i64.wrap ((k : Int) + 1) = (k : Int) + 1 := IntWalk.i64_in _ (by omega)
  have hnz : (n = 0) = False := eq_false (by omega)
  have hb1 : b < w.heap.size + 1 := by omega
  have hb2 : b < w.heap.size + 1 + 1 := by omega
  clear hwl hp hx hcell
  go_enter Tryz.func111, Tryz.ntmps111
  go_wp2_with fail
  go_region
  all_goals (go_wp2_with fail)
  all_goals (refine bodyPost_ret (v := .tuple #[pv (px l p) (py l p), pv (px l k) (py l k), pv (px l x) (py l x)]) (by simp [results, Tryz.results111, go_sem]) rfl ⟨rfl, ?_⟩; (repeat (first | exact New.refl _ | apply New.alloc | apply New.aft | apply New.drew | refine New.setCell ?_ ?_ _)); all_goals (first | done | (simp [size_aft]; done) | (simp [size_aft]; omega)))

end Go.Proofs.YtpdfbboagaflhaaGreat

/- Which point is the least one, as leastAt returns it. From one to 1000000 points. -/
namespace Go.Proofs.YtpdfbboagaflhaaGreat
open Go.RowKit

def ltP (l : List P2) (i j : Nat) : Bool := decide (orI (cmpI (px l i) (px l j)) (cmpI (py l i) (py l j)) < 0)
def leastTo (l : List P2) : Nat → Nat
  | 0 => 0
  | k + 1 => if ltP l k (leastTo l k) = true then k else leastTo l k
theorem leastTo_lt (l : List P2) : ∀ k n, 0 < n → k ≤ n → leastTo l k < n
  | 0, n, h, _ => h
  | k + 1, n, h, hk => by
    simp only [leastTo]
    split
    · omega
    · exact leastTo_lt l k n h (by omega)

set_option maxHeartbeats 4000000 in
theorem leastAt_c (b off n c : Nat) (l : List P2) (w : World) (h0 : 0 < n) (hl : n ≤ 1000000) (hw : Pts w b off n l) :
    Calls Tryz.prog 115 #[.slice (some ⟨b, off, none⟩) n c] w fun en w' => en = .returned (.int .i64 ((leastTo l n : Nat) : Int)) ∧ New w w' := by
  obtain ⟨hwl, hb, hcell⟩ := hw
  clear hwl
  go_enter Tryz.func115, Tryz.ntmps115
  go_wp2_with fail
  go_loopw [3, 8] (fun v i wr => ∃ k : Nat, k ≤ n ∧ i = .int .i64 k ∧ v = .int .i64 ((leastTo l k : Nat) : Int) ∧ New w wr) (fun _ i _ => n - (intOf i).toNat)
  case atStart => exact ⟨0, Nat.zero_le _, rfl, rfl, New.refl _⟩
  case round =>
    obtain ⟨k, hk, rfl, rfl, pr, rfl⟩ := hrel
    have ha := leastTo_lt l k n h0 hk
    have HS : Hid (leastTo l (k + 1) = if ltP l k (leastTo l k) = true then k else leastTo l k) := Lib.hid rfl
    generalize hA : leastTo l k = a at *
    have HA := Lib.hid hA
    clear hA
    by_cases hlt : k < n
    · obtain ⟨c1, c2⟩ := hcell k hlt
      obtain ⟨d1, d2⟩ := hcell a ha
      have kb : b < w.heap.size + pr.os.size := by omega
      by_cases ht : orI (cmpI (px l k) (px l a)) (cmpI (py l k) (py l a)) < 0
      all_goals
        go_wp2_with fail
        first | refine wp_region_at2 (by kernel_rfl) (by kernel_rfl) ?_ | refine wp_region_at (by kernel_rfl) (by kernel_rfl) ?_
        repeat (go_big_quiet_step ((go_at_call 125; exact calls_new (comparePoints_c _ _ _ _ _))))
        refine wpQuiet_nil ?_
        rintro _ ⟨q, rfl⟩
        go_wp2_with fail
        go_roundw
        case rel => exact ⟨k + 1, by omega, by go_num, by rw [HS.out]; first | rw [if_pos (by simp [ltP]; omega)] | rw [if_neg (by simp [ltP]; omega)], by (repeat (first | exact New.refl _ | apply New.alloc | apply New.aft | apply New.drew | refine New.setCell ?_ ?_ _)); all_goals (first | done | (simp [size_aft]; done) | (simp [size_aft]; omega))⟩
        case measure => simp [intOf]; omega
    · go_wp2_with fail
      obtain rfl : k = n := by omega
      go_ret
      exact ⟨ret_int (by rw [← HA.out]), by (repeat (first | exact New.refl _ | apply New.alloc | apply New.aft | apply New.drew | refine New.setCell ?_ ?_ _)); all_goals (first | done | (simp [size_aft]; done) | (simp [size_aft]; omega))⟩

end Go.Proofs.YtpdfbboagaflhaaGreat
