/- What Length returns. From one to 1000000 points. -/
import Derived.Test.YtpdfbboagaflhaaGreatM10
import Derived.Deep.RegionHeld3
import Derived.BigRegion
import Derived.LoopTactic

namespace Go.Proofs.YtpdfbboagaflhaaGreat
open Go.RowKit

def distI (a b : Int) : Int := max (a - b) (b - a)
theorem distance_c (a b : Int) (w : World) (ha : -40000 ≤ a ∧ a ≤ 40000) (hb : -40000 ≤ b ∧ b ≤ 40000) : Calls Tryz.prog 105 #[.int .i64 a, .int .i64 b] w fun en w' => en = .returned (.int .i64 (distI a b)) ∧ New w w' := by
  go_enter Tryz.func105, Tryz.ntmps105
  go_wp2_with fail
  all_goals (go_ret; refine ⟨ret_int (by unfold distI; omega), New.refl _⟩)

theorem distI_bd (a b : Int) (ha : 0 ≤ a ∧ a ≤ 10000) (hb : 0 ≤ b ∧ b ≤ 10000) : 0 ≤ distI a b ∧ distI a b ≤ 10000 := by unfold distI; omega
def lenTo (l : List P2) : Nat → Int
  | 0 => 0
  | k + 1 => lenTo l k + (distI (px l k) (px l (k + 1)) + distI (py l k) (py l (k + 1)))
def lenI (l : List P2) : Int := if ckPts l 400 = 0 then lenTo l (l.length - 1) else 0
theorem lenI_no {l : List P2} (h : ckPts l 400 ≠ 0) : 0 = lenI l := (if_neg h).symm
theorem lenI_yes {l : List P2} (h : ckPts l 400 = 0) : lenTo l (l.length - 1) = lenI l := (if_pos h).symm
theorem lenTo_bd {l : List P2} (h : okL l = true) : ∀ k : Nat, 0 ≤ lenTo l k ∧ lenTo l k ≤ 20000 * (k : Int)
  | 0 => by simp [lenTo]
  | k + 1 => by
    have ih := lenTo_bd h k
    have c1 := distI_bd _ _ (okL_bd h k).1 (okL_bd h (k + 1)).1
    have c2 := distI_bd _ _ (okL_bd h k).2 (okL_bd h (k + 1)).2
    simp only [lenTo]
    push_cast
    omega

set_option maxHeartbeats 4000000 in
theorem length_c (b off n c : Nat) (l : List P2) (w : World) (h0 : 0 < n) (hl : n ≤ 1000000) (hw : Pts w b off n l) :
    Calls Tryz.prog 42 #[.slice (some ⟨b, off, none⟩) n c] w fun en w' => en = .returned (.int .i64 (lenI l)) ∧ New w w' := by
  have HW := Lib.hid hw
  have HN := Lib.hid hw.1
  clear hw
  by_cases hck : ckPts l 400 = 0
  · obtain ⟨hn4, hok⟩ := ckPts_zero hck
    have HC := Lib.hid (lenTo_bd hok)
    have HA := Lib.hid (lenI_yes hck)
    have hn5 : (n : Int) ≤ 400 := by rw [← HN.out]; exact hn4
    have HK := Lib.hid hck
    have HOK := Lib.hid hok
    clear hn4 hok hck
    go_enter Tryz.func42, Tryz.ntmps42
    go_wp2_with (go_at_call 84; refine (checkPoints_c _ _ _ _ l _ _ ?_ HW.out).mono ?_; omega; rintro e w1 ⟨rfl, hnew⟩; rw [HK.out]; have HW1 := Lib.hid (HW.out.new hnew); have HNEW := Lib.hid hnew; clear hnew)
    obtain ⟨hwl, hwb, hwc⟩ := HW1.out
    clear hwl
    go_loopw [3, 4] (fun v i wr => ∃ k : Nat, k + 1 ≤ n ∧ i = .int .i64 ((k + 1 : Nat) : Int) ∧ v = .int .i64 (lenTo l k) ∧ New w1 wr) (fun _ i _ => n - (intOf i).toNat)
    case atStart => exact ⟨0, by omega, rfl, rfl, New.refl _⟩
    case round =>
      obtain ⟨k, hk, rfl, rfl, pr, rfl⟩ := hrel
      have cb := HC.out k
      by_cases hlt : k + 1 < n
      · obtain ⟨c1, c2⟩ := hwc k (by omega)
        obtain ⟨d1, d2⟩ := hwc (k + 1) hlt
        have e1 := okL_bd HOK.out k
        have e2 := okL_bd HOK.out (k + 1)
        have m1 := distI_bd _ _ e1.1 e2.1
        have m2 := distI_bd _ _ e1.2 e2.2
        have ec : ((k + 1 : Nat) : Int) = (k : Int) + 1 := by omega
        have hi1 : IntKind.i64.wrap (k : Int) = (k : Int) := IntWalk.i64_in _ (by omega)
        have hi2 : IntKind.i64.wrap ((k : Int) + 1 - 1) = (k : Int) := by rw [IntWalk.i64_in _ (by omega)]; omega
        have ht1 : ((k : Int) + 1).toNat = k + 1 := by omega
        have hk0 : (0 : Int) ≤ (k : Int) + 1 := by omega
        have hk2 : (k : Int) + 1 < (n : Int) := by omega
        have hk3 : (k : Int) < (n : Int) := by omega
        have hs1 : IntKind.i64.wrap (distI (px l k) (px l (k + 1)) + distI (py l k) (py l (k + 1))) = distI (px l k) (px l (k + 1)) + distI (py l k) (py l (k + 1)) := IntWalk.i64_in _ (by omega)
        have hs2 : IntKind.i64.wrap (lenTo l k + (distI (px l k) (px l (k + 1)) + distI (py l k) (py l (k + 1)))) = lenTo l k + (distI (px l k) (px l (k + 1)) + distI (py l k) (py l (k + 1))) := IntWalk.i64_in _ (by omega)
        go_wp2_with fail
        first | refine wp_region_at2 (by kernel_rfl) (by kernel_rfl) ?_ | refine wp_region_at (by kernel_rfl) (by kernel_rfl) ?_
        repeat (go_big_quiet_step ((go_at_call 105; exact calls_new (distance_c _ _ _ (by omega) (by omega)))))
        refine wpQuiet_nil ?_
        rintro _ ⟨q, rfl⟩
        clear hi1 hi2 ht1 hs1 hs2
        go_wp2_with fail
        go_roundw
        case rel => exact ⟨k + 1, by omega, by go_num, rfl, by (repeat (first | exact New.refl _ | apply New.alloc | apply New.aft | apply New.drew | refine New.setCell ?_ ?_ _)); all_goals (first | done | (simp [size_aft]; done) | (simp [size_aft]; omega))⟩
        case measure => simp [intOf]; omega
      · go_wp2_with fail
        obtain rfl : k + 1 = n := by omega
        go_ret
        refine ⟨ret_int (by rw [← HA.out, HN.out]; rfl), ?_⟩
        exact HNEW.out.trans (by (repeat (first | exact New.refl _ | apply New.alloc | apply New.aft | apply New.drew | refine New.setCell ?_ ?_ _)); all_goals (first | done | (simp [size_aft]; done) | (simp [size_aft]; omega)))
  · have HA := Lib.hid (lenI_no hck)
    have hck1 : (ckPts l 400 == 0) = false := by simpa using hck
    have hck2 : (ckPts l 400 != 0) = true := by simpa using hck
    clear hck
    go_enter Tryz.func42, Tryz.ntmps42
    go_wp2_with (go_at_call 84; refine (checkPoints_c _ _ _ _ l _ _ ?_ HW.out).mono ?_; omega; rintro e w1 ⟨rfl, hnew⟩; have HNEW := Lib.hid hnew; clear hnew)
    go_ret
    exact ⟨ret_int HA.out, HNEW.out⟩

end Go.Proofs.YtpdfbboagaflhaaGreat
