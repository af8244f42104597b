/- What CheckPoly and Where return. From one to 1000000 points. -/
import Derived.Test.YtpdfbboagaflhaaGreatM11
import Derived.Test.YtpdfbboagaflhaaGreatM13
import Derived.Test.YtpdfbboagaflhaaGreatM14
import Derived.Deep.RegionHeld3
import Derived.BigRegion
import Derived.LoopTactic
import Derived.Deep.AppendLies
import Derived.Deep.RegionLaw

namespace Go.Proofs.YtpdfbboagaflhaaGreat
open Go.RowKit

def polyI (l : List P2) : Int := if ckPts l 200 ≠ 0 then ckPts l 200 else if l.length < 3 then 1 else if repI l = true then 6 else if apartB l = true then 0 else 10
section
variable {l : List P2}
theorem poly_1 (h : ckPts l 200 ≠ 0) : ckPts l 200 = polyI l := by simp [polyI, h]
theorem poly_2 (h : ckPts l 200 = 0) (h2 : l.length < 3) : 1 = polyI l := by simp [polyI, h, h2]
theorem poly_3 (h : ckPts l 200 = 0) (h2 : ¬ l.length < 3) (h3 : repI l = true) : 6 = polyI l := by simp [polyI, h, h2, h3]
theorem poly_4 (h : ckPts l 200 = 0) (h2 : ¬ l.length < 3) (h3 : repI l = false) (h4 : apartB l = true) : 0 = polyI l := by simp [polyI, h, h2, h3, h4]
theorem poly_5 (h : ckPts l 200 = 0) (h2 : ¬ l.length < 3) (h3 : repI l = false) (h4 : apartB l = false) : 10 = polyI l := by simp [polyI, h, h2, h3, h4]
theorem polyI_ok (h : polyI l = 0) : ckPts l 200 = 0 ∧ 3 ≤ l.length ∧ repI l = false ∧ apartB l = true := by
  by_cases h1 : ckPts l 200 = 0
  · by_cases h2 : l.length < 3
    · rw [← poly_2 h1 h2] at h; cases h
    · cases h3 : repI l
      · cases h4 : apartB l
        · rw [← poly_5 h1 h2 h3 h4] at h; cases h
        · exact ⟨h1, by omega, rfl, rfl⟩
      · rw [← poly_3 h1 h2 h3] at h; cases h
  · rw [← poly_1 h1] at h; exact absurd h h1
end
theorem ckPts_le (l : List P2) (m : Int) : 0 ≤ ckPts l m ∧ ckPts l m ≤ 2 := by unfold ckPts; split <;> (try split) <;> omega

set_option maxHeartbeats 4000000 in
theorem checkPoly_c (b off n c : Nat) (l : List P2) (w : World) (h0 : 0 < n) (hl : n ≤ 1000000) (hw : Pts w b off n l) :
    Calls Tryz.prog 44 #[.slice (some ⟨b, off, none⟩) n c] w fun en w' => en = .returned (.int .i64 (polyI l)) ∧ New w w' := by
  have HW := Lib.hid hw
  have HN := Lib.hid hw.1
  clear hw
  have AC : ∀ w1 : World, New w w1 → Calls Tryz.prog 84 #[.slice (some ⟨b, off, none⟩) n c, .int .i64 200] w1 fun en w' => en = .returned (.int .i64 (ckPts l 200)) ∧ New w1 w' := fun w1 h1 => checkPoints_c b off n c l 200 w1 (by omega) (HW.out.new h1)
  have HAC := Lib.hid AC
  clear AC
  by_cases hck : ckPts l 200 = 0
  · have hok := (ckPts_zero hck).2
    have HREP : ∀ w1 : World, New w w1 → Calls Tryz.prog 106 #[.slice (some ⟨b, off, none⟩) n c] w1 fun en w' => en = .returned (.bool (repI l)) ∧ New w1 w' := fun w1 h1 => repeats_c b off n c l w1 hl (HW.out.new h1) hok
    have HR := Lib.hid HREP
    have HAPA : ∀ w1 : World, New w w1 → Calls Tryz.prog 107 #[.slice (some ⟨b, off, none⟩) n c] w1 fun en w' => en = .returned (.bool (apartB l)) ∧ New w1 w' := fun w1 h1 => apart_c b off n c l w1 h0 hl (HW.out.new h1) (bdL_of_ok hok)
    have HA := Lib.hid HAPA
    have HK := Lib.hid hck
    clear HREP HAPA hok hck
    by_cases h2 : n < 3
    · have HV := Lib.hid (poly_2 HK.out (by rw [HN.out]; exact h2))
      go_enter Tryz.func44, Tryz.ntmps44
      go_wp2_with (go_at_call 84; refine (HAC.out _ (New.refl _)).mono ?_; rintro e w1 ⟨rfl, hn1⟩; rw [HK.out]; have HN1 := Lib.hid hn1; clear hn1)
      go_ret
      exact ⟨ret_int HV.out, HN1.out⟩
    · cases h3 : repI l
      · cases h4 : apartB l
        · have HV := Lib.hid (poly_5 HK.out (by rw [HN.out]; exact h2) h3 h4)
          have H3 := Lib.hid h3
          have H4 := Lib.hid h4
          clear h3 h4
          go_enter Tryz.func44, Tryz.ntmps44
          go_wp2_with (first | (go_at_call 84; refine (HAC.out _ (New.refl _)).mono ?_; rintro e w1 ⟨rfl, hn1⟩; rw [HK.out]; have HN1 := Lib.hid hn1; clear hn1) | (go_at_call 106; refine (HR.out _ HN1.out).mono ?_; rintro e w2 ⟨rfl, hn2⟩; rw [H3.out]; have HN2 := Lib.hid (HN1.out.trans hn2); clear hn2) | (go_at_call 107; refine (HA.out _ HN2.out).mono ?_; rintro e w3 ⟨rfl, hn3⟩; rw [H4.out]; have HN3 := Lib.hid (HN2.out.trans hn3); clear hn3))
          go_ret
          exact ⟨ret_int HV.out, HN3.out⟩
        · have HV := Lib.hid (poly_4 HK.out (by rw [HN.out]; exact h2) h3 h4)
          have H3 := Lib.hid h3
          have H4 := Lib.hid h4
          clear h3 h4
          go_enter Tryz.func44, Tryz.ntmps44
          go_wp2_with (first | (go_at_call 84; refine (HAC.out _ (New.refl _)).mono ?_; rintro e w1 ⟨rfl, hn1⟩; rw [HK.out]; have HN1 := Lib.hid hn1; clear hn1) | (go_at_call 106; refine (HR.out _ HN1.out).mono ?_; rintro e w2 ⟨rfl, hn2⟩; rw [H3.out]; have HN2 := Lib.hid (HN1.out.trans hn2); clear hn2) | (go_at_call 107; refine (HA.out _ HN2.out).mono ?_; rintro e w3 ⟨rfl, hn3⟩; rw [H4.out]; have HN3 := Lib.hid (HN2.out.trans hn3); clear hn3))
          go_ret
          exact ⟨ret_int HV.out, HN3.out⟩
      · have HV := Lib.hid (poly_3 HK.out (by rw [HN.out]; exact h2) h3)
        have H3 := Lib.hid h3
        clear h3
        go_enter Tryz.func44, Tryz.ntmps44
        go_wp2_with (first | (go_at_call 84; refine (HAC.out _ (New.refl _)).mono ?_; rintro e w1 ⟨rfl, hn1⟩; rw [HK.out]; have HN1 := Lib.hid hn1; clear hn1) | (go_at_call 106; refine (HR.out _ HN1.out).mono ?_; rintro e w2 ⟨rfl, hn2⟩; rw [H3.out]; have HN2 := Lib.hid (HN1.out.trans hn2); clear hn2))
        go_ret
        exact ⟨ret_int HV.out, HN2.out⟩
  · have HV := Lib.hid (poly_1 hck)
    have hck1 : (ckPts l 200 == 0) = false := by simpa using hck
    have hck2 : (ckPts l 200 != 0) = true := by simpa using hck
    clear hck
    go_enter Tryz.func44, Tryz.ntmps44
    go_wp2_with (go_at_call 84; refine (HAC.out _ (New.refl _)).mono ?_; rintro e w1 ⟨rfl, hn1⟩; have HN1 := Lib.hid hn1; clear hn1)
    go_ret
    exact ⟨ret_int HV.out, HN1.out⟩

def WhereI (l : List P2) (p q : Int) : Int := if okP p q = true ∧ polyI l = 0 then whereI l p q else 0

set_option maxHeartbeats 4000000 in
theorem Where_c (b off n c : Nat) (l : List P2) (p q : Int) (w : World) (h0 : 0 < n) (hl : n ≤ 1000000) (hw : Pts w b off n l) :
    Calls Tryz.prog 53 #[.slice (some ⟨b, off, none⟩) n c, pv p q] w fun en w' => en = .returned (.int .u8 (WhereI l p q)) ∧ New w w' := by
  have HW := Lib.hid hw
  clear hw
  have HP := Lib.hid (fun (w1 : World) (h1 : New w w1) => checkPoly_c b off n c l w1 h0 hl (HW.out.new h1))
  by_cases hp : okP p q = true
  · have e1 := okErr_yes hp
    have hp2 := okP_iff.1 hp
    by_cases hq : polyI l = 0
    · have HQ := Lib.hid hq
      have HV := Lib.hid (show whereI l p q = WhereI l p q from (if_pos ⟨hp, hq⟩).symm)
      have HWH := Lib.hid (fun (w1 : World) (h1 : New w w1) => where_c b off n c l p q w1 h0 hl (HW.out.new h1) (by omega) (by omega) (bdL_of_ok (ckPts_zero (polyI_ok hq).1).2))
      clear hp hq
      go_enter Tryz.func53, Tryz.ntmps53
      go_wp2_with (first | (go_at_call 29; refine (checkPoint_c _ _ _).mono ?_; rintro e w1 ⟨rfl, pw, rfl⟩) | (go_at_call 44; refine (HP.out _ (by (repeat (first | exact New.refl _ | apply New.alloc | apply New.aft | apply New.drew | refine New.setCell ?_ ?_ _)); all_goals (first | done | (simp [size_aft]; done) | (simp [size_aft]; omega)))).mono ?_; rintro e w2 ⟨rfl, p2, rfl⟩; rw [HQ.out]) | (go_at_call 117; refine (HWH.out _ (by (repeat (first | exact New.refl _ | apply New.alloc | apply New.aft | apply New.drew | refine New.setCell ?_ ?_ _)); all_goals (first | done | (simp [size_aft]; done) | (simp [size_aft]; omega)))).mono ?_; rintro e w2 ⟨rfl, p3, rfl⟩))
      go_ret
      exact ⟨ret_int HV.out, by (repeat (first | exact New.refl _ | apply New.alloc | apply New.aft | apply New.drew | refine New.setCell ?_ ?_ _)); all_goals (first | done | (simp [size_aft]; done) | (simp [size_aft]; omega))⟩
    · have HV := Lib.hid (show 0 = WhereI l p q from (if_neg (fun h => hq h.2)).symm)
      have hq1 : (polyI l == 0) = false := by simpa using hq
      have hq2 : (polyI l != 0) = true := by simpa using hq
      clear hp hq
      go_enter Tryz.func53, Tryz.ntmps53
      go_wp2_with (first | (go_at_call 29; refine (checkPoint_c _ _ _).mono ?_; rintro e w1 ⟨rfl, pw, rfl⟩) | (go_at_call 44; refine (HP.out _ (by (repeat (first | exact New.refl _ | apply New.alloc | apply New.aft | apply New.drew | refine New.setCell ?_ ?_ _)); all_goals (first | done | (simp [size_aft]; done) | (simp [size_aft]; omega)))).mono ?_; rintro e w2 ⟨rfl, p2, rfl⟩))
      go_ret
      exact ⟨ret_int HV.out, by (repeat (first | exact New.refl _ | apply New.alloc | apply New.aft | apply New.drew | refine New.setCell ?_ ?_ _)); all_goals (first | done | (simp [size_aft]; done) | (simp [size_aft]; omega))⟩
  · have HV := Lib.hid (show 0 = WhereI l p q from (if_neg (fun h => hp h.1)).symm)
    have e1 := okErr_no (by simpa using hp)
    clear hp
    go_enter Tryz.func53, Tryz.ntmps53
    go_wp2_with (go_at_call 29; refine (checkPoint_c _ _ _).mono ?_; rintro e w1 ⟨rfl, pw, rfl⟩)
    go_ret
    exact ⟨ret_int HV.out, by (repeat (first | exact New.refl _ | apply New.alloc | apply New.aft | apply New.drew | refine New.setCell ?_ ?_ _)); all_goals (first | done | (simp [size_aft]; done) | (simp [size_aft]; omega))⟩

end Go.Proofs.YtpdfbboagaflhaaGreat

/- What Turn and Meet return. No condition. -/
namespace Go.Proofs.YtpdfbboagaflhaaGreat
open Go.RowKit

theorem pts3 (w : World) (a b c d e f : Int) (H : Nat) (hH : H = w.heap.size) : Pts (w.alloc (.cells #[.int .i64 a, .int .i64 b, .int .i64 c, .int .i64 d, .int .i64 e, .int .i64 f] 23)) H 0 3 [(a, b), (c, d), (e, f)] := by
  subst hH
  refine ⟨rfl, by simp, fun i hi => ?_⟩
  match i, hi with
  | 0, _ => simp [go_sem, px, py]
  | 1, _ => simp [go_sem, px, py]
  | 2, _ => simp [go_sem, px, py]
theorem pts4 (w : World) (a b c d e f g h : Int) (H : Nat) (hH : H = w.heap.size) : Pts (w.alloc (.cells #[.int .i64 a, .int .i64 b, .int .i64 c, .int .i64 d, .int .i64 e, .int .i64 f, .int .i64 g, .int .i64 h] 23)) H 0 4 [(a, b), (c, d), (e, f), (g, h)] := by
  subst hH
  refine ⟨rfl, by simp, fun i hi => ?_⟩
  match i, hi with
  | 0, _ => simp [go_sem, px, py]
  | 1, _ => simp [go_sem, px, py]
  | 2, _ => simp [go_sem, px, py]
  | 3, _ => simp [go_sem, px, py]

def TurnI (ax ay bx by' cx cy : Int) : Int := if okL [(ax, ay), (bx, by'), (cx, cy)] = true then turnI ax ay bx by' cx cy else 0

set_option maxHeartbeats 2000000 in
theorem Turn_c (ax ay bx by' cx cy : Int) (w : World) : Calls Tryz.prog 27 #[pv ax ay, pv bx by', pv cx cy] w fun e w' => e = .returned (.int .i64 (TurnI ax ay bx by' cx cy)) ∧ New w w' := by
  by_cases h : okL [(ax, ay), (bx, by'), (cx, cy)] = true
  · have HV := Lib.hid (show turnI ax ay bx by' cx cy = TurnI ax ay bx by' cx cy from (if_pos h).symm)
    have hc : ckPts [(ax, ay), (bx, by'), (cx, cy)] 3 = 0 := by simp [ckPts, h]
    have HC := Lib.hid hc
    have b0 := okL_bd h 0
    have b1 := okL_bd h 1
    have b2 := okL_bd h 2
    simp [px, py] at b0 b1 b2
    clear h hc
    go_enter Tryz.func27, Tryz.ntmps27
    go_wp2_with (first | (go_at_call 84; refine (checkPoints_c _ 0 3 3 _ _ _ (by omega) (pts3 _ ax ay bx by' cx cy _ (by simp [go_sem]))).mono ?_; rintro e w1 ⟨rfl, pw, rfl⟩; rw [HC.out]) | (go_at_call 85; refine (turn_c _ _ _ _ _ _ _ ?_ ?_ ?_ ?_ ?_ ?_).mono ?_; omega; omega; omega; omega; omega; omega; rintro e w1 ⟨rfl, pw, rfl⟩))
    go_ret
    exact ⟨ret_int HV.out, by (repeat (first | exact New.refl _ | apply New.alloc | apply New.aft | apply New.drew | refine New.setCell ?_ ?_ _)); all_goals (first | done | (simp [size_aft]; done) | (simp [size_aft]; omega))⟩
  · have HV := Lib.hid (show 0 = TurnI ax ay bx by' cx cy from (if_neg h).symm)
    have hc : ckPts [(ax, ay), (bx, by'), (cx, cy)] 3 = 1 := by simp [ckPts, h]
    have HC := Lib.hid hc
    clear h hc
    go_enter Tryz.func27, Tryz.ntmps27
    go_wp2_with (go_at_call 84; refine (checkPoints_c _ 0 3 3 _ _ _ (by omega) (pts3 _ ax ay bx by' cx cy _ (by simp [go_sem]))).mono ?_; rintro e w1 ⟨rfl, pw, rfl⟩; rw [HC.out])
    go_ret
    exact ⟨ret_int HV.out, by (repeat (first | exact New.refl _ | apply New.alloc | apply New.aft | apply New.drew | refine New.setCell ?_ ?_ _)); all_goals (first | done | (simp [size_aft]; done) | (simp [size_aft]; omega))⟩

def MeetI (a b c d e f g h : Int) : Int := if okS a b c d = true ∧ okS e f g h = true then meetI a b c d e f g h else 0

set_option maxHeartbeats 2000000 in
theorem Meet_c (a b c d e f g h : Int) (w : World) : Calls Tryz.prog 34 #[sv a b c d, sv e f g h] w fun en w' => en = .returned (.int .u8 (MeetI a b c d e f g h)) ∧ New w w' := by
  by_cases h1 : okS a b c d = true
  · by_cases h2 : okS e f g h = true
    · have HV := Lib.hid (show meetI a b c d e f g h = MeetI a b c d e f g h from (if_pos ⟨h1, h2⟩).symm)
      have k1 := okS_iff.1 h1
      have k2 := okS_iff.1 h2
      go_enter Tryz.func34, Tryz.ntmps34
      go_wp2_with (first | (go_at_call 88; refine (validSeg_c _ _ _ _ _).mono ?_; rintro e w1 ⟨rfl, pw, rfl⟩) | (go_at_call 92; refine (meet_c _ _ _ _ _ _ _ _ _ ?_ ?_ ?_ ?_ ?_ ?_ ?_ ?_).mono ?_; omega; omega; omega; omega; omega; omega; omega; omega; rintro e w1 ⟨rfl, pw, rfl⟩))
      go_ret
      exact ⟨ret_int HV.out, by (repeat (first | exact New.refl _ | apply New.alloc | apply New.aft | apply New.drew | refine New.setCell ?_ ?_ _)); all_goals (first | done | (simp [size_aft]; done) | (simp [size_aft]; omega))⟩
    · have HV := Lib.hid (show 0 = MeetI a b c d e f g h from (if_neg (fun hh => h2 hh.2)).symm)
      have h3 : okS e f g h = false := by simpa using h2
      clear h2
      go_enter Tryz.func34, Tryz.ntmps34
      go_wp2_with (go_at_call 88; refine (validSeg_c _ _ _ _ _).mono ?_; rintro e w1 ⟨rfl, pw, rfl⟩)
      go_ret
      exact ⟨ret_int HV.out, by (repeat (first | exact New.refl _ | apply New.alloc | apply New.aft | apply New.drew | refine New.setCell ?_ ?_ _)); all_goals (first | done | (simp [size_aft]; done) | (simp [size_aft]; omega))⟩
  · have HV := Lib.hid (show 0 = MeetI a b c d e f g h from (if_neg (fun hh => h1 hh.1)).symm)
    have h3 : okS a b c d = false := by simpa using h1
    clear h1
    go_enter Tryz.func34, Tryz.ntmps34
    go_wp2_with (go_at_call 88; refine (validSeg_c _ _ _ _ _).mono ?_; rintro e w1 ⟨rfl, pw, rfl⟩)
    go_ret
    exact ⟨ret_int HV.out, by (repeat (first | exact New.refl _ | apply New.alloc | apply New.aft | apply New.drew | refine New.setCell ?_ ?_ _)); all_goals (first | done | (simp [size_aft]; done) | (simp [size_aft]; omega))⟩

end Go.Proofs.YtpdfbboagaflhaaGreat
