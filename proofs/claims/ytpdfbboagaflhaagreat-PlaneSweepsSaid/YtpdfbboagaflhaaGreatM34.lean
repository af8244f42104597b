/- What slices.Compact leaves of segments in a slice that the call owns: the walk. At most 1000000 segments. -/
import Derived.Test.YtpdfbboagaflhaaGreatM28
import Derived.RegionTactic
import Derived.Deep.RegionHeld3
import Derived.BigRegion
import Derived.LoopTactic
import Derived.Deep.LoopGhost

namespace Go.Proofs.YtpdfbboagaflhaaGreat
open Go.RowKit

set_option maxRecDepth 100000 in
set_option maxHeartbeats 16000000 in
theorem compactS_c (base g n cap : Nat) (l : List S4) (w : World) (hl : n ≤ 1000000) (hn : l.length = n) (ho : w.ownsRow base 30 4 (.slice (some ⟨g, 0, none⟩) n cap) n (segCells l)) :
    Calls Tryz.prog 140 #[.slice (some ⟨g, 0, none⟩) n cap] w fun en w' => en = .returned (.slice (some ⟨g, 0, none⟩) (ddS l n).length cap) ∧ w'.ownsRow base 30 4 (.slice (some ⟨g, 0, none⟩) (ddS l n).length cap) (ddS l n).length (segCells (ddS l n)) ∧ w.grownBy w' (some g) := by
  have HO := Lib.hid ho
  have HN := Lib.hid hn
  have hcap := own_cap ho
  have hcl := hcap.1
  clear hcap hn ho
  by_cases h2 : n < 2
  · have HA2 := Lib.hid (show ddS l n = l by
      have hh := HN.out
      obtain h0 | h1 : n = 0 ∨ n = 1 := by omega
      · rw [h0] at hh ⊢; rw [List.length_eq_zero_iff.1 hh]; rfl
      · rw [h1] at hh ⊢; rw [ddS_keep (.inl rfl), ← show l.take 0 = ddS l 0 from rfl, ← take_extS l 0 (by omega), List.take_of_length_le (by omega)])
    go_enter Tryz.func140, Tryz.ntmps140
    go_wp2_with fail
    go_ret
    rw [HA2.out, HN.out]
    exact ⟨rfl, HO.out, grownBy_refl w _⟩
  · go_enter Tryz.func140, Tryz.ntmps140
    go_wp2_with fail
    go_loopg [3] n (fun gh s3 wr => ∃ k : Nat, 1 ≤ k ∧ k ≤ n ∧ n - k ≤ gh ∧ s3 = .int .i64 k ∧ New w wr ∧ ddS l k = l.take k)
    case atStart => exact ⟨1, Nat.le_refl _, by omega, by omega, rfl, New.refl _, by rw [ddS_keep (.inl rfl), take_extS l 0 (by rw [HN.out]; omega)]; rfl⟩
    case round =>
      obtain ⟨k, hk1, hk, hg, rfl, hnw, hall⟩ := hrel
      have HNW := Lib.hid hnw
      have HALL := Lib.hid hall
      clear hnw hall
      by_cases hlt : k < n
      · have hor : Hid (wr.ownsRow base 30 4 (.slice (some ⟨g, 0, none⟩) n cap) n (segCells l)) := Lib.hid (own_new HO.out HNW.out)
        obtain ⟨⟨c1, c2, c3, c4⟩, _⟩ := own_sg hor.out HN.out hlt
        obtain ⟨⟨d1, d2, d3, d4⟩, _⟩ := own_sg hor.out HN.out (show k - 1 < n by omega)
        by_cases hs : q1 l k = q1 l (k - 1) ∧ q2 l k = q2 l (k - 1) ∧ q3 l k = q3 l (k - 1) ∧ q4 l k = q4 l (k - 1)
        · have HS := Lib.hid (sameS_yes hs.1 hs.2.1 hs.2.2.1 hs.2.2.2)
          rw [hs.1] at c1
          rw [hs.2.1] at c2
          rw [hs.2.2.1] at c3
          rw [hs.2.2.2] at c4
          clear hs
          have hck : (cap = k) = False := eq_false (by omega)
          have hck2 : (cap == k) = false := by simp; omega
          generalize q1 l (k - 1) = X1 at *
          generalize q2 l (k - 1) = X2 at *
          generalize q3 l (k - 1) = X3 at *
          generalize q4 l (k - 1) = X4 at *
          go_wp2_with fail
          go_region
          go_wp2_with fail
          have HW1 := Lib.hid (show New w wr.drew from HNW.out.drew)
          go_loopg [3, 5] n (fun gh s3 s5 wx => ∃ (kk k2 : Nat) (m : List S4), s3 = .int .i64 kk ∧ s5 = .int .i64 k2 ∧ 1 ≤ k2 ∧ k + k2 ≤ n ∧ n - (k + k2) ≤ gh ∧ MidS l m kk (k + k2) ∧ wx.ownsRow base 30 4 (.slice (some ⟨g, 0, none⟩) n cap) n (segCells m) ∧ w.grownBy wx (some g))
          case atStart => exact ⟨k, 1, l, rfl, rfl, Nat.le_refl _, by omega, by omega, MidS.start (by omega) (by rw [HN.out]; exact hlt) HALL.out HS.out, own_new HO.out HW1.out, grownBy_new (grownBy_refl w _) HW1.out⟩
          case round =>
            obtain ⟨kk, k2, m, rfl, rfl, h1, hle, hg2, hmid, hown, hgr⟩ := hrel
            have HM := Lib.hid hmid
            have HOX := Lib.hid hown
            have HG := Lib.hid hgr
            have hkk : kk < k + k2 := hmid.2.2.1
            have HML := Lib.hid (hmid.1.trans HN.out)
            clear hmid hown hgr
            by_cases hlt2 : k + k2 < n
            · obtain ⟨⟨e1, e2, e3, e4⟩, _⟩ := own_sg HOX.out HML.out hlt2
              obtain ⟨⟨f1, f2, f3, f4⟩, _⟩ := own_sg HOX.out HML.out (show k + k2 - 1 < n by omega)
              obtain ⟨⟨o1, o2, o3, o4⟩, o5, o6, o7, o8⟩ := own_sg HOX.out HML.out (show kk < n by omega)
              rw [(HM.out.2.2.2.2 (k + k2) (by omega)).1, show (k + k2) * 4 = k * 4 + k2 * 4 by omega] at e1
              rw [(HM.out.2.2.2.2 (k + k2) (by omega)).2.1, show (k + k2) * 4 = k * 4 + k2 * 4 by omega] at e2
              rw [(HM.out.2.2.2.2 (k + k2) (by omega)).2.2.1, show (k + k2) * 4 = k * 4 + k2 * 4 by omega] at e3
              rw [(HM.out.2.2.2.2 (k + k2) (by omega)).2.2.2, show (k + k2) * 4 = k * 4 + k2 * 4 by omega] at e4
              rw [(HM.out.2.2.2.2 (k + k2 - 1) (by omega)).1, show (k + k2 - 1) * 4 = k * 4 + (k2 - 1) * 4 by omega] at f1
              rw [(HM.out.2.2.2.2 (k + k2 - 1) (by omega)).2.1, show (k + k2 - 1) * 4 = k * 4 + (k2 - 1) * 4 by omega] at f2
              rw [(HM.out.2.2.2.2 (k + k2 - 1) (by omega)).2.2.1, show (k + k2 - 1) * 4 = k * 4 + (k2 - 1) * 4 by omega] at f3
              rw [(HM.out.2.2.2.2 (k + k2 - 1) (by omega)).2.2.2, show (k + k2 - 1) * 4 = k * 4 + (k2 - 1) * 4 by omega] at f4
              by_cases hs2 : q1 l (k + k2) = q1 l (k + k2 - 1) ∧ q2 l (k + k2) = q2 l (k + k2 - 1) ∧ q3 l (k + k2) = q3 l (k + k2 - 1) ∧ q4 l (k + k2) = q4 l (k + k2 - 1)
              · have HS2 := Lib.hid (sameS_yes hs2.1 hs2.2.1 hs2.2.2.1 hs2.2.2.2)
                rw [hs2.1] at e1
                rw [hs2.2.1] at e2
                rw [hs2.2.2.1] at e3
                rw [hs2.2.2.2] at e4
                clear hs2
                generalize q1 l (k + k2 - 1) = Y1 at *
                generalize q2 l (k + k2 - 1) = Y2 at *
                generalize q3 l (k + k2 - 1) = Y3 at *
                generalize q4 l (k + k2 - 1) = Y4 at *
                go_wp2_with fail
                go_region
                go_wp2_with fail
                go_roundg (n - (k + (k2 + 1)))
                case measure => omega
                case rel => exact ⟨kk, k2 + 1, m, rfl, by go_num, by omega, by omega, Nat.le_refl _, HM.out.skip (by omega) HS2.out, own_new HOX.out ((New.refl _).drew), grownBy_new HG.out ((New.refl _).drew)⟩
              · have HS2 := Lib.hid (sameS_no hs2)
                have HKEEP := Lib.hid (HM.out.keep (by rw [HN.out]; exact hlt2) HS2.out)
                generalize hZ1 : q1 l (k + k2) = Z1 at *
                generalize hZ2 : q2 l (k + k2) = Z2 at *
                generalize hZ3 : q3 l (k + k2) = Z3 at *
                generalize hZ4 : q4 l (k + k2) = Z4 at *
                clear hZ1 hZ2 hZ3 hZ4
                generalize q1 l (k + k2 - 1) = Y1 at *
                generalize q2 l (k + k2 - 1) = Y2 at *
                generalize q3 l (k + k2 - 1) = Y3 at *
                generalize q4 l (k + k2 - 1) = Y4 at *
                generalize q1 m kk = O1 at *
                generalize q2 m kk = O2 at *
                generalize q3 m kk = O3 at *
                generalize q4 m kk = O4 at *
                have ways : (Z1 ≠ Y1) ∨ (Z1 = Y1 ∧ Z2 ≠ Y2) ∨ (Z1 = Y1 ∧ Z2 = Y2 ∧ Z3 ≠ Y3) ∨ (Z1 = Y1 ∧ Z2 = Y2 ∧ Z3 = Y3 ∧ Z4 ≠ Y4) := by omega
                clear hs2
                rcases ways with z1 | ⟨rfl, z2⟩ | ⟨rfl, rfl, z3⟩ | ⟨rfl, rfl, rfl, z4⟩
                all_goals
                  go_wp2_with fail
                  go_region
                  go_wp2_with fail
                  go_roundg (n - (k + (k2 + 1)))
                  case measure => omega
                  case rel => exact ⟨kk + 1, k2 + 1, m.set kk _, by go_num, by go_num, by omega, by omega, Nat.le_refl _, HKEEP.out, own_setSg (own_new HOX.out ((New.refl _).drew)) _ _ _ _ _, grownBy_setCell (grownBy_setCell (grownBy_setCell (grownBy_setCell (grownBy_new HG.out ((New.refl _).drew)) _ _) _ _) _ _) _ _⟩
            · have hkn : k + k2 = n := by omega
              have hkc : (cap = kk) = False := eq_false (by omega)
              have hkc2 : (cap == kk) = false := by simp; omega
              have HKN := Lib.hid hkn
              obtain ⟨vs, HVL, hclr⟩ := run_clear_k (P := Tryz.prog) wr 58 30 (.agg #[.int .i64 0, .int .i64 0, .int .i64 0, .int .i64 0]) 4 Tryz.underlying58 (fun _ => by kernel_rfl) rfl (by omega) (by intro u hu; simp [Value.cells] at hu; rcases hu with rfl | rfl | rfl | rfl <;> rfl) g (kk * 4) (n - kk) (cap - kk) (by omega) (fun j hj => (own_any HOX.out (j := kk * 4 + j) (by omega)).1) (fun j hj => (own_any HOX.out (j := kk * 4 + j) (by omega)).2)
              have HVL2 := Lib.hid HVL
              clear HVL hkn
              go_wp2_with fail
              go_ret
              have hM := HM.out
              rw [HKN.out] at hM
              obtain ⟨_, b2, _, b4, _⟩ := hM
              have o1 := own_prefix HOX.out kk (by omega)
              rw [segCells_take, b2] at o1
              have o2 := own_setCells vs wr (kk * 4) o1 (Nat.le_refl _)
              refine ⟨by rw [← b4]; rfl, by rw [← b4]; exact o2.1, grownBy_trans HG.out o2.2⟩
        · have HS := Lib.hid (sameS_no hs)
          have HALL2 := Lib.hid (show ddS l (k + 1) = l.take (k + 1) by rw [ddS_keep (.inr HS.out), HALL.out, take_extS l k (by rw [HN.out]; exact hlt)])
          generalize hZ1 : q1 l k = Z1 at *
          generalize hZ2 : q2 l k = Z2 at *
          generalize hZ3 : q3 l k = Z3 at *
          generalize hZ4 : q4 l k = Z4 at *
          clear hZ1 hZ2 hZ3 hZ4
          generalize q1 l (k - 1) = Y1 at *
          generalize q2 l (k - 1) = Y2 at *
          generalize q3 l (k - 1) = Y3 at *
          generalize q4 l (k - 1) = Y4 at *
          have ways : (Z1 ≠ Y1) ∨ (Z1 = Y1 ∧ Z2 ≠ Y2) ∨ (Z1 = Y1 ∧ Z2 = Y2 ∧ Z3 ≠ Y3) ∨ (Z1 = Y1 ∧ Z2 = Y2 ∧ Z3 = Y3 ∧ Z4 ≠ Y4) := by omega
          clear hs
          rcases ways with z1 | ⟨rfl, z2⟩ | ⟨rfl, rfl, z3⟩ | ⟨rfl, rfl, rfl, z4⟩
          all_goals
            go_wp2_with fail
            go_region
            go_wp2_with fail
            go_roundg (n - (k + 1))
            case measure => omega
            case rel => exact ⟨k + 1, by omega, by omega, Nat.le_refl _, by go_num, HNW.out.drew, HALL2.out⟩
      · have hkn : k = n := by omega
        have HA2 := Lib.hid (show ddS l n = l by have := HALL.out; rw [hkn] at this; rw [this, List.take_of_length_le (by rw [HN.out]; exact Nat.le_refl _)])
        have HKN := Lib.hid hkn
        clear hkn
        go_wp2_with fail
        go_ret
        rw [HA2.out, HN.out]
        exact ⟨rfl, own_new HO.out HNW.out, grownBy_new (grownBy_refl w _) HNW.out⟩

end Go.Proofs.YtpdfbboagaflhaaGreat
