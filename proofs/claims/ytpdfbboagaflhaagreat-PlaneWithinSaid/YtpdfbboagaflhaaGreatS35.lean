/- PlaneWithin returns true for every input, and its arguments read afterwards as before: the given statement, without a condition. -/
import Derived.Test.YtpdfbboagaflhaaGreatM51
import Derived.Test.YtpdfbboagaflhaaGreatS33
import Derived.Test.YtpdfbboagaflhaaGreatS34
import Derived.Deep.RegionHeld3
import Derived.Deep.RegionWith
import Derived.BigRegion
import Derived.LoopTactic
import Derived.Test.YtpdfbboagaflhaaGreatS31
import Derived.Test.YtpdfbboagaflhaaGreatRows
import Derived.ProofKit
import Derived.OpenShut
import Derived.Lib.SmallJoins
import Derived.Carry

set_option linter.unusedSimpArgs false
set_option linter.unusedVariables false
set_option maxRecDepth 100000
namespace Go.Proofs.YtpdfbboagaflhaaGreat
open Go.RowKit

set_option maxHeartbeats 4000000 in
theorem within_no (av : Option Addr) (n c : Nat) (a1 a2 a3 a4 : Int) (w : World) (hs : okS a1 a2 a3 a4 = false) :
    Calls Tryz.prog 55 #[.slice av n c, sv a1 a2 a3 a4] w fun en w' => en = .returned (.bool false) ∧ New w w' := by
  have HV := Lib.hid (fun w1 : World => validSeg_c a1 a2 a3 a4 w1)
  rw [hs] at HV
  clear hs
  go_enter Tryz.func55, Tryz.ntmps55
  go_wp2_with (go_at_call 88; refine (HV.out _).mono ?_; rintro en w1 ⟨rfl, pw, rfl⟩)
  all_goals (go_ret; exact ⟨rfl, (by (repeat (first | exact New.refl _ | apply New.alloc | apply New.aft | apply New.drew | refine New.setCell ?_ ?_ _)); all_goals (first | done | (simp [size_aft]; done) | (simp [size_aft]; omega)))⟩)

set_option maxHeartbeats 4000000 in
theorem within_bad (av : Option Addr) (n c : Nat) (a1 a2 a3 a4 K : Int) (w : World) (hs : okS a1 a2 a3 a4 = true) (hK : K ≠ 0)
    (HC : Hid (∀ w1 : World, New w w1 → Calls Tryz.prog 44 #[.slice av n c] w1 fun en w' => en = .returned (.int .i64 K) ∧ New w1 w')) :
    Calls Tryz.prog 55 #[.slice av n c, sv a1 a2 a3 a4] w fun en w' => en = .returned (.bool false) ∧ New w w' := by
  have HV := Lib.hid (fun w1 : World => validSeg_c a1 a2 a3 a4 w1)
  rw [hs] at HV
  have z1 : (K == 0) = false := by simpa using hK
  have z2 : (K != 0) = true := by simpa using hK
  clear hs hK
  go_enter Tryz.func55, Tryz.ntmps55
  go_wp2_with (first | (go_at_call 88; refine (HV.out _).mono ?_; rintro en w1 ⟨rfl, pw, rfl⟩) | (go_at_call 44; refine (HC.out _ (by (repeat (first | exact New.refl _ | apply New.alloc | apply New.aft | apply New.drew | refine New.setCell ?_ ?_ _)); all_goals (first | done | (simp [size_aft]; done) | (simp [size_aft]; omega)))).mono ?_; rintro en w1 ⟨rfl, pw, rfl⟩))
  all_goals (go_ret; exact ⟨rfl, (by (repeat (first | exact New.refl _ | apply New.alloc | apply New.aft | apply New.drew | refine New.setCell ?_ ?_ _)); all_goals (first | done | (simp [size_aft]; done) | (simp [size_aft]; omega)))⟩)

theorem sc_bdL {l : List P2} (h : okL l = true) : bdL (l.map (Geo.sc 2)) := fun i => by
  by_cases hi : i < l.length
  · obtain ⟨e1, e2⟩ := px_sc l 2 i hi
    have := okL_bd h i
    rw [e1, e2]; omega
  · simp [px, py, List.getD_eq_getElem?_getD, List.getElem?_eq_none (Nat.le_of_not_lt hi)]
theorem i64_at {x : Int} (h : -100000 ≤ x ∧ x ≤ 100000) : IntKind.i64.wrap x = x := IntWalk.i64_in _ (by omega)

set_option maxHeartbeats 16000000 in
theorem within_yes (b off n c : Nat) (l : List P2) (a1 a2 a3 a4 : Int) (w : World) (h0 : 0 < n) (hl : n ≤ 900000) (hw : Pts w b off n l) (hs : okS a1 a2 a3 a4 = true) (hK : polyI l = 0) (r : Bool) (hr : r = true ↔ Geo.WithinG l (a1, a2, a3, a4)) :
    Calls Tryz.prog 55 #[.slice (some ⟨b, off, none⟩) n c, sv a1 a2 a3 a4] w fun en w' => en = .returned (.bool r) ∧ New w w' := by
  have HV := Lib.hid (fun w1 : World => validSeg_c a1 a2 a3 a4 w1)
  have HC := Lib.hid (fun (w1 : World) (h1 : New w w1) => checkPoly_c b off n c l w1 h0 (by omega) (hw.new h1))
  have hok := (ckPts_zero (polyI_ok hK).1).2
  have hval : ∀ p, p ∈ l → valid p := fun p hp => okP_iff.1 (List.all_eq_true.1 hok p hp)
  have HBE := Lib.hid (edgesL_bd hok)
  have HBP := Lib.hid (fun j hj => Geo.pieces_bd (l := l) (s := (a1, a2, a3, a4)) hval hs j hj)
  obtain ⟨s1, s2, s3, s4⟩ : (0 ≤ a1 ∧ a1 ≤ 10000) ∧ (0 ≤ a2 ∧ a2 ≤ 10000) ∧ (0 ≤ a3 ∧ a3 ≤ 10000) ∧ (0 ≤ a4 ∧ a4 ≤ 10000) := by
    have := (okSeg_iff (s := (a1, a2, a3, a4))).1 hs
    exact ⟨this.1.1, this.1.2, this.2.1.1, this.2.1.2⟩
  have HED := Lib.hid (fun (w1 : World) (h1 : New w w1) => edges_s b off n c l w1 h0 (by omega) (hw.new h1))
  have HPI := Lib.hid (fun (w1 : World) (h1 : New w w1) => pieces_c b off n c l a1 a2 a3 a4 w1 hl (hw.new h1) (bdL_of_ok hok) (by omega) (by omega) (by omega) (by omega))
  have HSC := Lib.hid (fun (w1 : World) (h1 : New w w1) => scaled_c b off n c l w1 h0 (by omega) (hw.new h1) (bdL_of_ok hok))
  have HBS := Lib.hid (sc_bdL hok)
  have HN := Lib.hid hw.1
  have HR := Lib.hid hr
  rw [hs] at HV
  rw [hK] at HC
  have HME := Lib.hid (show ∀ k, Geo.meetW l (a1, a2, a3, a4) k = meetI (q1 (edgesL l) k) (q2 (edgesL l) k) (q3 (edgesL l) k) (q4 (edgesL l) k) a1 a2 a3 a4 from fun _ => rfl)
  have HMD := Lib.hid (show ∀ k, Geo.midW l (a1, a2, a3, a4) k = whereI (l.map (Geo.sc 2)) (q1 (piecesL l a1 a2 a3 a4) k + q3 (piecesL l a1 a2 a3 a4) k) (q2 (piecesL l a1 a2 a3 a4) k + q4 (piecesL l a1 a2 a3 a4) k) from fun _ => rfl)
  have HR1 := Lib.hid (show ∀ k, k < n → Geo.meetW l (a1, a2, a3, a4) k = 3 → false = r from fun k hk e => by
    cases hh : r
    · rfl
    · exact absurd e ((HR.out.1 hh).1 k (by rw [HN.out]; exact hk)))
  have HR2 := Lib.hid (show ∀ k, k < (piecesL l a1 a2 a3 a4).length → Geo.midW l (a1, a2, a3, a4) k = 0 → false = r from fun k hk e => by
    cases hh : r
    · rfl
    · exact absurd e ((HR.out.1 hh).2 k hk))
  have HR3 := Lib.hid (show Geo.FreeTo (Geo.meetW l (a1, a2, a3, a4)) 3 n → Geo.FreeTo (Geo.midW l (a1, a2, a3, a4)) 0 (piecesL l a1 a2 a3 a4).length → true = r from fun x y => by
    rw [← HN.out] at x
    exact (HR.out.2 ⟨x, y⟩).symm)
  generalize Geo.meetW l (a1, a2, a3, a4) = f at *
  generalize Geo.midW l (a1, a2, a3, a4) = g0 at *
  have HWL := Lib.hid hw
  clear hr hs hK hok hval hw
  go_enter Tryz.func55, Tryz.ntmps55
  go_wp2_with (first | (go_at_call 88; refine (HV.out _).mono ?_; rintro en w1 ⟨rfl, pw, rfl⟩) | (go_at_call 44; refine (HC.out _ (by (repeat (first | exact New.refl _ | apply New.alloc | apply New.aft | apply New.drew | refine New.setCell ?_ ?_ _)); all_goals (first | done | (simp [size_aft]; done) | (simp [size_aft]; omega)))).mono ?_; rintro en w1 ⟨rfl, pw, rfl⟩) | (go_at_call 109; refine (HED.out _ (by (repeat (first | exact New.refl _ | apply New.alloc | apply New.aft | apply New.drew | refine New.setCell ?_ ?_ _)); all_goals (first | done | (simp [size_aft]; done) | (simp [size_aft]; omega)))).mono ?_; rintro en w2 ⟨eb, ecap, rfl, hseg, hnew2⟩))
  have k1 : w2.cell? ⟨w.heap.size, 0, none⟩ = some (.int .i64 a1) := by rw [hnew2.cell (by simp [size_aft]; omega)]; simp [go_sem]
  have k2 : w2.cell? ⟨w.heap.size, 1, none⟩ = some (.int .i64 a2) := by rw [hnew2.cell (by simp [size_aft]; omega)]; simp [go_sem]
  have k3 : w2.cell? ⟨w.heap.size, 2, none⟩ = some (.int .i64 a3) := by rw [hnew2.cell (by simp [size_aft]; omega)]; simp [go_sem]
  have k4 : w2.cell? ⟨w.heap.size, 3, none⟩ = some (.int .i64 a4) := by rw [hnew2.cell (by simp [size_aft]; omega)]; simp [go_sem]
  have kb : w.heap.size < w2.heap.size := by have := hnew2.size; simp [size_aft] at this; omega
  have HN2 := Lib.hid (show New w w2 from New.trans (by (repeat (first | exact New.refl _ | apply New.alloc | apply New.aft | apply New.drew | refine New.setCell ?_ ?_ _)); all_goals (first | done | (simp [size_aft]; done) | (simp [size_aft]; omega))) hnew2)
  have HCE := Lib.hid (fun (W : World) (h : New w2 W) => (⟨Nat.lt_of_lt_of_le kb h.size, (h.cell kb).trans k1, (h.cell kb).trans k2, (h.cell kb).trans k3, (h.cell kb).trans k4⟩ : w.heap.size < W.heap.size ∧ W.cell? ⟨w.heap.size, 0, none⟩ = some (.int .i64 a1) ∧ W.cell? ⟨w.heap.size, 1, none⟩ = some (.int .i64 a2) ∧ W.cell? ⟨w.heap.size, 2, none⟩ = some (.int .i64 a3) ∧ W.cell? ⟨w.heap.size, 3, none⟩ = some (.int .i64 a4)))
  have HSG := Lib.hid hseg
  clear hnew2 hseg k1 k2 k3 k4 kb
  go_loopw [23] (fun i wr => ∃ k : Nat, k ≤ n ∧ i = .int .i64 k ∧ Geo.FreeTo f 3 k ∧ New w2 wr) (fun i _ => n - (intOf i).toNat)
  case atStart => exact ⟨0, Nat.zero_le _, rfl, Geo.FreeTo.zero, New.refl _⟩
  case round =>
    obtain ⟨k, hk, rfl, hfree, hnew⟩ := hrel
    have HF := Lib.hid hfree
    have HNEW := Lib.hid hnew
    have HNW := Lib.hid (HN2.out.trans hnew)
    clear hfree hnew
    by_cases hlt : k < n
    · obtain ⟨c1, c2, c3, c4⟩ := (HSG.out.new HNEW.out).2.2 k hlt
      simp only [Nat.zero_add] at c1 c2 c3 c4
      have hgb := (HSG.out.new HNEW.out).2.1
      obtain ⟨kb, k1, k2, k3, k4⟩ := HCE.out wr HNEW.out
      obtain ⟨b1, b2, b3, b4⟩ := HBE.out k (by rw [HN.out]; exact hlt)
      have HM := Lib.hid (show ∀ w1 : World, Calls Tryz.prog 92 #[sv (q1 (edgesL l) k) (q2 (edgesL l) k) (q3 (edgesL l) k) (q4 (edgesL l) k), sv a1 a2 a3 a4] w1 fun en w' => en = .returned (.int .u8 (f k)) ∧ New w1 w' from fun w1 => by rw [HME.out k]; exact meet_c _ _ _ _ _ _ _ _ w1 (by omega) (by omega) (by omega) (by omega) (by omega) (by omega) (by omega) (by omega))
      have HR1K := Lib.hid (HR1.out k hlt)
      have HFS := Lib.hid (fun e => HF.out.succ (k := k) e)
      generalize q1 (edgesL l) k = A at *
      generalize q2 (edgesL l) k = B at *
      generalize q3 (edgesL l) k = C at *
      generalize q4 (edgesL l) k = D at *
      generalize f k = M at *
      by_cases hM : M = 3
      · subst hM
        have HRR := Lib.hid (HR1K.out rfl)
        go_wp2_with (go_at_call 92; refine (HM.out _).mono ?_; rintro en w1 ⟨rfl, pw, rfl⟩)
        go_ret
        exact ⟨ret_bool HRR.out, (by (repeat (first | exact HNW.out | exact New.refl _ | apply New.alloc | apply New.aft | apply New.drew | refine New.setCell ?_ ?_ _)); all_goals (first | done | (simp [size_aft]; done) | (simp [size_aft]; omega)))⟩
      · have HFK := Lib.hid (HFS.out hM)
        have e2 : (M == 3) = false := by simpa using hM
        have e3 : decide (M = 3) = false := by simpa using hM
        go_wp2_with (go_at_call 92; refine (HM.out _).mono ?_; rintro en w1 ⟨rfl, pw, rfl⟩)
        go_roundw
        case rel => exact ⟨k + 1, by omega, by go_num, HFK.out, (by (repeat (first | exact HNEW.out | exact New.refl _ | apply New.alloc | apply New.aft | apply New.drew | refine New.setCell ?_ ?_ _)); all_goals (first | done | (simp [size_aft]; done) | (simp [size_aft]; omega)))⟩
        case measure => simp [intOf]; omega
    · have HK := Lib.hid (show k = n by omega)
      have HFN := Lib.hid (show Geo.FreeTo f 3 n by rw [← HK.out]; exact HF.out)
      obtain ⟨kb, k1, k2, k3, k4⟩ := HCE.out wr HNEW.out
      go_wp2_with (first | (go_at_call 119; refine (HPI.out _ (by (repeat (first | exact HNW.out | exact New.refl _ | apply New.alloc | apply New.aft | apply New.drew | refine New.setCell ?_ ?_ _)); all_goals (first | done | (simp [size_aft]; done) | (simp [size_aft]; omega)))).mono ?_; rintro en w3 ⟨pb, pcap, rfl, hown, hnew3⟩; have HNW3 := Lib.hid (show New w w3 from HNW.out.trans hnew3)) | (go_at_call 120; refine (HSC.out _ HNW3.out).mono ?_; rintro en w4 ⟨sb, scap, rfl, hpts, hnew4⟩))
      have HN4 := Lib.hid (HNW3.out.trans hnew4)
      have HS4 := Lib.hid ((segs_own hown rfl).new hnew4)
      have HP4 := Lib.hid hpts
      clear hown hnew3 hpts hnew4 kb k1 k2 k3 k4
      have hmb : (piecesL l a1 a2 a3 a4).length ≤ 900001 := by have := piecesL_len l a1 a2 a3 a4; rw [HN.out] at this; omega
      generalize hm : (piecesL l a1 a2 a3 a4).length = m at *
      go_loopw [39] (fun i wr => ∃ k : Nat, k ≤ m ∧ i = .int .i64 k ∧ Geo.FreeTo g0 0 k ∧ New w4 wr) (fun i _ => m - (intOf i).toNat)
      case atStart => exact ⟨0, Nat.zero_le _, rfl, Geo.FreeTo.zero, New.refl _⟩
      case round =>
        obtain ⟨k2, hk2, rfl, hfree2, hnew2⟩ := hrel
        have HF2 := Lib.hid hfree2
        have HNEW2 := Lib.hid hnew2
        have HNW2 := Lib.hid (HN4.out.trans hnew2)
        clear hfree2 hnew2
        by_cases hlt2 : k2 < m
        · obtain ⟨c1, c2, c3, c4⟩ := (HS4.out.new HNEW2.out).2.2 k2 hlt2
          simp only [Nat.zero_add] at c1 c2 c3 c4
          have hgb := (HS4.out.new HNEW2.out).2.1
          obtain ⟨⟨b1, b2⟩, b3, b4⟩ := HBP.out k2 (by first | exact hlt2 | (rw [hm]; exact hlt2))
          have HM := Lib.hid (show ∀ w1 : World, New w4 w1 → Calls Tryz.prog 117 #[.slice (some ⟨sb, 0, none⟩) n scap, pv (q1 (piecesL l a1 a2 a3 a4) k2 + q3 (piecesL l a1 a2 a3 a4) k2) (q2 (piecesL l a1 a2 a3 a4) k2 + q4 (piecesL l a1 a2 a3 a4) k2)] w1 fun en w' => en = .returned (.int .u8 (g0 k2)) ∧ New w1 w' from fun w1 h1 => by rw [HMD.out k2]; exact where_c sb 0 n scap (l.map (Geo.sc 2)) _ _ w1 h0 (by omega) (HP4.out.new h1) (by omega) (by omega) HBS.out)
          have HR2K := Lib.hid (HR2.out k2 (by first | exact hlt2 | (rw [hm]; exact hlt2)))
          have HFS := Lib.hid (fun e => HF2.out.succ (k := k2) e)
          generalize q1 (piecesL l a1 a2 a3 a4) k2 = A at *
          generalize q2 (piecesL l a1 a2 a3 a4) k2 = B at *
          generalize q3 (piecesL l a1 a2 a3 a4) k2 = C at *
          generalize q4 (piecesL l a1 a2 a3 a4) k2 = D at *
          generalize g0 k2 = M at *
          by_cases hM : M = 0
          · subst hM
            have HRR := Lib.hid (HR2K.out rfl)
            go_wp2_with (go_at_call 117; refine (HM.out _ (by (repeat (first | exact HNEW2.out | exact New.refl _ | apply New.alloc | apply New.aft | apply New.drew | refine New.setCell ?_ ?_ _)); all_goals (first | done | (simp [size_aft]; done) | (simp [size_aft]; omega)))).mono ?_; rintro en w1 ⟨rfl, pw, rfl⟩)
            go_ret
            exact ⟨ret_bool HRR.out, (by (repeat (first | exact HNW2.out | exact New.refl _ | apply New.alloc | apply New.aft | apply New.drew | refine New.setCell ?_ ?_ _)); all_goals (first | done | (simp [size_aft]; done) | (simp [size_aft]; omega)))⟩
          · have HFK := Lib.hid (HFS.out hM)
            have e2 : (M == 0) = false := by simpa using hM
            have e3 : decide (M = 0) = false := by simpa using hM
            go_wp2_with (go_at_call 117; refine (HM.out _ (by (repeat (first | exact HNEW2.out | exact New.refl _ | apply New.alloc | apply New.aft | apply New.drew | refine New.setCell ?_ ?_ _)); all_goals (first | done | (simp [size_aft]; done) | (simp [size_aft]; omega)))).mono ?_; rintro en w1 ⟨rfl, pw, rfl⟩)
            go_roundw
            case rel => exact ⟨k2 + 1, by omega, by go_num, HFK.out, (by (repeat (first | exact HNEW2.out | exact New.refl _ | apply New.alloc | apply New.aft | apply New.drew | refine New.setCell ?_ ?_ _)); all_goals (first | done | (simp [size_aft]; done) | (simp [size_aft]; omega)))⟩
            case measure => simp [intOf]; omega
        · have HK2 := Lib.hid (show k2 = m by omega)
          have HRR := Lib.hid (show true = r from HR3.out HFN.out (by first | (rw [← HK2.out]; exact HF2.out) | (rw [hm, ← HK2.out]; exact HF2.out)))
          go_wp2_with fail
          go_ret
          exact ⟨ret_bool HRR.out, (by (repeat (first | exact HNW2.out | exact New.refl _ | apply New.alloc | apply New.aft | apply New.drew | refine New.setCell ?_ ?_ _)); all_goals (first | done | (simp [size_aft]; done) | (simp [size_aft]; omega)))⟩
end Go.Proofs.YtpdfbboagaflhaaGreat

set_option linter.unusedSimpArgs false
set_option linter.unusedVariables false
set_option maxRecDepth 100000
namespace Go.Proofs.YtpdfbboagaflhaaGreat
open Go.RowKit

/-- two numbers in a block of the call's own -/
def TwoB (w : World) (H : Nat) (x y : Int) : Prop := H < w.heap.size ∧ (w.cell? ⟨H, 0, none⟩ = some (.int .i64 x) ∧ w.cell? ⟨H, 1, none⟩ = some (.int .i64 y)) ∧ (∀ o, w.frozen? ⟨H, o, none⟩ = false)
theorem TwoB.new {w w' : World} {H : Nat} {a b : Int} (h : TwoB w H a b) (hn : New w w') : TwoB w' H a b := by
  obtain ⟨h1, ⟨h2, h3⟩, h6⟩ := h
  exact ⟨Nat.lt_of_lt_of_le h1 hn.size, ⟨(hn.cell h1).trans h2, (hn.cell h1).trans h3⟩, fun o => (hn.below.frozen (p := ⟨H, o, none⟩) h1).trans (h6 o)⟩
theorem stops_own {w : World} {base g n cap : Nat} {l : List P2} (h : w.ownsRow base 114 2 (.slice (some ⟨g, 0, none⟩) n cap) n (ptCells l)) (hl : l.length = n) : Pts w g 0 n l := by
  refine ⟨hl, (h.lt g rfl).2, fun i hi => ?_⟩
  have hc := h.cells (g := g) rfl
  have hadd : ∀ j, (⟨g, 0, none⟩ : Addr).add j = ⟨g, j, none⟩ := by intro j; unfold Addr.add; split <;> simp_all
  obtain ⟨a1, a2⟩ := ptCells_at l i (by omega)
  have b1 := hc _ _ a1; have b2 := hc _ _ a2
  rw [hadd] at b1 b2
  simp only [Nat.zero_add]
  exact ⟨b1, b2⟩

set_option maxHeartbeats 4000000 in
theorem ref_within_no (av : Option Addr) (n c : Nat) (a1 a2 a3 a4 : Int) (w : World) (hs : okS a1 a2 a3 a4 = false) :
    Calls Tryz.prog 56 #[.slice av n c, sv a1 a2 a3 a4] w fun en w' => en = .returned (.bool false) ∧ New w w' := by
  have HV := Lib.hid (fun w1 : World => ref_validSeg a1 a2 a3 a4 w1)
  rw [hs] at HV
  clear hs
  go_enter Tryz.func56, Tryz.ntmps56
  go_wp2_with (go_at_call 90; refine (HV.out _).mono ?_; rintro en w1 ⟨rfl, pw, rfl⟩)
  all_goals (go_ret; exact ⟨rfl, (by (repeat (first | exact New.refl _ | apply New.alloc | apply New.aft | apply New.drew | refine New.setCell ?_ ?_ _)); all_goals (first | done | (simp [size_aft]; done) | (simp [size_aft]; omega)))⟩)

set_option maxHeartbeats 4000000 in
theorem ref_within_bad (av : Option Addr) (n c : Nat) (a1 a2 a3 a4 K : Int) (w : World) (hs : okS a1 a2 a3 a4 = true) (hK : K ≠ 0)
    (HC : Hid (∀ w1 : World, New w w1 → Calls Tryz.prog 45 #[.slice av n c] w1 fun en w' => en = .returned (.int .i64 K) ∧ New w1 w')) :
    Calls Tryz.prog 56 #[.slice av n c, sv a1 a2 a3 a4] w fun en w' => en = .returned (.bool false) ∧ New w w' := by
  have HV := Lib.hid (fun w1 : World => ref_validSeg a1 a2 a3 a4 w1)
  rw [hs] at HV
  have z1 : (K == 0) = false := by simpa using hK
  have z2 : (K != 0) = true := by simpa using hK
  clear hs hK
  go_enter Tryz.func56, Tryz.ntmps56
  go_wp2_with (first | (go_at_call 90; refine (HV.out _).mono ?_; rintro en w1 ⟨rfl, pw, rfl⟩) | (go_at_call 45; refine (HC.out _ (by (repeat (first | exact New.refl _ | apply New.alloc | apply New.aft | apply New.drew | refine New.setCell ?_ ?_ _)); all_goals (first | done | (simp [size_aft]; done) | (simp [size_aft]; omega)))).mono ?_; rintro en w1 ⟨rfl, pw, rfl⟩))
  all_goals (go_ret; exact ⟨rfl, (by (repeat (first | exact New.refl _ | apply New.alloc | apply New.aft | apply New.drew | refine New.setCell ?_ ?_ _)); all_goals (first | done | (simp [size_aft]; done) | (simp [size_aft]; omega)))⟩)

set_option maxHeartbeats 8000000 in
theorem ref_within_out (av : Option Addr) (n c : Nat) (a1 a2 a3 a4 V1 V2 : Int) (w : World) (hs : okS a1 a2 a3 a4 = true) (h12 : V1 = 0 ∨ V2 = 0)
    (HC : Hid (∀ w1 : World, New w w1 → Calls Tryz.prog 45 #[.slice av n c] w1 fun en w' => en = .returned (.int .i64 0) ∧ New w1 w'))
    (HW1 : Hid (∀ w1 : World, New w w1 → Calls Tryz.prog 118 #[.slice av n c, pv a1 a2] w1 fun en w' => en = .returned (.int .u8 V1) ∧ New w1 w'))
    (HW2 : Hid (∀ w1 : World, New w w1 → Calls Tryz.prog 118 #[.slice av n c, pv a3 a4] w1 fun en w' => en = .returned (.int .u8 V2) ∧ New w1 w')) :
    Calls Tryz.prog 56 #[.slice av n c, sv a1 a2 a3 a4] w fun en w' => en = .returned (.bool false) ∧ New w w' := by
  have HV := Lib.hid (fun w1 : World => ref_validSeg a1 a2 a3 a4 w1)
  rw [hs] at HV
  clear hs
  by_cases h1 : V1 = 0
  · subst h1
    clear h12
    go_enter Tryz.func56, Tryz.ntmps56
    go_wp2_with (first | (go_at_call 90; refine (HV.out _).mono ?_; rintro en w1 ⟨rfl, pw, rfl⟩) | (go_at_call 45; refine (HC.out _ (by (repeat (first | exact New.refl _ | apply New.alloc | apply New.aft | apply New.drew | refine New.setCell ?_ ?_ _)); all_goals (first | done | (simp [size_aft]; done) | (simp [size_aft]; omega)))).mono ?_; rintro en w1 ⟨rfl, pw, rfl⟩) | (go_at_call 118; (with_reducible refine (HW1.out _ (by (repeat (first | exact New.refl _ | apply New.alloc | apply New.aft | apply New.drew | refine New.setCell ?_ ?_ _)); all_goals (first | done | (simp [size_aft]; done) | (simp [size_aft]; omega)))).mono ?_); rintro en w1 ⟨rfl, pw, rfl⟩))
    all_goals (go_ret; exact ⟨rfl, (by (repeat (first | exact New.refl _ | apply New.alloc | apply New.aft | apply New.drew | refine New.setCell ?_ ?_ _)); all_goals (first | done | (simp [size_aft]; done) | (simp [size_aft]; omega)))⟩)
  · have h2 : V2 = 0 := by omega
    subst h2
    have z1 : (V1 == 0) = false := by simpa using h1
    have z2 : decide (V1 = 0) = false := by simpa using h1
    clear h12
    go_enter Tryz.func56, Tryz.ntmps56
    go_wp2_with (first | (go_at_call 90; refine (HV.out _).mono ?_; rintro en w1 ⟨rfl, pw, rfl⟩) | (go_at_call 45; refine (HC.out _ (by (repeat (first | exact New.refl _ | apply New.alloc | apply New.aft | apply New.drew | refine New.setCell ?_ ?_ _)); all_goals (first | done | (simp [size_aft]; done) | (simp [size_aft]; omega)))).mono ?_; rintro en w1 ⟨rfl, pw, rfl⟩) | (go_at_call 118; (with_reducible refine (HW1.out _ (by (repeat (first | exact New.refl _ | apply New.alloc | apply New.aft | apply New.drew | refine New.setCell ?_ ?_ _)); all_goals (first | done | (simp [size_aft]; done) | (simp [size_aft]; omega)))).mono ?_); rintro en w1 ⟨rfl, pw, rfl⟩) | (go_at_call 118; (with_reducible refine (HW2.out _ (by (repeat (first | exact New.refl _ | apply New.alloc | apply New.aft | apply New.drew | refine New.setCell ?_ ?_ _)); all_goals (first | done | (simp [size_aft]; done) | (simp [size_aft]; omega)))).mono ?_); rintro en w1 ⟨rfl, pw, rfl⟩))
    all_goals (go_ret; exact ⟨rfl, (by (repeat (first | exact New.refl _ | apply New.alloc | apply New.aft | apply New.drew | refine New.setCell ?_ ?_ _)); all_goals (first | done | (simp [size_aft]; done) | (simp [size_aft]; omega)))⟩)

set_option maxHeartbeats 32000000 in
theorem ref_within_yes (b off n c : Nat) (l : List P2) (a1 a2 a3 a4 : Int) (w : World) (h0 : 0 < n) (hl : n ≤ 900000) (hw : Pts w b off n l) (hs : okS a1 a2 a3 a4 = true) (hK : polyI l = 0) (hV1 : whereI l a1 a2 ≠ 0) (hV2 : whereI l a3 a4 ≠ 0) (r : Bool) (hr : r = true ↔ Geo.WithinR l (a1, a2, a3, a4)) :
    Calls Tryz.prog 56 #[.slice (some ⟨b, off, none⟩) n c, sv a1 a2 a3 a4] w fun en w' => en = .returned (.bool r) ∧ New w w' := by
  have HV := Lib.hid (fun w1 : World => ref_validSeg a1 a2 a3 a4 w1)
  have HC := Lib.hid (fun (w1 : World) (h1 : New w w1) => ref_checkPoly b off n c l w1 h0 (by omega) (hw.new h1))
  have hok := (ckPts_zero (polyI_ok hK).1).2
  have hval : ∀ p, p ∈ l → valid p := fun p hp => okP_iff.1 (List.all_eq_true.1 hok p hp)
  obtain ⟨s1, s2, s3, s4⟩ : (0 ≤ a1 ∧ a1 ≤ 10000) ∧ (0 ≤ a2 ∧ a2 ≤ 10000) ∧ (0 ≤ a3 ∧ a3 ≤ 10000) ∧ (0 ≤ a4 ∧ a4 ≤ 10000) := by
    have := (okSeg_iff (s := (a1, a2, a3, a4))).1 hs
    exact ⟨this.1.1, this.1.2, this.2.1.1, this.2.1.2⟩
  have hn := hw.1
  have HW1 := Lib.hid (fun (w1 : World) (h1 : New w w1) => ref_where b off n c l a1 a2 w1 (by omega) (hw.new h1) hok s1 s2)
  have HW2 := Lib.hid (fun (w1 : World) (h1 : New w w1) => ref_where b off n c l a3 a4 w1 (by omega) (hw.new h1) hok s3 s4)
  have HED := Lib.hid (fun (k : Nat) (hk : k < n) (w1 : World) (h1 : New w w1) => ref_edge b off n c k l w1 hk (by omega) (hw.new h1))
  have HB := Lib.hid (okL_bd hok)
  have HMV := Lib.hid (show ∀ k, Geo.meetV l (a1, a2, a3, a4) k = meetR a1 a2 a3 a4 (px l k) (py l k) (px l ((k + 1) % n)) (py l ((k + 1) % n)) from fun k => by rw [← hn]; rfl)
  have HST := Lib.hid (fun (hf : Geo.FreeTo (Geo.meetV l (a1, a2, a3, a4)) 3 n) (w1 : World) (h1 : New w w1) => ref_stops b off n c l a1 a2 a3 a4 w1 hl (hw.new h1) hok s1 s2 s3 s4 (fun k hk => by rw [← HMV.out k]; exact hf k hk) (Geo.frTo_le l _))
  have HMI := Lib.hid (fun (num den : Int) (w1 : World) (h1 : New w w1) (x : -200000000 ≤ num ∧ num ≤ 200000000) (y : 0 < den ∧ den ≤ 200000000) => ref_middle b off n c l a1 a2 a3 a4 num den w1 (by omega) (hw.new h1) hok s1 s2 s3 s4 x y)
  have HFB := Lib.hid (Geo.frTo_bd (l := l) (s := (a1, a2, a3, a4)) hval hs n (by omega))
  have HSV := Lib.hid (show ∀ i, Geo.stopV l (a1, a2, a3, a4) i = if (!(Geo.nxTo (Geo.frTo l (a1, a2, a3, a4) n) i (Geo.frTo l (a1, a2, a3, a4) n).length).1 ||
    Geo.middleB l (a1, a2, a3, a4) (px (Geo.frTo l (a1, a2, a3, a4) n) i * (Geo.nxTo (Geo.frTo l (a1, a2, a3, a4) n) i (Geo.frTo l (a1, a2, a3, a4) n).length).2.2 + (Geo.nxTo (Geo.frTo l (a1, a2, a3, a4) n) i (Geo.frTo l (a1, a2, a3, a4) n).length).2.1 * py (Geo.frTo l (a1, a2, a3, a4) n) i)
      (2 * py (Geo.frTo l (a1, a2, a3, a4) n) i * (Geo.nxTo (Geo.frTo l (a1, a2, a3, a4) n) i (Geo.frTo l (a1, a2, a3, a4) n).length).2.2)) then 1 else 0 from fun i => by rw [← hn]; rfl)
  have HFR1 := Lib.hid (show ∀ k, k < n → Geo.meetV l (a1, a2, a3, a4) k = 3 → false = r from fun k hk e => by
    cases hh : r
    · rfl
    · exact absurd e ((hr.1 hh).2.1 k (by rw [hn]; exact hk)))
  have HFR2 := Lib.hid (show ∀ k, k < (Geo.frTo l (a1, a2, a3, a4) n).length → Geo.stopV l (a1, a2, a3, a4) k = 0 → false = r from fun k hk e => by
    cases hh : r
    · rfl
    · exact absurd e ((hr.1 hh).2.2 k (by rw [hn]; exact hk)))
  have HFR3 := Lib.hid (show Geo.FreeTo (Geo.meetV l (a1, a2, a3, a4)) 3 n → Geo.FreeTo (Geo.stopV l (a1, a2, a3, a4)) 0 (Geo.frTo l (a1, a2, a3, a4) n).length → true = r from fun x y => by
    rw [← hn] at x y
    exact (hr.2 ⟨⟨hV1, hV2⟩, x, y⟩).symm)
  have hfl : (Geo.frTo l (a1, a2, a3, a4) n).length ≤ n + 2 := Geo.frTo_le l _ n
  generalize Geo.meetV l (a1, a2, a3, a4) = f at *
  generalize Geo.stopV l (a1, a2, a3, a4) = g0 at *
  generalize Geo.frTo l (a1, a2, a3, a4) n = F at *
  have y1 : (whereI l a1 a2 == 0) = false := by simpa using hV1
  have y2 : decide (whereI l a1 a2 = 0) = false := by simpa using hV1
  have y3 : (whereI l a3 a4 == 0) = false := by simpa using hV2
  have y4 : decide (whereI l a3 a4 = 0) = false := by simpa using hV2
  rw [hs] at HV
  rw [hK] at HC
  generalize whereI l a1 a2 = V1 at *
  generalize whereI l a3 a4 = V2 at *
  clear hr hs hK hok hval hw hn
  go_enter Tryz.func56, Tryz.ntmps56
  go_wp2_with (first | (go_at_call 90; refine (HV.out _).mono ?_; rintro en w1 ⟨rfl, pw, rfl⟩) | (go_at_call 45; refine (HC.out _ (by (repeat (first | exact New.refl _ | apply New.alloc | apply New.aft | apply New.drew | refine New.setCell ?_ ?_ _)); all_goals (first | done | (simp [size_aft]; done) | (simp [size_aft]; omega)))).mono ?_; rintro en w1 ⟨rfl, pw, rfl⟩) | (go_at_call 118; (with_reducible refine (HW1.out _ (by (repeat (first | exact New.refl _ | apply New.alloc | apply New.aft | apply New.drew | refine New.setCell ?_ ?_ _)); all_goals (first | done | (simp [size_aft]; done) | (simp [size_aft]; omega)))).mono ?_); rintro en w1 ⟨rfl, pw, rfl⟩) | (go_at_call 118; (with_reducible refine (HW2.out _ (by (repeat (first | exact New.refl _ | apply New.alloc | apply New.aft | apply New.drew | refine New.setCell ?_ ?_ _)); all_goals (first | done | (simp [size_aft]; done) | (simp [size_aft]; omega)))).mono ?_); rintro en w2 ⟨rfl, hnew2⟩))
  have k1 : w2.cell? ⟨w.heap.size, 0, none⟩ = some (.int .i64 a1) := by rw [hnew2.cell (by simp [size_aft]; omega)]; simp [go_sem]
  have k2 : w2.cell? ⟨w.heap.size, 1, none⟩ = some (.int .i64 a2) := by rw [hnew2.cell (by simp [size_aft]; omega)]; simp [go_sem]
  have k3 : w2.cell? ⟨w.heap.size, 2, none⟩ = some (.int .i64 a3) := by rw [hnew2.cell (by simp [size_aft]; omega)]; simp [go_sem]
  have k4 : w2.cell? ⟨w.heap.size, 3, none⟩ = some (.int .i64 a4) := by rw [hnew2.cell (by simp [size_aft]; omega)]; simp [go_sem]
  have kb : w.heap.size < w2.heap.size := by have := hnew2.size; simp [size_aft] at this; omega
  have HN2 := Lib.hid (show New w w2 from New.trans (by (repeat (first | exact New.refl _ | apply New.alloc | apply New.aft | apply New.drew | refine New.setCell ?_ ?_ _)); all_goals (first | done | (simp [size_aft]; done) | (simp [size_aft]; omega))) hnew2)
  have HCE := Lib.hid (fun (W : World) (h : New w2 W) => (⟨Nat.lt_of_lt_of_le kb h.size, (h.cell kb).trans k1, (h.cell kb).trans k2, (h.cell kb).trans k3, (h.cell kb).trans k4⟩ : w.heap.size < W.heap.size ∧ W.cell? ⟨w.heap.size, 0, none⟩ = some (.int .i64 a1) ∧ W.cell? ⟨w.heap.size, 1, none⟩ = some (.int .i64 a2) ∧ W.cell? ⟨w.heap.size, 2, none⟩ = some (.int .i64 a3) ∧ W.cell? ⟨w.heap.size, 3, none⟩ = some (.int .i64 a4)))
  clear hnew2 k1 k2 k3 k4 kb y1 y2 y3 y4 hV1 hV2 HW1 HW2 HV HC
  go_loopw [6] (fun i wr => ∃ k : Nat, k ≤ n ∧ i = .int .i64 k ∧ Geo.FreeTo f 3 k ∧ New w2 wr) (fun i _ => n - (intOf i).toNat)
  case atStart => exact ⟨0, Nat.zero_le _, rfl, Geo.FreeTo.zero, New.refl _⟩
  case round =>
    obtain ⟨k, hk, rfl, hfree, hnew⟩ := hrel
    have HF := Lib.hid hfree
    have HNEW := Lib.hid hnew
    have HNW := Lib.hid (HN2.out.trans hnew)
    clear hfree hnew
    by_cases hlt : k < n
    · obtain ⟨kb, k1, k2, k3, k4⟩ := HCE.out wr HNEW.out
      have HE := Lib.hid (fun (w1 : World) (h1 : New wr w1) => HED.out k hlt w1 (HNW.out.trans h1))
      obtain ⟨b1, b2⟩ := HB.out k
      obtain ⟨b3, b4⟩ := HB.out ((k + 1) % n)
      have HM := Lib.hid (show ∀ w1 : World, Calls Tryz.prog 97 #[sv a1 a2 a3 a4, sv (px l k) (py l k) (px l ((k + 1) % n)) (py l ((k + 1) % n))] w1 fun en w' => en = .returned (.int .u8 (f k)) ∧ New w1 w' from fun w1 => by rw [HMV.out k]; exact ref_meet _ _ _ _ _ _ _ _ w1 s1 s2 s3 s4 b1 b2 b3 b4)
      have HR1K := Lib.hid (HFR1.out k hlt)
      have HFS := Lib.hid (fun e => HF.out.succ (k := k) e)
      generalize px l k = A at *
      generalize py l k = B at *
      generalize px l ((k + 1) % n) = C at *
      generalize py l ((k + 1) % n) = D at *
      generalize f k = M at *
      by_cases hM : M = 3
      · subst hM
        have HRR := Lib.hid (HR1K.out rfl)
        go_wp2_with fail
        first | refine wp_region_at2 (by kernel_rfl) (by kernel_rfl) ?_ | refine wp_region_at (by kernel_rfl) (by kernel_rfl) ?_
        repeat (go_big_quiet_step (first | (go_at_call 110; exact calls_new (HE.out _ ((New.refl _).aft _ _))) | (go_at_call 97; exact calls_new (HM.out _))))
        refine wpQuiet_nil ?_
        rintro _ ⟨q0, rfl⟩
        go_wp2_with fail
        go_ret
        exact ⟨ret_bool HRR.out, (by (repeat (first | exact HNW.out | exact New.refl _ | apply New.alloc | apply New.aft | apply New.drew | refine New.setCell ?_ ?_ _)); all_goals (first | done | (simp [size_aft]; done) | (simp [size_aft]; omega)))⟩
      · have HFK := Lib.hid (HFS.out hM)
        have e2 : (M == 3) = false := by simpa using hM
        have e3 : decide (M = 3) = false := by simpa using hM
        go_wp2_with fail
        first | refine wp_region_at2 (by kernel_rfl) (by kernel_rfl) ?_ | refine wp_region_at (by kernel_rfl) (by kernel_rfl) ?_
        repeat (go_big_quiet_step (first | (go_at_call 110; exact calls_new (HE.out _ ((New.refl _).aft _ _))) | (go_at_call 97; exact calls_new (HM.out _))))
        refine wpQuiet_nil ?_
        rintro _ ⟨q0, rfl⟩
        go_wp2_with fail
        go_roundw
        case rel => exact ⟨k + 1, by omega, by go_num, HFK.out, (by (repeat (first | exact HNEW.out | exact New.refl _ | apply New.alloc | apply New.aft | apply New.drew | refine New.setCell ?_ ?_ _)); all_goals (first | done | (simp [size_aft]; done) | (simp [size_aft]; omega)))⟩
        case measure => simp [intOf]; omega
    · have HK := Lib.hid (show k = n by omega)
      have HFN := Lib.hid (show Geo.FreeTo f 3 n by rw [← HK.out]; exact HF.out)
      obtain ⟨kb, k1, k2, k3, k4⟩ := HCE.out wr HNEW.out
      go_wp2_with (go_at_call 121; refine (HST.out HFN.out _ (by (repeat (first | exact HNW.out | exact New.refl _ | apply New.alloc | apply New.aft | apply New.drew | refine New.setCell ?_ ?_ _)); all_goals (first | done | (simp [size_aft]; done) | (simp [size_aft]; omega)))).mono ?_; rintro en w3 ⟨sb, scap, rfl, hown, hnew3⟩)
      have HN3 := Lib.hid (HNW.out.trans hnew3)
      have HN23 := Lib.hid (HNEW.out.trans hnew3)
      have HP3 := Lib.hid (stops_own hown rfl)
      clear hown hnew3 kb k1 k2 k3 k4
      generalize hm : F.length = m at *
      have HLM := Lib.hid hm
      go_loopw [8] (fun i wr => ∃ k : Nat, k ≤ m ∧ i = .int .i64 k ∧ Geo.FreeTo g0 0 k ∧ New w3 wr) (fun i _ => m - (intOf i).toNat)
      case atStart => exact ⟨0, Nat.zero_le _, rfl, Geo.FreeTo.zero, New.refl _⟩
      case round =>
        obtain ⟨wx, rfl⟩ : ∃ wx : World, wx = wr := ⟨_, rfl⟩
        obtain ⟨i, hi, rfl, hfree2, hnew2⟩ := hrel
        have HF2 := Lib.hid hfree2
        have HNX := Lib.hid hnew2
        have HNXW := Lib.hid (HN3.out.trans hnew2)
        have HNX2 := Lib.hid (HN23.out.trans hnew2)
        clear hfree2 hnew2
        by_cases hlti : i < m
        · have HSVI := Lib.hid (HSV.out i)
          have HR2K := Lib.hid (HFR2.out i (by first | exact hlti | (rw [HLM.out]; exact hlti)))
          have HFS := Lib.hid (fun e => HF2.out.succ (k := i) e)
          obtain ⟨u1, u2⟩ := (HP3.out.new HNX.out).2.2 i hlti
          simp only [Nat.zero_add] at u1 u2
          obtain ⟨⟨ub1, ub2⟩, ub3, ub4⟩ : Geo.Fb (px F i, py F i) := Geo.getD_bd HFB.out i
          have up : 0 < py F i := Geo.getD_pos HFB.out (by rw [HLM.out]; exact hlti)
          simp only at ub1 ub2 ub3 ub4
          have HNB := Lib.hid (fun j hj => Geo.nxTo_bd HFB.out i j hj)
          have HNS := Lib.hid (show ∀ j, Geo.nxTo F i (j + 1) = if (decide (px F j * py F i > px F i * py F j) && (!(Geo.nxTo F i j).1 || decide (px F j * (Geo.nxTo F i j).2.2 < (Geo.nxTo F i j).2.1 * py F j))) = true then (true, px F j, py F j) else Geo.nxTo F i j from fun _ => rfl)
          have hgx := (HP3.out.new HNX.out).2.1
          generalize hU : px F i = U at *
          generalize hW : py F i = Z at *
          have hgx1 : sb < wx.heap.size + 1 := by omega
          go_wp2_with fail
          go_loopw [10, 11] (fun v q wy => ∃ j : Nat, j ≤ m ∧ q = .int .i64 j ∧ v = .bool (Geo.nxTo F i j).1 ∧ TwoB wy wx.heap.size (Geo.nxTo F i j).2.1 (Geo.nxTo F i j).2.2 ∧ New wx wy) (fun _ q _ => m - (intOf q).toNat)
          case atStart => exact ⟨0, Nat.zero_le _, rfl, rfl, by refine ⟨?_, ⟨?_, ?_⟩, fun o => ?_⟩ <;> simp [go_sem, Geo.nxTo], (New.refl _).alloc _⟩
          case round =>
            obtain ⟨wy, rfl⟩ : ∃ wy : World, wy = wr := ⟨_, rfl⟩
            obtain ⟨j, hj, rfl, rfl, hQ, hnewy⟩ := hrel
            have HNY := Lib.hid hnewy
            have HNYW := Lib.hid (HNXW.out.trans hnewy)
            have HQB := Lib.hid hQ
            obtain ⟨hQs, ⟨qq1, qq2⟩, qfz⟩ := hQ
            obtain ⟨v1, v2⟩ := (HP3.out.new (HNX.out.trans hnewy)).2.2 i hlti
            simp only [Nat.zero_add] at v1 v2
            rw [hU] at v1
            rw [hW] at v2
            have hgy := (HP3.out.new (HNX.out.trans hnewy)).2.1
            obtain ⟨⟨⟨nb1, nb2⟩, nb3, nb4⟩, hnp⟩ := HNB.out j (by first | exact hj | (rw [HLM.out]; exact hj))
            clear hnewy
            by_cases hjm : j < m
            · obtain ⟨c1, c2⟩ := (HP3.out.new (HNX.out.trans HNY.out)).2.2 j hjm
              simp only [Nat.zero_add] at c1 c2
              obtain ⟨⟨xb1, xb2⟩, xb3, xb4⟩ : Geo.Fb (px F j, py F j) := Geo.getD_bd HFB.out j
              simp only at xb1 xb2 xb3 xb4
              have HQ0 := Lib.hid (HNS.out j)
              generalize px F j = X at *
              generalize py F j = Y at *
              generalize hst : Geo.nxTo F i j = st at *
              have HSTE := Lib.hid hst
              clear hst
              obtain ⟨S, NX, NY⟩ := st
              simp only at qq1 qq2 nb1 nb2 nb3 nb4
              have m1 := mul_bd X Z 10000 10000 (by omega) (by omega) (by omega) (by omega)
              have m2 := mul_bd U Y 10000 10000 (by omega) (by omega) (by omega) (by omega)
              have m3 := mul_bd X NY 10000 10000 (by omega) (by omega) (by omega) (by omega)
              have m4 := mul_bd NX Y 10000 10000 (by omega) (by omega) (by omega) (by omega)
              simp only [Int.reduceMul, Int.reduceNeg] at m1 m2 m3 m4
              have hj1 : (j : Int) < (m : Int) := by omega
              have hi1 : (i : Int) < (m : Int) := by omega
              clear hnp
              cases S
              · by_cases h1 : U * Y < X * Z
                · have HQ2 := Lib.hid (show Geo.nxTo F i (j + 1) = (true, X, Y) by rw [HQ0.out]; simp [h1])
                  go_wp2_with fail
                  first | refine wp_region_at2 (by kernel_rfl) (by kernel_rfl) ?_ | refine wp_region_at (by kernel_rfl) (by kernel_rfl) ?_
                  repeat (go_big_quiet_step (fail))
                  refine wpQuiet_nil ?_
                  rintro _ ⟨q0, rfl⟩
                  have e1 : wx.heap.size < wy.heap.size + q0.os.size := by omega
                  have e2 : sb < wy.heap.size + q0.os.size := by omega
                  go_wp2_with fail
                  first | refine wp_region_at2 (by kernel_rfl) (by kernel_rfl) ?_ | refine wp_region_at (by kernel_rfl) (by kernel_rfl) ?_
                  repeat (go_big_quiet_step (fail))
                  refine wpQuiet_nil ?_
                  rintro _ ⟨q1, rfl⟩
                  have e3 : wx.heap.size < wy.heap.size + q0.os.size + q1.os.size := by omega
                  have e4 : sb < wy.heap.size + q0.os.size + q1.os.size := by omega
                  go_wp2_with fail
                  go_roundw
                  case rel => exact ⟨j + 1, by omega, by go_num, by rw [HQ2.out], by rw [HQ2.out]; refine ⟨?_, ⟨?_, ?_⟩, fun o => ?_⟩ <;> simp [go_sem, size_aft, *], (by (repeat (first | exact HNY.out | exact New.refl _ | apply New.alloc | apply New.aft | apply New.drew | refine New.setCell ?_ ?_ _)); all_goals (first | done | (simp [size_aft]; done) | (simp [size_aft]; omega)))⟩
                  case measure => simp [intOf]; omega
                · have HQ2 := Lib.hid (show Geo.nxTo F i (j + 1) = (false, NX, NY) by rw [HQ0.out]; simp [h1])
                  go_wp2_with fail
                  first | refine wp_region_at2 (by kernel_rfl) (by kernel_rfl) ?_ | refine wp_region_at (by kernel_rfl) (by kernel_rfl) ?_
                  repeat (go_big_quiet_step (fail))
                  refine wpQuiet_nil ?_
                  rintro _ ⟨q0, rfl⟩
                  have e1 : wx.heap.size < wy.heap.size + q0.os.size := by omega
                  have e2 : sb < wy.heap.size + q0.os.size := by omega
                  go_wp2_with fail
                  first | refine wp_region_at2 (by kernel_rfl) (by kernel_rfl) ?_ | refine wp_region_at (by kernel_rfl) (by kernel_rfl) ?_
                  repeat (go_big_quiet_step (fail))
                  refine wpQuiet_nil ?_
                  rintro _ ⟨q1, rfl⟩
                  have e3 : wx.heap.size < wy.heap.size + q0.os.size + q1.os.size := by omega
                  have e4 : sb < wy.heap.size + q0.os.size + q1.os.size := by omega
                  go_wp2_with fail
                  go_roundw
                  case rel => exact ⟨j + 1, by omega, by go_num, by rw [HQ2.out], by rw [HQ2.out]; exact HQB.out.new (by (repeat (first | exact New.refl _ | apply New.alloc | apply New.aft | apply New.drew | refine New.setCell ?_ ?_ _)); all_goals (first | done | (simp [size_aft]; done) | (simp [size_aft]; omega))), (by (repeat (first | exact HNY.out | exact New.refl _ | apply New.alloc | apply New.aft | apply New.drew | refine New.setCell ?_ ?_ _)); all_goals (first | done | (simp [size_aft]; done) | (simp [size_aft]; omega)))⟩
                  case measure => simp [intOf]; omega
              · by_cases h1 : U * Y < X * Z
                · by_cases h2 : X * NY < NX * Y
                  · have HQ2 := Lib.hid (show Geo.nxTo F i (j + 1) = (true, X, Y) by rw [HQ0.out]; simp [h1, h2])
                    go_wp2_with fail
                    first | refine wp_region_at2 (by kernel_rfl) (by kernel_rfl) ?_ | refine wp_region_at (by kernel_rfl) (by kernel_rfl) ?_
                    repeat (go_big_quiet_step (fail))
                    refine wpQuiet_nil ?_
                    rintro _ ⟨q0, rfl⟩
                    have e1 : wx.heap.size < wy.heap.size + q0.os.size := by omega
                    have e2 : sb < wy.heap.size + q0.os.size := by omega
                    go_wp2_with fail
                    first | refine wp_region_at2 (by kernel_rfl) (by kernel_rfl) ?_ | refine wp_region_at (by kernel_rfl) (by kernel_rfl) ?_
                    repeat (go_big_quiet_step (fail))
                    refine wpQuiet_nil ?_
                    rintro _ ⟨q1, rfl⟩
                    have e3 : wx.heap.size < wy.heap.size + q0.os.size + q1.os.size := by omega
                    have e4 : sb < wy.heap.size + q0.os.size + q1.os.size := by omega
                    go_wp2_with fail
                    go_roundw
                    case rel => exact ⟨j + 1, by omega, by go_num, by rw [HQ2.out], by rw [HQ2.out]; refine ⟨?_, ⟨?_, ?_⟩, fun o => ?_⟩ <;> simp [go_sem, size_aft, *], (by (repeat (first | exact HNY.out | exact New.refl _ | apply New.alloc | apply New.aft | apply New.drew | refine New.setCell ?_ ?_ _)); all_goals (first | done | (simp [size_aft]; done) | (simp [size_aft]; omega)))⟩
                    case measure => simp [intOf]; omega
                  · have HQ2 := Lib.hid (show Geo.nxTo F i (j + 1) = (true, NX, NY) by rw [HQ0.out]; simp [h1, h2])
                    go_wp2_with fail
                    first | refine wp_region_at2 (by kernel_rfl) (by kernel_rfl) ?_ | refine wp_region_at (by kernel_rfl) (by kernel_rfl) ?_
                    repeat (go_big_quiet_step (fail))
                    refine wpQuiet_nil ?_
                    rintro _ ⟨q0, rfl⟩
                    have e1 : wx.heap.size < wy.heap.size + q0.os.size := by omega
                    have e2 : sb < wy.heap.size + q0.os.size := by omega
                    go_wp2_with fail
                    first | refine wp_region_at2 (by kernel_rfl) (by kernel_rfl) ?_ | refine wp_region_at (by kernel_rfl) (by kernel_rfl) ?_
                    repeat (go_big_quiet_step (fail))
                    refine wpQuiet_nil ?_
                    rintro _ ⟨q1, rfl⟩
                    have e3 : wx.heap.size < wy.heap.size + q0.os.size + q1.os.size := by omega
                    have e4 : sb < wy.heap.size + q0.os.size + q1.os.size := by omega
                    go_wp2_with fail
                    go_roundw
                    case rel => exact ⟨j + 1, by omega, by go_num, by rw [HQ2.out], by rw [HQ2.out]; exact HQB.out.new (by (repeat (first | exact New.refl _ | apply New.alloc | apply New.aft | apply New.drew | refine New.setCell ?_ ?_ _)); all_goals (first | done | (simp [size_aft]; done) | (simp [size_aft]; omega))), (by (repeat (first | exact HNY.out | exact New.refl _ | apply New.alloc | apply New.aft | apply New.drew | refine New.setCell ?_ ?_ _)); all_goals (first | done | (simp [size_aft]; done) | (simp [size_aft]; omega)))⟩
                    case measure => simp [intOf]; omega
                · have HQ2 := Lib.hid (show Geo.nxTo F i (j + 1) = (true, NX, NY) by rw [HQ0.out]; simp [h1])
                  go_wp2_with fail
                  first | refine wp_region_at2 (by kernel_rfl) (by kernel_rfl) ?_ | refine wp_region_at (by kernel_rfl) (by kernel_rfl) ?_
                  repeat (go_big_quiet_step (fail))
                  refine wpQuiet_nil ?_
                  rintro _ ⟨q0, rfl⟩
                  have e1 : wx.heap.size < wy.heap.size + q0.os.size := by omega
                  have e2 : sb < wy.heap.size + q0.os.size := by omega
                  go_wp2_with fail
                  first | refine wp_region_at2 (by kernel_rfl) (by kernel_rfl) ?_ | refine wp_region_at (by kernel_rfl) (by kernel_rfl) ?_
                  repeat (go_big_quiet_step (fail))
                  refine wpQuiet_nil ?_
                  rintro _ ⟨q1, rfl⟩
                  have e3 : wx.heap.size < wy.heap.size + q0.os.size + q1.os.size := by omega
                  have e4 : sb < wy.heap.size + q0.os.size + q1.os.size := by omega
                  go_wp2_with fail
                  go_roundw
                  case rel => exact ⟨j + 1, by omega, by go_num, by rw [HQ2.out], by rw [HQ2.out]; exact HQB.out.new (by (repeat (first | exact New.refl _ | apply New.alloc | apply New.aft | apply New.drew | refine New.setCell ?_ ?_ _)); all_goals (first | done | (simp [size_aft]; done) | (simp [size_aft]; omega))), (by (repeat (first | exact HNY.out | exact New.refl _ | apply New.alloc | apply New.aft | apply New.drew | refine New.setCell ?_ ?_ _)); all_goals (first | done | (simp [size_aft]; done) | (simp [size_aft]; omega)))⟩
                  case measure => simp [intOf]; omega
            · have HJ := Lib.hid (show j = m by omega)
              have HSV2 := HSVI.out
              have hnp2 := hnp
              rw [HJ.out] at qq1 qq2 nb1 nb2 nb3 nb4 hnp2
              first | rw [HLM.out] at HSV2 | skip
              generalize hst : Geo.nxTo F i m = st at *
              obtain ⟨S, NX, NY⟩ := st
              simp only at qq1 qq2 nb1 nb2 nb3 nb4 hnp2
              cases S
              · have HG := Lib.hid (HFS.out (by rw [HSV2]; simp))
                have hsel : (Geo.nxTo F i j).1 = false := by rw [HJ.out, hst]
                go_wp2_with fail
                go_roundw
                case rel => exact ⟨i + 1, by omega, by go_num, HG.out, (by (repeat (first | exact (HNX.out.trans HNY.out) | exact New.refl _ | apply New.alloc | apply New.aft | apply New.drew | refine New.setCell ?_ ?_ _)); all_goals (first | done | (simp [size_aft]; done) | (simp [size_aft]; omega)))⟩
                case measure => simp [intOf]; omega
              · have np := hnp2 rfl
                have hsel : (Geo.nxTo F i j).1 = true := by rw [HJ.out, hst]
                have m1 := mul_bd U NY 10000 10000 (by omega) (by omega) (by omega) (by omega)
                have m2 := mul_bd NX Z 10000 10000 (by omega) (by omega) (by omega) (by omega)
                have m3 := mul_bd (2 * Z) NY 20000 10000 (by omega) (by omega) (by omega) (by omega)
                have m4 : 0 < 2 * Z * NY := Int.mul_pos (by omega) np
                simp only [Int.reduceMul, Int.reduceNeg] at m1 m2 m3
                have hi1 : (i : Int) < (m : Int) := by omega
                have HM := Lib.hid (fun (w1 : World) (h1 : New wy w1) => HMI.out (U * NY + NX * Z) (2 * Z * NY) w1 (HNYW.out.trans h1) (by omega) (by omega))
                generalize Geo.middleB l (a1, a2, a3, a4) (U * NY + NX * Z) (2 * Z * NY) = B0 at *
                obtain ⟨kb, k1, k2, k3, k4⟩ := HCE.out wy (HNX2.out.trans HNY.out)
                cases B0
                · have HRR := Lib.hid (HR2K.out (by rw [HSV2]; rfl))
                  go_wp2_with fail
                  first | refine wp_region_at2 (by kernel_rfl) (by kernel_rfl) ?_ | refine wp_region_at (by kernel_rfl) (by kernel_rfl) ?_
                  repeat (go_big_quiet_step (fail))
                  refine wpQuiet_nil ?_
                  rintro _ ⟨q0, rfl⟩
                  have e1 : wx.heap.size < wy.heap.size + q0.os.size := by omega
                  have e2 : sb < wy.heap.size + q0.os.size := by omega
                  have e5 : w.heap.size < wy.heap.size + q0.os.size := by omega
                  go_wp2_with fail
                  first | refine wp_region_at2 (by kernel_rfl) (by kernel_rfl) ?_ | refine wp_region_at (by kernel_rfl) (by kernel_rfl) ?_
                  repeat (go_big_quiet_step (fail))
                  refine wpQuiet_nil ?_
                  rintro _ ⟨q1, rfl⟩
                  have e3 : wx.heap.size < wy.heap.size + q0.os.size + q1.os.size := by omega
                  have e4 : sb < wy.heap.size + q0.os.size + q1.os.size := by omega
                  have e6 : w.heap.size < wy.heap.size + q0.os.size + q1.os.size := by omega
                  go_wp2_with (go_at_call 122; refine (HM.out _ (by (repeat (first | exact New.refl _ | apply New.alloc | apply New.aft | apply New.drew | refine New.setCell ?_ ?_ _)); all_goals (first | done | (simp [size_aft]; done) | (simp [size_aft]; omega)))).mono ?_; rintro en w5 ⟨rfl, pw5, rfl⟩)
                  go_ret
                  exact ⟨ret_bool HRR.out, (by (repeat (first | exact HNYW.out | exact New.refl _ | apply New.alloc | apply New.aft | apply New.drew | refine New.setCell ?_ ?_ _)); all_goals (first | done | (simp [size_aft]; done) | (simp [size_aft]; omega)))⟩
                · have HG := Lib.hid (HFS.out (by rw [HSV2]; simp))
                  go_wp2_with fail
                  first | refine wp_region_at2 (by kernel_rfl) (by kernel_rfl) ?_ | refine wp_region_at (by kernel_rfl) (by kernel_rfl) ?_
                  repeat (go_big_quiet_step (fail))
                  refine wpQuiet_nil ?_
                  rintro _ ⟨q0, rfl⟩
                  have e1 : wx.heap.size < wy.heap.size + q0.os.size := by omega
                  have e2 : sb < wy.heap.size + q0.os.size := by omega
                  have e5 : w.heap.size < wy.heap.size + q0.os.size := by omega
                  go_wp2_with fail
                  first | refine wp_region_at2 (by kernel_rfl) (by kernel_rfl) ?_ | refine wp_region_at (by kernel_rfl) (by kernel_rfl) ?_
                  repeat (go_big_quiet_step (fail))
                  refine wpQuiet_nil ?_
                  rintro _ ⟨q1, rfl⟩
                  have e3 : wx.heap.size < wy.heap.size + q0.os.size + q1.os.size := by omega
                  have e4 : sb < wy.heap.size + q0.os.size + q1.os.size := by omega
                  have e6 : w.heap.size < wy.heap.size + q0.os.size + q1.os.size := by omega
                  go_wp2_with (go_at_call 122; refine (HM.out _ (by (repeat (first | exact New.refl _ | apply New.alloc | apply New.aft | apply New.drew | refine New.setCell ?_ ?_ _)); all_goals (first | done | (simp [size_aft]; done) | (simp [size_aft]; omega)))).mono ?_; rintro en w5 ⟨rfl, pw5, rfl⟩)
                  go_roundw
                  case rel => exact ⟨i + 1, by omega, by go_num, HG.out, (by (repeat (first | exact (HNX.out.trans HNY.out) | exact New.refl _ | apply New.alloc | apply New.aft | apply New.drew | refine New.setCell ?_ ?_ _)); all_goals (first | done | (simp [size_aft]; done) | (simp [size_aft]; omega)))⟩
                  case measure => simp [intOf]; omega
        · have HK2 := Lib.hid (show i = m by omega)
          have HRR := Lib.hid (show true = r from HFR3.out HFN.out (by first | (rw [← HK2.out]; exact HF2.out) | (rw [HLM.out, ← HK2.out]; exact HF2.out)))
          go_wp2_with fail
          go_ret
          exact ⟨ret_bool HRR.out, (by (repeat (first | exact HNXW.out | exact New.refl _ | apply New.alloc | apply New.aft | apply New.drew | refine New.setCell ?_ ?_ _)); all_goals (first | done | (simp [size_aft]; done) | (simp [size_aft]; omega)))⟩

end Go.Proofs.YtpdfbboagaflhaaGreat

set_option linter.unusedSimpArgs false
set_option linter.unusedVariables false
set_option maxRecDepth 100000
namespace Go.Proofs.YtpdfbboagaflhaaGreat
open Go.RowKit

set_option maxHeartbeats 4000000 in
theorem within_of (v : Option Addr) (n c : Nat) (a1 a2 a3 a4 : Int) (V : Bool) (w : World) (hn : n ≤ 30)
    (HA : Hid (∀ w1 : World, New w w1 → Calls Tryz.prog 55 #[.slice v n c, sv a1 a2 a3 a4] w1 fun en w' => en = .returned (.bool V) ∧ New w1 w'))
    (HB : Hid (∀ w1 : World, New w w1 → Calls Tryz.prog 56 #[.slice v n c, sv a1 a2 a3 a4] w1 fun en w' => en = .returned (.bool V) ∧ New w1 w')) :
    Calls Tryz.prog 11 #[.slice v n c, sv a1 a2 a3 a4] w fun e w' => e = .returned (.bool true) ∧ New w w' := by
  have HL := Lib.hid alive_c
  have hn2 : ¬ (30 : Int) < (n : Int) := by omega
  have t1 : (V == V) = true := by simp
  have HA' := Lib.hid (fun (o : Obj) (d : Nat) (os : Array Obj) => HA.out (Aft (w.alloc o) d os) (((New.refl _).alloc _).aft _ _))
  have HB' := Lib.hid (fun (o : Obj) (d : Nat) (os : Array Obj) => HB.out (Aft (w.alloc o) d os) (((New.refl _).alloc _).aft _ _))
  go_enter Tryz.func11, Tryz.ntmps11
  go_wp2_with fail
  first | refine wp_region_at2 (by kernel_rfl) (by kernel_rfl) ?_ | refine wp_region_at (by kernel_rfl) (by kernel_rfl) ?_
  repeat (go_big_quiet_step (first | (go_at_call 31; exact calls_new (HL.out _)) | (go_at_call 55; exact calls_new (HA'.out _ _ _)) | (go_at_call 56; exact calls_new (HB'.out _ _ _))))
  refine wpQuiet_nil ?_
  rintro _ ⟨q0, rfl⟩
  go_wp2_with fail
  all_goals (go_ret; refine ⟨ret_bool (by simp), ?_⟩; exact (by (repeat (first | exact New.refl _ | apply New.alloc | apply New.aft | apply New.drew | refine New.setCell ?_ ?_ _)); all_goals (first | done | (simp [size_aft]; done) | (simp [size_aft]; omega))))

theorem within_same {l : List P2} {a1 a2 a3 a4 : Int} (hs : okS a1 a2 a3 a4 = true) (hK : polyI l = 0) : Geo.WithinG l (a1, a2, a3, a4) ↔ Geo.WithinR l (a1, a2, a3, a4) := by
  have hok := (ckPts_zero (polyI_ok hK).1).2
  exact Geo.within_both hK (fun p hp => okP_iff.1 (List.all_eq_true.1 hok p hp)) hs

theorem planeWithin_all (w : World) (av : Option Addr) (n c : Nat) (l : List P2) (hl : l.length = n) (hp : 0 < n → ∃ b off, av = some ⟨b, off, none⟩ ∧ Pts w b off n l) (a1 a2 a3 a4 : Int) : Calls Tryz.prog 11 #[.slice av n c, sv a1 a2 a3 a4] w fun e w' => e = .returned (.bool true) ∧ New w w' := by
  by_cases hn : n ≤ 30
  · cases hs : okS a1 a2 a3 a4
    · exact within_of av n c a1 a2 a3 a4 false w hn (Lib.hid (fun w1 _ => within_no av n c a1 a2 a3 a4 w1 hs)) (Lib.hid (fun w1 _ => ref_within_no av n c a1 a2 a3 a4 w1 hs))
    · by_cases h0 : 0 < n
      · obtain ⟨b, off, rfl, hw⟩ := hp h0
        by_cases hK : polyI l = 0
        · have hsame := within_same hs hK
          have hok := (ckPts_zero (polyI_ok hK).1).2
          obtain ⟨s1, s2, s3, s4⟩ : (0 ≤ a1 ∧ a1 ≤ 10000) ∧ (0 ≤ a2 ∧ a2 ≤ 10000) ∧ (0 ≤ a3 ∧ a3 ≤ 10000) ∧ (0 ≤ a4 ∧ a4 ≤ 10000) := by
            have := (okSeg_iff (s := (a1, a2, a3, a4))).1 hs
            exact ⟨this.1.1, this.1.2, this.2.1.1, this.2.1.2⟩
          by_cases hV : whereI l a1 a2 = 0 ∨ whereI l a3 a4 = 0
          · have hf : ¬ Geo.WithinR l (a1, a2, a3, a4) := fun h => by rcases hV with e | e; exact h.1.1 e; exact h.1.2 e
            refine within_of _ n c a1 a2 a3 a4 false w hn (Lib.hid (fun w1 h1 => within_yes b off n c l a1 a2 a3 a4 w1 h0 (by omega) (hw.new h1) hs hK false ⟨fun h => (by cases h), fun h => absurd (hsame.1 h) hf⟩)) (Lib.hid (fun w1 h1 => ref_within_out _ n c a1 a2 a3 a4 _ _ w1 hs hV (Lib.hid (fun w2 h2 => ?_)) (Lib.hid (fun w2 h2 => ref_where b off n c l a1 a2 w2 (by omega) (hw.new (h1.trans h2)) hok s1 s2)) (Lib.hid (fun w2 h2 => ref_where b off n c l a3 a4 w2 (by omega) (hw.new (h1.trans h2)) hok s3 s4))))
            have := ref_checkPoly b off n c l w2 h0 (by omega) (hw.new (h1.trans h2))
            rwa [hK] at this
          · have h1 : whereI l a1 a2 ≠ 0 := fun e => hV (.inl e)
            have h2 : whereI l a3 a4 ≠ 0 := fun e => hV (.inr e)
            obtain ⟨r, hr⟩ : ∃ r : Bool, r = true ↔ Geo.WithinR l (a1, a2, a3, a4) := by
              rcases Classical.em (Geo.WithinR l (a1, a2, a3, a4)) with h | h
              · exact ⟨true, fun _ => h, fun _ => rfl⟩
              · exact ⟨false, fun e => (by cases e), fun e => absurd e h⟩
            exact within_of _ n c a1 a2 a3 a4 r w hn (Lib.hid (fun w1 h3 => within_yes b off n c l a1 a2 a3 a4 w1 h0 (by omega) (hw.new h3) hs hK r (hr.trans hsame.symm))) (Lib.hid (fun w1 h3 => ref_within_yes b off n c l a1 a2 a3 a4 w1 h0 (by omega) (hw.new h3) hs hK h1 h2 r hr))
        · exact within_of _ n c a1 a2 a3 a4 false w hn (Lib.hid (fun w1 h1 => within_bad _ n c a1 a2 a3 a4 (polyI l) w1 hs hK (Lib.hid (fun w2 h2 => checkPoly_c b off n c l w2 h0 (by omega) (hw.new (h1.trans h2)))))) (Lib.hid (fun w1 h1 => ref_within_bad _ n c a1 a2 a3 a4 (polyI l) w1 hs hK (Lib.hid (fun w2 h2 => ref_checkPoly b off n c l w2 h0 (by omega) (hw.new (h1.trans h2))))))
      · obtain rfl : n = 0 := by omega
        exact within_of av 0 c a1 a2 a3 a4 false w hn (Lib.hid (fun w1 _ => within_bad av 0 c a1 a2 a3 a4 1 w1 hs (by decide) (Lib.hid (fun w2 _ => checkPoly_nil av c w2)))) (Lib.hid (fun w1 _ => ref_within_bad av 0 c a1 a2 a3 a4 1 w1 hs (by decide) (Lib.hid (fun w2 _ => ref_checkPoly_nil av c w2))))
  · have HL := Lib.hid alive_c
    have hn2 : (30 : Int) < (n : Int) := by omega
    clear hp hl
    go_enter Tryz.func11, Tryz.ntmps11
    go_wp2_with (go_at_call 31; refine (HL.out _).mono ?_; rintro e w1 ⟨rfl, pw, rfl⟩)
    all_goals (go_ret; refine ⟨ret_bool (by simp), ?_⟩; exact (by (repeat (first | exact New.refl _ | apply New.alloc | apply New.aft | apply New.drew | refine New.setCell ?_ ?_ _)); all_goals (first | done | (simp [size_aft]; done) | (simp [size_aft]; omega))))

end Go.Proofs.YtpdfbboagaflhaaGreat

set_option linter.unusedSimpArgs false
set_option linter.unusedVariables false
set_option linter.constructorNameAsVariable false
namespace Go.Proofs.YtpdfbboagaflhaaGreat
open Go.ChangeShapes Go.WideShapes Go.ChangeAt Go.RowKit Go.Joins
set_option maxRecDepth 100000

theorem jWi_wf : Rows.planeWithinRow.wf (OpenSpec.ofChange Rows.planeWithinSpec) = true := by kernel_rfl
theorem jWi_par : Tryz.f11.params.all (Tryz.prog.readableRec ·) = true := by kernel_rfl
theorem jWi_tie : namedTie Tryz.prog Rows.planeWithinRow.named Rows.planeWithinSpec.vars = true := by kernel_rfl
theorem jWi_st : (Rows.planeWithinRow.stops == []) = true := by kernel_rfl
theorem jWi_kn : (Rows.planeWithinRow.knobs == []) = true := by kernel_rfl
theorem jWi_inp : (Rows.planeWithinRow.inPlace == Tryz.prog.inPlace 11) = true := by kernel_rfl
theorem jWi_unf : (Rows.planeWithinRow.unfollowed == Tryz.prog.unfollowed 11) = true := by kernel_rfl
theorem jWi_rec : (Rows.planeWithinRow.recurses == Tryz.prog.recurses 11) = true := by kernel_rfl
theorem jWi_nam : (Rows.planeWithinRow.named == Tryz.prog.varsNamed 11) = true := by kernel_rfl
theorem jWi_maps : (Rows.planeWithinRow.maps == (Tryz.f11.params.toList ++ Rows.planeWithinSpec.plain.varTypes Tryz.prog).any (Tryz.prog.mapsRec ·)) = true := by kernel_rfl
theorem jWi_ifs : (Rows.planeWithinRow.ifaces == (Tryz.f11.params.toList ++ Rows.planeWithinSpec.plain.varTypes Tryz.prog).any (Tryz.prog.ifacesRec ·)) = true := by kernel_rfl
theorem jWi_mout : (Rows.planeWithinRow.mapsOut == Tryz.prog.mapsAmong Tryz.f11.resultTypes.toList) = true := by kernel_rfl
theorem jWi_loops : (Rows.planeWithinRow.loops == (Tryz.f11.params.toList ++ Rows.planeWithinSpec.plain.varTypes Tryz.prog).any (Tryz.prog.loopsFrom ·)) = true := by kernel_rfl
theorem jWi_wide : (Rows.planeWithinRow.wideKeys == (Tryz.f11.params.toList ++ Rows.planeWithinSpec.plain.varTypes Tryz.prog ++ Tryz.f11.resultTypes.toList).any (Tryz.prog.wideKeysFrom ·)) = true := by kernel_rfl
theorem jWi_vars : Rows.planeWithinSpec.vars.all (Tryz.prog.varReadable ·) = true := by kernel_rfl
theorem jWi_res : Tryz.f11.resultTypes.all (fun t => Tryz.prog.readableRec t && decide (t < Tryz.prog.types.size)) = true := by kernel_rfl
theorem jWi_iout : (Rows.planeWithinRow.ifacesOut == Tryz.f11.resultTypes.toList.any (Tryz.prog.ifacesRec ·)) = true := by kernel_rfl
theorem jWi_lout : (Rows.planeWithinRow.loopsOut == Tryz.f11.resultTypes.toList.any (Tryz.prog.loopsFrom ·)) = true := by kernel_rfl
theorem jWi_plain : (Rows.planeWithinRow.plainKeys == Tryz.prog.plainKeys) = true := by kernel_rfl
theorem jWi_short : Rows.planeWithinRow.shortTexts.isNone = true := by kernel_rfl
theorem jWi_lift0 : (Rows.planeWithinRow.lifted == false) = true := by kernel_rfl
theorem jWi_lift : (Rows.planeWithinRow.lifted == Tryz.prog.liftsFinal) = true := (congrArg (fun b => (Rows.planeWithinRow.lifted == b)) lift_is).trans jWi_lift0
theorem jWi_make0 : (some Make.cut == some Rows.planeWithinRow.make) = true := by kernel_rfl
theorem jWi_make : (Tryz.prog.make == some Rows.planeWithinRow.make) = true := (congrArg (fun b => (b == some Rows.planeWithinRow.make)) make_is).trans jWi_make0
theorem jWi_kinds : (Rows.planeWithinRow.kinds == (if Rows.planeWithinRow.domain.isEmpty then [] else Tryz.f11.params.toList.map fun t => match Tryz.prog.underlying t with | some (.int k) => some k | _ => none)) = true := by kernel_rfl
theorem jWi_pin : (Rows.planeWithinRow.pinned == Rows.planeWithinRow.pinnedBy) = true := by kernel_rfl
theorem jWi_veil : (Rows.planeWithinRow.veiled == (Tryz.f11.params.toList ++ Rows.planeWithinSpec.plain.varTypes Tryz.prog ++ Tryz.f11.resultTypes.toList).any (Tryz.prog.veiledRec ·)) = true := by kernel_rfl
theorem jWi_vfit : Rows.planeWithinRow.veiledFits Tryz.prog Tryz.f11.params.toList (Tryz.f11.params.toList ++ Rows.planeWithinSpec.plain.varTypes Tryz.prog ++ Tryz.f11.resultTypes.toList) = true := by kernel_rfl
theorem jWi_closed : joinedFacts Tryz.prog 11 Tryz.f11 Rows.planeWithinSpec Rows.planeWithinRow = true := (b_and (b_and (b_and (b_and (b_and (b_and (b_and (b_and (b_and (b_and (b_and (b_and (b_and (b_and (b_and (b_and (b_and (b_and (b_and (b_and (b_and (b_and (b_and (b_and (b_and (b_and (b_and (b_and (b_and (b_and (b_and jWi_wf jp_laid) jp_rowed) jWi_par) jWi_tie) jWi_st) jp_stops) jWi_kn) jp_knobs) jWi_inp) jWi_unf) jWi_rec) jWi_nam) jWi_maps) jWi_ifs) jWi_mout) jWi_loops) jWi_wide) jWi_vars) jWi_res) jWi_iout) jWi_lout) jWi_plain) jWi_short) jp_heard) jp_enter) jWi_lift) jWi_make) jWi_kinds) jWi_pin) jWi_veil) jWi_vfit)
theorem jWi_name : Tryz.prog.funcNamed Rows.planeWithinRow.func = some 11 := by kernel_rfl
theorem jWi_inst : Tryz.f11.isInstance Tryz.prog Rows.planeWithinRow.origin Rows.planeWithinRow.targs := of_decide_eq_true (by kernel_rfl)
theorem jWi_wrap : Tryz.f11.isWrapper Tryz.prog Rows.planeWithinRow.wrapper Rows.planeWithinRow.mainSum := by unfold Func.isWrapper; rw [if_neg (by decide +kernel)]; exact ⟨rfl, rfl⟩

set_option maxHeartbeats 2000000 in
theorem jWi_lifted (os : Os) (started : os.Started) (H : Type) (enc : TypeId × Value → H) :
    ReturnsInHanded {} Tryz.checked os 11 .any (Rows.planeWithinSpec.pre6 enc Tryz.prog Tryz.f11 Rows.planeWithinRow.domain false) (Rows.planeWithinSpec.post enc Tryz.prog Tryz.f11 false true false false) := by
  refine returnsInHanded_of_change (C := Tryz.checked) own_knob started (by kernel_rfl) Tryz.func11
    (ChangeSpec.witness6 (enc := enc) (C := Tryz.checked) false ⟨#[], #[.slice none 0 0, .agg #[.int .i64 0, .int .i64 0, .int .i64 0, .int .i64 0]], []⟩ 8 (by kernel_rfl) (by kernel_rfl) (by kernel_rfl) (by kernel_rfl)) ?_
  intro W base args ds gs before hval0 hW hcnd _
  have hval : ∀ (j : Nat) t v, Tryz.f11.params[j]? = some t → args[j]? = some v → Value.okWide Tryz.prog W .any base t v := hval0
  have hW' := hW
  obtain ⟨p, q, hA0, hV, rfl, hfz, hnd⟩ := hW
  have hA : DataW.TrodAll enc Tryz.prog W 0 (fun _ => true) true Tryz.f11.params.toList args.toList ds p := hA0
  rw [Tryz.params11] at hA hval
  obtain ⟨v0, vs0, d0, ds0, p0, q0, hargs, rfl, rfl, h0, r0⟩ := trodAll_cons hA
  obtain ⟨v1, vs1, d1, ds1, p1, q1, rfl, rfl, rfl, h1, r1⟩ := trodAll_cons r0
  obtain ⟨rfl, rfl, rfl⟩ := trodAll_nil r1
  obtain rfl : args = #[v0, v1] := by cases args; simp_all
  obtain ⟨rfl, rfl⟩ := trodVars_none hV
  have hlt : ∀ x ∈ p0 ++ p1, x.block < W.heap.size := fun x hx => hW'.lt x (by simpa using hx)
  have g0 := h0
  obtain ⟨av0, n0, cap0, l0, rfl, hl0, hp0⟩ := open_pts (hval 0 40 v0 rfl rfl) h0
  have g1 := h1
  obtain ⟨a1, b1, c1, e1, rfl, _, _⟩ := open_sg (hval 1 30 v1 rfl rfl) h1
  clear hA0 hval0 hval
  refine (planeWithin_all W av0 n0 cap0 l0 hl0 hp0 a1 b1 c1 e1).mono fun e W' ⟨he, hg⟩ => ?_
  subst he
  have t1 := Below.trod laidOut (by kernel_rfl) (of_decide_eq_true (by kernel_rfl)) g1 hg.below (fun x hx => hlt x (by simp [hx]))
  have t0 := Below.trod laidOut (by kernel_rfl) (of_decide_eq_true (by kernel_rfl)) g0 hg.below (fun x hx => hlt x (by simp [hx]))
  exact ⟨_, rfl, _, _, _, _, _, _, hW', trodAll_cons_mk (shut_bool Tryz.underlying4 _) trodAll_mk0, trodAll_cons_mk t0 (trodAll_cons_mk t1 trodAll_mk0), rfl, hg.below.frame _, fun h => by cases h⟩

/-- PlaneWithin, as it is given -/
theorem planeWithin_proved : Rows.PlaneWithinSaid :=
  OpenClaim.holds_of_wide 11 Tryz.f11 rfl rfl rfl rfl rfl rfl rfl ⟨rfl, rfl, rfl, rfl, rfl⟩ rfl rfl rfl rfl rfl jWi_name Tryz.func11 jWi_closed jWi_inst jWi_wrap
    (fun os started H enc _ => jWi_lifted os started H enc)

end Go.Proofs.YtpdfbboagaflhaaGreat
