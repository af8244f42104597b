/- What slices.Clone returns of points. From one to 1000000 points. -/
import Derived.Test.YtpdfbboagaflhaaGreatM26
import Derived.RegionTactic
import Derived.Outline
import Derived.WalkSpells
import Derived.Lib.SliceRun
import Derived.Deep.AppendLies
import Derived.Test.YtpdfbboagaflhaaGreatM29
import Derived.LoopTactic
import Derived.Deep.LoopGhost

namespace Go.Proofs.YtpdfbboagaflhaaGreat
open Go.RowKit

set_option maxRecDepth 100000 in
set_option maxHeartbeats 4000000 in
theorem cloneP_c (b off n c : Nat) (l : List P2) (w : World) (h0 : 0 < n) (hl : n ≤ 1000000) (hw : Pts w b off n l) :
    Calls Tryz.prog 123 #[.slice (some ⟨b, off, none⟩) n c] w fun en w' => ∃ g cap, en = .returned (.slice (some ⟨g, 0, none⟩) n cap) ∧ w'.ownsRow w.heap.size 23 2 (.slice (some ⟨g, 0, none⟩) n cap) n (ptCells l) ∧ New w w' := by
  obtain ⟨i0, hi, hz0, hz1, hz2⟩ := info_parts info23
  have HW := Lib.hid hw
  have HN := Lib.hid hw.1
  clear hw
  have HMADE := Lib.hid (show (w.alloc (.cells #[] 23)).ownsRow w.heap.size 23 2 (.slice (some ⟨w.heap.size, 0, none⟩) 0 0) 0 [] from World.ownsRow_made _ _ _ (Nat.le_refl _) (by unfold maxLen; omega) rfl)
  have HP2 := Lib.hid (show ∀ w1 : World, New w w1 → ∀ j u, (ptCells l)[j]? = some u → w1.cell? ((⟨b, off, none⟩ : Addr).add j) = some u from fun w1 h1 => by have := pts_part (HW.out.new h1) 0 n (by omega); simpa [List.take_of_length_le (Nat.le_of_eq HN.out)] using this)
  have hnil : ∀ w' : World, (binOp .eql 40 (.slice (some ⟨b, off, none⟩) n c) (.slice none 0 0)).run Tryz.prog w' = .ok (.bool false) w' := fun w' => Lib.run_eql_slice_nil w' 40 23 _ n c 0 0 Tryz.underlying40
  go_enter Tryz.func123, Tryz.ntmps123
  go_wp2_with (at_builtin; refine wpList_append_lies _ rfl (.tmp 5) (.tmp 6) 40 rfl w.heap.size 23 i0 _ 2 16 Tryz.underlying40 hi hz0 hz1 hz2 rfl (by omega) _ 0 [] rfl ?_ ⟨b, off, none⟩ n c (ptCells l) rfl ?_ ?_ ?_ h0 ?_ ?_ ?_ _ rfl ?_; exact HMADE.out; (rw [ptCells_length, HN.out]); exact HP2.out _ ((New.refl w).alloc _); exact ptCells_one _; (unfold maxLen; omega); omega; (simp [go_sem]); intro g1 cap1 w1 hown1 hgrow1 hat1 hlt1; have HO1 := Lib.hid hown1; have HN1 := Lib.hid (show New w w1 from new_grown ((New.refl w).alloc _) hgrow1 HMADE.out); clear hown1 hgrow1 hat1 hlt1)
  go_ret
  exact ⟨g1, cap1, by simp, by simpa using HO1.out, HN1.out⟩

end Go.Proofs.YtpdfbboagaflhaaGreat

/- What halfHull returns: the walk. From one to 1000000 points of coordinates from -40000 to 40000. -/
namespace Go.Proofs.YtpdfbboagaflhaaGreat
open Go.RowKit

set_option maxRecDepth 100000 in
set_option maxHeartbeats 8000000 in
theorem halfHull_c (b off n c : Nat) (l : List P2) (w : World) (hl : n ≤ 1000000) (hw : Pts w b off n l) (hbd : bdL l) :
    Calls Tryz.prog 127 #[.slice (some ⟨b, off, none⟩) n c] w fun en w' => ∃ a cap, en = .returned (.slice a (halfTo l n).length cap) ∧ w'.ownsRow w.heap.size 23 2 (.slice a (halfTo l n).length cap) (halfTo l n).length (ptCells (halfTo l n)) ∧ New w w' := by
  obtain ⟨i0, hi, hz0, hz1, hz2⟩ := info_parts info23
  have HW := Lib.hid hw
  have HBD := Lib.hid hbd
  clear hw hbd
  go_enter Tryz.func127, Tryz.ntmps127
  go_wp2_with fail
  go_loopw [3, 8] (fun v i wr => ∃ (k : Nat) (a : Option Addr) (cap : Nat) (o : List P2), k ≤ n ∧ i = .int .i64 k ∧ v = .slice a o.length cap ∧ o = halfTo l k ∧ wr.ownsRow w.heap.size 23 2 (.slice a o.length cap) o.length (ptCells o) ∧ New w wr) (fun _ i _ => n - (intOf i).toNat)
  case atStart => exact ⟨0, none, 0, [], Nat.zero_le _, rfl, rfl, rfl, World.ownsRow_nil _ _ _ _, New.refl _⟩
  case round =>
    obtain ⟨k, a, cap, o, hk, rfl, rfl, hoe, hown, hnew⟩ := hrel
    have HOE := Lib.hid hoe
    have HOWN := Lib.hid hown
    have HNEW := Lib.hid hnew
    clear hoe hown hnew
    by_cases hlt : k < n
    · obtain ⟨c1, c2⟩ := ((HW.out.new HNEW.out).2.2) k hlt
      obtain ⟨bx, by'⟩ := HBD.out k
      obtain ⟨wo, rfl⟩ : ∃ wo : World, wo = wr := ⟨_, rfl⟩
      have hblt : b < wo.heap.size := (HW.out.new HNEW.out).2.1
      generalize hX : px l k = X at *
      generalize hY : py l k = Y at *
      have HX := Lib.hid hX
      have HY := Lib.hid hY
      clear hX hY
      go_wp2_with fail
      have HOWN0 := Lib.hid (own_new HOWN.out ((New.refl wo).alloc (.cells #[.int .i64 X, .int .i64 Y] 23)))
      have HBX := Lib.hid (show (wo.alloc (.cells #[.int .i64 X, .int .i64 Y] 23)).cell? ⟨wo.heap.size, 0, none⟩ = some (.int .i64 X) ∧ (wo.alloc (.cells #[.int .i64 X, .int .i64 Y] 23)).cell? ⟨wo.heap.size, 1, none⟩ = some (.int .i64 Y) from by simp [go_sem])
      have HOBD := Lib.hid (show bdL o by rw [HOE.out]; exact halfTo_bd HBD.out k)
      go_loopg [3] o.length (fun gh s3 wx => ∃ (a2 : Option Addr) (cap2 : Nat) (o2 : List P2), s3 = .slice a2 o2.length cap2 ∧ o2.length ≤ gh ∧ o2.length ≤ k ∧ popL o2 X Y = popL o X Y ∧ bdL o2 ∧ wx.ownsRow w.heap.size 23 2 (.slice a2 o2.length cap2) o2.length (ptCells o2) ∧ New (wo.alloc (.cells #[.int .i64 X, .int .i64 Y] 23)) wx)
      case atStart => exact ⟨a, cap, o, rfl, Nat.le_refl _, by rw [HOE.out]; exact halfTo_le l k, rfl, HOBD.out, HOWN0.out, New.refl _⟩
      case round =>
        obtain ⟨a2, cap2, o2, rfl, hgh, hk2, hpop, hbd2, hown2, hnew2⟩ := hrel
        have HPOP := Lib.hid hpop
        have HBD2 := Lib.hid hbd2
        have HOWN2 := Lib.hid hown2
        have HNEW2 := Lib.hid hnew2
        clear hpop hbd2 hown2 hnew2
        have hbx : wr.cell? ⟨wo.heap.size, 0, none⟩ = some (.int .i64 X) := (HNEW2.out.below.cell (p := ⟨wo.heap.size, 0, none⟩) (by simp)).trans HBX.out.1
        have hby : wr.cell? ⟨wo.heap.size, 1, none⟩ = some (.int .i64 Y) := (HNEW2.out.below.cell (p := ⟨wo.heap.size, 1, none⟩) (by simp)).trans HBX.out.2
        have hwl : wo.heap.size < wr.heap.size := by have := HNEW2.out.size; simp at this; omega
        by_cases h2 : 2 ≤ o2.length
        · obtain ⟨g2, cap3, he, hg2, hgl⟩ := HOWN2.out.form (by omega)
          injection he with he1 he2 he3
          subst he1
          subst he3
          obtain ⟨⟨p1, p2⟩, _⟩ := own_pt HOWN2.out rfl (show o2.length - 2 < o2.length by omega)
          obtain ⟨⟨q1, q2⟩, _⟩ := own_pt HOWN2.out rfl (show o2.length - 1 < o2.length by omega)
          obtain ⟨bp1, bp2⟩ := HBD2.out (o2.length - 2)
          obtain ⟨bq1, bq2⟩ := HBD2.out (o2.length - 1)
          have hcm := (own_cap HOWN2.out).1
          by_cases ht : turnI (px o2 (o2.length - 2)) (py o2 (o2.length - 2)) (px o2 (o2.length - 1)) (py o2 (o2.length - 1)) X Y = 1
          · have HNO := Lib.hid (show badTop o2 X Y = false by simp [badTop, ht])
            have HPE := Lib.hid (show popL o X Y = o2 by rw [← HPOP.out, popL_no HNO.out])
            have ht1 : (turnI (px o2 (o2.length - 2)) (py o2 (o2.length - 2)) (px o2 (o2.length - 1)) (py o2 (o2.length - 1)) X Y == 1) = true := by simpa using ht
            have ht2 : (turnI (px o2 (o2.length - 2)) (py o2 (o2.length - 2)) (px o2 (o2.length - 1)) (py o2 (o2.length - 1)) X Y != 1) = false := by simpa using ht
            clear ht
            generalize px o2 (o2.length - 2) = PX at *
            generalize py o2 (o2.length - 2) = PY at *
            generalize px o2 (o2.length - 1) = QX at *
            generalize py o2 (o2.length - 1) = QY at *
            generalize hm : o2.length = m at *
            have HM := Lib.hid hm
            clear hm
            generalize hT : turnI PX PY QX QY X Y = T at *
            have HT := Lib.hid (show ∀ w1 : World, Calls Tryz.prog 85 #[pv PX PY, pv QX QY, pv X Y] w1 fun e w' => e = .returned (.int .i64 T) ∧ New w1 w' from fun w1 => by rw [← hT]; exact turn_c _ _ _ _ _ _ _ bp1 bp2 bq1 bq2 bx by')
            clear hT
            have hd : decide ((2 : Int) ≤ (m : Int)) = true := by simp; omega
            go_wp2_with fail
            refine wp_region_at (by kernel_rfl) (by kernel_rfl) ?_
            repeat (go_big_quiet_step (first | (go_at_call 85; exact calls_new (HT.out _))))
            refine wpQuiet_nil ?_
            rintro _ ⟨q0, rfl⟩
            go_wp2_with (at_builtin; refine wpList_append_lies _ rfl (.tmp 37) (.tmp 39) 40 rfl w.heap.size 23 i0 _ 2 16 Tryz.underlying40 hi hz0 hz1 hz2 rfl (by omega) (.slice (some ⟨g2, 0, none⟩) m cap2) m (ptCells o2) rfl ?_ _ 1 1 [.int .i64 X, .int .i64 Y] rfl rfl ?_ ?_ (by omega) ?_ ?_ ?_ _ rfl ?_; exact own_new HOWN2.out (by (repeat (first | exact New.refl _ | apply New.alloc | apply New.aft | apply New.drew | refine New.setCell ?_ ?_ _)); all_goals (first | done | (simp [size_aft]; done) | (simp [size_aft]; omega))); (refine cells_new _ _ _ _ ?_); (simp [go_sem]); (intro u hu; simp at hu; rcases hu with rfl | rfl <;> rfl); (unfold maxLen; omega); omega; (have hz1 := HNEW.out.size; have hz2 := HNEW2.out.size; simp at hz1 hz2; simp [go_sem]; omega); intro g4 cap4 w4 hown4 hgrow4 hor4 hlt4; have HNW4 := Lib.hid (show New w w4 from new_grown ((HNEW.out.trans (((New.refl _).alloc _).trans HNEW2.out)).trans (by (repeat (first | exact New.refl _ | apply New.alloc | apply New.aft | apply New.drew | refine New.setCell ?_ ?_ _)); all_goals (first | done | (simp [size_aft]; done) | (simp [size_aft]; omega)))) hgrow4 HOWN2.out); have HO4 := Lib.hid hown4; clear hown4 hgrow4 hor4 hlt4)
            go_roundw
            case rel => exact ⟨k + 1, some ⟨g4, 0, none⟩, cap4, o2 ++ [(X, Y)], by omega, by go_num, by rw [List.length_append, HM.out]; rfl, by simp only [halfTo]; rw [HX.out, HY.out, ← HOE.out, HPE.out], by rw [List.length_append, HM.out, ptCells_snoc]; exact HO4.out, HNW4.out⟩
            case measure => simp [intOf]; omega
          · have HYES := Lib.hid (show badTop o2 X Y = true by simp [badTop, ht, h2])
            have ht1 : (turnI (px o2 (o2.length - 2)) (py o2 (o2.length - 2)) (px o2 (o2.length - 1)) (py o2 (o2.length - 1)) X Y == 1) = false := by simpa using ht
            have ht2 : (turnI (px o2 (o2.length - 2)) (py o2 (o2.length - 2)) (px o2 (o2.length - 1)) (py o2 (o2.length - 1)) X Y != 1) = true := by simpa using ht
            clear ht
            generalize px o2 (o2.length - 2) = PX at *
            generalize py o2 (o2.length - 2) = PY at *
            generalize px o2 (o2.length - 1) = QX at *
            generalize py o2 (o2.length - 1) = QY at *
            generalize hm : o2.length = m at *
            have HM := Lib.hid hm
            clear hm
            generalize hT : turnI PX PY QX QY X Y = T at *
            have HT := Lib.hid (show ∀ w1 : World, Calls Tryz.prog 85 #[pv PX PY, pv QX QY, pv X Y] w1 fun e w' => e = .returned (.int .i64 T) ∧ New w1 w' from fun w1 => by rw [← hT]; exact turn_c _ _ _ _ _ _ _ bp1 bp2 bq1 bq2 bx by')
            clear hT
            have hd : decide ((2 : Int) ≤ (m : Int)) = true := by simp; omega
            go_wp2_with fail
            refine wp_region_at (by kernel_rfl) (by kernel_rfl) ?_
            repeat (go_big_quiet_step (first | (go_at_call 85; exact calls_new (HT.out _))))
            refine wpQuiet_nil ?_
            rintro _ ⟨q0, rfl⟩
            go_wp2_with fail
            go_roundg (m - 1)
            case measure => omega
            case rel => exact ⟨some ⟨g2, 0, none⟩, cap2, o2.take (m - 1), by rw [List.length_take, HM.out, Nat.min_eq_left (by omega)], by rw [List.length_take]; omega, by rw [List.length_take]; omega, by rw [← HPOP.out, popL_yes HYES.out, HM.out], bdL_take HBD2.out _, by rw [List.length_take, HM.out, Nat.min_eq_left (by omega), ← ptCells_take]; exact own_prefix (own_new HOWN2.out ⟨q0, rfl⟩) (m - 1) (by omega), HNEW2.out.trans ⟨q0, rfl⟩⟩
        · have HPE := Lib.hid (show popL o X Y = o2 by rw [← HPOP.out, popL_no (by simp [badTop, h2])])
          generalize hm : o2.length = m at *
          have HM := Lib.hid hm
          clear hm
          have hd : decide ((2 : Int) ≤ (m : Int)) = false := by simp; omega
          go_wp2_with fail
          refine wp_region_at (by kernel_rfl) (by kernel_rfl) ?_
          repeat (go_big_quiet_step (fail))
          refine wpQuiet_nil ?_
          rintro _ ⟨q0, rfl⟩
          go_wp2_with (at_builtin; refine wpList_append_lies _ rfl (.tmp 37) (.tmp 39) 40 rfl w.heap.size 23 i0 _ 2 16 Tryz.underlying40 hi hz0 hz1 hz2 rfl (by omega) (.slice a2 m cap2) m (ptCells o2) rfl ?_ _ 1 1 [.int .i64 X, .int .i64 Y] rfl rfl ?_ ?_ (by omega) ?_ ?_ ?_ _ rfl ?_; exact own_new HOWN2.out (by (repeat (first | exact New.refl _ | apply New.alloc | apply New.aft | apply New.drew | refine New.setCell ?_ ?_ _)); all_goals (first | done | (simp [size_aft]; done) | (simp [size_aft]; omega))); (refine cells_new _ _ _ _ ?_); (simp [go_sem]); (intro u hu; simp at hu; rcases hu with rfl | rfl <;> rfl); (unfold maxLen; omega); omega; (have hz1 := HNEW.out.size; have hz2 := HNEW2.out.size; simp at hz1 hz2; simp [go_sem]; omega); intro g4 cap4 w4 hown4 hgrow4 hor4 hlt4; have HNW4 := Lib.hid (show New w w4 from new_grown ((HNEW.out.trans (((New.refl _).alloc _).trans HNEW2.out)).trans (by (repeat (first | exact New.refl _ | apply New.alloc | apply New.aft | apply New.drew | refine New.setCell ?_ ?_ _)); all_goals (first | done | (simp [size_aft]; done) | (simp [size_aft]; omega)))) hgrow4 HOWN2.out); have HO4 := Lib.hid hown4; clear hown4 hgrow4 hor4 hlt4)
          go_roundw
          case rel => exact ⟨k + 1, some ⟨g4, 0, none⟩, cap4, o2 ++ [(X, Y)], by omega, by go_num, by rw [List.length_append, HM.out]; rfl, by simp only [halfTo]; rw [HX.out, HY.out, ← HOE.out, HPE.out], by rw [List.length_append, HM.out, ptCells_snoc]; exact HO4.out, HNW4.out⟩
          case measure => simp [intOf]; omega
    · have hkn : k = n := by omega
      go_wp2_with fail
      go_ret
      have h1 := HOWN.out
      have h2 := HOE.out
      rw [hkn] at h2
      rw [h2] at h1
      exact ⟨a, cap, by rw [← h2]; rfl, h1, HNEW.out⟩

end Go.Proofs.YtpdfbboagaflhaaGreat
