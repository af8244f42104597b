/- The parts of a segment between points on it, as pieces returns them. At most 900000 points; coordinates from -40000 to 40000. -/
import Derived.Test.YtpdfbboagaflhaaGreatM30
import Derived.RegionTactic
import Derived.Deep.RegionHeld3
import Derived.BigRegion
import Derived.LoopTactic
import Derived.Deep.LoopGhost
import Derived.Deep.AppendLies
import Derived.Deep.RegionLaw
import Derived.Outline

namespace Go.Proofs.YtpdfbboagaflhaaGreat
open Go.RowKit

set_option maxRecDepth 100000 in
set_option maxHeartbeats 8000000 in
theorem pieces_c (b off n cp : Nat) (l : List P2) (a b' c d : Int) (w : World) (hl : n ≤ 900000) (hw : Pts w b off n l) (hbd : bdL l) (ha : -40000 ≤ a ∧ a ≤ 40000) (hb : -40000 ≤ b' ∧ b' ≤ 40000) (hc : -40000 ≤ c ∧ c ≤ 40000) (hd : -40000 ≤ d ∧ d ≤ 40000) :
    Calls Tryz.prog 119 #[sv a b' c d, .slice (some ⟨b, off, none⟩) n cp] w fun en w' => ∃ g cap, en = .returned (.slice (some ⟨g, 0, none⟩) (piecesL l a b' c d).length cap) ∧ w'.ownsRow w.heap.size 30 4 (.slice (some ⟨g, 0, none⟩) (piecesL l a b' c d).length cap) (piecesL l a b' c d).length (segCells (piecesL l a b' c d)) ∧ New w w' := by
  obtain ⟨i0, hi, hz0, hz1, hz2⟩ := info_parts info23
  obtain ⟨j0, ji, jz0, jz1, jz2⟩ := info_parts info30
  have HW := Lib.hid hw
  have HN := Lib.hid hw.1
  have HBD := Lib.hid hbd
  have hblt := hw.2.1
  have HOWN0 := Lib.hid (show ((w.alloc (.cells #[.int .i64 a, .int .i64 b', .int .i64 c, .int .i64 d] 30)).alloc (.cells #[.int .i64 a, .int .i64 b', .int .i64 c, .int .i64 d] 23)).ownsRow (w.alloc (.cells #[.int .i64 a, .int .i64 b', .int .i64 c, .int .i64 d] 30)).heap.size 23 2 (.slice (some ⟨w.heap.size + 1, 0, none⟩) 2 2) 2 (ptCells [(a, b'), (c, d)]) from
    own_mk rfl (by simp) (by have := heap_alloc_new (w.alloc (.cells #[.int .i64 a, .int .i64 b', .int .i64 c, .int .i64 d] 30)) (.cells #[.int .i64 a, .int .i64 b', .int .i64 c, .int .i64 d] 23); simpa using this) (Nat.le_refl _) (by unfold maxLen; omega) rfl rfl)
  have HBX := Lib.hid (show ∀ W : World, New (w.alloc (.cells #[.int .i64 a, .int .i64 b', .int .i64 c, .int .i64 d] 30)) W → (W.cell? ⟨w.heap.size, 0, none⟩ = some (.int .i64 a) ∧ W.cell? ⟨w.heap.size, 1, none⟩ = some (.int .i64 b')) ∧ W.cell? ⟨w.heap.size, 2, none⟩ = some (.int .i64 c) ∧ W.cell? ⟨w.heap.size, 3, none⟩ = some (.int .i64 d) from fun W h => ⟨⟨(h.below.cell (p := ⟨w.heap.size, 0, none⟩) (by simp)).trans (by simp [go_sem]), (h.below.cell (p := ⟨w.heap.size, 1, none⟩) (by simp)).trans (by simp [go_sem])⟩, (h.below.cell (p := ⟨w.heap.size, 2, none⟩) (by simp)).trans (by simp [go_sem]), (h.below.cell (p := ⟨w.heap.size, 3, none⟩) (by simp)).trans (by simp [go_sem])⟩)
  have HW1 := Lib.hid (show New w (w.alloc (.cells #[.int .i64 a, .int .i64 b', .int .i64 c, .int .i64 d] 30)) from (New.refl w).alloc _)
  obtain ⟨W1, HWE⟩ : ∃ W1 : World, Hid (W1 = w.alloc (.cells #[.int .i64 a, .int .i64 b', .int .i64 c, .int .i64 d] 30)) := ⟨_, Lib.hid rfl⟩
  rw [← HWE.out] at HOWN0 HBX HW1
  have HWS := Lib.hid (show W1.heap.size = w.heap.size + 1 by rw [HWE.out]; simp)
  have hbt := cutsTo_le l a b' c d
  have HCL := Lib.hid hbt
  clear hw hbd hbt
  go_enter Tryz.func119, Tryz.ntmps119
  go_wp2_with fail
  go_loopw [5, 17] (fun v i wr => ∃ (k gc cc : Nat), k ≤ n ∧ i = .int .i64 k ∧ v = .slice (some ⟨gc, 0, none⟩) (cutsTo l a b' c d k).length cc ∧ wr.ownsRow W1.heap.size 23 2 (.slice (some ⟨gc, 0, none⟩) (cutsTo l a b' c d k).length cc) (cutsTo l a b' c d k).length (ptCells (cutsTo l a b' c d k)) ∧ New W1 wr) (fun _ i _ => n - (intOf i).toNat)
  case atStart => exact ⟨0, w.heap.size + 1, 2, Nat.zero_le _, rfl, rfl, by have := HOWN0.out; rw [HWE.out] at this ⊢; exact this, by rw [HWE.out]; exact (New.refl _).alloc _⟩
  case round =>
    obtain ⟨k, gc, cc, hk, rfl, rfl, hown, hnew⟩ := hrel
    have HOWN := Lib.hid hown
    have HNEW := Lib.hid hnew
    have hlen := HCL.out k
    clear hown hnew
    by_cases hlt : k < n
    · obtain ⟨c1, c2⟩ := ((HW.out.new (HW1.out.trans HNEW.out)).2.2) k hlt
      obtain ⟨bx, by'⟩ := HBD.out k
      obtain ⟨⟨s1, s2⟩, s3, s4⟩ := HBX.out _ HNEW.out
      have hsz := HNEW.out.size
      rw [HWS.out] at hsz
      have hlt0 : w.heap.size < wr.heap.size := by omega
      have hblt2 : b < wr.heap.size := by omega
      generalize hm : (cutsTo l a b' c d k).length = m at *
      have HM := Lib.hid hm
      clear hm
      cases hon : onB (px l k) (py l k) a b' c d
      · have HS := Lib.hid (show cutsTo l a b' c d (k + 1) = cutsTo l a b' c d k by simp [cutsTo, hon])
        have HON := Lib.hid (show ∀ w1 : World, Calls Tryz.prog 89 #[pv (px l k) (py l k), sv a b' c d] w1 fun e w' => e = .returned (.bool false) ∧ New w1 w' from fun w1 => by rw [← hon]; exact on_c _ _ _ _ _ _ w1 bx by' ha hb hc hd)
        clear hon
        generalize px l k = X at *
        generalize py l k = Y at *
        go_wp2_with (go_at_call 89; refine (HON.out _).mono ?_; rintro e w1 ⟨rfl, pw, rfl⟩)
        go_roundw
        case rel => exact ⟨k + 1, gc, cc, by omega, by go_num, by rw [HS.out, HM.out], by rw [HS.out, HM.out]; exact own_new HOWN.out (((New.refl _).alloc _).aft _ _), (HNEW.out.alloc _).aft _ _⟩
        case measure => simp [intOf]; omega
      · have HS := Lib.hid (show cutsTo l a b' c d (k + 1) = cutsTo l a b' c d k ++ [(px l k, py l k)] by simp [cutsTo, hon])
        have HON := Lib.hid (show ∀ w1 : World, Calls Tryz.prog 89 #[pv (px l k) (py l k), sv a b' c d] w1 fun e w' => e = .returned (.bool true) ∧ New w1 w' from fun w1 => by rw [← hon]; exact on_c _ _ _ _ _ _ w1 bx by' ha hb hc hd)
        have HL1 := Lib.hid (show (cutsTo l a b' c d (k + 1)).length = m + 1 by rw [HS.out, List.length_append, HM.out]; rfl)
        clear hon
        generalize px l k = X at *
        generalize py l k = Y at *
        go_wp2_with (first | (go_at_call 89; refine (HON.out _).mono ?_; rintro e w1 ⟨rfl, pw, rfl⟩) | (at_builtin; refine wpList_append_lies _ rfl (.tmp 24) (.tmp 26) 40 rfl W1.heap.size 23 i0 _ 2 16 Tryz.underlying40 hi hz0 hz1 hz2 rfl (by omega) (.slice (some ⟨gc, 0, none⟩) m cc) m (ptCells (cutsTo l a b' c d k)) rfl ?_ _ 1 1 [.int .i64 X, .int .i64 Y] rfl rfl ?_ ?_ (by omega) ?_ ?_ ?_ _ rfl ?_; exact own_new HOWN.out (by (repeat (first | exact New.refl _ | apply New.alloc | apply New.aft | apply New.drew | refine New.setCell ?_ ?_ _)); all_goals (first | done | (simp [size_aft]; done) | (simp [size_aft]; omega))); (refine cells_new _ _ _ _ ?_); (simp [go_sem]); (intro u hu; simp at hu; rcases hu with rfl | rfl <;> rfl); (unfold maxLen; omega); omega; (have hz := HNEW.out.size; simp [go_sem]; omega); intro g4 cap4 w4 hown4 hgrow4 hor4 hlt4; have HNW4 := Lib.hid (show New W1 w4 from new_grown (HNEW.out.trans (by (repeat (first | exact New.refl _ | apply New.alloc | apply New.aft | apply New.drew | refine New.setCell ?_ ?_ _)); all_goals (first | done | (simp [size_aft]; done) | (simp [size_aft]; omega)))) hgrow4 HOWN.out); have HO4 := Lib.hid hown4; clear hown4 hgrow4 hor4 hlt4))
        go_roundw
        case rel => exact ⟨k + 1, g4, cap4, by omega, by go_num, by rw [HL1.out], by rw [HL1.out, HS.out, ptCells_snoc]; exact HO4.out, HNW4.out⟩
        case measure => simp [intOf]; omega
    · have hkn : k = n := by omega
      have HSZ := Lib.hid HNEW.out.size
      have hcle := cutsL_le l a b' c d
      rw [HN.out] at hcle
      have HCU := Lib.hid (show ddTo (sortP (cutsTo l a b' c d n)) (cutsTo l a b' c d n).length = cutsL l a b' c d by unfold cutsL; rw [HN.out])
      have HPI := Lib.hid (show pairsTo (cutsL l a b' c d) ((cutsL l a b' c d).length - 1) = piecesL l a b' c d from rfl)
      have HPL := Lib.hid (show (piecesL l a b' c d).length = (cutsL l a b' c d).length - 1 by unfold piecesL; rw [pairsTo_length])
      subst hkn
      generalize hPS : piecesL l a b' c d = PS at *
      have HPSE := Lib.hid hPS
      clear hPS
      generalize cutsL l a b' c d = CS at *
      generalize cutsTo l a b' c d k = cu at *
      generalize hm : cu.length = m at *
      have HM := Lib.hid hm
      clear hm
      generalize hM : CS.length = M at *
      have HMM := Lib.hid hM
      clear hM
      have hmk : ∀ w : World, (Instr.makeSlice 58 (.int .i64 0) (.int .i64 ((M : Int) - 1))).run Tryz.prog w = .ok (.slice (some ⟨w.heap.size, 0, none⟩) 0 (M - 1)) (w.alloc (.cells (madeCells (.agg #[.int .i64 0, .int .i64 0, .int .i64 0, .int .i64 0] : Value).cells ((M - 1) * 4)) 30)) := by
        intro w
        have := run_make (P := Tryz.prog) w 58 30 j0 _ Tryz.underlying58 ji jz0 .i64 .i64 0 (M - 1) (by omega) (by omega) (by rw [jz2]; omega) (by omega)
        rw [jz1, show ((M : Int) - 1).toNat = M - 1 by omega] at this
        simpa using this
      go_wp2_with (first | (go_at_call 124; refine (sortP_c W1.heap.size gc m cc cu _ (by omega) HM.out HOWN.out).mono ?_; rintro e w3 ⟨rfl, ho3, hg3⟩; have HO3 := Lib.hid ho3; have HG3 := Lib.hid hg3; clear ho3 hg3) | (go_at_call 126; refine (compactP_c W1.heap.size gc m cc (sortP cu) _ (by omega) (by rw [sortP_length]; exact HM.out) HO3.out).mono ?_; rw [HCU.out, HMM.out]; rintro e w4 ⟨rfl, ho4, hg4⟩; have HO4 := Lib.hid ho4; have HG4 := Lib.hid (grownBy_trans HG3.out hg4); clear ho4 hg4))
      have HNEW4 := Lib.hid (new_grownBy HNEW.out HG4.out (HOWN.out.lt gc rfl).1)
      have HOUT := Lib.hid (show (w4.alloc (.cells (madeCells (.agg #[.int .i64 0, .int .i64 0, .int .i64 0, .int .i64 0] : Value).cells ((M - 1) * 4)) 30)).ownsRow w4.heap.size 30 4 (.slice (some ⟨w4.heap.size, 0, none⟩) 0 (M - 1)) 0 [] from World.ownsRow_made _ _ _ (Nat.le_refl _) (by unfold maxLen; omega) (by simp [size_madeCells]))
      go_loopg [8, 9] M (fun gh s8 s9 wx => ∃ (i g9 c9 : Nat), 1 ≤ i ∧ i ≤ M ∧ M - i ≤ gh ∧ s9 = .int .i64 i ∧ s8 = .slice (some ⟨g9, 0, none⟩) (i - 1) c9 ∧ wx.ownsRow w4.heap.size 30 4 (.slice (some ⟨g9, 0, none⟩) (i - 1) c9) (i - 1) (segCells (pairsTo CS (i - 1))) ∧ New w4 wx)
      case atStart => exact ⟨1, w4.heap.size, M - 1, Nat.le_refl _, by omega, by omega, rfl, rfl, HOUT.out, (New.refl _).alloc _⟩
      case round =>
        obtain ⟨i, g9, c9, hi1, hiM, hgh, rfl, rfl, ho9, hn9⟩ := hrel
        have HO9 := Lib.hid ho9
        have HN9 := Lib.hid hn9
        clear ho9 hn9
        by_cases hlt : i < M
        · have HCS := Lib.hid (own_new HO4.out HN9.out)
          obtain ⟨⟨e1, e2⟩, _⟩ := own_pt HCS.out HMM.out (show i - 1 < M by omega)
          obtain ⟨⟨f1, f2⟩, _⟩ := own_pt HCS.out HMM.out hlt
          have HPS := Lib.hid (show segCells (pairsTo CS i) = segCells (pairsTo CS (i - 1)) ++ [.int .i64 (px CS (i - 1)), .int .i64 (py CS (i - 1)), .int .i64 (px CS i), .int .i64 (py CS i)] by
            obtain ⟨j, rfl⟩ : ∃ j, i = j + 1 := ⟨i - 1, by omega⟩
            rw [pairsTo_succ, segCells_snoc]; rfl)
          generalize px CS (i - 1) = A1 at *
          generalize py CS (i - 1) = A2 at *
          generalize px CS i = B1 at *
          generalize py CS i = B2 at *
          have hgc := (HCS.out.lt gc rfl).2
          have hbase := HN9.out.size
          have hw1 : IntKind.i64.wrap ((i : Int) - 1) = (i : Int) - 1 := by rw [IntKind.wrap_i64]; omega
          have hp1 : (0 : Int) ≤ (i : Int) - 1 := by omega
          have ht1 : (1 : Int) ≤ (i : Int) := by omega
          have hq1 : ((i : Int) - 1).toNat = i - 1 := by omega
          have hl1 : (i : Int) - 1 < (M : Int) := by omega
          have HK2 := Lib.hid (show i - 1 + 1 ≤ maxLen by unfold maxLen; omega)
          have HK3 := Lib.hid (show (i - 1 + 1) * 32 ≤ 140737488355328 by omega)
          go_wp2_with fail
          go_region_law (first | (refine step_append_lies _ ?_ (.tmp 43) (.tmp 54) 58 ?_ w4.heap.size 30 j0 _ 4 32 Tryz.underlying58 ji jz0 jz1 jz2 rfl (by omega) (.slice (some ⟨g9, 0, none⟩) (i - 1) c9) (i - 1) (segCells (pairsTo CS (i - 1))) ?_ ?_ ⟨wr.heap.size, 0, none⟩ 1 1 [.int .i64 A1, .int .i64 A2, .int .i64 B1, .int .i64 B2] ?_ rfl ?_ ?_ (by omega) ?_ ?_ ?_ _ rfl ?_; exact rfl; exact rfl; exact rfl; exact own_new HO9.out ((New.refl wr).drew.alloc _); exact rfl; (refine cells_new _ _ _ _ ?_); (simp [go_sem]); (intro u hu; simp at hu; rcases hu with rfl | rfl | rfl | rfl <;> rfl); exact HK2.out; exact HK3.out; (simp [go_sem]; omega); intro g5 cap5 w5 hown5 hgrow5 hor5 hlt5))
          all_goals
            have HNW5 := Lib.hid (show New w4 w5 from new_grown (HN9.out.trans ((New.refl wr).drew.alloc _)) hgrow5 HO9.out)
            rw [← HPS.out, show i - 1 + 1 = i by omega] at hown5
            have HO5 := Lib.hid hown5
            clear hown5 hgrow5 hor5 hlt5 hw1 hp1 ht1 hq1 hl1
            go_wp2_with fail
            go_roundg (M - (i + 1))
            case measure => omega
            case rel => exact ⟨i + 1, g5, cap5, by omega, by omega, Nat.le_refl _, by go_num, rfl, HO5.out, HNW5.out⟩
        · have hiM2 : i = M := by omega
          have HIM := Lib.hid hiM2
          clear hiM2
          go_wp2_with fail
          go_ret
          have h1 := HO9.out
          rw [HIM.out] at h1
          have hs1 := HNEW4.out.size
          have hs2 := HW1.out.size
          rw [HPSE.out]
          exact ⟨g9, c9, by rw [HPL.out, ← HIM.out]; rfl, by rw [HPL.out, ← HPI.out]; exact own_base h1 (by omega), HW1.out.trans (HNEW4.out.trans HN9.out)⟩

end Go.Proofs.YtpdfbboagaflhaaGreat
