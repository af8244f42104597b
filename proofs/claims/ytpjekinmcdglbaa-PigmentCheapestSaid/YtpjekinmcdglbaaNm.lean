/- The reference's recipe of one to four places: the walk. At most 1000 tints with shades from 0 to 1000. -/
import Derived.Test.YtpjekinmcdglbaaNl
set_option linter.unusedSimpArgs false
set_option linter.unusedVariables false
set_option maxRecDepth 100000
namespace Go.Proofs.Ytpjekinmcdglbaa
open Go.RowKit Go.Shelf

/-- between two parts of the recipe -/
def RcL (w : World) (B : Nat) (pl : List Nat) (y : Nat → Int) (k : Nat) (W : World) : Prop :=
  ∃ sv, New w W ∧ W.heap[B]? = some (.cells #[sv] 25 (0, 0)) ∧ W.ownsRow w.heap.size 64 2 sv k (partCells (prtTo pl y pl.length k))

set_option maxHeartbeats 16000000 in
theorem recR_c (b off n cp base : Nat) (T : List T5) (pl : List Nat) (v : Value) (x : V3) (w : World) (hT : Tnts w b off n T) (hS : shOk T) (hn : n ≤ 1000) (h1 : 1 ≤ pl.length) (h4 : pl.length ≤ 4) (hlt : ∀ p ∈ pl, p < n) (hx : bdV 1000 x)
    (hv : w.ownsRow base 3 1 v pl.length (natCells pl)) :
    Calls Try.prog 40 #[.slice (some ⟨b, off, none⟩) n cp, v, v3 x] w (RcR w (rfR T pl x)) := by
  obtain ⟨av, cv, rfl⟩ := own_slice hv
  obtain ⟨gs, cap, he, hg1, hg2⟩ := hv.form (by omega)
  injection he with he1 he2 he3
  subst he1
  subst he3
  have HV := Lib.hid hv
  have HT := Lib.hid hT
  obtain ⟨P, hP⟩ : ∃ P : Nat → V3, P = fun i => sh3 T (pl.getD i 0) := ⟨_, rfl⟩
  have hPb : ∀ i, bdV 1000 (P i) := fun i => by rw [hP]; exact sh_bd hS _
  have hmap : (List.range pl.length).map P = pl.map (sh3 T) := by
    rw [hP]
    apply List.ext_getElem (by simp)
    intro i q1 q2
    have q3 : i < pl.length := by simpa using q2
    simp [List.getElem?_eq_getElem q3]
  have HWA := Lib.hid (fun (g c : Nat) (w1 : World) h => weights_all g c pl.length P x w1 h1 h4 h hPb hx)
  obtain ⟨hyl, hyb⟩ := rwt_bd P x pl.length h1 h4 hPb hx
  have HRR := Lib.hid (show rfR T pl x = if ((rwt ((List.range pl.length).map P) x).2 && (List.range pl.length).all fun i => decide (0 < (rwt ((List.range pl.length).map P) x).1.getD i 0)) = true then some (prtTo pl (fun i => (rwt ((List.range pl.length).map P) x).1.getD i 0) pl.length pl.length) else none by rw [hmap]; rfl)
  have HPT := Lib.hid (show ∀ k, k < pl.length → pl.getD k 0 < n ∧ P k = ⟨tA T (pl.getD k 0), tB T (pl.getD k 0), tC T (pl.getD k 0)⟩ from fun k hk => ⟨hlt _ (by rw [List.getD_eq_getElem?_getD, List.getElem?_eq_getElem hk]; simp), by rw [hP]; rfl⟩)
  have HPS := Lib.hid (show ∀ k, ptC P (k + 1) = ptC P k ++ [.int .i64 (P k).x, .int .i64 (P k).y, .int .i64 (P k).z] from fun k => rfl)
  obtain ⟨L, hL⟩ : ∃ L, L = rwt ((List.range pl.length).map P) x := ⟨_, rfl⟩
  rw [← hL] at HRR HWA hyl hyb
  clear hL hmap hP hPb hlt hT hv
  generalize rfR T pl x = R at *
  obtain ⟨y, ok⟩ := L
  simp only at hyl hyb HRR
  obtain ⟨i0, hi, hz0, hz1, hz2⟩ := info_parts arr3_info
  have hbl := HT.out.2.1
  obtain ⟨x1, x2, x3⟩ := x
  go_enter Try.func40, Try.ntmps40
  go_wp2_with fail
  obtain ⟨W1, hW1⟩ : ∃ W1, W1 = (w.alloc (.cells (cV3 ⟨x1, x2, x3⟩) 37)).alloc (.cells #[.slice none 0 0] 25) := ⟨_, rfl⟩
  have HN1 := Lib.hid (show New w W1 by rw [hW1]; exact ((New.refl _).alloc _).alloc _)
  have HB1 := Lib.hid (show W1.heap[w.heap.size]? = some (.cells (cV3 ⟨x1, x2, x3⟩) 37 (0, 0)) ∧ W1.heap[w.heap.size + 1]? = some (.cells #[.slice none 0 0] 25 (0, 0)) by
    rw [hW1]; exact ⟨by rw [Below.heap_alloc _ _ _ (by simp)]; exact World.alloc_heap_new _ _, alloc2_new rfl⟩)
  rw [← hW1]
  clear hW1
  go_loopw [8, 9] (fun s i wr => ∃ k : Nat, k ≤ pl.length ∧ i = .int .i64 (k : Int) ∧ wr.ownsRow W1.heap.size 37 3 s k (ptC P k) ∧ New W1 wr) (fun _ i _ => pl.length - (intOf i).toNat)
  case atStart => exact ⟨0, Nat.zero_le _, rfl, World.ownsRow_nil _ _ _ _, New.refl _⟩
  case round =>
    obtain ⟨k, hk, rfl, hown, hnew⟩ := hrel
    have HOW := Lib.hid hown
    have HNW := Lib.hid (HN1.out.trans hnew)
    have HNR := Lib.hid hnew
    obtain ⟨sa, sc, rfl⟩ := own_slice hown
    clear hown
    by_cases hlt : k < pl.length
    · have hk1 : (k : Int) < (pl.length : Int) := by omega
      obtain ⟨hpn, hPk⟩ := HPT.out k hlt
      have c0 := (own_cell (own_new HV.out HNW.out) (natCells_at pl k hlt)).1
      have HSN := Lib.hid (HPS.out k)
      rw [hPk] at HSN
      obtain ⟨⟨_, c1, c2⟩, c3, _⟩ := (HT.out.new HNW.out).2.2 (pl.getD k 0) hpn
      have hbw : b < wr.heap.size := Nat.lt_of_lt_of_le hbl HNW.out.size
      have hgw : gs < wr.heap.size := Nat.lt_of_lt_of_le hg2 HNW.out.size
      clear hPk hnew
      generalize pl.getD k 0 = p at *
      generalize tA T p = A at *
      generalize tB T p = B at *
      generalize tC T p = C at *
      have hpi : (p : Int) < (n : Int) := by omega
      have HOn := Lib.hid (fun X (hX : New wr X) => own_new HOW.out hX)
      have HZ := Lib.hid (show ∀ X Y, New wr X → X.grownBy Y (Value.slice sa k sc).ownBlock → New W1 Y from fun X Y hX hY => new_grown (HNR.out.trans hX) hY HOW.out)
      go_wp2_with (at_builtin; refine wpList_append_lies _ rfl (.tmp 22) (.tmp 31) 109 rfl W1.heap.size 37 i0 _ 3 24 Try.underlying109 hi hz0 hz1 hz2 rfl (by omega) (.slice sa k sc) k (ptC P k) rfl ?_ _ 1 1 [.int .i64 A, .int .i64 B, .int .i64 C] rfl rfl ?_ ?_ (by omega) ?_ ?_ ?_ _ rfl ?_; exact HOn.out _ (by (repeat (first | exact New.refl _ | apply New.alloc | apply New.aft | apply New.drew | refine New.setCell ?_ ?_ _)); all_goals (first | done | (simp [size_aft]; done) | (simp [size_aft]; omega))); (refine cells_new _ _ _ _ ?_); (simp [go_sem]); (intro u hu; simp at hu; rcases hu with rfl | rfl | rfl <;> rfl); (unfold maxLen; omega); omega; (have := HNR.out.size; simp [go_sem]; omega); intro g cap w4 hown4 hgrow4 hor4 hlt4; have HNN := Lib.hid (HZ.out _ _ (by (repeat (first | exact New.refl _ | apply New.alloc | apply New.aft | apply New.drew | refine New.setCell ?_ ?_ _)); all_goals (first | done | (simp [size_aft]; done) | (simp [size_aft]; omega))) hgrow4); have HO4 := Lib.hid hown4; clear hown4 hgrow4 hor4 hlt4)
      go_roundw
      case rel => exact ⟨k + 1, by omega, by go_num, by rw [HSN.out]; exact HO4.out, HNN.out⟩
      case measure => simp [intOf]; omega
    · obtain rfl : k = pl.length := by omega
      obtain ⟨g, cq, he, _, hgl⟩ := HOW.out.form (by omega)
      injection he with he1 he2 he3
      subst he1
      subst he3
      have hPts := pts_own HOW.out
      have hk1 : ∀ s o, W1.heap[s]? = some o → wr.heap[s]? = some o := fun s o h => (hnew.below.block s (Array.getElem?_eq_some_iff.1 h).1).trans h
      obtain ⟨z1, z2, z3⟩ := cells3 (hk1 _ _ HB1.out.1)
      have HB2 := Lib.hid (hk1 _ _ HB1.out.2)
      have hlw := (Array.getElem?_eq_some_iff.1 (hk1 _ _ HB1.out.1)).1
      clear hnew hk1
      go_wp2_with fail
      go_at_call 64
      refine (HWA.out g _ _ hPts).mono ?_
      rintro e w2 ⟨sv2, rfl, hn2, hown2⟩
      have HN2 := Lib.hid (HNW.out.trans hn2)
      have HB3 := Lib.hid (show w2.heap[w.heap.size + 1]? = some (.cells #[.slice none 0 0] 25 (0, 0)) from (hn2.below.block _ (Array.getElem?_eq_some_iff.1 HB2.out).1).trans HB2.out)
      obtain ⟨sa2, sc2, rfl⟩ := own_slice hown2
      simp only at hown2
      rw [hyl] at hown2
      have HY := Lib.hid hown2
      clear hn2 hown2 hPts z1 z2 z3
      have hs2 := (Array.getElem?_eq_some_iff.1 HB3.out).1
      simp only
      rw [hyl]
      cases ok
      · have HF := Lib.hid (show R = none by rw [HRR.out]; rfl)
        have c1 := box_cell HB3.out
        go_wp2_with fail
        exact bodyPost_ret (rec_results _ _ (w.heap.size + 1) (.slice none 0 0) false _ rfl rfl (heap_setCell_same _ _ 0 _ HB3.out)) rfl ⟨_, HN2.out.setCell (by show w.heap.size ≤ w.heap.size + 1; omega) _, .inl ⟨HF.out, rfl, rfl⟩⟩
      · obtain ⟨Y, hY⟩ : ∃ Y : Nat → Int, Y = fun i => y.getD i 0 := ⟨_, rfl⟩
        have HYc := Lib.hid (show ∀ k, k < pl.length → (intCells y)[k]? = some (.int .i64 (Y k)) from fun k hk => by rw [hY]; simp [intCells, List.getElem?_eq_getElem (show k < y.length by omega)])
        have HRR2 := Lib.hid (show R = if ((List.range pl.length).all fun i => decide (0 < Y i)) = true then some (prtTo pl Y pl.length pl.length) else none by rw [HRR.out, hY]; simp)
        have hYb : ∀ i, i < pl.length → Y i ≤ 4000000000000000000 := fun i hi => by rw [hY]; exact (hyb i hi).2
        clear HRR hyb hY
        go_wp2_with fail
        go_loopw [12, 13] (fun s i wr => ∃ k : Nat, k ≤ pl.length ∧ i = .int .i64 (k : Int) ∧ s = .int .i64 (gcTo Y k) ∧ (∀ j, j < k → 0 < Y j) ∧ New w2 wr) (fun _ i _ => pl.length - (intOf i).toNat)
        case atStart => exact ⟨0, Nat.zero_le _, rfl, rfl, (fun j hj => by omega), New.refl _⟩
        case round =>
          obtain ⟨k, hk, rfl, rfl, hpos, hnew⟩ := hrel
          have HNr := Lib.hid hnew
          have HPO := Lib.hid hpos
          by_cases hlt : k < pl.length
          · have hk1 : (k : Int) < (pl.length : Int) := by omega
            obtain ⟨g2, cq2, he, _, hgl2⟩ := HY.out.form (by omega)
            injection he with he1 he2 he3
            subst he1
            subst he3
            have c0 := (own_cell (own_new HY.out hnew) (HYc.out k hlt)).1
            have hgr2 : g2 < wr.heap.size := Nat.lt_of_lt_of_le hgl2 hnew.size
            clear hnew hpos
            by_cases h0 : 0 < Y k
            · have h0' : ¬ Y k ≤ 0 := by omega
              have HPN := Lib.hid (show ∀ j, j < k + 1 → 0 < Y j from fun j hj => by
                by_cases e : j = k
                · rw [e]; exact h0
                · exact HPO.out j (by omega))
              have hgb := gcP_bd (y := Y) (m := k) (fun i hi => HPO.out i hi) (fun i hi => hYb i (by omega)) k (Nat.le_refl _)
              have hb := hYb k hlt
              have HGC := Lib.hid (fun w1 : World => ref_gcd (gcTo Y k) (Y k) w1 ⟨by omega, by omega⟩ ⟨by omega, by omega⟩)
              go_wp2_with fail
              go_at_call 59
              refine (HGC.out _).mono ?_
              rintro e w6 ⟨rfl, hn6⟩
              have HN6 := Lib.hid (HNr.out.trans hn6)
              clear hn6
              go_wp2_with fail
              go_roundw
              case rel => exact ⟨k + 1, by omega, by go_num, rfl, HPN.out, HN6.out⟩
              case measure => simp [intOf]; omega
            · have h0' : Y k ≤ 0 := by omega
              have HF := Lib.hid (show R = none by
                rw [HRR2.out, if_neg]
                intro h
                have := List.all_eq_true.1 h k (List.mem_range.2 hlt)
                simp only [decide_eq_true_eq] at this; omega)
              have HB4 := Lib.hid (show wr.heap[w.heap.size + 1]? = some (.cells #[.slice none 0 0] 25 (0, 0)) from (HNr.out.below.block _ hs2).trans HB3.out)
              have c1 := box_cell HB4.out
              have hs4 := (Array.getElem?_eq_some_iff.1 HB4.out).1
              go_wp2_with fail
              exact bodyPost_ret (rec_results _ _ (w.heap.size + 1) (.slice none 0 0) false _ rfl rfl (heap_setCell_same _ _ 0 _ HB4.out)) rfl ⟨_, (HN2.out.trans HNr.out).setCell (by show w.heap.size ≤ w.heap.size + 1; omega) _, .inl ⟨HF.out, rfl, rfl⟩⟩
          · obtain rfl : k = pl.length := by omega
            have HRS := Lib.hid (show R = some (prtTo pl Y pl.length pl.length) by
              rw [HRR2.out, if_pos]
              exact List.all_eq_true.2 fun i hi => decide_eq_true (hpos i (List.mem_range.1 hi)))
            have hgb := gcP_bd (y := Y) (m := pl.length) hpos hYb pl.length (Nat.le_refl _)
            have hG : 0 < gcTo Y pl.length := hgb.2.2 (by omega)
            have HM2 := Lib.hid (show ∀ k, prtTo pl Y pl.length (k + 1) = prtTo pl Y pl.length k ++ [((pl.getD k 0 : Int), (Y k).tdiv (gcTo Y pl.length))] from prtTo_succ pl Y pl.length)
            obtain ⟨j0, hj, hj0, hj1, hj2⟩ := info_parts part_info
            have hsr := hnew.size
            have HYp := Lib.hid hpos
            generalize gcTo Y pl.length = G at *
            clear hnew hpos
            go_wp2_with fail
            obtain ⟨B, hB⟩ : ∃ B, B = wr.heap.size := ⟨_, rfl⟩
            rw [← hB]
            obtain ⟨W6, hW6⟩ : ∃ W6, W6 = wr.alloc (.cells #[.slice none 0 0] 25) := ⟨_, rfl⟩
            have HN6 := Lib.hid (show New w2 W6 by rw [hW6]; exact HNr.out.alloc _)
            have HB6 := Lib.hid (show W6.heap[B]? = some (.cells #[.slice none 0 0] 25 (0, 0)) by rw [hW6, hB]; exact World.alloc_heap_new _ _)
            rw [← hW6]
            have hB5 : w2.heap.size ≤ B := by omega
            clear hW6 hB hsr HNr HPO
            go_loopw [15] (fun i wx => ∃ k : Nat, k ≤ pl.length ∧ i = .int .i64 (k : Int) ∧ RcL w2 B pl Y k wx) (fun i _ => pl.length - (intOf i).toNat)
            case atStart => exact ⟨0, by omega, rfl, .slice none 0 0, HN6.out, HB6.out, World.ownsRow_nil _ _ _ _⟩
            case round =>
              obtain ⟨k, hkl, rfl, hrl⟩ := hrel
              obtain ⟨sv, q1, q2, q5⟩ := hrl
              obtain ⟨sa, sc, rfl⟩ := own_slice q5
              by_cases hlt2 : k < pl.length
              · obtain ⟨g2, cq2, he, _, hgl2⟩ := HY.out.form (by omega)
                injection he with he1 he2 he3
                subst he1
                subst he3
                have hk1 : (k : Int) < (pl.length : Int) := by omega
                have hNW := HN2.out.trans q1
                have c1 := (own_cell (own_new HV.out hNW) (natCells_at pl k hlt2)).1
                have c3 := (own_cell (own_new HY.out q1) (HYc.out k hlt2)).1
                have hM := HM2.out k
                have HMK := Lib.hid hM
                generalize pl.getD k 0 = p at *
                have c2 := box_cell q2
                have hvb := hYb k hlt2
                have hvp := HYp.out k hlt2
                have hz : (G = 0) = False := eq_false (by omega)
                obtain ⟨t1, t2⟩ := tdiv_bd (Y k) G hG 4000000000000000000 (by omega) (by omega)
                have hq : IntKind.i64.wrap ((Y k).tdiv G) = (Y k).tdiv G := IntWalk.i64_in _ (by omega)
                have HQW := Lib.hid hq
                clear hq
                obtain ⟨Q, hQ⟩ : ∃ Q, Q = (Y k).tdiv G := ⟨_, rfl⟩
                rw [← hQ] at hM
                have HQ := Lib.hid hQ
                have hBl := (Array.getElem?_eq_some_iff.1 q2).1
                have hgl3 : g2 < wr.heap.size := Nat.lt_of_lt_of_le hgl2 q1.size
                have hgs3 : gs < wr.heap.size := Nat.lt_of_lt_of_le hg2 hNW.size
                have HOn := Lib.hid (show ∀ X, New wr X → X.ownsRow w2.heap.size 64 2 (.slice sa k sc) k (partCells (prtTo pl Y pl.length k)) from fun X hX => own_new q5 hX)
                have HGn := Lib.hid (show ∀ X Z, New wr X → X.grownBy Z (Value.slice sa k sc).ownBlock → New w2 Z ∧ Z.heap[B]? = some (.cells #[.slice sa k sc] 25 (0, 0)) from fun X Z hX hZ => by
                  have hk : ∀ s o, wr.heap[s]? = some o → (∀ cur, o ≠ Obj.cells cur 64 (0, 0)) → Z.heap[s]? = some o := fun s o hs ho => by
                    have h1 := (hX.below.block s (Array.getElem?_eq_some_iff.1 hs).1).trans hs
                    exact (hZ.block s (Array.getElem?_eq_some_iff.1 h1).1 (Ne.symm (own_ne (own_new q5 hX) h1 ho))).trans h1
                  exact ⟨new_grown (q1.trans hX) hZ q5, hk _ _ q2 (fun cur h => by cases h)⟩)
                have hnb := q1.size
                clear q1 q2 q5 hM t1 t2 hQ hNW
                go_upto_region 20 with fail
                go_region_law (first | (refine step_append_lies _ ?_ (.tmp 67) (.tmp 79) 23 ?_ w2.heap.size 64 j0 _ 2 16 Try.underlying23 hj hj0 hj1 hj2 rfl (by omega) (.slice sa k sc) k (partCells (prtTo pl Y pl.length k)) ?_ ?_ ⟨wr.heap.size, 0, none⟩ 1 1 [.int .i64 (p : Int), .int .i64 (IntKind.i64.wrap ((Y k).tdiv G))] ?_ rfl ?_ ?_ (by omega) ?_ ?_ ?_ _ rfl ?_; exact rfl; exact rfl; exact rfl; exact HOn.out _ (by (repeat (first | exact New.refl _ | apply New.alloc | apply New.aft | apply New.drew | refine New.setCell ?_ ?_ _)); all_goals (first | done | (simp [size_aft]; done) | (simp [size_aft]; omega))); exact rfl; (exact fun j u hu => cells_new wr _ _ _ rfl j u hu); (intro u hu; simp at hu; rcases hu with rfl | rfl <;> rfl); (unfold maxLen; omega); omega; (first | (simp [go_sem, size_drew']; omega) | omega); intro g4 cap4 w4 hown4 hgrow4 hor4 hlt4; rw [HQW.out, ← HQ.out] at hown4; have HS4 := Lib.hid (HGn.out _ _ (by (repeat (first | exact New.refl _ | apply New.alloc | apply New.aft | apply New.drew | refine New.setCell ?_ ?_ _)); all_goals (first | done | (simp [size_aft]; done) | (simp [size_aft]; omega))) hgrow4); have HO4 := Lib.hid hown4; have c4 := box_cell HS4.out.2; clear hown4 hgrow4 hor4 hlt4))
                all_goals have HML := Lib.hid (show RcL w2 B pl Y (k + 1) (w4.setCell ⟨B, 0, none⟩ (.slice (some ⟨g4, 0, none⟩) (k + 1) cap4)) from by
                  obtain ⟨z1, z2⟩ := HS4.out
                  refine ⟨_, z1.setCell (by show w2.heap.size ≤ B; omega) _, heap_setCell_same w4 B 0 _ z2, ?_⟩
                  rw [HMK.out, partCells_snoc, ← HQ.out]
                  exact own_keep HO4.out (fun g' hg' => heap_setCell_other _ _ _ _ _ (fun e => own_ne HO4.out z2 (fun cur h => by cases h) (by rw [hg', e]))))
                all_goals (go_wp2_with fail)
                all_goals go_roundw
                all_goals first
                  | exact ⟨_, _, .int .i64 ((k : Int) + 1), ⟨k + 1, by omega, by go_num, HML.out⟩, rfl, rfl, rfl⟩
                  | exact ⟨k + 1, by omega, by go_num, HML.out⟩
                  | (simp [intOf]; omega)
              · obtain rfl : k = pl.length := by omega
                have c1 := box_cell q2
                have HBx := Lib.hid (show wr.heap[w.heap.size + 1]? = some (.cells #[.slice none 0 0] 25 (0, 0)) from (q1.below.block _ hs2).trans HB3.out)
                have c2 := box_cell HBx.out
                have hsx := (Array.getElem?_eq_some_iff.1 HBx.out).1
                have HNf := Lib.hid (HN2.out.trans q1)
                have HO := Lib.hid (own_base q5 (show w.heap.size ≤ w2.heap.size by omega))
                clear q1 q2 q5
                go_wp2_with fail
                refine bodyPost_ret (rec_results _ _ (w.heap.size + 1) (.slice sa pl.length sc) true _ rfl rfl (heap_setCell_same _ _ 0 _ HBx.out)) rfl ⟨_, HNf.out.setCell (by show w.heap.size ≤ w.heap.size + 1; omega) _, .inr ⟨prtTo pl Y pl.length pl.length, HRS.out, rfl, ?_⟩⟩
                rw [prtTo_len]
                exact own_keep HO.out (fun g' hg' => heap_setCell_other _ _ _ _ _ (fun e => own_ne HO.out HBx.out (fun cur h => by cases h) (by rw [hg', e])))

end Go.Proofs.Ytpjekinmcdglbaa
