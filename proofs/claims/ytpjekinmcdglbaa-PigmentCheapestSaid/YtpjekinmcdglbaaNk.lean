/- The reference's weights of four points. Points from 0 to 1000. -/
import Derived.Test.YtpjekinmcdglbaaNj
set_option linter.unusedSimpArgs false
set_option linter.unusedVariables false
set_option maxRecDepth 100000
namespace Go.Proofs.Ytpjekinmcdglbaa
open Go.RowKit Go.Shelf

set_option maxHeartbeats 16000000 in
theorem weights4_c (g cap : Nat) (P : Nat → V3) (x : V3) (w : World) (hP : Pts3 w g 4 P) (hb : ∀ i, bdV 1000 (P i)) (hx : bdV 1000 x) :
    Calls Try.prog 64 #[.slice (some ⟨g, 0, none⟩) 4 cap, v3 x] w (WtR w (rwt [P 0, P 1, P 2, P 3] x)) := by
  obtain ⟨hg, hc⟩ := hP
  have hp0 := hc 0 (by omega)
  have hp1 := hc 1 (by omega)
  have hp2 := hc 2 (by omega)
  have hp3 := hc 3 (by omega)
  have hX := hx.sub (hb 0)
  have hU := (hb 1).sub (hb 0)
  have hV := (hb 2).sub (hb 0)
  have hN := hU.cross hV
  have hC1 := hX.cross hV
  have hC2 := hU.cross hX
  have HM := Lib.hid (fun w1 : World => refMinus_c x (P 0) w1 (hx.mono (by omega)) ((hb 0).mono (by omega)))
  have HMU := Lib.hid (fun w1 : World => refMinus_c (P 1) (P 0) w1 ((hb 1).mono (by omega)) ((hb 0).mono (by omega)))
  have HMV := Lib.hid (fun w1 : World => refMinus_c (P 2) (P 0) w1 ((hb 2).mono (by omega)) ((hb 0).mono (by omega)))
  have HMW := Lib.hid (fun w1 : World => refMinus_c (P 3) (P 0) w1 ((hb 3).mono (by omega)) ((hb 0).mono (by omega)))
  have HCN := Lib.hid (fun w1 : World => refCross_c _ _ w1 (hU.mono (by omega)) (hV.mono (by omega)))
  have HC1 := Lib.hid (fun w1 : World => refCross_c _ _ w1 (hX.mono (by omega)) (hV.mono (by omega)))
  have HC2 := Lib.hid (fun w1 : World => refCross_c _ _ w1 (hU.mono (by omega)) (hX.mono (by omega)))
  have hW := (hb 3).sub (hb 0)
  have b1 := hC1.dot hW
  have b2 := hC2.dot hW
  have b3 := hN.dot hX
  have b4 := hN.dot hW
  have HDD := Lib.hid (fun w1 : World => refDotV_c _ _ w1 (hN.mono (by omega)) (hW.mono (by omega)))
  have HDA := Lib.hid (fun w1 : World => refDotV_c _ _ w1 (hC1.mono (by omega)) (hW.mono (by omega)))
  have HDB := Lib.hid (fun w1 : World => refDotV_c _ _ w1 (hC2.mono (by omega)) (hW.mono (by omega)))
  have HDX := Lib.hid (fun w1 : World => refDotV_c _ _ w1 (hN.mono (by omega)) (hX.mono (by omega)))
  have HR := Lib.hid (show rwt [P 0, P 1, P 2, P 3] x = if ((((P 1).sub (P 0)).cross ((P 2).sub (P 0))).dot ((P 3).sub (P 0))) < 0 then ([(((x.sub (P 0)).cross ((P 2).sub (P 0))).dot ((P 3).sub (P 0))) + ((((P 1).sub (P 0)).cross (x.sub (P 0))).dot ((P 3).sub (P 0))) + ((((P 1).sub (P 0)).cross ((P 2).sub (P 0))).dot (x.sub (P 0))) - ((((P 1).sub (P 0)).cross ((P 2).sub (P 0))).dot ((P 3).sub (P 0))), -(((x.sub (P 0)).cross ((P 2).sub (P 0))).dot ((P 3).sub (P 0))), -((((P 1).sub (P 0)).cross (x.sub (P 0))).dot ((P 3).sub (P 0))), -((((P 1).sub (P 0)).cross ((P 2).sub (P 0))).dot (x.sub (P 0)))], true) else ([((((P 1).sub (P 0)).cross ((P 2).sub (P 0))).dot ((P 3).sub (P 0))) - (((x.sub (P 0)).cross ((P 2).sub (P 0))).dot ((P 3).sub (P 0))) - ((((P 1).sub (P 0)).cross (x.sub (P 0))).dot ((P 3).sub (P 0))) - ((((P 1).sub (P 0)).cross ((P 2).sub (P 0))).dot (x.sub (P 0))), (((x.sub (P 0)).cross ((P 2).sub (P 0))).dot ((P 3).sub (P 0))), ((((P 1).sub (P 0)).cross (x.sub (P 0))).dot ((P 3).sub (P 0))), ((((P 1).sub (P 0)).cross ((P 2).sub (P 0))).dot (x.sub (P 0)))], decide (0 < ((((P 1).sub (P 0)).cross ((P 2).sub (P 0))).dot ((P 3).sub (P 0))))) from rfl)
  rw [HR.out]
  clear HR hX hU hV hN hC1 hC2 hx hb hc hW
  generalize ((x.sub (P 0)).cross ((P 2).sub (P 0))).dot ((P 3).sub (P 0)) = a at *
  generalize (((P 1).sub (P 0)).cross (x.sub (P 0))).dot ((P 3).sub (P 0)) = b at *
  generalize (((P 1).sub (P 0)).cross ((P 2).sub (P 0))).dot (x.sub (P 0)) = c at *
  generalize (((P 1).sub (P 0)).cross ((P 2).sub (P 0))).dot ((P 3).sub (P 0)) = d at *
  generalize (x.sub (P 0)).cross ((P 2).sub (P 0)) = C1 at *
  generalize ((P 1).sub (P 0)).cross (x.sub (P 0)) = C2 at *
  generalize ((P 1).sub (P 0)).cross ((P 2).sub (P 0)) = N at *
  generalize (P 1).sub (P 0) = U at *
  generalize (P 2).sub (P 0) = V at *
  generalize (P 3).sub (P 0) = Y at *
  generalize x.sub (P 0) = X at *
  generalize P 0 = p0 at *
  generalize P 1 = p1 at *
  generalize P 2 = p2 at *
  generalize P 3 = p3 at *
  obtain ⟨x1, x2, x3⟩ := x
  generalize hR : (if d < 0 then ([a + b + c - d, -a, -b, -c], true) else ([d - a - b - c, a, b, c], decide (0 < d))) = RR
  have HRR := Lib.hid hR
  clear hR
  go_enter Try.func64, Try.ntmps64
  go_upto_region 1 with fail
  obtain ⟨W1, hW1⟩ : ∃ W1, W1 = w.alloc (.cells (cV3 ⟨x1, x2, x3⟩) 37) := ⟨_, rfl⟩
  have hn1 : New w W1 := by rw [hW1]; exact (New.refl _).alloc _
  have z1 : W1.heap[w.heap.size]? = some (.cells (cV3 ⟨x1, x2, x3⟩) 37 (0, 0)) := by rw [hW1]; exact World.alloc_heap_new _ _
  rw [← hW1]
  clear hW1
  have l1 := (Array.getElem?_eq_some_iff.1 z1).1
  have HB := Lib.hid (show New w W1 ∧ W1.heap[w.heap.size]? = some (.cells (cV3 ⟨x1, x2, x3⟩) 37 (0, 0)) from ⟨hn1, z1⟩)
  clear hn1 z1 l1
  go_upto_region 1 with fail
  obtain ⟨bn, b0⟩ := HB.out
  have c0 := cells3 b0
  have l0 := (Array.getElem?_eq_some_iff.1 b0).1
  have lg : g < W1.heap.size := Nat.lt_of_lt_of_le hg bn.size
  have HSW := Lib.hid (show ∀ Z, New W1 Z → ((Z.cell? ⟨w.heap.size, 0, none⟩ = some (.int .i64 (⟨x1, x2, x3⟩ : V3).x) ∧ Z.cell? ⟨w.heap.size, 1, none⟩ = some (.int .i64 (⟨x1, x2, x3⟩ : V3).y) ∧ Z.cell? ⟨w.heap.size, 2, none⟩ = some (.int .i64 (⟨x1, x2, x3⟩ : V3).z)) ∧ (Z.cell? ⟨g, 0 * 3, none⟩ = some (.int .i64 p0.x) ∧ Z.cell? ⟨g, 0 * 3 + 1, none⟩ = some (.int .i64 p0.y) ∧ Z.cell? ⟨g, 0 * 3 + 2, none⟩ = some (.int .i64 p0.z))) from fun Z hV => ⟨⟨(hV.cell l0).trans c0.1, (hV.cell l0).trans c0.2.1, (hV.cell l0).trans c0.2.2⟩, ⟨(hV.cell lg).trans ((bn.cell hg).trans hp0.1), (hV.cell lg).trans ((bn.cell hg).trans hp0.2.1), (hV.cell lg).trans ((bn.cell hg).trans hp0.2.2)⟩⟩)
  have hh := HSW.out W1 (New.refl _)
  clear bn b0 c0
  go_cut [6] (fun s wz => ∃ G, s = .pointer (some ⟨G, 0, none⟩) ∧ New W1 wz ∧ wz.heap[G]? = some (.cells (cV3 X) 37 (0, 0)))
  case first =>
    go_region_held3 (fun w' => ((w'.cell? ⟨w.heap.size, 0, none⟩ = some (.int .i64 (⟨x1, x2, x3⟩ : V3).x) ∧ w'.cell? ⟨w.heap.size, 1, none⟩ = some (.int .i64 (⟨x1, x2, x3⟩ : V3).y) ∧ w'.cell? ⟨w.heap.size, 2, none⟩ = some (.int .i64 (⟨x1, x2, x3⟩ : V3).z)) ∧ (w'.cell? ⟨g, 0 * 3, none⟩ = some (.int .i64 p0.x) ∧ w'.cell? ⟨g, 0 * 3 + 1, none⟩ = some (.int .i64 p0.y) ∧ w'.cell? ⟨g, 0 * 3 + 2, none⟩ = some (.int .i64 p0.z)))) (first | (with_reducible refine HSW.out _ ?_; (repeat (first | exact New.refl _ | apply New.alloc | apply New.aft | apply New.drew)); done))
      (first | (go_at_call 85; (with_reducible refine (HM.out _).mono ?_); rintro e w3 ⟨rfl, pw, rfl⟩))
    all_goals (go_wp2_with fail; go_meet)
    all_goals first
      | exact ⟨_, rfl, (by (repeat (first | exact New.refl _ | apply New.alloc | apply New.aft | apply New.drew))), heap_aftA _ _ _ _⟩
      | exact ⟨_, rfl, (by (repeat (first | exact New.refl _ | apply New.alloc | apply New.aft | apply New.drew))), heap_aftB _ _ _ _⟩
  case rest =>
    obtain ⟨GX, rfl, hn2, h7⟩ := hcut
    rename World => wa
    clear hh HSW
    have HB' := Lib.hid (show New w wa ∧ wa.heap[w.heap.size]? = some (.cells (cV3 (⟨x1, x2, x3⟩ : V3)) 37 (0, 0)) ∧ wa.heap[GX]? = some (.cells (cV3 X) 37 (0, 0)) from by
      have hkx : ∀ k o, W1.heap[k]? = some o → wa.heap[k]? = some o := fun k o h => ((hn2).below.block k (Array.getElem?_eq_some_iff.1 h).1).trans h
      obtain ⟨bn, b0⟩ := HB.out
      exact ⟨bn.trans (hn2), hkx _ _ b0, h7⟩)
    clear HB
    have HB := HB'
    clear HB'
    clear hn2 h7
    go_upto_region 4 with fail
    obtain ⟨bn, b0, b1⟩ := HB.out
    have lg : g < wa.heap.size := Nat.lt_of_lt_of_le hg bn.size
    have HSW := Lib.hid (show ∀ Z, New wa Z → ((Z.cell? ⟨g, 0 * 3, none⟩ = some (.int .i64 p0.x) ∧ Z.cell? ⟨g, 0 * 3 + 1, none⟩ = some (.int .i64 p0.y) ∧ Z.cell? ⟨g, 0 * 3 + 2, none⟩ = some (.int .i64 p0.z)) ∧ (Z.cell? ⟨g, 1 * 3, none⟩ = some (.int .i64 p1.x) ∧ Z.cell? ⟨g, 1 * 3 + 1, none⟩ = some (.int .i64 p1.y) ∧ Z.cell? ⟨g, 1 * 3 + 2, none⟩ = some (.int .i64 p1.z))) from fun Z hV => ⟨⟨(hV.cell lg).trans ((bn.cell hg).trans hp0.1), (hV.cell lg).trans ((bn.cell hg).trans hp0.2.1), (hV.cell lg).trans ((bn.cell hg).trans hp0.2.2)⟩, ⟨(hV.cell lg).trans ((bn.cell hg).trans hp1.1), (hV.cell lg).trans ((bn.cell hg).trans hp1.2.1), (hV.cell lg).trans ((bn.cell hg).trans hp1.2.2)⟩⟩)
    have hh := HSW.out wa (New.refl _)
    clear bn b0 b1 
    go_cut [7] (fun s wz => ∃ G, s = .pointer (some ⟨G, 0, none⟩) ∧ New wa wz ∧ wz.heap[G]? = some (.cells (cV3 U) 37 (0, 0)))
    case first =>
      go_region_held3 (fun w' => ((w'.cell? ⟨g, 0 * 3, none⟩ = some (.int .i64 p0.x) ∧ w'.cell? ⟨g, 0 * 3 + 1, none⟩ = some (.int .i64 p0.y) ∧ w'.cell? ⟨g, 0 * 3 + 2, none⟩ = some (.int .i64 p0.z)) ∧ (w'.cell? ⟨g, 1 * 3, none⟩ = some (.int .i64 p1.x) ∧ w'.cell? ⟨g, 1 * 3 + 1, none⟩ = some (.int .i64 p1.y) ∧ w'.cell? ⟨g, 1 * 3 + 2, none⟩ = some (.int .i64 p1.z)))) (first | (with_reducible refine HSW.out _ ?_; (repeat (first | exact New.refl _ | apply New.alloc | apply New.aft | apply New.drew)); done))
        (first | (go_at_call 85; (with_reducible refine (HMU.out _).mono ?_); rintro e w3 ⟨rfl, pw, rfl⟩))
      all_goals (go_wp2_with fail; go_meet)
      all_goals first
        | exact ⟨_, rfl, (by (repeat (first | exact New.refl _ | apply New.alloc | apply New.aft | apply New.drew))), heap_aftA _ _ _ _⟩
        | exact ⟨_, rfl, (by (repeat (first | exact New.refl _ | apply New.alloc | apply New.aft | apply New.drew))), heap_aftB _ _ _ _⟩
    case rest =>
      obtain ⟨GU, rfl, hn2, h7⟩ := hcut
      rename World => wb
      clear hh HSW
      have HB' := Lib.hid (show New w wb ∧ wb.heap[w.heap.size]? = some (.cells (cV3 (⟨x1, x2, x3⟩ : V3)) 37 (0, 0)) ∧ wb.heap[GX]? = some (.cells (cV3 X) 37 (0, 0)) ∧ wb.heap[GU]? = some (.cells (cV3 U) 37 (0, 0)) from by
        have hkx : ∀ k o, wa.heap[k]? = some o → wb.heap[k]? = some o := fun k o h => ((hn2).below.block k (Array.getElem?_eq_some_iff.1 h).1).trans h
        obtain ⟨bn, b0, b1⟩ := HB.out
        exact ⟨bn.trans (hn2), hkx _ _ b0, hkx _ _ b1, h7⟩)
      clear HB
      have HB := HB'
      clear HB'
      clear hn2 h7
      go_upto_region 9 with fail
      obtain ⟨bn, b0, b1, b2⟩ := HB.out
      have lg : g < wb.heap.size := Nat.lt_of_lt_of_le hg bn.size
      have HSW := Lib.hid (show ∀ Z, New wb Z → ((Z.cell? ⟨g, 0 * 3, none⟩ = some (.int .i64 p0.x) ∧ Z.cell? ⟨g, 0 * 3 + 1, none⟩ = some (.int .i64 p0.y) ∧ Z.cell? ⟨g, 0 * 3 + 2, none⟩ = some (.int .i64 p0.z)) ∧ (Z.cell? ⟨g, 2 * 3, none⟩ = some (.int .i64 p2.x) ∧ Z.cell? ⟨g, 2 * 3 + 1, none⟩ = some (.int .i64 p2.y) ∧ Z.cell? ⟨g, 2 * 3 + 2, none⟩ = some (.int .i64 p2.z))) from fun Z hV => ⟨⟨(hV.cell lg).trans ((bn.cell hg).trans hp0.1), (hV.cell lg).trans ((bn.cell hg).trans hp0.2.1), (hV.cell lg).trans ((bn.cell hg).trans hp0.2.2)⟩, ⟨(hV.cell lg).trans ((bn.cell hg).trans hp2.1), (hV.cell lg).trans ((bn.cell hg).trans hp2.2.1), (hV.cell lg).trans ((bn.cell hg).trans hp2.2.2)⟩⟩)
      have hh := HSW.out wb (New.refl _)
      clear bn b0 b1 b2 
      go_cut [10] (fun s wz => ∃ G, s = .pointer (some ⟨G, 0, none⟩) ∧ New wb wz ∧ wz.heap[G]? = some (.cells (cV3 V) 37 (0, 0)))
      case first =>
        go_region_held3 (fun w' => ((w'.cell? ⟨g, 0 * 3, none⟩ = some (.int .i64 p0.x) ∧ w'.cell? ⟨g, 0 * 3 + 1, none⟩ = some (.int .i64 p0.y) ∧ w'.cell? ⟨g, 0 * 3 + 2, none⟩ = some (.int .i64 p0.z)) ∧ (w'.cell? ⟨g, 2 * 3, none⟩ = some (.int .i64 p2.x) ∧ w'.cell? ⟨g, 2 * 3 + 1, none⟩ = some (.int .i64 p2.y) ∧ w'.cell? ⟨g, 2 * 3 + 2, none⟩ = some (.int .i64 p2.z)))) (first | (with_reducible refine HSW.out _ ?_; (repeat (first | exact New.refl _ | apply New.alloc | apply New.aft | apply New.drew)); done))
          (first | (go_at_call 85; (with_reducible refine (HMV.out _).mono ?_); rintro e w3 ⟨rfl, pw, rfl⟩))
        all_goals (go_wp2_with fail; go_meet)
        all_goals first
          | exact ⟨_, rfl, (by (repeat (first | exact New.refl _ | apply New.alloc | apply New.aft | apply New.drew))), heap_aftA _ _ _ _⟩
          | exact ⟨_, rfl, (by (repeat (first | exact New.refl _ | apply New.alloc | apply New.aft | apply New.drew))), heap_aftB _ _ _ _⟩
      case rest =>
        obtain ⟨GV, rfl, hn2, h7⟩ := hcut
        rename World => wd
        clear hh HSW
        have HB' := Lib.hid (show New w wd ∧ wd.heap[w.heap.size]? = some (.cells (cV3 (⟨x1, x2, x3⟩ : V3)) 37 (0, 0)) ∧ wd.heap[GX]? = some (.cells (cV3 X) 37 (0, 0)) ∧ wd.heap[GU]? = some (.cells (cV3 U) 37 (0, 0)) ∧ wd.heap[GV]? = some (.cells (cV3 V) 37 (0, 0)) from by
          have hkx : ∀ k o, wb.heap[k]? = some o → wd.heap[k]? = some o := fun k o h => ((hn2).below.block k (Array.getElem?_eq_some_iff.1 h).1).trans h
          obtain ⟨bn, b0, b1, b2⟩ := HB.out
          exact ⟨bn.trans (hn2), hkx _ _ b0, hkx _ _ b1, hkx _ _ b2, h7⟩)
        clear HB
        have HB := HB'
        clear HB'
        clear hn2 h7
        clear HM HMU HMV
        obtain ⟨bn, b0, b1, b2, b3⟩ := HB.out
        have c2 := cells3 b2
        have l2 := (Array.getElem?_eq_some_iff.1 b2).1
        have c3 := cells3 b3
        have l3 := (Array.getElem?_eq_some_iff.1 b3).1
        have HSW := Lib.hid (show ∀ Z, New wd Z → ((Z.cell? ⟨GU, 0, none⟩ = some (.int .i64 U.x) ∧ Z.cell? ⟨GU, 1, none⟩ = some (.int .i64 U.y) ∧ Z.cell? ⟨GU, 2, none⟩ = some (.int .i64 U.z)) ∧ (Z.cell? ⟨GV, 0, none⟩ = some (.int .i64 V.x) ∧ Z.cell? ⟨GV, 1, none⟩ = some (.int .i64 V.y) ∧ Z.cell? ⟨GV, 2, none⟩ = some (.int .i64 V.z))) from fun Z hV => ⟨⟨(hV.cell l2).trans c2.1, (hV.cell l2).trans c2.2.1, (hV.cell l2).trans c2.2.2⟩, ⟨(hV.cell l3).trans c3.1, (hV.cell l3).trans c3.2.1, (hV.cell l3).trans c3.2.2⟩⟩)
        have hh := HSW.out wd (New.refl _)
        clear bn b0 b1 b2 b3 c2 c3
        obtain ⟨⟨u1, u2, u3⟩, v1, v2, v3'⟩ := hh
        go_wp2_with fail
        go_at_call 86
        refine (HCN.out _).mono ?_
        rintro e we ⟨rfl, hn4⟩
        clear u1 u2 u3 v1 v2 v3' HSW HCN
        have hn5 : New wd (we.alloc (.cells (cV3 N) 37)) := hn4.alloc _
        have hN5 : (we.alloc (.cells (cV3 N) 37)).heap[we.heap.size]? = some (.cells (cV3 N) 37 (0, 0)) := World.alloc_heap_new _ _
        have HB' := Lib.hid (show New w (we.alloc (.cells (cV3 N) 37)) ∧ (we.alloc (.cells (cV3 N) 37)).heap[w.heap.size]? = some (.cells (cV3 (⟨x1, x2, x3⟩ : V3)) 37 (0, 0)) ∧ (we.alloc (.cells (cV3 N) 37)).heap[GX]? = some (.cells (cV3 X) 37 (0, 0)) ∧ (we.alloc (.cells (cV3 N) 37)).heap[GU]? = some (.cells (cV3 U) 37 (0, 0)) ∧ (we.alloc (.cells (cV3 N) 37)).heap[GV]? = some (.cells (cV3 V) 37 (0, 0)) ∧ (we.alloc (.cells (cV3 N) 37)).heap[we.heap.size]? = some (.cells (cV3 N) 37 (0, 0)) from by
          have hkx : ∀ k o, wd.heap[k]? = some o → (we.alloc (.cells (cV3 N) 37)).heap[k]? = some o := fun k o h => ((hn5).below.block k (Array.getElem?_eq_some_iff.1 h).1).trans h
          obtain ⟨bn, b0, b1, b2, b3⟩ := HB.out
          exact ⟨bn.trans (hn5), hkx _ _ b0, hkx _ _ b1, hkx _ _ b2, hkx _ _ b3, hN5⟩)
        clear HB
        have HB := HB'
        clear HB'
        clear hN5 hn5 hn4
        generalize hwf : (we.alloc (.cells (cV3 N) 37)) = wf at *
        go_upto_region 15 with fail
        clear hwf
        generalize we.heap.size = GN at *
        obtain ⟨bn, b0, b1, b2, b3, b4⟩ := HB.out
        have lg : g < wf.heap.size := Nat.lt_of_lt_of_le hg bn.size
        have HSW := Lib.hid (show ∀ Z, New wf Z → ((Z.cell? ⟨g, 0 * 3, none⟩ = some (.int .i64 p0.x) ∧ Z.cell? ⟨g, 0 * 3 + 1, none⟩ = some (.int .i64 p0.y) ∧ Z.cell? ⟨g, 0 * 3 + 2, none⟩ = some (.int .i64 p0.z)) ∧ (Z.cell? ⟨g, 3 * 3, none⟩ = some (.int .i64 p3.x) ∧ Z.cell? ⟨g, 3 * 3 + 1, none⟩ = some (.int .i64 p3.y) ∧ Z.cell? ⟨g, 3 * 3 + 2, none⟩ = some (.int .i64 p3.z))) from fun Z hV => ⟨⟨(hV.cell lg).trans ((bn.cell hg).trans hp0.1), (hV.cell lg).trans ((bn.cell hg).trans hp0.2.1), (hV.cell lg).trans ((bn.cell hg).trans hp0.2.2)⟩, ⟨(hV.cell lg).trans ((bn.cell hg).trans hp3.1), (hV.cell lg).trans ((bn.cell hg).trans hp3.2.1), (hV.cell lg).trans ((bn.cell hg).trans hp3.2.2)⟩⟩)
        have hh := HSW.out wf (New.refl _)
        clear bn b0 b1 b2 b3 b4 
        go_cut [14] (fun s wz => ∃ G, s = .pointer (some ⟨G, 0, none⟩) ∧ New wf wz ∧ wz.heap[G]? = some (.cells (cV3 Y) 37 (0, 0)))
        case first =>
          go_region_held3 (fun w' => ((w'.cell? ⟨g, 0 * 3, none⟩ = some (.int .i64 p0.x) ∧ w'.cell? ⟨g, 0 * 3 + 1, none⟩ = some (.int .i64 p0.y) ∧ w'.cell? ⟨g, 0 * 3 + 2, none⟩ = some (.int .i64 p0.z)) ∧ (w'.cell? ⟨g, 3 * 3, none⟩ = some (.int .i64 p3.x) ∧ w'.cell? ⟨g, 3 * 3 + 1, none⟩ = some (.int .i64 p3.y) ∧ w'.cell? ⟨g, 3 * 3 + 2, none⟩ = some (.int .i64 p3.z)))) (first | (with_reducible refine HSW.out _ ?_; (repeat (first | exact New.refl _ | apply New.alloc | apply New.aft | apply New.drew)); done))
            (first | (go_at_call 85; (with_reducible refine (HMW.out _).mono ?_); rintro e w3 ⟨rfl, pw, rfl⟩))
          all_goals (go_wp2_with fail; go_meet)
          all_goals first
            | exact ⟨_, rfl, (by (repeat (first | exact New.refl _ | apply New.alloc | apply New.aft | apply New.drew))), heap_aftA _ _ _ _⟩
            | exact ⟨_, rfl, (by (repeat (first | exact New.refl _ | apply New.alloc | apply New.aft | apply New.drew))), heap_aftB _ _ _ _⟩
        case rest =>
          obtain ⟨GY, rfl, hn2, h7⟩ := hcut
          rename World => wg
          clear hh HSW
          have HB' := Lib.hid (show New w wg ∧ wg.heap[w.heap.size]? = some (.cells (cV3 (⟨x1, x2, x3⟩ : V3)) 37 (0, 0)) ∧ wg.heap[GX]? = some (.cells (cV3 X) 37 (0, 0)) ∧ wg.heap[GU]? = some (.cells (cV3 U) 37 (0, 0)) ∧ wg.heap[GV]? = some (.cells (cV3 V) 37 (0, 0)) ∧ wg.heap[GN]? = some (.cells (cV3 N) 37 (0, 0)) ∧ wg.heap[GY]? = some (.cells (cV3 Y) 37 (0, 0)) from by
            have hkx : ∀ k o, wf.heap[k]? = some o → wg.heap[k]? = some o := fun k o h => ((hn2).below.block k (Array.getElem?_eq_some_iff.1 h).1).trans h
            obtain ⟨bn, b0, b1, b2, b3, b4⟩ := HB.out
            exact ⟨bn.trans (hn2), hkx _ _ b0, hkx _ _ b1, hkx _ _ b2, hkx _ _ b3, hkx _ _ b4, h7⟩)
          clear HB
          have HB := HB'
          clear HB'
          clear hn2 h7
          clear HMW
          obtain ⟨bn, b0, b1, b2, b3, b4, b5⟩ := HB.out
          have c4 := cells3 b4
          have l4 := (Array.getElem?_eq_some_iff.1 b4).1
          have c5 := cells3 b5
          have l5 := (Array.getElem?_eq_some_iff.1 b5).1
          have HSW := Lib.hid (show ∀ Z, New wg Z → ((Z.cell? ⟨GN, 0, none⟩ = some (.int .i64 N.x) ∧ Z.cell? ⟨GN, 1, none⟩ = some (.int .i64 N.y) ∧ Z.cell? ⟨GN, 2, none⟩ = some (.int .i64 N.z)) ∧ (Z.cell? ⟨GY, 0, none⟩ = some (.int .i64 Y.x) ∧ Z.cell? ⟨GY, 1, none⟩ = some (.int .i64 Y.y) ∧ Z.cell? ⟨GY, 2, none⟩ = some (.int .i64 Y.z))) from fun Z hV => ⟨⟨(hV.cell l4).trans c4.1, (hV.cell l4).trans c4.2.1, (hV.cell l4).trans c4.2.2⟩, ⟨(hV.cell l5).trans c5.1, (hV.cell l5).trans c5.2.1, (hV.cell l5).trans c5.2.2⟩⟩)
          have hh := HSW.out wg (New.refl _)
          clear bn b0 b1 b2 b3 b4 b5 c4 c5
          obtain ⟨⟨u1, u2, u3⟩, v1, v2, v3'⟩ := hh
          go_wp2_with fail
          go_at_call 45
          refine (HDD.out _).mono ?_
          rintro e wh ⟨rfl, hn4⟩
          clear u1 u2 u3 v1 v2 v3' HSW HDD
          have HB' := Lib.hid (show New w wh ∧ wh.heap[w.heap.size]? = some (.cells (cV3 (⟨x1, x2, x3⟩ : V3)) 37 (0, 0)) ∧ wh.heap[GX]? = some (.cells (cV3 X) 37 (0, 0)) ∧ wh.heap[GU]? = some (.cells (cV3 U) 37 (0, 0)) ∧ wh.heap[GV]? = some (.cells (cV3 V) 37 (0, 0)) ∧ wh.heap[GN]? = some (.cells (cV3 N) 37 (0, 0)) ∧ wh.heap[GY]? = some (.cells (cV3 Y) 37 (0, 0)) from by
            have hkx : ∀ k o, wg.heap[k]? = some o → wh.heap[k]? = some o := fun k o h => ((hn4).below.block k (Array.getElem?_eq_some_iff.1 h).1).trans h
            obtain ⟨bn, b0, b1, b2, b3, b4, b5⟩ := HB.out
            exact ⟨bn.trans (hn4), hkx _ _ b0, hkx _ _ b1, hkx _ _ b2, hkx _ _ b3, hkx _ _ b4, hkx _ _ b5⟩)
          clear HB
          have HB := HB'
          clear HB'
          clear hn4
          go_upto_region 17 with fail
          obtain ⟨bn, b0, b1, b2, b3, b4, b5⟩ := HB.out
          have c1 := cells3 b1
          have l1 := (Array.getElem?_eq_some_iff.1 b1).1
          have c3 := cells3 b3
          have l3 := (Array.getElem?_eq_some_iff.1 b3).1
          have c5 := cells3 b5
          have l5 := (Array.getElem?_eq_some_iff.1 b5).1
          have HSW := Lib.hid (show ∀ Z, New wh Z → ((Z.cell? ⟨GX, 0, none⟩ = some (.int .i64 X.x) ∧ Z.cell? ⟨GX, 1, none⟩ = some (.int .i64 X.y) ∧ Z.cell? ⟨GX, 2, none⟩ = some (.int .i64 X.z)) ∧ (Z.cell? ⟨GV, 0, none⟩ = some (.int .i64 V.x) ∧ Z.cell? ⟨GV, 1, none⟩ = some (.int .i64 V.y) ∧ Z.cell? ⟨GV, 2, none⟩ = some (.int .i64 V.z)) ∧ (Z.cell? ⟨GY, 0, none⟩ = some (.int .i64 Y.x) ∧ Z.cell? ⟨GY, 1, none⟩ = some (.int .i64 Y.y) ∧ Z.cell? ⟨GY, 2, none⟩ = some (.int .i64 Y.z))) from fun Z hV => ⟨⟨(hV.cell l1).trans c1.1, (hV.cell l1).trans c1.2.1, (hV.cell l1).trans c1.2.2⟩, ⟨(hV.cell l3).trans c3.1, (hV.cell l3).trans c3.2.1, (hV.cell l3).trans c3.2.2⟩, ⟨(hV.cell l5).trans c5.1, (hV.cell l5).trans c5.2.1, (hV.cell l5).trans c5.2.2⟩⟩)
          have hh := HSW.out wh (New.refl _)
          clear bn b0 b1 b2 b3 b4 b5 c1 c3 c5
          go_cut [16] (fun s wz => s = .int .i64 a ∧ New wh wz)
          case first =>
            go_region_held3 (fun w' => ((w'.cell? ⟨GX, 0, none⟩ = some (.int .i64 X.x) ∧ w'.cell? ⟨GX, 1, none⟩ = some (.int .i64 X.y) ∧ w'.cell? ⟨GX, 2, none⟩ = some (.int .i64 X.z)) ∧ (w'.cell? ⟨GV, 0, none⟩ = some (.int .i64 V.x) ∧ w'.cell? ⟨GV, 1, none⟩ = some (.int .i64 V.y) ∧ w'.cell? ⟨GV, 2, none⟩ = some (.int .i64 V.z)) ∧ (w'.cell? ⟨GY, 0, none⟩ = some (.int .i64 Y.x) ∧ w'.cell? ⟨GY, 1, none⟩ = some (.int .i64 Y.y) ∧ w'.cell? ⟨GY, 2, none⟩ = some (.int .i64 Y.z)))) (first | (with_reducible refine HSW.out _ ?_; (repeat (first | exact New.refl _ | apply New.alloc | apply New.aft | apply New.drew)); done))
              (first | (go_at_call 86; (with_reducible refine (HC1.out _).mono ?_); rintro e w3 ⟨rfl, pw, rfl⟩) | (go_at_call 45; (with_reducible refine (HDA.out _).mono ?_); rintro e w3 ⟨rfl, pw, rfl⟩))
            all_goals (go_wp2_with fail; go_meet)
            all_goals exact ⟨rfl, (by (repeat (first | exact New.refl _ | apply New.alloc | apply New.aft | apply New.drew)))⟩
          case rest =>
            obtain ⟨rfl, hn2⟩ := hcut
            rename World => wi
            clear hh HSW
            have HB' := Lib.hid (show New w wi ∧ wi.heap[w.heap.size]? = some (.cells (cV3 (⟨x1, x2, x3⟩ : V3)) 37 (0, 0)) ∧ wi.heap[GX]? = some (.cells (cV3 X) 37 (0, 0)) ∧ wi.heap[GU]? = some (.cells (cV3 U) 37 (0, 0)) ∧ wi.heap[GV]? = some (.cells (cV3 V) 37 (0, 0)) ∧ wi.heap[GN]? = some (.cells (cV3 N) 37 (0, 0)) ∧ wi.heap[GY]? = some (.cells (cV3 Y) 37 (0, 0)) from by
              have hkx : ∀ k o, wh.heap[k]? = some o → wi.heap[k]? = some o := fun k o h => ((hn2).below.block k (Array.getElem?_eq_some_iff.1 h).1).trans h
              obtain ⟨bn, b0, b1, b2, b3, b4, b5⟩ := HB.out
              exact ⟨bn.trans (hn2), hkx _ _ b0, hkx _ _ b1, hkx _ _ b2, hkx _ _ b3, hkx _ _ b4, hkx _ _ b5⟩)
            clear HB
            have HB := HB'
            clear HB'
            clear hn2
            go_upto_region 18 with fail
            obtain ⟨bn, b0, b1, b2, b3, b4, b5⟩ := HB.out
            have c2 := cells3 b2
            have l2 := (Array.getElem?_eq_some_iff.1 b2).1
            have c1 := cells3 b1
            have l1 := (Array.getElem?_eq_some_iff.1 b1).1
            have c5 := cells3 b5
            have l5 := (Array.getElem?_eq_some_iff.1 b5).1
            have HSW := Lib.hid (show ∀ Z, New wi Z → ((Z.cell? ⟨GU, 0, none⟩ = some (.int .i64 U.x) ∧ Z.cell? ⟨GU, 1, none⟩ = some (.int .i64 U.y) ∧ Z.cell? ⟨GU, 2, none⟩ = some (.int .i64 U.z)) ∧ (Z.cell? ⟨GX, 0, none⟩ = some (.int .i64 X.x) ∧ Z.cell? ⟨GX, 1, none⟩ = some (.int .i64 X.y) ∧ Z.cell? ⟨GX, 2, none⟩ = some (.int .i64 X.z)) ∧ (Z.cell? ⟨GY, 0, none⟩ = some (.int .i64 Y.x) ∧ Z.cell? ⟨GY, 1, none⟩ = some (.int .i64 Y.y) ∧ Z.cell? ⟨GY, 2, none⟩ = some (.int .i64 Y.z))) from fun Z hV => ⟨⟨(hV.cell l2).trans c2.1, (hV.cell l2).trans c2.2.1, (hV.cell l2).trans c2.2.2⟩, ⟨(hV.cell l1).trans c1.1, (hV.cell l1).trans c1.2.1, (hV.cell l1).trans c1.2.2⟩, ⟨(hV.cell l5).trans c5.1, (hV.cell l5).trans c5.2.1, (hV.cell l5).trans c5.2.2⟩⟩)
            have hh := HSW.out wi (New.refl _)
            clear bn b0 b1 b2 b3 b4 b5 c2 c1 c5
            go_cut [17] (fun s wz => s = .int .i64 b ∧ New wi wz)
            case first =>
              go_region_held3 (fun w' => ((w'.cell? ⟨GU, 0, none⟩ = some (.int .i64 U.x) ∧ w'.cell? ⟨GU, 1, none⟩ = some (.int .i64 U.y) ∧ w'.cell? ⟨GU, 2, none⟩ = some (.int .i64 U.z)) ∧ (w'.cell? ⟨GX, 0, none⟩ = some (.int .i64 X.x) ∧ w'.cell? ⟨GX, 1, none⟩ = some (.int .i64 X.y) ∧ w'.cell? ⟨GX, 2, none⟩ = some (.int .i64 X.z)) ∧ (w'.cell? ⟨GY, 0, none⟩ = some (.int .i64 Y.x) ∧ w'.cell? ⟨GY, 1, none⟩ = some (.int .i64 Y.y) ∧ w'.cell? ⟨GY, 2, none⟩ = some (.int .i64 Y.z)))) (first | (with_reducible refine HSW.out _ ?_; (repeat (first | exact New.refl _ | apply New.alloc | apply New.aft | apply New.drew)); done))
                (first | (go_at_call 86; (with_reducible refine (HC2.out _).mono ?_); rintro e w3 ⟨rfl, pw, rfl⟩) | (go_at_call 45; (with_reducible refine (HDB.out _).mono ?_); rintro e w3 ⟨rfl, pw, rfl⟩))
              all_goals (go_wp2_with fail; go_meet)
              all_goals exact ⟨rfl, (by (repeat (first | exact New.refl _ | apply New.alloc | apply New.aft | apply New.drew)))⟩
            case rest =>
              obtain ⟨rfl, hn2⟩ := hcut
              rename World => wj
              clear hh HSW
              have HB' := Lib.hid (show New w wj ∧ wj.heap[w.heap.size]? = some (.cells (cV3 (⟨x1, x2, x3⟩ : V3)) 37 (0, 0)) ∧ wj.heap[GX]? = some (.cells (cV3 X) 37 (0, 0)) ∧ wj.heap[GU]? = some (.cells (cV3 U) 37 (0, 0)) ∧ wj.heap[GV]? = some (.cells (cV3 V) 37 (0, 0)) ∧ wj.heap[GN]? = some (.cells (cV3 N) 37 (0, 0)) ∧ wj.heap[GY]? = some (.cells (cV3 Y) 37 (0, 0)) from by
                have hkx : ∀ k o, wi.heap[k]? = some o → wj.heap[k]? = some o := fun k o h => ((hn2).below.block k (Array.getElem?_eq_some_iff.1 h).1).trans h
                obtain ⟨bn, b0, b1, b2, b3, b4, b5⟩ := HB.out
                exact ⟨bn.trans (hn2), hkx _ _ b0, hkx _ _ b1, hkx _ _ b2, hkx _ _ b3, hkx _ _ b4, hkx _ _ b5⟩)
              clear HB
              have HB := HB'
              clear HB'
              clear hn2
              clear HC1 HC2 HDA HDB
              obtain ⟨bn, b0, b1, b2, b3, b4, b5⟩ := HB.out
              have c4 := cells3 b4
              have l4 := (Array.getElem?_eq_some_iff.1 b4).1
              have c1 := cells3 b1
              have l1 := (Array.getElem?_eq_some_iff.1 b1).1
              have HSW := Lib.hid (show ∀ Z, New wj Z → ((Z.cell? ⟨GN, 0, none⟩ = some (.int .i64 N.x) ∧ Z.cell? ⟨GN, 1, none⟩ = some (.int .i64 N.y) ∧ Z.cell? ⟨GN, 2, none⟩ = some (.int .i64 N.z)) ∧ (Z.cell? ⟨GX, 0, none⟩ = some (.int .i64 X.x) ∧ Z.cell? ⟨GX, 1, none⟩ = some (.int .i64 X.y) ∧ Z.cell? ⟨GX, 2, none⟩ = some (.int .i64 X.z))) from fun Z hV => ⟨⟨(hV.cell l4).trans c4.1, (hV.cell l4).trans c4.2.1, (hV.cell l4).trans c4.2.2⟩, ⟨(hV.cell l1).trans c1.1, (hV.cell l1).trans c1.2.1, (hV.cell l1).trans c1.2.2⟩⟩)
              have hh := HSW.out wj (New.refl _)
              clear bn b0 b1 b2 b3 b4 b5 c4 c1
              obtain ⟨⟨u1, u2, u3⟩, v1, v2, v3'⟩ := hh
              go_wp2_with fail
              go_at_call 45
              refine (HDX.out _).mono ?_
              rintro e wk ⟨rfl, hn4⟩
              clear u1 u2 u3 v1 v2 v3' HSW HDX
              have HN := Lib.hid (HB.out.1.trans hn4)
              clear hn4 HB
              by_cases hneg : d < 0
              · have q1 : IntKind.i64.wrap (a + b) = a + b := IntWalk.i64_in _ (by omega)
                have q2 : IntKind.i64.wrap (a + b + c) = a + b + c := IntWalk.i64_in _ (by omega)
                have q3 : IntKind.i64.wrap (a + b + c - d) = a + b + c - d := IntWalk.i64_in _ (by omega)
                have ra : IntKind.i64.wrap (-a) = -a := IntWalk.i64_in _ (by omega)
                have rb : IntKind.i64.wrap (-b) = -b := IntWalk.i64_in _ (by omega)
                have rc : IntKind.i64.wrap (-c) = -c := IntWalk.i64_in _ (by omega)
                have HT := Lib.hid hneg
                clear b1 b2 b3 b4
                obtain rfl : ([a + b + c - d, -a, -b, -c], true) = RR := by have := HRR.out; rwa [if_pos hneg] at this
                clear HRR
                go_wp2_with fail
                exact bodyPost_ret (wt_results _ _ _ _ rfl rfl) rfl ⟨_, rfl, HN.out.trans ((New.refl wk).alloc _), own_ints (l := [a + b + c - d, -a, -b, -c]) (World.alloc_heap_new _ _) (by show 4 ≤ maxLen; decide) HN.out.size⟩
              · have q1 : IntKind.i64.wrap (d - a) = d - a := IntWalk.i64_in _ (by omega)
                have q2 : IntKind.i64.wrap (d - a - b) = d - a - b := IntWalk.i64_in _ (by omega)
                have q3 : IntKind.i64.wrap (d - a - b - c) = d - a - b - c := IntWalk.i64_in _ (by omega)
                obtain rfl : ([d - a - b - c, a, b, c], decide (0 < d)) = RR := by have := HRR.out; rwa [if_neg hneg] at this
                clear HRR
                clear b1 b2 b3 b4
                go_wp2_with fail
                exact bodyPost_ret (wt_results _ _ _ _ rfl rfl) rfl ⟨_, rfl, HN.out.trans ((New.refl wk).alloc _), own_ints (l := [d - a - b - c, a, b, c]) (World.alloc_heap_new _ _) (by show 4 ≤ maxLen; decide) HN.out.size⟩

end Go.Proofs.Ytpjekinmcdglbaa
