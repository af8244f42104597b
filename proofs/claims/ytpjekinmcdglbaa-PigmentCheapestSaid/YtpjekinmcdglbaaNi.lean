/- The reference's weights of two points. Points from 0 to 1000. -/
import Derived.Test.YtpjekinmcdglbaaNh
set_option linter.unusedSimpArgs false
set_option linter.unusedVariables false
set_option maxRecDepth 100000
namespace Go.Proofs.Ytpjekinmcdglbaa
open Go.RowKit Go.Shelf

theorem wt_results (tmps : Array Value) (W : World) (a b : Value) (h4 : tmps.getD 4 undef = a) (h5 : tmps.getD 5 undef = b) : (results Try.f64 tmps).run Try.prog W = .ok (.tuple #[a, b]) W := by
  simp only [Array.getD_eq_getD_getElem?] at h4 h5
  simp [results, Try.results64, go_sem, h4, h5]
theorem wt_ret {sv : Value} {b b' : Bool} (h : b = b') : Ending.returned (.tuple #[sv, .bool b]) = .returned (.tuple #[sv, .bool b']) := by rw [h]
theorem refDotV_c (u v : V3) (w : World) (hu : bdV 100000000 u) (hv : bdV 100000000 v) : Calls Try.prog 45 #[v3 u, v3 v] w fun en w' => en = .returned (.int .i64 (u.dot v)) ∧ New w w' := by
  obtain ⟨a, b, c⟩ := u
  obtain ⟨d, e, f⟩ := v
  have h1 := mulB hu.1 hv.1
  have h2 := mulB hu.2.1 hv.2.1
  have h3 := mulB hu.2.2 hv.2.2
  simp only at h1 h2 h3
  exact ref_dot a b c d e f w (by omega) (by omega) (by omega) (by omega) (by omega)

set_option maxHeartbeats 8000000 in
theorem weights2_c (g cap : Nat) (P : Nat → V3) (x : V3) (w : World) (hP : Pts3 w g 2 P) (hb : ∀ i, bdV 1000 (P i)) (hx : bdV 1000 x) :
    Calls Try.prog 64 #[.slice (some ⟨g, 0, none⟩) 2 cap, v3 x] w (WtR w (rwt [P 0, P 1] x)) := by
  obtain ⟨hg, hc⟩ := hP
  obtain ⟨d1, d2, d3⟩ := hc 0 (by omega)
  obtain ⟨e1, e2, e3⟩ := hc 1 (by omega)
  have hy := hx.sub (hb 0)
  have hu := (hb 1).sub (hb 0)
  have hd1 := hu.dot hu
  have hd2 := hu.dot hy
  have HM := Lib.hid (fun w1 : World => refMinus_c x (P 0) w1 (hx.mono (by omega)) ((hb 0).mono (by omega)))
  have HU := Lib.hid (fun w1 : World => refMinus_c (P 1) (P 0) w1 ((hb 1).mono (by omega)) ((hb 0).mono (by omega)))
  have HC := Lib.hid (fun w1 : World => refCross_c _ _ w1 (hu.mono (by omega)) (hy.mono (by omega)))
  have HD1 := Lib.hid (fun w1 : World => refDotV_c _ _ w1 (hu.mono (by omega)) (hu.mono (by omega)))
  have HD2 := Lib.hid (fun w1 : World => refDotV_c _ _ w1 (hu.mono (by omega)) (hy.mono (by omega)))
  have HR := Lib.hid (show rwt [P 0, P 1] x = ([((P 1).sub (P 0)).dot ((P 1).sub (P 0)) - ((P 1).sub (P 0)).dot (x.sub (P 0)), ((P 1).sub (P 0)).dot (x.sub (P 0))], decide (0 < ((P 1).sub (P 0)).dot ((P 1).sub (P 0))) && (decide ((((P 1).sub (P 0)).cross (x.sub (P 0))).x = 0) && decide ((((P 1).sub (P 0)).cross (x.sub (P 0))).y = 0) && decide ((((P 1).sub (P 0)).cross (x.sub (P 0))).z = 0))) from rfl)
  rw [HR.out]
  clear HR hy hu hx hb hc
  generalize ((P 1).sub (P 0)).dot ((P 1).sub (P 0)) = D1 at *
  generalize ((P 1).sub (P 0)).dot (x.sub (P 0)) = D2 at *
  generalize ((P 1).sub (P 0)).cross (x.sub (P 0)) = Cr at *
  generalize (P 1).sub (P 0) = U at *
  generalize x.sub (P 0) = R at *
  generalize P 0 = p at *
  generalize P 1 = q at *
  obtain ⟨A, B, C⟩ := p
  obtain ⟨A', B', C'⟩ := q
  obtain ⟨x1, x2, x3⟩ := x
  simp only at d1 d2 d3 e1 e2 e3
  go_enter Try.func64, Try.ntmps64
  go_upto_region 1 with fail
  obtain ⟨W1, hW1⟩ : ∃ W1, W1 = w.alloc (.cells (cV3 ⟨x1, x2, x3⟩) 37) := ⟨_, rfl⟩
  have hn1 : New w W1 := by rw [hW1]; exact (New.refl _).alloc _
  have z1 : W1.heap[w.heap.size]? = some (.cells (cV3 ⟨x1, x2, x3⟩) 37 (0, 0)) := by rw [hW1]; exact World.alloc_heap_new _ _
  rw [← hW1]
  clear hW1
  have l1 := (Array.getElem?_eq_some_iff.1 z1).1
  have hgW : g < W1.heap.size := Nat.lt_of_lt_of_le hg hn1.size
  have HSW := Lib.hid (wx_facts hn1 z1 hg d1 d2 d3)
  have HWX := Lib.hid (fun V X G (h : New W1 V) => WX.mk' (X := X) (G := G) hn1 z1 h)
  have hh := HSW.out W1 (New.refl _)
  clear z1
  go_cut [6] (fun s6 wz => ∃ G, s6 = .pointer (some ⟨G, 0, none⟩) ∧ WX w wz ⟨x1, x2, x3⟩ R G)
  case first =>
    go_region_held3 (fun w' => ((w'.cell? ⟨w.heap.size, 0, none⟩ = some (.int .i64 x1) ∧ w'.cell? ⟨w.heap.size, 1, none⟩ = some (.int .i64 x2) ∧ w'.cell? ⟨w.heap.size, 2, none⟩ = some (.int .i64 x3)) ∧ w'.cell? ⟨g, 0 * 3, none⟩ = some (.int .i64 A) ∧ w'.cell? ⟨g, 0 * 3 + 1, none⟩ = some (.int .i64 B) ∧ w'.cell? ⟨g, 0 * 3 + 2, none⟩ = some (.int .i64 C))) (first | (with_reducible refine HSW.out _ ?_; (repeat (first | exact New.refl _ | apply New.alloc | apply New.aft | apply New.drew)); done))
      (first | (go_at_call 85; (with_reducible refine (HM.out _).mono ?_); rintro e w3 ⟨rfl, pw, rfl⟩))
    all_goals (go_wp2_with fail; go_meet)
    all_goals first
      | exact ⟨_, rfl, HWX.out _ _ _ (by (repeat (first | exact New.refl _ | apply New.alloc | apply New.aft | apply New.drew))) (heap_aftA _ _ _ _) (by omega)⟩
      | exact ⟨_, rfl, HWX.out _ _ _ (by (repeat (first | exact New.refl _ | apply New.alloc | apply New.aft | apply New.drew))) (heap_aftB _ _ _ _) (by omega)⟩
  case rest =>
    obtain ⟨G, rfl, hwx⟩ := hcut
    have HX := Lib.hid hwx
    obtain ⟨m1, m2, m3, m4⟩ := hwx
    have HSW := Lib.hid (show ∀ V, New wc V → ((V.cell? ⟨g, 0 * 3, none⟩ = some (.int .i64 A) ∧ V.cell? ⟨g, 0 * 3 + 1, none⟩ = some (.int .i64 B) ∧ V.cell? ⟨g, 0 * 3 + 2, none⟩ = some (.int .i64 C)) ∧ V.cell? ⟨g, 1 * 3, none⟩ = some (.int .i64 A') ∧ V.cell? ⟨g, 1 * 3 + 1, none⟩ = some (.int .i64 B') ∧ V.cell? ⟨g, 1 * 3 + 2, none⟩ = some (.int .i64 C')) from fun V hV => by
      have hgc : g < wc.heap.size := Nat.lt_of_lt_of_le hg m1.size
      exact ⟨⟨(hV.cell hgc).trans ((m1.cell hg).trans d1), (hV.cell hgc).trans ((m1.cell hg).trans d2), (hV.cell hgc).trans ((m1.cell hg).trans d3)⟩, (hV.cell hgc).trans ((m1.cell hg).trans e1), (hV.cell hgc).trans ((m1.cell hg).trans e2), (hV.cell hgc).trans ((m1.cell hg).trans e3)⟩)
    have hh := HSW.out wc (New.refl _)
    have hgc : g < wc.heap.size := Nat.lt_of_lt_of_le hg m1.size
    clear m1 m2 m3 m4 HWX HM d1 d2 d3 e1 e2 e3
    go_upto_region 4 with fail
    go_cut [7] (fun s7 wz => ∃ G2, s7 = .pointer (some ⟨G2, 0, none⟩) ∧ New wc wz ∧ wz.heap[G2]? = some (.cells (cV3 U) 37 (0, 0)))
    case first =>
      go_region_held3 (fun w' => ((w'.cell? ⟨g, 0 * 3, none⟩ = some (.int .i64 A) ∧ w'.cell? ⟨g, 0 * 3 + 1, none⟩ = some (.int .i64 B) ∧ w'.cell? ⟨g, 0 * 3 + 2, none⟩ = some (.int .i64 C)) ∧ w'.cell? ⟨g, 1 * 3, none⟩ = some (.int .i64 A') ∧ w'.cell? ⟨g, 1 * 3 + 1, none⟩ = some (.int .i64 B') ∧ w'.cell? ⟨g, 1 * 3 + 2, none⟩ = some (.int .i64 C'))) (first | (with_reducible refine HSW.out _ ?_; (repeat (first | exact New.refl _ | apply New.alloc | apply New.aft | apply New.drew)); done))
        (first | (go_at_call 85; (with_reducible refine (HU.out _).mono ?_); rintro e w3 ⟨rfl, pw, rfl⟩))
      all_goals (go_wp2_with fail; go_meet)
      all_goals first
        | exact ⟨_, rfl, (by (repeat (first | exact New.refl _ | apply New.alloc | apply New.aft | apply New.drew))), heap_aftA _ _ _ _⟩
        | exact ⟨_, rfl, (by (repeat (first | exact New.refl _ | apply New.alloc | apply New.aft | apply New.drew))), heap_aftB _ _ _ _⟩
    case rest =>
      obtain ⟨G2, rfl, hn2, h7⟩ := hcut
      rename World => wd
      clear hh HSW HU
      have hkx : ∀ k o, wc.heap[k]? = some o → wd.heap[k]? = some o := fun k o h => (hn2.below.block k (Array.getElem?_eq_some_iff.1 h).1).trans h
      have HB := Lib.hid (show New w wd ∧ wd.heap[G]? = some (.cells (cV3 R) 37 (0, 0)) ∧ wd.heap[G2]? = some (.cells (cV3 U) 37 (0, 0)) from ⟨HX.out.1.trans hn2, hkx _ _ HX.out.2.2.1, h7⟩)
      clear hkx hn2 h7 HX
      obtain ⟨b1, b2, b3⟩ := HB.out
      obtain ⟨y1, y2, y3⟩ := cells3 b2
      obtain ⟨u1, u2, u3⟩ := cells3 b3
      clear b1 b2 b3
      go_wp2_with fail
      go_at_call 86
      refine (HC.out _).mono ?_
      rintro e w4 ⟨rfl, hn4⟩
      have HB4 := Lib.hid (show New w (w4.alloc (.cells (cV3 Cr) 37)) ∧ (w4.alloc (.cells (cV3 Cr) 37)).heap[G]? = some (.cells (cV3 R) 37 (0, 0)) ∧ (w4.alloc (.cells (cV3 Cr) 37)).heap[G2]? = some (.cells (cV3 U) 37 (0, 0)) ∧ (w4.alloc (.cells (cV3 Cr) 37)).heap[w4.heap.size]? = some (.cells (cV3 Cr) 37 (0, 0)) from by
        have hkx : ∀ k o, wd.heap[k]? = some o → (w4.alloc (.cells (cV3 Cr) 37)).heap[k]? = some o := fun k o h => ((hn4.alloc _).below.block k (Array.getElem?_eq_some_iff.1 h).1).trans h
        exact ⟨HB.out.1.trans (hn4.alloc _), hkx _ _ HB.out.2.1, hkx _ _ HB.out.2.2, World.alloc_heap_new _ _⟩)
      clear y1 y2 y3 u1 u2 u3 hn4 HC HB
      generalize hW5 : w4.alloc (.cells (cV3 Cr) 37) = W5 at *
      obtain ⟨b1, b2, b3, b4⟩ := HB4.out
      obtain ⟨u1, u2, u3⟩ := cells3 b3
      clear b1 b2 b3 b4
      go_wp2_with fail
      go_at_call 45
      clear hW5
      generalize w4.heap.size = G8 at *
      refine (HD1.out _).mono ?_
      rintro e w6 ⟨rfl, hn6⟩
      have HB6 := Lib.hid (show New w w6 ∧ w6.heap[G]? = some (.cells (cV3 R) 37 (0, 0)) ∧ w6.heap[G2]? = some (.cells (cV3 U) 37 (0, 0)) ∧ w6.heap[G8]? = some (.cells (cV3 Cr) 37 (0, 0)) from by
        have hkx : ∀ k o, W5.heap[k]? = some o → w6.heap[k]? = some o := fun k o h => (hn6.below.block k (Array.getElem?_eq_some_iff.1 h).1).trans h
        exact ⟨HB4.out.1.trans hn6, hkx _ _ HB4.out.2.1, hkx _ _ HB4.out.2.2.1, hkx _ _ HB4.out.2.2.2⟩)
      clear u1 u2 u3 hn6 HD1 HB4
      obtain ⟨b1, b2, b3, b4⟩ := HB6.out
      obtain ⟨u1, u2, u3⟩ := cells3 b3
      obtain ⟨y1, y2, y3⟩ := cells3 b2
      obtain ⟨v1, v2, v3⟩ := cells3 b4
      have l2 := (Array.getElem?_eq_some_iff.1 b2).1
      have l3 := (Array.getElem?_eq_some_iff.1 b3).1
      have l4 := (Array.getElem?_eq_some_iff.1 b4).1
      have HSW := Lib.hid (show ∀ V, New w6 V → ((V.cell? ⟨G2, 0, none⟩ = some (.int .i64 U.x) ∧ V.cell? ⟨G2, 1, none⟩ = some (.int .i64 U.y) ∧ V.cell? ⟨G2, 2, none⟩ = some (.int .i64 U.z)) ∧ (V.cell? ⟨G, 0, none⟩ = some (.int .i64 R.x) ∧ V.cell? ⟨G, 1, none⟩ = some (.int .i64 R.y) ∧ V.cell? ⟨G, 2, none⟩ = some (.int .i64 R.z)) ∧ V.cell? ⟨G8, 0, none⟩ = some (.int .i64 Cr.x) ∧ V.cell? ⟨G8, 1, none⟩ = some (.int .i64 Cr.y) ∧ V.cell? ⟨G8, 2, none⟩ = some (.int .i64 Cr.z)) from fun V hV =>
        ⟨⟨(hV.cell l3).trans u1, (hV.cell l3).trans u2, (hV.cell l3).trans u3⟩, ⟨(hV.cell l2).trans y1, (hV.cell l2).trans y2, (hV.cell l2).trans y3⟩, (hV.cell l4).trans v1, (hV.cell l4).trans v2, (hV.cell l4).trans v3⟩)
      have hh := HSW.out w6 (New.refl _)
      have q1 : IntKind.i64.wrap (D1 - D2) = D1 - D2 := IntWalk.i64_in _ (by omega)
      have heq : ∀ V, (Op.equalIn 10000 37 (.agg #[.int .i64 Cr.x, .int .i64 Cr.y, .int .i64 Cr.z]) (.agg #[.int .i64 0, .int .i64 0, .int .i64 0])).run Try.prog V = .ok (Cr.x == 0 && Cr.y == 0 && Cr.z == 0) V := fun V => equal_arr 9998 Cr.x Cr.y Cr.z 0 0 0 V
      clear b1 b2 b3 b4 u1 u2 u3 y1 y2 y3 v1 v2 v3 hd1 hd2
      go_upto_region 8 with fail
      by_cases hpos : 0 < D1
      · have HBT := Lib.hid (show (Cr.x == 0 && Cr.y == 0 && Cr.z == 0) = (decide (0 < D1) && (decide (Cr.x = 0) && decide (Cr.y = 0) && decide (Cr.z = 0))) by rw [decide_eq_true hpos]; rfl)
        go_region_held3 (fun w' => ((w'.cell? ⟨G2, 0, none⟩ = some (.int .i64 U.x) ∧ w'.cell? ⟨G2, 1, none⟩ = some (.int .i64 U.y) ∧ w'.cell? ⟨G2, 2, none⟩ = some (.int .i64 U.z)) ∧ (w'.cell? ⟨G, 0, none⟩ = some (.int .i64 R.x) ∧ w'.cell? ⟨G, 1, none⟩ = some (.int .i64 R.y) ∧ w'.cell? ⟨G, 2, none⟩ = some (.int .i64 R.z)) ∧ w'.cell? ⟨G8, 0, none⟩ = some (.int .i64 Cr.x) ∧ w'.cell? ⟨G8, 1, none⟩ = some (.int .i64 Cr.y) ∧ w'.cell? ⟨G8, 2, none⟩ = some (.int .i64 Cr.z))) (first | (with_reducible refine HSW.out _ ?_; (repeat (first | exact New.refl _ | apply New.alloc | apply New.aft | apply New.drew)); done))
          (first | (go_at_call 45; (with_reducible refine (HD2.out _).mono ?_); rintro e w3 ⟨rfl, pw, rfl⟩))
        all_goals (go_wp2_with fail)
        all_goals refine bodyPost_ret (wt_results _ _ _ _ rfl rfl) rfl ⟨_, wt_ret HBT.out, HB6.out.1.trans (((New.refl w6).drew.aft _ _).alloc _), own_ints (l := [D1 - D2, D2]) (heap_aftA2 _ _ _ _ _) (by show 2 ≤ maxLen; decide) (by have := HB6.out.1.size; omega)⟩
      · have HBF := Lib.hid (show false = (decide (0 < D1) && (decide (Cr.x = 0) && decide (Cr.y = 0) && decide (Cr.z = 0))) by rw [decide_eq_false hpos]; rfl)
        have hdf : decide (0 < D1) = false := decide_eq_false hpos
        refine wp_region_noPanic ?_
        refine wp_region_held_drew (S := (fun w' => ((w'.cell? ⟨G2, 0, none⟩ = some (.int .i64 U.x) ∧ w'.cell? ⟨G2, 1, none⟩ = some (.int .i64 U.y) ∧ w'.cell? ⟨G2, 2, none⟩ = some (.int .i64 U.z)) ∧ (w'.cell? ⟨G, 0, none⟩ = some (.int .i64 R.x) ∧ w'.cell? ⟨G, 1, none⟩ = some (.int .i64 R.y) ∧ w'.cell? ⟨G, 2, none⟩ = some (.int .i64 R.z)) ∧ w'.cell? ⟨G8, 0, none⟩ = some (.int .i64 Cr.x) ∧ w'.cell? ⟨G8, 1, none⟩ = some (.int .i64 Cr.y) ∧ w'.cell? ⟨G8, 2, none⟩ = some (.int .i64 Cr.z)))) (by kernel_rfl) (by (with_reducible refine HSW.out _ ?_; (repeat (first | exact New.refl _ | apply New.alloc | apply New.aft | apply New.drew)); done)) (fun hHeld => ?_)
        refine wpAnyH_take (i := 0) (v := ?_) rfl (by kernel_rfl) (by kernel_rfl) (by kernel_rfl) (fun _ _ _ h => h) (Or.inl ⟨by rfl, (by intro w hSw; (try dsimp only at hSw); go_simp; try with_reducible rfl)⟩) (by assumption) ?_
        (try simp only [Act.put, List.setIfInBounds_toArray, List.set_cons_zero, List.set_cons_succ])
        refine wpAnyH_take (i := 1) (v := ?_) rfl (by kernel_rfl) (by kernel_rfl) (by kernel_rfl) (fun _ _ _ h => h) (Or.inl ⟨by rfl, (by intro w hSw; (try dsimp only at hSw); go_simp; try with_reducible rfl)⟩) (by assumption) ?_
        (try simp only [Act.put, List.setIfInBounds_toArray, List.set_cons_zero, List.set_cons_succ])
        refine wpAnyH_take (i := 2) (v := ?_) rfl (by kernel_rfl) (by kernel_rfl) (by kernel_rfl) (fun _ _ _ h => h) (Or.inl ⟨by rfl, (by intro w hSw; (try dsimp only at hSw); go_simp; try with_reducible rfl)⟩) (by assumption) ?_
        (try simp only [Act.put, List.setIfInBounds_toArray, List.set_cons_zero, List.set_cons_succ])
        refine wpAnyH_take (i := 5) (v := ?_) rfl (by kernel_rfl) (by kernel_rfl) (by kernel_rfl) (fun _ _ _ h => h) (Or.inl ⟨by rfl, (by intro w hSw; (try dsimp only at hSw); go_simp; try with_reducible rfl)⟩) (by assumption) ?_
        (try simp only [Act.put, List.setIfInBounds_toArray, List.set_cons_zero, List.set_cons_succ])
        refine wpAnyH_take (i := 6) (v := ?_) rfl (by kernel_rfl) (by kernel_rfl) (by kernel_rfl) (fun _ _ _ h => h) (Or.inl ⟨by rfl, (by intro w hSw; (try dsimp only at hSw); go_simp; try with_reducible rfl)⟩) (by assumption) ?_
        (try simp only [Act.put, List.setIfInBounds_toArray, List.set_cons_zero, List.set_cons_succ])
        refine wpAnyH_take (i := 9) (v := ?_) rfl (by kernel_rfl) (by kernel_rfl) (by kernel_rfl) (fun _ _ _ h => h) (Or.inl ⟨by rfl, (by intro w hSw; (try dsimp only at hSw); go_simp; try with_reducible rfl)⟩) (by assumption) ?_
        (try simp only [Act.put, List.setIfInBounds_toArray, List.set_cons_zero, List.set_cons_succ])
        refine wpAnyH_take (i := 10) (v := ?_) rfl (by kernel_rfl) (by kernel_rfl) (by kernel_rfl) (fun _ _ _ h => h) (Or.inl ⟨by rfl, (by intro w hSw; (try dsimp only at hSw); go_simp; try with_reducible rfl)⟩) (by assumption) ?_
        (try simp only [Act.put, List.setIfInBounds_toArray, List.set_cons_zero, List.set_cons_succ])
        refine wpAnyH_ready (rs := [3]) (by kernel_rfl) (by simp) ?_
        refine AllReadyH.cons rfl (fun K hK => ?_) AllReadyH.nil
        go_simp
        (go_at_call 45; (with_reducible refine (HD2.out _).mono ?_); rintro e w3 ⟨rfl, pw, rfl⟩)
        refine hK.out _ _ ?_ (fun hHeld => ?_)
        · (with_reducible refine HSW.out _ ?_; (repeat (first | exact New.refl _ | apply New.alloc | apply New.aft | apply New.drew)); done)
        clear hK K
        (try simp only [Act.put, List.setIfInBounds_toArray, List.set_cons_zero, List.set_cons_succ])
        refine wpAnyH_take (i := 4) (v := ?_) rfl (by kernel_rfl) (by kernel_rfl) (by kernel_rfl) (fun _ _ _ h => h) (Or.inl ⟨by rfl, (by intro w hSw; (try dsimp only at hSw); go_simp; try with_reducible rfl)⟩) (by assumption) ?_
        (try simp only [Act.put, List.setIfInBounds_toArray, List.set_cons_zero, List.set_cons_succ])
        refine wpAnyH_ready (rs := [7]) (by kernel_rfl) (by simp) ?_
        refine AllReadyH.cons rfl (fun K hK => ?_) AllReadyH.nil
        go_simp
        (go_at_call 45; (with_reducible refine (HD2.out _).mono ?_); rintro e w3 ⟨rfl, pw, rfl⟩)
        refine hK.out _ _ ?_ (fun hHeld => ?_)
        · (with_reducible refine HSW.out _ ?_; (repeat (first | exact New.refl _ | apply New.alloc | apply New.aft | apply New.drew)); done)
        clear hK K
        (try simp only [Act.put, List.setIfInBounds_toArray, List.set_cons_zero, List.set_cons_succ])
        refine wpAnyH_take (i := 11) (v := ?_) rfl (by kernel_rfl) (by kernel_rfl) (by kernel_rfl) (fun _ _ _ h => h) (Or.inl ⟨by rfl, (by intro w hSw; (try dsimp only at hSw); go_simp; try with_reducible rfl)⟩) (by assumption) ?_
        (try simp only [Act.put, List.setIfInBounds_toArray, List.set_cons_zero, List.set_cons_succ])
        refine wpAnyH_take (i := 12) (v := undef) rfl (by kernel_rfl) (by kernel_rfl) (by kernel_rfl) (fun _ _ _ h => h) (Or.inr ⟨by rfl, rfl⟩) (by assumption) ?_
        (try simp only [Act.put, List.setIfInBounds_toArray, List.set_cons_zero, List.set_cons_succ])
        refine wpAnyH_take (i := 13) (v := undef) rfl (by kernel_rfl) (by kernel_rfl) (by kernel_rfl) (fun _ _ _ h => h) (Or.inr ⟨by rfl, rfl⟩) (by assumption) ?_
        (try simp only [Act.put, List.setIfInBounds_toArray, List.set_cons_zero, List.set_cons_succ])
        refine wpAnyH_take (i := 14) (v := undef) rfl (by kernel_rfl) (by kernel_rfl) (by kernel_rfl) (fun _ _ _ h => h) (Or.inr ⟨by rfl, rfl⟩) (by assumption) ?_
        (try simp only [Act.put, List.setIfInBounds_toArray, List.set_cons_zero, List.set_cons_succ])
        refine wpAnyH_take (i := 15) (v := ?_) rfl (by kernel_rfl) (by kernel_rfl) (by kernel_rfl) (fun _ _ _ h => h) (Or.inl ⟨by rfl, (by intro w hSw; (try dsimp only at hSw); go_simp; try with_reducible rfl)⟩) (by assumption) ?_
        (try simp only [Act.put, List.setIfInBounds_toArray, List.set_cons_zero, List.set_cons_succ])
        refine wpAnyH_ready (rs := [8]) (by kernel_rfl) (by simp) ?_
        refine AllReadyH.cons rfl (fun K hK => ?_) AllReadyH.nil
        go_simp
        refine hK.out _ _ ?_ (fun hHeld => ?_)
        · (with_reducible refine HSW.out _ ?_; (repeat (first | exact New.refl _ | apply New.alloc | apply New.aft | apply New.drew)); done)
        clear hK K
        (try simp only [Act.put, List.setIfInBounds_toArray, List.set_cons_zero, List.set_cons_succ])
        refine wpAnyH_ready (rs := [16]) (by kernel_rfl) (by simp) ?_
        refine AllReadyH.cons rfl (fun K hK => ?_) AllReadyH.nil
        go_simp
        refine hK.out _ _ ?_ (fun hHeld => ?_)
        · (with_reducible refine HSW.out _ ?_; (repeat (first | exact New.refl _ | apply New.alloc | apply New.aft | apply New.drew)); done)
        clear hK K
        (try simp only [Act.put, List.setIfInBounds_toArray, List.set_cons_zero, List.set_cons_succ])
        refine wpAnyH_ready (rs := [17]) (by kernel_rfl) (by simp) ?_
        refine AllReadyH.cons rfl (fun K hK => ?_) AllReadyH.nil
        go_simp
        refine hK.out _ _ ?_ (fun hHeld => ?_)
        · (with_reducible refine HSW.out _ ?_; (repeat (first | exact New.refl _ | apply New.alloc | apply New.aft | apply New.drew)); done)
        clear hK K
        (try simp only [Act.put, List.setIfInBounds_toArray, List.set_cons_zero, List.set_cons_succ])
        refine wpAnyH_done (by kernel_rfl) ?_ _
        refine NoPanic.normal ?_
        go_wp2_with fail
        refine bodyPost_ret (wt_results _ _ _ _ rfl rfl) rfl ⟨_, rfl, HB6.out.1.trans (((New.refl w6).drew.aft _ _).alloc _), own_ints (l := [D1 - D2, D2]) (heap_aftA2 _ _ _ _ _) (by show 2 ≤ maxLen; decide) (by have := HB6.out.1.size; omega)⟩

end Go.Proofs.Ytpjekinmcdglbaa
