/- The vector that is upright on three tints toward a shade. At most 1000 tints with shades from 0 to 1000. -/
import Derived.Test.YtpjekinmcdglbaaNd
set_option linter.unusedSimpArgs false
set_option linter.unusedVariables false
set_option maxRecDepth 100000
namespace Go.Proofs.Ytpjekinmcdglbaa
open Go.RowKit Go.Shelf

def smul (s : Int) (n : V3) : V3 := ⟨s * n.x, s * n.y, s * n.z⟩
theorem dotV_c (u v : V3) (w : World) (hu : bdV 100000000 u) (hv : bdV 100000000 v) : Calls Try.prog 67 #[v3 u, v3 v] w fun en w' => en = .returned (.int .i64 (u.dot v)) ∧ New w w' := by
  obtain ⟨a, b, c⟩ := u
  obtain ⟨d, e, f⟩ := v
  have h1 := mulB hu.1 hv.1
  have h2 := mulB hu.2.1 hv.2.1
  have h3 := mulB hu.2.2 hv.2.2
  simp only at h1 h2 h3
  exact dot_c a b c d e f w (by omega) (by omega) (by omega) (by omega) (by omega)
theorem timesS_c (u : V3) (s : Int) (w : World) (hu : bdV 1000000000 u) (hs : s = 1 ∨ s = -1) : Calls Try.prog 55 #[v3 u, .int .i64 s] w fun en w' => en = .returned (v3 (smul s u)) ∧ New w w' := by
  obtain ⟨a, b, c⟩ := u
  obtain ⟨h1, h2, h3⟩ := hu
  simp only at h1 h2 h3
  rcases hs with rfl | rfl
  · exact times_c a b c 1 w (by omega) (by omega) (by omega)
  · exact times_c a b c (-1) w (by omega) (by omega) (by omega)

theorem heap_aftA2 (W : World) (d : Nat) (os os' : Array Obj) (o : Obj) : ((Aft W.drew d (os ++ os')).alloc o).heap[W.heap.size + (os.size + os'.size)]? = some o := by
  have := World.alloc_heap_new (Aft W.drew d (os ++ os')) o
  rw [size_aft, Array.size_append] at this
  exact this
theorem heap_aftC (W : World) (d d' : Nat) (os os' : Array Obj) (o : Obj) : (Aft ((Aft W.drew d os).alloc o) d' os').heap[W.heap.size + os.size]? = some o := by
  rw [heap_aft_old _ _ _ (by rw [World.size_alloc, size_aft]; show W.heap.size + os.size < W.heap.size + os.size + 1; omega)]
  exact heap_aftA W d os o
set_option maxHeartbeats 16000000 in
theorem upright3_c (b off n cp : Nat) (T : List T5) (g cap p q r : Nat) (x : V3) (w : World) (hT : Tnts w b off n T) (hS : shOk T) (hn : n ≤ 1000) (hp : p < n) (hq : q < n) (hr : r < n) (hx : bdV 1000 x)
    (h0 : w.cell? ⟨g, 0, none⟩ = some (.int .i64 (p : Int))) (h1 : w.cell? ⟨g, 1, none⟩ = some (.int .i64 (q : Int))) (h2 : w.cell? ⟨g, 2, none⟩ = some (.int .i64 (r : Int))) (hg : g < w.heap.size) :
    Calls Try.prog 43 #[.slice (some ⟨b, off, none⟩) n cp, .slice (some ⟨g, 0, none⟩) 3 cap, v3 x] w fun e w' => e = .returned (v3 (upr T x [p, q, r])) ∧ New w w' := by
  have HT := Lib.hid hT
  obtain ⟨⟨_, d1, d2⟩, d3, _⟩ := hT.2.2 p hp
  have hbl := hT.2.1
  have hu := (sh_bd hS q).sub (sh_bd hS p)
  have hy := hx.sub (sh_bd hS p)
  have hv := (sh_bd hS r).sub (sh_bd hS p)
  have hN := hu.cross hv
  have hN' : nrm T p q r = ((sh3 T q).sub (sh3 T p)).cross ((sh3 T r).sub (sh3 T p)) := rfl
  rw [← hN'] at hN
  have hs := hN.dot hy
  have HM := Lib.hid (fun w1 : World => minus_c x (sh3 T p) w1 (hx.mono (by omega)) ((sh_bd hS p).mono (by omega)))
  have HU := Lib.hid (fun w1 : World => minus_c (sh3 T q) (sh3 T p) w1 ((sh_bd hS q).mono (by omega)) ((sh_bd hS p).mono (by omega)))
  have HV := Lib.hid (fun w1 : World => minus_c (sh3 T r) (sh3 T p) w1 ((sh_bd hS r).mono (by omega)) ((sh_bd hS p).mono (by omega)))
  have HX := Lib.hid (fun w1 : World => cross_c _ _ w1 (hu.mono (by omega)) (hv.mono (by omega)))
  rw [← hN'] at HX
  have HDT := Lib.hid (fun w1 : World => dotV_c (nrm T p q r) (x.sub (sh3 T p)) w1 (hN.mono (by omega)) (hy.mono (by omega)))
  have HSG := Lib.hid (fun w1 : World => sign_c ((nrm T p q r).dot (x.sub (sh3 T p))) w1)
  rw [show (if (nrm T p q r).dot (x.sub (sh3 T p)) < 0 then (-1 : Int) else 1) = sg1 ((nrm T p q r).dot (x.sub (sh3 T p))) from rfl] at HSG
  have HTM := Lib.hid (fun w1 : World => timesS_c (nrm T p q r) (sg1 ((nrm T p q r).dot (x.sub (sh3 T p)))) w1 (hN.mono (by omega)) (sg1_or _))
  have HR := Lib.hid (show upr T x [p, q, r] = smul (sg1 ((nrm T p q r).dot (x.sub (sh3 T p)))) (nrm T p q r) from rfl)
  rw [HR.out]
  clear HR hu hy hv hN hN' hs hT
  generalize smul (sg1 ((nrm T p q r).dot (x.sub (sh3 T p)))) (nrm T p q r) = R at *
  generalize sg1 ((nrm T p q r).dot (x.sub (sh3 T p))) = sg at *
  generalize (nrm T p q r).dot (x.sub (sh3 T p)) = dt at *
  generalize nrm T p q r = N at *
  generalize (sh3 T q).sub (sh3 T p) = U at *
  generalize (sh3 T r).sub (sh3 T p) = V at *
  generalize x.sub (sh3 T p) = Y at *
  have HG1 := Lib.hid h1
  have hpp : sh3 T p = ⟨tA T p, tB T p, tC T p⟩ := rfl
  have HG2 := Lib.hid h2
  rw [hpp] at HM HU HV
  unfold sh3 at HU HV
  clear hpp h1 h2
  clear hS hx
  obtain ⟨x1, x2, x3⟩ := x
  obtain ⟨A, hA⟩ : ∃ A, A = tA T p := ⟨_, rfl⟩
  obtain ⟨B, hB⟩ : ∃ B, B = tB T p := ⟨_, rfl⟩
  obtain ⟨C, hC⟩ : ∃ C, C = tC T p := ⟨_, rfl⟩
  rw [← hA] at d1 HM HU HV
  rw [← hB] at d2 HM HU HV
  rw [← hC] at d3 HM HU HV
  clear hA hB hC
  go_enter Try.func43, Try.ntmps43
  go_wp2_with fail
  go_at_call 68
  obtain ⟨W1, hW1⟩ : ∃ W1, W1 = ((w.alloc (.cells (cV3 ⟨x1, x2, x3⟩) 66)).alloc (.cells (cV3 ⟨0, 0, 0⟩) 66)).alloc (.cells (cV3 ⟨A, B, C⟩) 66) := ⟨_, rfl⟩
  rw [← hW1]
  have hz := alloc3_heap w (.cells (cV3 ⟨x1, x2, x3⟩) 66) (.cells (cV3 ⟨0, 0, 0⟩) 66) (.cells (cV3 ⟨A, B, C⟩) 66)
  rw [← hW1] at hz
  have hn1 : New w W1 := by rw [hW1]; exact (((New.refl _).alloc _).alloc _).alloc _
  clear hW1
  refine (HM.out _).mono ?_
  rintro e w1 ⟨rfl, hnw1⟩
  have HZ := Lib.hid (show UpW w (w1.alloc (.cells (cV3 Y) 66)) ⟨x1, x2, x3⟩ ⟨A, B, C⟩ Y w1.heap.size from by
    have hk : ∀ k o, W1.heap[k]? = some o → (w1.alloc (.cells (cV3 Y) 66)).heap[k]? = some o := fun k o h => ((hnw1.alloc _).below.block k (Array.getElem?_eq_some_iff.1 h).1).trans h
    have hl := (Array.getElem?_eq_some_iff.1 hz.2.2).1
    have := hnw1.size
    exact ⟨hn1.trans (hnw1.alloc _), hk _ _ hz.1, hk _ _ hz.2.1, hk _ _ hz.2.2, World.alloc_heap_new _ _, by omega⟩)
  clear HM hz hn1 hnw1 d1 d2 d3 h0
  go_upto_region 5 with fail
  obtain ⟨W2, hW2⟩ : ∃ W2, W2 = w1.alloc (.cells (cV3 Y) 66) := ⟨_, rfl⟩
  rw [← hW2] at HZ ⊢
  generalize w1.heap.size = G at *
  clear hW2
  obtain ⟨z1, z2, z3, z4, z5, z6⟩ := HZ.out
  have hl4 := (Array.getElem?_eq_some_iff.1 z4).1
  obtain ⟨c1, c2, c3⟩ := cells3 z4
  have hG1 : W2.cell? ⟨g, 1, none⟩ = some (.int .i64 (q : Int)) := (z1.cell hg).trans HG1.out
  have hgW : g < W2.heap.size := Nat.lt_of_lt_of_le hg z1.size
  obtain ⟨⟨_, d1, d2⟩, d3, _⟩ := (HT.out.new z1).2.2 q hq
  have hbW := (HT.out.new z1).2.1
  have HZN := Lib.hid (fun V (h : New W2 V) => HZ.out.new h)
  clear z1 z2 z3 z4 z5 z6 HZ
  generalize tA T q = A' at *
  generalize tB T q = B' at *
  generalize tC T q = C' at *
  go_cut [9] (fun s9 wz => ∃ G2, s9 = .pointer (some ⟨G2, 0, none⟩) ∧ UpW w wz ⟨x1, x2, x3⟩ ⟨A, B, C⟩ Y G ∧ wz.heap[G2]? = some (.cells (cV3 U) 66 (0, 0)) ∧ w.heap.size + 2 < G2)
  case first =>
    go_region_law (go_simp; go_at_call 68; refine (HU.out _).mono ?_; rintro e w2 ⟨rfl, pw, rfl⟩)

    all_goals (go_wp2_with fail; go_meet)
    all_goals first
      | exact ⟨_, rfl, HZN.out _ (by (repeat (first | exact New.refl _ | apply New.alloc | apply New.aft | apply New.drew))), heap_aftA _ _ _ _, by omega⟩
      | exact ⟨_, rfl, HZN.out _ (by (repeat (first | exact New.refl _ | apply New.alloc | apply New.aft | apply New.drew))), heap_aftB _ _ _ _, by omega⟩
  case rest =>
    obtain ⟨G2, rfl, hup, h9, hlt⟩ := hcut
    have HUP := Lib.hid hup
    obtain ⟨z1, z2, z3, z4, z5, z6⟩ := hup
    obtain ⟨u1, u2, u3⟩ := cells3 h9
    obtain ⟨c1, c2, c3⟩ := cells3 z4
    have hgc : wc.cell? ⟨g, 2, none⟩ = some (.int .i64 (r : Int)) := (z1.cell hg).trans HG2.out
    obtain ⟨⟨_, d1, d2⟩, d3, _⟩ := (HT.out.new z1).2.2 r hr
    have hbW := (HT.out.new z1).2.1
    have l9 := (Array.getElem?_eq_some_iff.1 h9).1
    have l4 := (Array.getElem?_eq_some_iff.1 z4).1
    have hgW : g < wc.heap.size := Nat.lt_of_lt_of_le hg z1.size
    clear z1 z2 z3 z4 z5 h9 HU
    generalize tA T r = A2 at *
    generalize tB T r = B2 at *
    generalize tC T r = C2 at *
    have HSW := Lib.hid (show ∀ X, New wc X → ((X.cell? ⟨G2, 0, none⟩ = some (.int .i64 U.x) ∧ X.cell? ⟨G2, 1, none⟩ = some (.int .i64 U.y) ∧ X.cell? ⟨G2, 2, none⟩ = some (.int .i64 U.z)) ∧ (X.cell? ⟨w.heap.size + 2, 0, none⟩ = some (.int .i64 A) ∧ X.cell? ⟨w.heap.size + 2, 1, none⟩ = some (.int .i64 B) ∧ X.cell? ⟨w.heap.size + 2, 2, none⟩ = some (.int .i64 C)) ∧ X.cell? ⟨g, 2, none⟩ = some (.int .i64 (r : Int)) ∧ X.cell? ⟨b, off + r * 5 + 1, none⟩ = some (.int .i64 A2) ∧ X.cell? ⟨b, off + r * 5 + 2, none⟩ = some (.int .i64 B2) ∧ X.cell? ⟨b, off + r * 5 + 3, none⟩ = some (.int .i64 C2)) from fun X hV =>
      ⟨⟨(hV.cell l9).trans u1, (hV.cell l9).trans u2, (hV.cell l9).trans u3⟩, ⟨(hV.cell l4).trans c1, (hV.cell l4).trans c2, (hV.cell l4).trans c3⟩, (hV.cell hgW).trans hgc, (hV.cell hbW).trans d1, (hV.cell hbW).trans d2, (hV.cell hbW).trans d3⟩)
    go_upto_region 8 with fail
    go_cut [10] (fun s10 wz => ∃ G3, s10 = .pointer (some ⟨G3, 0, none⟩) ∧ UpW w wz ⟨x1, x2, x3⟩ ⟨A, B, C⟩ Y G ∧ wz.heap[G3]? = some (.cells (cV3 N) 66 (0, 0)) ∧ w.heap.size + 2 < G3)
    case first =>
      go_region_held3 (fun w' => ((w'.cell? ⟨G2, 0, none⟩ = some (.int .i64 U.x) ∧ w'.cell? ⟨G2, 1, none⟩ = some (.int .i64 U.y) ∧ w'.cell? ⟨G2, 2, none⟩ = some (.int .i64 U.z)) ∧ (w'.cell? ⟨w.heap.size + 2, 0, none⟩ = some (.int .i64 A) ∧ w'.cell? ⟨w.heap.size + 2, 1, none⟩ = some (.int .i64 B) ∧ w'.cell? ⟨w.heap.size + 2, 2, none⟩ = some (.int .i64 C)) ∧ w'.cell? ⟨g, 2, none⟩ = some (.int .i64 (r : Int)) ∧ w'.cell? ⟨b, off + r * 5 + 1, none⟩ = some (.int .i64 A2) ∧ w'.cell? ⟨b, off + r * 5 + 2, none⟩ = some (.int .i64 B2) ∧ w'.cell? ⟨b, off + r * 5 + 3, none⟩ = some (.int .i64 C2))) (first | (with_reducible refine HSW.out _ ?_; (repeat (first | exact New.refl _ | apply New.alloc | apply New.aft | apply New.drew)); done))
        (first | (go_at_call 68; (with_reducible refine (HV.out _).mono ?_); rintro e w3 ⟨rfl, pw, rfl⟩) | (go_at_call 69; (with_reducible refine (HX.out _).mono ?_); rintro e w3 ⟨rfl, pw, rfl⟩))
      all_goals (go_wp2_with fail; go_meet)
      all_goals first
        | exact ⟨_, rfl, HUP.out.new (by (repeat (first | exact New.refl _ | apply New.alloc | apply New.aft | apply New.drew))), heap_aftA2 _ _ _ _ _, by omega⟩
        | exact ⟨_, rfl, HUP.out.new (by (repeat (first | exact New.refl _ | apply New.alloc | apply New.aft | apply New.drew))), heap_aftC _ _ _ _ _ _, by omega⟩
        | exact ⟨_, rfl, HUP.out.new (by (repeat (first | exact New.refl _ | apply New.alloc | apply New.aft | apply New.drew))), heap_aftB _ _ _ _, by omega⟩
    case rest =>
      obtain ⟨G3, rfl, hup, h9, hlt3⟩ := hcut
      rename World => wd
      obtain ⟨z1, z2, z3, z4, z5, z6⟩ := hup
      have HN := Lib.hid z1
      have HZ3 := Lib.hid z3
      obtain ⟨y1, y2, y3⟩ := cells3 z5
      obtain ⟨u1, u2, u3⟩ := cells3 h9
      obtain ⟨r1, r2, r3⟩ := cells3 z3
      have hf := froz3 z3
      have hf0 := hf 0
      have hf1 := hf 1
      have hf2 := hf 2
      have l5 := (Array.getElem?_eq_some_iff.1 z5).1
      have l9 := (Array.getElem?_eq_some_iff.1 h9).1
      have l3 := (Array.getElem?_eq_some_iff.1 z3).1
      clear z1 z2 z3 z4 z5 hf h9 HSW HUP c1 c2 c3 hgc hgW d1 d2 d3 hbW l4 HV HX
      have HSW := Lib.hid (show ∀ X, New wd X → ((X.cell? ⟨G, 0, none⟩ = some (.int .i64 Y.x) ∧ X.cell? ⟨G, 1, none⟩ = some (.int .i64 Y.y) ∧ X.cell? ⟨G, 2, none⟩ = some (.int .i64 Y.z)) ∧ X.cell? ⟨G3, 0, none⟩ = some (.int .i64 N.x) ∧ X.cell? ⟨G3, 1, none⟩ = some (.int .i64 N.y) ∧ X.cell? ⟨G3, 2, none⟩ = some (.int .i64 N.z)) from fun X hV =>
        ⟨⟨(hV.cell l5).trans y1, (hV.cell l5).trans y2, (hV.cell l5).trans y3⟩, (hV.cell l9).trans u1, (hV.cell l9).trans u2, (hV.cell l9).trans u3⟩)
      have hsc : ∀ (X : World) (k o : Nat) (x y z : Value), k ≠ w.heap.size + 1 → (((X.setCell ⟨w.heap.size + 1, 0, none⟩ x).setCell ⟨w.heap.size + 1, 1, none⟩ y).setCell ⟨w.heap.size + 1, 2, none⟩ z).cell? ⟨k, o, none⟩ = X.cell? ⟨k, o, none⟩ := fun X k o x y z hk => by
        simp only [World.cell?]; rw [heap_setCell_other _ _ _ _ _ hk, heap_setCell_other _ _ _ _ _ hk, heap_setCell_other _ _ _ _ _ hk]
      have HSS := Lib.hid (show ∀ X x y z, New wd X → (((((X.setCell ⟨w.heap.size + 1, 0, none⟩ x).setCell ⟨w.heap.size + 1, 1, none⟩ y).setCell ⟨w.heap.size + 1, 2, none⟩ z).cell? ⟨G, 0, none⟩ = some (.int .i64 Y.x) ∧ (((X.setCell ⟨w.heap.size + 1, 0, none⟩ x).setCell ⟨w.heap.size + 1, 1, none⟩ y).setCell ⟨w.heap.size + 1, 2, none⟩ z).cell? ⟨G, 1, none⟩ = some (.int .i64 Y.y) ∧ (((X.setCell ⟨w.heap.size + 1, 0, none⟩ x).setCell ⟨w.heap.size + 1, 1, none⟩ y).setCell ⟨w.heap.size + 1, 2, none⟩ z).cell? ⟨G, 2, none⟩ = some (.int .i64 Y.z)) ∧ (((X.setCell ⟨w.heap.size + 1, 0, none⟩ x).setCell ⟨w.heap.size + 1, 1, none⟩ y).setCell ⟨w.heap.size + 1, 2, none⟩ z).cell? ⟨G3, 0, none⟩ = some (.int .i64 N.x) ∧ (((X.setCell ⟨w.heap.size + 1, 0, none⟩ x).setCell ⟨w.heap.size + 1, 1, none⟩ y).setCell ⟨w.heap.size + 1, 2, none⟩ z).cell? ⟨G3, 1, none⟩ = some (.int .i64 N.y) ∧ (((X.setCell ⟨w.heap.size + 1, 0, none⟩ x).setCell ⟨w.heap.size + 1, 1, none⟩ y).setCell ⟨w.heap.size + 1, 2, none⟩ z).cell? ⟨G3, 2, none⟩ = some (.int .i64 N.z)) from fun X x y z hV => by
        rw [hsc X G 0 x y z (by omega), hsc X G 1 x y z (by omega), hsc X G 2 x y z (by omega), hsc X G3 0 x y z (by omega), hsc X G3 1 x y z (by omega), hsc X G3 2 x y z (by omega)]; exact HSW.out X hV)
      clear hsc
      go_upto_region 9 with fail
      have g1 : ∀ d os, (Aft wd.drew d os).cell? ⟨w.heap.size + 1, 0, none⟩ = some (.int .i64 0) := fun d os => (aft_cell wd.drew d os _ 0 l3).trans r1
      have k1 : ∀ d os, (Aft wd.drew d os).frozen? ⟨w.heap.size + 1, 0, none⟩ = false := fun d os => (aft_frozen wd.drew d os _ 0 l3).trans hf0
      have g2 : ∀ d os, (Aft wd.drew d os).cell? ⟨w.heap.size + 1, 1, none⟩ = some (.int .i64 0) := fun d os => (aft_cell wd.drew d os _ 1 l3).trans r2
      have k2 : ∀ d os, (Aft wd.drew d os).frozen? ⟨w.heap.size + 1, 1, none⟩ = false := fun d os => (aft_frozen wd.drew d os _ 1 l3).trans hf1
      have g3 : ∀ d os, (Aft wd.drew d os).cell? ⟨w.heap.size + 1, 2, none⟩ = some (.int .i64 0) := fun d os => (aft_cell wd.drew d os _ 2 l3).trans r3
      have k3 : ∀ d os, (Aft wd.drew d os).frozen? ⟨w.heap.size + 1, 2, none⟩ = false := fun d os => (aft_frozen wd.drew d os _ 2 l3).trans hf2
      clear r1 r2 r3 hf0 hf1 hf2
      go_region_held3 (fun w' => ((w'.cell? ⟨G, 0, none⟩ = some (.int .i64 Y.x) ∧ w'.cell? ⟨G, 1, none⟩ = some (.int .i64 Y.y) ∧ w'.cell? ⟨G, 2, none⟩ = some (.int .i64 Y.z)) ∧ w'.cell? ⟨G3, 0, none⟩ = some (.int .i64 N.x) ∧ w'.cell? ⟨G3, 1, none⟩ = some (.int .i64 N.y) ∧ w'.cell? ⟨G3, 2, none⟩ = some (.int .i64 N.z))) (first | (with_reducible refine HSS.out _ _ _ _ ?_; (repeat (first | exact New.refl _ | apply New.alloc | apply New.aft | apply New.drew)); done) | (with_reducible refine HSW.out _ ?_; (repeat (first | exact New.refl _ | apply New.alloc | apply New.aft | apply New.drew)); done))
        (first | (go_at_call 67; (with_reducible refine (HDT.out _).mono ?_); rintro e w3 ⟨rfl, pw, rfl⟩) | (go_at_call 70; (with_reducible refine (HSG.out _).mono ?_); rintro e w3 ⟨rfl, pw, rfl⟩) | (go_at_call 55; (with_reducible refine (HTM.out _).mono ?_); rintro e w3 ⟨rfl, pw, rfl⟩))
      all_goals (go_wp2_with fail)
      all_goals (refine bodyPost_ret (v := v3 R) (up_results _ _ (w.heap.size + 1) R _ rfl (heap_put3 ((heap_aft_old wd.drew _ _ l3).trans HZ3.out))) rfl ⟨rfl, ((((HN.out.trans ((New.refl wd).drew)).aft _ _).setCell (Nat.le_succ w.heap.size) _).setCell (Nat.le_succ w.heap.size) _).setCell (Nat.le_succ w.heap.size) _⟩)

end Go.Proofs.Ytpjekinmcdglbaa
