/- The plane in a direction that touches the tints: planeOf. From 1 to 1000 tints with shades from 0 to 1000, a direction with entries within 100000000000 either way. -/
import Derived.Test.YtpjekinmcdglbaaNe
import Derived.Test.YtpjekinmcdglbaaEb
set_option linter.unusedSimpArgs false
set_option linter.unusedVariables false
set_option maxRecDepth 100000
namespace Go.Proofs.Ytpjekinmcdglbaa
open Go.RowKit Go.Shelf

/-- the greatest value of the first k tints, and of the first -/
def mxTo (T : List T5) (N : V3) : Nat → Int
  | 0 => N.dot (sh3 T 0)
  | k + 1 => max (mxTo T N k) (N.dot (sh3 T k))
theorem mx_bd {T : List T5} {N : V3} (hS : shOk T) (hN : bdV 100000000000 N) : ∀ k, -300000000000000 ≤ mxTo T N k ∧ mxTo T N k ≤ 300000000000000
  | 0 => by have := hN.dot (sh_bd hS 0); simp only [mxTo]; omega
  | k + 1 => by have := hN.dot (sh_bd hS k); have := mx_bd hS hN k; simp only [mxTo]; omega
theorem dotW_c {T : List T5} (hS : shOk T) (N : V3) (p : Nat) (w : World) (hN : bdV 100000000000 N) : Calls Try.prog 67 #[v3 N, vv (tA T p) (tB T p) (tC T p)] w fun en w' => en = .returned (.int .i64 (N.dot (sh3 T p))) ∧ New w w' := by
  obtain ⟨a, b, c⟩ := N
  have k := sh_bd hS p
  have h1 := mulB hN.1 k.1
  have h2 := mulB hN.2.1 k.2.1
  have h3 := mulB hN.2.2 k.2.2
  simp only [sh3] at h1 h2 h3
  exact dot_c a b c (tA T p) (tB T p) (tC T p) w (by omega) (by omega) (by omega) (by omega) (by omega)
/-- the world in planeOf: the direction, the result, the plane -/
def PoW (w W : World) (N : V3) (G : Nat) (C : Int) : Prop :=
  New w W ∧ W.heap[w.heap.size]? = some (.cells (cV3 N) 66 (0, 0)) ∧ W.heap[w.heap.size + 1]? = some (.cells #[.int .i64 0, .int .i64 0, .int .i64 0, .int .i64 0] 41 (0, 0)) ∧ W.heap[G]? = some (.cells #[.int .i64 N.x, .int .i64 N.y, .int .i64 N.z, .int .i64 C] 41 (0, 0)) ∧ w.heap.size + 1 < G
theorem PoW.new {w W V : World} {N : V3} {G : Nat} {C : Int} (h : PoW w W N G C) (hn : New W V) : PoW w V N G C := by
  have hk : ∀ k o, W.heap[k]? = some o → V.heap[k]? = some o := fun k o h => (hn.below.block k (Array.getElem?_eq_some_iff.1 h).1).trans h
  exact ⟨h.1.trans hn, hk _ _ h.2.1, hk _ _ h.2.2.1, hk _ _ h.2.2.2.1, h.2.2.2.2⟩

theorem PoW.put {w W : World} {N : V3} {G : Nat} {C : Int} (h : PoW w W N G C) (c : Int) : PoW w (W.setCell ⟨G, 3, none⟩ (.int .i64 c)) N G c := by
  obtain ⟨h0, h1, h2, h3, h4⟩ := h
  refine ⟨h0.setCell (by show w.heap.size ≤ G; omega) _, (heap_setCell_other _ _ _ _ _ (by omega)).trans h1, (heap_setCell_other _ _ _ _ _ (by omega)).trans h2, ?_, h4⟩
  rw [heap_setCell_same _ _ 3 _ h3]
  simp
theorem heap_putP {W : World} {b : Nat} {x0 x1 x2 x3 : Value} {N : V3} {C : Int} {t : TypeId} (h : W.heap[b]? = some (.cells #[x0, x1, x2, x3] t (0, 0))) : ((((W.setCell ⟨b, 0, none⟩ (.int .i64 N.x)).setCell ⟨b, 1, none⟩ (.int .i64 N.y)).setCell ⟨b, 2, none⟩ (.int .i64 N.z)).setCell ⟨b, 3, none⟩ (.int .i64 C)).heap[b]? = some (.cells #[.int .i64 N.x, .int .i64 N.y, .int .i64 N.z, .int .i64 C] t (0, 0)) := by
  rw [heap_setCell_same _ _ 3 _ (heap_setCell_same _ _ 2 _ (heap_setCell_same _ _ 1 _ (heap_setCell_same _ _ 0 _ h)))]
  simp
theorem po_results (tmps : Array Value) (W : World) (a : Nat) (N : V3) (C : Int) (t : TypeId) (h4 : tmps.getD 4 undef = .pointer (some ⟨a, 0, none⟩)) (hA : W.heap[a]? = some (.cells #[.int .i64 N.x, .int .i64 N.y, .int .i64 N.z, .int .i64 C] t (0, 0))) : (results Try.f42 tmps).run Try.prog W = .ok (plV N.x N.y N.z C) W := by
  obtain ⟨c0, c1, c2, c3⟩ := cell_pl hA
  simp only [Array.getD_eq_getD_getElem?] at h4
  simp [results, Try.results42, go_sem, h4, c0, c1, c2, c3]
set_option maxHeartbeats 16000000 in
theorem planeOf_c (b off n cp : Nat) (T : List T5) (N : V3) (w : World) (hT : Tnts w b off n T) (hS : shOk T) (hn : n ≤ 1000) (hn0 : 0 < n) (hN : bdV 100000000000 N) :
    Calls Try.prog 42 #[.slice (some ⟨b, off, none⟩) n cp, v3 N] w fun e w' => e = .returned (plV N.x N.y N.z (mxTo T N n)) ∧ New w w' := by
  have HT := Lib.hid hT
  have HD := Lib.hid (fun (p : Nat) (w1 : World) => dotW_c hS N p w1 hN)
  have HB := Lib.hid (fun k => mx_bd hS hN k)
  clear hS hN hT
  have hbl := HT.out.2.1
  obtain ⟨⟨_, d1, d2⟩, d3, _⟩ := HT.out.2.2 0 hn0
  have HD0 := Lib.hid (HD.out 0)
  have HM0 := Lib.hid (show mxTo T N 0 = N.dot (sh3 T 0) from rfl)
  generalize N.dot (sh3 T 0) = D0 at *
  generalize tA T 0 = A at *
  generalize tB T 0 = B at *
  generalize tC T 0 = C at *
  go_enter Try.func42, Try.ntmps42
  go_upto_region 1 with fail
  obtain ⟨W1, hW1⟩ : ∃ W1, W1 = (w.alloc (.cells (cV3 N) 66)).alloc (.cells #[.int .i64 0, .int .i64 0, .int .i64 0, .int .i64 0] 41) := ⟨_, rfl⟩
  have hN1 : New w W1 := by rw [hW1]; exact ((New.refl _).alloc _).alloc _
  have z0 : W1.heap[w.heap.size]? = some (.cells (cV3 N) 66 (0, 0)) := by rw [hW1, Below.heap_alloc _ _ _ (by simp)]; exact World.alloc_heap_new _ _
  have z1 : W1.heap[w.heap.size + 1]? = some (.cells #[.int .i64 0, .int .i64 0, .int .i64 0, .int .i64 0] 41 (0, 0)) := by rw [hW1]; exact alloc2_new rfl
  rw [← hW1]
  clear hW1
  have hP0 : ∀ V G c, New W1 V → V.heap[G]? = some (.cells #[.int .i64 N.x, .int .i64 N.y, .int .i64 N.z, .int .i64 c] 41 (0, 0)) → W1.heap.size ≤ G → PoW w V N G c := fun V G c hV hG hl => by
    have hk : ∀ k o, W1.heap[k]? = some o → V.heap[k]? = some o := fun k o h => (hV.below.block k (Array.getElem?_eq_some_iff.1 h).1).trans h
    have := (Array.getElem?_eq_some_iff.1 z1).1
    exact ⟨hN1.trans hV, hk _ _ z0, hk _ _ z1, hG, by omega⟩
  have HP0 := Lib.hid hP0
  have l0 := (Array.getElem?_eq_some_iff.1 z0).1
  obtain ⟨c1, c2, c3⟩ := cells3 z0
  have lb : b < W1.heap.size := Nat.lt_of_lt_of_le hbl hN1.size
  have HSW := Lib.hid (show ∀ X, New W1 X → ((X.cell? ⟨w.heap.size, 0, none⟩ = some (.int .i64 N.x) ∧ X.cell? ⟨w.heap.size, 1, none⟩ = some (.int .i64 N.y) ∧ X.cell? ⟨w.heap.size, 2, none⟩ = some (.int .i64 N.z)) ∧ X.cell? ⟨b, off + 0 * 5 + 1, none⟩ = some (.int .i64 A) ∧ X.cell? ⟨b, off + 0 * 5 + 2, none⟩ = some (.int .i64 B) ∧ X.cell? ⟨b, off + 0 * 5 + 3, none⟩ = some (.int .i64 C)) from fun X hV =>
    ⟨⟨(hV.cell l0).trans c1, (hV.cell l0).trans c2, (hV.cell l0).trans c3⟩, (hV.cell lb).trans ((hN1.cell hbl).trans d1), (hV.cell lb).trans ((hN1.cell hbl).trans d2), (hV.cell lb).trans ((hN1.cell hbl).trans d3)⟩)
  clear z0 z1 hP0 c1 c2 c3 d1 d2 d3
  go_cut [5] (fun s5 wz => ∃ G, s5 = .pointer (some ⟨G, 0, none⟩) ∧ PoW w wz N G D0)
  case first =>
    have hh := HSW.out W1 (New.refl _)
    go_region_held3 (fun w' => ((w'.cell? ⟨w.heap.size, 0, none⟩ = some (.int .i64 N.x) ∧ w'.cell? ⟨w.heap.size, 1, none⟩ = some (.int .i64 N.y) ∧ w'.cell? ⟨w.heap.size, 2, none⟩ = some (.int .i64 N.z)) ∧ w'.cell? ⟨b, off + 0 * 5 + 1, none⟩ = some (.int .i64 A) ∧ w'.cell? ⟨b, off + 0 * 5 + 2, none⟩ = some (.int .i64 B) ∧ w'.cell? ⟨b, off + 0 * 5 + 3, none⟩ = some (.int .i64 C))) (first | (with_reducible refine HSW.out _ ?_; (repeat (first | exact New.refl _ | apply New.alloc | apply New.aft | apply New.drew)); done))
      (first | (go_at_call 67; (with_reducible refine (HD0.out _).mono ?_); rintro e w3 ⟨rfl, pw, rfl⟩))
    all_goals (go_wp2_with fail; go_meet)
    all_goals first
      | exact ⟨_, rfl, HP0.out _ _ _ (by (repeat (first | exact New.refl _ | apply New.alloc | apply New.aft | apply New.drew))) (heap_aftA _ _ _ _) (by omega)⟩
      | exact ⟨_, rfl, HP0.out _ _ _ (by (repeat (first | exact New.refl _ | apply New.alloc | apply New.aft | apply New.drew))) (heap_aftB _ _ _ _) (by omega)⟩
  case rest =>
    obtain ⟨G, rfl, hpo⟩ := hcut
    rw [← HM0.out] at hpo
    have HPO := Lib.hid hpo
    clear hpo HSW HP0 hN1 l0 lb hbl HD0 HM0
    go_wp2_with fail
    go_loopw [18] (fun i wr => ∃ k : Nat, k ≤ n ∧ i = .int .i64 k ∧ PoW w wr N G (mxTo T N k)) (fun i _ => n - (intOf i).toNat)
    case atStart => exact ⟨0, Nat.zero_le _, rfl, HPO.out⟩
    case round =>
      obtain ⟨k, hk, rfl, hpo⟩ := hrel
      have HPW := Lib.hid hpo
      clear HPO
      by_cases hkn : k < n
      · obtain ⟨p0, p1, p2, p3, p4⟩ := hpo
        have HTr := Lib.hid (HT.out.new p0)
        obtain ⟨⟨d0, d1, d2⟩, d3, d4⟩ := HTr.out.2.2 k hkn
        have hbl := HTr.out.2.1
        have HDK := Lib.hid (HD.out k)
        have HM1 := Lib.hid (show mxTo T N (k + 1) = max (mxTo T N k) (N.dot (sh3 T k)) from rfl)
        generalize mxTo T N k = M at *
        generalize N.dot (sh3 T k) = D1 at *
        generalize tA T k = A1 at *
        generalize tB T k = B1 at *
        generalize tC T k = C1 at *
        generalize tN T k = S1 at *
        generalize tP T k = P1 at *
        clear p0 p1 p2 p3 HB HD
        go_upto_region 5 with fail
        obtain ⟨W6, hW6⟩ : ∃ W6, W6 = wr.alloc (.cells #[.string S1, .int .i64 A1, .int .i64 B1, .int .i64 C1, .int .i64 P1] 59) := ⟨_, rfl⟩
        have h6 : New wr W6 := by rw [hW6]; exact (New.refl _).alloc _
        have y6 : W6.heap[wr.heap.size]? = some (.cells #[.string S1, .int .i64 A1, .int .i64 B1, .int .i64 C1, .int .i64 P1] 59 (0, 0)) := by rw [hW6]; exact World.alloc_heap_new _ _
        rw [← hW6]
        clear hW6
        have HP6 := Lib.hid (HPW.out.new h6)
        obtain ⟨p0, p1, p2, p3, p4⟩ := HP6.out
        obtain ⟨n1, n2, n3⟩ := cells3 p1
        have l0 := (Array.getElem?_eq_some_iff.1 p1).1
        have l3 := (Array.getElem?_eq_some_iff.1 p3).1
        have l6 := (Array.getElem?_eq_some_iff.1 y6).1
        have t1 : W6.cell? ⟨wr.heap.size, 1, none⟩ = some (.int .i64 A1) := by simp [World.cell?, y6]
        have t2 : W6.cell? ⟨wr.heap.size, 2, none⟩ = some (.int .i64 B1) := by simp [World.cell?, y6]
        have t3 : W6.cell? ⟨wr.heap.size, 3, none⟩ = some (.int .i64 C1) := by simp [World.cell?, y6]
        have q3 : W6.cell? ⟨G, 3, none⟩ = some (.int .i64 M) := by simp [World.cell?, p3]
        have f3 : W6.frozen? ⟨G, 3, none⟩ = false := by simp [World.frozen?, p3]
        have hGr : G < wr.heap.size := (Array.getElem?_eq_some_iff.1 HPW.out.2.2.2.1).1
        have HSW := Lib.hid (show ∀ X, New W6 X → ((X.cell? ⟨w.heap.size, 0, none⟩ = some (.int .i64 N.x) ∧ X.cell? ⟨w.heap.size, 1, none⟩ = some (.int .i64 N.y) ∧ X.cell? ⟨w.heap.size, 2, none⟩ = some (.int .i64 N.z)) ∧ X.cell? ⟨wr.heap.size, 1, none⟩ = some (.int .i64 A1) ∧ X.cell? ⟨wr.heap.size, 2, none⟩ = some (.int .i64 B1) ∧ X.cell? ⟨wr.heap.size, 3, none⟩ = some (.int .i64 C1)) from fun X hV =>
          ⟨⟨(hV.cell l0).trans n1, (hV.cell l0).trans n2, (hV.cell l0).trans n3⟩, (hV.cell l6).trans t1, (hV.cell l6).trans t2, (hV.cell l6).trans t3⟩)
        have hsc : ∀ (X : World) (k o : Nat) (z : Value), k ≠ G → (X.setCell ⟨G, 3, none⟩ z).cell? ⟨k, o, none⟩ = X.cell? ⟨k, o, none⟩ := fun X k o z hk => by
          simp only [World.cell?]; rw [heap_setCell_other _ _ _ _ _ hk]
        have HSS := Lib.hid (show ∀ X z, New W6 X → (((X.setCell ⟨G, 3, none⟩ z).cell? ⟨w.heap.size, 0, none⟩ = some (.int .i64 N.x) ∧ (X.setCell ⟨G, 3, none⟩ z).cell? ⟨w.heap.size, 1, none⟩ = some (.int .i64 N.y) ∧ (X.setCell ⟨G, 3, none⟩ z).cell? ⟨w.heap.size, 2, none⟩ = some (.int .i64 N.z)) ∧ (X.setCell ⟨G, 3, none⟩ z).cell? ⟨wr.heap.size, 1, none⟩ = some (.int .i64 A1) ∧ (X.setCell ⟨G, 3, none⟩ z).cell? ⟨wr.heap.size, 2, none⟩ = some (.int .i64 B1) ∧ (X.setCell ⟨G, 3, none⟩ z).cell? ⟨wr.heap.size, 3, none⟩ = some (.int .i64 C1)) from fun X z hV => by
          rw [hsc X _ 0 z (by omega), hsc X _ 1 z (by omega), hsc X _ 2 z (by omega), hsc X _ 1 z (by omega), hsc X _ 2 z (by omega), hsc X _ 3 z (by omega)]; exact HSW.out X hV)
        have g3 : ∀ d os, (Aft W6.drew d os).cell? ⟨G, 3, none⟩ = some (.int .i64 M) := fun d os => (aft_cell W6.drew d os _ 3 l3).trans q3
        have k3 : ∀ d os, (Aft W6.drew d os).frozen? ⟨G, 3, none⟩ = false := fun d os => (aft_frozen W6.drew d os _ 3 l3).trans f3
        have hh := HSW.out W6 (New.refl _)
        clear hsc n1 n2 n3 t1 t2 t3 p0 p1 p2 p3
        go_region_law (first | (go_simp; go_at_call 67; (with_reducible refine (HDK.out _).mono ?_); rintro e w3 ⟨rfl, pw, rfl⟩))
        all_goals (go_wp2_with fail)
        all_goals go_roundw
        all_goals first
          | exact ⟨k + 1, by omega, by go_num, by rw [HM1.out]; exact (HP6.out.new ((New.refl W6).drew.aft _ _)).put _⟩
          | (simp [intOf]; omega)
      · obtain rfl : k = n := by omega
        obtain ⟨p0, p1, p2, p3, p4⟩ := hpo
        have HN := Lib.hid p0
        obtain ⟨c0, c1, c2, c3⟩ := cell_pl p3
        have HP2 := Lib.hid p2
        have hf : ∀ o, wr.frozen? ⟨w.heap.size + 1, o, none⟩ = false := fun o => by simp [World.frozen?, p2]
        have f0 := hf 0
        have f1 := hf 1
        have f2 := hf 2
        have f3 := hf 3
        obtain ⟨e0, e1, e2, e3⟩ := cell_pl p2
        obtain ⟨M, hM⟩ : ∃ M, M = mxTo T N k := ⟨_, rfl⟩
        rw [← hM] at c3
        have HMM := Lib.hid hM
        clear p0 p1 p2 p3 HPW HB HD HT hf hM
        go_wp2_with fail
        refine bodyPost_ret (v := plV N.x N.y N.z M) (po_results _ _ (w.heap.size + 1) N M _ rfl (heap_putP HP2.out)) rfl ⟨?_, (((HN.out.setCell (Nat.le_succ w.heap.size) _).setCell (Nat.le_succ w.heap.size) _).setCell (Nat.le_succ w.heap.size) _).setCell (Nat.le_succ w.heap.size) _⟩
        rw [HMM.out]

end Go.Proofs.Ytpjekinmcdglbaa
