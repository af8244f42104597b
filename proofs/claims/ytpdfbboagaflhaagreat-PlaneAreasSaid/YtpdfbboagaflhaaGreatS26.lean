/- PlaneAreas returns true for every input, and its arguments read afterwards as before: the given statement, without a condition. -/
import Derived.Test.YtpdfbboagaflhaaGreatS24
import Derived.Test.YtpdfbboagaflhaaGreatM51
import Derived.Test.YtpdfbboagaflhaaGreatS21
import Derived.Test.YtpdfbboagaflhaaGreatRows
import Derived.ProofKit
import Derived.OpenShut
import Derived.Lib.SmallJoins
import Derived.Carry

set_option linter.unusedSimpArgs false
set_option linter.unusedVariables false
set_option maxRecDepth 100000
namespace Go.Proofs.YtpdfbboagaflhaaGreat
open Go.RowKit

theorem triAt_own' {w : World} {base g m cap : Nat} {T : List T6} (h : w.ownsRow base 75 6 (.slice (some ⟨g, 0, none⟩) m cap) m (trCells T)) (hm : T.length = m) : Tris w g 0 m T := by
  refine ⟨hm, (h.lt g rfl).2, fun k hk => ?_⟩
  have hc := h.cells (g := g) rfl
  have hadd : ∀ j, (⟨g, 0, none⟩ : Addr).add j = ⟨g, j, none⟩ := by intro j; unfold Addr.add; split <;> simp_all
  have ht : T[k]? = some (t6 T k) := by
    unfold t6; rw [List.getD_eq_getElem?_getD]; cases e : T[k]? with
    | none => rw [List.getElem?_eq_none_iff] at e; omega
    | some t => rfl
  have key : ∀ (T : List T6) (k : Nat) (t : T6), T[k]? = some t → (trCells T)[k * 6]? = some (.int .i64 t.1.1) ∧ (trCells T)[k * 6 + 1]? = some (.int .i64 t.1.2) ∧ (trCells T)[k * 6 + 2]? = some (.int .i64 t.2.1.1) ∧ (trCells T)[k * 6 + 3]? = some (.int .i64 t.2.1.2) ∧ (trCells T)[k * 6 + 4]? = some (.int .i64 t.2.2.1) ∧ (trCells T)[k * 6 + 5]? = some (.int .i64 t.2.2.2) := by
    intro T
    induction T with
    | nil => intro k t h; simp at h
    | cons x T ih =>
      obtain ⟨⟨a, b⟩, ⟨c, d⟩, e, f⟩ := x
      intro k t h
      cases k with
      | zero =>
        have : t = ((a, b), (c, d), (e, f)) := by simpa using h.symm
        subst this
        simp [trCells]
      | succ k =>
        have ih := ih k t (by simpa using h)
        have he : trCells (((a, b), (c, d), (e, f)) :: T) = [.int .i64 a, .int .i64 b, .int .i64 c, .int .i64 d, .int .i64 e, .int .i64 f] ++ trCells T := by simp [trCells]
        rw [he]
        have go : ∀ j, ([.int .i64 a, .int .i64 b, .int .i64 c, .int .i64 d, .int .i64 e, .int .i64 f] ++ trCells T : List Value)[(k + 1) * 6 + j]? = (trCells T)[k * 6 + j]? := fun j => by
          rw [List.getElem?_append_right (by simp; omega)]
          congr 1
          simp; omega
        have g0 := go 0
        simp only [Nat.add_zero] at g0
        rw [g0, go 1, go 2, go 3, go 4, go 5]
        exact ih
  obtain ⟨t1, t2, t3, t4, t5, t6'⟩ := key T k _ ht
  simp only [TriO, Nat.zero_add]
  refine ⟨⟨?_, ?_⟩, ⟨?_, ?_⟩, ?_, ?_⟩
  all_goals (rw [← hadd]; apply hc; assumption)
theorem triangles_no (v : Value) (E : Int) (w : World) (hE : E ≠ 0) (H : Hid (Calls Tryz.prog 50 #[v] w fun en w' => en = .returned (.tuple #[.slice none 0 0, .int .i64 E]) ∧ New w w')) :
    Calls Tryz.prog 59 #[v] w fun en w' => en = .returned (.tuple #[.slice none 0 0, .int .i64 E]) ∧ New w w' := by
  have q2 : (E != 0) = true := by simpa using hE
  go_enter Tryz.func59, Tryz.ntmps59
  go_wp2_with (go_at_call 50; refine H.out.mono ?_; rintro e w2 ⟨rfl, hn⟩; have HN1 := Lib.hid hn; clear hn)
  go_ret2; exact ⟨rfl, HN1.out⟩

set_option maxHeartbeats 4000000 in
theorem area_long (av : Option Addr) (n c : Nat) (X Y : Int) (w : World) (h : 40 < n) : Calls Tryz.prog 19 #[.slice av n c, pv X Y] w fun e w' => e = .returned (.bool true) ∧ New w w' := by
  have k1 : (40 : Int) < (n : Int) := by omega
  have HL := Lib.hid alive_c
  go_enter Tryz.func19, Tryz.ntmps19
  go_wp2_with (go_at_call 31; refine (HL.out _).mono ?_; rintro e w2 ⟨rfl, hn⟩; have HN1 := Lib.hid (show New w w2 from ((New.refl w).alloc _).trans hn); clear hn)
  go_ret; exact ⟨rfl, HN1.out⟩
set_option maxHeartbeats 4000000 in
theorem area_err (v : Option Addr) (n c : Nat) (E X Y : Int) (w : World) (h : n ≤ 40) (hE : E ≠ 0)
    (H1 : Hid (∀ w1, New w w1 → Calls Tryz.prog 50 #[.slice v n c] w1 fun en w' => en = .returned (.tuple #[.slice none 0 0, .int .i64 E]) ∧ New w1 w'))
    (H2 : Hid (∀ w1, New w w1 → Calls Tryz.prog 44 #[.slice v n c] w1 fun en w' => en = .returned (.int .i64 E) ∧ New w1 w')) :
    Calls Tryz.prog 19 #[.slice v n c, pv X Y] w fun e w' => e = .returned (.bool true) ∧ New w w' := by
  have k1 : ¬ (40 : Int) < (n : Int) := by omega
  have HL := Lib.hid alive_c
  have HA := Lib.hid (fun w1 h1 => triangles_no (.slice v n c) E w1 hE (Lib.hid (H1.out w1 h1)))
  have q1 : (E == E) = true := by simp
  have q2 : (E != 0) = true := by simpa using hE
  clear H1
  go_enter Tryz.func19, Tryz.ntmps19
  go_wp2_with (first | (go_at_call 59; refine (HA.out _ (by (repeat (first | exact New.refl _ | apply New.alloc | apply New.aft | apply New.drew | refine New.setCell ?_ ?_ _)); all_goals (first | done | (simp [size_aft]; done) | (simp [size_aft]; omega)))).mono ?_; rintro e w2 ⟨rfl, hn⟩; have HN1 := Lib.hid (show New w w2 from ((New.refl w).alloc _).trans hn); clear hn) | (go_at_call 31; refine (HL.out _).mono ?_; rintro e w4 ⟨rfl, hn⟩; have HN3 := Lib.hid hn; clear hn) | (go_at_call 44; refine (H2.out _ (HN1.out.trans HN3.out)).mono ?_; rintro e w5 ⟨rfl, hn⟩; have HN4 := Lib.hid hn; clear hn))
  go_ret; exact ⟨rfl, HN1.out.trans (HN3.out.trans HN4.out)⟩

theorem ears_okL : ∀ (f : Nat) (r : List P2) (t : List T6), okL r = true → (∀ x ∈ t, okL (triL x) = true) → ∀ x ∈ earsF f r t, okL (triL x) = true
  | 0, r, t, _, ht => ht
  | f + 1, r, t, hr, ht => by
    have hb := fun i => okP_iff.2 (okL_bd hr i)
    simp only [earsF]
    split
    · refine ears_okL f _ _ (Geo.okL_mem hr fun v hv => List.mem_of_mem_eraseIdx hv) ?_
      intro x hx
      rcases List.mem_append.1 hx with hx | hx
      · exact ht x hx
      · rw [List.mem_singleton] at hx; subst hx
        simp only [okL, triL, trAt, pAt, List.all_cons, List.all_nil, Bool.and_true, Bool.and_eq_true]
        exact ⟨hb _, hb _, hb _⟩
    · intro x hx
      rcases List.mem_append.1 hx with hx | hx
      · exact ht x hx
      · rw [List.mem_singleton] at hx; subst hx
        simp only [okL, triL, pAt, List.all_cons, List.all_nil, Bool.and_true, Bool.and_eq_true]
        exact ⟨hb _, hb _, hb _⟩
theorem tris_ok {l : List P2} (hp : polyI l = 0) : ∀ x ∈ trisL l, okL (triL x) = true := by
  obtain ⟨_, _, _, s4, _, _, _⟩ := Geo.norm_self hp
  exact ears_okL _ _ _ s4 (fun x hx => by simp at hx)

set_option maxHeartbeats 8000000 in
theorem area_go (b off n c : Nat) (l : List P2) (m : Nat) (T : List T6) (X Y : Int) (w : World) (h0 : 0 < n) (hn : n ≤ 40) (hw : Pts w b off n l) (hT : T.length = m) (hck : ckT l T = true) (H59 : Hid (∀ w1, New w w1 → Calls Tryz.prog 59 #[.slice (some ⟨b, off, none⟩) n c] w1 fun en w' => ∃ g cap, en = .returned (.tuple #[.slice (some ⟨g, 0, none⟩) m cap, .int .i64 0]) ∧ Tris w' g 0 m T ∧ New w1 w')) :
    Calls Tryz.prog 19 #[.slice (some ⟨b, off, none⟩) n c, pv X Y] w fun e w' => e = .returned (.bool true) ∧ New w w' := by
  obtain ⟨g1, g2, g3⟩ := ckT_cover.1 hck
  have HL := Lib.hid alive_c
  have HC := Lib.hid (fun (w1 : World) (h1 : New w w1) (g cap : Nat) (ht : Tris w1 g 0 m T) => checkTris_all w1 (some ⟨b, off, none⟩) n c l hw.1 (by omega) (fun _ => ⟨b, off, rfl, hw.new h1⟩) (some ⟨g, 0, none⟩) m cap T hT (fun _ => ⟨g, 0, rfl, ht⟩))
  rw [hck] at HC
  have HA3 := Lib.hid (fun (k : Nat) (hk : k < m) (w1 : World) (g : Nat) (hg : Pts w1 g 0 3 (triL (t6 T k))) => area2_c g 0 3 3 (triL (t6 T k)) w1 (by omega) (by omega) hg)
  have HAR := Lib.hid (fun (w1 : World) (h1 : New w w1) => area2_c b off n c l w1 h0 (by omega) (hw.new h1))
  have HCP := Lib.hid (fun w1 => checkPoint_c X Y w1)
  have HCT := Lib.hid (fun (w1 : World) (g cap : Nat) (ht : Tris w1 g 0 m T) => counted_c (some ⟨g, 0, none⟩) m cap T X Y w1 (by omega) hT (fun _ => ⟨g, 0, rfl, ht⟩))
  have HWH := Lib.hid (fun (w1 : World) (h1 : New w w1) => Where_c b off n c l X Y w1 h0 (by omega) (hw.new h1))
  have HSA := Lib.hid (show sumA T m = max (areaI l) (-(areaI l)) by rw [← hT]; exact cover_area g3 g2)
  have HSB := Lib.hid (show ∀ k, k ≤ m → -(200000000 * (k : Int)) ≤ sumA T k ∧ sumA T k ≤ 200000000 * (k : Int) from fun k hk => sumA_bd g2 k (by omega))
  have HSS := Lib.hid (show ∀ k, sumA T (k + 1) = sumA T k + areaI (triL (t6 T k)) from fun k => rfl)
  have HAB := Lib.hid (show ∀ k, k < m → -200000000 ≤ areaI (triL (t6 T k)) ∧ areaI (triL (t6 T k)) ≤ 200000000 from fun k hk => by
    have hm : t6 T k ∈ T := by simp [t6, List.getD_eq_getElem?_getD, show k < T.length by omega]
    rw [tri_area (g2 _ hm)]; exact tri_bd (g2 _ hm))
  have HPT := Lib.hid (show okP X Y = true → (insCt T (X, Y) m ≤ 1 ∧ (0 < inCt T (X, Y) m ↔ WhereI l X Y ≠ 0)) from fun hp => by rw [← hT]; exact cover_points g3 g2 (p := (X, Y)) hp)
  have HM := Lib.hid (show m ≤ 400 by omega)
  have k1 : ¬ (40 : Int) < (n : Int) := by omega
  have ab := HSB.out m (Nat.le_refl _)
  have asum := HSA.out
  have a1 : -80000000000 ≤ areaI l := by omega
  have a2 : areaI l ≤ 80000000000 := by omega
  clear hw hck g1 g2 g3 ab asum hT
  generalize hAR : areaI l = AR at *
  clear hAR
  go_enter Tryz.func19, Tryz.ntmps19
  go_wp2_with (go_at_call 59; refine (H59.out _ (by (repeat (first | exact New.refl _ | apply New.alloc | apply New.aft | apply New.drew | refine New.setCell ?_ ?_ _)); all_goals (first | done | (simp [size_aft]; done) | (simp [size_aft]; omega)))).mono ?_; rintro e w2 ⟨gt, ct, rfl, hts, hn⟩; have x0 : w2.cell? ⟨w.heap.size, 0, none⟩ = some (.int .i64 X) := (hn.below.cell (p := ⟨w.heap.size, 0, none⟩) (by simp)).trans (by simp [go_sem]); have x1 : w2.cell? ⟨w.heap.size, 1, none⟩ = some (.int .i64 Y) := (hn.below.cell (p := ⟨w.heap.size, 1, none⟩) (by simp)).trans (by simp [go_sem]); have HX := Lib.hid (And.intro x0 x1); have HTS := Lib.hid hts; have HN0 := Lib.hid (show New w w2 from ((New.refl w).alloc _).trans hn); have hl2 := cell_lt x0; clear hn hts)
  go_loopw [7, 38] (fun s7 i wr => ∃ k : Nat, k ≤ m ∧ i = .int .i64 k ∧ s7 = .int .i64 (sumA T k) ∧ New w2 wr) (fun _ i _ => m - (intOf i).toNat)
  case atStart => exact ⟨0, Nat.zero_le _, rfl, rfl, New.refl _⟩
  case round =>
    obtain ⟨wx, rfl⟩ : ∃ wx : World, wx = wr := ⟨_, rfl⟩
    obtain ⟨k, hk, rfl, rfl, hnw⟩ := hrel
    have HNW := Lib.hid hnw
    by_cases hlt : k < m
    · have htr2 := HTS.out.new hnw
      obtain ⟨⟨c1, c2'⟩, ⟨c3, c4⟩, c5, c6⟩ := htr2.2.2 k hlt
      have htb : gt < wx.heap.size := htr2.2.1
      have A3 := Lib.hid (HA3.out k hlt)
      have sb := HSB.out k hk
      have sa := HAB.out k hlt
      have HS1 := Lib.hid (HSS.out k)
      have hm4 := HM.out
      clear htr2 hnw
      simp only [Nat.zero_add] at c1 c2' c3 c4 c5 c6
      generalize hx : t6 T k = x at *
      clear hx
      obtain ⟨⟨A1, A2⟩, ⟨B1, B2⟩, C1, C2⟩ := x
      simp only at c1 c2' c3 c4 c5 c6
      generalize hSK : sumA T k = SK at *
      generalize hAK : areaI (triL ((A1, A2), (B1, B2), C1, C2)) = AK at *
      clear hSK hAK
      have b1 : -90000000000 ≤ SK := by omega
      have b2 : SK ≤ 90000000000 := by omega
      go_wp2_with (go_at_call 46; go_must (refine (A3.out _ (wx.heap.size + 1) (ptsT3 (by simp) (by simp [go_sem]) (by simp [go_sem]) (by simp [go_sem]) (by simp [go_sem]) (by simp [go_sem]) (by simp [go_sem]))).mono ?_; rintro en w3 ⟨rfl, hn3⟩; have HN3 := Lib.hid (show New wx w3 from (((New.refl wx).alloc _).alloc _).trans hn3); clear hn3))
      go_roundw
      case rel => exact ⟨k + 1, by omega, by go_num, by rw [HS1.out], HNW.out.trans HN3.out⟩
      case measure => simp [intOf]; omega
    · obtain rfl : k = m := by omega
      have hkn : ¬ ((k : Int) < (k : Int)) := by omega
      have y0 := (hnw.cell hl2).trans HX.out.1
      have y1 := (hnw.cell hl2).trans HX.out.2
      have hl3 : w.heap.size < wx.heap.size := cell_lt y0
      have HY := Lib.hid (And.intro y0 y1)
      have sm := HSA.out
      generalize hSM : sumA T k = SM at *
      have HSM := Lib.hid sm
      clear hSM sm hnw
      have q1 : (SM != max AR (-AR)) = false := by rw [HSM.out]; simp
      by_cases hok : okP X Y = true
      · obtain ⟨p1, p2⟩ := HPT.out hok
        have HCP' := Lib.hid (fun w1 => show Calls Tryz.prog 29 #[pv X Y] w1 fun e w' => e = .returned (.int .i64 0) ∧ New w1 w' from by have := HCP.out w1; rw [okErr_yes hok] at this; exact this)
        have HIL := Lib.hid (inCt_le T (X, Y) k)
        have HP2 := Lib.hid p2
        clear p2 hok HCP
        generalize hIK : inCt T (X, Y) k = IK at *
        generalize hSK : insCt T (X, Y) k = SK at *
        generalize hWV : WhereI l X Y = WV at *
        clear hIK hSK hWV
        have r1 : (SK : Int) ≤ 1 := by omega
        by_cases hin : 0 < IK
        · have r2 : (0 : Int) < (IK : Int) := by omega
          have r3 : (WV != 0) = true := by simpa using HP2.out.1 hin
          clear hin
          go_wp2_with (first | (go_at_call 46; go_must (refine (HAR.out _ (HN0.out.trans HNW.out)).mono ?_; rintro en w4 ⟨rfl, hn⟩; have z0 := (hn.cell hl3).trans HY.out.1; have z1 := (hn.cell hl3).trans HY.out.2; have HN4 := Lib.hid hn; have hl4 : w.heap.size < w4.heap.size := cell_lt z0; clear hn)) | (go_at_call 62; go_must (refine (HC.out _ (HN0.out.trans (HNW.out.trans HN4.out)) gt ct (HTS.out.new (HNW.out.trans HN4.out))).mono ?_; rintro en w9 ⟨rfl, hn⟩; have s0 := (hn.cell hl4).trans z0; have s1 := (hn.cell hl4).trans z1; have HN9 := Lib.hid hn; have hl9 : w.heap.size < w9.heap.size := cell_lt s0; clear hn)) | (go_at_call 29; go_must (refine (HCP'.out _).mono ?_; rintro en w5 ⟨rfl, hn⟩; have t0 := (hn.cell hl9).trans s0; have t1 := (hn.cell hl9).trans s1; have HN5 := Lib.hid hn; have hl5 : w.heap.size < w5.heap.size := cell_lt t0; clear hn)) | (go_at_call 81; go_must (refine (HCT.out _ gt ct (HTS.out.new (HNW.out.trans (HN4.out.trans (HN9.out.trans HN5.out))))).mono ?_; rintro en w6 ⟨rfl, hn⟩; have u0 := (hn.cell hl5).trans t0; have u1 := (hn.cell hl5).trans t1; have HN6 := Lib.hid hn; have hl6 : w.heap.size < w6.heap.size := cell_lt u0; clear hn)) | (go_at_call 31; go_must (refine (HL.out _).mono ?_; rintro en w7 ⟨rfl, hn⟩; have v0 := (hn.cell hl6).trans u0; have v1 := (hn.cell hl6).trans u1; have HN7 := Lib.hid hn; clear hn)) | (go_at_call 53; go_must (refine (HWH.out _ (HN0.out.trans (HNW.out.trans (HN4.out.trans (HN9.out.trans (HN5.out.trans (HN6.out.trans HN7.out))))))).mono ?_; rintro en w8 ⟨rfl, hn⟩; have HN8 := Lib.hid hn; clear hn)))
          go_ret
          exact ⟨ret_bool (by simp; omega), HN0.out.trans (HNW.out.trans (HN4.out.trans (HN9.out.trans (HN5.out.trans (HN6.out.trans (HN7.out.trans HN8.out))))))⟩
        · have r2 : ¬ (0 : Int) < (IK : Int) := by omega
          have r3 : (WV != 0) = false := by
            rw [bne_eq_false_iff_eq]
            exact Classical.byContradiction fun g => hin (HP2.out.2 g)
          clear hin
          go_wp2_with (first | (go_at_call 46; go_must (refine (HAR.out _ (HN0.out.trans HNW.out)).mono ?_; rintro en w4 ⟨rfl, hn⟩; have z0 := (hn.cell hl3).trans HY.out.1; have z1 := (hn.cell hl3).trans HY.out.2; have HN4 := Lib.hid hn; have hl4 : w.heap.size < w4.heap.size := cell_lt z0; clear hn)) | (go_at_call 62; go_must (refine (HC.out _ (HN0.out.trans (HNW.out.trans HN4.out)) gt ct (HTS.out.new (HNW.out.trans HN4.out))).mono ?_; rintro en w9 ⟨rfl, hn⟩; have s0 := (hn.cell hl4).trans z0; have s1 := (hn.cell hl4).trans z1; have HN9 := Lib.hid hn; have hl9 : w.heap.size < w9.heap.size := cell_lt s0; clear hn)) | (go_at_call 29; go_must (refine (HCP'.out _).mono ?_; rintro en w5 ⟨rfl, hn⟩; have t0 := (hn.cell hl9).trans s0; have t1 := (hn.cell hl9).trans s1; have HN5 := Lib.hid hn; have hl5 : w.heap.size < w5.heap.size := cell_lt t0; clear hn)) | (go_at_call 81; go_must (refine (HCT.out _ gt ct (HTS.out.new (HNW.out.trans (HN4.out.trans (HN9.out.trans HN5.out))))).mono ?_; rintro en w6 ⟨rfl, hn⟩; have u0 := (hn.cell hl5).trans t0; have u1 := (hn.cell hl5).trans t1; have HN6 := Lib.hid hn; have hl6 : w.heap.size < w6.heap.size := cell_lt u0; clear hn)) | (go_at_call 31; go_must (refine (HL.out _).mono ?_; rintro en w7 ⟨rfl, hn⟩; have v0 := (hn.cell hl6).trans u0; have v1 := (hn.cell hl6).trans u1; have HN7 := Lib.hid hn; clear hn)) | (go_at_call 53; go_must (refine (HWH.out _ (HN0.out.trans (HNW.out.trans (HN4.out.trans (HN9.out.trans (HN5.out.trans (HN6.out.trans HN7.out))))))).mono ?_; rintro en w8 ⟨rfl, hn⟩; have HN8 := Lib.hid hn; clear hn)))
          go_ret
          exact ⟨ret_bool (by simp; omega), HN0.out.trans (HNW.out.trans (HN4.out.trans (HN9.out.trans (HN5.out.trans (HN6.out.trans (HN7.out.trans HN8.out))))))⟩
      · have HCP' := Lib.hid (fun w1 => show Calls Tryz.prog 29 #[pv X Y] w1 fun e w' => e = .returned (.int .i64 1) ∧ New w1 w' from by have := HCP.out w1; rw [okErr_no (by simpa using hok)] at this; exact this)
        clear hok HCP HPT
        go_wp2_with (first | (go_at_call 46; go_must (refine (HAR.out _ (HN0.out.trans HNW.out)).mono ?_; rintro en w4 ⟨rfl, hn⟩; have z0 := (hn.cell hl3).trans HY.out.1; have z1 := (hn.cell hl3).trans HY.out.2; have HN4 := Lib.hid hn; have hl4 : w.heap.size < w4.heap.size := cell_lt z0; clear hn)) | (go_at_call 62; go_must (refine (HC.out _ (HN0.out.trans (HNW.out.trans HN4.out)) gt ct (HTS.out.new (HNW.out.trans HN4.out))).mono ?_; rintro en w9 ⟨rfl, hn⟩; have s0 := (hn.cell hl4).trans z0; have s1 := (hn.cell hl4).trans z1; have HN9 := Lib.hid hn; have hl9 : w.heap.size < w9.heap.size := cell_lt s0; clear hn)) | (go_at_call 29; go_must (refine (HCP'.out _).mono ?_; rintro en w5 ⟨rfl, hn⟩; have t0 := (hn.cell hl9).trans s0; have t1 := (hn.cell hl9).trans s1; have HN5 := Lib.hid hn; have hl5 : w.heap.size < w5.heap.size := cell_lt t0; clear hn)) | (go_at_call 31; go_must (refine (HL.out _).mono ?_; rintro en w6 ⟨rfl, hn⟩; have HN6 := Lib.hid hn; clear hn)))
        go_ret
        exact ⟨rfl, HN0.out.trans (HNW.out.trans (HN4.out.trans (HN9.out.trans (HN5.out.trans HN6.out))))⟩


theorem planeAreas_all (w : World) (av : Option Addr) (n c : Nat) (l : List P2) (hl : l.length = n) (hp : 0 < n → ∃ b off, av = some ⟨b, off, none⟩ ∧ Pts w b off n l) (X Y : Int) :
    Calls Tryz.prog 19 #[.slice av n c, pv X Y] w fun e w' => e = .returned (.bool true) ∧ New w w' := by
  by_cases h : 40 < n
  · exact area_long av n c X Y w h
  · by_cases h0 : 0 < n
    · obtain ⟨b, off, rfl, hw⟩ := hp h0
      by_cases hpo : polyI l = 0
      · have hE := Geo.earOk_norm hpo
        obtain ⟨f1, f2, f3, f4, f5, f6, f7, f8⟩ := norm_facts hpo
        have hlen : (trisL l).length + 2 = (normL l).length := by
          have := earsF_len (normL l).length (normL l) [] hE.si.three (Nat.le_refl _)
          have h3 := hE.si.three
          unfold trisL
          simp only [List.length_nil] at this
          omega
        have hok : okL l = true := (ckPts_zero (polyI_ok hpo).1).2
        have hck : ckT l (trisL l) = true := ckT_cover.2 ⟨by omega, tris_ok hpo, Geo.cover_tris hpo⟩
        exact area_go b off n c l (trisL l).length (trisL l) X Y w h0 (by omega) hw rfl hck (Lib.hid fun w1 h1 => (triangles_yes b off n c l w1 h0 (by omega) (hw.new h1) hpo (by rw [← f4]; exact hE.si.three) (fun i => by have := okL_bd hE.ok i; omega)).mono (by
          rintro en w' ⟨g, cap, rfl, ho, hn⟩
          exact ⟨g, cap, rfl, triAt_own' ho rfl, hn⟩))
      · exact area_err _ n c (polyI l) X Y w (by omega) hpo (Lib.hid fun w1 h1 => normal_no b off n c l w1 h0 (by omega) (hw.new h1) hpo) (Lib.hid fun w1 h1 => checkPoly_c b off n c l w1 h0 (by omega) (hw.new h1))
    · obtain rfl : n = 0 := by omega
      exact area_err av 0 c 1 X Y w (by omega) (by decide) (Lib.hid fun w1 _ => normal_nil av c w1) (Lib.hid fun w1 _ => checkPoly_nil av c w1)
end Go.Proofs.YtpdfbboagaflhaaGreat

set_option linter.unusedSimpArgs false
set_option linter.unusedVariables false
set_option linter.constructorNameAsVariable false
namespace Go.Proofs.YtpdfbboagaflhaaGreat
open Go.ChangeShapes Go.WideShapes Go.ChangeAt Go.RowKit Go.Joins
set_option maxRecDepth 100000

theorem jAr_wf : Rows.planeAreasRow.wf (OpenSpec.ofChange Rows.planeAreasSpec) = true := by kernel_rfl
theorem jAr_par : Tryz.f19.params.all (Tryz.prog.readableRec ·) = true := by kernel_rfl
theorem jAr_tie : namedTie Tryz.prog Rows.planeAreasRow.named Rows.planeAreasSpec.vars = true := by kernel_rfl
theorem jAr_st : (Rows.planeAreasRow.stops == []) = true := by kernel_rfl
theorem jAr_kn : (Rows.planeAreasRow.knobs == []) = true := by kernel_rfl
theorem jAr_inp : (Rows.planeAreasRow.inPlace == Tryz.prog.inPlace 19) = true := by kernel_rfl
theorem jAr_unf : (Rows.planeAreasRow.unfollowed == Tryz.prog.unfollowed 19) = true := by kernel_rfl
theorem jAr_rec : (Rows.planeAreasRow.recurses == Tryz.prog.recurses 19) = true := by kernel_rfl
theorem jAr_nam : (Rows.planeAreasRow.named == Tryz.prog.varsNamed 19) = true := by kernel_rfl
theorem jAr_maps : (Rows.planeAreasRow.maps == (Tryz.f19.params.toList ++ Rows.planeAreasSpec.plain.varTypes Tryz.prog).any (Tryz.prog.mapsRec ·)) = true := by kernel_rfl
theorem jAr_ifs : (Rows.planeAreasRow.ifaces == (Tryz.f19.params.toList ++ Rows.planeAreasSpec.plain.varTypes Tryz.prog).any (Tryz.prog.ifacesRec ·)) = true := by kernel_rfl
theorem jAr_mout : (Rows.planeAreasRow.mapsOut == Tryz.prog.mapsAmong Tryz.f19.resultTypes.toList) = true := by kernel_rfl
theorem jAr_loops : (Rows.planeAreasRow.loops == (Tryz.f19.params.toList ++ Rows.planeAreasSpec.plain.varTypes Tryz.prog).any (Tryz.prog.loopsFrom ·)) = true := by kernel_rfl
theorem jAr_wide : (Rows.planeAreasRow.wideKeys == (Tryz.f19.params.toList ++ Rows.planeAreasSpec.plain.varTypes Tryz.prog ++ Tryz.f19.resultTypes.toList).any (Tryz.prog.wideKeysFrom ·)) = true := by kernel_rfl
theorem jAr_vars : Rows.planeAreasSpec.vars.all (Tryz.prog.varReadable ·) = true := by kernel_rfl
theorem jAr_res : Tryz.f19.resultTypes.all (fun t => Tryz.prog.readableRec t && decide (t < Tryz.prog.types.size)) = true := by kernel_rfl
theorem jAr_iout : (Rows.planeAreasRow.ifacesOut == Tryz.f19.resultTypes.toList.any (Tryz.prog.ifacesRec ·)) = true := by kernel_rfl
theorem jAr_lout : (Rows.planeAreasRow.loopsOut == Tryz.f19.resultTypes.toList.any (Tryz.prog.loopsFrom ·)) = true := by kernel_rfl
theorem jAr_plain : (Rows.planeAreasRow.plainKeys == Tryz.prog.plainKeys) = true := by kernel_rfl
theorem jAr_short : Rows.planeAreasRow.shortTexts.isNone = true := by kernel_rfl
theorem jAr_lift0 : (Rows.planeAreasRow.lifted == false) = true := by kernel_rfl
theorem jAr_lift : (Rows.planeAreasRow.lifted == Tryz.prog.liftsFinal) = true := (congrArg (fun b => (Rows.planeAreasRow.lifted == b)) lift_is).trans jAr_lift0
theorem jAr_make0 : (some Make.cut == some Rows.planeAreasRow.make) = true := by kernel_rfl
theorem jAr_make : (Tryz.prog.make == some Rows.planeAreasRow.make) = true := (congrArg (fun b => (b == some Rows.planeAreasRow.make)) make_is).trans jAr_make0
theorem jAr_kinds : (Rows.planeAreasRow.kinds == (if Rows.planeAreasRow.domain.isEmpty then [] else Tryz.f19.params.toList.map fun t => match Tryz.prog.underlying t with | some (.int k) => some k | _ => none)) = true := by kernel_rfl
theorem jAr_pin : (Rows.planeAreasRow.pinned == Rows.planeAreasRow.pinnedBy) = true := by kernel_rfl
theorem jAr_veil : (Rows.planeAreasRow.veiled == (Tryz.f19.params.toList ++ Rows.planeAreasSpec.plain.varTypes Tryz.prog ++ Tryz.f19.resultTypes.toList).any (Tryz.prog.veiledRec ·)) = true := by kernel_rfl
theorem jAr_vfit : Rows.planeAreasRow.veiledFits Tryz.prog Tryz.f19.params.toList (Tryz.f19.params.toList ++ Rows.planeAreasSpec.plain.varTypes Tryz.prog ++ Tryz.f19.resultTypes.toList) = true := by kernel_rfl
theorem jAr_closed : joinedFacts Tryz.prog 19 Tryz.f19 Rows.planeAreasSpec Rows.planeAreasRow = true := (b_and (b_and (b_and (b_and (b_and (b_and (b_and (b_and (b_and (b_and (b_and (b_and (b_and (b_and (b_and (b_and (b_and (b_and (b_and (b_and (b_and (b_and (b_and (b_and (b_and (b_and (b_and (b_and (b_and (b_and (b_and jAr_wf jp_laid) jp_rowed) jAr_par) jAr_tie) jAr_st) jp_stops) jAr_kn) jp_knobs) jAr_inp) jAr_unf) jAr_rec) jAr_nam) jAr_maps) jAr_ifs) jAr_mout) jAr_loops) jAr_wide) jAr_vars) jAr_res) jAr_iout) jAr_lout) jAr_plain) jAr_short) jp_heard) jp_enter) jAr_lift) jAr_make) jAr_kinds) jAr_pin) jAr_veil) jAr_vfit)
theorem jAr_name : Tryz.prog.funcNamed Rows.planeAreasRow.func = some 19 := by kernel_rfl
theorem jAr_inst : Tryz.f19.isInstance Tryz.prog Rows.planeAreasRow.origin Rows.planeAreasRow.targs := of_decide_eq_true (by kernel_rfl)
theorem jAr_wrap : Tryz.f19.isWrapper Tryz.prog Rows.planeAreasRow.wrapper Rows.planeAreasRow.mainSum := by unfold Func.isWrapper; rw [if_neg (by decide +kernel)]; exact ⟨rfl, rfl⟩

set_option maxHeartbeats 2000000 in
theorem jAr_lifted (os : Os) (started : os.Started) (H : Type) (enc : TypeId × Value → H) :
    ReturnsInHanded {} Tryz.checked os 19 .any (Rows.planeAreasSpec.pre6 enc Tryz.prog Tryz.f19 Rows.planeAreasRow.domain false) (Rows.planeAreasSpec.post enc Tryz.prog Tryz.f19 false true false false) := by
  refine returnsInHanded_of_change (C := Tryz.checked) own_knob started (by kernel_rfl) Tryz.func19
    (ChangeSpec.witness6 (enc := enc) (C := Tryz.checked) false ⟨#[], #[.slice none 0 0, .agg #[.int .i64 0, .int .i64 0]], []⟩ 8 (by kernel_rfl) (by kernel_rfl) (by kernel_rfl) (by kernel_rfl)) ?_
  intro W base args ds gs before hval0 hW hcnd _
  have hval : ∀ (j : Nat) t v, Tryz.f19.params[j]? = some t → args[j]? = some v → Value.okWide Tryz.prog W .any base t v := hval0
  have hW' := hW
  obtain ⟨p, q, hA0, hV, rfl, hfz, hnd⟩ := hW
  have hA : DataW.TrodAll enc Tryz.prog W 0 (fun _ => true) true Tryz.f19.params.toList args.toList ds p := hA0
  rw [Tryz.params19] at hA hval
  obtain ⟨v0, vs0, d0, ds0, p0, q0, hargs, rfl, rfl, h0, r0⟩ := trodAll_cons hA
  obtain ⟨v1, vs1, d1, ds1, p1, q1, rfl, rfl, rfl, h1, r1⟩ := trodAll_cons r0
  obtain ⟨rfl, rfl, rfl⟩ := trodAll_nil r1
  obtain rfl : args = #[v0, v1] := by cases args; simp_all
  obtain ⟨rfl, rfl⟩ := trodVars_none hV
  have hlt : ∀ x ∈ p0 ++ p1, x.block < W.heap.size := fun x hx => hW'.lt x (by simpa using hx)
  have g0 := h0
  obtain ⟨av0, n0, cap0, l0, rfl, hl0, hp0⟩ := open_pts (hval 0 40 v0 rfl rfl) h0
  have g1 := h1
  obtain ⟨x1, y1, rfl, _, _⟩ := open_pt (hval 1 23 v1 rfl rfl) h1
  clear hA0 hval0 hval
  refine (planeAreas_all W av0 n0 cap0 l0 hl0 hp0 x1 y1).mono fun e W' ⟨he, hg⟩ => ?_
  subst he
  have t1 := Below.trod laidOut (by kernel_rfl) (of_decide_eq_true (by kernel_rfl)) g1 hg.below (fun x hx => hlt x (by simp [hx]))
  have t0 := Below.trod laidOut (by kernel_rfl) (of_decide_eq_true (by kernel_rfl)) g0 hg.below (fun x hx => hlt x (by simp [hx]))
  exact ⟨_, rfl, _, _, _, _, _, _, hW', trodAll_cons_mk (shut_bool Tryz.underlying4 _) trodAll_mk0, trodAll_cons_mk t0 (trodAll_cons_mk t1 trodAll_mk0), rfl, hg.below.frame _, fun h => by cases h⟩

/-- PlaneAreas, as it is given -/
theorem planeAreas_proved : Rows.PlaneAreasSaid :=
  OpenClaim.holds_of_wide 19 Tryz.f19 rfl rfl rfl rfl rfl rfl rfl ⟨rfl, rfl, rfl, rfl, rfl⟩ rfl rfl rfl rfl rfl jAr_name Tryz.func19 jAr_closed jAr_inst jAr_wrap
    (fun os started H enc _ => jAr_lifted os started H enc)

end Go.Proofs.YtpdfbboagaflhaaGreat
