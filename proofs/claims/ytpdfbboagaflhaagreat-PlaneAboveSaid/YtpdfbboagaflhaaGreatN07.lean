/- Which of two segments is above, as Above returns it, at every input. -/
import Derived.Test.YtpdfbboagaflhaaGreatN01
import Derived.Deep.RegionHeld3
import Derived.Deep.RegionWith
import Derived.BigRegion
import Derived.LoopTactic

set_option linter.unusedSimpArgs false
set_option linter.unusedVariables false
set_option maxRecDepth 100000
namespace Go.Proofs.YtpdfbboagaflhaaGreat
open Go.RowKit

theorem f_idem (a b c d : Int) : f1 (f1 a b c d) (f2 a b c d) (f3 a b c d) (f4 a b c d) = f1 a b c d ∧ f2 (f1 a b c d) (f2 a b c d) (f3 a b c d) (f4 a b c d) = f2 a b c d ∧ f3 (f1 a b c d) (f2 a b c d) (f3 a b c d) (f4 a b c d) = f3 a b c d ∧ f4 (f1 a b c d) (f2 a b c d) (f3 a b c d) (f4 a b c d) = f4 a b c d := by
  by_cases h1 : 0 < orI (cmpI a c) (cmpI b d)
  · have e1 : f1 a b c d = c := if_pos h1
    have e2 : f2 a b c d = d := if_pos h1
    have e3 : f3 a b c d = a := if_pos h1
    have e4 : f4 a b c d = b := if_pos h1
    have h2 : ¬ 0 < orI (cmpI c a) (cmpI d b) := by
      have k1 := orI_le c d a b
      have k2 := orI_le a b c d
      omega
    rw [e1, e2, e3, e4]
    exact ⟨if_neg h2, if_neg h2, if_neg h2, if_neg h2⟩
  · have e1 : f1 a b c d = a := if_neg h1
    have e2 : f2 a b c d = b := if_neg h1
    have e3 : f3 a b c d = c := if_neg h1
    have e4 : f4 a b c d = d := if_neg h1
    rw [e1, e2, e3, e4]
    exact ⟨if_neg h1, if_neg h1, if_neg h1, if_neg h1⟩
theorem hN_f (a b c d x : Int) : hN (f1 a b c d) (f2 a b c d) (f3 a b c d) (f4 a b c d) x = hN a b c d x ∧ hW (f1 a b c d) (f2 a b c d) (f3 a b c d) (f4 a b c d) = hW a b c d := by
  obtain ⟨e1, e2, e3, e4⟩ := f_idem a b c d
  unfold hN hW
  rw [e1, e2, e3, e4]; exact ⟨rfl, rfl⟩
theorem hW_f (a b c d : Int) : hW (f1 a b c d) (f2 a b c d) (f3 a b c d) (f4 a b c d) = hW a b c d := (hN_f a b c d 0).2
theorem ret_pair {a a' : Int} {b b' : Bool} (h : a = a') (k : b = b') : Ending.returned (.tuple #[.int .i64 a, .bool b]) = .returned (.tuple #[.int .i64 a', .bool b']) := by rw [h, k]

set_option maxHeartbeats 4000000 in
theorem above_no1 (a b c d e f g h : Int) (w : World) (k : ¬ (okS a b c d = true ∧ okS e f g h = true)) : Calls Tryz.prog 38 #[sv a b c d, sv e f g h] w fun en w' => en = .returned (.tuple #[.int .i64 (aN a b c d e f g h), .bool (aOk a b c d e f g h)]) ∧ New w w' := by
  have ho : aOk a b c d e f g h = false := by
    unfold aOk
    by_cases k1 : okS a b c d = true
    · have k2 : okS e f g h = false := by
        cases hk : okS e f g h
        · rfl
        · exact absurd ⟨k1, hk⟩ k
      simp [k2]
    · simp [show okS a b c d = false by simpa using k1]
  rw [aN, ho, if_neg (by simp)]
  have H1 := Lib.hid (validSeg_c a b c d)
  have H2 := Lib.hid (validSeg_c e f g h)
  by_cases k1 : okS a b c d = true
  · have k2 : okS e f g h = false := by
      cases hk : okS e f g h
      · rfl
      · exact absurd ⟨k1, hk⟩ k
    rw [k1] at H1
    rw [k2] at H2
    clear k k1 k2 ho
    go_enter Tryz.func38, Tryz.ntmps38
    go_wp2_with (first | (go_at_call 88; (with_reducible refine (H1.out _).mono ?_); rintro en w1 ⟨rfl, pw, rfl⟩) | (go_at_call 88; (with_reducible refine (H2.out _).mono ?_); rintro en w1 ⟨rfl, pw, rfl⟩))
    all_goals (refine bodyPost_ret (v := .tuple #[.int .i64 0, .bool false]) (by simp [results, Tryz.results38, go_sem]) rfl ⟨rfl, ?_⟩; (repeat (first | exact New.refl _ | apply New.alloc | apply New.aft | apply New.drew | refine New.setCell ?_ ?_ _)); all_goals (first | done | (simp [size_aft]; done) | (simp [size_aft]; omega)))
  · rw [show okS a b c d = false by simpa using k1] at H1
    generalize okS e f g h = B at *
    clear k k1 ho
    go_enter Tryz.func38, Tryz.ntmps38
    go_wp2_with (first | (go_at_call 88; (with_reducible refine (H1.out _).mono ?_); rintro en w1 ⟨rfl, pw, rfl⟩) | (go_at_call 88; (with_reducible refine (H2.out _).mono ?_); rintro en w1 ⟨rfl, pw, rfl⟩))
    all_goals (refine bodyPost_ret (v := .tuple #[.int .i64 0, .bool false]) (by simp [results, Tryz.results38, go_sem]) rfl ⟨rfl, ?_⟩; (repeat (first | exact New.refl _ | apply New.alloc | apply New.aft | apply New.drew | refine New.setCell ?_ ?_ _)); all_goals (first | done | (simp [size_aft]; done) | (simp [size_aft]; omega)))

theorem aN_no {a b c d e f g h : Int} (k : ¬ aFrom a b c d e f g h < aTo a b c d e f g h ∨ meetI a b c d e f g h = 3 ∨ meetI a b c d e f g h = 4) : aOk a b c d e f g h = false ∧ aN a b c d e f g h = 0 := by
  have : aOk a b c d e f g h = false := by
    unfold aOk
    rcases k with k | k | k
    · simp [k]
    · simp [k]
    · simp [k]
  rw [aN, this]; exact ⟨rfl, rfl⟩
theorem aN_yes {a b c d e f g h : Int} (k1 : okS a b c d = true) (k2 : okS e f g h = true) (u v : Int) (hu : aFrom a b c d e f g h = u) (hv : aTo a b c d e f g h = v) (k : u < v) (h3 : meetI a b c d e f g h ≠ 3) (h4 : meetI a b c d e f g h ≠ 4) : aOk a b c d e f g h = true ∧ aN a b c d e f g h = if aCmp a b c d e f g h (2 * u) ≠ 0 then aCmp a b c d e f g h (2 * u) else aCmp a b c d e f g h (2 * v) := by
  have : aOk a b c d e f g h = true := by
    unfold aOk
    rw [k1, k2, hu, hv]
    simp [k, h3, h4]
  rw [aN, this, aVal, hu, hv]; exact ⟨rfl, rfl⟩

set_option maxHeartbeats 16000000 in
theorem above_yes (a b c d e f g h : Int) (w : World) (k1 : okS a b c d = true) (k2 : okS e f g h = true) : Calls Tryz.prog 38 #[sv a b c d, sv e f g h] w fun en w' => en = .returned (.tuple #[.int .i64 (aN a b c d e f g h), .bool (aOk a b c d e f g h)]) ∧ New w w' := by
  have H1 := Lib.hid (validSeg_c a b c d)
  have H2 := Lib.hid (validSeg_c e f g h)
  rw [k1] at H1
  rw [k2] at H2
  have HNO := Lib.hid (aN_no (a := a) (b := b) (c := c) (d := d) (e := e) (f := f) (g := g) (h := h))
  have HYES := Lib.hid (aN_yes k1 k2)
  obtain ⟨⟨ha, hb⟩, ⟨hc, hd⟩, _⟩ := okS_iff.1 k1
  obtain ⟨⟨he, hf⟩, ⟨hg, hh⟩, _⟩ := okS_iff.1 k2
  obtain ⟨q1, q2, q3, q4⟩ := f_bd 0 10000 a b c d ha hb hc hd
  obtain ⟨r1, r2, r3, r4⟩ := f_bd 0 10000 e f g h he hf hg hh
  have HF1 := Lib.hid (forward_c a b c d)
  have HF2 := Lib.hid (forward_c e f g h)
  have HM := Lib.hid (fun w1 : World => meet_c (f1 a b c d) (f2 a b c d) (f3 a b c d) (f4 a b c d) (f1 e f g h) (f2 e f g h) (f3 e f g h) (f4 e f g h) w1 (by omega) (by omega) (by omega) (by omega) (by omega) (by omega) (by omega) (by omega))
  rw [meetI_f k1 k2] at HM
  have HH1 := Lib.hid (fun (x : Int) (hx : 0 ≤ x ∧ x ≤ 20000) (w1 : World) => heightAt_c (f1 a b c d) (f2 a b c d) (f3 a b c d) (f4 a b c d) x w1 q1 q2 q3 q4 hx)
  have HH2 := Lib.hid (fun (x : Int) (hx : 0 ≤ x ∧ x ≤ 20000) (w1 : World) => heightAt_c (f1 e f g h) (f2 e f g h) (f3 e f g h) (f4 e f g h) x w1 r1 r2 r3 r4 hx)
  simp only [hN_f, hW_f] at HH1 HH2
  have HC := Lib.hid (fun (x : Int) (hx : 0 ≤ x ∧ x ≤ 20000) (w1 : World) => rcompare_c (hN a b c d x) (hW a b c d) (hN e f g h x) (hW e f g h) w1 (h_bd a b c d x ha hb hc hd hx).2 (h_bd a b c d x ha hb hc hd hx).1 (h_bd e f g h x he hf hg hh hx).2 (h_bd e f g h x he hf hg hh hx).1)
  have HCE : ∀ x, cmpR (hN a b c d x) (hW a b c d) (hN e f g h x) (hW e f g h) = aCmp a b c d e f g h x := fun _ => rfl
  simp only [HCE] at HC
  have hFR : aFrom a b c d e f g h = max (f1 a b c d) (f1 e f g h) := rfl
  have hTO : aTo a b c d e f g h = min (f3 a b c d) (f3 e f g h) := rfl
  clear HCE k1 k2 ha hb hc hd he hf hg hh
  generalize aFrom a b c d e f g h = FR at *
  generalize aTo a b c d e f g h = TO at *
  generalize meetI a b c d e f g h = K at *
  generalize f1 a b c d = A at *
  generalize f2 a b c d = B at *
  generalize f3 a b c d = C at *
  generalize f4 a b c d = D at *
  generalize f1 e f g h = E at *
  generalize f2 e f g h = F at *
  generalize f3 e f g h = G at *
  generalize f4 e f g h = H at *
  have hFR' : ∀ inst : Decidable (A < E), @ite Int (A < E) inst E A = FR := fun _ => by split <;> omega
  have hTO' : ∀ inst : Decidable (G < C), @ite Int (G < C) inst G C = TO := fun _ => by split <;> omega
  have hFR2 : ∀ inst : Decidable (A < E), Value.int .i64 (@ite Int (A < E) inst E A) = .int .i64 FR := fun i => by rw [hFR' i]
  have hTO2 : ∀ inst : Decidable (G < C), Value.int .i64 (@ite Int (G < C) inst G C) = .int .i64 TO := fun i => by rw [hTO' i]
  have wF : IntKind.i64.wrap (2 * FR) = 2 * FR := IntWalk.i64_in _ (by omega)
  have wT : IntKind.i64.wrap (2 * TO) = 2 * TO := IntWalk.i64_in _ (by omega)
  have xF : 0 ≤ 2 * FR ∧ 2 * FR ≤ 20000 := by omega
  have xT : 0 ≤ 2 * TO ∧ 2 * TO ≤ 20000 := by omega
  have HF1' := Lib.hid (HH1.out (2 * FR) xF)
  have HF2' := Lib.hid (HH2.out (2 * FR) xF)
  have HFC := Lib.hid (HC.out (2 * FR) xF)
  have HT1' := Lib.hid (HH1.out (2 * TO) xT)
  have HT2' := Lib.hid (HH2.out (2 * TO) xT)
  have HTC := Lib.hid (HC.out (2 * TO) xT)
  have hcase : (FR < TO ∧ K ≠ 3 ∧ K ≠ 4) ∨ ¬ FR < TO ∨ (FR < TO ∧ K = 3) ∨ (FR < TO ∧ K ≠ 3 ∧ K = 4) := by omega
  clear hFR hTO xF xT HH1 HH2 HC q1 q2 q3 q4 r1 r2 r3 r4
  go_enter Tryz.func38, Tryz.ntmps38
  go_wp2_with (first | (go_at_call 88; (with_reducible refine (H1.out _).mono ?_); rintro en w1 ⟨rfl, pw, rfl⟩) | (go_at_call 88; (with_reducible refine (H2.out _).mono ?_); rintro en w1 ⟨rfl, pw, rfl⟩))
  go_region_with (first | (go_at_call 98; (with_reducible refine (HF1.out _).mono ?_); rintro en w1 ⟨rfl, pw, rfl⟩) | (go_at_call 98; (with_reducible refine (HF2.out _).mono ?_); rintro en w1 ⟨rfl, pw, rfl⟩))
  all_goals (go_wp2_with fail)
  all_goals go_region
  all_goals clear hFR' hTO' hFR2 hTO2
  all_goals rcases hcase with ⟨hc1, hc2, hc3⟩ | hc1 | ⟨hc1, hc2⟩ | ⟨hc1, hc2, hc3⟩
  all_goals first
    | (obtain ⟨o1, o2⟩ := HNO.out (.inl hc1)
       have d1 : decide (TO ≤ FR) = true := by simp; omega
       go_wp2_with (go_at_call 92; refine (HM.out _).mono ?_; rintro en w1 ⟨rfl, pm, rfl⟩)
       refine bodyPost_ret (v := .tuple #[.int .i64 0, .bool false]) (by simp [results, Tryz.results38, go_sem]) rfl ⟨ret_pair o2.symm o1.symm, ?_⟩; (repeat (first | exact New.refl _ | apply New.alloc | apply New.aft | apply New.drew | refine New.setCell ?_ ?_ _)); all_goals (first | done | (simp [size_aft]; done) | (simp [size_aft]; omega)); done)
    | (obtain ⟨o1, o2⟩ := HNO.out (.inr (.inl hc2))
       have d1 : decide (TO ≤ FR) = false := by simp; omega
       have d2 : (K == 3) = true := by simpa using hc2
       go_wp2_with (go_at_call 92; refine (HM.out _).mono ?_; rintro en w1 ⟨rfl, pm, rfl⟩)
       refine bodyPost_ret (v := .tuple #[.int .i64 0, .bool false]) (by simp [results, Tryz.results38, go_sem]) rfl ⟨ret_pair o2.symm o1.symm, ?_⟩; (repeat (first | exact New.refl _ | apply New.alloc | apply New.aft | apply New.drew | refine New.setCell ?_ ?_ _)); all_goals (first | done | (simp [size_aft]; done) | (simp [size_aft]; omega)); done)
    | (obtain ⟨o1, o2⟩ := HNO.out (.inr (.inr hc3))
       have d1 : decide (TO ≤ FR) = false := by simp; omega
       have d2 : (K == 3) = false := by simpa using hc2
       have d3 : (K == 4) = true := by simpa using hc3
       go_wp2_with (go_at_call 92; refine (HM.out _).mono ?_; rintro en w1 ⟨rfl, pm, rfl⟩)
       refine bodyPost_ret (v := .tuple #[.int .i64 0, .bool false]) (by simp [results, Tryz.results38, go_sem]) rfl ⟨ret_pair o2.symm o1.symm, ?_⟩; (repeat (first | exact New.refl _ | apply New.alloc | apply New.aft | apply New.drew | refine New.setCell ?_ ?_ _)); all_goals (first | done | (simp [size_aft]; done) | (simp [size_aft]; omega)); done)
    | skip
  all_goals
    obtain ⟨o1, o2⟩ := HYES.out FR TO rfl rfl hc1 hc2 hc3
    have d1 : decide (TO ≤ FR) = false := by simp; omega
    have d2 : (K == 3) = false := by simpa using hc2
    have d3 : (K == 4) = false := by simpa using hc3
    generalize aCmp a b c d e f g h (2 * FR) = X at *
    generalize aCmp a b c d e f g h (2 * TO) = Y at *
    by_cases hz : X = 0
    · have z1 : (X == 0) = true := by simpa using hz
      have z2 : (X != 0) = false := by simpa using hz
      have e1 : Y = aN a b c d e f g h := by rw [o2, if_neg (by omega)]
      have HE1 := Lib.hid e1
      have HO1 := Lib.hid o1.symm
      clear o1 o2 e1 hz
      go_wp2_with (go_at_call 92; refine (HM.out _).mono ?_; rintro en w1 ⟨rfl, pm, rfl⟩)
      first | refine wp_region_at2 (by kernel_rfl) (by kernel_rfl) ?_ | refine wp_region_at (by kernel_rfl) (by kernel_rfl) ?_
      repeat (go_big_quiet_step (first | (go_at_call 99; first | (with_reducible exact calls_new (HF1'.out _)) | (with_reducible exact calls_new (HF2'.out _))) | (go_at_call 100; with_reducible exact calls_new (HFC.out _))))
      refine wpQuiet_nil ?_
      rintro _ ⟨q, rfl⟩
      go_wp2_with fail
      first | refine wp_region_at2 (by kernel_rfl) (by kernel_rfl) ?_ | refine wp_region_at (by kernel_rfl) (by kernel_rfl) ?_
      repeat (go_big_quiet_step (first | (go_at_call 99; first | (with_reducible exact calls_new (HT1'.out _)) | (with_reducible exact calls_new (HT2'.out _))) | (go_at_call 100; with_reducible exact calls_new (HTC.out _))))
      refine wpQuiet_nil ?_
      rintro _ ⟨q', rfl⟩
      go_wp2_with fail
      refine bodyPost_ret (v := .tuple #[.int .i64 Y, .bool true]) (by simp [results, Tryz.results38, go_sem]) rfl ⟨ret_pair HE1.out HO1.out, ?_⟩; (repeat (first | exact New.refl _ | apply New.alloc | apply New.aft | apply New.drew | refine New.setCell ?_ ?_ _)); all_goals (first | done | (simp [size_aft]; done) | (simp [size_aft]; omega))
    · have z1 : (X == 0) = false := by simpa using hz
      have z2 : (X != 0) = true := by simpa using hz
      have e1 : X = aN a b c d e f g h := by rw [o2, if_pos hz]
      have HE1 := Lib.hid e1
      have HO1 := Lib.hid o1.symm
      clear o1 o2 e1 hz
      go_wp2_with (go_at_call 92; refine (HM.out _).mono ?_; rintro en w1 ⟨rfl, pm, rfl⟩)
      first | refine wp_region_at2 (by kernel_rfl) (by kernel_rfl) ?_ | refine wp_region_at (by kernel_rfl) (by kernel_rfl) ?_
      repeat (go_big_quiet_step (first | (go_at_call 99; first | (with_reducible exact calls_new (HF1'.out _)) | (with_reducible exact calls_new (HF2'.out _))) | (go_at_call 100; with_reducible exact calls_new (HFC.out _))))
      refine wpQuiet_nil ?_
      rintro _ ⟨q, rfl⟩
      go_wp2_with fail
      refine bodyPost_ret (v := .tuple #[.int .i64 X, .bool true]) (by simp [results, Tryz.results38, go_sem]) rfl ⟨ret_pair HE1.out HO1.out, ?_⟩; (repeat (first | exact New.refl _ | apply New.alloc | apply New.aft | apply New.drew | refine New.setCell ?_ ?_ _)); all_goals (first | done | (simp [size_aft]; done) | (simp [size_aft]; omega))

theorem Above_c (a b c d e f g h : Int) (w : World) : Calls Tryz.prog 38 #[sv a b c d, sv e f g h] w fun en w' => en = .returned (.tuple #[.int .i64 (aN a b c d e f g h), .bool (aOk a b c d e f g h)]) ∧ New w w' := by
  by_cases k : okS a b c d = true ∧ okS e f g h = true
  · exact above_yes a b c d e f g h w k.1 k.2
  · exact above_no1 a b c d e f g h w k

end Go.Proofs.YtpdfbboagaflhaaGreat
