/- PlaneAbove returns true for every input, and its arguments read afterwards as before: the given statement, without a condition. -/
import Derived.Test.YtpdfbboagaflhaaGreatN07
import Derived.Test.YtpdfbboagaflhaaGreatN03
import Derived.Test.YtpdfbboagaflhaaGreatM48
import Derived.Deep.RegionHeld3
import Derived.Deep.RegionWith
import Derived.BigRegion
import Derived.LoopTactic
import Derived.Test.YtpdfbboagaflhaaGreatM51
import Derived.Test.YtpdfbboagaflhaaGreatRows
import Derived.ProofKit
import Derived.OpenShut
import Derived.Lib.SmallJoins
import Derived.Carry

set_option linter.unusedSimpArgs false
set_option linter.unusedVariables false
set_option maxRecDepth 100000
namespace Go.Proofs.YtpdfbboagaflhaaGreat
open Go.RowKit

set_option maxHeartbeats 2000000 in
theorem ref_span (a b c d : Int) (w : World) : Calls Tryz.prog 101 #[sv a b c d] w fun en w' => en = .returned (.tuple #[.int .i64 (f1 a b c d), .int .i64 (f3 a b c d)]) ∧ New w w' := by
  obtain ⟨e1, e2⟩ := f_minmax a b c d
  have h1 : min a c = f1 a b c d := e1.symm
  have h2 : max a c = f3 a b c d := e2.symm
  clear e1 e2
  generalize f1 a b c d = L at *
  generalize f3 a b c d = M at *
  go_enter Tryz.func101, Tryz.ntmps101
  go_wp2_with fail
  go_region
  all_goals (go_wp2_with fail)
  all_goals (refine bodyPost_ret (v := .tuple #[.int .i64 L, .int .i64 M]) (by simp [results, Tryz.results101, go_sem, *]) rfl ⟨rfl, ?_⟩; (repeat (first | exact New.refl _ | apply New.alloc | apply New.aft | apply New.drew | refine New.setCell ?_ ?_ _)); all_goals (first | done | (simp [size_aft]; done) | (simp [size_aft]; omega)))

set_option maxHeartbeats 4000000 in
theorem ref_compare (n1 d1 n2 d2 : Int) (w : World) (h1 : -600000000 ≤ n1 ∧ n1 ≤ 600000000) (h2 : -20000 ≤ d1 ∧ d1 ≤ 20000) (h3 : -600000000 ≤ n2 ∧ n2 ≤ 600000000) (h4 : -20000 ≤ d2 ∧ d2 ≤ 20000) :
    Calls Tryz.prog 102 #[pv n1 d1, pv n2 d2] w fun e w' => e = .returned (.int .i64 (cmpR n1 d1 n2 d2)) ∧ New w w' := by
  have m1 := mul_bd n1 d2 600000000 20000 (by omega) (by omega) (by omega) (by omega)
  have m2 := mul_bd n2 d1 600000000 20000 (by omega) (by omega) (by omega) (by omega)
  simp only [Int.reduceMul, Int.reduceNeg] at m1 m2
  have HS := Lib.hid (ref_sign (n1 * d2 - n2 * d1))
  rw [cmpI_sub, show cmpI (n1 * d2) (n2 * d1) = cmpR n1 d1 n2 d2 from rfl] at HS
  generalize cmpR n1 d1 n2 d2 = C at *
  go_enter Tryz.func102, Tryz.ntmps102
  go_wp2_with (go_at_call 164; refine (HS.out _).mono ?_; rintro e w1 ⟨rfl, pw, rfl⟩)
  all_goals (go_ret; refine ⟨rfl, ?_⟩; (repeat (first | exact New.refl _ | apply New.alloc | apply New.aft | apply New.drew | refine New.setCell ?_ ?_ _)); all_goals (first | done | (simp [size_aft]; done) | (simp [size_aft]; omega)))

theorem hN_lt {a b c d : Int} (x : Int) (h : a < c) : hN a b c d x = b * (c - a) * 2 + (d - b) * (x - a * 2) ∧ hW a b c d = (c - a) * 2 := by
  have hn : ¬ 0 < orI (cmpI a c) (cmpI b d) := by have := orI_le a b c d; omega
  have e1 : f1 a b c d = a := if_neg hn
  have e2 : f2 a b c d = b := if_neg hn
  have e3 : f3 a b c d = c := if_neg hn
  have e4 : f4 a b c d = d := if_neg hn
  unfold hN hW
  rw [e1, e2, e3, e4]; grind
theorem hN_gt {a b c d : Int} (x : Int) (h : c < a) : hN a b c d x = d * (a - c) * 2 + (b - d) * (x - c * 2) ∧ hW a b c d = (a - c) * 2 := by
  have hn : 0 < orI (cmpI a c) (cmpI b d) := by have := orI_le a b c d; omega
  have e1 : f1 a b c d = c := if_pos hn
  have e2 : f2 a b c d = d := if_pos hn
  have e3 : f3 a b c d = a := if_pos hn
  have e4 : f4 a b c d = b := if_pos hn
  unfold hN hW
  rw [e1, e2, e3, e4]; grind

set_option maxHeartbeats 4000000 in
theorem ref_heightAt (a b c d x : Int) (w : World) (ha : 0 ≤ a ∧ a ≤ 10000) (hb : 0 ≤ b ∧ b ≤ 10000) (hc : 0 ≤ c ∧ c ≤ 10000) (hd : 0 ≤ d ∧ d ≤ 10000) (hx : 0 ≤ x ∧ x ≤ 20000) (hv : a ≠ c) :
    Calls Tryz.prog 103 #[sv a b c d, .int .i64 x, .int .i64 2] w fun e w' => e = .returned (pv (hN a b c d x) (hW a b c d)) ∧ New w w' := by
  rcases Int.lt_or_gt_of_ne hv with h | h
  · obtain ⟨e1, e2⟩ := hN_lt (b := b) (d := d) x h
    rw [e1, e2]
    have m1 := mul_bd b (c - a) 10000 10000 (by omega) (by omega) (by omega) (by omega)
    have m2 := mul_bd (d - b) (x - a * 2) 10000 40000 (by omega) (by omega) (by omega) (by omega)
    simp only [Int.reduceMul, Int.reduceNeg] at m1 m2
    clear e1 e2
    go_enter Tryz.func103, Tryz.ntmps103
    go_wp2_with fail
    all_goals (try (exfalso; omega))
    all_goals (refine bodyPost_ret (v := pv (b * (c - a) * 2 + (d - b) * (x - a * 2)) ((c - a) * 2)) (by simp [results, Tryz.results103, go_sem]) rfl ⟨rfl, ?_⟩; (repeat (first | exact New.refl _ | apply New.alloc | apply New.aft | apply New.drew | refine New.setCell ?_ ?_ _)); all_goals (first | done | (simp [size_aft]; done) | (simp [size_aft]; omega)))
  · obtain ⟨e1, e2⟩ := hN_gt (b := b) (d := d) x h
    rw [e1, e2]
    have m1 := mul_bd d (a - c) 10000 10000 (by omega) (by omega) (by omega) (by omega)
    have m2 := mul_bd (b - d) (x - c * 2) 10000 40000 (by omega) (by omega) (by omega) (by omega)
    simp only [Int.reduceMul, Int.reduceNeg] at m1 m2
    clear e1 e2
    go_enter Tryz.func103, Tryz.ntmps103
    go_wp2_with fail
    all_goals (try (exfalso; omega))
    all_goals (refine bodyPost_ret (v := pv (d * (a - c) * 2 + (b - d) * (x - c * 2)) ((a - c) * 2)) (by simp [results, Tryz.results103, go_sem]) rfl ⟨rfl, ?_⟩; (repeat (first | exact New.refl _ | apply New.alloc | apply New.aft | apply New.drew | refine New.setCell ?_ ?_ _)); all_goals (first | done | (simp [size_aft]; done) | (simp [size_aft]; omega)))

set_option maxHeartbeats 4000000 in
theorem ref_above_no (a b c d e f g h : Int) (w : World) (k : ¬ (okS a b c d = true ∧ okS e f g h = true ∧ a ≠ c ∧ e ≠ g)) : Calls Tryz.prog 39 #[sv a b c d, sv e f g h] w fun en w' => en = .returned (.tuple #[.int .i64 (aN a b c d e f g h), .bool (aOk a b c d e f g h)]) ∧ New w w' := by
  have ho : aOk a b c d e f g h = false := by
    rw [Bool.eq_false_iff]
    intro hh
    simp only [aOk, Bool.and_eq_true, decide_eq_true_eq] at hh
    obtain ⟨⟨⟨k1, k2⟩, k3⟩, _⟩ := hh
    apply k
    unfold aFrom aTo at k3
    have x1 := f_minmax a b c d
    have x2 := f_minmax e f g h
    exact ⟨k1, k2, by omega, by omega⟩
  rw [aN, ho, if_neg (by simp)]
  have H1 := Lib.hid (ref_validSeg a b c d)
  have H2 := Lib.hid (ref_validSeg e f g h)
  clear ho
  cases k1 : okS a b c d
  · rw [k1] at H1
    generalize okS e f g h = B at *
    clear k k1
    go_enter Tryz.func39, Tryz.ntmps39
    go_wp2_with (first | (go_at_call 90; (with_reducible refine (H1.out _).mono ?_); rintro en w1 ⟨rfl, pw, rfl⟩) | (go_at_call 90; (with_reducible refine (H2.out _).mono ?_); rintro en w1 ⟨rfl, pw, rfl⟩))
    all_goals (refine bodyPost_ret (v := .tuple #[.int .i64 0, .bool false]) (by simp [results, Tryz.results39, go_sem]) rfl ⟨rfl, ?_⟩; (repeat (first | exact New.refl _ | apply New.alloc | apply New.aft | apply New.drew | refine New.setCell ?_ ?_ _)); all_goals (first | done | (simp [size_aft]; done) | (simp [size_aft]; omega)))
  · cases k2 : okS e f g h
    · rw [k1] at H1
      rw [k2] at H2
      clear k k1 k2
      go_enter Tryz.func39, Tryz.ntmps39
      go_wp2_with (first | (go_at_call 90; (with_reducible refine (H1.out _).mono ?_); rintro en w1 ⟨rfl, pw, rfl⟩) | (go_at_call 90; (with_reducible refine (H2.out _).mono ?_); rintro en w1 ⟨rfl, pw, rfl⟩))
      all_goals (refine bodyPost_ret (v := .tuple #[.int .i64 0, .bool false]) (by simp [results, Tryz.results39, go_sem]) rfl ⟨rfl, ?_⟩; (repeat (first | exact New.refl _ | apply New.alloc | apply New.aft | apply New.drew | refine New.setCell ?_ ?_ _)); all_goals (first | done | (simp [size_aft]; done) | (simp [size_aft]; omega)))
    · rw [k1] at H1
      rw [k2] at H2
      by_cases h1 : a = c
      · subst h1
        clear k k1 k2
        go_enter Tryz.func39, Tryz.ntmps39
        go_wp2_with (first | (go_at_call 90; (with_reducible refine (H1.out _).mono ?_); rintro en w1 ⟨rfl, pw, rfl⟩) | (go_at_call 90; (with_reducible refine (H2.out _).mono ?_); rintro en w1 ⟨rfl, pw, rfl⟩))
        all_goals (refine bodyPost_ret (v := .tuple #[.int .i64 0, .bool false]) (by simp [results, Tryz.results39, go_sem]) rfl ⟨rfl, ?_⟩; (repeat (first | exact New.refl _ | apply New.alloc | apply New.aft | apply New.drew | refine New.setCell ?_ ?_ _)); all_goals (first | done | (simp [size_aft]; done) | (simp [size_aft]; omega)))
      · have h2 : e = g := by
          by_cases h2 : e = g
          · exact h2
          · exact absurd ⟨k1, k2, h1, h2⟩ k
        subst h2
        have z1 : (a == c) = false := by simpa using h1
        clear k k1 k2 h1
        go_enter Tryz.func39, Tryz.ntmps39
        go_wp2_with (first | (go_at_call 90; (with_reducible refine (H1.out _).mono ?_); rintro en w1 ⟨rfl, pw, rfl⟩) | (go_at_call 90; (with_reducible refine (H2.out _).mono ?_); rintro en w1 ⟨rfl, pw, rfl⟩))
        all_goals (refine bodyPost_ret (v := .tuple #[.int .i64 0, .bool false]) (by simp [results, Tryz.results39, go_sem]) rfl ⟨rfl, ?_⟩; (repeat (first | exact New.refl _ | apply New.alloc | apply New.aft | apply New.drew | refine New.setCell ?_ ?_ _)); all_goals (first | done | (simp [size_aft]; done) | (simp [size_aft]; omega)))

set_option maxHeartbeats 8000000 in
theorem ref_above_yes (a b c d e f g h : Int) (w : World) (k1 : okS a b c d = true) (k2 : okS e f g h = true) (v1 : a ≠ c) (v2 : e ≠ g) : Calls Tryz.prog 39 #[sv a b c d, sv e f g h] w fun en w' => en = .returned (.tuple #[.int .i64 (aN a b c d e f g h), .bool (aOk a b c d e f g h)]) ∧ New w w' := by
  have H1 := Lib.hid (ref_validSeg a b c d)
  have H2 := Lib.hid (ref_validSeg e f g h)
  rw [k1] at H1
  rw [k2] at H2
  obtain ⟨⟨ha, hb⟩, ⟨hc, hd⟩, _⟩ := okS_iff.1 k1
  obtain ⟨⟨he, hf⟩, ⟨hg, hh⟩, _⟩ := okS_iff.1 k2
  have HM := Lib.hid (fun w1 : World => ref_meet a b c d e f g h w1 ha hb hc hd he hf hg hh)
  rw [meet_eq k1 k2] at HM
  have S1 := Lib.hid (fun w1 : World => ref_span a b c d w1)
  have S2 := Lib.hid (fun w1 : World => ref_span e f g h w1)
  have b1 := f_bd 0 10000 a b c d ha hb hc hd
  have b2 := f_bd 0 10000 e f g h he hf hg hh
  have bx : 0 ≤ aFrom a b c d e f g h + aTo a b c d e f g h ∧ aFrom a b c d e f g h + aTo a b c d e f g h ≤ 20000 := by unfold aFrom aTo; omega
  have HH1 := Lib.hid (fun w1 : World => ref_heightAt a b c d (aFrom a b c d e f g h + aTo a b c d e f g h) w1 ha hb hc hd bx v1)
  have HH2 := Lib.hid (fun w1 : World => ref_heightAt e f g h (aFrom a b c d e f g h + aTo a b c d e f g h) w1 he hf hg hh bx v2)
  have HC := Lib.hid (fun w1 : World => ref_compare (hN a b c d (aFrom a b c d e f g h + aTo a b c d e f g h)) (hW a b c d) (hN e f g h (aFrom a b c d e f g h + aTo a b c d e f g h)) (hW e f g h) w1 (h_bd a b c d _ ha hb hc hd bx).2 (h_bd a b c d _ ha hb hc hd bx).1 (h_bd e f g h _ he hf hg hh bx).2 (h_bd e f g h _ he hf hg hh bx).1)
  have HCE : cmpR (hN a b c d (aFrom a b c d e f g h + aTo a b c d e f g h)) (hW a b c d) (hN e f g h (aFrom a b c d e f g h + aTo a b c d e f g h)) (hW e f g h) = aCmp a b c d e f g h (aFrom a b c d e f g h + aTo a b c d e f g h) := rfl
  rw [HCE] at HC
  have hFR : max (f1 a b c d) (f1 e f g h) = aFrom a b c d e f g h := rfl
  have hTO : min (f3 a b c d) (f3 e f g h) = aTo a b c d e f g h := rfl
  have z1 : (a == c) = false := by simpa using v1
  have z2 : (e == g) = false := by simpa using v2
  have HNO := Lib.hid (aN_no (a := a) (b := b) (c := c) (d := d) (e := e) (f := f) (g := g) (h := h))
  have HYES := Lib.hid (fun (p : aFrom a b c d e f g h < aTo a b c d e f g h) (q : meetI a b c d e f g h ≠ 3) (r : meetI a b c d e f g h ≠ 4) =>
    have ho := (aN_yes k1 k2 _ _ rfl rfl p q r).1
    show aOk a b c d e f g h = true ∧ aN a b c d e f g h = aCmp a b c d e f g h (aFrom a b c d e f g h + aTo a b c d e f g h) from ⟨ho, by rw [aN, if_pos ho, (aCmp_mid ho).1]⟩)
  clear HCE k1 k2 ha hb hc hd he hf hg hh b1 b2 v1 v2
  generalize aFrom a b c d e f g h = FR at *
  generalize aTo a b c d e f g h = TO at *
  have wx : IntKind.i64.wrap (FR + TO) = FR + TO := IntWalk.i64_in _ (by omega)
  generalize hX : FR + TO = X at *
  generalize meetI a b c d e f g h = K at *
  generalize aCmp a b c d e f g h X = C at *
  generalize hN a b c d X = N1 at *
  generalize hW a b c d = W1 at *
  generalize hN e f g h X = N2 at *
  generalize hW e f g h = W2 at *
  generalize f1 a b c d = A1 at *
  generalize f3 a b c d = A3 at *
  generalize f1 e f g h = E1 at *
  generalize f3 e f g h = E3 at *
  have hcase : (FR < TO ∧ K ≠ 3 ∧ K ≠ 4) ∨ K = 3 ∨ (K ≠ 3 ∧ K = 4) ∨ (K ≠ 3 ∧ K ≠ 4 ∧ ¬ FR < TO) := by omega
  rcases hcase with ⟨hc1, hc2, hc3⟩ | hc1 | ⟨hc1, hc2⟩ | ⟨hc1, hc2, hc3⟩
  · obtain ⟨o1, o2⟩ := HYES.out hc1 hc2 hc3
    rw [o1, o2]
    have d1 : decide (TO ≤ FR) = false := by simp; omega
    have d2 : (K == 3) = false := by simpa using hc2
    have d3 : (K == 4) = false := by simpa using hc3
    clear HNO HYES o1 o2
    go_enter Tryz.func39, Tryz.ntmps39
    go_wp2_with (first | (go_at_call 90; (with_reducible refine (H1.out _).mono ?_); rintro en w1 ⟨rfl, pw, rfl⟩) | (go_at_call 90; (with_reducible refine (H2.out _).mono ?_); rintro en w1 ⟨rfl, pw, rfl⟩) | (go_at_call 97; refine (HM.out _).mono ?_; rintro en w1 ⟨rfl, pw, rfl⟩) | (go_at_call 101; (with_reducible refine (S1.out _).mono ?_); rintro en w1 ⟨rfl, pw, rfl⟩) | (go_at_call 101; (with_reducible refine (S2.out _).mono ?_); rintro en w1 ⟨rfl, pw, rfl⟩))
    first | refine wp_region_at2 (by kernel_rfl) (by kernel_rfl) ?_ | refine wp_region_at (by kernel_rfl) (by kernel_rfl) ?_
    repeat (go_big_quiet_step (first | (go_at_call 103; first | (with_reducible exact calls_new (HH1.out _)) | (with_reducible exact calls_new (HH2.out _))) | (go_at_call 102; with_reducible exact calls_new (HC.out _))))
    refine wpQuiet_nil ?_
    rintro _ ⟨q, rfl⟩
    go_wp2_with fail
    refine bodyPost_ret (v := .tuple #[.int .i64 C, .bool true]) (by simp [results, Tryz.results39, go_sem]) rfl ⟨rfl, ?_⟩; (repeat (first | exact New.refl _ | apply New.alloc | apply New.aft | apply New.drew | refine New.setCell ?_ ?_ _)); all_goals (first | done | (simp [size_aft]; done) | (simp [size_aft]; omega))
  · obtain ⟨o1, o2⟩ := HNO.out (.inr (.inl hc1))
    rw [o1, o2]
    have d2 : (K == 3) = true := by simpa using hc1
    clear HNO HYES o1 o2
    go_enter Tryz.func39, Tryz.ntmps39
    go_wp2_with (first | (go_at_call 90; (with_reducible refine (H1.out _).mono ?_); rintro en w1 ⟨rfl, pw, rfl⟩) | (go_at_call 90; (with_reducible refine (H2.out _).mono ?_); rintro en w1 ⟨rfl, pw, rfl⟩) | (go_at_call 97; refine (HM.out _).mono ?_; rintro en w1 ⟨rfl, pw, rfl⟩) | (go_at_call 101; (with_reducible refine (S1.out _).mono ?_); rintro en w1 ⟨rfl, pw, rfl⟩) | (go_at_call 101; (with_reducible refine (S2.out _).mono ?_); rintro en w1 ⟨rfl, pw, rfl⟩))
    all_goals (refine bodyPost_ret (v := .tuple #[.int .i64 0, .bool false]) (by simp [results, Tryz.results39, go_sem]) rfl ⟨rfl, ?_⟩; (repeat (first | exact New.refl _ | apply New.alloc | apply New.aft | apply New.drew | refine New.setCell ?_ ?_ _)); all_goals (first | done | (simp [size_aft]; done) | (simp [size_aft]; omega)))
  · obtain ⟨o1, o2⟩ := HNO.out (.inr (.inr hc2))
    rw [o1, o2]
    have d2 : (K == 3) = false := by simpa using hc1
    have d3 : (K == 4) = true := by simpa using hc2
    clear HNO HYES o1 o2
    go_enter Tryz.func39, Tryz.ntmps39
    go_wp2_with (first | (go_at_call 90; (with_reducible refine (H1.out _).mono ?_); rintro en w1 ⟨rfl, pw, rfl⟩) | (go_at_call 90; (with_reducible refine (H2.out _).mono ?_); rintro en w1 ⟨rfl, pw, rfl⟩) | (go_at_call 97; refine (HM.out _).mono ?_; rintro en w1 ⟨rfl, pw, rfl⟩) | (go_at_call 101; (with_reducible refine (S1.out _).mono ?_); rintro en w1 ⟨rfl, pw, rfl⟩) | (go_at_call 101; (with_reducible refine (S2.out _).mono ?_); rintro en w1 ⟨rfl, pw, rfl⟩))
    all_goals (refine bodyPost_ret (v := .tuple #[.int .i64 0, .bool false]) (by simp [results, Tryz.results39, go_sem]) rfl ⟨rfl, ?_⟩; (repeat (first | exact New.refl _ | apply New.alloc | apply New.aft | apply New.drew | refine New.setCell ?_ ?_ _)); all_goals (first | done | (simp [size_aft]; done) | (simp [size_aft]; omega)))
  · obtain ⟨o1, o2⟩ := HNO.out (.inl hc3)
    rw [o1, o2]
    have d1 : decide (TO ≤ FR) = true := by simp; omega
    have d2 : (K == 3) = false := by simpa using hc1
    have d3 : (K == 4) = false := by simpa using hc2
    clear HNO HYES o1 o2
    go_enter Tryz.func39, Tryz.ntmps39
    go_wp2_with (first | (go_at_call 90; (with_reducible refine (H1.out _).mono ?_); rintro en w1 ⟨rfl, pw, rfl⟩) | (go_at_call 90; (with_reducible refine (H2.out _).mono ?_); rintro en w1 ⟨rfl, pw, rfl⟩) | (go_at_call 97; refine (HM.out _).mono ?_; rintro en w1 ⟨rfl, pw, rfl⟩) | (go_at_call 101; (with_reducible refine (S1.out _).mono ?_); rintro en w1 ⟨rfl, pw, rfl⟩) | (go_at_call 101; (with_reducible refine (S2.out _).mono ?_); rintro en w1 ⟨rfl, pw, rfl⟩))
    all_goals (refine bodyPost_ret (v := .tuple #[.int .i64 0, .bool false]) (by simp [results, Tryz.results39, go_sem]) rfl ⟨rfl, ?_⟩; (repeat (first | exact New.refl _ | apply New.alloc | apply New.aft | apply New.drew | refine New.setCell ?_ ?_ _)); all_goals (first | done | (simp [size_aft]; done) | (simp [size_aft]; omega)))

theorem ref_Above (a b c d e f g h : Int) (w : World) : Calls Tryz.prog 39 #[sv a b c d, sv e f g h] w fun en w' => en = .returned (.tuple #[.int .i64 (aN a b c d e f g h), .bool (aOk a b c d e f g h)]) ∧ New w w' := by
  by_cases k : okS a b c d = true ∧ okS e f g h = true ∧ a ≠ c ∧ e ≠ g
  · exact ref_above_yes a b c d e f g h w k.1 k.2.1 k.2.2.1 k.2.2.2
  · exact ref_above_no a b c d e f g h w k

theorem aN_bd (a b c d e f g h : Int) : (-1 ≤ aN a b c d e f g h ∧ aN a b c d e f g h ≤ 1) := by
  unfold aN aVal aCmp cmpR
  split
  · split
    · exact cmpI_bd _ _
    · exact cmpI_bd _ _
  · omega

set_option maxHeartbeats 8000000 in
theorem planeAbove_all (w : World) (a b c d e f g h : Int) : Calls Tryz.prog 6 #[sv a b c d, sv e f g h] w fun en w' => en = .returned (.bool true) ∧ New w w' := by
  have HL := Lib.hid alive_c
  have H1 := Lib.hid (fun w1 : World => Above_c a b c d e f g h w1)
  have H2 := Lib.hid (fun w1 : World => ref_Above a b c d e f g h w1)
  have H3 := Lib.hid (fun w1 : World => Above_c e f g h a b c d w1)
  rw [aN_swap, aOk_swap] at H3
  have hb := aN_bd a b c d e f g h
  have hz : aOk a b c d e f g h = true → aN a b c d e f g h ≠ 0 := fun ho => by rw [aN, if_pos ho]; exact (aCmp_mid ho).2
  generalize aN a b c d e f g h = N at *
  generalize aOk a b c d e f g h = O at *
  have w1 : IntKind.i64.wrap (-N) = -N := IntWalk.i64_in _ (by omega)
  have t1 : (N == N) = true := by simp
  have t2 : (O == O) = true := by simp
  have t3 : (-N == -N) = true := by simp
  cases O
  · clear hz
    go_enter Tryz.func6, Tryz.ntmps6
    go_wp2_with (first | (go_at_call 31; refine (HL.out _).mono ?_; rintro e w1 ⟨rfl, pw, rfl⟩) | (go_at_call 38; (with_reducible refine (H1.out _).mono ?_); rintro e w1 ⟨rfl, pw, rfl⟩) | (go_at_call 38; (with_reducible refine (H3.out _).mono ?_); rintro e w1 ⟨rfl, pw, rfl⟩) | (go_at_call 39; (with_reducible refine (H2.out _).mono ?_); rintro e w1 ⟨rfl, pw, rfl⟩))
    all_goals (go_ret; refine ⟨ret_bool (by simp), ?_⟩; (repeat (first | exact New.refl _ | apply New.alloc | apply New.aft | apply New.drew | refine New.setCell ?_ ?_ _)); all_goals (first | done | (simp [size_aft]; done) | (simp [size_aft]; omega)))
  · have hz' := hz rfl
    have t4 : (N != 0) = true := by simpa using hz'
    have t5 : (N == 0) = false := by simpa using hz'
    clear hz hz'
    go_enter Tryz.func6, Tryz.ntmps6
    go_wp2_with (first | (go_at_call 31; refine (HL.out _).mono ?_; rintro e w1 ⟨rfl, pw, rfl⟩) | (go_at_call 38; (with_reducible refine (H1.out _).mono ?_); rintro e w1 ⟨rfl, pw, rfl⟩) | (go_at_call 38; (with_reducible refine (H3.out _).mono ?_); rintro e w1 ⟨rfl, pw, rfl⟩) | (go_at_call 39; (with_reducible refine (H2.out _).mono ?_); rintro e w1 ⟨rfl, pw, rfl⟩))
    all_goals (go_ret; refine ⟨ret_bool (by simp), ?_⟩; (repeat (first | exact New.refl _ | apply New.alloc | apply New.aft | apply New.drew | refine New.setCell ?_ ?_ _)); all_goals (first | done | (simp [size_aft]; done) | (simp [size_aft]; omega)))

end Go.Proofs.YtpdfbboagaflhaaGreat

set_option linter.unusedSimpArgs false
set_option linter.unusedVariables false
set_option linter.constructorNameAsVariable false
namespace Go.Proofs.YtpdfbboagaflhaaGreat
open Go.ChangeShapes Go.WideShapes Go.ChangeAt Go.RowKit Go.Joins
set_option maxRecDepth 100000

theorem jAb_wf : Rows.planeAboveRow.wf (OpenSpec.ofChange Rows.planeAboveSpec) = true := by kernel_rfl
theorem jAb_par : Tryz.f6.params.all (Tryz.prog.readableRec ·) = true := by kernel_rfl
theorem jAb_tie : namedTie Tryz.prog Rows.planeAboveRow.named Rows.planeAboveSpec.vars = true := by kernel_rfl
theorem jAb_st : (Rows.planeAboveRow.stops == []) = true := by kernel_rfl
theorem jAb_kn : (Rows.planeAboveRow.knobs == []) = true := by kernel_rfl
theorem jAb_inp : (Rows.planeAboveRow.inPlace == Tryz.prog.inPlace 6) = true := by kernel_rfl
theorem jAb_unf : (Rows.planeAboveRow.unfollowed == Tryz.prog.unfollowed 6) = true := by kernel_rfl
theorem jAb_rec : (Rows.planeAboveRow.recurses == Tryz.prog.recurses 6) = true := by kernel_rfl
theorem jAb_nam : (Rows.planeAboveRow.named == Tryz.prog.varsNamed 6) = true := by kernel_rfl
theorem jAb_maps : (Rows.planeAboveRow.maps == (Tryz.f6.params.toList ++ Rows.planeAboveSpec.plain.varTypes Tryz.prog).any (Tryz.prog.mapsRec ·)) = true := by kernel_rfl
theorem jAb_ifs : (Rows.planeAboveRow.ifaces == (Tryz.f6.params.toList ++ Rows.planeAboveSpec.plain.varTypes Tryz.prog).any (Tryz.prog.ifacesRec ·)) = true := by kernel_rfl
theorem jAb_mout : (Rows.planeAboveRow.mapsOut == Tryz.prog.mapsAmong Tryz.f6.resultTypes.toList) = true := by kernel_rfl
theorem jAb_loops : (Rows.planeAboveRow.loops == (Tryz.f6.params.toList ++ Rows.planeAboveSpec.plain.varTypes Tryz.prog).any (Tryz.prog.loopsFrom ·)) = true := by kernel_rfl
theorem jAb_wide : (Rows.planeAboveRow.wideKeys == (Tryz.f6.params.toList ++ Rows.planeAboveSpec.plain.varTypes Tryz.prog ++ Tryz.f6.resultTypes.toList).any (Tryz.prog.wideKeysFrom ·)) = true := by kernel_rfl
theorem jAb_vars : Rows.planeAboveSpec.vars.all (Tryz.prog.varReadable ·) = true := by kernel_rfl
theorem jAb_res : Tryz.f6.resultTypes.all (fun t => Tryz.prog.readableRec t && decide (t < Tryz.prog.types.size)) = true := by kernel_rfl
theorem jAb_iout : (Rows.planeAboveRow.ifacesOut == Tryz.f6.resultTypes.toList.any (Tryz.prog.ifacesRec ·)) = true := by kernel_rfl
theorem jAb_lout : (Rows.planeAboveRow.loopsOut == Tryz.f6.resultTypes.toList.any (Tryz.prog.loopsFrom ·)) = true := by kernel_rfl
theorem jAb_plain : (Rows.planeAboveRow.plainKeys == Tryz.prog.plainKeys) = true := by kernel_rfl
theorem jAb_short : Rows.planeAboveRow.shortTexts.isNone = true := by kernel_rfl
theorem jAb_lift0 : (Rows.planeAboveRow.lifted == false) = true := by kernel_rfl
theorem jAb_lift : (Rows.planeAboveRow.lifted == Tryz.prog.liftsFinal) = true := (congrArg (fun b => (Rows.planeAboveRow.lifted == b)) lift_is).trans jAb_lift0
theorem jAb_make0 : (some Make.cut == some Rows.planeAboveRow.make) = true := by kernel_rfl
theorem jAb_make : (Tryz.prog.make == some Rows.planeAboveRow.make) = true := (congrArg (fun b => (b == some Rows.planeAboveRow.make)) make_is).trans jAb_make0
theorem jAb_kinds : (Rows.planeAboveRow.kinds == (if Rows.planeAboveRow.domain.isEmpty then [] else Tryz.f6.params.toList.map fun t => match Tryz.prog.underlying t with | some (.int k) => some k | _ => none)) = true := by kernel_rfl
theorem jAb_pin : (Rows.planeAboveRow.pinned == Rows.planeAboveRow.pinnedBy) = true := by kernel_rfl
theorem jAb_veil : (Rows.planeAboveRow.veiled == (Tryz.f6.params.toList ++ Rows.planeAboveSpec.plain.varTypes Tryz.prog ++ Tryz.f6.resultTypes.toList).any (Tryz.prog.veiledRec ·)) = true := by kernel_rfl
theorem jAb_vfit : Rows.planeAboveRow.veiledFits Tryz.prog Tryz.f6.params.toList (Tryz.f6.params.toList ++ Rows.planeAboveSpec.plain.varTypes Tryz.prog ++ Tryz.f6.resultTypes.toList) = true := by kernel_rfl
theorem jAb_closed : joinedFacts Tryz.prog 6 Tryz.f6 Rows.planeAboveSpec Rows.planeAboveRow = true := (b_and (b_and (b_and (b_and (b_and (b_and (b_and (b_and (b_and (b_and (b_and (b_and (b_and (b_and (b_and (b_and (b_and (b_and (b_and (b_and (b_and (b_and (b_and (b_and (b_and (b_and (b_and (b_and (b_and (b_and (b_and jAb_wf jp_laid) jp_rowed) jAb_par) jAb_tie) jAb_st) jp_stops) jAb_kn) jp_knobs) jAb_inp) jAb_unf) jAb_rec) jAb_nam) jAb_maps) jAb_ifs) jAb_mout) jAb_loops) jAb_wide) jAb_vars) jAb_res) jAb_iout) jAb_lout) jAb_plain) jAb_short) jp_heard) jp_enter) jAb_lift) jAb_make) jAb_kinds) jAb_pin) jAb_veil) jAb_vfit)
theorem jAb_name : Tryz.prog.funcNamed Rows.planeAboveRow.func = some 6 := by kernel_rfl
theorem jAb_inst : Tryz.f6.isInstance Tryz.prog Rows.planeAboveRow.origin Rows.planeAboveRow.targs := of_decide_eq_true (by kernel_rfl)
theorem jAb_wrap : Tryz.f6.isWrapper Tryz.prog Rows.planeAboveRow.wrapper Rows.planeAboveRow.mainSum := by unfold Func.isWrapper; rw [if_neg (by decide +kernel)]; exact ⟨rfl, rfl⟩

set_option maxHeartbeats 2000000 in
theorem jAb_lifted (os : Os) (started : os.Started) (H : Type) (enc : TypeId × Value → H) :
    ReturnsInHanded {} Tryz.checked os 6 .any (Rows.planeAboveSpec.pre6 enc Tryz.prog Tryz.f6 Rows.planeAboveRow.domain false) (Rows.planeAboveSpec.post enc Tryz.prog Tryz.f6 false true false false) := by
  refine returnsInHanded_of_change (C := Tryz.checked) own_knob started (by kernel_rfl) Tryz.func6
    (ChangeSpec.witness6 (enc := enc) (C := Tryz.checked) false ⟨#[], #[.agg #[.int .i64 0, .int .i64 0, .int .i64 0, .int .i64 0], .agg #[.int .i64 0, .int .i64 0, .int .i64 0, .int .i64 0]], []⟩ 8 (by kernel_rfl) (by kernel_rfl) (by kernel_rfl) (by kernel_rfl)) ?_
  intro W base args ds gs before hval0 hW hcnd _
  have hval : ∀ (j : Nat) t v, Tryz.f6.params[j]? = some t → args[j]? = some v → Value.okWide Tryz.prog W .any base t v := hval0
  have hW' := hW
  obtain ⟨p, q, hA0, hV, rfl, hfz, hnd⟩ := hW
  have hA : DataW.TrodAll enc Tryz.prog W 0 (fun _ => true) true Tryz.f6.params.toList args.toList ds p := hA0
  rw [Tryz.params6] at hA hval
  obtain ⟨v0, vs0, d0, ds0, p0, q0, hargs, rfl, rfl, h0, r0⟩ := trodAll_cons hA
  obtain ⟨v1, vs1, d1, ds1, p1, q1, rfl, rfl, rfl, h1, r1⟩ := trodAll_cons r0
  obtain ⟨rfl, rfl, rfl⟩ := trodAll_nil r1
  obtain rfl : args = #[v0, v1] := by cases args; simp_all
  obtain ⟨rfl, rfl⟩ := trodVars_none hV
  have hlt : ∀ x ∈ p0 ++ p1, x.block < W.heap.size := fun x hx => hW'.lt x (by simpa using hx)
  have g0 := h0
  obtain ⟨a0, b0, c0, e0, rfl, _, _⟩ := open_sg (hval 0 30 v0 rfl rfl) h0
  have g1 := h1
  obtain ⟨a1, b1, c1, e1, rfl, _, _⟩ := open_sg (hval 1 30 v1 rfl rfl) h1
  clear hA0 hval0 hval
  refine (planeAbove_all W a0 b0 c0 e0 a1 b1 c1 e1).mono fun e W' ⟨he, hg⟩ => ?_
  subst he
  have t1 := Below.trod laidOut (by kernel_rfl) (of_decide_eq_true (by kernel_rfl)) g1 hg.below (fun x hx => hlt x (by simp [hx]))
  have t0 := Below.trod laidOut (by kernel_rfl) (of_decide_eq_true (by kernel_rfl)) g0 hg.below (fun x hx => hlt x (by simp [hx]))
  exact ⟨_, rfl, _, _, _, _, _, _, hW', trodAll_cons_mk (shut_bool Tryz.underlying4 _) trodAll_mk0, trodAll_cons_mk t0 (trodAll_cons_mk t1 trodAll_mk0), rfl, hg.below.frame _, fun h => by cases h⟩

/-- PlaneAbove, as it is given -/
theorem planeAbove_proved : Rows.PlaneAboveSaid :=
  OpenClaim.holds_of_wide 6 Tryz.f6 rfl rfl rfl rfl rfl rfl rfl ⟨rfl, rfl, rfl, rfl, rfl⟩ rfl rfl rfl rfl rfl jAb_name Tryz.func6 jAb_closed jAb_inst jAb_wrap
    (fun os started H enc _ => jAb_lifted os started H enc)

end Go.Proofs.YtpdfbboagaflhaaGreat
