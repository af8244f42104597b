/- PlaneMeets returns true for every input, and its arguments read afterwards as before: the given statement, without a condition. -/
import Derived.Test.YtpdfbboagaflhaaGreatN05
import Derived.Test.YtpdfbboagaflhaaGreatM48
import Derived.Deep.RegionHeld3
import Derived.Deep.RegionWith
import Derived.BigRegion
import Derived.LoopTactic
import Derived.Test.YtpdfbboagaflhaaGreatM51
import Derived.Test.YtpdfbboagaflhaaGreatRows
import Derived.ProofKit
import Derived.OpenShut
import Derived.Lib.SmallJoins
import Derived.Carry

set_option linter.unusedSimpArgs false
set_option linter.unusedVariables false
set_option maxRecDepth 100000
namespace Go.Proofs.YtpdfbboagaflhaaGreat
open Go.RowKit

theorem cEnd_bd {a b c d e f g h : Int} (ha : 0 ≤ a ∧ a ≤ 10000) (hb : 0 ≤ b ∧ b ≤ 10000) (hc : 0 ≤ c ∧ c ≤ 10000) (hd : 0 ≤ d ∧ d ≤ 10000) (he : 0 ≤ e ∧ e ≤ 10000) (hf : 0 ≤ f ∧ f ≤ 10000) (hg : 0 ≤ g ∧ g ≤ 10000) (hh : 0 ≤ h ∧ h ≤ 10000) :
    (0 ≤ (cEnd a b c d e f g h).1 ∧ (cEnd a b c d e f g h).1 ≤ 10000) ∧ (0 ≤ (cEnd a b c d e f g h).2 ∧ (cEnd a b c d e f g h).2 ≤ 10000) := by
  unfold cEnd
  split
  · exact ⟨ha, hb⟩
  · split
    · exact ⟨hc, hd⟩
    · split
      · exact ⟨he, hf⟩
      · exact ⟨hg, hh⟩

set_option maxHeartbeats 4000000 in
theorem ref_Cross (a b c d e f g h : Int) (w : World) : Calls Tryz.prog 36 #[sv a b c d, sv e f g h] w fun en w' => en = .returned (crossT a b c d e f g h) ∧ New w w' := by
  by_cases hk : MeetI a b c d e f g h = 1 ∨ MeetI a b c d e f g h = 2
  · obtain ⟨k1, k2, k3⟩ := MeetI_okS (show MeetI a b c d e f g h ≠ 0 by omega)
    obtain ⟨⟨ha, hb⟩, ⟨hc, hd⟩, _⟩ := okS_iff.1 k1
    obtain ⟨⟨he, hf⟩, ⟨hg, hh⟩, _⟩ := okS_iff.1 k2
    have hb2 := cEnd_bd ha hb hc hd he hf hg hh
    rw [crossT_1 hk]
    exact ref_Cross1 a b c d e f g h (cEnd a b c d e f g h).1 (cEnd a b c d e f g h).2 w ha hb hc hd he hf hg hh hk (cEnd_one k1 k2 (k3 ▸ hk)) hb2.1 hb2.2
  · by_cases h3 : MeetI a b c d e f g h = 3
    · obtain ⟨k1, k2, k3⟩ := MeetI_okS (show MeetI a b c d e f g h ≠ 0 by omega)
      obtain ⟨⟨ha, hb⟩, ⟨hc, hd⟩, _⟩ := okS_iff.1 k1
      obtain ⟨⟨he, hf⟩, ⟨hg, hh⟩, _⟩ := okS_iff.1 k2
      rw [crossT_3 h3, crX, crY, Int.mul_comm (partI a b e f g h) (c - a), Int.mul_comm (partI a b e f g h) (d - b)]
      exact ref_Cross3 a b c d e f g h w ha hb hc hd he hf hg hh h3 (den_ne (k3 ▸ h3))
    · have HM := Lib.hid (fun w1 : World => ref_Meet a b c d e f g h w1)
      rw [crossT_0 hk h3]
      have e1 : (MeetI a b c d e f g h == 1) = false := by rw [beq_eq_false_iff_ne]; omega
      have e2 : (MeetI a b c d e f g h == 2) = false := by rw [beq_eq_false_iff_ne]; omega
      have e3 : (MeetI a b c d e f g h == 3) = false := by rw [beq_eq_false_iff_ne]; omega
      have e4 : (MeetI a b c d e f g h != 3) = true := by simp only [bne, e3, Bool.not_false]
      clear hk h3
      generalize MeetI a b c d e f g h = K at *
      go_enter Tryz.func36, Tryz.ntmps36
      go_wp2_with (go_at_call 37; refine (HM.out _).mono ?_; rintro en w1 ⟨rfl, pw, rfl⟩)
      all_goals (refine bodyPost_ret (v := .tuple #[pv 0 0, pv 0 0, .bool false]) (by simp [results, Tryz.results36, go_sem]) rfl ⟨rfl, ?_⟩; (repeat (first | exact New.refl _ | apply New.alloc | apply New.aft | apply New.drew | refine New.setCell ?_ ?_ _)); all_goals (first | done | (simp [size_aft]; done) | (simp [size_aft]; omega)))

set_option maxHeartbeats 16000000 in
theorem planeMeets_c (a b c d e f g h : Int) (w : World) : Calls Tryz.prog 5 #[sv a b c d, sv e f g h] w fun en w' => en = .returned (.bool true) ∧ New w w' := by
  have HL := Lib.hid alive_c
  have H1 := Lib.hid (fun w1 : World => Meet_c a b c d e f g h w1)
  have H2 := Lib.hid (fun w1 : World => ref_Meet a b c d e f g h w1)
  have H3 := Lib.hid (fun w1 : World => Meet_c e f g h a b c d w1)
  have H4 := Lib.hid (fun w1 : World => Meet_c a b c d g h e f w1)
  have C1 := Lib.hid (fun w1 : World => Cross_c a b c d e f g h w1)
  have C2 := Lib.hid (fun w1 : World => ref_Cross a b c d e f g h w1)
  have C3 := Lib.hid (fun w1 : World => Cross_c g h e f a b c d w1)
  rw [MeetI_comm] at H3
  rw [MeetI_rev] at H4
  unfold crossT at C1 C2 C3
  rw [cr1_turn, cr2_turn, cr3_turn, cr4_turn, crO_turn] at C3
  generalize MeetI a b c d e f g h = K at *
  generalize cr1 a b c d e f g h = X1 at *
  generalize cr2 a b c d e f g h = X2 at *
  generalize cr3 a b c d e f g h = Y1 at *
  generalize cr4 a b c d e f g h = Y2 at *
  generalize crO a b c d e f g h = O at *
  have t1 : (K != K) = false := by simp
  have t2 : (O != O) = false := by simp
  have t3 : (X1 != X1) = false := by simp
  have t4 : (X2 != X2) = false := by simp
  have t5 : (Y1 != Y1) = false := by simp
  have t6 : (Y2 != Y2) = false := by simp
  have s1 : (K == K) = true := by simp
  have s2 : (O == O) = true := by simp
  have s3 : (X1 == X1) = true := by simp
  have s4 : (X2 == X2) = true := by simp
  have s5 : (Y1 == Y1) = true := by simp
  have s6 : (Y2 == Y2) = true := by simp
  go_enter Tryz.func5, Tryz.ntmps5
  go_wp2_with (first | (go_at_call 34; (with_reducible refine (H1.out _).mono ?_); rintro en wq ⟨rfl, pw, rfl⟩) | (go_at_call 35; (with_reducible refine (C1.out _).mono ?_); rintro en w1 ⟨rfl, hn⟩; have zs : w.heap.size < w1.heap.size := (by have hsz := hn.size; simp [go_sem] at hsz; omega); have zs1 : w.heap.size < w1.heap.size + 1 := (by omega); have zs2 : w.heap.size < w1.heap.size + 1 + 1 := (by omega); have s0 : w1.cell? ⟨w.heap.size, 0, none⟩ = some (.int .i64 a) := ((hn.cell (by simp [go_sem]; try omega)).trans (by simp [go_sem, *])); have s1 : w1.cell? ⟨w.heap.size, 1, none⟩ = some (.int .i64 b) := ((hn.cell (by simp [go_sem]; try omega)).trans (by simp [go_sem, *])); have s2 : w1.cell? ⟨w.heap.size, 2, none⟩ = some (.int .i64 c) := ((hn.cell (by simp [go_sem]; try omega)).trans (by simp [go_sem, *])); have s3 : w1.cell? ⟨w.heap.size, 3, none⟩ = some (.int .i64 d) := ((hn.cell (by simp [go_sem]; try omega)).trans (by simp [go_sem, *])); have zt : w.heap.size + 1 < w1.heap.size := (by have hsz := hn.size; simp [go_sem] at hsz; omega); have zt1 : w.heap.size + 1 < w1.heap.size + 1 := (by omega); have zt2 : w.heap.size + 1 < w1.heap.size + 1 + 1 := (by omega); have t0 : w1.cell? ⟨w.heap.size + 1, 0, none⟩ = some (.int .i64 e) := ((hn.cell (by simp [go_sem]; try omega)).trans (by simp [go_sem, *])); have t1 : w1.cell? ⟨w.heap.size + 1, 1, none⟩ = some (.int .i64 f) := ((hn.cell (by simp [go_sem]; try omega)).trans (by simp [go_sem, *])); have t2 : w1.cell? ⟨w.heap.size + 1, 2, none⟩ = some (.int .i64 g) := ((hn.cell (by simp [go_sem]; try omega)).trans (by simp [go_sem, *])); have t3 : w1.cell? ⟨w.heap.size + 1, 3, none⟩ = some (.int .i64 h) := ((hn.cell (by simp [go_sem]; try omega)).trans (by simp [go_sem, *])); have Nw1 := Lib.hid (New.trans (by (repeat (first | exact New.refl _ | apply New.alloc | apply New.aft | apply New.drew | refine New.setCell ?_ ?_ _)); all_goals (first | done | (simp [size_aft]; done) | (simp [size_aft]; omega))) hn : New w w1); clear hn))
  go_wp2_with (go_at_call 36; (with_reducible refine (C2.out _).mono ?_); rintro en w2 ⟨rfl, hn⟩; have zs : w.heap.size < w2.heap.size := (by have hsz := hn.size; simp [go_sem] at hsz; omega); have zs1 : w.heap.size < w2.heap.size + 1 := (by omega); have zs2 : w.heap.size < w2.heap.size + 1 + 1 := (by omega); have s0 : w2.cell? ⟨w.heap.size, 0, none⟩ = some (.int .i64 a) := ((hn.cell (by simp [go_sem]; try omega)).trans (by simp [go_sem, *])); have s1 : w2.cell? ⟨w.heap.size, 1, none⟩ = some (.int .i64 b) := ((hn.cell (by simp [go_sem]; try omega)).trans (by simp [go_sem, *])); have s2 : w2.cell? ⟨w.heap.size, 2, none⟩ = some (.int .i64 c) := ((hn.cell (by simp [go_sem]; try omega)).trans (by simp [go_sem, *])); have s3 : w2.cell? ⟨w.heap.size, 3, none⟩ = some (.int .i64 d) := ((hn.cell (by simp [go_sem]; try omega)).trans (by simp [go_sem, *])); have zt : w.heap.size + 1 < w2.heap.size := (by have hsz := hn.size; simp [go_sem] at hsz; omega); have zt1 : w.heap.size + 1 < w2.heap.size + 1 := (by omega); have zt2 : w.heap.size + 1 < w2.heap.size + 1 + 1 := (by omega); have t0 : w2.cell? ⟨w.heap.size + 1, 0, none⟩ = some (.int .i64 e) := ((hn.cell (by simp [go_sem]; try omega)).trans (by simp [go_sem, *])); have t1 : w2.cell? ⟨w.heap.size + 1, 1, none⟩ = some (.int .i64 f) := ((hn.cell (by simp [go_sem]; try omega)).trans (by simp [go_sem, *])); have t2 : w2.cell? ⟨w.heap.size + 1, 2, none⟩ = some (.int .i64 g) := ((hn.cell (by simp [go_sem]; try omega)).trans (by simp [go_sem, *])); have t3 : w2.cell? ⟨w.heap.size + 1, 3, none⟩ = some (.int .i64 h) := ((hn.cell (by simp [go_sem]; try omega)).trans (by simp [go_sem, *])); have zx : w1.heap.size < w2.heap.size := (by have hsz := hn.size; simp [go_sem] at hsz; omega); have zx1 : w1.heap.size < w2.heap.size + 1 := (by omega); have zx2 : w1.heap.size < w2.heap.size + 1 + 1 := (by omega); have x0 : w2.cell? ⟨w1.heap.size, 0, none⟩ = some (.int .i64 X1) := ((hn.cell (by simp [go_sem]; try omega)).trans (by simp [go_sem, *])); have x1 : w2.cell? ⟨w1.heap.size, 1, none⟩ = some (.int .i64 X2) := ((hn.cell (by simp [go_sem]; try omega)).trans (by simp [go_sem, *])); have zy : w1.heap.size + 1 < w2.heap.size := (by have hsz := hn.size; simp [go_sem] at hsz; omega); have zy1 : w1.heap.size + 1 < w2.heap.size + 1 := (by omega); have zy2 : w1.heap.size + 1 < w2.heap.size + 1 + 1 := (by omega); have y0 : w2.cell? ⟨w1.heap.size + 1, 0, none⟩ = some (.int .i64 Y1) := ((hn.cell (by simp [go_sem]; try omega)).trans (by simp [go_sem, *])); have y1 : w2.cell? ⟨w1.heap.size + 1, 1, none⟩ = some (.int .i64 Y2) := ((hn.cell (by simp [go_sem]; try omega)).trans (by simp [go_sem, *])); have Nw2 := Lib.hid (New.trans (by (repeat (first | exact Nw1.out | exact New.refl _ | apply New.alloc | apply New.aft | apply New.drew | refine New.setCell ?_ ?_ _)); all_goals (first | done | (simp [size_aft]; done) | (simp [size_aft]; omega))) hn : New w w2); clear hn)
  go_wp2_with (go_at_call 37; (with_reducible refine (H2.out _).mono ?_); rintro en w3 ⟨rfl, hn⟩; have zs : w.heap.size < w3.heap.size := (by have hsz := hn.size; simp [go_sem] at hsz; omega); have zs1 : w.heap.size < w3.heap.size + 1 := (by omega); have zs2 : w.heap.size < w3.heap.size + 1 + 1 := (by omega); have s0 : w3.cell? ⟨w.heap.size, 0, none⟩ = some (.int .i64 a) := ((hn.cell (by simp [go_sem]; try omega)).trans (by simp [go_sem, *])); have s1 : w3.cell? ⟨w.heap.size, 1, none⟩ = some (.int .i64 b) := ((hn.cell (by simp [go_sem]; try omega)).trans (by simp [go_sem, *])); have s2 : w3.cell? ⟨w.heap.size, 2, none⟩ = some (.int .i64 c) := ((hn.cell (by simp [go_sem]; try omega)).trans (by simp [go_sem, *])); have s3 : w3.cell? ⟨w.heap.size, 3, none⟩ = some (.int .i64 d) := ((hn.cell (by simp [go_sem]; try omega)).trans (by simp [go_sem, *])); have zt : w.heap.size + 1 < w3.heap.size := (by have hsz := hn.size; simp [go_sem] at hsz; omega); have zt1 : w.heap.size + 1 < w3.heap.size + 1 := (by omega); have zt2 : w.heap.size + 1 < w3.heap.size + 1 + 1 := (by omega); have t0 : w3.cell? ⟨w.heap.size + 1, 0, none⟩ = some (.int .i64 e) := ((hn.cell (by simp [go_sem]; try omega)).trans (by simp [go_sem, *])); have t1 : w3.cell? ⟨w.heap.size + 1, 1, none⟩ = some (.int .i64 f) := ((hn.cell (by simp [go_sem]; try omega)).trans (by simp [go_sem, *])); have t2 : w3.cell? ⟨w.heap.size + 1, 2, none⟩ = some (.int .i64 g) := ((hn.cell (by simp [go_sem]; try omega)).trans (by simp [go_sem, *])); have t3 : w3.cell? ⟨w.heap.size + 1, 3, none⟩ = some (.int .i64 h) := ((hn.cell (by simp [go_sem]; try omega)).trans (by simp [go_sem, *])); have zx : w1.heap.size < w3.heap.size := (by have hsz := hn.size; simp [go_sem] at hsz; omega); have zx1 : w1.heap.size < w3.heap.size + 1 := (by omega); have zx2 : w1.heap.size < w3.heap.size + 1 + 1 := (by omega); have x0 : w3.cell? ⟨w1.heap.size, 0, none⟩ = some (.int .i64 X1) := ((hn.cell (by simp [go_sem]; try omega)).trans (by simp [go_sem, *])); have x1 : w3.cell? ⟨w1.heap.size, 1, none⟩ = some (.int .i64 X2) := ((hn.cell (by simp [go_sem]; try omega)).trans (by simp [go_sem, *])); have zy : w1.heap.size + 1 < w3.heap.size := (by have hsz := hn.size; simp [go_sem] at hsz; omega); have zy1 : w1.heap.size + 1 < w3.heap.size + 1 := (by omega); have zy2 : w1.heap.size + 1 < w3.heap.size + 1 + 1 := (by omega); have y0 : w3.cell? ⟨w1.heap.size + 1, 0, none⟩ = some (.int .i64 Y1) := ((hn.cell (by simp [go_sem]; try omega)).trans (by simp [go_sem, *])); have y1 : w3.cell? ⟨w1.heap.size + 1, 1, none⟩ = some (.int .i64 Y2) := ((hn.cell (by simp [go_sem]; try omega)).trans (by simp [go_sem, *])); have zu : w2.heap.size < w3.heap.size := (by have hsz := hn.size; simp [go_sem] at hsz; omega); have zu1 : w2.heap.size < w3.heap.size + 1 := (by omega); have zu2 : w2.heap.size < w3.heap.size + 1 + 1 := (by omega); have u0 : w3.cell? ⟨w2.heap.size, 0, none⟩ = some (.int .i64 X1) := ((hn.cell (by simp [go_sem]; try omega)).trans (by simp [go_sem, *])); have u1 : w3.cell? ⟨w2.heap.size, 1, none⟩ = some (.int .i64 X2) := ((hn.cell (by simp [go_sem]; try omega)).trans (by simp [go_sem, *])); have zv : w2.heap.size + 1 < w3.heap.size := (by have hsz := hn.size; simp [go_sem] at hsz; omega); have zv1 : w2.heap.size + 1 < w3.heap.size + 1 := (by omega); have zv2 : w2.heap.size + 1 < w3.heap.size + 1 + 1 := (by omega); have v0 : w3.cell? ⟨w2.heap.size + 1, 0, none⟩ = some (.int .i64 Y1) := ((hn.cell (by simp [go_sem]; try omega)).trans (by simp [go_sem, *])); have v1 : w3.cell? ⟨w2.heap.size + 1, 1, none⟩ = some (.int .i64 Y2) := ((hn.cell (by simp [go_sem]; try omega)).trans (by simp [go_sem, *])); have Nw3 := Lib.hid (New.trans (by (repeat (first | exact Nw2.out | exact New.refl _ | apply New.alloc | apply New.aft | apply New.drew | refine New.setCell ?_ ?_ _)); all_goals (first | done | (simp [size_aft]; done) | (simp [size_aft]; omega))) hn : New w w3); clear hn)
  go_wp2_with (go_at_call 35; (with_reducible refine (C3.out _).mono ?_); rintro en w4 ⟨rfl, hn⟩; have zs : w.heap.size < w4.heap.size := (by have hsz := hn.size; simp [go_sem] at hsz; omega); have zs1 : w.heap.size < w4.heap.size + 1 := (by omega); have zs2 : w.heap.size < w4.heap.size + 1 + 1 := (by omega); have s0 : w4.cell? ⟨w.heap.size, 0, none⟩ = some (.int .i64 a) := ((hn.cell (by simp [go_sem]; try omega)).trans (by simp [go_sem, *])); have s1 : w4.cell? ⟨w.heap.size, 1, none⟩ = some (.int .i64 b) := ((hn.cell (by simp [go_sem]; try omega)).trans (by simp [go_sem, *])); have s2 : w4.cell? ⟨w.heap.size, 2, none⟩ = some (.int .i64 c) := ((hn.cell (by simp [go_sem]; try omega)).trans (by simp [go_sem, *])); have s3 : w4.cell? ⟨w.heap.size, 3, none⟩ = some (.int .i64 d) := ((hn.cell (by simp [go_sem]; try omega)).trans (by simp [go_sem, *])); have zt : w.heap.size + 1 < w4.heap.size := (by have hsz := hn.size; simp [go_sem] at hsz; omega); have zt1 : w.heap.size + 1 < w4.heap.size + 1 := (by omega); have zt2 : w.heap.size + 1 < w4.heap.size + 1 + 1 := (by omega); have t0 : w4.cell? ⟨w.heap.size + 1, 0, none⟩ = some (.int .i64 e) := ((hn.cell (by simp [go_sem]; try omega)).trans (by simp [go_sem, *])); have t1 : w4.cell? ⟨w.heap.size + 1, 1, none⟩ = some (.int .i64 f) := ((hn.cell (by simp [go_sem]; try omega)).trans (by simp [go_sem, *])); have t2 : w4.cell? ⟨w.heap.size + 1, 2, none⟩ = some (.int .i64 g) := ((hn.cell (by simp [go_sem]; try omega)).trans (by simp [go_sem, *])); have t3 : w4.cell? ⟨w.heap.size + 1, 3, none⟩ = some (.int .i64 h) := ((hn.cell (by simp [go_sem]; try omega)).trans (by simp [go_sem, *])); have zx : w1.heap.size < w4.heap.size := (by have hsz := hn.size; simp [go_sem] at hsz; omega); have zx1 : w1.heap.size < w4.heap.size + 1 := (by omega); have zx2 : w1.heap.size < w4.heap.size + 1 + 1 := (by omega); have x0 : w4.cell? ⟨w1.heap.size, 0, none⟩ = some (.int .i64 X1) := ((hn.cell (by simp [go_sem]; try omega)).trans (by simp [go_sem, *])); have x1 : w4.cell? ⟨w1.heap.size, 1, none⟩ = some (.int .i64 X2) := ((hn.cell (by simp [go_sem]; try omega)).trans (by simp [go_sem, *])); have zy : w1.heap.size + 1 < w4.heap.size := (by have hsz := hn.size; simp [go_sem] at hsz; omega); have zy1 : w1.heap.size + 1 < w4.heap.size + 1 := (by omega); have zy2 : w1.heap.size + 1 < w4.heap.size + 1 + 1 := (by omega); have y0 : w4.cell? ⟨w1.heap.size + 1, 0, none⟩ = some (.int .i64 Y1) := ((hn.cell (by simp [go_sem]; try omega)).trans (by simp [go_sem, *])); have y1 : w4.cell? ⟨w1.heap.size + 1, 1, none⟩ = some (.int .i64 Y2) := ((hn.cell (by simp [go_sem]; try omega)).trans (by simp [go_sem, *])); have zk : w3.heap.size < w4.heap.size := (by have hsz := hn.size; simp [go_sem] at hsz; omega); have zk1 : w3.heap.size < w4.heap.size + 1 := (by omega); have zk2 : w3.heap.size < w4.heap.size + 1 + 1 := (by omega); have k0 : w4.cell? ⟨w3.heap.size, 0, none⟩ = some (.int .i64 g) := ((hn.cell (by simp [go_sem]; try omega)).trans (by simp [go_sem, *])); have k1 : w4.cell? ⟨w3.heap.size, 1, none⟩ = some (.int .i64 h) := ((hn.cell (by simp [go_sem]; try omega)).trans (by simp [go_sem, *])); have k2 : w4.cell? ⟨w3.heap.size, 2, none⟩ = some (.int .i64 e) := ((hn.cell (by simp [go_sem]; try omega)).trans (by simp [go_sem, *])); have k3 : w4.cell? ⟨w3.heap.size, 3, none⟩ = some (.int .i64 f) := ((hn.cell (by simp [go_sem]; try omega)).trans (by simp [go_sem, *])); have Nw4 := Lib.hid (New.trans (by (repeat (first | exact Nw3.out | exact New.refl _ | apply New.alloc | apply New.aft | apply New.drew | refine New.setCell ?_ ?_ _)); all_goals (first | done | (simp [size_aft]; done) | (simp [size_aft]; omega))) hn : New w w4); clear hn)
  go_wp2_with (first | (go_at_call 31; refine (HL.out _).mono ?_; rintro en wq ⟨rfl, pw, rfl⟩) | (go_at_call 34; (with_reducible refine (H3.out _).mono ?_); rintro en wq ⟨rfl, pw, rfl⟩) | (go_at_call 34; (with_reducible refine (H4.out _).mono ?_); rintro en wq ⟨rfl, pw, rfl⟩))
  all_goals (go_ret; refine ⟨ret_bool (by simp), ?_⟩; (repeat (first | exact Nw4.out | exact New.refl _ | apply New.alloc | apply New.aft | apply New.drew | refine New.setCell ?_ ?_ _)); all_goals (first | done | (simp [size_aft]; done) | (simp [size_aft]; omega)))

theorem planeMeets_all (w : World) (a b c d e f g h : Int) : Calls Tryz.prog 5 #[sv a b c d, sv e f g h] w fun en w' => en = .returned (.bool true) ∧ New w w' := planeMeets_c a b c d e f g h w

end Go.Proofs.YtpdfbboagaflhaaGreat

set_option linter.unusedSimpArgs false
set_option linter.unusedVariables false
set_option linter.constructorNameAsVariable false
namespace Go.Proofs.YtpdfbboagaflhaaGreat
open Go.ChangeShapes Go.WideShapes Go.ChangeAt Go.RowKit Go.Joins
set_option maxRecDepth 100000

theorem jMe_wf : Rows.planeMeetsRow.wf (OpenSpec.ofChange Rows.planeMeetsSpec) = true := by kernel_rfl
theorem jMe_par : Tryz.f5.params.all (Tryz.prog.readableRec ·) = true := by kernel_rfl
theorem jMe_tie : namedTie Tryz.prog Rows.planeMeetsRow.named Rows.planeMeetsSpec.vars = true := by kernel_rfl
theorem jMe_st : (Rows.planeMeetsRow.stops == []) = true := by kernel_rfl
theorem jMe_kn : (Rows.planeMeetsRow.knobs == []) = true := by kernel_rfl
theorem jMe_inp : (Rows.planeMeetsRow.inPlace == Tryz.prog.inPlace 5) = true := by kernel_rfl
theorem jMe_unf : (Rows.planeMeetsRow.unfollowed == Tryz.prog.unfollowed 5) = true := by kernel_rfl
theorem jMe_rec : (Rows.planeMeetsRow.recurses == Tryz.prog.recurses 5) = true := by kernel_rfl
theorem jMe_nam : (Rows.planeMeetsRow.named == Tryz.prog.varsNamed 5) = true := by kernel_rfl
theorem jMe_maps : (Rows.planeMeetsRow.maps == (Tryz.f5.params.toList ++ Rows.planeMeetsSpec.plain.varTypes Tryz.prog).any (Tryz.prog.mapsRec ·)) = true := by kernel_rfl
theorem jMe_ifs : (Rows.planeMeetsRow.ifaces == (Tryz.f5.params.toList ++ Rows.planeMeetsSpec.plain.varTypes Tryz.prog).any (Tryz.prog.ifacesRec ·)) = true := by kernel_rfl
theorem jMe_mout : (Rows.planeMeetsRow.mapsOut == Tryz.prog.mapsAmong Tryz.f5.resultTypes.toList) = true := by kernel_rfl
theorem jMe_loops : (Rows.planeMeetsRow.loops == (Tryz.f5.params.toList ++ Rows.planeMeetsSpec.plain.varTypes Tryz.prog).any (Tryz.prog.loopsFrom ·)) = true := by kernel_rfl
theorem jMe_wide : (Rows.planeMeetsRow.wideKeys == (Tryz.f5.params.toList ++ Rows.planeMeetsSpec.plain.varTypes Tryz.prog ++ Tryz.f5.resultTypes.toList).any (Tryz.prog.wideKeysFrom ·)) = true := by kernel_rfl
theorem jMe_vars : Rows.planeMeetsSpec.vars.all (Tryz.prog.varReadable ·) = true := by kernel_rfl
theorem jMe_res : Tryz.f5.resultTypes.all (fun t => Tryz.prog.readableRec t && decide (t < Tryz.prog.types.size)) = true := by kernel_rfl
theorem jMe_iout : (Rows.planeMeetsRow.ifacesOut == Tryz.f5.resultTypes.toList.any (Tryz.prog.ifacesRec ·)) = true := by kernel_rfl
theorem jMe_lout : (Rows.planeMeetsRow.loopsOut == Tryz.f5.resultTypes.toList.any (Tryz.prog.loopsFrom ·)) = true := by kernel_rfl
theorem jMe_plain : (Rows.planeMeetsRow.plainKeys == Tryz.prog.plainKeys) = true := by kernel_rfl
theorem jMe_short : Rows.planeMeetsRow.shortTexts.isNone = true := by kernel_rfl
theorem jMe_lift0 : (Rows.planeMeetsRow.lifted == false) = true := by kernel_rfl
theorem jMe_lift : (Rows.planeMeetsRow.lifted == Tryz.prog.liftsFinal) = true := (congrArg (fun b => (Rows.planeMeetsRow.lifted == b)) lift_is).trans jMe_lift0
theorem jMe_make0 : (some Make.cut == some Rows.planeMeetsRow.make) = true := by kernel_rfl
theorem jMe_make : (Tryz.prog.make == some Rows.planeMeetsRow.make) = true := (congrArg (fun b => (b == some Rows.planeMeetsRow.make)) make_is).trans jMe_make0
theorem jMe_kinds : (Rows.planeMeetsRow.kinds == (if Rows.planeMeetsRow.domain.isEmpty then [] else Tryz.f5.params.toList.map fun t => match Tryz.prog.underlying t with | some (.int k) => some k | _ => none)) = true := by kernel_rfl
theorem jMe_pin : (Rows.planeMeetsRow.pinned == Rows.planeMeetsRow.pinnedBy) = true := by kernel_rfl
theorem jMe_veil : (Rows.planeMeetsRow.veiled == (Tryz.f5.params.toList ++ Rows.planeMeetsSpec.plain.varTypes Tryz.prog ++ Tryz.f5.resultTypes.toList).any (Tryz.prog.veiledRec ·)) = true := by kernel_rfl
theorem jMe_vfit : Rows.planeMeetsRow.veiledFits Tryz.prog Tryz.f5.params.toList (Tryz.f5.params.toList ++ Rows.planeMeetsSpec.plain.varTypes Tryz.prog ++ Tryz.f5.resultTypes.toList) = true := by kernel_rfl
theorem jMe_closed : joinedFacts Tryz.prog 5 Tryz.f5 Rows.planeMeetsSpec Rows.planeMeetsRow = true := (b_and (b_and (b_and (b_and (b_and (b_and (b_and (b_and (b_and (b_and (b_and (b_and (b_and (b_and (b_and (b_and (b_and (b_and (b_and (b_and (b_and (b_and (b_and (b_and (b_and (b_and (b_and (b_and (b_and (b_and (b_and jMe_wf jp_laid) jp_rowed) jMe_par) jMe_tie) jMe_st) jp_stops) jMe_kn) jp_knobs) jMe_inp) jMe_unf) jMe_rec) jMe_nam) jMe_maps) jMe_ifs) jMe_mout) jMe_loops) jMe_wide) jMe_vars) jMe_res) jMe_iout) jMe_lout) jMe_plain) jMe_short) jp_heard) jp_enter) jMe_lift) jMe_make) jMe_kinds) jMe_pin) jMe_veil) jMe_vfit)
theorem jMe_name : Tryz.prog.funcNamed Rows.planeMeetsRow.func = some 5 := by kernel_rfl
theorem jMe_inst : Tryz.f5.isInstance Tryz.prog Rows.planeMeetsRow.origin Rows.planeMeetsRow.targs := of_decide_eq_true (by kernel_rfl)
theorem jMe_wrap : Tryz.f5.isWrapper Tryz.prog Rows.planeMeetsRow.wrapper Rows.planeMeetsRow.mainSum := by unfold Func.isWrapper; rw [if_neg (by decide +kernel)]; exact ⟨rfl, rfl⟩

set_option maxHeartbeats 2000000 in
theorem jMe_lifted (os : Os) (started : os.Started) (H : Type) (enc : TypeId × Value → H) :
    ReturnsInHanded {} Tryz.checked os 5 .any (Rows.planeMeetsSpec.pre6 enc Tryz.prog Tryz.f5 Rows.planeMeetsRow.domain false) (Rows.planeMeetsSpec.post enc Tryz.prog Tryz.f5 false true false false) := by
  refine returnsInHanded_of_change (C := Tryz.checked) own_knob started (by kernel_rfl) Tryz.func5
    (ChangeSpec.witness6 (enc := enc) (C := Tryz.checked) false ⟨#[], #[.agg #[.int .i64 0, .int .i64 0, .int .i64 0, .int .i64 0], .agg #[.int .i64 0, .int .i64 0, .int .i64 0, .int .i64 0]], []⟩ 8 (by kernel_rfl) (by kernel_rfl) (by kernel_rfl) (by kernel_rfl)) ?_
  intro W base args ds gs before hval0 hW hcnd _
  have hval : ∀ (j : Nat) t v, Tryz.f5.params[j]? = some t → args[j]? = some v → Value.okWide Tryz.prog W .any base t v := hval0
  have hW' := hW
  obtain ⟨p, q, hA0, hV, rfl, hfz, hnd⟩ := hW
  have hA : DataW.TrodAll enc Tryz.prog W 0 (fun _ => true) true Tryz.f5.params.toList args.toList ds p := hA0
  rw [Tryz.params5] at hA hval
  obtain ⟨v0, vs0, d0, ds0, p0, q0, hargs, rfl, rfl, h0, r0⟩ := trodAll_cons hA
  obtain ⟨v1, vs1, d1, ds1, p1, q1, rfl, rfl, rfl, h1, r1⟩ := trodAll_cons r0
  obtain ⟨rfl, rfl, rfl⟩ := trodAll_nil r1
  obtain rfl : args = #[v0, v1] := by cases args; simp_all
  obtain ⟨rfl, rfl⟩ := trodVars_none hV
  have hlt : ∀ x ∈ p0 ++ p1, x.block < W.heap.size := fun x hx => hW'.lt x (by simpa using hx)
  have g0 := h0
  obtain ⟨a0, b0, c0, e0, rfl, _, _⟩ := open_sg (hval 0 30 v0 rfl rfl) h0
  have g1 := h1
  obtain ⟨a1, b1, c1, e1, rfl, _, _⟩ := open_sg (hval 1 30 v1 rfl rfl) h1
  clear hA0 hval0 hval
  refine (planeMeets_all W a0 b0 c0 e0 a1 b1 c1 e1).mono fun e W' ⟨he, hg⟩ => ?_
  subst he
  have t1 := Below.trod laidOut (by kernel_rfl) (of_decide_eq_true (by kernel_rfl)) g1 hg.below (fun x hx => hlt x (by simp [hx]))
  have t0 := Below.trod laidOut (by kernel_rfl) (of_decide_eq_true (by kernel_rfl)) g0 hg.below (fun x hx => hlt x (by simp [hx]))
  exact ⟨_, rfl, _, _, _, _, _, _, hW', trodAll_cons_mk (shut_bool Tryz.underlying4 _) trodAll_mk0, trodAll_cons_mk t0 (trodAll_cons_mk t1 trodAll_mk0), rfl, hg.below.frame _, fun h => by cases h⟩

/-- PlaneMeets, as it is given -/
theorem planeMeets_proved : Rows.PlaneMeetsSaid :=
  OpenClaim.holds_of_wide 5 Tryz.f5 rfl rfl rfl rfl rfl rfl rfl ⟨rfl, rfl, rfl, rfl, rfl⟩ rfl rfl rfl rfl rfl jMe_name Tryz.func5 jMe_closed jMe_inst jMe_wrap
    (fun os started H enc _ => jMe_lifted os started H enc)

end Go.Proofs.YtpdfbboagaflhaaGreat
