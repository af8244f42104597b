/- Where two segments meet, as commonEnd and Cross return it; and that it is the same for the segments exchanged and turned round. -/
import Derived.Test.YtpdfbboagaflhaaGreatM46
import Derived.Deep.RegionHeld3
import Derived.BigRegion
import Derived.LoopTactic
import Derived.Test.YtpdfbboagaflhaaGreatN01
import Derived.Deep.RegionWith

set_option linter.unusedSimpArgs false
set_option linter.unusedVariables false
namespace Go.Proofs.YtpdfbboagaflhaaGreat
open Go.RowKit

set_option maxHeartbeats 4000000 in
theorem ref_gcd (a b : Int) (w : World) (ha : 0 ≤ a ∧ a ≤ 4000000000000000000) (hb : 0 ≤ b ∧ b ≤ 4000000000000000000) :
    Calls Tryz.prog 168 #[.int .i64 a, .int .i64 b] w fun en w' => en = .returned (.int .i64 (gcdI a b)) ∧ New w w' := by
  go_enter Tryz.func168, Tryz.ntmps168
  go_wp2_with fail
  go_loopw [0, 1] (fun x y wr => ∃ p q : Int, (0 ≤ p ∧ p ≤ 4000000000000000000) ∧ (0 ≤ q ∧ q ≤ 4000000000000000000) ∧ x = .int .i64 p ∧ y = .int .i64 q ∧ gcdI p q = gcdI a b ∧ New w wr) (fun _ y _ => (intOf y).toNat)
  case atStart => exact ⟨a, b, ha, hb, rfl, rfl, rfl, New.refl _⟩
  case round =>
    obtain ⟨p, q, hp, hq, rfl, rfl, hg, pr, rfl⟩ := hrel
    have HG := Lib.hid hg
    clear hg
    by_cases h0 : q = 0
    · subst h0
      have HV := Lib.hid (gcdI_zero p hp.1)
      go_wp2_with fail
      go_ret
      exact ⟨ret_int (by rw [← HG.out, HV.out]), by (repeat (first | exact New.refl _ | apply New.alloc | apply New.aft | apply New.drew | refine New.setCell ?_ ?_ _)); all_goals (first | done | (simp [size_aft]; done) | (simp [size_aft]; omega))⟩
    · have hq0 : 0 < q := by omega
      obtain ⟨m1, m2, m3⟩ := emod_fact p q hp.1 hq0
      have HS := Lib.hid (gcdI_step p q hp.1 hq0)
      have hz : (q = 0) = False := eq_false h0
      have hz2 : (q == 0) = false := by simpa using h0
      have hz3 : (q != 0) = true := by simpa using h0
      clear h0
      go_wp2_with fail
      go_roundw
      case rel => exact ⟨q, p % q, hq, by omega, rfl, rfl, HS.out.trans HG.out, by (repeat (first | exact New.refl _ | apply New.alloc | apply New.aft | apply New.drew | refine New.setCell ?_ ?_ _)); all_goals (first | done | (simp [size_aft]; done) | (simp [size_aft]; omega))⟩
      case measure => simp [intOf]; omega

set_option maxHeartbeats 4000000 in
theorem rlow1 (num den : Int) (w : World) (h1 : -4000000000000000 ≤ num ∧ num ≤ 4000000000000000) (h2 : -4000000000000000 ≤ den ∧ den ≤ 4000000000000000) (h0 : den ≠ 0) (hd : den < 0) (hn : num ≤ 0) :
    Calls Tryz.prog 96 #[.int .i64 num, .int .i64 den] w fun en w' => en = .returned (pv (-(num.tdiv (gcdI (-num) (-den)))) (-(den.tdiv (gcdI (-num) (-den))))) ∧ New w w' := by
  obtain ⟨g1, g2⟩ := gcdI_pos (-num) (-den) (by omega)
  generalize hG : gcdI (-num) (-den) = G at *
  have HG := Lib.hid hG
  clear hG
  obtain ⟨t1, t2⟩ := tdiv_bd num G g1 4000000000000000 (by omega) (by omega)
  obtain ⟨t3, t4⟩ := tdiv_bd den G g1 4000000000000000 (by omega) (by omega)
  have q1 : IntKind.i64.wrap (-(num.tdiv G)) = -(num.tdiv G) := IntWalk.i64_in _ (by omega)
  have q2 : IntKind.i64.wrap (-(den.tdiv G)) = -(den.tdiv G) := IntWalk.i64_in _ (by omega)
  have hz : (G = 0) = False := eq_false (by omega)
  have hne : (den == 0) = false := by simpa using h0
  clear h0
  go_enter Tryz.func96, Tryz.ntmps96
  go_wp2_with (go_at_call 168; refine (ref_gcd _ _ _ ?_ ?_).mono ?_; omega; omega; rintro e w1 ⟨rfl, pw, rfl⟩; (try rw [HG.out]))
  all_goals (try (exfalso; omega))
  all_goals go_region
  all_goals (go_wp2_with fail)
  all_goals (refine bodyPost_ret (v := pv (-(num.tdiv G)) (-(den.tdiv G))) (by simp [results, Tryz.results96, go_sem]) rfl ⟨rfl, ?_⟩; (repeat (first | exact New.refl _ | apply New.alloc | apply New.aft | apply New.drew | refine New.setCell ?_ ?_ _)); all_goals (first | done | (simp [size_aft]; done) | (simp [size_aft]; omega)))

set_option maxHeartbeats 4000000 in
theorem rlow2 (num den : Int) (w : World) (h1 : -4000000000000000 ≤ num ∧ num ≤ 4000000000000000) (h2 : -4000000000000000 ≤ den ∧ den ≤ 4000000000000000) (h0 : den ≠ 0) (hd : den < 0) (hn : 0 < num) :
    Calls Tryz.prog 96 #[.int .i64 num, .int .i64 den] w fun en w' => en = .returned (pv (-(num.tdiv (gcdI num (-den)))) (-(den.tdiv (gcdI num (-den))))) ∧ New w w' := by
  obtain ⟨g1, g2⟩ := gcdI_pos num (-den) (by omega)
  generalize hG : gcdI num (-den) = G at *
  have HG := Lib.hid hG
  clear hG
  obtain ⟨t1, t2⟩ := tdiv_bd num G g1 4000000000000000 (by omega) (by omega)
  obtain ⟨t3, t4⟩ := tdiv_bd den G g1 4000000000000000 (by omega) (by omega)
  have q1 : IntKind.i64.wrap (-(num.tdiv G)) = -(num.tdiv G) := IntWalk.i64_in _ (by omega)
  have q2 : IntKind.i64.wrap (-(den.tdiv G)) = -(den.tdiv G) := IntWalk.i64_in _ (by omega)
  have hz : (G = 0) = False := eq_false (by omega)
  have hne : (den == 0) = false := by simpa using h0
  clear h0
  go_enter Tryz.func96, Tryz.ntmps96
  go_wp2_with (go_at_call 168; refine (ref_gcd _ _ _ ?_ ?_).mono ?_; omega; omega; rintro e w1 ⟨rfl, pw, rfl⟩; (try rw [HG.out]))
  all_goals (try (exfalso; omega))
  all_goals go_region
  all_goals (go_wp2_with fail)
  all_goals (refine bodyPost_ret (v := pv (-(num.tdiv G)) (-(den.tdiv G))) (by simp [results, Tryz.results96, go_sem]) rfl ⟨rfl, ?_⟩; (repeat (first | exact New.refl _ | apply New.alloc | apply New.aft | apply New.drew | refine New.setCell ?_ ?_ _)); all_goals (first | done | (simp [size_aft]; done) | (simp [size_aft]; omega)))

set_option maxHeartbeats 4000000 in
theorem rlow3 (num den : Int) (w : World) (h1 : -4000000000000000 ≤ num ∧ num ≤ 4000000000000000) (h2 : -4000000000000000 ≤ den ∧ den ≤ 4000000000000000) (h0 : den ≠ 0) (hd : ¬ den < 0) (hn : 0 ≤ num) :
    Calls Tryz.prog 96 #[.int .i64 num, .int .i64 den] w fun en w' => en = .returned (pv ((num.tdiv (gcdI num den))) ((den.tdiv (gcdI num den)))) ∧ New w w' := by
  obtain ⟨g1, g2⟩ := gcdI_pos num den (by omega)
  generalize hG : gcdI num den = G at *
  have HG := Lib.hid hG
  clear hG
  obtain ⟨t1, t2⟩ := tdiv_bd num G g1 4000000000000000 (by omega) (by omega)
  obtain ⟨t3, t4⟩ := tdiv_bd den G g1 4000000000000000 (by omega) (by omega)
  have q1 : IntKind.i64.wrap ((num.tdiv G)) = (num.tdiv G) := IntWalk.i64_in _ (by omega)
  have q2 : IntKind.i64.wrap ((den.tdiv G)) = (den.tdiv G) := IntWalk.i64_in _ (by omega)
  have hz : (G = 0) = False := eq_false (by omega)
  have hne : (den == 0) = false := by simpa using h0
  clear h0
  go_enter Tryz.func96, Tryz.ntmps96
  go_wp2_with (go_at_call 168; refine (ref_gcd _ _ _ ?_ ?_).mono ?_; omega; omega; rintro e w1 ⟨rfl, pw, rfl⟩; (try rw [HG.out]))
  all_goals (try (exfalso; omega))
  all_goals go_region
  all_goals (go_wp2_with fail)
  all_goals (refine bodyPost_ret (v := pv ((num.tdiv G)) ((den.tdiv G))) (by simp [results, Tryz.results96, go_sem]) rfl ⟨rfl, ?_⟩; (repeat (first | exact New.refl _ | apply New.alloc | apply New.aft | apply New.drew | refine New.setCell ?_ ?_ _)); all_goals (first | done | (simp [size_aft]; done) | (simp [size_aft]; omega)))

set_option maxHeartbeats 4000000 in
theorem rlow4 (num den : Int) (w : World) (h1 : -4000000000000000 ≤ num ∧ num ≤ 4000000000000000) (h2 : -4000000000000000 ≤ den ∧ den ≤ 4000000000000000) (h0 : den ≠ 0) (hd : ¬ den < 0) (hn : num < 0) :
    Calls Tryz.prog 96 #[.int .i64 num, .int .i64 den] w fun en w' => en = .returned (pv ((num.tdiv (gcdI (-num) den))) ((den.tdiv (gcdI (-num) den)))) ∧ New w w' := by
  obtain ⟨g1, g2⟩ := gcdI_pos (-num) den (by omega)
  generalize hG : gcdI (-num) den = G at *
  have HG := Lib.hid hG
  clear hG
  obtain ⟨t1, t2⟩ := tdiv_bd num G g1 4000000000000000 (by omega) (by omega)
  obtain ⟨t3, t4⟩ := tdiv_bd den G g1 4000000000000000 (by omega) (by omega)
  have q1 : IntKind.i64.wrap ((num.tdiv G)) = (num.tdiv G) := IntWalk.i64_in _ (by omega)
  have q2 : IntKind.i64.wrap ((den.tdiv G)) = (den.tdiv G) := IntWalk.i64_in _ (by omega)
  have hz : (G = 0) = False := eq_false (by omega)
  have hne : (den == 0) = false := by simpa using h0
  clear h0
  go_enter Tryz.func96, Tryz.ntmps96
  go_wp2_with (go_at_call 168; refine (ref_gcd _ _ _ ?_ ?_).mono ?_; omega; omega; rintro e w1 ⟨rfl, pw, rfl⟩; (try rw [HG.out]))
  all_goals (try (exfalso; omega))
  all_goals go_region
  all_goals (go_wp2_with fail)
  all_goals (refine bodyPost_ret (v := pv ((num.tdiv G)) ((den.tdiv G))) (by simp [results, Tryz.results96, go_sem]) rfl ⟨rfl, ?_⟩; (repeat (first | exact New.refl _ | apply New.alloc | apply New.aft | apply New.drew | refine New.setCell ?_ ?_ _)); all_goals (first | done | (simp [size_aft]; done) | (simp [size_aft]; omega)))

theorem ref_Frac (num den : Int) (w : World) (h1 : -4000000000000000 ≤ num ∧ num ≤ 4000000000000000) (h2 : -4000000000000000 ≤ den ∧ den ≤ 4000000000000000) (h0 : den ≠ 0) :
    Calls Tryz.prog 96 #[.int .i64 num, .int .i64 den] w fun en w' => en = .returned (pv (lowN num den) (lowD num den)) ∧ New w w' := by
  unfold lowN lowD
  by_cases hd : den < 0
  · rw [if_pos hd, if_pos hd]
    by_cases hn : 0 < num
    · rw [show max (-num) num = num by omega]; exact rlow2 num den w h1 h2 h0 hd hn
    · rw [show max (-num) num = -num by omega]; exact rlow1 num den w h1 h2 h0 hd (by omega)
  · rw [if_neg hd, if_neg hd]
    by_cases hn : num < 0
    · rw [show max num (-num) = -num by omega]; exact rlow4 num den w h1 h2 h0 hd hn
    · rw [show max num (-num) = num by omega]; exact rlow3 num den w h1 h2 h0 hd (by omega)

end Go.Proofs.YtpdfbboagaflhaaGreat

set_option linter.unusedSimpArgs false
set_option linter.unusedVariables false
set_option maxRecDepth 100000
namespace Go.Proofs.YtpdfbboagaflhaaGreat
open Go.RowKit

theorem den_ne {a b c d e f g h : Int} (hk : meetI a b c d e f g h = 3) : denI a b c d e f g h ≠ 0 := by
  intro hD
  unfold denI at hD
  have hA2 : (c - a) * (h - b) - (d - b) * (g - a) = (c - a) * (f - b) - (d - b) * (e - a) := by grind
  unfold meetI at hk
  rw [turnI_sign a b c d e f, turnI_sign a b c d g h, hA2] at hk
  rcases sign_cases ((c - a) * (f - b) - (d - b) * (e - a)) with ⟨h1, h2⟩ | ⟨h1, h2⟩ | ⟨h1, h2⟩
  · rw [h1] at hk; simp at hk
  · rw [h1, if_pos ⟨rfl, rfl⟩] at hk
    unfold onLineI codeI at hk
    repeat' split at hk
    all_goals omega
  · rw [h1] at hk; simp at hk
theorem MeetI_comm (a b c d e f g h : Int) : MeetI e f g h a b c d = MeetI a b c d e f g h := by
  unfold MeetI
  by_cases h1 : okS a b c d = true ∧ okS e f g h = true
  · rw [if_pos h1, if_pos ⟨h1.2, h1.1⟩, meetI_comm h1.1 h1.2]
  · rw [if_neg h1, if_neg (fun hh => h1 ⟨hh.2, hh.1⟩)]
theorem MeetI_rev (a b c d e f g h : Int) : MeetI a b c d g h e f = MeetI a b c d e f g h := by
  unfold MeetI
  rw [okS_swap e f g h]
  by_cases h1 : okS a b c d = true ∧ okS e f g h = true
  · rw [if_pos h1, if_pos h1, meetI_rev h1.1 h1.2]
  · rw [if_neg h1, if_neg h1]
theorem MeetI_turn (a b c d e f g h : Int) : MeetI g h e f a b c d = MeetI a b c d e f g h := by
  rw [MeetI_comm, MeetI_rev]
def crX (a b c d e f g h : Int) : Int := a * denI a b c d e f g h + partI a b e f g h * (c - a)
def crY (a b c d e f g h : Int) : Int := b * denI a b c d e f g h + partI a b e f g h * (d - b)
def cr1 (a b c d e f g h : Int) : Int := if MeetI a b c d e f g h = 1 ∨ MeetI a b c d e f g h = 2 then (cEnd a b c d e f g h).1 else if MeetI a b c d e f g h = 3 then lowN (crX a b c d e f g h) (denI a b c d e f g h) else 0
def cr2 (a b c d e f g h : Int) : Int := if MeetI a b c d e f g h = 1 ∨ MeetI a b c d e f g h = 2 then 1 else if MeetI a b c d e f g h = 3 then lowD (crX a b c d e f g h) (denI a b c d e f g h) else 0
def cr3 (a b c d e f g h : Int) : Int := if MeetI a b c d e f g h = 1 ∨ MeetI a b c d e f g h = 2 then (cEnd a b c d e f g h).2 else if MeetI a b c d e f g h = 3 then lowN (crY a b c d e f g h) (denI a b c d e f g h) else 0
def cr4 (a b c d e f g h : Int) : Int := if MeetI a b c d e f g h = 1 ∨ MeetI a b c d e f g h = 2 then 1 else if MeetI a b c d e f g h = 3 then lowD (crY a b c d e f g h) (denI a b c d e f g h) else 0
def crO (a b c d e f g h : Int) : Bool := MeetI a b c d e f g h == 1 || MeetI a b c d e f g h == 2 || MeetI a b c d e f g h == 3
theorem MeetI_okS {a b c d e f g h : Int} (hk : MeetI a b c d e f g h ≠ 0) : okS a b c d = true ∧ okS e f g h = true ∧ MeetI a b c d e f g h = meetI a b c d e f g h := by
  unfold MeetI at *
  by_cases h1 : okS a b c d = true ∧ okS e f g h = true
  · exact ⟨h1.1, h1.2, if_pos h1⟩
  · rw [if_neg h1] at hk; exact absurd rfl hk
theorem den_turn (a b c d e f g h : Int) : denI g h e f a b c d = denI a b c d e f g h := by unfold denI; grind
theorem crX_turn (a b c d e f g h : Int) : crX g h e f a b c d = crX a b c d e f g h := by unfold crX denI partI; grind
theorem crY_turn (a b c d e f g h : Int) : crY g h e f a b c d = crY a b c d e f g h := by unfold crY denI partI; grind
theorem cEnd_turn' {a b c d e f g h : Int} (hk : MeetI a b c d e f g h = 1 ∨ MeetI a b c d e f g h = 2) : cEnd g h e f a b c d = cEnd a b c d e f g h := by
  obtain ⟨k1, k2, k3⟩ := MeetI_okS (show MeetI a b c d e f g h ≠ 0 by omega)
  exact cEnd_turn k1 k2 (by rw [← k3]; exact hk)
theorem cr1_turn (a b c d e f g h : Int) : cr1 g h e f a b c d = cr1 a b c d e f g h := by
  unfold cr1; rw [MeetI_turn, den_turn, crX_turn]
  by_cases hk : MeetI a b c d e f g h = 1 ∨ MeetI a b c d e f g h = 2
  · rw [if_pos hk, if_pos hk, cEnd_turn' hk]
  · rw [if_neg hk, if_neg hk]
theorem cr2_turn (a b c d e f g h : Int) : cr2 g h e f a b c d = cr2 a b c d e f g h := by
  unfold cr2; rw [MeetI_turn, den_turn, crX_turn]
theorem cr3_turn (a b c d e f g h : Int) : cr3 g h e f a b c d = cr3 a b c d e f g h := by
  unfold cr3; rw [MeetI_turn, den_turn, crY_turn]
  by_cases hk : MeetI a b c d e f g h = 1 ∨ MeetI a b c d e f g h = 2
  · rw [if_pos hk, if_pos hk, cEnd_turn' hk]
  · rw [if_neg hk, if_neg hk]
theorem cr4_turn (a b c d e f g h : Int) : cr4 g h e f a b c d = cr4 a b c d e f g h := by
  unfold cr4; rw [MeetI_turn, den_turn, crY_turn]
theorem crO_turn (a b c d e f g h : Int) : crO g h e f a b c d = crO a b c d e f g h := by
  unfold crO; rw [MeetI_turn]

set_option maxHeartbeats 4000000 in
theorem commonEnd_c (a b c d e f g h : Int) (w : World) (ha : 0 ≤ a ∧ a ≤ 10000) (hb : 0 ≤ b ∧ b ≤ 10000) (hc : 0 ≤ c ∧ c ≤ 10000) (hd : 0 ≤ d ∧ d ≤ 10000) (he : 0 ≤ e ∧ e ≤ 10000) (hf : 0 ≤ f ∧ f ≤ 10000) (hg : 0 ≤ g ∧ g ≤ 10000) (hh : 0 ≤ h ∧ h ≤ 10000) :
    Calls Tryz.prog 93 #[sv a b c d, sv e f g h] w fun en w' => en = .returned (pv (cEnd a b c d e f g h).1 (cEnd a b c d e f g h).2) ∧ New w w' := by
  have H1 := Lib.hid (fun w1 : World => on_c a b e f g h w1 (by omega) (by omega) (by omega) (by omega) (by omega) (by omega))
  have H2 := Lib.hid (fun w1 : World => on_c c d e f g h w1 (by omega) (by omega) (by omega) (by omega) (by omega) (by omega))
  have H3 := Lib.hid (fun w1 : World => on_c e f a b c d w1 (by omega) (by omega) (by omega) (by omega) (by omega) (by omega))
  rw [← onR_eq] at H1 H2 H3
  unfold cEnd
  clear ha hb hc hd he hf hg hh
  by_cases s1 : onR a b e f g h = true
  · rw [if_pos s1]
    rw [s1] at H1
    clear s1
    go_enter Tryz.func93, Tryz.ntmps93
    go_wp2_with (go_at_call 89; (with_reducible refine (H1.out _).mono ?_); rintro en w1 ⟨rfl, pw, rfl⟩)
    all_goals (refine bodyPost_ret (v := pv a b) (by simp [results, Tryz.results93, go_sem]) rfl ⟨rfl, ?_⟩; (repeat (first | exact New.refl _ | apply New.alloc | apply New.aft | apply New.drew | refine New.setCell ?_ ?_ _)); all_goals (first | done | (simp [size_aft]; done) | (simp [size_aft]; omega)))
  · rw [if_neg s1]
    rw [show onR a b e f g h = false by simpa using s1] at H1
    clear s1
    by_cases s2 : onR c d e f g h = true
    · rw [if_pos s2]
      rw [s2] at H2
      clear s2
      go_enter Tryz.func93, Tryz.ntmps93
      go_wp2_with (first | (go_at_call 89; (with_reducible refine (H1.out _).mono ?_); rintro en w1 ⟨rfl, pw, rfl⟩) | (go_at_call 89; (with_reducible refine (H2.out _).mono ?_); rintro en w1 ⟨rfl, pw, rfl⟩))
      all_goals (refine bodyPost_ret (v := pv c d) (by simp [results, Tryz.results93, go_sem]) rfl ⟨rfl, ?_⟩; (repeat (first | exact New.refl _ | apply New.alloc | apply New.aft | apply New.drew | refine New.setCell ?_ ?_ _)); all_goals (first | done | (simp [size_aft]; done) | (simp [size_aft]; omega)))
    · rw [if_neg s2]
      rw [show onR c d e f g h = false by simpa using s2] at H2
      clear s2
      by_cases s3 : onR e f a b c d = true
      · rw [if_pos s3]
        rw [s3] at H3
        clear s3
        go_enter Tryz.func93, Tryz.ntmps93
        go_wp2_with (first | (go_at_call 89; (with_reducible refine (H1.out _).mono ?_); rintro en w1 ⟨rfl, pw, rfl⟩) | (go_at_call 89; (with_reducible refine (H2.out _).mono ?_); rintro en w1 ⟨rfl, pw, rfl⟩) | (go_at_call 89; (with_reducible refine (H3.out _).mono ?_); rintro en w1 ⟨rfl, pw, rfl⟩))
        all_goals (refine bodyPost_ret (v := pv e f) (by simp [results, Tryz.results93, go_sem]) rfl ⟨rfl, ?_⟩; (repeat (first | exact New.refl _ | apply New.alloc | apply New.aft | apply New.drew | refine New.setCell ?_ ?_ _)); all_goals (first | done | (simp [size_aft]; done) | (simp [size_aft]; omega)))
      · rw [if_neg s3]
        rw [show onR e f a b c d = false by simpa using s3] at H3
        clear s3
        go_enter Tryz.func93, Tryz.ntmps93
        go_wp2_with (first | (go_at_call 89; (with_reducible refine (H1.out _).mono ?_); rintro en w1 ⟨rfl, pw, rfl⟩) | (go_at_call 89; (with_reducible refine (H2.out _).mono ?_); rintro en w1 ⟨rfl, pw, rfl⟩) | (go_at_call 89; (with_reducible refine (H3.out _).mono ?_); rintro en w1 ⟨rfl, pw, rfl⟩))
        all_goals (refine bodyPost_ret (v := pv g h) (by simp [results, Tryz.results93, go_sem]) rfl ⟨rfl, ?_⟩; (repeat (first | exact New.refl _ | apply New.alloc | apply New.aft | apply New.drew | refine New.setCell ?_ ?_ _)); all_goals (first | done | (simp [size_aft]; done) | (simp [size_aft]; omega)))

def crossT (a b c d e f g h : Int) : Value := .tuple #[pv (cr1 a b c d e f g h) (cr2 a b c d e f g h), pv (cr3 a b c d e f g h) (cr4 a b c d e f g h), .bool (crO a b c d e f g h)]
section
variable {a b c d e f g h : Int}
theorem crossT_1 (hk : MeetI a b c d e f g h = 1 ∨ MeetI a b c d e f g h = 2) : crossT a b c d e f g h = .tuple #[pv (cEnd a b c d e f g h).1 1, pv (cEnd a b c d e f g h).2 1, .bool true] := by
  have : crO a b c d e f g h = true := by unfold crO; rcases hk with hk | hk <;> rw [hk] <;> rfl
  rw [crossT, this, cr1, cr2, cr3, cr4, if_pos hk, if_pos hk, if_pos hk, if_pos hk]
theorem crossT_3 (hk : MeetI a b c d e f g h = 3) : crossT a b c d e f g h = .tuple #[pv (lowN (crX a b c d e f g h) (denI a b c d e f g h)) (lowD (crX a b c d e f g h) (denI a b c d e f g h)), pv (lowN (crY a b c d e f g h) (denI a b c d e f g h)) (lowD (crY a b c d e f g h) (denI a b c d e f g h)), .bool true] := by
  have : crO a b c d e f g h = true := by unfold crO; rw [hk]; rfl
  have hn : ¬ (MeetI a b c d e f g h = 1 ∨ MeetI a b c d e f g h = 2) := by omega
  rw [crossT, this, cr1, cr2, cr3, cr4, if_neg hn, if_neg hn, if_neg hn, if_neg hn, if_pos hk, if_pos hk, if_pos hk, if_pos hk]
theorem crossT_0 (hk : ¬ (MeetI a b c d e f g h = 1 ∨ MeetI a b c d e f g h = 2)) (h3 : MeetI a b c d e f g h ≠ 3) : crossT a b c d e f g h = .tuple #[pv 0 0, pv 0 0, .bool false] := by
  have : crO a b c d e f g h = false := by
    unfold crO
    rw [Bool.or_eq_false_iff, Bool.or_eq_false_iff]
    simp only [beq_eq_false_iff_ne]; omega
  rw [crossT, this, cr1, cr2, cr3, cr4, if_neg hk, if_neg hk, if_neg hk, if_neg hk, if_neg h3, if_neg h3, if_neg h3, if_neg h3]
end

set_option maxHeartbeats 8000000 in
theorem Cross_c (a b c d e f g h : Int) (w : World) : Calls Tryz.prog 35 #[sv a b c d, sv e f g h] w fun en w' => en = .returned (crossT a b c d e f g h) ∧ New w w' := by
  have HM := Lib.hid (fun w1 : World => Meet_c a b c d e f g h w1)
  by_cases hk : MeetI a b c d e f g h = 1 ∨ MeetI a b c d e f g h = 2
  · obtain ⟨k1, k2, k3⟩ := MeetI_okS (show MeetI a b c d e f g h ≠ 0 by omega)
    obtain ⟨⟨ha, hb⟩, ⟨hc, hd⟩, _⟩ := okS_iff.1 k1
    obtain ⟨⟨he, hf⟩, ⟨hg, hh⟩, _⟩ := okS_iff.1 k2
    have HE := Lib.hid (fun w1 : World => commonEnd_c a b c d e f g h w1 ha hb hc hd he hf hg hh)
    rw [crossT_1 hk]
    clear k1 k2 k3 ha hb hc hd he hf hg hh
    generalize (cEnd a b c d e f g h).1 = X at *
    generalize (cEnd a b c d e f g h).2 = Y at *
    rcases hk with hk | hk
    all_goals
      rw [hk] at HM
      clear hk
      go_enter Tryz.func35, Tryz.ntmps35
      go_wp2_with (first | (go_at_call 34; refine (HM.out _).mono ?_; rintro en w1 ⟨rfl, pw, rfl⟩) | (go_at_call 93; refine (HE.out _).mono ?_; rintro en w1 ⟨rfl, pw, rfl⟩))
      go_region
      all_goals (go_wp2_with fail)
      all_goals (refine bodyPost_ret (v := .tuple #[pv X 1, pv Y 1, .bool true]) (by simp [results, Tryz.results35, go_sem]) rfl ⟨rfl, ?_⟩; (repeat (first | exact New.refl _ | apply New.alloc | apply New.aft | apply New.drew | refine New.setCell ?_ ?_ _)); all_goals (first | done | (simp [size_aft]; done) | (simp [size_aft]; omega)))
  · by_cases h3 : MeetI a b c d e f g h = 3
    · obtain ⟨k1, k2, k3⟩ := MeetI_okS (show MeetI a b c d e f g h ≠ 0 by omega)
      obtain ⟨⟨ha, hb⟩, ⟨hc, hd⟩, _⟩ := okS_iff.1 k1
      obtain ⟨⟨he, hf⟩, ⟨hg, hh⟩, _⟩ := okS_iff.1 k2
      have HC := Lib.hid (fun w1 : World => crossing_c a b c d e f g h w1 ha hb hc hd he hf hg hh (den_ne (k3 ▸ h3)))
      rw [crossT_3 h3, crX, crY]
      rw [h3] at HM
      clear k1 k2 k3 ha hb hc hd he hf hg hh hk h3
      generalize lowN (a * denI a b c d e f g h + partI a b e f g h * (c - a)) (denI a b c d e f g h) = X1 at *
      generalize lowD (a * denI a b c d e f g h + partI a b e f g h * (c - a)) (denI a b c d e f g h) = X2 at *
      generalize lowN (b * denI a b c d e f g h + partI a b e f g h * (d - b)) (denI a b c d e f g h) = Y1 at *
      generalize lowD (b * denI a b c d e f g h + partI a b e f g h * (d - b)) (denI a b c d e f g h) = Y2 at *
      go_enter Tryz.func35, Tryz.ntmps35
      go_wp2_with (first | (go_at_call 34; refine (HM.out _).mono ?_; rintro en w1 ⟨rfl, pw, rfl⟩) | (go_at_call 94; refine (HC.out _).mono ?_; rintro en w1 ⟨rfl, pw, rfl⟩))
      go_region
      all_goals (go_wp2_with fail)
      all_goals (refine bodyPost_ret (v := .tuple #[pv X1 X2, pv Y1 Y2, .bool true]) (by simp [results, Tryz.results35, go_sem]) rfl ⟨rfl, ?_⟩; (repeat (first | exact New.refl _ | apply New.alloc | apply New.aft | apply New.drew | refine New.setCell ?_ ?_ _)); all_goals (first | done | (simp [size_aft]; done) | (simp [size_aft]; omega)))
    · rw [crossT_0 hk h3]
      have e1 : (MeetI a b c d e f g h == 1) = false := by rw [beq_eq_false_iff_ne]; omega
      have e2 : (MeetI a b c d e f g h == 2) = false := by rw [beq_eq_false_iff_ne]; omega
      have e3 : (MeetI a b c d e f g h == 3) = false := by rw [beq_eq_false_iff_ne]; omega
      clear hk h3
      generalize MeetI a b c d e f g h = K at *
      go_enter Tryz.func35, Tryz.ntmps35
      go_wp2_with (go_at_call 34; refine (HM.out _).mono ?_; rintro en w1 ⟨rfl, pw, rfl⟩)
      all_goals (refine bodyPost_ret (v := .tuple #[pv 0 0, pv 0 0, .bool false]) (by simp [results, Tryz.results35, go_sem]) rfl ⟨rfl, ?_⟩; (repeat (first | exact New.refl _ | apply New.alloc | apply New.aft | apply New.drew | refine New.setCell ?_ ?_ _)); all_goals (first | done | (simp [size_aft]; done) | (simp [size_aft]; omega)))

end Go.Proofs.YtpdfbboagaflhaaGreat
