/- What edge, simple and CheckPoly of the reference return. -/
import Derived.Test.YtpdfbboagaflhaaGreatN10
import Derived.Test.YtpdfbboagaflhaaGreatN03
import Derived.Deep.RegionHeld3
import Derived.Deep.RegionWith
import Derived.BigRegion
import Derived.LoopTactic

set_option linter.unusedSimpArgs false
set_option linter.unusedVariables false
set_option maxRecDepth 100000
namespace Go.Proofs.YtpdfbboagaflhaaGreat
open Go.RowKit Go.Maps

theorem ptLit_one {x y x' y' : Int} (e : ptLit x y = ptLit x' y') (h1 : 0 ≤ x ∧ x ≤ 10000) (h2 : 0 ≤ y ∧ y ≤ 10000) (h3 : 0 ≤ x' ∧ x' ≤ 10000) (h4 : 0 ≤ y' ∧ y' ≤ 10000) : x = x' ∧ y = y' := by
  unfold ptLit at e
  simp only [Lit.string.injEq] at e
  have w1 : (Lit.int .i64 x).wf = true := WalkArith.wf_i64 (by omega)
  have w2 : (Lit.int .i64 y).wf = true := WalkArith.wf_i64 (by omega)
  have w3 : (Lit.int .i64 x').wf = true := WalkArith.wf_i64 (by omega)
  have w4 : (Lit.int .i64 y').wf = true := WalkArith.wf_i64 (by omega)
  have := keyBytes_inj (l := [.int .i64 x, .int .i64 y]) (l' := [.int .i64 x', .int .i64 y']) (by simp [Alike, Lit.sameKind]) (by simp [Lit.keyWf, w1, w2]) (by simp [Lit.keyWf, w3, w4]) e
  simpa using this
theorem rep_none {l : List P2} (hok : okL l = true) (h : ∀ i j : Nat, j < i → i < l.length → ¬ (px l i = px l j ∧ py l i = py l j)) : repI l = false := by
  rw [repI_nodup, keysTo, nodup_map_range]
  intro i j hi hj e
  have b1 := okL_bd hok i
  have b2 := okL_bd hok j
  have := ptLit_one e b1.1 b1.2 b2.1 b2.2
  rcases Nat.lt_trichotomy i j with hh | hh | hh
  · exact absurd ⟨this.1.symm, this.2.symm⟩ (h j i hh hj)
  · exact hh
  · exact absurd this (h i j hh hi)
theorem rep_pair {l : List P2} {i j : Nat} (hj : j < i) (hi : i < l.length) (hx : px l i = px l j) (hy : py l i = py l j) : repI l = true := by
  cases h : repI l
  · have := rep_no h hi (by omega) hx hy; omega
  · rfl

set_option maxHeartbeats 4000000 in
theorem ref_edge (b off n c k : Nat) (l : List P2) (w : World) (hk : k < n) (hl : n ≤ 1000000) (hw : Pts w b off n l) :
    Calls Tryz.prog 110 #[.slice (some ⟨b, off, none⟩) n c, .int .i64 k] w fun en w' => en = .returned (sv (px l k) (py l k) (px l ((k + 1) % n)) (py l ((k + 1) % n))) ∧ New w w' := by
  obtain ⟨hn, hb, hcell⟩ := hw
  obtain ⟨c1, c2⟩ := hcell k hk
  have hkn : (k : Int) < (n : Int) := by omega
  have hb1 : b < w.heap.size + 1 := by omega
  have hw1 : IntKind.i64.wrap ((k : Int) + 1) = (k : Int) + 1 := IntWalk.i64_in _ (by omega)
  have hnz : (n = 0) = False := eq_false (by omega)
  by_cases hlast : k + 1 = n
  · obtain ⟨d1, d2⟩ := hcell 0 (by omega)
    simp only [Nat.zero_mul, Nat.add_zero] at d1 d2
    have hr : ((k : Int) + 1).tmod (n : Int) = 0 := by rw [show (k : Int) + 1 = (n : Int) by omega]; exact Int.tmod_self
    rw [hlast, Nat.mod_self]
    clear hcell hn hlast
    go_enter Tryz.func110, Tryz.ntmps110
    go_wp2_with fail
    go_region
    all_goals (go_wp2_with fail)
    all_goals (refine bodyPost_ret (v := sv (px l k) (py l k) (px l 0) (py l 0)) (by simp [results, Tryz.results110, go_sem]) rfl ⟨rfl, ?_⟩; (repeat (first | exact New.refl _ | apply New.alloc | apply New.aft | apply New.drew | refine New.setCell ?_ ?_ _)); all_goals (first | done | (simp [size_aft]; done) | (simp [size_aft]; omega)))
  · obtain ⟨d1, d2⟩ := hcell (k + 1) (by omega)
    have hr : ((k : Int) + 1).tmod (n : Int) = (k : Int) + 1 := Int.tmod_eq_of_lt (by omega) (by omega)
    have hge : (0 : Int) ≤ (k : Int) + 1 := by omega
    have hlt3 : (k : Int) + 1 < (n : Int) := by omega
    have htn : ((k : Int) + 1).toNat = k + 1 := by omega
    rw [Nat.mod_eq_of_lt (by omega)]
    clear hcell hn hlast
    go_enter Tryz.func110, Tryz.ntmps110
    go_wp2_with fail
    go_region
    all_goals (go_wp2_with fail)
    all_goals (refine bodyPost_ret (v := sv (px l k) (py l k) (px l (k + 1)) (py l (k + 1))) (by simp [results, Tryz.results110, go_sem]) rfl ⟨rfl, ?_⟩; (repeat (first | exact New.refl _ | apply New.alloc | apply New.aft | apply New.drew | refine New.setCell ?_ ?_ _)); all_goals (first | done | (simp [size_aft]; done) | (simp [size_aft]; omega)))

set_option maxHeartbeats 16000000 in
theorem ref_simple (b off n c : Nat) (l : List P2) (w : World) (h0 : 3 ≤ n) (hl : n ≤ 1000000) (hw : Pts w b off n l) (hok : okL l = true) (hE : ∀ k, k < n → okS (px l k) (py l k) (px l ((k + 1) % n)) (py l ((k + 1) % n)) = true) :
    Calls Tryz.prog 108 #[.slice (some ⟨b, off, none⟩) n c] w fun en w' => en = .returned (.bool (apartB l)) ∧ New w w' := by
  have HW := Lib.hid hw
  have HN := Lib.hid hw.1
  have HED := Lib.hid (fun (k : Nat) (hk : k < n) (w1 : World) (h1 : New w w1) => ref_edge b off n c k l w1 hk hl (HW.out.new h1))
  have HEO := Lib.hid hE
  have HB := Lib.hid (okL_bd hok)
  clear hw hok hE
  go_enter Tryz.func108, Tryz.ntmps108
  go_wp2_with fail
  go_loopw [4] (fun i wr => ∃ k : Nat, k ≤ n ∧ i = .int .i64 k ∧ RowsOk (edgesL l) n k ∧ New w wr) (fun i _ => n - (intOf i).toNat)
  case atStart => exact ⟨0, Nat.zero_le _, rfl, fun i hi => absurd hi (Nat.not_lt_zero _), New.refl _⟩
  case round =>
    obtain ⟨k, hk, rfl, hrows, pr, rfl⟩ := hrel
    have HR := Lib.hid hrows
    clear hrows
    by_cases hlt : k < n
    · have k1 := HEO.out k hlt
      have HE1 := Lib.hid (HED.out k hlt)
      go_wp2_with fail
      go_loopw [5] (fun j wr => ∃ m : Nat, k + 1 ≤ m ∧ m ≤ n ∧ j = .int .i64 m ∧ RowOk (edgesL l) n k m ∧ New w wr) (fun j _ => n - (intOf j).toNat)
      case atStart => exact ⟨k + 1, Nat.le_refl _, by omega, by go_num, rowOk_start _ _ _, by (repeat (first | exact New.refl _ | apply New.alloc | apply New.aft | apply New.drew | refine New.setCell ?_ ?_ _)); all_goals (first | done | (simp [size_aft]; done) | (simp [size_aft]; omega))⟩
      case round =>
        obtain ⟨m, hm1, hm2, rfl, hrow, po, rfl⟩ := hrel
        have HM := Lib.hid hrow
        clear hrow
        by_cases hmn : m < n
        · have k2 := HEO.out m hmn
          have HE2 := Lib.hid (HED.out m hmn)
          obtain ⟨⟨a1, a2⟩, ⟨a3, a4⟩, _⟩ := okS_iff.1 k1
          obtain ⟨⟨e1, e2⟩, ⟨e3, e4⟩, _⟩ := okS_iff.1 k2
          have HMT := Lib.hid (fun w3 : World => ref_meet (px l k) (py l k) (px l ((k + 1) % n)) (py l ((k + 1) % n)) (px l m) (py l m) (px l ((m + 1) % n)) (py l ((m + 1) % n)) w3 a1 a2 a3 a4 e1 e2 e3 e4)
          rw [meet_eq k1 k2] at HMT
          have hME : meetI (px l k) (py l k) (px l ((k + 1) % n)) (py l ((k + 1) % n)) (px l m) (py l m) (px l ((m + 1) % n)) (py l ((m + 1) % n)) = meetE (edgesL l) k m := by
            obtain ⟨x1, x2, x3, x4⟩ := edgesL_at l k (by rw [HN.out]; exact hlt)
            obtain ⟨y1, y2, y3, y4⟩ := edgesL_at l m (by rw [HN.out]; exact hmn)
            rw [meetE, x1, x2, x3, x4, y1, y2, y3, y4, HN.out]
          rw [hME] at HMT
          have HNO := Lib.hid (fun (hne : meetE (edgesL l) k m ≠ wantI n k m) => apartB_no (l := l) (i := k) (j := m) (by omega) (by rw [HN.out]; exact hmn) (by rw [HN.out]; exact hne))
          have HOKE := Lib.hid (fun (he : meetE (edgesL l) k m = wantI n k m) => rowOk_succ HM.out he)
          clear a1 a2 a3 a4 e1 e2 e3 e4 k2 hME
          have wk : IntKind.i64.wrap ((k : Int) + 1) = (k : Int) + 1 := IntWalk.i64_in _ (by omega)
          have wn : IntKind.i64.wrap ((n : Int) - 1) = (n : Int) - 1 := IntWalk.i64_in _ (by omega)
          have hcase : (m = k + 1) ∨ (m ≠ k + 1 ∧ k = 0 ∧ m + 1 = n) ∨ (m ≠ k + 1 ∧ k = 0 ∧ m + 1 ≠ n) ∨ (m ≠ k + 1 ∧ k ≠ 0) := by omega
          rcases hcase with hc | ⟨hc, hd, he⟩ | ⟨hc, hd, he⟩ | ⟨hc, hd⟩
          · rw [want_1 (.inl hc)] at HNO HOKE
            generalize meetE (edgesL l) k m = K at *
            have u1 : ((m : Int) == (k : Int) + 1) = true := by simp; omega
            clear hc
            by_cases hK : K = 1
            · have HK := Lib.hid (HOKE.out hK)
              have z1 : (K == 1) = true := by simpa using hK
              have z2 : (K != 1) = false := by simpa using hK
              clear hK HNO HOKE
              go_wp2_with (first | (go_at_call 110; (with_reducible refine (HE1.out _ (by (repeat (first | exact New.refl _ | apply New.alloc | apply New.aft | apply New.drew | refine New.setCell ?_ ?_ _)); all_goals (first | done | (simp [size_aft]; done) | (simp [size_aft]; omega)))).mono ?_); rintro en w1 ⟨rfl, pw, rfl⟩) | (go_at_call 110; (with_reducible refine (HE2.out _ (by (repeat (first | exact New.refl _ | apply New.alloc | apply New.aft | apply New.drew | refine New.setCell ?_ ?_ _)); all_goals (first | done | (simp [size_aft]; done) | (simp [size_aft]; omega)))).mono ?_); rintro en w1 ⟨rfl, pw, rfl⟩) | (go_at_call 97; refine (HMT.out _).mono ?_; rintro en w1 ⟨rfl, pw, rfl⟩))
              refine ⟨⟨m + 1, by omega, by omega, by go_num, HK.out, by (repeat (first | exact New.refl _ | apply New.alloc | apply New.aft | apply New.drew | refine New.setCell ?_ ?_ _)); all_goals (first | done | (simp [size_aft]; done) | (simp [size_aft]; omega))⟩, by simp [intOf]; omega⟩
            · have HF := Lib.hid (HNO.out hK)
              have z1 : (K == 1) = false := by simpa using hK
              have z2 : (K != 1) = true := by simpa using hK
              clear hK HNO HOKE
              go_wp2_with (first | (go_at_call 110; (with_reducible refine (HE1.out _ (by (repeat (first | exact New.refl _ | apply New.alloc | apply New.aft | apply New.drew | refine New.setCell ?_ ?_ _)); all_goals (first | done | (simp [size_aft]; done) | (simp [size_aft]; omega)))).mono ?_); rintro en w1 ⟨rfl, pw, rfl⟩) | (go_at_call 110; (with_reducible refine (HE2.out _ (by (repeat (first | exact New.refl _ | apply New.alloc | apply New.aft | apply New.drew | refine New.setCell ?_ ?_ _)); all_goals (first | done | (simp [size_aft]; done) | (simp [size_aft]; omega)))).mono ?_); rintro en w1 ⟨rfl, pw, rfl⟩) | (go_at_call 97; refine (HMT.out _).mono ?_; rintro en w1 ⟨rfl, pw, rfl⟩))
              go_ret
              exact ⟨ret_bool HF.out.symm, by (repeat (first | exact New.refl _ | apply New.alloc | apply New.aft | apply New.drew | refine New.setCell ?_ ?_ _)); all_goals (first | done | (simp [size_aft]; done) | (simp [size_aft]; omega))⟩
          · rw [want_1 (.inr ⟨hd, he⟩)] at HNO HOKE
            generalize meetE (edgesL l) k m = K at *
            have u1 : ((m : Int) == (k : Int) + 1) = false := by simp; omega
            have u2 : ((k : Int) == 0) = true := by simp; omega
            have u3 : ((m : Int) == (n : Int) - 1) = true := by simp; omega
            clear hc hd he
            by_cases hK : K = 1
            · have HK := Lib.hid (HOKE.out hK)
              have z1 : (K == 1) = true := by simpa using hK
              have z2 : (K != 1) = false := by simpa using hK
              clear hK HNO HOKE
              go_wp2_with (first | (go_at_call 110; (with_reducible refine (HE1.out _ (by (repeat (first | exact New.refl _ | apply New.alloc | apply New.aft | apply New.drew | refine New.setCell ?_ ?_ _)); all_goals (first | done | (simp [size_aft]; done) | (simp [size_aft]; omega)))).mono ?_); rintro en w1 ⟨rfl, pw, rfl⟩) | (go_at_call 110; (with_reducible refine (HE2.out _ (by (repeat (first | exact New.refl _ | apply New.alloc | apply New.aft | apply New.drew | refine New.setCell ?_ ?_ _)); all_goals (first | done | (simp [size_aft]; done) | (simp [size_aft]; omega)))).mono ?_); rintro en w1 ⟨rfl, pw, rfl⟩) | (go_at_call 97; refine (HMT.out _).mono ?_; rintro en w1 ⟨rfl, pw, rfl⟩))
              refine ⟨⟨m + 1, by omega, by omega, by go_num, HK.out, by (repeat (first | exact New.refl _ | apply New.alloc | apply New.aft | apply New.drew | refine New.setCell ?_ ?_ _)); all_goals (first | done | (simp [size_aft]; done) | (simp [size_aft]; omega))⟩, by simp [intOf]; omega⟩
            · have HF := Lib.hid (HNO.out hK)
              have z1 : (K == 1) = false := by simpa using hK
              have z2 : (K != 1) = true := by simpa using hK
              clear hK HNO HOKE
              go_wp2_with (first | (go_at_call 110; (with_reducible refine (HE1.out _ (by (repeat (first | exact New.refl _ | apply New.alloc | apply New.aft | apply New.drew | refine New.setCell ?_ ?_ _)); all_goals (first | done | (simp [size_aft]; done) | (simp [size_aft]; omega)))).mono ?_); rintro en w1 ⟨rfl, pw, rfl⟩) | (go_at_call 110; (with_reducible refine (HE2.out _ (by (repeat (first | exact New.refl _ | apply New.alloc | apply New.aft | apply New.drew | refine New.setCell ?_ ?_ _)); all_goals (first | done | (simp [size_aft]; done) | (simp [size_aft]; omega)))).mono ?_); rintro en w1 ⟨rfl, pw, rfl⟩) | (go_at_call 97; refine (HMT.out _).mono ?_; rintro en w1 ⟨rfl, pw, rfl⟩))
              go_ret
              exact ⟨ret_bool HF.out.symm, by (repeat (first | exact New.refl _ | apply New.alloc | apply New.aft | apply New.drew | refine New.setCell ?_ ?_ _)); all_goals (first | done | (simp [size_aft]; done) | (simp [size_aft]; omega))⟩
          · rw [want_0 (by omega)] at HNO HOKE
            generalize meetE (edgesL l) k m = K at *
            have u1 : ((m : Int) == (k : Int) + 1) = false := by simp; omega
            have u2 : ((k : Int) == 0) = true := by simp; omega
            have u3 : ((m : Int) == (n : Int) - 1) = false := by simp; omega
            clear hc hd he
            by_cases hK : K = 0
            · have HK := Lib.hid (HOKE.out hK)
              have z1 : (K == 0) = true := by simpa using hK
              have z2 : (K != 0) = false := by simpa using hK
              clear hK HNO HOKE
              go_wp2_with (first | (go_at_call 110; (with_reducible refine (HE1.out _ (by (repeat (first | exact New.refl _ | apply New.alloc | apply New.aft | apply New.drew | refine New.setCell ?_ ?_ _)); all_goals (first | done | (simp [size_aft]; done) | (simp [size_aft]; omega)))).mono ?_); rintro en w1 ⟨rfl, pw, rfl⟩) | (go_at_call 110; (with_reducible refine (HE2.out _ (by (repeat (first | exact New.refl _ | apply New.alloc | apply New.aft | apply New.drew | refine New.setCell ?_ ?_ _)); all_goals (first | done | (simp [size_aft]; done) | (simp [size_aft]; omega)))).mono ?_); rintro en w1 ⟨rfl, pw, rfl⟩) | (go_at_call 97; refine (HMT.out _).mono ?_; rintro en w1 ⟨rfl, pw, rfl⟩))
              refine ⟨⟨m + 1, by omega, by omega, by go_num, HK.out, by (repeat (first | exact New.refl _ | apply New.alloc | apply New.aft | apply New.drew | refine New.setCell ?_ ?_ _)); all_goals (first | done | (simp [size_aft]; done) | (simp [size_aft]; omega))⟩, by simp [intOf]; omega⟩
            · have HF := Lib.hid (HNO.out hK)
              have z1 : (K == 0) = false := by simpa using hK
              have z2 : (K != 0) = true := by simpa using hK
              clear hK HNO HOKE
              go_wp2_with (first | (go_at_call 110; (with_reducible refine (HE1.out _ (by (repeat (first | exact New.refl _ | apply New.alloc | apply New.aft | apply New.drew | refine New.setCell ?_ ?_ _)); all_goals (first | done | (simp [size_aft]; done) | (simp [size_aft]; omega)))).mono ?_); rintro en w1 ⟨rfl, pw, rfl⟩) | (go_at_call 110; (with_reducible refine (HE2.out _ (by (repeat (first | exact New.refl _ | apply New.alloc | apply New.aft | apply New.drew | refine New.setCell ?_ ?_ _)); all_goals (first | done | (simp [size_aft]; done) | (simp [size_aft]; omega)))).mono ?_); rintro en w1 ⟨rfl, pw, rfl⟩) | (go_at_call 97; refine (HMT.out _).mono ?_; rintro en w1 ⟨rfl, pw, rfl⟩))
              go_ret
              exact ⟨ret_bool HF.out.symm, by (repeat (first | exact New.refl _ | apply New.alloc | apply New.aft | apply New.drew | refine New.setCell ?_ ?_ _)); all_goals (first | done | (simp [size_aft]; done) | (simp [size_aft]; omega))⟩
          · rw [want_0 (by omega)] at HNO HOKE
            generalize meetE (edgesL l) k m = K at *
            have u1 : ((m : Int) == (k : Int) + 1) = false := by simp; omega
            have u2 : ((k : Int) == 0) = false := by simp; omega
            clear hc hd
            by_cases hK : K = 0
            · have HK := Lib.hid (HOKE.out hK)
              have z1 : (K == 0) = true := by simpa using hK
              have z2 : (K != 0) = false := by simpa using hK
              clear hK HNO HOKE
              go_wp2_with (first | (go_at_call 110; (with_reducible refine (HE1.out _ (by (repeat (first | exact New.refl _ | apply New.alloc | apply New.aft | apply New.drew | refine New.setCell ?_ ?_ _)); all_goals (first | done | (simp [size_aft]; done) | (simp [size_aft]; omega)))).mono ?_); rintro en w1 ⟨rfl, pw, rfl⟩) | (go_at_call 110; (with_reducible refine (HE2.out _ (by (repeat (first | exact New.refl _ | apply New.alloc | apply New.aft | apply New.drew | refine New.setCell ?_ ?_ _)); all_goals (first | done | (simp [size_aft]; done) | (simp [size_aft]; omega)))).mono ?_); rintro en w1 ⟨rfl, pw, rfl⟩) | (go_at_call 97; refine (HMT.out _).mono ?_; rintro en w1 ⟨rfl, pw, rfl⟩))
              refine ⟨⟨m + 1, by omega, by omega, by go_num, HK.out, by (repeat (first | exact New.refl _ | apply New.alloc | apply New.aft | apply New.drew | refine New.setCell ?_ ?_ _)); all_goals (first | done | (simp [size_aft]; done) | (simp [size_aft]; omega))⟩, by simp [intOf]; omega⟩
            · have HF := Lib.hid (HNO.out hK)
              have z1 : (K == 0) = false := by simpa using hK
              have z2 : (K != 0) = true := by simpa using hK
              clear hK HNO HOKE
              go_wp2_with (first | (go_at_call 110; (with_reducible refine (HE1.out _ (by (repeat (first | exact New.refl _ | apply New.alloc | apply New.aft | apply New.drew | refine New.setCell ?_ ?_ _)); all_goals (first | done | (simp [size_aft]; done) | (simp [size_aft]; omega)))).mono ?_); rintro en w1 ⟨rfl, pw, rfl⟩) | (go_at_call 110; (with_reducible refine (HE2.out _ (by (repeat (first | exact New.refl _ | apply New.alloc | apply New.aft | apply New.drew | refine New.setCell ?_ ?_ _)); all_goals (first | done | (simp [size_aft]; done) | (simp [size_aft]; omega)))).mono ?_); rintro en w1 ⟨rfl, pw, rfl⟩) | (go_at_call 97; refine (HMT.out _).mono ?_; rintro en w1 ⟨rfl, pw, rfl⟩))
              go_ret
              exact ⟨ret_bool HF.out.symm, by (repeat (first | exact New.refl _ | apply New.alloc | apply New.aft | apply New.drew | refine New.setCell ?_ ?_ _)); all_goals (first | done | (simp [size_aft]; done) | (simp [size_aft]; omega))⟩
        · have HMN := Lib.hid (show m = n by omega)
          go_wp2_with fail
          refine ⟨⟨k + 1, by omega, by go_num, rowsOk_succ HR.out (by have := HM.out; rwa [HMN.out] at this), by (repeat (first | exact New.refl _ | apply New.alloc | apply New.aft | apply New.drew | refine New.setCell ?_ ?_ _)); all_goals (first | done | (simp [size_aft]; done) | (simp [size_aft]; omega))⟩, by simp [intOf]; omega⟩
    · have HKN := Lib.hid (show k = n by omega)
      go_wp2_with fail
      go_ret
      exact ⟨ret_bool ((apartB_iff l).2 (by have := HR.out; rw [HKN.out] at this; rw [HN.out]; exact this)).symm, by (repeat (first | exact New.refl _ | apply New.alloc | apply New.aft | apply New.drew | refine New.setCell ?_ ?_ _)); all_goals (first | done | (simp [size_aft]; done) | (simp [size_aft]; omega))⟩

def PairFree (l : List P2) (k : Nat) : Prop := ∀ i j : Nat, j < i → i < k → ¬ (px l i = px l j ∧ py l i = py l j)
def PairRow (l : List P2) (i m : Nat) : Prop := ∀ j : Nat, j < m → ¬ (px l i = px l j ∧ py l i = py l j)
theorem pairRow_succ {l : List P2} {i m : Nat} (h : PairRow l i m) (he : ¬ (px l i = px l m ∧ py l i = py l m)) : PairRow l i (m + 1) := fun j hj => by
  by_cases e : j = m
  · subst e; exact he
  · exact h j (by omega)
theorem pairFree_succ {l : List P2} {k : Nat} (h : PairFree l k) (he : PairRow l k k) : PairFree l (k + 1) := fun i j hj hi => by
  by_cases e : i = k
  · subst e; exact he j hj
  · exact h i j hj (by omega)

set_option maxHeartbeats 16000000 in
theorem ref_checkPoly (b off n c : Nat) (l : List P2) (w : World) (h0 : 0 < n) (hl : n ≤ 1000000) (hw : Pts w b off n l) :
    Calls Tryz.prog 45 #[.slice (some ⟨b, off, none⟩) n c] w fun en w' => en = .returned (.int .i64 (polyI l)) ∧ New w w' := by
  have HW := Lib.hid hw
  have HN := Lib.hid hw.1
  obtain ⟨hlen, hb, hcell⟩ := hw
  by_cases h2 : 200 < n
  · rw [← poly_1 (l := l) (by unfold ckPts; rw [if_pos (by omega)]; decide), show ckPts l 200 = 2 from if_pos (by omega)]
    have hn2 : (200 : Int) < (n : Int) := by omega
    clear hlen
    go_enter Tryz.func45, Tryz.ntmps45
    go_wp2_with fail
    all_goals (go_ret; refine ⟨rfl, ?_⟩; (repeat (first | exact New.refl _ | apply New.alloc | apply New.aft | apply New.drew | refine New.setCell ?_ ?_ _)); all_goals (first | done | (simp [size_aft]; done) | (simp [size_aft]; omega)))
  · have hn2 : ¬ (200 : Int) < (n : Int) := by omega
    have HA := Lib.hid (fun (w1 : World) (h1 : New w w1) => ref_allValid b off n c l w1 (by omega) (HW.out.new h1))
    cases hok : okL l
    · rw [hok] at HA
      rw [← poly_1 (l := l) (by unfold ckPts; rw [if_neg (by omega), hok]; decide), show ckPts l 200 = 1 by unfold ckPts; rw [if_neg (by omega), hok]; rfl]
      clear hlen hok
      go_enter Tryz.func45, Tryz.ntmps45
      go_wp2_with (go_at_call 104; refine (HA.out _ (by (repeat (first | exact New.refl _ | apply New.alloc | apply New.aft | apply New.drew | refine New.setCell ?_ ?_ _)); all_goals (first | done | (simp [size_aft]; done) | (simp [size_aft]; omega)))).mono ?_; rintro e w1 ⟨rfl, pw, rfl⟩)
      all_goals (go_ret; refine ⟨rfl, ?_⟩; (repeat (first | exact New.refl _ | apply New.alloc | apply New.aft | apply New.drew | refine New.setCell ?_ ?_ _)); all_goals (first | done | (simp [size_aft]; done) | (simp [size_aft]; omega)))
    · rw [hok] at HA
      have hck : ckPts l 200 = 0 := by unfold ckPts; rw [if_neg (by omega), hok]; rfl
      by_cases h3 : n < 3
      · rw [← poly_2 hck (by omega)]
        have hn3 : (n : Int) < 3 := by omega
        clear hlen hok hck
        go_enter Tryz.func45, Tryz.ntmps45
        go_wp2_with (go_at_call 104; refine (HA.out _ (by (repeat (first | exact New.refl _ | apply New.alloc | apply New.aft | apply New.drew | refine New.setCell ?_ ?_ _)); all_goals (first | done | (simp [size_aft]; done) | (simp [size_aft]; omega)))).mono ?_; rintro e w1 ⟨rfl, pw, rfl⟩)
        all_goals (go_ret; refine ⟨rfl, ?_⟩; (repeat (first | exact New.refl _ | apply New.alloc | apply New.aft | apply New.drew | refine New.setCell ?_ ?_ _)); all_goals (first | done | (simp [size_aft]; done) | (simp [size_aft]; omega)))
      · have hn3 : ¬ (n : Int) < 3 := by omega
        have HCK := Lib.hid hck
        have HOK := Lib.hid hok
        clear hlen hok hck
        go_enter Tryz.func45, Tryz.ntmps45
        go_wp2_with (go_at_call 104; refine (HA.out _ (by (repeat (first | exact New.refl _ | apply New.alloc | apply New.aft | apply New.drew | refine New.setCell ?_ ?_ _)); all_goals (first | done | (simp [size_aft]; done) | (simp [size_aft]; omega)))).mono ?_; rintro e w1 ⟨rfl, pw, rfl⟩)
        go_loopw [4] (fun i wr => ∃ k : Nat, k ≤ n ∧ i = .int .i64 k ∧ PairFree l k ∧ New w wr) (fun i _ => n - (intOf i).toNat)
        case atStart => exact ⟨0, Nat.zero_le _, rfl, fun i j _ hi => absurd hi (Nat.not_lt_zero _), by (repeat (first | exact New.refl _ | apply New.alloc | apply New.aft | apply New.drew | refine New.setCell ?_ ?_ _)); all_goals (first | done | (simp [size_aft]; done) | (simp [size_aft]; omega))⟩
        case round =>
          obtain ⟨k, hk, rfl, hrows, pr, rfl⟩ := hrel
          have HR := Lib.hid hrows
          clear hrows
          by_cases hlt : k < n
          · obtain ⟨c1, c2⟩ := hcell k hlt
            have hkn : (k : Int) < (n : Int) := by omega
            go_wp2_with fail
            go_loopw [5] (fun j wr => ∃ m : Nat, m ≤ k ∧ j = .int .i64 m ∧ PairRow l k m ∧ New w wr) (fun j _ => k - (intOf j).toNat)
            case atStart => exact ⟨0, Nat.zero_le _, rfl, fun j hj => absurd hj (Nat.not_lt_zero _), by (repeat (first | exact New.refl _ | apply New.alloc | apply New.aft | apply New.drew | refine New.setCell ?_ ?_ _)); all_goals (first | done | (simp [size_aft]; done) | (simp [size_aft]; omega))⟩
            case round =>
              obtain ⟨m, hm, rfl, hrow, po, rfl⟩ := hrel
              have HM := Lib.hid hrow
              clear hrow
              by_cases hmk : m < k
              · obtain ⟨d1, d2⟩ := hcell m (by omega)
                have hmn : (m : Int) < (n : Int) := by omega
                have hmk2 : (m : Int) < (k : Int) := by omega
                have HP := Lib.hid (fun (e1 : px l k = px l m) (e2 : py l k = py l m) => rep_pair (l := l) hmk (by rw [HN.out]; exact hlt) e1 e2)
                have HQ := Lib.hid (fun he => pairRow_succ HM.out he)
                clear hcell
                generalize px l k = X at *
                generalize py l k = Y at *
                generalize px l m = X' at *
                generalize py l m = Y' at *
                by_cases hx : X = X'
                · by_cases hy : Y = Y'
                  · have HV := Lib.hid (poly_3 HCK.out (by rw [HN.out]; exact h3) (HP.out hx hy))
                    subst hx
                    subst hy
                    clear HP HQ
                    go_wp2_with fail
                    first | refine wp_region_at2 (by kernel_rfl) (by kernel_rfl) ?_ | refine wp_region_at (by kernel_rfl) (by kernel_rfl) ?_
                    repeat (go_big_quiet_step (fail))
                    refine wpQuiet_nil ?_
                    rintro _ ⟨q, rfl⟩
                    go_wp2_with fail
                    go_ret
                    exact ⟨ret_int HV.out, by (repeat (first | exact New.refl _ | apply New.alloc | apply New.aft | apply New.drew | refine New.setCell ?_ ?_ _)); all_goals (first | done | (simp [size_aft]; done) | (simp [size_aft]; omega))⟩
                  · have HK := Lib.hid (HQ.out (fun hh => hy hh.2))
                    subst hx
                    have z2 : (Y == Y') = false := by simpa using hy
                    clear HP HQ
                    go_wp2_with fail
                    first | refine wp_region_at2 (by kernel_rfl) (by kernel_rfl) ?_ | refine wp_region_at (by kernel_rfl) (by kernel_rfl) ?_
                    repeat (go_big_quiet_step (fail))
                    refine wpQuiet_nil ?_
                    rintro _ ⟨q, rfl⟩
                    go_wp2_with fail
                    go_roundw
                    case rel => exact ⟨m + 1, by omega, by go_num, HK.out, by (repeat (first | exact New.refl _ | apply New.alloc | apply New.aft | apply New.drew | refine New.setCell ?_ ?_ _)); all_goals (first | done | (simp [size_aft]; done) | (simp [size_aft]; omega))⟩
                    case measure => simp [intOf]; omega
                · have HK := Lib.hid (HQ.out (fun hh => hx hh.1))
                  have z1 : (X == X') = false := by simpa using hx
                  clear HP HQ
                  go_wp2_with fail
                  first | refine wp_region_at2 (by kernel_rfl) (by kernel_rfl) ?_ | refine wp_region_at (by kernel_rfl) (by kernel_rfl) ?_
                  repeat (go_big_quiet_step (fail))
                  refine wpQuiet_nil ?_
                  rintro _ ⟨q, rfl⟩
                  go_wp2_with fail
                  go_roundw
                  case rel => exact ⟨m + 1, by omega, by go_num, HK.out, by (repeat (first | exact New.refl _ | apply New.alloc | apply New.aft | apply New.drew | refine New.setCell ?_ ?_ _)); all_goals (first | done | (simp [size_aft]; done) | (simp [size_aft]; omega))⟩
                  case measure => simp [intOf]; omega
              · have HMK := Lib.hid (show m = k by omega)
                have hmk2 : ¬ (m : Int) < (k : Int) := by omega
                go_wp2_with fail
                go_roundw
                case rel => exact ⟨k + 1, by omega, by go_num, pairFree_succ HR.out (by have := HM.out; rwa [HMK.out] at this), by (repeat (first | exact New.refl _ | apply New.alloc | apply New.aft | apply New.drew | refine New.setCell ?_ ?_ _)); all_goals (first | done | (simp [size_aft]; done) | (simp [size_aft]; omega))⟩
                case measure => simp [intOf]; omega
          · have HKN := Lib.hid (show k = n by omega)
            have hrep : repI l = false := rep_none HOK.out (fun i j hj hi => HR.out i j hj (by rw [HN.out] at hi; omega))
            have HSI := Lib.hid (fun (w1 : World) (h1 : New w w1) => ref_simple b off n c l w1 (by omega) hl (HW.out.new h1) HOK.out (fun i hi => by
              have hm : (i + 1) % n < n := Nat.mod_lt _ (by omega)
              rw [okS_iff]
              refine ⟨okL_bd HOK.out i, okL_bd HOK.out _, ?_⟩
              rintro ⟨x1, x2⟩
              have := rep_no hrep (by rw [HN.out]; exact hi) (by rw [HN.out]; exact hm) x1 x2
              by_cases hlast : i + 1 = n
              · rw [hlast, Nat.mod_self] at this; omega
              · rw [Nat.mod_eq_of_lt (by omega)] at this; omega))
            cases hap : apartB l
            · have HV := Lib.hid (poly_5 HCK.out (by rw [HN.out]; exact h3) hrep hap)
              rw [hap] at HSI
              clear hap hrep
              go_wp2_with (go_at_call 108; refine (HSI.out _ (by (repeat (first | exact New.refl _ | apply New.alloc | apply New.aft | apply New.drew | refine New.setCell ?_ ?_ _)); all_goals (first | done | (simp [size_aft]; done) | (simp [size_aft]; omega)))).mono ?_; rintro e w1 ⟨rfl, pw, rfl⟩)
              go_ret
              exact ⟨ret_int HV.out, by (repeat (first | exact New.refl _ | apply New.alloc | apply New.aft | apply New.drew | refine New.setCell ?_ ?_ _)); all_goals (first | done | (simp [size_aft]; done) | (simp [size_aft]; omega))⟩
            · have HV := Lib.hid (poly_4 HCK.out (by rw [HN.out]; exact h3) hrep hap)
              rw [hap] at HSI
              clear hap hrep
              go_wp2_with (go_at_call 108; refine (HSI.out _ (by (repeat (first | exact New.refl _ | apply New.alloc | apply New.aft | apply New.drew | refine New.setCell ?_ ?_ _)); all_goals (first | done | (simp [size_aft]; done) | (simp [size_aft]; omega)))).mono ?_; rintro e w1 ⟨rfl, pw, rfl⟩)
              go_ret
              exact ⟨ret_int HV.out, by (repeat (first | exact New.refl _ | apply New.alloc | apply New.aft | apply New.drew | refine New.setCell ?_ ?_ _)); all_goals (first | done | (simp [size_aft]; done) | (simp [size_aft]; omega))⟩

set_option maxHeartbeats 1000000 in
theorem ref_checkPoly_nil (v : Option Addr) (c : Nat) (w : World) : Calls Tryz.prog 45 #[.slice v 0 c] w fun en w' => en = .returned (.int .i64 1) ∧ New w w' := by
  have HA := Lib.hid (fun w1 : World => ref_allValid_nil w1 v c)
  go_enter Tryz.func45, Tryz.ntmps45
  go_wp2_with (go_at_call 104; refine (HA.out _).mono ?_; rintro e w1 ⟨rfl, pw, rfl⟩)
  all_goals (go_ret; refine ⟨rfl, ?_⟩; (repeat (first | exact New.refl _ | apply New.alloc | apply New.aft | apply New.drew | refine New.setCell ?_ ?_ _)); all_goals (first | done | (simp [size_aft]; done) | (simp [size_aft]; omega)))

end Go.Proofs.YtpdfbboagaflhaaGreat
