/- PlaneWhere returns true for every input, and its arguments read afterwards as before: the given statement, without a condition. -/
import Derived.Test.YtpdfbboagaflhaaGreatN10
import Derived.Test.YtpdfbboagaflhaaGreatN03
import Derived.Deep.RegionHeld3
import Derived.Deep.RegionWith
import Derived.BigRegion
import Derived.LoopTactic
import Derived.Test.YtpdfbboagaflhaaGreatM51
import Derived.Test.YtpdfbboagaflhaaGreatRows
import Derived.ProofKit
import Derived.OpenShut
import Derived.Lib.SmallJoins
import Derived.Carry

set_option linter.unusedSimpArgs false
set_option linter.unusedVariables false
set_option maxRecDepth 100000
namespace Go.Proofs.YtpdfbboagaflhaaGreat
open Go.RowKit Go.Maps

theorem ptLit_one {x y x' y' : Int} (e : ptLit x y = ptLit x' y') (h1 : 0 ≤ x ∧ x ≤ 10000) (h2 : 0 ≤ y ∧ y ≤ 10000) (h3 : 0 ≤ x' ∧ x' ≤ 10000) (h4 : 0 ≤ y' ∧ y' ≤ 10000) : x = x' ∧ y = y' := by
  unfold ptLit at e
  simp only [Lit.string.injEq] at e
  have w1 : (Lit.int .i64 x).wf = true := WalkArith.wf_i64 (by omega)
  have w2 : (Lit.int .i64 y).wf = true := WalkArith.wf_i64 (by omega)
  have w3 : (Lit.int .i64 x').wf = true := WalkArith.wf_i64 (by omega)
  have w4 : (Lit.int .i64 y').wf = true := WalkArith.wf_i64 (by omega)
  have := keyBytes_inj (l := [.int .i64 x, .int .i64 y]) (l' := [.int .i64 x', .int .i64 y']) (by simp [Alike, Lit.sameKind]) (by simp [Lit.keyWf, w1, w2]) (by simp [Lit.keyWf, w3, w4]) e
  simpa using this
theorem rep_none {l : List P2} (hok : okL l = true) (h : ∀ i j : Nat, j < i → i < l.length → ¬ (px l i = px l j ∧ py l i = py l j)) : repI l = false := by
  rw [repI_nodup, keysTo, nodup_map_range]
  intro i j hi hj e
  have b1 := okL_bd hok i
  have b2 := okL_bd hok j
  have := ptLit_one e b1.1 b1.2 b2.1 b2.2
  rcases Nat.lt_trichotomy i j with hh | hh | hh
  · exact absurd ⟨this.1.symm, this.2.symm⟩ (h j i hh hj)
  · exact hh
  · exact absurd this (h i j hh hi)
theorem rep_pair {l : List P2} {i j : Nat} (hj : j < i) (hi : i < l.length) (hx : px l i = px l j) (hy : py l i = py l j) : repI l = true := by
  cases h : repI l
  · have := rep_no h hi (by omega) hx hy; omega
  · rfl

set_option maxHeartbeats 4000000 in
theorem ref_edge (b off n c k : Nat) (l : List P2) (w : World) (hk : k < n) (hl : n ≤ 1000000) (hw : Pts w b off n l) :
    Calls Tryz.prog 110 #[.slice (some ⟨b, off, none⟩) n c, .int .i64 k] w fun en w' => en = .returned (sv (px l k) (py l k) (px l ((k + 1) % n)) (py l ((k + 1) % n))) ∧ New w w' := by
  obtain ⟨hn, hb, hcell⟩ := hw
  obtain ⟨c1, c2⟩ := hcell k hk
  have hkn : (k : Int) < (n : Int) := by omega
  have hb1 : b < w.heap.size + 1 := by omega
  have hw1 : IntKind.i64.wrap ((k : Int) + 1) = (k : Int) + 1 := IntWalk.i64_in _ (by omega)
  have hnz : (n = 0) = False := eq_false (by omega)
  by_cases hlast : k + 1 = n
  · obtain ⟨d1, d2⟩ := hcell 0 (by omega)
    simp only [Nat.zero_mul, Nat.add_zero] at d1 d2
    have hr : ((k : Int) + 1).tmod (n : Int) = 0 := by rw [show (k : Int) + 1 = (n : Int) by omega]; exact Int.tmod_self
    rw [hlast, Nat.mod_self]
    clear hcell hn hlast
    go_enter Tryz.func110, Tryz.ntmps110
    go_wp2_with fail
    go_region
    all_goals (go_wp2_with fail)
    all_goals (refine bodyPost_ret (v := sv (px l k) (py l k) (px l 0) (py l 0)) (by simp [results, Tryz.results110, go_sem]) rfl ⟨rfl, ?_⟩; (repeat (first | exact New.refl _ | apply New.alloc | apply New.aft | apply New.drew | refine New.setCell ?_ ?_ _)); all_goals (first | done | (simp [size_aft]; done) | (simp [size_aft]; omega)))
  · obtain ⟨d1, d2⟩ := hcell (k + 1) (by omega)
    have hr : ((k : Int) + 1).tmod (n : Int) = (k : Int) + 1 := Int.tmod_eq_of_lt (by omega) (by omega)
    have hge : (0 : Int) ≤ (k : Int) + 1 := by omega
    have hlt3 : (k : Int) + 1 < (n : Int) := by omega
    have htn : ((k : Int) + 1).toNat = k + 1 := by omega
    rw [Nat.mod_eq_of_lt (by omega)]
    clear hcell hn hlast
    go_enter Tryz.func110, Tryz.ntmps110
    go_wp2_with fail
    go_region
    all_goals (go_wp2_with fail)
    all_goals (refine bodyPost_ret (v := sv (px l k) (py l k) (px l (k + 1)) (py l (k + 1))) (by simp [results, Tryz.results110, go_sem]) rfl ⟨rfl, ?_⟩; (repeat (first | exact New.refl _ | apply New.alloc | apply New.aft | apply New.drew | refine New.setCell ?_ ?_ _)); all_goals (first | done | (simp [size_aft]; done) | (simp [size_aft]; omega)))

set_option maxHeartbeats 16000000 in
theorem ref_simple (b off n c : Nat) (l : List P2) (w : World) (h0 : 3 ≤ n) (hl : n ≤ 1000000) (hw : Pts w b off n l) (hok : okL l = true) (hE : ∀ k, k < n → okS (px l k) (py l k) (px l ((k + 1) % n)) (py l ((k + 1) % n)) = true) :
    Calls Tryz.prog 108 #[.slice (some ⟨b, off, none⟩) n c] w fun en w' => en = .returned (.bool (apartB l)) ∧ New w w' := by
  have HW := Lib.hid hw
  have HN := Lib.hid hw.1
  have HED := Lib.hid (fun (k : Nat) (hk : k < n) (w1 : World) (h1 : New w w1) => ref_edge b off n c k l w1 hk hl (HW.out.new h1))
  have HEO := Lib.hid hE
  have HB := Lib.hid (okL_bd hok)
  clear hw hok hE
  go_enter Tryz.func108, Tryz.ntmps108
  go_wp2_with fail
  go_loopw [4] (fun i wr => ∃ k : Nat, k ≤ n ∧ i = .int .i64 k ∧ RowsOk (edgesL l) n k ∧ New w wr) (fun i _ => n - (intOf i).toNat)
  case atStart => exact ⟨0, Nat.zero_le _, rfl, fun i hi => absurd hi (Nat.not_lt_zero _), New.refl _⟩
  case round =>
    obtain ⟨k, hk, rfl, hrows, pr, rfl⟩ := hrel
    have HR := Lib.hid hrows
    clear hrows
    by_cases hlt : k < n
    · have k1 := HEO.out k hlt
      have HE1 := Lib.hid (HED.out k hlt)
      go_wp2_with fail
      go_loopw [5] (fun j wr => ∃ m : Nat, k + 1 ≤ m ∧ m ≤ n ∧ j = .int .i64 m ∧ RowOk (edgesL l) n k m ∧ New w wr) (fun j _ => n - (intOf j).toNat)
      case atStart => exact ⟨k + 1, Nat.le_refl _, by omega, by go_num, rowOk_start _ _ _, by (repeat (first | exact New.refl _ | apply New.alloc | apply New.aft | apply New.drew | refine New.setCell ?_ ?_ _)); all_goals (first | done | (simp [size_aft]; done) | (simp [size_aft]; omega))⟩
      case round =>
        obtain ⟨m, hm1, hm2, rfl, hrow, po, rfl⟩ := hrel
        have HM := Lib.hid hrow
        clear hrow
        by_cases hmn : m < n
        · have k2 := HEO.out m hmn
          have HE2 := Lib.hid (HED.out m hmn)
          obtain ⟨⟨a1, a2⟩, ⟨a3, a4⟩, _⟩ := okS_iff.1 k1
          obtain ⟨⟨e1, e2⟩, ⟨e3, e4⟩, _⟩ := okS_iff.1 k2
          have HMT := Lib.hid (fun w3 : World => ref_meet (px l k) (py l k) (px l ((k + 1) % n)) (py l ((k + 1) % n)) (px l m) (py l m) (px l ((m + 1) % n)) (py l ((m + 1) % n)) w3 a1 a2 a3 a4 e1 e2 e3 e4)
          rw [meet_eq k1 k2] at HMT
          have hME : meetI (px l k) (py l k) (px l ((k + 1) % n)) (py l ((k + 1) % n)) (px l m) (py l m) (px l ((m + 1) % n)) (py l ((m + 1) % n)) = meetE (edgesL l) k m := by
            obtain ⟨x1, x2, x3, x4⟩ := edgesL_at l k (by rw [HN.out]; exact hlt)
            obtain ⟨y1, y2, y3, y4⟩ := edgesL_at l m (by rw [HN.out]; exact hmn)
            rw [meetE, x1, x2, x3, x4, y1, y2, y3, y4, HN.out]
          rw [hME] at HMT
          have HNO := Lib.hid (fun (hne : meetE (edgesL l) k m ≠ wantI n k m) => apartB_no (l := l) (i := k) (j := m) (by omega) (by rw [HN.out]; exact hmn) (by rw [HN.out]; exact hne))
          have HOKE := Lib.hid (fun (he : meetE (edgesL l) k m = wantI n k m) => rowOk_succ HM.out he)
          clear a1 a2 a3 a4 e1 e2 e3 e4 k2 hME
          have wk : IntKind.i64.wrap ((k : Int) + 1) = (k : Int) + 1 := IntWalk.i64_in _ (by omega)
          have wn : IntKind.i64.wrap ((n : Int) - 1) = (n : Int) - 1 := IntWalk.i64_in _ (by omega)
          have hcase : (m = k + 1) ∨ (m ≠ k + 1 ∧ k = 0 ∧ m + 1 = n) ∨ (m ≠ k + 1 ∧ k = 0 ∧ m + 1 ≠ n) ∨ (m ≠ k + 1 ∧ k ≠ 0) := by omega
          rcases hcase with hc | ⟨hc, hd, he⟩ | ⟨hc, hd, he⟩ | ⟨hc, hd⟩
          · rw [want_1 (.inl hc)] at HNO HOKE
            generalize meetE (edgesL l) k m = K at *
            have u1 : ((m : Int) == (k : Int) + 1) = true := by simp; omega
            clear hc
            by_cases hK : K = 1
            · have HK := Lib.hid (HOKE.out hK)
              have z1 : (K == 1) = true := by simpa using hK
              have z2 : (K != 1) = false := by simpa using hK
              clear hK HNO HOKE
              go_wp2_with (first | (go_at_call 110; (with_reducible refine (HE1.out _ (by (repeat (first | exact New.refl _ | apply New.alloc | apply New.aft | apply New.drew | refine New.setCell ?_ ?_ _)); all_goals (first | done | (simp [size_aft]; done) | (simp [size_aft]; omega)))).mono ?_); rintro en w1 ⟨rfl, pw, rfl⟩) | (go_at_call 110; (with_reducible refine (HE2.out _ (by (repeat (first | exact New.refl _ | apply New.alloc | apply New.aft | apply New.drew | refine New.setCell ?_ ?_ _)); all_goals (first | done | (simp [size_aft]; done) | (simp [size_aft]; omega)))).mono ?_); rintro en w1 ⟨rfl, pw, rfl⟩) | (go_at_call 97; refine (HMT.out _).mono ?_; rintro en w1 ⟨rfl, pw, rfl⟩))
              refine ⟨⟨m + 1, by omega, by omega, by go_num, HK.out, by (repeat (first | exact New.refl _ | apply New.alloc | apply New.aft | apply New.drew | refine New.setCell ?_ ?_ _)); all_goals (first | done | (simp [size_aft]; done) | (simp [size_aft]; omega))⟩, by simp [intOf]; omega⟩
            · have HF := Lib.hid (HNO.out hK)
              have z1 : (K == 1) = false := by simpa using hK
              have z2 : (K != 1) = true := by simpa using hK
              clear hK HNO HOKE
              go_wp2_with (first | (go_at_call 110; (with_reducible refine (HE1.out _ (by (repeat (first | exact New.refl _ | apply New.alloc | apply New.aft | apply New.drew | refine New.setCell ?_ ?_ _)); all_goals (first | done | (simp [size_aft]; done) | (simp [size_aft]; omega)))).mono ?_); rintro en w1 ⟨rfl, pw, rfl⟩) | (go_at_call 110; (with_reducible refine (HE2.out _ (by (repeat (first | exact New.refl _ | apply New.alloc | apply New.aft | apply New.drew | refine New.setCell ?_ ?_ _)); all_goals (first | done | (simp [size_aft]; done) | (simp [size_aft]; omega)))).mono ?_); rintro en w1 ⟨rfl, pw, rfl⟩) | (go_at_call 97; refine (HMT.out _).mono ?_; rintro en w1 ⟨rfl, pw, rfl⟩))
              go_ret
              exact ⟨ret_bool HF.out.symm, by (repeat (first | exact New.refl _ | apply New.alloc | apply New.aft | apply New.drew | refine New.setCell ?_ ?_ _)); all_goals (first | done | (simp [size_aft]; done) | (simp [size_aft]; omega))⟩
          · rw [want_1 (.inr ⟨hd, he⟩)] at HNO HOKE
            generalize meetE (edgesL l) k m = K at *
            have u1 : ((m : Int) == (k : Int) + 1) = false := by simp; omega
            have u2 : ((k : Int) == 0) = true := by simp; omega
            have u3 : ((m : Int) == (n : Int) - 1) = true := by simp; omega
            clear hc hd he
            by_cases hK : K = 1
            · have HK := Lib.hid (HOKE.out hK)
              have z1 : (K == 1) = true := by simpa using hK
              have z2 : (K != 1) = false := by simpa using hK
              clear hK HNO HOKE
              go_wp2_with (first | (go_at_call 110; (with_reducible refine (HE1.out _ (by (repeat (first | exact New.refl _ | apply New.alloc | apply New.aft | apply New.drew | refine New.setCell ?_ ?_ _)); all_goals (first | done | (simp [size_aft]; done) | (simp [size_aft]; omega)))).mono ?_); rintro en w1 ⟨rfl, pw, rfl⟩) | (go_at_call 110; (with_reducible refine (HE2.out _ (by (repeat (first | exact New.refl _ | apply New.alloc | apply New.aft | apply New.drew | refine New.setCell ?_ ?_ _)); all_goals (first | done | (simp [size_aft]; done) | (simp [size_aft]; omega)))).mono ?_); rintro en w1 ⟨rfl, pw, rfl⟩) | (go_at_call 97; refine (HMT.out _).mono ?_; rintro en w1 ⟨rfl, pw, rfl⟩))
              refine ⟨⟨m + 1, by omega, by omega, by go_num, HK.out, by (repeat (first | exact New.refl _ | apply New.alloc | apply New.aft | apply New.drew | refine New.setCell ?_ ?_ _)); all_goals (first | done | (simp [size_aft]; done) | (simp [size_aft]; omega))⟩, by simp [intOf]; omega⟩
            · have HF := Lib.hid (HNO.out hK)
              have z1 : (K == 1) = false := by simpa using hK
              have z2 : (K != 1) = true := by simpa using hK
              clear hK HNO HOKE
              go_wp2_with (first | (go_at_call 110; (with_reducible refine (HE1.out _ (by (repeat (first | exact New.refl _ | apply New.alloc | apply New.aft | apply New.drew | refine New.setCell ?_ ?_ _)); all_goals (first | done | (simp [size_aft]; done) | (simp [size_aft]; omega)))).mono ?_); rintro en w1 ⟨rfl, pw, rfl⟩) | (go_at_call 110; (with_reducible refine (HE2.out _ (by (repeat (first | exact New.refl _ | apply New.alloc | apply New.aft | apply New.drew | refine New.setCell ?_ ?_ _)); all_goals (first | done | (simp [size_aft]; done) | (simp [size_aft]; omega)))).mono ?_); rintro en w1 ⟨rfl, pw, rfl⟩) | (go_at_call 97; refine (HMT.out _).mono ?_; rintro en w1 ⟨rfl, pw, rfl⟩))
              go_ret
              exact ⟨ret_bool HF.out.symm, by (repeat (first | exact New.refl _ | apply New.alloc | apply New.aft | apply New.drew | refine New.setCell ?_ ?_ _)); all_goals (first | done | (simp [size_aft]; done) | (simp [size_aft]; omega))⟩
          · rw [want_0 (by omega)] at HNO HOKE
            generalize meetE (edgesL l) k m = K at *
            have u1 : ((m : Int) == (k : Int) + 1) = false := by simp; omega
            have u2 : ((k : Int) == 0) = true := by simp; omega
            have u3 : ((m : Int) == (n : Int) - 1) = false := by simp; omega
            clear hc hd he
            by_cases hK : K = 0
            · have HK := Lib.hid (HOKE.out hK)
              have z1 : (K == 0) = true := by simpa using hK
              have z2 : (K != 0) = false := by simpa using hK
              clear hK HNO HOKE
              go_wp2_with (first | (go_at_call 110; (with_reducible refine (HE1.out _ (by (repeat (first | exact New.refl _ | apply New.alloc | apply New.aft | apply New.drew | refine New.setCell ?_ ?_ _)); all_goals (first | done | (simp [size_aft]; done) | (simp [size_aft]; omega)))).mono ?_); rintro en w1 ⟨rfl, pw, rfl⟩) | (go_at_call 110; (with_reducible refine (HE2.out _ (by (repeat (first | exact New.refl _ | apply New.alloc | apply New.aft | apply New.drew | refine New.setCell ?_ ?_ _)); all_goals (first | done | (simp [size_aft]; done) | (simp [size_aft]; omega)))).mono ?_); rintro en w1 ⟨rfl, pw, rfl⟩) | (go_at_call 97; refine (HMT.out _).mono ?_; rintro en w1 ⟨rfl, pw, rfl⟩))
              refine ⟨⟨m + 1, by omega, by omega, by go_num, HK.out, by (repeat (first | exact New.refl _ | apply New.alloc | apply New.aft | apply New.drew | refine New.setCell ?_ ?_ _)); all_goals (first | done | (simp [size_aft]; done) | (simp [size_aft]; omega))⟩, by simp [intOf]; omega⟩
            · have HF := Lib.hid (HNO.out hK)
              have z1 : (K == 0) = false := by simpa using hK
              have z2 : (K != 0) = true := by simpa using hK
              clear hK HNO HOKE
              go_wp2_with (first | (go_at_call 110; (with_reducible refine (HE1.out _ (by (repeat (first | exact New.refl _ | apply New.alloc | apply New.aft | apply New.drew | refine New.setCell ?_ ?_ _)); all_goals (first | done | (simp [size_aft]; done) | (simp [size_aft]; omega)))).mono ?_); rintro en w1 ⟨rfl, pw, rfl⟩) | (go_at_call 110; (with_reducible refine (HE2.out _ (by (repeat (first | exact New.refl _ | apply New.alloc | apply New.aft | apply New.drew | refine New.setCell ?_ ?_ _)); all_goals (first | done | (simp [size_aft]; done) | (simp [size_aft]; omega)))).mono ?_); rintro en w1 ⟨rfl, pw, rfl⟩) | (go_at_call 97; refine (HMT.out _).mono ?_; rintro en w1 ⟨rfl, pw, rfl⟩))
              go_ret
              exact ⟨ret_bool HF.out.symm, by (repeat (first | exact New.refl _ | apply New.alloc | apply New.aft | apply New.drew | refine New.setCell ?_ ?_ _)); all_goals (first | done | (simp [size_aft]; done) | (simp [size_aft]; omega))⟩
          · rw [want_0 (by omega)] at HNO HOKE
            generalize meetE (edgesL l) k m = K at *
            have u1 : ((m : Int) == (k : Int) + 1) = false := by simp; omega
            have u2 : ((k : Int) == 0) = false := by simp; omega
            clear hc hd
            by_cases hK : K = 0
            · have HK := Lib.hid (HOKE.out hK)
              have z1 : (K == 0) = true := by simpa using hK
              have z2 : (K != 0) = false := by simpa using hK
              clear hK HNO HOKE
              go_wp2_with (first | (go_at_call 110; (with_reducible refine (HE1.out _ (by (repeat (first | exact New.refl _ | apply New.alloc | apply New.aft | apply New.drew | refine New.setCell ?_ ?_ _)); all_goals (first | done | (simp [size_aft]; done) | (simp [size_aft]; omega)))).mono ?_); rintro en w1 ⟨rfl, pw, rfl⟩) | (go_at_call 110; (with_reducible refine (HE2.out _ (by (repeat (first | exact New.refl _ | apply New.alloc | apply New.aft | apply New.drew | refine New.setCell ?_ ?_ _)); all_goals (first | done | (simp [size_aft]; done) | (simp [size_aft]; omega)))).mono ?_); rintro en w1 ⟨rfl, pw, rfl⟩) | (go_at_call 97; refine (HMT.out _).mono ?_; rintro en w1 ⟨rfl, pw, rfl⟩))
              refine ⟨⟨m + 1, by omega, by omega, by go_num, HK.out, by (repeat (first | exact New.refl _ | apply New.alloc | apply New.aft | apply New.drew | refine New.setCell ?_ ?_ _)); all_goals (first | done | (simp [size_aft]; done) | (simp [size_aft]; omega))⟩, by simp [intOf]; omega⟩
            · have HF := Lib.hid (HNO.out hK)
              have z1 : (K == 0) = false := by simpa using hK
              have z2 : (K != 0) = true := by simpa using hK
              clear hK HNO HOKE
              go_wp2_with (first | (go_at_call 110; (with_reducible refine (HE1.out _ (by (repeat (first | exact New.refl _ | apply New.alloc | apply New.aft | apply New.drew | refine New.setCell ?_ ?_ _)); all_goals (first | done | (simp [size_aft]; done) | (simp [size_aft]; omega)))).mono ?_); rintro en w1 ⟨rfl, pw, rfl⟩) | (go_at_call 110; (with_reducible refine (HE2.out _ (by (repeat (first | exact New.refl _ | apply New.alloc | apply New.aft | apply New.drew | refine New.setCell ?_ ?_ _)); all_goals (first | done | (simp [size_aft]; done) | (simp [size_aft]; omega)))).mono ?_); rintro en w1 ⟨rfl, pw, rfl⟩) | (go_at_call 97; refine (HMT.out _).mono ?_; rintro en w1 ⟨rfl, pw, rfl⟩))
              go_ret
              exact ⟨ret_bool HF.out.symm, by (repeat (first | exact New.refl _ | apply New.alloc | apply New.aft | apply New.drew | refine New.setCell ?_ ?_ _)); all_goals (first | done | (simp [size_aft]; done) | (simp [size_aft]; omega))⟩
        · have HMN := Lib.hid (show m = n by omega)
          go_wp2_with fail
          refine ⟨⟨k + 1, by omega, by go_num, rowsOk_succ HR.out (by have := HM.out; rwa [HMN.out] at this), by (repeat (first | exact New.refl _ | apply New.alloc | apply New.aft | apply New.drew | refine New.setCell ?_ ?_ _)); all_goals (first | done | (simp [size_aft]; done) | (simp [size_aft]; omega))⟩, by simp [intOf]; omega⟩
    · have HKN := Lib.hid (show k = n by omega)
      go_wp2_with fail
      go_ret
      exact ⟨ret_bool ((apartB_iff l).2 (by have := HR.out; rw [HKN.out] at this; rw [HN.out]; exact this)).symm, by (repeat (first | exact New.refl _ | apply New.alloc | apply New.aft | apply New.drew | refine New.setCell ?_ ?_ _)); all_goals (first | done | (simp [size_aft]; done) | (simp [size_aft]; omega))⟩

def PairFree (l : List P2) (k : Nat) : Prop := ∀ i j : Nat, j < i → i < k → ¬ (px l i = px l j ∧ py l i = py l j)
def PairRow (l : List P2) (i m : Nat) : Prop := ∀ j : Nat, j < m → ¬ (px l i = px l j ∧ py l i = py l j)
theorem pairRow_succ {l : List P2} {i m : Nat} (h : PairRow l i m) (he : ¬ (px l i = px l m ∧ py l i = py l m)) : PairRow l i (m + 1) := fun j hj => by
  by_cases e : j = m
  · subst e; exact he
  · exact h j (by omega)
theorem pairFree_succ {l : List P2} {k : Nat} (h : PairFree l k) (he : PairRow l k k) : PairFree l (k + 1) := fun i j hj hi => by
  by_cases e : i = k
  · subst e; exact he j hj
  · exact h i j hj (by omega)

set_option maxHeartbeats 16000000 in
theorem ref_checkPoly (b off n c : Nat) (l : List P2) (w : World) (h0 : 0 < n) (hl : n ≤ 1000000) (hw : Pts w b off n l) :
    Calls Tryz.prog 45 #[.slice (some ⟨b, off, none⟩) n c] w fun en w' => en = .returned (.int .i64 (polyI l)) ∧ New w w' := by
  have HW := Lib.hid hw
  have HN := Lib.hid hw.1
  obtain ⟨hlen, hb, hcell⟩ := hw
  by_cases h2 : 200 < n
  · rw [← poly_1 (l := l) (by unfold ckPts; rw [if_pos (by omega)]; decide), show ckPts l 200 = 2 from if_pos (by omega)]
    have hn2 : (200 : Int) < (n : Int) := by omega
    clear hlen
    go_enter Tryz.func45, Tryz.ntmps45
    go_wp2_with fail
    all_goals (go_ret; refine ⟨rfl, ?_⟩; (repeat (first | exact New.refl _ | apply New.alloc | apply New.aft | apply New.drew | refine New.setCell ?_ ?_ _)); all_goals (first | done | (simp [size_aft]; done) | (simp [size_aft]; omega)))
  · have hn2 : ¬ (200 : Int) < (n : Int) := by omega
    have HA := Lib.hid (fun (w1 : World) (h1 : New w w1) => ref_allValid b off n c l w1 (by omega) (HW.out.new h1))
    cases hok : okL l
    · rw [hok] at HA
      rw [← poly_1 (l := l) (by unfold ckPts; rw [if_neg (by omega), hok]; decide), show ckPts l 200 = 1 by unfold ckPts; rw [if_neg (by omega), hok]; rfl]
      clear hlen hok
      go_enter Tryz.func45, Tryz.ntmps45
      go_wp2_with (go_at_call 104; refine (HA.out _ (by (repeat (first | exact New.refl _ | apply New.alloc | apply New.aft | apply New.drew | refine New.setCell ?_ ?_ _)); all_goals (first | done | (simp [size_aft]; done) | (simp [size_aft]; omega)))).mono ?_; rintro e w1 ⟨rfl, pw, rfl⟩)
      all_goals (go_ret; refine ⟨rfl, ?_⟩; (repeat (first | exact New.refl _ | apply New.alloc | apply New.aft | apply New.drew | refine New.setCell ?_ ?_ _)); all_goals (first | done | (simp [size_aft]; done) | (simp [size_aft]; omega)))
    · rw [hok] at HA
      have hck : ckPts l 200 = 0 := by unfold ckPts; rw [if_neg (by omega), hok]; rfl
      by_cases h3 : n < 3
      · rw [← poly_2 hck (by omega)]
        have hn3 : (n : Int) < 3 := by omega
        clear hlen hok hck
        go_enter Tryz.func45, Tryz.ntmps45
        go_wp2_with (go_at_call 104; refine (HA.out _ (by (repeat (first | exact New.refl _ | apply New.alloc | apply New.aft | apply New.drew | refine New.setCell ?_ ?_ _)); all_goals (first | done | (simp [size_aft]; done) | (simp [size_aft]; omega)))).mono ?_; rintro e w1 ⟨rfl, pw, rfl⟩)
        all_goals (go_ret; refine ⟨rfl, ?_⟩; (repeat (first | exact New.refl _ | apply New.alloc | apply New.aft | apply New.drew | refine New.setCell ?_ ?_ _)); all_goals (first | done | (simp [size_aft]; done) | (simp [size_aft]; omega)))
      · have hn3 : ¬ (n : Int) < 3 := by omega
        have HCK := Lib.hid hck
        have HOK := Lib.hid hok
        clear hlen hok hck
        go_enter Tryz.func45, Tryz.ntmps45
        go_wp2_with (go_at_call 104; refine (HA.out _ (by (repeat (first | exact New.refl _ | apply New.alloc | apply New.aft | apply New.drew | refine New.setCell ?_ ?_ _)); all_goals (first | done | (simp [size_aft]; done) | (simp [size_aft]; omega)))).mono ?_; rintro e w1 ⟨rfl, pw, rfl⟩)
        go_loopw [4] (fun i wr => ∃ k : Nat, k ≤ n ∧ i = .int .i64 k ∧ PairFree l k ∧ New w wr) (fun i _ => n - (intOf i).toNat)
        case atStart => exact ⟨0, Nat.zero_le _, rfl, fun i j _ hi => absurd hi (Nat.not_lt_zero _), by (repeat (first | exact New.refl _ | apply New.alloc | apply New.aft | apply New.drew | refine New.setCell ?_ ?_ _)); all_goals (first | done | (simp [size_aft]; done) | (simp [size_aft]; omega))⟩
        case round =>
          obtain ⟨k, hk, rfl, hrows, pr, rfl⟩ := hrel
          have HR := Lib.hid hrows
          clear hrows
          by_cases hlt : k < n
          · obtain ⟨c1, c2⟩ := hcell k hlt
            have hkn : (k : Int) < (n : Int) := by omega
            go_wp2_with fail
            go_loopw [5] (fun j wr => ∃ m : Nat, m ≤ k ∧ j = .int .i64 m ∧ PairRow l k m ∧ New w wr) (fun j _ => k - (intOf j).toNat)
            case atStart => exact ⟨0, Nat.zero_le _, rfl, fun j hj => absurd hj (Nat.not_lt_zero _), by (repeat (first | exact New.refl _ | apply New.alloc | apply New.aft | apply New.drew | refine New.setCell ?_ ?_ _)); all_goals (first | done | (simp [size_aft]; done) | (simp [size_aft]; omega))⟩
            case round =>
              obtain ⟨m, hm, rfl, hrow, po, rfl⟩ := hrel
              have HM := Lib.hid hrow
              clear hrow
              by_cases hmk : m < k
              · obtain ⟨d1, d2⟩ := hcell m (by omega)
                have hmn : (m : Int) < (n : Int) := by omega
                have hmk2 : (m : Int) < (k : Int) := by omega
                have HP := Lib.hid (fun (e1 : px l k = px l m) (e2 : py l k = py l m) => rep_pair (l := l) hmk (by rw [HN.out]; exact hlt) e1 e2)
                have HQ := Lib.hid (fun he => pairRow_succ HM.out he)
                clear hcell
                generalize px l k = X at *
                generalize py l k = Y at *
                generalize px l m = X' at *
                generalize py l m = Y' at *
                by_cases hx : X = X'
                · by_cases hy : Y = Y'
                  · have HV := Lib.hid (poly_3 HCK.out (by rw [HN.out]; exact h3) (HP.out hx hy))
                    subst hx
                    subst hy
                    clear HP HQ
                    go_wp2_with fail
                    first | refine wp_region_at2 (by kernel_rfl) (by kernel_rfl) ?_ | refine wp_region_at (by kernel_rfl) (by kernel_rfl) ?_
                    repeat (go_big_quiet_step (fail))
                    refine wpQuiet_nil ?_
                    rintro _ ⟨q, rfl⟩
                    go_wp2_with fail
                    go_ret
                    exact ⟨ret_int HV.out, by (repeat (first | exact New.refl _ | apply New.alloc | apply New.aft | apply New.drew | refine New.setCell ?_ ?_ _)); all_goals (first | done | (simp [size_aft]; done) | (simp [size_aft]; omega))⟩
                  · have HK := Lib.hid (HQ.out (fun hh => hy hh.2))
                    subst hx
                    have z2 : (Y == Y') = false := by simpa using hy
                    clear HP HQ
                    go_wp2_with fail
                    first | refine wp_region_at2 (by kernel_rfl) (by kernel_rfl) ?_ | refine wp_region_at (by kernel_rfl) (by kernel_rfl) ?_
                    repeat (go_big_quiet_step (fail))
                    refine wpQuiet_nil ?_
                    rintro _ ⟨q, rfl⟩
                    go_wp2_with fail
                    go_roundw
                    case rel => exact ⟨m + 1, by omega, by go_num, HK.out, by (repeat (first | exact New.refl _ | apply New.alloc | apply New.aft | apply New.drew | refine New.setCell ?_ ?_ _)); all_goals (first | done | (simp [size_aft]; done) | (simp [size_aft]; omega))⟩
                    case measure => simp [intOf]; omega
                · have HK := Lib.hid (HQ.out (fun hh => hx hh.1))
                  have z1 : (X == X') = false := by simpa using hx
                  clear HP HQ
                  go_wp2_with fail
                  first | refine wp_region_at2 (by kernel_rfl) (by kernel_rfl) ?_ | refine wp_region_at (by kernel_rfl) (by kernel_rfl) ?_
                  repeat (go_big_quiet_step (fail))
                  refine wpQuiet_nil ?_
                  rintro _ ⟨q, rfl⟩
                  go_wp2_with fail
                  go_roundw
                  case rel => exact ⟨m + 1, by omega, by go_num, HK.out, by (repeat (first | exact New.refl _ | apply New.alloc | apply New.aft | apply New.drew | refine New.setCell ?_ ?_ _)); all_goals (first | done | (simp [size_aft]; done) | (simp [size_aft]; omega))⟩
                  case measure => simp [intOf]; omega
              · have HMK := Lib.hid (show m = k by omega)
                have hmk2 : ¬ (m : Int) < (k : Int) := by omega
                go_wp2_with fail
                go_roundw
                case rel => exact ⟨k + 1, by omega, by go_num, pairFree_succ HR.out (by have := HM.out; rwa [HMK.out] at this), by (repeat (first | exact New.refl _ | apply New.alloc | apply New.aft | apply New.drew | refine New.setCell ?_ ?_ _)); all_goals (first | done | (simp [size_aft]; done) | (simp [size_aft]; omega))⟩
                case measure => simp [intOf]; omega
          · have HKN := Lib.hid (show k = n by omega)
            have hrep : repI l = false := rep_none HOK.out (fun i j hj hi => HR.out i j hj (by rw [HN.out] at hi; omega))
            have HSI := Lib.hid (fun (w1 : World) (h1 : New w w1) => ref_simple b off n c l w1 (by omega) hl (HW.out.new h1) HOK.out (fun i hi => by
              have hm : (i + 1) % n < n := Nat.mod_lt _ (by omega)
              rw [okS_iff]
              refine ⟨okL_bd HOK.out i, okL_bd HOK.out _, ?_⟩
              rintro ⟨x1, x2⟩
              have := rep_no hrep (by rw [HN.out]; exact hi) (by rw [HN.out]; exact hm) x1 x2
              by_cases hlast : i + 1 = n
              · rw [hlast, Nat.mod_self] at this; omega
              · rw [Nat.mod_eq_of_lt (by omega)] at this; omega))
            cases hap : apartB l
            · have HV := Lib.hid (poly_5 HCK.out (by rw [HN.out]; exact h3) hrep hap)
              rw [hap] at HSI
              clear hap hrep
              go_wp2_with (go_at_call 108; refine (HSI.out _ (by (repeat (first | exact New.refl _ | apply New.alloc | apply New.aft | apply New.drew | refine New.setCell ?_ ?_ _)); all_goals (first | done | (simp [size_aft]; done) | (simp [size_aft]; omega)))).mono ?_; rintro e w1 ⟨rfl, pw, rfl⟩)
              go_ret
              exact ⟨ret_int HV.out, by (repeat (first | exact New.refl _ | apply New.alloc | apply New.aft | apply New.drew | refine New.setCell ?_ ?_ _)); all_goals (first | done | (simp [size_aft]; done) | (simp [size_aft]; omega))⟩
            · have HV := Lib.hid (poly_4 HCK.out (by rw [HN.out]; exact h3) hrep hap)
              rw [hap] at HSI
              clear hap hrep
              go_wp2_with (go_at_call 108; refine (HSI.out _ (by (repeat (first | exact New.refl _ | apply New.alloc | apply New.aft | apply New.drew | refine New.setCell ?_ ?_ _)); all_goals (first | done | (simp [size_aft]; done) | (simp [size_aft]; omega)))).mono ?_; rintro e w1 ⟨rfl, pw, rfl⟩)
              go_ret
              exact ⟨ret_int HV.out, by (repeat (first | exact New.refl _ | apply New.alloc | apply New.aft | apply New.drew | refine New.setCell ?_ ?_ _)); all_goals (first | done | (simp [size_aft]; done) | (simp [size_aft]; omega))⟩

set_option maxHeartbeats 1000000 in
theorem ref_checkPoly_nil (v : Option Addr) (c : Nat) (w : World) : Calls Tryz.prog 45 #[.slice v 0 c] w fun en w' => en = .returned (.int .i64 1) ∧ New w w' := by
  have HA := Lib.hid (fun w1 : World => ref_allValid_nil w1 v c)
  go_enter Tryz.func45, Tryz.ntmps45
  go_wp2_with (go_at_call 104; refine (HA.out _).mono ?_; rintro e w1 ⟨rfl, pw, rfl⟩)
  all_goals (go_ret; refine ⟨rfl, ?_⟩; (repeat (first | exact New.refl _ | apply New.alloc | apply New.aft | apply New.drew | refine New.setCell ?_ ?_ _)); all_goals (first | done | (simp [size_aft]; done) | (simp [size_aft]; omega)))

end Go.Proofs.YtpdfbboagaflhaaGreat

set_option linter.unusedSimpArgs false
set_option linter.unusedVariables false
set_option maxRecDepth 100000
namespace Go.Proofs.YtpdfbboagaflhaaGreat
open Go.RowKit

theorem turn_one (a b c d p q : Int) : (turnI a b c d p q == 1) = decide (p * (d - b) < a * (d - b) + (c - a) * (q - b)) := by
  rw [turnI_sign]
  have e : (c - a) * (q - b) - (d - b) * (p - a) = a * (d - b) + (c - a) * (q - b) - p * (d - b) := by grind
  rw [e]
  rcases sign_cases (a * (d - b) + (c - a) * (q - b) - p * (d - b)) with ⟨h, k⟩ | ⟨h, k⟩ | ⟨h, k⟩
  · rw [h, decide_eq_false (by omega)]; rfl
  · rw [h, decide_eq_false (by omega)]; rfl
  · rw [h, decide_eq_true (by omega)]; rfl
theorem oddTo_pass {L : List S4} {p q : Int} {k : Nat} {O : Bool} (h : passAt L p q k = O) : oddTo L p q (k + 1) = (if O then !oddTo L p q k else oddTo L p q k) := by rw [← h]; rfl

set_option maxHeartbeats 16000000 in
theorem ref_enclosed (b off n c : Nat) (l : List P2) (p q : Int) (w : World) (hl : n ≤ 1000000) (hw : Pts w b off n l) (hok : okL l = true) (hp : 0 ≤ p ∧ p ≤ 10000) (hq : 0 ≤ q ∧ q ≤ 10000) :
    Calls Tryz.prog 170 #[.slice (some ⟨b, off, none⟩) n c, .int .i64 p, .int .i64 q, .int .i64 1] w fun en w' => en = .returned (.bool (oddTo (edgesL l) p q n)) ∧ New w w' := by
  have HW := Lib.hid hw
  have HN := Lib.hid hw.1
  have HED := Lib.hid (fun (k : Nat) (hk : k < n) (w1 : World) (h1 : New w w1) => ref_edge b off n c k l w1 hk hl (HW.out.new h1))
  have HB := Lib.hid (okL_bd hok)
  clear hw hok
  go_enter Tryz.func170, Tryz.ntmps170
  go_wp2_with fail
  go_loopw [9, 10] (fun v i wr => ∃ k : Nat, k ≤ n ∧ i = .int .i64 k ∧ v = .bool (oddTo (edgesL l) p q k) ∧ New w wr) (fun _ i _ => n - (intOf i).toNat)
  case atStart => exact ⟨0, Nat.zero_le _, rfl, rfl, New.refl _⟩
  case round =>
    obtain ⟨k, hk, rfl, rfl, pr, rfl⟩ := hrel
    by_cases hlt : k < n
    · have HE := Lib.hid (HED.out k hlt)
      have hpass : passAt (edgesL l) p q k = passB (px l k) (py l k) (px l ((k + 1) % n)) (py l ((k + 1) % n)) p q := by
        obtain ⟨x1, x2, x3, x4⟩ := edgesL_at l k (by rw [HN.out]; exact hlt)
        rw [passAt, x1, x2, x3, x4, HN.out]
      have HS := Lib.hid (oddTo_pass hpass)
      obtain ⟨b1, b2⟩ := HB.out k
      obtain ⟨b3, b4⟩ := HB.out ((k + 1) % n)
      clear hpass
      generalize oddTo (edgesL l) p q k = V at *
      generalize px l k = A at *
      generalize py l k = B at *
      generalize px l ((k + 1) % n) = C at *
      generalize py l ((k + 1) % n) = D at *
      obtain ⟨O, hO⟩ : ∃ O, O = passB A B C D p q := ⟨_, rfl⟩
      rw [← hO] at HS
      have hT1 := turn_one A B C D p q
      have hT2 := turn_one C D A B p q
      have m1 := mul_bd A (D - B) 10000 10000 (by omega) (by omega) (by omega) (by omega)
      have m2 := mul_bd (C - A) (q - B) 10000 10000 (by omega) (by omega) (by omega) (by omega)
      have m3 := mul_bd p (D - B) 10000 10000 (by omega) (by omega) (by omega) (by omega)
      have m4 := mul_bd C (B - D) 10000 10000 (by omega) (by omega) (by omega) (by omega)
      have m5 := mul_bd (A - C) (q - D) 10000 10000 (by omega) (by omega) (by omega) (by omega)
      have m6 := mul_bd p (B - D) 10000 10000 (by omega) (by omega) (by omega) (by omega)
      simp only [Int.reduceMul, Int.reduceNeg] at m1 m2 m3 m4 m5 m6
      have hcase : (D < B ∧ q < D) ∨ (D < B ∧ D ≤ q ∧ B ≤ q) ∨ (D < B ∧ D ≤ q ∧ q < B) ∨ (¬ D < B ∧ q < B) ∨ (¬ D < B ∧ B ≤ q ∧ D ≤ q) ∨ (¬ D < B ∧ B ≤ q ∧ q < D) := by omega
      rcases hcase with ⟨g1, g2⟩ | ⟨g1, g2, g3⟩ | ⟨g1, g2, g3⟩ | ⟨g1, g2⟩ | ⟨g1, g2, g3⟩ | ⟨g1, g2, g3⟩
      · skip
        have HO := Lib.hid (show O = false from (by rw [hO, ← pass_2 g1 g2]))
        clear hT1 hT2
        go_wp2_with (go_at_call 110; refine (HE.out _ (by (repeat (first | exact New.refl _ | apply New.alloc | apply New.aft | apply New.drew | refine New.setCell ?_ ?_ _)); all_goals (first | done | (simp [size_aft]; done) | (simp [size_aft]; omega)))).mono ?_; rintro en w1 ⟨rfl, pw, rfl⟩)
        all_goals (try (exfalso; omega))
        all_goals go_roundw
        all_goals first
          | exact ⟨k + 1, by omega, by go_num, by rw [HS.out, HO.out]; rfl, by (repeat (first | exact New.refl _ | apply New.alloc | apply New.aft | apply New.drew | refine New.setCell ?_ ?_ _)); all_goals (first | done | (simp [size_aft]; done) | (simp [size_aft]; omega))⟩
          | (simp [intOf]; omega)
      · skip
        have HO := Lib.hid (show O = false from (by rw [hO, ← pass_3 g1 g3]))
        clear hT1 hT2
        go_wp2_with (go_at_call 110; refine (HE.out _ (by (repeat (first | exact New.refl _ | apply New.alloc | apply New.aft | apply New.drew | refine New.setCell ?_ ?_ _)); all_goals (first | done | (simp [size_aft]; done) | (simp [size_aft]; omega)))).mono ?_; rintro en w1 ⟨rfl, pw, rfl⟩)
        all_goals (try (exfalso; omega))
        all_goals go_roundw
        all_goals first
          | exact ⟨k + 1, by omega, by go_num, by rw [HS.out, HO.out]; rfl, by (repeat (first | exact New.refl _ | apply New.alloc | apply New.aft | apply New.drew | refine New.setCell ?_ ?_ _)); all_goals (first | done | (simp [size_aft]; done) | (simp [size_aft]; omega))⟩
          | (simp [intOf]; omega)
      · cases hT : decide (p * (B - D) < C * (B - D) + (A - C) * (q - D))
        · have hTn : ¬ (p * (B - D) < C * (B - D) + (A - C) * (q - D)) := of_decide_eq_false hT
          have HO := Lib.hid (show O = false from (by rw [hO, ← pass_1 g1 g2 g3, hT2, hT]))
          clear hT1 hT2
          go_wp2_with (go_at_call 110; refine (HE.out _ (by (repeat (first | exact New.refl _ | apply New.alloc | apply New.aft | apply New.drew | refine New.setCell ?_ ?_ _)); all_goals (first | done | (simp [size_aft]; done) | (simp [size_aft]; omega)))).mono ?_; rintro en w1 ⟨rfl, pw, rfl⟩)
          all_goals (try (exfalso; omega))
          all_goals go_roundw
          all_goals first
            | exact ⟨k + 1, by omega, by go_num, by rw [HS.out, HO.out]; rfl, by (repeat (first | exact New.refl _ | apply New.alloc | apply New.aft | apply New.drew | refine New.setCell ?_ ?_ _)); all_goals (first | done | (simp [size_aft]; done) | (simp [size_aft]; omega))⟩
            | (simp [intOf]; omega)
        · have hTy : p * (B - D) < C * (B - D) + (A - C) * (q - D) := of_decide_eq_true hT
          have HO := Lib.hid (show O = true from (by rw [hO, ← pass_1 g1 g2 g3, hT2, hT]))
          clear hT1 hT2
          go_wp2_with (go_at_call 110; refine (HE.out _ (by (repeat (first | exact New.refl _ | apply New.alloc | apply New.aft | apply New.drew | refine New.setCell ?_ ?_ _)); all_goals (first | done | (simp [size_aft]; done) | (simp [size_aft]; omega)))).mono ?_; rintro en w1 ⟨rfl, pw, rfl⟩)
          all_goals (try (exfalso; omega))
          all_goals go_roundw
          all_goals first
            | exact ⟨k + 1, by omega, by go_num, by rw [HS.out, HO.out]; rfl, by (repeat (first | exact New.refl _ | apply New.alloc | apply New.aft | apply New.drew | refine New.setCell ?_ ?_ _)); all_goals (first | done | (simp [size_aft]; done) | (simp [size_aft]; omega))⟩
            | (simp [intOf]; omega)
      · skip
        have HO := Lib.hid (show O = false from (by rw [hO, ← pass_5 g1 g2]))
        clear hT1 hT2
        go_wp2_with (go_at_call 110; refine (HE.out _ (by (repeat (first | exact New.refl _ | apply New.alloc | apply New.aft | apply New.drew | refine New.setCell ?_ ?_ _)); all_goals (first | done | (simp [size_aft]; done) | (simp [size_aft]; omega)))).mono ?_; rintro en w1 ⟨rfl, pw, rfl⟩)
        all_goals (try (exfalso; omega))
        all_goals go_roundw
        all_goals first
          | exact ⟨k + 1, by omega, by go_num, by rw [HS.out, HO.out]; rfl, by (repeat (first | exact New.refl _ | apply New.alloc | apply New.aft | apply New.drew | refine New.setCell ?_ ?_ _)); all_goals (first | done | (simp [size_aft]; done) | (simp [size_aft]; omega))⟩
          | (simp [intOf]; omega)
      · skip
        have HO := Lib.hid (show O = false from (by rw [hO, ← pass_6 g1 g3]))
        clear hT1 hT2
        go_wp2_with (go_at_call 110; refine (HE.out _ (by (repeat (first | exact New.refl _ | apply New.alloc | apply New.aft | apply New.drew | refine New.setCell ?_ ?_ _)); all_goals (first | done | (simp [size_aft]; done) | (simp [size_aft]; omega)))).mono ?_; rintro en w1 ⟨rfl, pw, rfl⟩)
        all_goals (try (exfalso; omega))
        all_goals go_roundw
        all_goals first
          | exact ⟨k + 1, by omega, by go_num, by rw [HS.out, HO.out]; rfl, by (repeat (first | exact New.refl _ | apply New.alloc | apply New.aft | apply New.drew | refine New.setCell ?_ ?_ _)); all_goals (first | done | (simp [size_aft]; done) | (simp [size_aft]; omega))⟩
          | (simp [intOf]; omega)
      · cases hT : decide (p * (D - B) < A * (D - B) + (C - A) * (q - B))
        · have hTn : ¬ (p * (D - B) < A * (D - B) + (C - A) * (q - B)) := of_decide_eq_false hT
          have HO := Lib.hid (show O = false from (by rw [hO, ← pass_4 g1 g2 g3, hT1, hT]))
          clear hT1 hT2
          go_wp2_with (go_at_call 110; refine (HE.out _ (by (repeat (first | exact New.refl _ | apply New.alloc | apply New.aft | apply New.drew | refine New.setCell ?_ ?_ _)); all_goals (first | done | (simp [size_aft]; done) | (simp [size_aft]; omega)))).mono ?_; rintro en w1 ⟨rfl, pw, rfl⟩)
          all_goals (try (exfalso; omega))
          all_goals go_roundw
          all_goals first
            | exact ⟨k + 1, by omega, by go_num, by rw [HS.out, HO.out]; rfl, by (repeat (first | exact New.refl _ | apply New.alloc | apply New.aft | apply New.drew | refine New.setCell ?_ ?_ _)); all_goals (first | done | (simp [size_aft]; done) | (simp [size_aft]; omega))⟩
            | (simp [intOf]; omega)
        · have hTy : p * (D - B) < A * (D - B) + (C - A) * (q - B) := of_decide_eq_true hT
          have HO := Lib.hid (show O = true from (by rw [hO, ← pass_4 g1 g2 g3, hT1, hT]))
          clear hT1 hT2
          go_wp2_with (go_at_call 110; refine (HE.out _ (by (repeat (first | exact New.refl _ | apply New.alloc | apply New.aft | apply New.drew | refine New.setCell ?_ ?_ _)); all_goals (first | done | (simp [size_aft]; done) | (simp [size_aft]; omega)))).mono ?_; rintro en w1 ⟨rfl, pw, rfl⟩)
          all_goals (try (exfalso; omega))
          all_goals go_roundw
          all_goals first
            | exact ⟨k + 1, by omega, by go_num, by rw [HS.out, HO.out]; rfl, by (repeat (first | exact New.refl _ | apply New.alloc | apply New.aft | apply New.drew | refine New.setCell ?_ ?_ _)); all_goals (first | done | (simp [size_aft]; done) | (simp [size_aft]; omega))⟩
            | (simp [intOf]; omega)
    · have HK := Lib.hid (show k = n by omega)
      go_wp2_with fail
      go_ret
      exact ⟨ret_bool (by rw [HK.out]), by (repeat (first | exact New.refl _ | apply New.alloc | apply New.aft | apply New.drew | refine New.setCell ?_ ?_ _)); all_goals (first | done | (simp [size_aft]; done) | (simp [size_aft]; omega))⟩

end Go.Proofs.YtpdfbboagaflhaaGreat

set_option linter.unusedSimpArgs false
set_option linter.unusedVariables false
set_option maxRecDepth 100000
namespace Go.Proofs.YtpdfbboagaflhaaGreat
open Go.RowKit

set_option maxHeartbeats 8000000 in
theorem ref_where (b off n c : Nat) (l : List P2) (p q : Int) (w : World) (hl : n ≤ 1000000) (hw : Pts w b off n l) (hok : okL l = true) (hp : 0 ≤ p ∧ p ≤ 10000) (hq : 0 ≤ q ∧ q ≤ 10000) :
    Calls Tryz.prog 118 #[.slice (some ⟨b, off, none⟩) n c, pv p q] w fun en w' => en = .returned (.int .u8 (whereI l p q)) ∧ New w w' := by
  have HW := Lib.hid hw
  have HN := Lib.hid hw.1
  have HED := Lib.hid (fun (k : Nat) (hk : k < n) (w1 : World) (h1 : New w w1) => ref_edge b off n c k l w1 hk hl (HW.out.new h1))
  have HB := Lib.hid (okL_bd hok)
  have HEN := Lib.hid (fun (w1 : World) (h1 : New w w1) => ref_enclosed b off n c l p q w1 hl (HW.out.new h1) hok hp hq)
  clear hw hok
  go_enter Tryz.func118, Tryz.ntmps118
  go_wp2_with fail
  generalize hwo : w.alloc _ = wo
  have HNO := Lib.hid (show New w wo by rw [← hwo]; exact (New.refl _).alloc _)
  have k1 : wo.cell? ⟨w.heap.size, 0, none⟩ = some (.int .i64 p) := by rw [← hwo]; simp [go_sem]
  have k2 : wo.cell? ⟨w.heap.size, 1, none⟩ = some (.int .i64 q) := by rw [← hwo]; simp [go_sem]
  have kb : w.heap.size < wo.heap.size := by rw [← hwo]; simp [go_sem]
  clear hwo
  go_loopw [5] (fun i wr => ∃ k : Nat, k ≤ n ∧ i = .int .i64 k ∧ anyOn (edgesL l) p q k = false ∧ New wo wr) (fun i _ => n - (intOf i).toNat)
  case atStart => exact ⟨0, Nat.zero_le _, rfl, rfl, New.refl _⟩
  case round =>
    obtain ⟨k, hk, rfl, hany, pr, rfl⟩ := hrel
    have HANY := Lib.hid hany
    clear hany
    have kb1 : w.heap.size < wo.heap.size + pr.os.size := by omega
    by_cases hlt : k < n
    · have HE := Lib.hid (HED.out k hlt)
      obtain ⟨b1, b2⟩ := HB.out k
      obtain ⟨b3, b4⟩ := HB.out ((k + 1) % n)
      have HON := Lib.hid (fun w1 : World => ref_on p q (px l k) (py l k) (px l ((k + 1) % n)) (py l ((k + 1) % n)) w1 (by omega) (by omega) (by omega) (by omega) (by omega) (by omega))
      have hat : onR p q (px l k) (py l k) (px l ((k + 1) % n)) (py l ((k + 1) % n)) = onAt (edgesL l) p q k := by
        obtain ⟨x1, x2, x3, x4⟩ := edgesL_at l k (by rw [HN.out]; exact hlt)
        rw [onAt, x1, x2, x3, x4, HN.out, onR_eq]
      rw [hat] at HON
      clear hat b1 b2 b3 b4
      have HE' := Lib.hid (fun (w1 : World) (h1 : New wo w1) => HE.out w1 (HNO.out.trans h1))
      cases ho : onAt (edgesL l) p q k
      · rw [ho] at HON
        have HO := Lib.hid ho
        clear ho
        go_wp2_with fail
        first | refine wp_region_at2 (by kernel_rfl) (by kernel_rfl) ?_ | refine wp_region_at (by kernel_rfl) (by kernel_rfl) ?_
        repeat (go_big_quiet_step (first | (go_at_call 110; exact calls_new (HE'.out _ ((New.refl _).aft _ _))) | (go_at_call 91; exact calls_new (HON.out _))))
        refine wpQuiet_nil ?_
        rintro _ ⟨q0, rfl⟩
        go_wp2_with fail
        go_roundw
        case rel => exact ⟨k + 1, by omega, by go_num, by rw [anyOn_succ, HANY.out, HO.out]; rfl, by (repeat (first | exact New.refl _ | apply New.alloc | apply New.aft | apply New.drew | refine New.setCell ?_ ?_ _)); all_goals (first | done | (simp [size_aft]; done) | (simp [size_aft]; omega))⟩
        case measure => simp [intOf]; omega
      · rw [ho] at HON
        have HO := Lib.hid (anyOn_at _ _ _ k n hlt ho)
        clear ho
        go_wp2_with fail
        first | refine wp_region_at2 (by kernel_rfl) (by kernel_rfl) ?_ | refine wp_region_at (by kernel_rfl) (by kernel_rfl) ?_
        repeat (go_big_quiet_step (first | (go_at_call 110; exact calls_new (HE'.out _ ((New.refl _).aft _ _))) | (go_at_call 91; exact calls_new (HON.out _))))
        refine wpQuiet_nil ?_
        rintro _ ⟨q0, rfl⟩
        go_wp2_with fail
        go_ret
        exact ⟨ret_int (by rw [whereI, HN.out, HO.out]; rfl), by (repeat (first | exact HNO.out | exact New.refl _ | apply New.alloc | apply New.aft | apply New.drew | refine New.setCell ?_ ?_ _)); all_goals (first | done | (simp [size_aft]; done) | (simp [size_aft]; omega))⟩
    · have HK := Lib.hid (show k = n by omega)
      have HV := Lib.hid (show whereI l p q = if oddTo (edgesL l) p q n = true then 2 else 0 by
        have := HANY.out
        rw [HK.out] at this
        rw [whereI, HN.out, this]; rfl)
      have HEN' := Lib.hid (fun (w1 : World) (h1 : New wo w1) => HEN.out w1 (HNO.out.trans h1))
      cases hodd : oddTo (edgesL l) p q n
      all_goals
        rw [hodd] at HV HEN'
        clear hodd
        go_wp2_with (go_at_call 170; refine (HEN'.out _ (by (repeat (first | exact New.refl _ | apply New.alloc | apply New.aft | apply New.drew | refine New.setCell ?_ ?_ _)); all_goals (first | done | (simp [size_aft]; done) | (simp [size_aft]; omega)))).mono ?_; rintro en w1 ⟨rfl, pw, rfl⟩)
        go_ret
        exact ⟨ret_int (by rw [HV.out]; rfl), by (repeat (first | exact HNO.out | exact New.refl _ | apply New.alloc | apply New.aft | apply New.drew | refine New.setCell ?_ ?_ _)); all_goals (first | done | (simp [size_aft]; done) | (simp [size_aft]; omega))⟩

set_option maxHeartbeats 4000000 in
theorem ref_Where (b off n c : Nat) (l : List P2) (p q : Int) (w : World) (h0 : 0 < n) (hl : n ≤ 1000000) (hw : Pts w b off n l) :
    Calls Tryz.prog 54 #[.slice (some ⟨b, off, none⟩) n c, pv p q] w fun en w' => en = .returned (.int .u8 (WhereI l p q)) ∧ New w w' := by
  have HV := Lib.hid (ref_valid p q)
  have HC := Lib.hid (fun (w1 : World) (h1 : New w w1) => ref_checkPoly b off n c l w1 h0 hl (hw.new h1))
  cases hp : okP p q
  · rw [hp] at HV
    rw [show WhereI l p q = 0 from if_neg (fun hh => by rw [hp] at hh; cases hh.1)]
    generalize polyI l = K at *
    clear hp hw
    go_enter Tryz.func54, Tryz.ntmps54
    go_wp2_with (go_at_call 86; refine (HV.out _).mono ?_; rintro en w1 ⟨rfl, pw, rfl⟩)
    all_goals (go_ret; refine ⟨rfl, ?_⟩; (repeat (first | exact New.refl _ | apply New.alloc | apply New.aft | apply New.drew | refine New.setCell ?_ ?_ _)); all_goals (first | done | (simp [size_aft]; done) | (simp [size_aft]; omega)))
  · by_cases hk : polyI l = 0
    · obtain ⟨hp1, hp2⟩ := okP_iff.1 hp
      have HWH := Lib.hid (fun (w1 : World) (h1 : New w w1) => ref_where b off n c l p q w1 hl (hw.new h1) (ckPts_zero (polyI_ok hk).1).2 hp1 hp2)
      rw [show WhereI l p q = whereI l p q from if_pos ⟨hp, hk⟩]
      rw [hp] at HV
      rw [hk] at HC
      clear hp hk hw hp1 hp2
      generalize whereI l p q = V at *
      go_enter Tryz.func54, Tryz.ntmps54
      go_wp2_with (first | (go_at_call 86; refine (HV.out _).mono ?_; rintro en w1 ⟨rfl, pw, rfl⟩) | (go_at_call 45; refine (HC.out _ (by (repeat (first | exact New.refl _ | apply New.alloc | apply New.aft | apply New.drew | refine New.setCell ?_ ?_ _)); all_goals (first | done | (simp [size_aft]; done) | (simp [size_aft]; omega)))).mono ?_; rintro en w1 ⟨rfl, pw, rfl⟩) | (go_at_call 118; refine (HWH.out _ (by (repeat (first | exact New.refl _ | apply New.alloc | apply New.aft | apply New.drew | refine New.setCell ?_ ?_ _)); all_goals (first | done | (simp [size_aft]; done) | (simp [size_aft]; omega)))).mono ?_; rintro en w1 ⟨rfl, pw, rfl⟩))
      all_goals (go_ret; refine ⟨rfl, ?_⟩; (repeat (first | exact New.refl _ | apply New.alloc | apply New.aft | apply New.drew | refine New.setCell ?_ ?_ _)); all_goals (first | done | (simp [size_aft]; done) | (simp [size_aft]; omega)))
    · rw [show WhereI l p q = 0 from if_neg (fun hh => hk hh.2)]
      rw [hp] at HV
      have z1 : (polyI l == 0) = false := by simpa using hk
      have z2 : (polyI l != 0) = true := by simpa using hk
      clear hp hk hw
      generalize polyI l = K at *
      go_enter Tryz.func54, Tryz.ntmps54
      go_wp2_with (first | (go_at_call 86; refine (HV.out _).mono ?_; rintro en w1 ⟨rfl, pw, rfl⟩) | (go_at_call 45; refine (HC.out _ (by (repeat (first | exact New.refl _ | apply New.alloc | apply New.aft | apply New.drew | refine New.setCell ?_ ?_ _)); all_goals (first | done | (simp [size_aft]; done) | (simp [size_aft]; omega)))).mono ?_; rintro en w1 ⟨rfl, pw, rfl⟩))
      all_goals (go_ret; refine ⟨rfl, ?_⟩; (repeat (first | exact New.refl _ | apply New.alloc | apply New.aft | apply New.drew | refine New.setCell ?_ ?_ _)); all_goals (first | done | (simp [size_aft]; done) | (simp [size_aft]; omega)))

set_option maxHeartbeats 2000000 in
theorem ref_Where_nil (v : Option Addr) (c : Nat) (p q : Int) (w : World) : Calls Tryz.prog 54 #[.slice v 0 c, pv p q] w fun en w' => en = .returned (.int .u8 0) ∧ New w w' := by
  have HV := Lib.hid (ref_valid p q)
  have HC := Lib.hid (fun w1 : World => ref_checkPoly_nil v c w1)
  cases hp : okP p q
  all_goals
    rw [hp] at HV
    clear hp
    go_enter Tryz.func54, Tryz.ntmps54
    go_wp2_with (first | (go_at_call 86; refine (HV.out _).mono ?_; rintro en w1 ⟨rfl, pw, rfl⟩) | (go_at_call 45; refine (HC.out _).mono ?_; rintro en w1 ⟨rfl, pw, rfl⟩))
    all_goals (go_ret; refine ⟨rfl, ?_⟩; (repeat (first | exact New.refl _ | apply New.alloc | apply New.aft | apply New.drew | refine New.setCell ?_ ?_ _)); all_goals (first | done | (simp [size_aft]; done) | (simp [size_aft]; omega)))
set_option maxHeartbeats 2000000 in
theorem Where_nil (v : Option Addr) (c : Nat) (p q : Int) (w : World) : Calls Tryz.prog 53 #[.slice v 0 c, pv p q] w fun en w' => en = .returned (.int .u8 0) ∧ New w w' := by
  have HV := Lib.hid (checkPoint_c p q)
  have HC := Lib.hid (fun w1 : World => checkPoly_nil v c w1)
  cases hp : okP p q
  · rw [okErr_no hp] at HV
    clear hp
    go_enter Tryz.func53, Tryz.ntmps53
    go_wp2_with (go_at_call 29; refine (HV.out _).mono ?_; rintro en w1 ⟨rfl, pw, rfl⟩)
    all_goals (go_ret; refine ⟨rfl, ?_⟩; (repeat (first | exact New.refl _ | apply New.alloc | apply New.aft | apply New.drew | refine New.setCell ?_ ?_ _)); all_goals (first | done | (simp [size_aft]; done) | (simp [size_aft]; omega)))
  · rw [okErr_yes hp] at HV
    clear hp
    go_enter Tryz.func53, Tryz.ntmps53
    go_wp2_with (first | (go_at_call 29; refine (HV.out _).mono ?_; rintro en w1 ⟨rfl, pw, rfl⟩) | (go_at_call 44; refine (HC.out _).mono ?_; rintro en w1 ⟨rfl, pw, rfl⟩))
    all_goals (go_ret; refine ⟨rfl, ?_⟩; (repeat (first | exact New.refl _ | apply New.alloc | apply New.aft | apply New.drew | refine New.setCell ?_ ?_ _)); all_goals (first | done | (simp [size_aft]; done) | (simp [size_aft]; omega)))

set_option maxHeartbeats 4000000 in
theorem where_of (v : Option Addr) (n c : Nat) (p q V : Int) (w : World) (hn : n ≤ 40)
    (HA : Hid (∀ w1 : World, New w w1 → Calls Tryz.prog 53 #[.slice v n c, pv p q] w1 fun en w' => en = .returned (.int .u8 V) ∧ New w1 w'))
    (HB : Hid (∀ w1 : World, New w w1 → Calls Tryz.prog 54 #[.slice v n c, pv p q] w1 fun en w' => en = .returned (.int .u8 V) ∧ New w1 w')) :
    Calls Tryz.prog 10 #[.slice v n c, pv p q] w fun e w' => e = .returned (.bool true) ∧ New w w' := by
  have HL := Lib.hid alive_c
  have hn2 : ¬ (40 : Int) < (n : Int) := by omega
  have t1 : (V == V) = true := by simp
  have HA' := Lib.hid (fun (o : Obj) (d : Nat) (os : Array Obj) => HA.out (Aft (w.alloc o) d os) (((New.refl _).alloc _).aft _ _))
  have HB' := Lib.hid (fun (o : Obj) (d : Nat) (os : Array Obj) => HB.out (Aft (w.alloc o) d os) (((New.refl _).alloc _).aft _ _))
  go_enter Tryz.func10, Tryz.ntmps10
  go_wp2_with fail
  first | refine wp_region_at2 (by kernel_rfl) (by kernel_rfl) ?_ | refine wp_region_at (by kernel_rfl) (by kernel_rfl) ?_
  repeat (go_big_quiet_step (first | (go_at_call 31; exact calls_new (HL.out _)) | (go_at_call 53; exact calls_new (HA'.out _ _ _)) | (go_at_call 54; exact calls_new (HB'.out _ _ _))))
  refine wpQuiet_nil ?_
  rintro _ ⟨q0, rfl⟩
  go_wp2_with fail
  all_goals (go_ret; refine ⟨ret_bool (by simp), ?_⟩; (repeat (first | exact New.refl _ | apply New.alloc | apply New.aft | apply New.drew | refine New.setCell ?_ ?_ _)); all_goals (first | done | (simp [size_aft]; done) | (simp [size_aft]; omega)))

theorem planeWhere_all (w : World) (av : Option Addr) (n c : Nat) (l : List P2) (hl : l.length = n) (hp : 0 < n → ∃ b off, av = some ⟨b, off, none⟩ ∧ Pts w b off n l) (p q : Int) : Calls Tryz.prog 10 #[.slice av n c, pv p q] w fun e w' => e = .returned (.bool true) ∧ New w w' := by
  by_cases hn : n ≤ 40
  · by_cases h0 : 0 < n
    · obtain ⟨b, off, rfl, hw⟩ := hp h0
      exact where_of _ n c p q (WhereI l p q) w hn (Lib.hid (fun w1 h1 => Where_c b off n c l p q w1 h0 (by omega) (hw.new h1))) (Lib.hid (fun w1 h1 => ref_Where b off n c l p q w1 h0 (by omega) (hw.new h1)))
    · obtain rfl : n = 0 := by omega
      exact where_of av 0 c p q 0 w hn (Lib.hid (fun w1 _ => Where_nil av c p q w1)) (Lib.hid (fun w1 _ => ref_Where_nil av c p q w1))
  · have HL := Lib.hid alive_c
    have hn2 : (40 : Int) < (n : Int) := by omega
    clear hp hl
    go_enter Tryz.func10, Tryz.ntmps10
    go_wp2_with (go_at_call 31; refine (HL.out _).mono ?_; rintro e w1 ⟨rfl, pw, rfl⟩)
    all_goals (go_ret; refine ⟨ret_bool (by simp), ?_⟩; (repeat (first | exact New.refl _ | apply New.alloc | apply New.aft | apply New.drew | refine New.setCell ?_ ?_ _)); all_goals (first | done | (simp [size_aft]; done) | (simp [size_aft]; omega)))

end Go.Proofs.YtpdfbboagaflhaaGreat

set_option linter.unusedSimpArgs false
set_option linter.unusedVariables false
set_option linter.constructorNameAsVariable false
namespace Go.Proofs.YtpdfbboagaflhaaGreat
open Go.ChangeShapes Go.WideShapes Go.ChangeAt Go.RowKit Go.Joins
set_option maxRecDepth 100000

theorem jWh_wf : Rows.planeWhereRow.wf (OpenSpec.ofChange Rows.planeWhereSpec) = true := by kernel_rfl
theorem jWh_par : Tryz.f10.params.all (Tryz.prog.readableRec ·) = true := by kernel_rfl
theorem jWh_tie : namedTie Tryz.prog Rows.planeWhereRow.named Rows.planeWhereSpec.vars = true := by kernel_rfl
theorem jWh_st : (Rows.planeWhereRow.stops == []) = true := by kernel_rfl
theorem jWh_kn : (Rows.planeWhereRow.knobs == []) = true := by kernel_rfl
theorem jWh_inp : (Rows.planeWhereRow.inPlace == Tryz.prog.inPlace 10) = true := by kernel_rfl
theorem jWh_unf : (Rows.planeWhereRow.unfollowed == Tryz.prog.unfollowed 10) = true := by kernel_rfl
theorem jWh_rec : (Rows.planeWhereRow.recurses == Tryz.prog.recurses 10) = true := by kernel_rfl
theorem jWh_nam : (Rows.planeWhereRow.named == Tryz.prog.varsNamed 10) = true := by kernel_rfl
theorem jWh_maps : (Rows.planeWhereRow.maps == (Tryz.f10.params.toList ++ Rows.planeWhereSpec.plain.varTypes Tryz.prog).any (Tryz.prog.mapsRec ·)) = true := by kernel_rfl
theorem jWh_ifs : (Rows.planeWhereRow.ifaces == (Tryz.f10.params.toList ++ Rows.planeWhereSpec.plain.varTypes Tryz.prog).any (Tryz.prog.ifacesRec ·)) = true := by kernel_rfl
theorem jWh_mout : (Rows.planeWhereRow.mapsOut == Tryz.prog.mapsAmong Tryz.f10.resultTypes.toList) = true := by kernel_rfl
theorem jWh_loops : (Rows.planeWhereRow.loops == (Tryz.f10.params.toList ++ Rows.planeWhereSpec.plain.varTypes Tryz.prog).any (Tryz.prog.loopsFrom ·)) = true := by kernel_rfl
theorem jWh_wide : (Rows.planeWhereRow.wideKeys == (Tryz.f10.params.toList ++ Rows.planeWhereSpec.plain.varTypes Tryz.prog ++ Tryz.f10.resultTypes.toList).any (Tryz.prog.wideKeysFrom ·)) = true := by kernel_rfl
theorem jWh_vars : Rows.planeWhereSpec.vars.all (Tryz.prog.varReadable ·) = true := by kernel_rfl
theorem jWh_res : Tryz.f10.resultTypes.all (fun t => Tryz.prog.readableRec t && decide (t < Tryz.prog.types.size)) = true := by kernel_rfl
theorem jWh_iout : (Rows.planeWhereRow.ifacesOut == Tryz.f10.resultTypes.toList.any (Tryz.prog.ifacesRec ·)) = true := by kernel_rfl
theorem jWh_lout : (Rows.planeWhereRow.loopsOut == Tryz.f10.resultTypes.toList.any (Tryz.prog.loopsFrom ·)) = true := by kernel_rfl
theorem jWh_plain : (Rows.planeWhereRow.plainKeys == Tryz.prog.plainKeys) = true := by kernel_rfl
theorem jWh_short : Rows.planeWhereRow.shortTexts.isNone = true := by kernel_rfl
theorem jWh_lift0 : (Rows.planeWhereRow.lifted == false) = true := by kernel_rfl
theorem jWh_lift : (Rows.planeWhereRow.lifted == Tryz.prog.liftsFinal) = true := (congrArg (fun b => (Rows.planeWhereRow.lifted == b)) lift_is).trans jWh_lift0
theorem jWh_make0 : (some Make.cut == some Rows.planeWhereRow.make) = true := by kernel_rfl
theorem jWh_make : (Tryz.prog.make == some Rows.planeWhereRow.make) = true := (congrArg (fun b => (b == some Rows.planeWhereRow.make)) make_is).trans jWh_make0
theorem jWh_kinds : (Rows.planeWhereRow.kinds == (if Rows.planeWhereRow.domain.isEmpty then [] else Tryz.f10.params.toList.map fun t => match Tryz.prog.underlying t with | some (.int k) => some k | _ => none)) = true := by kernel_rfl
theorem jWh_pin : (Rows.planeWhereRow.pinned == Rows.planeWhereRow.pinnedBy) = true := by kernel_rfl
theorem jWh_veil : (Rows.planeWhereRow.veiled == (Tryz.f10.params.toList ++ Rows.planeWhereSpec.plain.varTypes Tryz.prog ++ Tryz.f10.resultTypes.toList).any (Tryz.prog.veiledRec ·)) = true := by kernel_rfl
theorem jWh_vfit : Rows.planeWhereRow.veiledFits Tryz.prog Tryz.f10.params.toList (Tryz.f10.params.toList ++ Rows.planeWhereSpec.plain.varTypes Tryz.prog ++ Tryz.f10.resultTypes.toList) = true := by kernel_rfl
theorem jWh_closed : joinedFacts Tryz.prog 10 Tryz.f10 Rows.planeWhereSpec Rows.planeWhereRow = true := (b_and (b_and (b_and (b_and (b_and (b_and (b_and (b_and (b_and (b_and (b_and (b_and (b_and (b_and (b_and (b_and (b_and (b_and (b_and (b_and (b_and (b_and (b_and (b_and (b_and (b_and (b_and (b_and (b_and (b_and (b_and jWh_wf jp_laid) jp_rowed) jWh_par) jWh_tie) jWh_st) jp_stops) jWh_kn) jp_knobs) jWh_inp) jWh_unf) jWh_rec) jWh_nam) jWh_maps) jWh_ifs) jWh_mout) jWh_loops) jWh_wide) jWh_vars) jWh_res) jWh_iout) jWh_lout) jWh_plain) jWh_short) jp_heard) jp_enter) jWh_lift) jWh_make) jWh_kinds) jWh_pin) jWh_veil) jWh_vfit)
theorem jWh_name : Tryz.prog.funcNamed Rows.planeWhereRow.func = some 10 := by kernel_rfl
theorem jWh_inst : Tryz.f10.isInstance Tryz.prog Rows.planeWhereRow.origin Rows.planeWhereRow.targs := of_decide_eq_true (by kernel_rfl)
theorem jWh_wrap : Tryz.f10.isWrapper Tryz.prog Rows.planeWhereRow.wrapper Rows.planeWhereRow.mainSum := by unfold Func.isWrapper; rw [if_neg (by decide +kernel)]; exact ⟨rfl, rfl⟩

set_option maxHeartbeats 2000000 in
theorem jWh_lifted (os : Os) (started : os.Started) (H : Type) (enc : TypeId × Value → H) :
    ReturnsInHanded {} Tryz.checked os 10 .any (Rows.planeWhereSpec.pre6 enc Tryz.prog Tryz.f10 Rows.planeWhereRow.domain false) (Rows.planeWhereSpec.post enc Tryz.prog Tryz.f10 false true false false) := by
  refine returnsInHanded_of_change (C := Tryz.checked) own_knob started (by kernel_rfl) Tryz.func10
    (ChangeSpec.witness6 (enc := enc) (C := Tryz.checked) false ⟨#[], #[.slice none 0 0, .agg #[.int .i64 0, .int .i64 0]], []⟩ 8 (by kernel_rfl) (by kernel_rfl) (by kernel_rfl) (by kernel_rfl)) ?_
  intro W base args ds gs before hval0 hW hcnd _
  have hval : ∀ (j : Nat) t v, Tryz.f10.params[j]? = some t → args[j]? = some v → Value.okWide Tryz.prog W .any base t v := hval0
  have hW' := hW
  obtain ⟨p, q, hA0, hV, rfl, hfz, hnd⟩ := hW
  have hA : DataW.TrodAll enc Tryz.prog W 0 (fun _ => true) true Tryz.f10.params.toList args.toList ds p := hA0
  rw [Tryz.params10] at hA hval
  obtain ⟨v0, vs0, d0, ds0, p0, q0, hargs, rfl, rfl, h0, r0⟩ := trodAll_cons hA
  obtain ⟨v1, vs1, d1, ds1, p1, q1, rfl, rfl, rfl, h1, r1⟩ := trodAll_cons r0
  obtain ⟨rfl, rfl, rfl⟩ := trodAll_nil r1
  obtain rfl : args = #[v0, v1] := by cases args; simp_all
  obtain ⟨rfl, rfl⟩ := trodVars_none hV
  have hlt : ∀ x ∈ p0 ++ p1, x.block < W.heap.size := fun x hx => hW'.lt x (by simpa using hx)
  have g0 := h0
  obtain ⟨av0, n0, cap0, l0, rfl, hl0, hp0⟩ := open_pts (hval 0 40 v0 rfl rfl) h0
  have g1 := h1
  obtain ⟨x1, y1, rfl, _, _⟩ := open_pt (hval 1 23 v1 rfl rfl) h1
  clear hA0 hval0 hval
  refine (planeWhere_all W av0 n0 cap0 l0 hl0 hp0 x1 y1).mono fun e W' ⟨he, hg⟩ => ?_
  subst he
  have t1 := Below.trod laidOut (by kernel_rfl) (of_decide_eq_true (by kernel_rfl)) g1 hg.below (fun x hx => hlt x (by simp [hx]))
  have t0 := Below.trod laidOut (by kernel_rfl) (of_decide_eq_true (by kernel_rfl)) g0 hg.below (fun x hx => hlt x (by simp [hx]))
  exact ⟨_, rfl, _, _, _, _, _, _, hW', trodAll_cons_mk (shut_bool Tryz.underlying4 _) trodAll_mk0, trodAll_cons_mk t0 (trodAll_cons_mk t1 trodAll_mk0), rfl, hg.below.frame _, fun h => by cases h⟩

/-- PlaneWhere, as it is given -/
theorem planeWhere_proved : Rows.PlaneWhereSaid :=
  OpenClaim.holds_of_wide 10 Tryz.f10 rfl rfl rfl rfl rfl rfl rfl ⟨rfl, rfl, rfl, rfl, rfl⟩ rfl rfl rfl rfl rfl jWh_name Tryz.func10 jWh_closed jWh_inst jWh_wrap
    (fun os started H enc _ => jWh_lifted os started H enc)

end Go.Proofs.YtpdfbboagaflhaaGreat
