/- The first pair of segments that cross, as Crossing of the reference returns it; what PlaneCrossing returns: true, for every list. -/
import Derived.Test.YtpdfbboagaflhaaGreatN03
import Derived.Test.YtpdfbboagaflhaaGreatM19
import Derived.Test.YtpdfbboagaflhaaGreatM48
import Derived.Deep.RegionHeld3
import Derived.Deep.RegionWith
import Derived.BigRegion
import Derived.LoopTactic

set_option linter.unusedSimpArgs false
set_option linter.unusedVariables false
set_option maxRecDepth 100000
namespace Go.Proofs.YtpdfbboagaflhaaGreat
open Go.RowKit

set_option maxHeartbeats 4000000 in
theorem ref_checkSegs (b off n c : Nat) (l : List S4) (w : World) (hl : n ≤ 1000000000) (hw : Segs w b off n l) :
    Calls Tryz.prog 136 #[.slice (some ⟨b, off, none⟩) n c] w fun en w' => en = .returned (.int .i64 (ckSegs l)) ∧ New w w' := by
  obtain ⟨hn, hb, hcell⟩ := hw
  have HN := Lib.hid hn
  clear hn
  by_cases hm : 400 < (n : Int)
  · rw [show ckSegs l = 2 from if_pos (by rw [HN.out]; exact hm)]
    go_enter Tryz.func136, Tryz.ntmps136
    go_wp2_with fail
    all_goals (go_ret; refine ⟨rfl, ?_⟩; (repeat (first | exact New.refl _ | apply New.alloc | apply New.aft | apply New.drew | refine New.setCell ?_ ?_ _)); all_goals (first | done | (simp [size_aft]; done) | (simp [size_aft]; omega)))
  · go_enter Tryz.func136, Tryz.ntmps136
    go_wp2_with fail
    go_loopw [3] (fun i wr => ∃ k : Nat, k ≤ n ∧ i = .int .i64 k ∧ okSegs (l.take k) = true ∧ New w wr) (fun i _ => n - (intOf i).toNat)
    case atStart => exact ⟨0, Nat.zero_le _, rfl, by simp [okSegs], New.refl w⟩
    case round =>
      obtain ⟨k, hk, rfl, hok, pr, rfl⟩ := hrel
      have HOK := Lib.hid hok
      clear hok
      by_cases hlt : k < n
      · obtain ⟨c1, c2, c3, c4⟩ := hcell k hlt
        have HV := Lib.hid (ref_validSeg (q1 l k) (q2 l k) (q3 l k) (q4 l k))
        by_cases hv : okS (q1 l k) (q2 l k) (q3 l k) (q4 l k) = true
        · rw [hv] at HV
          have HVV := Lib.hid hv
          clear hv
          go_wp2_with (go_at_call 90; refine (HV.out _).mono ?_; rintro e w1 ⟨rfl, pw, rfl⟩)
          go_roundw
          case rel => exact ⟨k + 1, by omega, by go_num, by rw [okSegs_snoc l k (by rw [HN.out]; exact hlt), HOK.out, HVV.out]; rfl, by (repeat (first | exact New.refl _ | apply New.alloc | apply New.aft | apply New.drew | refine New.setCell ?_ ?_ _)); all_goals (first | done | (simp [size_aft]; done) | (simp [size_aft]; omega))⟩
          case measure => simp [intOf]; omega
        · have hv' : okS (q1 l k) (q2 l k) (q3 l k) (q4 l k) = false := by simpa using hv
          rw [hv'] at HV
          have HF := Lib.hid (okSegs_not l k (by rw [HN.out]; exact hlt) hv')
          clear hv hv'
          go_wp2_with (go_at_call 90; refine (HV.out _).mono ?_; rintro e w1 ⟨rfl, pw, rfl⟩)
          go_ret
          refine ⟨ret_int ?_, ?_⟩
          · rw [ckSegs, if_neg (by rw [HN.out]; omega), HF.out]; rfl
          · (repeat (first | exact New.refl _ | apply New.alloc | apply New.aft | apply New.drew | refine New.setCell ?_ ?_ _)); all_goals (first | done | (simp [size_aft]; done) | (simp [size_aft]; omega))
      · go_wp2_with fail
        go_ret
        refine ⟨ret_int ?_, ?_⟩
        · have h1 : okSegs l = true := by
            have := HOK.out
            rwa [List.take_of_length_le (by rw [HN.out]; omega)] at this
          rw [ckSegs, if_neg (by rw [HN.out]; omega), h1]; rfl
        · (repeat (first | exact New.refl _ | apply New.alloc | apply New.aft | apply New.drew | refine New.setCell ?_ ?_ _)); all_goals (first | done | (simp [size_aft]; done) | (simp [size_aft]; omega))

theorem ckSegs_okS {l : List S4} (h : ckSegs l = 0) (i : Nat) (hi : i < l.length) : okS (q1 l i) (q2 l i) (q3 l i) (q4 l i) = true := by
  have h2 : okSegs l = true := by
    unfold ckSegs at h
    split at h
    · cases h
    · split at h
      · assumption
      · cases h
  exact okSegs_at l i hi h2

set_option maxHeartbeats 8000000 in
theorem ref_Crossing (b off n c : Nat) (l : List S4) (w : World) (hl : n ≤ 1000000) (hw : Segs w b off n l) :
    Calls Tryz.prog 65 #[.slice (some ⟨b, off, none⟩) n c] w fun en w' => CrossIs l en ∧ New w w' := by
  have HCK := Lib.hid (ref_checkSegs b off n c l w (by omega) hw)
  have HN := Lib.hid hw.1
  have hb := hw.2.1
  have HSC := Lib.hid hw.2.2
  clear hw
  by_cases he : ckSegs l = 0
  · rw [he] at HCK
    have HE := Lib.hid he
    have HB := Lib.hid (ckSegs_okS he)
    clear he
    go_enter Tryz.func65, Tryz.ntmps65
    go_wp2_with (go_at_call 136; refine (HCK.out).mono ?_; rintro e w2 ⟨rfl, pw, rfl⟩)
    go_loopw [7] (fun i wr => ∃ k : Nat, k ≤ n ∧ i = .int .i64 k ∧ RowsFree l n k ∧ New w wr) (fun i _ => n - (intOf i).toNat)
    case atStart => exact ⟨0, Nat.zero_le _, rfl, fun i hi => absurd hi (Nat.not_lt_zero _), by (repeat (first | exact New.refl _ | apply New.alloc | apply New.aft | apply New.drew | refine New.setCell ?_ ?_ _)); all_goals (first | done | (simp [size_aft]; done) | (simp [size_aft]; omega))⟩
    case round =>
      obtain ⟨k, hk, rfl, hrows, pr, rfl⟩ := hrel
      have HR := Lib.hid hrows
      clear hrows
      by_cases hlt : k < n
      · obtain ⟨c1, c2, c3, c4⟩ := HSC.out k hlt
        have k1 := HB.out k (by rw [HN.out]; exact hlt)
        have hkn : (k : Int) < (n : Int) := by omega
        go_wp2_with fail
        go_loopw [8] (fun j wr => ∃ m : Nat, k + 1 ≤ m ∧ m ≤ n ∧ j = .int .i64 m ∧ RowFree l k m ∧ New w wr) (fun j _ => n - (intOf j).toNat)
        case atStart => exact ⟨k + 1, Nat.le_refl _, by omega, by go_num, rowFree_start _ _, by (repeat (first | exact New.refl _ | apply New.alloc | apply New.aft | apply New.drew | refine New.setCell ?_ ?_ _)); all_goals (first | done | (simp [size_aft]; done) | (simp [size_aft]; omega))⟩
        case round =>
          obtain ⟨m, hm1, hm2, rfl, hrow, po, rfl⟩ := hrel
          have HM := Lib.hid hrow
          clear hrow
          by_cases hmn : m < n
          · obtain ⟨d1, d2, d3, d4⟩ := HSC.out m hmn
            have k2 := HB.out m (by rw [HN.out]; exact hmn)
            have hmn2 : (m : Int) < (n : Int) := by omega
            obtain ⟨⟨a1, a2⟩, ⟨a3, a4⟩, _⟩ := okS_iff.1 k1
            obtain ⟨⟨e1, e2⟩, ⟨e3, e4⟩, _⟩ := okS_iff.1 k2
            have HMT := Lib.hid (fun w3 : World => ref_meet (q1 l k) (q2 l k) (q3 l k) (q4 l k) (q1 l m) (q2 l m) (q3 l m) (q4 l m) w3 a1 a2 a3 a4 e1 e2 e3 e4)
            rw [meet_eq k1 k2] at HMT
            clear a1 a2 a3 a4 e1 e2 e3 e4 k2
            by_cases h3 : meetQ l k m = 3
            · have HC := Lib.hid (show crB l k m = true by simp [crB, h3])
              rw [show meetI (q1 l k) (q2 l k) (q3 l k) (q4 l k) (q1 l m) (q2 l m) (q3 l m) (q4 l m) = 3 from h3] at HMT
              clear h3
              go_wp2_with fail
              first | refine wp_region_at2 (by kernel_rfl) (by kernel_rfl) ?_ | refine wp_region_at (by kernel_rfl) (by kernel_rfl) ?_
              repeat (go_big_quiet_step ((go_at_call 97; exact calls_new (HMT.out _))))
              refine wpQuiet_nil ?_
              rintro _ ⟨q, rfl⟩
              go_wp2_with fail
              refine bodyPost_ret (v := .tuple #[.int .i64 k, .int .i64 m, .bool true, .int .i64 0]) (by simp [results, Tryz.results65, go_sem]) rfl ⟨crossIs_yes HN.out HE.out (by omega) hmn HR.out HM.out HC.out, ?_⟩; (repeat (first | exact New.refl _ | apply New.alloc | apply New.aft | apply New.drew | refine New.setCell ?_ ?_ _)); all_goals (first | done | (simp [size_aft]; done) | (simp [size_aft]; omega))
            · by_cases h4 : meetQ l k m = 4
              · have HC := Lib.hid (show crB l k m = true by simp [crB, h4])
                rw [show meetI (q1 l k) (q2 l k) (q3 l k) (q4 l k) (q1 l m) (q2 l m) (q3 l m) (q4 l m) = 4 from h4] at HMT
                clear h3 h4
                go_wp2_with fail
                first | refine wp_region_at2 (by kernel_rfl) (by kernel_rfl) ?_ | refine wp_region_at (by kernel_rfl) (by kernel_rfl) ?_
                repeat (go_big_quiet_step ((go_at_call 97; exact calls_new (HMT.out _))))
                refine wpQuiet_nil ?_
                rintro _ ⟨q, rfl⟩
                go_wp2_with fail
                refine bodyPost_ret (v := .tuple #[.int .i64 k, .int .i64 m, .bool true, .int .i64 0]) (by simp [results, Tryz.results65, go_sem]) rfl ⟨crossIs_yes HN.out HE.out (by omega) hmn HR.out HM.out HC.out, ?_⟩; (repeat (first | exact New.refl _ | apply New.alloc | apply New.aft | apply New.drew | refine New.setCell ?_ ?_ _)); all_goals (first | done | (simp [size_aft]; done) | (simp [size_aft]; omega))
              · have HC := Lib.hid (show crB l k m = false by simp [crB, h3, h4])
                obtain ⟨M, hM⟩ : ∃ M, M = meetQ l k m := ⟨_, rfl⟩
                rw [show meetI (q1 l k) (q2 l k) (q3 l k) (q4 l k) (q1 l m) (q2 l m) (q3 l m) (q4 l m) = M from hM.symm] at HMT
                have t3 : (M == 3) = false := by rw [hM]; simpa using h3
                have t4 : (M == 4) = false := by rw [hM]; simpa using h4
                clear h3 h4 hM
                go_wp2_with fail
                first | refine wp_region_at2 (by kernel_rfl) (by kernel_rfl) ?_ | refine wp_region_at (by kernel_rfl) (by kernel_rfl) ?_
                repeat (go_big_quiet_step ((go_at_call 97; exact calls_new (HMT.out _))))
                refine wpQuiet_nil ?_
                rintro _ ⟨q, rfl⟩
                go_wp2_with fail
                go_roundw
                case rel => exact ⟨m + 1, by omega, by omega, by go_num, rowFree_succ HM.out HC.out, by (repeat (first | exact New.refl _ | apply New.alloc | apply New.aft | apply New.drew | refine New.setCell ?_ ?_ _)); all_goals (first | done | (simp [size_aft]; done) | (simp [size_aft]; omega))⟩
                case measure => simp [intOf]; omega
          · have HMN := Lib.hid (show m = n by omega)
            go_wp2_with fail
            go_roundw
            case rel => exact ⟨k + 1, by omega, by go_num, rowsFree_succ HR.out (by have := HM.out; rwa [HMN.out] at this), by (repeat (first | exact New.refl _ | apply New.alloc | apply New.aft | apply New.drew | refine New.setCell ?_ ?_ _)); all_goals (first | done | (simp [size_aft]; done) | (simp [size_aft]; omega))⟩
            case measure => simp [intOf]; omega
      · have HKN := Lib.hid (show k = n by omega)
        go_wp2_with fail
        refine bodyPost_ret (v := .tuple #[.int .i64 0, .int .i64 0, .bool false, .int .i64 0]) (by simp [results, Tryz.results65, go_sem]) rfl ⟨crossIs_no HN.out HE.out (by have := HR.out; rwa [HKN.out] at this), ?_⟩; (repeat (first | exact New.refl _ | apply New.alloc | apply New.aft | apply New.drew | refine New.setCell ?_ ?_ _)); all_goals (first | done | (simp [size_aft]; done) | (simp [size_aft]; omega))
  · have he1 : (ckSegs l == 0) = false := by simpa using he
    have he2 : (ckSegs l != 0) = true := by simpa using he
    have HER := Lib.hid (crossIs_err rfl he)
    clear he
    go_enter Tryz.func65, Tryz.ntmps65
    go_wp2_with (go_at_call 136; refine (HCK.out).mono ?_; rintro e w2 ⟨rfl, pw, rfl⟩)
    refine bodyPost_ret (v := .tuple #[.int .i64 0, .int .i64 0, .bool false, .int .i64 (ckSegs l)]) (by simp [results, Tryz.results65, go_sem]) rfl ⟨HER.out, ?_⟩; (repeat (first | exact New.refl _ | apply New.alloc | apply New.aft | apply New.drew | refine New.setCell ?_ ?_ _)); all_goals (first | done | (simp [size_aft]; done) | (simp [size_aft]; omega))

/-- there is one answer alone -/
theorem CrossIs.val {l : List S4} : ∃ i j f e, ∀ en, CrossIs l en → en = .returned (.tuple #[.int .i64 i, .int .i64 j, .bool f, .int .i64 e]) := by
  by_cases he : ckSegs l = 0
  · by_cases hr : RowsFree l l.length l.length
    · refine ⟨0, 0, false, 0, fun en h => ?_⟩
      rcases h with ⟨h1, h2⟩ | ⟨_, _, h2⟩ | ⟨_, i, j, h1, h2, h3, h4, h5, h6⟩
      · exact absurd he h1
      · exact h2
      · have := hr i (by omega) j h1 h2
        rw [this] at h5; cases h5
    · by_cases hx : ∃ i j : Nat, i < j ∧ j < l.length ∧ RowsFree l l.length i ∧ RowFree l i j ∧ crB l i j = true
      · obtain ⟨i, j, h1, h2, h3, h4, h5⟩ := hx
        refine ⟨(i : Int), (j : Int), true, 0, fun en h => ?_⟩
        rcases h with ⟨k1, k2⟩ | ⟨_, k1, k2⟩ | ⟨_, i', j', k1, k2, k3, k4, k5, k6⟩
        · exact absurd he k1
        · exact absurd k1 hr
        · have hi : i' = i := by
            rcases Nat.lt_trichotomy i' i with hh | hh | hh
            · have := h3 i' hh j' k1 k2; rw [this] at k5; cases k5
            · exact hh
            · have := k3 i hh j h1 h2; rw [this] at h5; cases h5
          subst hi
          have hj : j' = j := by
            rcases Nat.lt_trichotomy j' j with hh | hh | hh
            · have := h4 j' k1 hh; rw [this] at k5; cases k5
            · exact hh
            · have := k4 j h1 hh; rw [this] at h5; cases h5
          subst hj
          exact k6
      · refine ⟨0, 0, false, 0, fun en h => ?_⟩
        rcases h with ⟨k1, k2⟩ | ⟨_, k1, k2⟩ | ⟨_, i', j', k1, k2, k3, k4, k5, k6⟩
        · exact absurd he k1
        · exact k2
        · exact absurd ⟨i', j', k1, k2, k3, k4, k5⟩ hx
  · refine ⟨0, 0, false, ckSegs l, fun en h => ?_⟩
    rcases h with ⟨k1, k2⟩ | ⟨k0, k1, k2⟩ | ⟨k0, i', j', k1, k2, k3, k4, k5, k6⟩
    · exact k2
    · exact absurd k0 he
    · exact absurd k0 he

set_option maxHeartbeats 1000000 in
theorem crossing_nil (v : Option Addr) (c : Nat) (w : World) : Calls Tryz.prog 64 #[.slice v 0 c] w fun en w' => en = .returned (.tuple #[.int .i64 0, .int .i64 0, .bool false, .int .i64 0]) ∧ New w w' := by
  have HC := Lib.hid (show ∀ w1 : World, Calls Tryz.prog 135 #[.slice v 0 c] w1 fun en w' => en = .returned (.int .i64 0) ∧ New w1 w' from fun w1 => by
    go_enter Tryz.func135, Tryz.ntmps135
    go_wp2_with fail
    refine wp_loop_rounds 1 ?_
    repeat any_goals (rw [rounds_succ]; go_wp2)
    go_ret; exact ⟨rfl, New.refl _⟩)
  go_enter Tryz.func64, Tryz.ntmps64
  go_wp2_with (go_at_call 135; refine (HC.out _).mono ?_; rintro e w1 ⟨rfl, pw, rfl⟩)
  refine wp_loop_rounds 1 ?_
  repeat any_goals (rw [rounds_succ]; go_wp2)
  refine bodyPost_ret (v := .tuple #[.int .i64 0, .int .i64 0, .bool false, .int .i64 0]) (by simp [results, Tryz.results64, go_sem]) rfl ⟨rfl, ?_⟩; (repeat (first | exact New.refl _ | apply New.alloc | apply New.aft | apply New.drew | refine New.setCell ?_ ?_ _)); all_goals (first | done | (simp [size_aft]; done) | (simp [size_aft]; omega))
set_option maxHeartbeats 1000000 in
theorem ref_crossing_nil (v : Option Addr) (c : Nat) (w : World) : Calls Tryz.prog 65 #[.slice v 0 c] w fun en w' => en = .returned (.tuple #[.int .i64 0, .int .i64 0, .bool false, .int .i64 0]) ∧ New w w' := by
  have HC := Lib.hid (show ∀ w1 : World, Calls Tryz.prog 136 #[.slice v 0 c] w1 fun en w' => en = .returned (.int .i64 0) ∧ New w1 w' from fun w1 => by
    go_enter Tryz.func136, Tryz.ntmps136
    go_wp2_with fail
    refine wp_loop_rounds 1 ?_
    repeat any_goals (rw [rounds_succ]; go_wp2)
    go_ret; exact ⟨rfl, New.refl _⟩)
  go_enter Tryz.func65, Tryz.ntmps65
  go_wp2_with (go_at_call 136; refine (HC.out _).mono ?_; rintro e w1 ⟨rfl, pw, rfl⟩)
  refine wp_loop_rounds 1 ?_
  repeat any_goals (rw [rounds_succ]; go_wp2)
  refine bodyPost_ret (v := .tuple #[.int .i64 0, .int .i64 0, .bool false, .int .i64 0]) (by simp [results, Tryz.results65, go_sem]) rfl ⟨rfl, ?_⟩; (repeat (first | exact New.refl _ | apply New.alloc | apply New.aft | apply New.drew | refine New.setCell ?_ ?_ _)); all_goals (first | done | (simp [size_aft]; done) | (simp [size_aft]; omega))

set_option maxHeartbeats 4000000 in
theorem crossing_of (v : Option Addr) (n c : Nat) (I J E : Int) (O : Bool) (w : World)
    (HA : Hid (∀ w1 : World, New w w1 → Calls Tryz.prog 64 #[.slice v n c] w1 fun en w' => en = .returned (.tuple #[.int .i64 I, .int .i64 J, .bool O, .int .i64 E]) ∧ New w1 w'))
    (HB : Hid (∀ w1 : World, New w w1 → Calls Tryz.prog 65 #[.slice v n c] w1 fun en w' => en = .returned (.tuple #[.int .i64 I, .int .i64 J, .bool O, .int .i64 E]) ∧ New w1 w')) :
    Calls Tryz.prog 15 #[.slice v n c] w fun e w' => e = .returned (.bool true) ∧ New w w' := by
  have HL := Lib.hid alive_c
  have t1 : (I == I) = true := by simp
  have t2 : (J == J) = true := by simp
  have t3 : (E == E) = true := by simp
  have t4 : (O == O) = true := by simp
  have hcase : (n ≤ 60) ∨ (60 < n ∧ n ≤ 400) ∨ (400 < n ∧ n ≤ 500) ∨ 500 < n := by omega
  rcases hcase with h | ⟨h, h'⟩ | ⟨h, h'⟩ | h
  all_goals
    have d1 : ((60 : Int) < (n : Int)) ↔ (60 < n) := by omega
    go_enter Tryz.func15, Tryz.ntmps15
    go_wp2_with (first | (go_at_call 31; refine (HL.out _).mono ?_; rintro e w1 ⟨rfl, pw, rfl⟩) | (go_at_call 64; refine (HA.out _ (by (repeat (first | exact New.refl _ | apply New.alloc | apply New.aft | apply New.drew | refine New.setCell ?_ ?_ _)); all_goals (first | done | (simp [size_aft]; done) | (simp [size_aft]; omega)))).mono ?_; rintro e w1 ⟨rfl, pw, rfl⟩) | (go_at_call 65; refine (HB.out _ (by (repeat (first | exact New.refl _ | apply New.alloc | apply New.aft | apply New.drew | refine New.setCell ?_ ?_ _)); all_goals (first | done | (simp [size_aft]; done) | (simp [size_aft]; omega)))).mono ?_; rintro e w1 ⟨rfl, pw, rfl⟩))
    all_goals (try (exfalso; omega))
    all_goals (go_ret; refine ⟨ret_bool (by simp), ?_⟩; (repeat (first | exact New.refl _ | apply New.alloc | apply New.aft | apply New.drew | refine New.setCell ?_ ?_ _)); all_goals (first | done | (simp [size_aft]; done) | (simp [size_aft]; omega)))

theorem planeCrossing_all (w : World) (av : Option Addr) (n c : Nat) (l : List S4) (hl : l.length = n) (hp : 0 < n → ∃ b off, av = some ⟨b, off, none⟩ ∧ Segs w b off n l) : Calls Tryz.prog 15 #[.slice av n c] w fun e w' => e = .returned (.bool true) ∧ New w w' := by
  by_cases h0 : 0 < n
  · obtain ⟨b, off, rfl, hw⟩ := hp h0
    by_cases hm : n ≤ 1000000
    · obtain ⟨i, j, f, e, hv⟩ := CrossIs.val (l := l)
      exact crossing_of _ n c i j e f w (Lib.hid (fun w1 h1 => (Crossing_c b off n c l w1 hm (hw.new h1)).mono fun en w' ⟨h2, h3⟩ => ⟨hv en h2, h3⟩)) (Lib.hid (fun w1 h1 => (ref_Crossing b off n c l w1 hm (hw.new h1)).mono fun en w' ⟨h2, h3⟩ => ⟨hv en h2, h3⟩))
    · have HL := Lib.hid alive_c
      have hn2 : (500 : Int) < (n : Int) := by omega
      have hn3 : (60 : Int) < (n : Int) := by omega
      have hn4 : ¬ (n : Int) ≤ 400 := by omega
      go_enter Tryz.func15, Tryz.ntmps15
      go_wp2_with (go_at_call 31; refine (HL.out _).mono ?_; rintro e w1 ⟨rfl, pw, rfl⟩)
      all_goals (go_ret; refine ⟨ret_bool (by simp), ?_⟩; (repeat (first | exact New.refl _ | apply New.alloc | apply New.aft | apply New.drew | refine New.setCell ?_ ?_ _)); all_goals (first | done | (simp [size_aft]; done) | (simp [size_aft]; omega)))
  · obtain rfl : n = 0 := by omega
    exact crossing_of av 0 c 0 0 0 false w (Lib.hid (fun w1 _ => crossing_nil av c w1)) (Lib.hid (fun w1 _ => ref_crossing_nil av c w1))

end Go.Proofs.YtpdfbboagaflhaaGreat
