/- Pairs in cells; comparePairs, arePairs, and whether a pair falls, as Check asks. Lists of any length that memory takes. · Check of a problem. Lists of any length that memory takes. -/
import Derived.Test.YtiejefehcpfkaaaDoorSc

section
set_option linter.unusedSimpArgs false
set_option linter.unusedVariables false
set_option maxRecDepth 100000
namespace Go.Proofs.YtiejefehcpfkaaaDoor
open Go.RowKit

abbrev prv (a b : Int) : Value := .agg #[.int .i64 a, .int .i64 b]
theorem cmp_lt {a b : Int} (h : a < b) : cmpI a b = -1 := if_pos h
theorem cmp_gt {a b : Int} (h : b < a) : cmpI a b = 1 := by unfold cmpI; rw [if_neg (by omega), if_pos h]
theorem cmp_eq (a : Int) : cmpI a a = 0 := by unfold cmpI; rw [if_neg (by omega), if_neg (by omega)]
def orI (a b : Int) : Int := if a = 0 then b else a
set_option maxHeartbeats 1000000 in
theorem isNaN_c (x : Int) (w : World) : Calls Tryd.prog 137 #[.int .i64 x] w fun e w' => e = .returned (.bool false) ∧ New w w' := by
  go_enter Tryd.func137, Tryd.ntmps137
  go_wp2_with fail
  go_ret
  exact ⟨ret_bool (by simp), New.refl _⟩
set_option maxHeartbeats 1000000 in
theorem compare_c (x y : Int) (w : World) : Calls Tryd.prog 78 #[.int .i64 x, .int .i64 y] w fun e w' => e = .returned (.int .i64 (cmpI x y)) ∧ New w w' := by
  rcases Int.lt_trichotomy x y with h | h | h
  · rw [cmp_lt h]
    go_enter Tryd.func78, Tryd.ntmps78
    go_wp2_with (go_at_call 137; refine (isNaN_c _ _).mono ?_; rintro e w1 ⟨rfl, pw, rfl⟩)
    go_ret; refine ⟨rfl, ?_⟩; (repeat (first | exact New.refl _ | apply New.alloc | apply New.aft | apply New.drew | refine New.setCell ?_ ?_ _))
  · subst h
    rw [cmp_eq]
    go_enter Tryd.func78, Tryd.ntmps78
    go_wp2_with (go_at_call 137; refine (isNaN_c _ _).mono ?_; rintro e w1 ⟨rfl, pw, rfl⟩)
    go_ret; refine ⟨rfl, ?_⟩; (repeat (first | exact New.refl _ | apply New.alloc | apply New.aft | apply New.drew | refine New.setCell ?_ ?_ _))
  · rw [cmp_gt h]
    have h2 : ¬ x < y := by omega
    go_enter Tryd.func78, Tryd.ntmps78
    go_wp2_with (go_at_call 137; refine (isNaN_c _ _).mono ?_; rintro e w1 ⟨rfl, pw, rfl⟩)
    go_ret; refine ⟨rfl, ?_⟩; (repeat (first | exact New.refl _ | apply New.alloc | apply New.aft | apply New.drew | refine New.setCell ?_ ?_ _))
set_option maxHeartbeats 2000000 in
theorem or_c (a b : Int) (g : Nat) (w : World) (h0 : w.cell? ⟨g, 0, none⟩ = some (.int .i64 a)) (h1 : w.cell? ⟨g, 1, none⟩ = some (.int .i64 b)) : Calls Tryd.prog 135 #[.slice (some ⟨g, 0, none⟩) 2 2] w fun e w' => e = .returned (.int .i64 (orI a b)) ∧ New w w' := by
  by_cases ha : a = 0
  · subst ha
    by_cases hb : b = 0
    · subst hb
      rw [show orI 0 0 = 0 from rfl]
      go_enter Tryd.func135, Tryd.ntmps135
      go_wp2
      refine wp_loop_rounds 3 ?_
      repeat any_goals (rw [rounds_succ]; go_wp2)
      go_ret; refine ⟨rfl, ?_⟩; (repeat (first | exact New.refl _ | apply New.alloc | apply New.aft | apply New.drew | refine New.setCell ?_ ?_ _)); all_goals (first | done | (simp [size_aft]; done) | (simp [size_aft]; omega))
    · rw [show orI 0 b = b from by simp [orI]]
      have hb' : (b == 0) = false := by simpa using hb
      have hb2 : (b != 0) = true := by simpa using hb
      clear hb
      go_enter Tryd.func135, Tryd.ntmps135
      go_wp2
      refine wp_loop_rounds 3 ?_
      repeat any_goals (rw [rounds_succ]; go_wp2)
      go_ret; refine ⟨rfl, ?_⟩; (repeat (first | exact New.refl _ | apply New.alloc | apply New.aft | apply New.drew | refine New.setCell ?_ ?_ _)); all_goals (first | done | (simp [size_aft]; done) | (simp [size_aft]; omega))
  · rw [show orI a b = a from by simp [orI, ha]]
    have ha' : (a == 0) = false := by simpa using ha
    have ha2 : (a != 0) = true := by simpa using ha
    clear ha
    go_enter Tryd.func135, Tryd.ntmps135
    go_wp2
    refine wp_loop_rounds 3 ?_
    repeat any_goals (rw [rounds_succ]; go_wp2)
    go_ret; refine ⟨rfl, ?_⟩; (repeat (first | exact New.refl _ | apply New.alloc | apply New.aft | apply New.drew | refine New.setCell ?_ ?_ _)); all_goals (first | done | (simp [size_aft]; done) | (simp [size_aft]; omega))

set_option maxHeartbeats 4000000 in
theorem comparePairs_c (ax ay bx by' : Int) (w : World) : Calls Tryd.prog 116 #[prv ax ay, prv bx by'] w fun e w' => e = .returned (.int .i64 (orI (cmpI ax bx) (cmpI ay by'))) ∧ New w w' := by
  go_enter Tryd.func116, Tryd.ntmps116
  go_wp2_with fail
  go_region_held3 (fun w' => w'.cell? ⟨w.heap.size, 0, none⟩ = some (.int .i64 ax) ∧ w'.cell? ⟨w.heap.size, 1, none⟩ = some (.int .i64 ay) ∧ w'.cell? ⟨w.heap.size + 1, 0, none⟩ = some (.int .i64 bx) ∧ w'.cell? ⟨w.heap.size + 1, 1, none⟩ = some (.int .i64 by')) (first | (simp [go_sem]; done) | (simp [go_sem, *]; done) | (go_keep; done))
    (first | (go_at_call 78; refine (compare_c _ _ _).mono ?_; rintro e w1 ⟨rfl, pw, rfl⟩) | (go_at_call 135; refine (or_c (cmpI ax bx) (cmpI ay by') _ _ ?_ ?_).mono ?_; simp [go_sem]; simp [go_sem]; rintro e w1 ⟨rfl, pw, rfl⟩))
  all_goals (go_wp2_with fail)
  all_goals (go_ret; refine ⟨rfl, ?_⟩; (repeat (first | exact New.refl _ | apply New.alloc | apply New.aft | apply New.drew | refine New.setCell ?_ ?_ _)); all_goals (first | done | (simp [size_aft]; done) | (simp [size_aft]; omega)))
/-- (a, b) stands before (c, d) -/
def ltP (a b c d : Int) : Bool := decide (a < c) || (decide (a = c) && decide (b < d))
theorem ltP_or (a b c d : Int) : ltP a b c d = !decide (orI (cmpI a c) (cmpI b d) ≥ 0) := by
  unfold ltP
  rcases Int.lt_trichotomy a c with h | h | h
  · rw [cmp_lt h]; simp [orI, h]
  · subst h; rw [cmp_eq]
    rcases Int.lt_trichotomy b d with h | h | h
    · rw [cmp_lt h]; simp [orI, h]
    · subst h; rw [cmp_eq]; simp [orI]
    · rw [cmp_gt h]; simp [orI]; omega
  · rw [cmp_gt h]; simp [orI]; omega

def pA (L : List (Int × Int)) (i : Nat) : Int := (L.getD i (0, 0)).1
def pB (L : List (Int × Int)) (i : Nat) : Int := (L.getD i (0, 0)).2
/-- v is a slice of the pairs L -/
def Prs (w : World) (av : Option Addr) (L : List (Int × Int)) : Prop := 0 < L.length → ∃ b off, av = some ⟨b, off, none⟩ ∧ b < w.heap.size ∧ ∀ i, i < L.length → w.cell? ⟨b, off + i * 2, none⟩ = some (.int .i64 (pA L i)) ∧ w.cell? ⟨b, off + i * 2 + 1, none⟩ = some (.int .i64 (pB L i))
theorem Prs.new {w w' : World} {av : Option Addr} {L : List (Int × Int)} (h : Prs w av L) (hn : New w w') : Prs w' av L := fun h0 => by
  obtain ⟨b, off, e, hb, hc⟩ := h h0
  exact ⟨b, off, e, Nat.lt_of_lt_of_le hb hn.size, fun i hi => by rw [hn.cell hb, hn.cell hb]; exact hc i hi⟩
theorem all_snoc (f : Nat → Bool) (k : Nat) : (List.range (k + 1)).all f = ((List.range k).all f && f k) := by
  rw [List.range_succ, List.all_append]; simp
theorem all_miss {f : Nat → Bool} {k n : Nat} (h : k < n) (e : f k = false) : (List.range n).all f = false := by
  rw [Bool.eq_false_iff]; intro g
  have := List.all_eq_true.1 g k (List.mem_range.2 h)
  rw [e] at this; cases this
/-- the pair i is one of different places below n, and stands behind the one before it -/
def okA (n : Int) (L : List (Int × Int)) (i : Nat) : Bool := (decide (0 ≤ pA L i) && decide (pA L i < n)) && (decide (0 ≤ pB L i) && decide (pB L i < n)) && !decide (pA L i = pB L i) && (decide (i = 0) || ltP (pA L (i - 1)) (pB L (i - 1)) (pA L i) (pB L i))
def arB (n : Int) (L : List (Int × Int)) : Bool := (List.range L.length).all (okA n L)

set_option maxHeartbeats 16000000 in
theorem arePairs_c (n : Int) (av : Option Addr) (cap : Nat) (L : List (Int × Int)) (w : World) (hl : L.length ≤ 17592186044415) (hP : Prs w av L) :
    Calls Tryd.prog 71 #[.int .i64 n, .slice av L.length cap] w fun en w' => en = .returned (.bool (arB n L)) ∧ New w w' := by
  obtain ⟨N, hN⟩ : ∃ N, N = L.length := ⟨_, rfl⟩
  have HP := Lib.hid hP
  have HR := Lib.hid (show arB n L = (List.range N).all (okA n L) by rw [hN]; rfl)
  have HO := Lib.hid (show ∀ i, okA n L i = ((decide (0 ≤ pA L i) && decide (pA L i < n)) && (decide (0 ≤ pB L i) && decide (pB L i < n)) && !decide (pA L i = pB L i) && (decide (i = 0) || ltP (pA L (i - 1)) (pB L (i - 1)) (pA L i) (pB L i))) from fun _ => rfl)
  have HNL := Lib.hid hN
  rw [← hN] at hl ⊢
  clear hP hN
  generalize arB n L = R at *
  generalize okA n L = ok at *
  go_enter Tryd.func71, Tryd.ntmps71
  go_wp2_with fail
  go_loopw [9] (fun i wr => ∃ k : Nat, k ≤ N ∧ i = .int .i64 k ∧ (List.range k).all ok = true ∧ New w wr) (fun i _ => N - (intOf i).toNat)
  case atStart => exact ⟨0, Nat.zero_le _, rfl, rfl, New.refl _⟩
  case round =>
    obtain ⟨k, hk, rfl, hall, hnew⟩ := hrel
    obtain ⟨U1, rfl⟩ : ∃ U1 : World, U1 = wr := ⟨_, rfl⟩
    have HALL := Lib.hid hall
    have HNEW := Lib.hid hnew
    clear hall hnew
    by_cases hlt : k < N
    · obtain ⟨b, off, rfl, gl, hcc⟩ := HP.out.new HNEW.out (by rw [← HNL.out]; omega)
      obtain ⟨c1, c2⟩ := hcc k (by rw [← HNL.out]; omega)
      have hk1 : (k : Int) < (N : Int) := by omega
      have HOk := Lib.hid (HO.out k)
      have HSN := Lib.hid (all_snoc ok k)
      have HMS := Lib.hid (fun (e : ok k = false) => (by rw [HR.out, all_miss hlt e] : R = false))
      have HPR := Lib.hid (fun (h : 0 < k) => hcc (k - 1) (by rw [← HNL.out]; omega))
      clear hcc
      generalize pA L k = x at *
      generalize pB L k = y at *
      by_cases u1 : x < 0
      · have HF := Lib.hid (show false = R from (HMS.out (by rw [HOk.out, decide_eq_false (show ¬ 0 ≤ x by omega)]; simp)).symm)
        go_wp2_with fail
        all_goals (go_ret; exact ⟨ret_bool HF.out, (by (repeat (first | exact HNEW.out | exact New.refl _ | apply New.alloc | apply New.aft | apply New.drew | refine New.setCell ?_ ?_ _)); all_goals (first | done | (simp [size_aft]; done) | (simp [size_aft]; omega) | (have := HNEW.out.size; simp [size_aft]; omega)))⟩)
      · skip
        by_cases u2 : n ≤ x
        · have HF := Lib.hid (show false = R from (HMS.out (by rw [HOk.out, decide_eq_false (show ¬ x < n by omega)]; simp)).symm)
          go_wp2_with fail
          all_goals (go_ret; exact ⟨ret_bool HF.out, (by (repeat (first | exact HNEW.out | exact New.refl _ | apply New.alloc | apply New.aft | apply New.drew | refine New.setCell ?_ ?_ _)); all_goals (first | done | (simp [size_aft]; done) | (simp [size_aft]; omega) | (have := HNEW.out.size; simp [size_aft]; omega)))⟩)
        · skip
          by_cases u3 : y < 0
          · have HF := Lib.hid (show false = R from (HMS.out (by rw [HOk.out, decide_eq_false (show ¬ 0 ≤ y by omega)]; simp)).symm)
            go_wp2_with fail
            all_goals (go_ret; exact ⟨ret_bool HF.out, (by (repeat (first | exact HNEW.out | exact New.refl _ | apply New.alloc | apply New.aft | apply New.drew | refine New.setCell ?_ ?_ _)); all_goals (first | done | (simp [size_aft]; done) | (simp [size_aft]; omega) | (have := HNEW.out.size; simp [size_aft]; omega)))⟩)
          · skip
            by_cases u4 : n ≤ y
            · have HF := Lib.hid (show false = R from (HMS.out (by rw [HOk.out, decide_eq_false (show ¬ y < n by omega)]; simp)).symm)
              go_wp2_with fail
              all_goals (go_ret; exact ⟨ret_bool HF.out, (by (repeat (first | exact HNEW.out | exact New.refl _ | apply New.alloc | apply New.aft | apply New.drew | refine New.setCell ?_ ?_ _)); all_goals (first | done | (simp [size_aft]; done) | (simp [size_aft]; omega) | (have := HNEW.out.size; simp [size_aft]; omega)))⟩)
            · skip
              by_cases u5 : x = y
              · have HF := Lib.hid (show false = R from (HMS.out (by rw [HOk.out, decide_eq_true u5]; simp)).symm)
                have u5' : (x == y) = true := by simpa using u5
                clear u5
                go_wp2_with fail
                all_goals (go_ret; exact ⟨ret_bool HF.out, (by (repeat (first | exact HNEW.out | exact New.refl _ | apply New.alloc | apply New.aft | apply New.drew | refine New.setCell ?_ ?_ _)); all_goals (first | done | (simp [size_aft]; done) | (simp [size_aft]; omega) | (have := HNEW.out.size; simp [size_aft]; omega)))⟩)
              · have u5' : (x == y) = false := by simpa using u5
                have HOK := Lib.hid (show ok k = (decide (k = 0) || ltP (pA L (k - 1)) (pB L (k - 1)) x y) by rw [HOk.out, decide_eq_true (show 0 ≤ x by omega), decide_eq_true (show x < n by omega), decide_eq_true (show 0 ≤ y by omega), decide_eq_true (show y < n by omega), decide_eq_false u5]; simp)
                clear u5
                by_cases k0 : k = 0
                · subst k0
                  have HV := Lib.hid (show ok 0 = true by rw [HOK.out]; rfl)
                  simp only [Nat.zero_mul, Nat.add_zero] at c1 c2
                  go_upto_region 6 with fail
                  first | refine wp_region_at2 (by kernel_rfl) (by kernel_rfl) ?_ | refine wp_region_at (by kernel_rfl) (by kernel_rfl) ?_
                  repeat (go_big_quiet_step (fail))
                  refine wpQuiet_nil ?_
                  rintro U3 hq3
                  have HN3 := Lib.hid (show New (U1.alloc (.cells #[.int .i64 x, .int .i64 y] 67)) U3 from hq3)
                  clear hq3
                  go_wp2_with fail
                  go_roundw
                  case rel => exact ⟨1, by omega, by go_num, by rw [HSN.out, HALL.out, HV.out]; rfl, HNEW.out.trans (((New.refl _).alloc _).trans HN3.out)⟩
                  case measure => simp [intOf]; omega
                · obtain ⟨q, rfl⟩ : ∃ q, k = q + 1 := ⟨k - 1, by omega⟩
                  obtain ⟨d1, d2⟩ := HPR.out (by omega)
                  simp only [Nat.add_sub_cancel] at d1 d2 HOK
                  rw [decide_eq_false k0, Bool.false_or, ltP_or] at HOK
                  have e1 : ((q + 1 : Nat) : Int) - 1 = (q : Int) := by omega
                  have q1 : (0 : Int) < ((q + 1 : Nat) : Int) := by omega
                  have q2 : (q : Int) < (N : Int) := by omega
                  have HCP := Lib.hid (fun (w1 : World) => comparePairs_c (pA L q) (pB L q) x y w1)
                  generalize pA L q = x0 at *
                  generalize pB L q = y0 at *
                  generalize orI (cmpI x0 x) (cmpI y0 y) = cv at *
                  go_upto_region 6 with fail
                  have HN2 := Lib.hid (show New U1 (U1.alloc (.cells #[.int .i64 x, .int .i64 y] 67)) from (New.refl U1).alloc _)
                  have g0 : (U1.alloc (.cells #[.int .i64 x, .int .i64 y] 67)).cell? ⟨U1.heap.size, 0, none⟩ = some (.int .i64 x) := by simp [go_sem]
                  have g1 : (U1.alloc (.cells #[.int .i64 x, .int .i64 y] 67)).cell? ⟨U1.heap.size, 1, none⟩ = some (.int .i64 y) := by simp [go_sem]
                  have g2 : U1.heap.size < (U1.alloc (.cells #[.int .i64 x, .int .i64 y] 67)).heap.size := by simp
                  have g3 : (U1.alloc (.cells #[.int .i64 x, .int .i64 y] 67)).cell? ⟨b, off + q * 2, none⟩ = some (.int .i64 x0) := by rw [HN2.out.cell gl]; exact d1
                  have g4 : (U1.alloc (.cells #[.int .i64 x, .int .i64 y] 67)).cell? ⟨b, off + q * 2 + 1, none⟩ = some (.int .i64 y0) := by rw [HN2.out.cell gl]; exact d2
                  have g5 : b < (U1.alloc (.cells #[.int .i64 x, .int .i64 y] 67)).heap.size := by have := HN2.out.size; omega
                  clear c1 c2 d1 d2
                  generalize U1.alloc (.cells #[.int .i64 x, .int .i64 y] 67) = U2 at *
                  first | refine wp_region_at2 (by kernel_rfl) (by kernel_rfl) ?_ | refine wp_region_at (by kernel_rfl) (by kernel_rfl) ?_
                  repeat (go_big_quiet_step (first | (go_at_call 116; (with_reducible exact calls_new (HCP.out _)))))
                  refine wpQuiet_nil ?_
                  rintro U3 hq3
                  have HN3 := Lib.hid (show New U2 U3 from hq3)
                  clear hq3 g0 g1 g2 g3 g4 g5
                  by_cases hc : cv ≥ 0
                  · have HF := Lib.hid (show false = R from (HMS.out (by rw [HOK.out, decide_eq_true hc]; rfl)).symm)
                    have hc' : decide (cv ≥ 0) = true := decide_eq_true hc
                    go_wp2_with fail
                    go_ret
                    exact ⟨ret_bool HF.out, HNEW.out.trans (HN2.out.trans HN3.out)⟩
                  · have HV := Lib.hid (show ok (q + 1) = true by rw [HOK.out, decide_eq_false hc]; rfl)
                    have hc' : decide (cv ≥ 0) = false := decide_eq_false hc
                    go_wp2_with fail
                    go_roundw
                    case rel => exact ⟨q + 1 + 1, by omega, by go_num, by rw [HSN.out, HALL.out, HV.out]; rfl, HNEW.out.trans (HN2.out.trans HN3.out)⟩
                    case measure => simp [intOf]; omega
    · obtain rfl : N = k := by omega
      have HF := Lib.hid (show true = R by rw [HR.out, HALL.out])
      go_wp2_with fail
      go_ret
      exact ⟨ret_bool HF.out, HNEW.out⟩
end Go.Proofs.YtiejefehcpfkaaaDoor
end

section
set_option linter.unusedSimpArgs false
set_option linter.unusedVariables false
set_option maxRecDepth 100000
namespace Go.Proofs.YtiejefehcpfkaaaDoor
open Go.RowKit

set_option maxHeartbeats 1000000 in
theorem falls_c (a b : Int) (w : World) : Calls Tryd.prog 73 #[prv a b] w fun e w' => e = .returned (.bool (decide (a > b))) ∧ New w w' := by
  go_enter Tryd.func73, Tryd.ntmps73
  go_wp2_with fail
  go_ret
  exact ⟨rfl, (by (repeat (first | exact New.refl _ | apply New.alloc | apply New.aft | apply New.drew | refine New.setCell ?_ ?_ _)))⟩
/-- the pair i falls -/
def fal (L : List (Int × Int)) (i : Nat) : Bool := decide (pA L i > pB L i)
/-- whether a pair falls -/
def falB (L : List (Int × Int)) : Bool := (List.range L.length).any (fal L)
theorem any_hit {f : Nat → Bool} {k n : Nat} (h : k < n) (e : f k = true) : (List.range n).any f = true := List.any_eq_true.2 ⟨k, List.mem_range.2 h, e⟩

set_option maxHeartbeats 8000000 in
theorem indexFunc_c (av : Option Addr) (cap : Nat) (L : List (Int × Int)) (w : World) (hl : L.length ≤ 17592186044415) (hP : Prs w av L) :
    Calls Tryd.prog 133 #[.slice av L.length cap, .func (.func 73) #[] #[]] w fun en w' => (∃ i : Int, en = .returned (.int .i64 i) ∧ decide (i ≥ 0) = falB L) ∧ New w w' := by
  obtain ⟨N, hN⟩ : ∃ N, N = L.length := ⟨_, rfl⟩
  have HP := Lib.hid hP
  have HR := Lib.hid (show falB L = (List.range N).any (fal L) by rw [hN]; rfl)
  have HO := Lib.hid (show ∀ i, fal L i = decide (pA L i > pB L i) from fun _ => rfl)
  have HNL := Lib.hid hN
  rw [← hN] at hl ⊢
  clear hP hN
  generalize falB L = R at *
  generalize fal L = ok at *
  go_enter Tryd.func133, Tryd.ntmps133
  go_wp2_with fail
  go_loopw [8] (fun i wr => ∃ k : Nat, k ≤ N ∧ i = .int .i64 k ∧ (List.range k).any ok = false ∧ New w wr) (fun i _ => N - (intOf i).toNat)
  case atStart => exact ⟨0, Nat.zero_le _, rfl, rfl, New.refl _⟩
  case round =>
    obtain ⟨k, hk, rfl, hall, hnew⟩ := hrel
    have HALL := Lib.hid hall
    have HNEW := Lib.hid hnew
    clear hall hnew
    by_cases hlt : k < N
    · obtain ⟨b, off, rfl, gl, hcc⟩ := HP.out.new HNEW.out (by rw [← HNL.out]; omega)
      obtain ⟨c1, c2⟩ := hcc k (by rw [← HNL.out]; omega)
      have hk1 : (k : Int) < (N : Int) := by omega
      have HOk := Lib.hid (HO.out k)
      have HSN := Lib.hid (any_snoc ok k)
      have HMS := Lib.hid (fun (e : ok k = true) => (by rw [HR.out, any_hit hlt e] : R = true))
      have HFA := Lib.hid (fun w1 : World => falls_c (pA L k) (pB L k) w1)
      clear hcc
      generalize pA L k = x at *
      generalize pB L k = y at *
      cases hd : decide (x > y)
      · rw [hd] at HOk HFA
        have HD := Lib.hid hd
        clear hd
        go_wp2_with (go_at_call 73; refine (HFA.out _).mono ?_; rintro e w6 ⟨rfl, n6⟩)
        go_roundw
        case rel => exact ⟨k + 1, by omega, by go_num, by rw [HSN.out, HALL.out, HOk.out]; rfl, HNEW.out.trans n6⟩
        case measure => simp [intOf]; omega
      · rw [hd] at HOk HFA
        have HD := Lib.hid hd
        clear hd
        go_wp2_with (go_at_call 73; refine (HFA.out _).mono ?_; rintro e w6 ⟨rfl, n6⟩)
        go_ret
        exact ⟨⟨_, rfl, by rw [HMS.out HOk.out]; exact decide_eq_true (by omega)⟩, HNEW.out.trans n6⟩
    · obtain rfl : N = k := by omega
      have HF := Lib.hid (show R = false by rw [HR.out, HALL.out])
      go_wp2_with fail
      go_ret
      exact ⟨⟨_, rfl, by rw [HF.out]; rfl⟩, HNEW.out⟩

set_option maxHeartbeats 4000000 in
theorem containsFunc_c (av : Option Addr) (cap : Nat) (L : List (Int × Int)) (w : World) (hl : L.length ≤ 17592186044415) (hP : Prs w av L) :
    Calls Tryd.prog 72 #[.slice av L.length cap, .func (.func 73) #[] #[]] w fun en w' => en = .returned (.bool (falB L)) ∧ New w w' := by
  have HI := Lib.hid (indexFunc_c av cap L w hl hP)
  clear hl hP
  generalize falB L = R at *
  generalize L.length = N at *
  go_enter Tryd.func72, Tryd.ntmps72
  go_wp2_with (go_at_call 133; refine HI.out.mono ?_; rintro e w6 ⟨⟨i, rfl, hi⟩, n6⟩; have HI6 := Lib.hid hi; clear hi)
  go_ret
  exact ⟨ret_bool HI6.out, n6⟩

/-- a problem: how many places, and the pairs of both kinds -/
structure Prb where
  n : Int
  A : List (Int × Int)
  B : List (Int × Int)
def badB (o : Prb) : Bool := (decide (o.n < 0) || !arB o.n o.A) || !arB o.n o.B
def chkI (o : Prb) : Int := if 24 < o.n then 2 else if badB o then 1 else if falB o.B then 1 else 0
/-- v is the problem o in the world w -/
structure PrbV (w : World) (v : Value) (o : Prb) : Prop where
  sh : ∃ av ac nv nc, v = .agg #[.int .i64 o.n, .slice av o.A.length ac, .slice nv o.B.length nc] ∧ Prs w av o.A ∧ Prs w nv o.B
  la : o.A.length ≤ 17592186044415
  lb : o.B.length ≤ 17592186044415
theorem PrbV.new {w w' : World} {v : Value} {o : Prb} (h : PrbV w v o) (hn : New w w') : PrbV w' v o := by
  obtain ⟨⟨av, ac, nv, nc, e, h1, h2⟩, h3, h4⟩ := h
  exact ⟨⟨av, ac, nv, nc, e, h1.new hn, h2.new hn⟩, h3, h4⟩

set_option maxHeartbeats 8000000 in
theorem check_c (v : Value) (o : Prb) (w : World) (h : PrbV w v o) : Calls Tryd.prog 23 #[v] w fun en w' => en = .returned (.int .i64 (chkI o)) ∧ New w w' := by
  obtain ⟨⟨av, ac, nv, nc, rfl, h1, h2⟩, h3, h4⟩ := h
  have HA := Lib.hid (fun (w1 : World) (hn : New w w1) => arePairs_c o.n av ac o.A w1 h3 (h1.new hn))
  have HB := Lib.hid (fun (w1 : World) (hn : New w w1) => arePairs_c o.n nv nc o.B w1 h4 (h2.new hn))
  have HC := Lib.hid (fun (w1 : World) (hn : New w w1) => containsFunc_c nv nc o.B w1 h4 (h2.new hn))
  have HR := Lib.hid (show chkI o = if 24 < o.n then 2 else if ((decide (o.n < 0) || !arB o.n o.A) || !arB o.n o.B) then 1 else if falB o.B then 1 else 0 from rfl)
  clear h1 h2 h3 h4
  generalize chkI o = R at *
  generalize o.A.length = la at *
  generalize o.B.length = lb at *
  generalize arB o.n o.A = ra at *
  generalize arB o.n o.B = rb at *
  generalize falB o.B = fb at *
  generalize o.n = n at *
  clear o
  by_cases u1 : 24 < n
  · have HF := Lib.hid (show (2 : Int) = R by rw [HR.out, if_pos u1])
    have u1' : n > 24 := u1
    go_enter Tryd.func23, Tryd.ntmps23
    go_wp2_with fail
    go_ret
    exact ⟨ret_int HF.out, (by (repeat (first | exact New.refl _ | apply New.alloc | apply New.aft | apply New.drew | refine New.setCell ?_ ?_ _)))⟩
  · rw [if_neg u1] at HR
    have u1' : ¬ n > 24 := u1
    by_cases u2 : n < 0
    · have HF := Lib.hid (show (1 : Int) = R by rw [HR.out, decide_eq_true u2]; rfl)
      go_enter Tryd.func23, Tryd.ntmps23
      go_wp2_with fail
      go_ret
      exact ⟨ret_int HF.out, (by (repeat (first | exact New.refl _ | apply New.alloc | apply New.aft | apply New.drew | refine New.setCell ?_ ?_ _)))⟩
    · rw [decide_eq_false u2] at HR
      cases ra
      · have HF := Lib.hid (show (1 : Int) = R by rw [HR.out]; rfl)
        go_enter Tryd.func23, Tryd.ntmps23
        go_wp2_with (first | (go_at_call 71; (with_reducible refine (HA.out _ ?_).mono ?_); (repeat (first | exact New.refl _ | apply New.alloc | apply New.aft | apply New.drew | refine New.setCell ?_ ?_ _)); rintro e w6 ⟨rfl, n6⟩))
        go_ret
        exact ⟨ret_int HF.out, ((New.refl _).alloc _).trans n6⟩
      · cases rb
        · have HF := Lib.hid (show (1 : Int) = R by rw [HR.out]; rfl)
          go_enter Tryd.func23, Tryd.ntmps23
          go_wp2_with (first | (go_at_call 71; (with_reducible refine (HA.out _ ?_).mono ?_); (repeat (first | exact New.refl _ | apply New.alloc | apply New.aft | apply New.drew | (refine New.trans ?_ (by assumption)) | refine New.setCell ?_ ?_ _)); rintro e w6 ⟨rfl, pw6, rfl⟩) | (go_at_call 71; (with_reducible refine (HB.out _ ?_).mono ?_); (repeat (first | exact New.refl _ | apply New.alloc | apply New.aft | apply New.drew | (refine New.trans ?_ (by assumption)) | refine New.setCell ?_ ?_ _)); rintro e w7 ⟨rfl, pw7, rfl⟩) | (go_at_call 72; (with_reducible refine (HC.out _ ?_).mono ?_); (repeat (first | exact New.refl _ | apply New.alloc | apply New.aft | apply New.drew | (refine New.trans ?_ (by assumption)) | refine New.setCell ?_ ?_ _)); rintro e w8 ⟨rfl, pw8, rfl⟩))
          go_ret
          exact ⟨ret_int HF.out, by (repeat (first | exact New.refl _ | apply New.alloc | apply New.aft | apply New.drew | (refine New.trans ?_ (by assumption)) | refine New.setCell ?_ ?_ _))⟩
        · cases fb
          · have HF := Lib.hid (show (0 : Int) = R by rw [HR.out]; rfl)
            go_enter Tryd.func23, Tryd.ntmps23
            go_wp2_with (first | (go_at_call 71; (with_reducible refine (HA.out _ ?_).mono ?_); (repeat (first | exact New.refl _ | apply New.alloc | apply New.aft | apply New.drew | (refine New.trans ?_ (by assumption)) | refine New.setCell ?_ ?_ _)); rintro e w6 ⟨rfl, pw6, rfl⟩) | (go_at_call 71; (with_reducible refine (HB.out _ ?_).mono ?_); (repeat (first | exact New.refl _ | apply New.alloc | apply New.aft | apply New.drew | (refine New.trans ?_ (by assumption)) | refine New.setCell ?_ ?_ _)); rintro e w7 ⟨rfl, pw7, rfl⟩) | (go_at_call 72; (with_reducible refine (HC.out _ ?_).mono ?_); (repeat (first | exact New.refl _ | apply New.alloc | apply New.aft | apply New.drew | (refine New.trans ?_ (by assumption)) | refine New.setCell ?_ ?_ _)); rintro e w8 ⟨rfl, pw8, rfl⟩))
            go_ret
            exact ⟨ret_int HF.out, by (repeat (first | exact New.refl _ | apply New.alloc | apply New.aft | apply New.drew | (refine New.trans ?_ (by assumption)) | refine New.setCell ?_ ?_ _))⟩
          · have HF := Lib.hid (show (1 : Int) = R by rw [HR.out]; rfl)
            go_enter Tryd.func23, Tryd.ntmps23
            go_wp2_with (first | (go_at_call 71; (with_reducible refine (HA.out _ ?_).mono ?_); (repeat (first | exact New.refl _ | apply New.alloc | apply New.aft | apply New.drew | (refine New.trans ?_ (by assumption)) | refine New.setCell ?_ ?_ _)); rintro e w6 ⟨rfl, pw6, rfl⟩) | (go_at_call 71; (with_reducible refine (HB.out _ ?_).mono ?_); (repeat (first | exact New.refl _ | apply New.alloc | apply New.aft | apply New.drew | (refine New.trans ?_ (by assumption)) | refine New.setCell ?_ ?_ _)); rintro e w7 ⟨rfl, pw7, rfl⟩) | (go_at_call 72; (with_reducible refine (HC.out _ ?_).mono ?_); (repeat (first | exact New.refl _ | apply New.alloc | apply New.aft | apply New.drew | (refine New.trans ?_ (by assumption)) | refine New.setCell ?_ ?_ _)); rintro e w8 ⟨rfl, pw8, rfl⟩))
            go_ret
            exact ⟨ret_int HF.out, by (repeat (first | exact New.refl _ | apply New.alloc | apply New.aft | apply New.drew | (refine New.trans ?_ (by assumption)) | refine New.setCell ?_ ?_ _))⟩
end Go.Proofs.YtiejefehcpfkaaaDoor
end
