/- Greatest common divisors and lowest terms, as both sides return them. · Sums and products of shades, as both sides return them; a row of a frame. Each product and sum within 4000000000000000000 either way. · Structs of two numbers compared. · Names: isLetter, isDigit, isName. · An array of three fractions is equal to itself. -/
import Derived.Test.YtpjekinmcdglbaaProg
import Derived.Test.YtpjekinmcdglbaaBas
import Derived.WalkKit
import Derived.WalkLawsBesides
import Derived.WalkSpells
import Derived.Deep.RegionHeld3
import Derived.BigRegion
import Derived.LoopTactic
import Derived.Lib.MinMax
import Derived.Laws.StructEq

section
set_option linter.unusedSimpArgs false
set_option linter.unusedVariables false
set_option maxRecDepth 100000
namespace Go.Proofs.Ytpjekinmcdglbaa
open Go.RowKit

theorem ret_int {k : IntKind} {a b : Int} (h : a = b) : Ending.returned (.int k a) = .returned (.int k b) := by rw [h]
theorem ret_bool {a b : Bool} (h : a = b) : Ending.returned (.bool a) = .returned (.bool b) := by rw [h]
abbrev fv (x y : Int) : Value := .agg #[.int .i64 x, .int .i64 y]
abbrev vv (x y z : Int) : Value := .agg #[.int .i64 x, .int .i64 y, .int .i64 z]
theorem emod_fact (x y : Int) (hx : 0 ≤ x) (hy : 0 < y) : x.tmod y = x % y ∧ 0 ≤ x % y ∧ x % y < y := ⟨Int.tmod_eq_emod_of_nonneg hx, Int.emod_nonneg _ (by omega), Int.emod_lt_of_pos _ hy⟩
theorem New.cell {w w' : World} (h : New w w') {b o : Nat} (hb : b < w.heap.size) : w'.cell? ⟨b, o, none⟩ = w.cell? ⟨b, o, none⟩ := h.below.cell (p := ⟨b, o, none⟩) hb
def gcdI (x y : Int) : Int := ((Nat.gcd x.toNat y.toNat : Nat) : Int)
theorem gcdI_zero (x : Int) (hx : 0 ≤ x) : gcdI x 0 = x := by unfold gcdI; simp; omega
theorem gcdI_step (x y : Int) (hx : 0 ≤ x) (hy : 0 < y) : gcdI y (x % y) = gcdI x y := by
  obtain ⟨a, rfl⟩ := Int.eq_ofNat_of_zero_le hx
  obtain ⟨b, rfl⟩ := Int.eq_ofNat_of_zero_le (show 0 ≤ y by omega)
  unfold gcdI
  rw [show ((a : Int) % (b : Int)) = ((a % b : Nat) : Int) from (Int.natCast_emod a b).symm]
  simp only [Int.toNat_natCast]
  rw [Nat.gcd_comm a b, Nat.gcd_rec b a, Nat.gcd_comm]
theorem gcdI_pos (x y : Int) (hy : 0 < y) : 0 < gcdI x y ∧ gcdI x y ≤ y := by
  unfold gcdI
  have h1 := Nat.gcd_pos_of_pos_right x.toNat (show 0 < y.toNat by omega)
  have h2 := Nat.le_of_dvd (show 0 < y.toNat by omega) (Nat.gcd_dvd_right x.toNat y.toNat)
  omega

set_option maxHeartbeats 4000000 in
theorem gcd_c (a b : Int) (w : World) (ha : 0 ≤ a ∧ a ≤ 4000000000000000000) (hb : 0 ≤ b ∧ b ≤ 4000000000000000000) :
    Calls Try.prog 56 #[.int .i64 a, .int .i64 b] w fun en w' => en = .returned (.int .i64 (gcdI a b)) ∧ New w w' := by
  go_enter Try.func56, Try.ntmps56
  go_wp2_with fail
  go_loopw [0, 1] (fun x y wr => ∃ p q : Int, (0 ≤ p ∧ p ≤ 4000000000000000000) ∧ (0 ≤ q ∧ q ≤ 4000000000000000000) ∧ x = .int .i64 p ∧ y = .int .i64 q ∧ gcdI p q = gcdI a b ∧ New w wr) (fun _ y _ => (intOf y).toNat)
  case atStart => exact ⟨a, b, ha, hb, rfl, rfl, rfl, New.refl _⟩
  case round =>
    obtain ⟨p, q, hp, hq, rfl, rfl, hg, pr, rfl⟩ := hrel
    have HG := Lib.hid hg
    clear hg
    by_cases h0 : q = 0
    · subst h0
      have HV := Lib.hid (gcdI_zero p hp.1)
      go_wp2_with fail
      go_ret
      exact ⟨ret_int (by rw [← HG.out, HV.out]), (by (repeat (first | exact New.refl _ | apply New.alloc | apply New.aft | apply New.drew | refine New.setCell ?_ ?_ _)); all_goals (first | done | (simp [size_aft]; done) | (simp [size_aft]; omega)))⟩
    · have hq0 : 0 < q := by omega
      obtain ⟨m1, m2, m3⟩ := emod_fact p q hp.1 hq0
      have HS := Lib.hid (gcdI_step p q hp.1 hq0)
      have hz : (q = 0) = False := eq_false h0
      have hz2 : (q == 0) = false := by simpa using h0
      have hz3 : (q != 0) = true := by simpa using h0
      clear h0
      go_wp2_with fail
      go_region
      all_goals (go_wp2_with fail)
      all_goals go_roundw
      all_goals first
        | exact ⟨q, p % q, hq, by omega, rfl, rfl, HS.out.trans HG.out, (by (repeat (first | exact New.refl _ | apply New.alloc | apply New.aft | apply New.drew | refine New.setCell ?_ ?_ _)); all_goals (first | done | (simp [size_aft]; done) | (simp [size_aft]; omega)))⟩
        | (simp [intOf]; omega)

set_option maxHeartbeats 4000000 in
theorem ref_gcd (a b : Int) (w : World) (ha : 0 ≤ a ∧ a ≤ 4000000000000000000) (hb : 0 ≤ b ∧ b ≤ 4000000000000000000) :
    Calls Try.prog 59 #[.int .i64 a, .int .i64 b] w fun en w' => en = .returned (.int .i64 (gcdI a b)) ∧ New w w' := by
  go_enter Try.func59, Try.ntmps59
  go_wp2_with fail
  go_loopw [0, 1] (fun x y wr => ∃ p q : Int, (0 ≤ p ∧ p ≤ 4000000000000000000) ∧ (0 ≤ q ∧ q ≤ 4000000000000000000) ∧ x = .int .i64 p ∧ y = .int .i64 q ∧ gcdI p q = gcdI a b ∧ New w wr) (fun _ y _ => (intOf y).toNat)
  case atStart => exact ⟨a, b, ha, hb, rfl, rfl, rfl, New.refl _⟩
  case round =>
    obtain ⟨p, q, hp, hq, rfl, rfl, hg, pr, rfl⟩ := hrel
    have HG := Lib.hid hg
    clear hg
    by_cases h0 : q = 0
    · subst h0
      have HV := Lib.hid (gcdI_zero p hp.1)
      have hn : ¬ p < 0 := by omega
      go_wp2_with fail
      go_ret
      exact ⟨ret_int (by rw [← HG.out, HV.out]), (by (repeat (first | exact New.refl _ | apply New.alloc | apply New.aft | apply New.drew | refine New.setCell ?_ ?_ _)); all_goals (first | done | (simp [size_aft]; done) | (simp [size_aft]; omega)))⟩
    · have hq0 : 0 < q := by omega
      obtain ⟨m1, m2, m3⟩ := emod_fact p q hp.1 hq0
      have HS := Lib.hid (gcdI_step p q hp.1 hq0)
      have hz : (q = 0) = False := eq_false h0
      have hz2 : (q == 0) = false := by simpa using h0
      have hz3 : (q != 0) = true := by simpa using h0
      clear h0
      go_wp2_with fail
      go_roundw
      case rel => exact ⟨q, p % q, hq, by omega, rfl, rfl, HS.out.trans HG.out, (by (repeat (first | exact New.refl _ | apply New.alloc | apply New.aft | apply New.drew | refine New.setCell ?_ ?_ _)); all_goals (first | done | (simp [size_aft]; done) | (simp [size_aft]; omega)))⟩
      case measure => simp [intOf]; omega

set_option maxHeartbeats 1000000 in
theorem sign_c (a : Int) (w : World) : Calls Try.prog 70 #[.int .i64 a] w fun en w' => en = .returned (.int .i64 (if a < 0 then -1 else 1)) ∧ New w w' := by
  by_cases h : a < 0
  · rw [if_pos h]
    go_enter Try.func70, Try.ntmps70
    go_wp2_with fail
    all_goals (go_ret; exact ⟨rfl, (by (repeat (first | exact New.refl _ | apply New.alloc | apply New.aft | apply New.drew | refine New.setCell ?_ ?_ _)); all_goals (first | done | (simp [size_aft]; done) | (simp [size_aft]; omega)))⟩)
  · rw [if_neg h]
    go_enter Try.func70, Try.ntmps70
    go_wp2_with fail
    all_goals (go_ret; exact ⟨rfl, (by (repeat (first | exact New.refl _ | apply New.alloc | apply New.aft | apply New.drew | refine New.setCell ?_ ?_ _)); all_goals (first | done | (simp [size_aft]; done) | (simp [size_aft]; omega)))⟩)

/-- lowest terms -/
def lowA (a b : Int) : Int := a.tdiv (gcdI a b)
def lowB (a b : Int) : Int := b.tdiv (gcdI a b)
theorem tdiv_bd (x g : Int) (hg : 0 < g) (M : Int) (h1 : -M ≤ x) (h2 : x ≤ M) : -M ≤ x.tdiv g ∧ x.tdiv g ≤ M := by
  rcases Int.le_total 0 x with h | h
  · rw [Int.tdiv_eq_ediv_of_nonneg h]
    have a1 := Int.ediv_nonneg h (Int.le_of_lt hg)
    have a2 := Int.ediv_le_self g h
    omega
  · have e : x.tdiv g = -((-x).tdiv g) := by rw [Int.neg_tdiv, Int.neg_neg]
    rw [e, Int.tdiv_eq_ediv_of_nonneg (by omega)]
    have a1 := Int.ediv_nonneg (show 0 ≤ -x by omega) (Int.le_of_lt hg)
    have a2 := Int.ediv_le_self g (show 0 ≤ -x by omega)
    omega

set_option maxHeartbeats 4000000 in
theorem fraction_c (a b : Int) (w : World) (ha : 0 ≤ a ∧ a ≤ 4000000000000000000) (hb : 0 < b ∧ b ≤ 4000000000000000000) :
    Calls Try.prog 30 #[.int .i64 a, .int .i64 b] w fun en w' => en = .returned (fv (lowA a b) (lowB a b)) ∧ New w w' := by
  have HGC := Lib.hid (fun w1 : World => gcd_c a b w1 ha ⟨by omega, hb.2⟩)
  obtain ⟨g1, g2⟩ := gcdI_pos a b hb.1
  have HA := Lib.hid (show lowA a b = a.tdiv (gcdI a b) from rfl)
  have HB := Lib.hid (show lowB a b = b.tdiv (gcdI a b) from rfl)
  generalize lowA a b = X at *
  generalize lowB a b = Y at *
  generalize gcdI a b = G at *
  obtain ⟨t1, t2⟩ := tdiv_bd a G g1 4000000000000000000 (by omega) (by omega)
  obtain ⟨t3, t4⟩ := tdiv_bd b G g1 4000000000000000000 (by omega) (by omega)
  have q1 : IntKind.i64.wrap (a.tdiv G) = a.tdiv G := IntWalk.i64_in _ (by omega)
  have q2 : IntKind.i64.wrap (b.tdiv G) = b.tdiv G := IntWalk.i64_in _ (by omega)
  have hz : (G = 0) = False := eq_false (by omega)
  have hmx : max a (-a) = a := by omega
  go_enter Try.func30, Try.ntmps30
  go_wp2_with (go_at_call 56; refine (HGC.out _).mono ?_; rintro e w1 ⟨rfl, pw, rfl⟩)
  all_goals go_region
  all_goals (go_wp2_with fail)
  all_goals (refine bodyPost_ret (v := fv (a.tdiv G) (b.tdiv G)) (by simp [results, Try.results30, go_sem]) rfl ⟨by rw [HA.out, HB.out], (by (repeat (first | exact New.refl _ | apply New.alloc | apply New.aft | apply New.drew | refine New.setCell ?_ ?_ _)); all_goals (first | done | (simp [size_aft]; done) | (simp [size_aft]; omega)))⟩)

set_option maxHeartbeats 4000000 in
theorem ratio_c (a b : Int) (w : World) (ha : 0 ≤ a ∧ a ≤ 4000000000000000000) (hb : 0 < b ∧ b ≤ 4000000000000000000) :
    Calls Try.prog 34 #[.int .i64 a, .int .i64 b] w fun en w' => en = .returned (fv (lowA a b) (lowB a b)) ∧ New w w' := by
  have HGC := Lib.hid (fun w1 : World => ref_gcd a b w1 ha ⟨by omega, hb.2⟩)
  obtain ⟨g1, g2⟩ := gcdI_pos a b hb.1
  have HA := Lib.hid (show lowA a b = a.tdiv (gcdI a b) from rfl)
  have HB := Lib.hid (show lowB a b = b.tdiv (gcdI a b) from rfl)
  generalize lowA a b = X at *
  generalize lowB a b = Y at *
  generalize gcdI a b = G at *
  obtain ⟨t1, t2⟩ := tdiv_bd a G g1 4000000000000000000 (by omega) (by omega)
  obtain ⟨t3, t4⟩ := tdiv_bd b G g1 4000000000000000000 (by omega) (by omega)
  have q1 : IntKind.i64.wrap (a.tdiv G) = a.tdiv G := IntWalk.i64_in _ (by omega)
  have q2 : IntKind.i64.wrap (b.tdiv G) = b.tdiv G := IntWalk.i64_in _ (by omega)
  have hz : (G = 0) = False := eq_false (by omega)
  go_enter Try.func34, Try.ntmps34
  go_wp2_with (go_at_call 59; refine (HGC.out _).mono ?_; rintro e w1 ⟨rfl, pw, rfl⟩)
  all_goals go_region
  all_goals (go_wp2_with fail)
  all_goals (refine bodyPost_ret (v := fv (a.tdiv G) (b.tdiv G)) (by simp [results, Try.results34, go_sem]) rfl ⟨by rw [HA.out, HB.out], (by (repeat (first | exact New.refl _ | apply New.alloc | apply New.aft | apply New.drew | refine New.setCell ?_ ?_ _)); all_goals (first | done | (simp [size_aft]; done) | (simp [size_aft]; omega)))⟩)

end Go.Proofs.Ytpjekinmcdglbaa
end

section
set_option linter.unusedSimpArgs false
set_option linter.unusedVariables false
set_option maxRecDepth 100000
namespace Go.Proofs.Ytpjekinmcdglbaa
open Go.RowKit

theorem wr {x : Int} (h : (-4000000000000000000 ≤ x ∧ x ≤ 4000000000000000000)) : IntKind.i64.wrap x = x := IntWalk.i64_in _ (by omega)

set_option maxHeartbeats 4000000 in
theorem plus_c (a b c d e f : Int) (w : World) (k0 : (-4000000000000000000 ≤ a + d ∧ a + d ≤ 4000000000000000000)) (k1 : (-4000000000000000000 ≤ b + e ∧ b + e ≤ 4000000000000000000)) (k2 : (-4000000000000000000 ≤ c + f ∧ c + f ≤ 4000000000000000000)) :
    Calls Try.prog 54 #[vv a b c, vv d e f] w fun en w' => en = .returned (vv (a + d) (b + e) (c + f)) ∧ New w w' := by
  have q0 := wr k0
  have q1 := wr k1
  have q2 := wr k2
  go_enter Try.func54, Try.ntmps54
  go_wp2_with fail
  all_goals (refine bodyPost_ret (v := vv (a + d) (b + e) (c + f)) (by simp [results, Try.results54, go_sem]) rfl ⟨rfl, (by (repeat (first | exact New.refl _ | apply New.alloc | apply New.aft | apply New.drew | refine New.setCell ?_ ?_ _)); all_goals (first | done | (simp [size_aft]; done) | (simp [size_aft]; omega)))⟩)

set_option maxHeartbeats 4000000 in
theorem times_c (a b c n : Int) (w : World) (k0 : (-4000000000000000000 ≤ n * a ∧ n * a ≤ 4000000000000000000)) (k1 : (-4000000000000000000 ≤ n * b ∧ n * b ≤ 4000000000000000000)) (k2 : (-4000000000000000000 ≤ n * c ∧ n * c ≤ 4000000000000000000)) :
    Calls Try.prog 55 #[vv a b c, .int .i64 n] w fun en w' => en = .returned (vv (n * a) (n * b) (n * c)) ∧ New w w' := by
  have q0 := wr k0
  have q1 := wr k1
  have q2 := wr k2
  go_enter Try.func55, Try.ntmps55
  go_wp2_with fail
  all_goals (refine bodyPost_ret (v := vv (n * a) (n * b) (n * c)) (by simp [results, Try.results55, go_sem]) rfl ⟨rfl, (by (repeat (first | exact New.refl _ | apply New.alloc | apply New.aft | apply New.drew | refine New.setCell ?_ ?_ _)); all_goals (first | done | (simp [size_aft]; done) | (simp [size_aft]; omega)))⟩)

set_option maxHeartbeats 4000000 in
theorem dot_c (a b c d e f : Int) (w : World) (k0 : (-4000000000000000000 ≤ a * d ∧ a * d ≤ 4000000000000000000)) (k1 : (-4000000000000000000 ≤ b * e ∧ b * e ≤ 4000000000000000000)) (k2 : (-4000000000000000000 ≤ c * f ∧ c * f ≤ 4000000000000000000)) (k3 : (-4000000000000000000 ≤ a * d + b * e ∧ a * d + b * e ≤ 4000000000000000000)) (k4 : (-4000000000000000000 ≤ a * d + b * e + c * f ∧ a * d + b * e + c * f ≤ 4000000000000000000)) :
    Calls Try.prog 67 #[vv a b c, vv d e f] w fun en w' => en = .returned (.int .i64 (a * d + b * e + c * f)) ∧ New w w' := by
  have q0 := wr k0
  have q1 := wr k1
  have q2 := wr k2
  have q3 := wr k3
  have q4 := wr k4
  go_enter Try.func67, Try.ntmps67
  go_wp2_with fail
  all_goals (go_ret; exact ⟨rfl, (by (repeat (first | exact New.refl _ | apply New.alloc | apply New.aft | apply New.drew | refine New.setCell ?_ ?_ _)); all_goals (first | done | (simp [size_aft]; done) | (simp [size_aft]; omega)))⟩)

set_option maxHeartbeats 4000000 in
theorem ref_dot (a b c d e f : Int) (w : World) (k0 : (-4000000000000000000 ≤ a * d ∧ a * d ≤ 4000000000000000000)) (k1 : (-4000000000000000000 ≤ b * e ∧ b * e ≤ 4000000000000000000)) (k2 : (-4000000000000000000 ≤ c * f ∧ c * f ≤ 4000000000000000000)) (k3 : (-4000000000000000000 ≤ a * d + b * e ∧ a * d + b * e ≤ 4000000000000000000)) (k4 : (-4000000000000000000 ≤ a * d + b * e + c * f ∧ a * d + b * e + c * f ≤ 4000000000000000000)) :
    Calls Try.prog 45 #[vv a b c, vv d e f] w fun en w' => en = .returned (.int .i64 (a * d + b * e + c * f)) ∧ New w w' := by
  have q0 := wr k0
  have q1 := wr k1
  have q2 := wr k2
  have q3 := wr k3
  have q4 := wr k4
  go_enter Try.func45, Try.ntmps45
  go_wp2_with fail
  all_goals (go_ret; exact ⟨rfl, (by (repeat (first | exact New.refl _ | apply New.alloc | apply New.aft | apply New.drew | refine New.setCell ?_ ?_ _)); all_goals (first | done | (simp [size_aft]; done) | (simp [size_aft]; omega)))⟩)

set_option maxHeartbeats 4000000 in
theorem rowOf_c (a b c : Int) (w : World) : Calls Try.prog 84 #[vv a b c] w fun en w' => en = .returned (.agg #[.int .i64 1, .int .i64 a, .int .i64 b, .int .i64 c]) ∧ New w w' := by
  go_enter Try.func84, Try.ntmps84
  go_wp2_with fail
  all_goals (refine bodyPost_ret (v := .agg #[.int .i64 1, .int .i64 a, .int .i64 b, .int .i64 c]) (by simp [results, Try.results84, go_sem]) rfl ⟨rfl, (by (repeat (first | exact New.refl _ | apply New.alloc | apply New.aft | apply New.drew | refine New.setCell ?_ ?_ _)); all_goals (first | done | (simp [size_aft]; done) | (simp [size_aft]; omega)))⟩)

end Go.Proofs.Ytpjekinmcdglbaa
end

section
set_option linter.unusedSimpArgs false
set_option linter.unusedVariables false
set_option maxRecDepth 100000
namespace Go.Proofs.Ytpjekinmcdglbaa
open Go.RowKit

theorem equal_two (t : TypeId) (hs : Try.prog.underlying t = some (.struct (Try.prog.fieldsOf t))) (hp : Try.prog.stoodInHeld t = false) (hf : ((Try.prog.fieldsOf t).toList.map fun f => (f.type, f.offset, decide (f.name = "_"))) = [(3, 0, false), (3, 1, false)]) (d : Nat) (a b c e : Int) (w : World) :
    (Op.equalIn (d + 2) t (.agg #[.int .i64 a, .int .i64 b]) (.agg #[.int .i64 c, .int .i64 e])).run Try.prog w = .ok (a == c && b == e) w := by
  rw [run_equalIn_agg _ _ _ _ _ hs hp]
  generalize (Try.prog.fieldsOf t).toList = F at *
  rcases F with _ | ⟨f, _ | ⟨g, _ | ⟨x, F⟩⟩⟩
  · simp at hf
  · simp at hf
  · simp only [List.map_cons, List.map_nil, List.cons.injEq, Prod.mk.injEq, and_true, decide_eq_false_iff_not] at hf
    obtain ⟨⟨h1, h2, h3⟩, h4, h5, h6⟩ := hf
    simp [go_sem, Op.eqFields, h1, h2, h3, h4, h5, h6, Try.underlying3]
    by_cases k1 : a = c <;> by_cases k2 : b = e <;> simp [k1, k2]
  · simp at hf
theorem frac_two (d : Nat) (a b c e : Int) (w : World) : (Op.equalIn (d + 2) 29 (.agg #[.int .i64 a, .int .i64 b]) (.agg #[.int .i64 c, .int .i64 e])).run Try.prog w = .ok (a == c && b == e) w := equal_two _ (by kernel_rfl) (by kernel_rfl) (by kernel_rfl) d a b c e w
theorem part_two (d : Nat) (a b c e : Int) (w : World) : (Op.equalIn (d + 2) 64 (.agg #[.int .i64 a, .int .i64 b]) (.agg #[.int .i64 c, .int .i64 e])).run Try.prog w = .ok (a == c && b == e) w := equal_two _ (by kernel_rfl) (by kernel_rfl) (by kernel_rfl) d a b c e w
theorem eql_frac (a b c d : Int) (w : World) : (binOp .eql 29 (.agg #[.int .i64 a, .int .i64 b]) (.agg #[.int .i64 c, .int .i64 d])).run Try.prog w = .ok (.bool (a == c && b == d)) w := by
  rw [run_eql_struct, show (10000 : Nat) = 9998 + 2 from rfl, frac_two]; rfl
theorem neq_part (a b c d : Int) (w : World) : (binOp .neq 64 (.agg #[.int .i64 a, .int .i64 b]) (.agg #[.int .i64 c, .int .i64 d])).run Try.prog w = .ok (.bool (!(a == c && b == d))) w := by
  rw [run_neq_struct, show (10000 : Nat) = 9998 + 2 from rfl, part_two]; rfl

end Go.Proofs.Ytpjekinmcdglbaa
end

section
set_option linter.unusedSimpArgs false
set_option linter.unusedVariables false
set_option maxRecDepth 100000
namespace Go.Proofs.Ytpjekinmcdglbaa
open Go.RowKit

def lettB (x : Int) : Bool := decide (97 ≤ x) && decide (x ≤ 122)
def digB (x : Int) : Bool := decide (48 ≤ x) && decide (x ≤ 57)
theorem isLetter_c (x : Int) (w : World) : Calls Try.prog 94 #[.int .u8 x] w fun en w' => en = .returned (.bool (lettB x)) ∧ New w w' := by
  have H := Lib.hid (show lettB x = (decide (97 ≤ x) && decide (x ≤ 122)) from rfl)
  generalize lettB x = R at *
  by_cases h1 : 97 ≤ x <;> by_cases h2 : x ≤ 122 <;>
  · have HF := Lib.hid H.out
    simp only [h1, h2, decide_true, decide_false, Bool.and_true, Bool.and_false, Bool.false_and] at H
    go_enter Try.func94, Try.ntmps94
    go_wp2_with fail
    all_goals (go_ret; exact ⟨ret_bool (by rw [HF.out]; simp [h1, h2]), New.refl _⟩)
theorem isDigit_c (x : Int) (w : World) : Calls Try.prog 95 #[.int .u8 x] w fun en w' => en = .returned (.bool (digB x)) ∧ New w w' := by
  have H := Lib.hid (show digB x = (decide (48 ≤ x) && decide (x ≤ 57)) from rfl)
  generalize digB x = R at *
  by_cases h1 : 48 ≤ x <;> by_cases h2 : x ≤ 57 <;>
  · have HF := Lib.hid H.out
    go_enter Try.func95, Try.ntmps95
    go_wp2_with fail
    all_goals (go_ret; exact ⟨ret_bool (by rw [HF.out]; simp [h1, h2]), New.refl _⟩)

end Go.Proofs.Ytpjekinmcdglbaa
end

section
set_option linter.unusedSimpArgs false
set_option linter.unusedVariables false
set_option maxRecDepth 100000
namespace Go.Proofs.Ytpjekinmcdglbaa
open Go.RowKit

theorem fr3_part (i : Nat) (hi : i < 3) (a b c d e f : Int) (w : World) : (part 29 #[.int .i64 a, .int .i64 b, .int .i64 c, .int .i64 d, .int .i64 e, .int .i64 f] (i * 2)).run Try.prog w = .ok (.agg #[.int .i64 (if i = 0 then a else if i = 1 then c else e), .int .i64 (if i = 0 then b else if i = 1 then d else f)]) w := by
  have : i = 0 ∨ i = 1 ∨ i = 2 := by omega
  rcases this with rfl | rfl | rfl <;> rfl
theorem frac_self (D : Nat) (a b : Int) (w : World) : (Op.equalIn (D + 2) 29 (.agg #[.int .i64 a, .int .i64 b]) (.agg #[.int .i64 a, .int .i64 b])).run Try.prog w = .ok true w := by
  rw [frac_two]; simp
set_option maxHeartbeats 4000000 in
theorem equal_fr3 (D : Nat) (hq : ∀ a b w, (Op.equalIn D 29 (.agg #[.int .i64 a, .int .i64 b]) (.agg #[.int .i64 a, .int .i64 b])).run Try.prog w = .ok true w) (a b c d e f : Int) (w : World) : (Op.equalIn (D + 1) 30 (.agg #[.int .i64 a, .int .i64 b, .int .i64 c, .int .i64 d, .int .i64 e, .int .i64 f]) (.agg #[.int .i64 a, .int .i64 b, .int .i64 c, .int .i64 d, .int .i64 e, .int .i64 f])).run Try.prog w = .ok true w := by
  have ht : Try.prog.underlying 30 = some (.array 3 29) := by kernel_rfl
  have hs : ∀ w, (sizeOf 29).run Try.prog w = .ok 2 w := fun w => rfl
  have p0 : ∀ w, (part 29 #[.int .i64 a, .int .i64 b, .int .i64 c, .int .i64 d, .int .i64 e, .int .i64 f] (0 * 2)).run Try.prog w = .ok (.agg #[.int .i64 a, .int .i64 b]) w := fun w => rfl
  have p1 : ∀ w, (part 29 #[.int .i64 a, .int .i64 b, .int .i64 c, .int .i64 d, .int .i64 e, .int .i64 f] (1 * 2)).run Try.prog w = .ok (.agg #[.int .i64 c, .int .i64 d]) w := fun w => rfl
  have p2 : ∀ w, (part 29 #[.int .i64 a, .int .i64 b, .int .i64 c, .int .i64 d, .int .i64 e, .int .i64 f] (2 * 2)).run Try.prog w = .ok (.agg #[.int .i64 e, .int .i64 f]) w := fun w => rfl
  have q0 := hq a b
  have q1 := hq c d
  have q2 := hq e f
  simp only [Op.equalIn, Sem.run_bind, run_underlying ht, Result.andThen_ok, hs, Std.Legacy.Range.forIn_eq_forIn_range', Std.Legacy.Range.size]
  simp only [List.range', Nat.sub_zero, Nat.add_sub_cancel, Nat.div_one, Nat.zero_add, List.forIn_cons, List.forIn_nil, Sem.run_bind, Result.andThen_ok, p0, p1, p2, q0, q1, q2, Nat.reduceAdd, Nat.reduceSub, Nat.reduceDiv, Bool.not_true, Bool.false_eq_true, if_false, Sem.run_pure]
theorem eql_fr3 (a b c d e f : Int) (w : World) : (binOp .eql 30 (.agg #[.int .i64 a, .int .i64 b, .int .i64 c, .int .i64 d, .int .i64 e, .int .i64 f]) (.agg #[.int .i64 a, .int .i64 b, .int .i64 c, .int .i64 d, .int .i64 e, .int .i64 f])).run Try.prog w = .ok (.bool true) w := by
  rw [run_eql_struct, show (10000 : Nat) = 9999 + 1 from rfl, equal_fr3 9999 (fun a b w => frac_self 9997 a b w)]; rfl

end Go.Proofs.Ytpjekinmcdglbaa
end
