/- The reference's Less: continued fractions say the same as products. Numbers from 0, denominators from 1, at most 4000000000000000000. -/
import Derived.Test.YtpjekinmcdglbaaGp
import Derived.Test.YtpjekinmcdglbaaCo
import Derived.Test.YtpjekinmcdglbaaFo
set_option linter.unusedSimpArgs false
set_option linter.unusedVariables false
set_option maxRecDepth 100000
namespace Go.Proofs.Ytpjekinmcdglbaa
open Go.RowKit

/-- less, or greater where the fractions were turned -/
def ltB (s : Bool) (x1 y1 x2 y2 : Int) : Bool := if s = true then decide (x2 * y1 < x1 * y2) else decide (x1 * y2 < x2 * y1)
theorem div_parts (x y : Int) (hx : 0 ≤ x) (hy : 0 < y) : x = x / y * y + (x - x / y * y) ∧ 0 ≤ x - x / y * y ∧ x - x / y * y < y ∧ 0 ≤ x / y ∧ 0 ≤ x / y * y := by
  have h1 := Int.mul_ediv_add_emod x y
  have h2 := Int.emod_nonneg x (show y ≠ 0 by omega)
  have h3 := Int.emod_lt_of_pos x hy
  have h4 := Int.ediv_nonneg hx (show 0 ≤ y by omega)
  have h5 := Int.mul_nonneg h4 (show 0 ≤ y by omega)
  rw [Int.mul_comm] at h1
  omega
theorem ls_lt {m n p q y1 y2 : Int} (hmn : m < n) (hp : p < y1) (hq : 0 ≤ q) (hy1 : 0 < y1) (hy2 : 0 < y2) : (m * y1 + p) * y2 < (n * y2 + q) * y1 := by
  have a := Int.mul_lt_mul_of_pos_right hp hy2
  have b := Int.mul_nonneg hq (show 0 ≤ y1 by omega)
  have c := Int.mul_le_mul_of_nonneg_right (show m + 1 ≤ n by omega) (show 0 ≤ y1 * y2 by exact Int.mul_nonneg (by omega) (by omega))
  have e1 : (m * y1 + p) * y2 = m * (y1 * y2) + p * y2 := by rw [Int.add_mul, Int.mul_assoc]
  have e2 : (n * y2 + q) * y1 = n * (y1 * y2) + q * y1 := by rw [Int.add_mul, Int.mul_assoc, Int.mul_comm y2 y1]
  have e3 : (m + 1) * (y1 * y2) = m * (y1 * y2) + y1 * y2 := by rw [Int.add_mul, Int.one_mul]
  omega
theorem ls_ne (s : Bool) {m n p q y1 y2 : Int} (hne : m ≠ n) (hp0 : 0 ≤ p) (hp : p < y1) (hq0 : 0 ≤ q) (hq : q < y2) (hy1 : 0 < y1) (hy2 : 0 < y2) : ltB s (m * y1 + p) y1 (n * y2 + q) y2 = (decide (m < n) != s) := by
  rcases Int.lt_or_lt_of_ne hne with h | h
  · have a := ls_lt h hp hq0 hy1 hy2
    cases s
    · simp [ltB, h, a]
    · have : ¬ (n * y2 + q) * y1 < (m * y1 + p) * y2 := by omega
      simp [ltB, h, this]
  · have a := ls_lt h hq hp0 hy2 hy1
    have hn : ¬ m < n := by omega
    cases s
    · have : ¬ (m * y1 + p) * y2 < (n * y2 + q) * y1 := by omega
      simp [ltB, hn, this]
    · simp [ltB, hn, a]
theorem ls_cut (s : Bool) (m p q y1 y2 : Int) : ltB s (m * y1 + p) y1 (m * y2 + q) y2 = ltB s p y1 q y2 := by
  have e1 : (m * y1 + p) * y2 = m * (y1 * y2) + p * y2 := by rw [Int.add_mul, Int.mul_assoc]
  have e2 : (m * y2 + q) * y1 = m * (y1 * y2) + q * y1 := by rw [Int.add_mul, Int.mul_assoc, Int.mul_comm y2 y1]
  cases s
  · simp only [ltB, e1, e2]; simp
  · simp only [ltB, e1, e2]; simp
theorem ls_same (s : Bool) {m n x1 x2 y1 y2 : Int} (h : m = n) : ltB s x1 y1 x2 y2 = ltB s (x1 - m * y1) y1 (x2 - n * y2) y2 := by
  subst h
  have := ls_cut s m (x1 - m * y1) (x2 - m * y2) y1 y2
  rw [show m * y1 + (x1 - m * y1) = x1 by omega, show m * y2 + (x2 - m * y2) = x2 by omega] at this
  exact this
theorem ls_turn (s : Bool) (p q y1 y2 : Int) : ltB s p y1 q y2 = ltB (!s) y1 p y2 q := by
  cases s <;> simp [ltB, Int.mul_comm]
theorem ls_zero (s : Bool) {p q y1 y2 : Int} (hp0 : 0 ≤ p) (hq0 : 0 ≤ q) (hy1 : 0 < y1) (hy2 : 0 < y2) (h : p = 0 ∨ q = 0) : ltB s p y1 q y2 = ((decide (p = 0) && decide (0 < q) && !s) || (decide (q = 0) && decide (0 < p) && s)) := by
  have a := Int.mul_nonneg hq0 (show 0 ≤ y1 by omega)
  have b := Int.mul_nonneg hp0 (show 0 ≤ y2 by omega)
  rcases Int.lt_or_eq_of_le hp0 with h1 | h1
  · obtain rfl : q = 0 := by omega
    have c := Int.mul_pos h1 hy2
    cases s
    · have : ¬ p * y2 < 0 := by omega
      simp [ltB, this]
    · simp [ltB, c, h1]
  · subst h1
    rcases Int.lt_or_eq_of_le hq0 with h2 | h2
    · have c := Int.mul_pos h2 hy1
      cases s
      · simp [ltB, c, h2]
      · have : ¬ q * y1 < 0 := by omega
        simp [ltB, this]
    · subst h2; cases s <;> simp [ltB]

set_option maxHeartbeats 4000000 in
theorem floor_c (a b : Int) (w : World) (ha : 0 ≤ a ∧ a ≤ 4000000000000000000) (hb : 0 < b ∧ b ≤ 4000000000000000000) :
    Calls Try.prog 52 #[.int .i64 a, .int .i64 b] w fun en w' => en = .returned (.int .i64 (a / b)) ∧ New w w' := by
  obtain ⟨m1, m2, m3⟩ := emod_fact a b ha.1 hb.1
  have t0 := Int.ediv_nonneg ha.1 (show 0 ≤ b by omega)
  have t1 := Int.ediv_le_self b ha.1
  have t2 : a.tdiv b = a / b := Int.tdiv_eq_ediv_of_nonneg ha.1
  have hz : (b = 0) = False := eq_false (by omega)
  generalize a / b = D at *
  have hn : ¬ a % b < 0 := by omega
  go_enter Try.func52, Try.ntmps52
  go_wp2_with fail
  all_goals (go_ret; exact ⟨ret_int (by simp), New.refl _⟩)

def cellI (W : World) (a : Addr) : Int := match W.cell? a with | some (.int _ n) => n | _ => 0
def LsW (w W : World) (x1 y1 x2 y2 : Int) : Prop :=
  New w W ∧ W.heap[w.heap.size + 1 + 1]? = some (.cells #[.int .i64 x1, .int .i64 y1] 29 (0, 0)) ∧ W.heap[w.heap.size + 1 + 1 + 1]? = some (.cells #[.int .i64 x2, .int .i64 y2] 29 (0, 0))
theorem LsW.keep {w W V : World} {x1 y1 x2 y2 : Int} (h : LsW w W x1 y1 x2 y2) (hn : New W V) : LsW w V x1 y1 x2 y2 := by
  have hk : ∀ k o, W.heap[k]? = some o → V.heap[k]? = some o := fun k o h => (hn.below.block k (Array.getElem?_eq_some_iff.1 h).1).trans h
  exact ⟨h.1.trans hn, hk _ _ h.2.1, hk _ _ h.2.2⟩
theorem LsW.turn {w W : World} {x1 y1 x2 y2 p q : Int} (h : LsW w W x1 y1 x2 y2) :
    LsW w ((((W.setCell ⟨w.heap.size + 1 + 1, 0, none⟩ (.int .i64 y1)).setCell ⟨w.heap.size + 1 + 1, 1, none⟩ (.int .i64 p)).setCell ⟨w.heap.size + 1 + 1 + 1, 0, none⟩ (.int .i64 y2)).setCell ⟨w.heap.size + 1 + 1 + 1, 1, none⟩ (.int .i64 q)) y1 p y2 q := by
  refine ⟨(((h.1.setCell (by show w.heap.size ≤ w.heap.size + 1 + 1; omega) _).setCell (by show w.heap.size ≤ w.heap.size + 1 + 1; omega) _).setCell (by show w.heap.size ≤ w.heap.size + 1 + 1 + 1; omega) _).setCell (by show w.heap.size ≤ w.heap.size + 1 + 1 + 1; omega) _, ?_, ?_⟩
  · rw [heap_setCell_other _ _ _ _ _ (by omega), heap_setCell_other _ _ _ _ _ (by omega)]
    exact (heap_setCell_same _ _ 1 _ (heap_setCell_same _ _ 0 _ h.2.1)).trans (by simp)
  · exact (heap_setCell_same _ _ 1 _ (heap_setCell_same _ _ 0 _ ((heap_setCell_other _ _ _ _ _ (by omega)).trans ((heap_setCell_other _ _ _ _ _ (by omega)).trans h.2.2)))).trans (by simp)
theorem cell_fr {W : World} {g : Nat} {a b : Int} {t : TypeId} {fr : Nat × Nat} (h : W.heap[g]? = some (.cells #[.int .i64 a, .int .i64 b] t fr)) : W.cell? ⟨g, 0, none⟩ = some (.int .i64 a) ∧ W.cell? ⟨g, 1, none⟩ = some (.int .i64 b) := by
  simp [World.cell?, h]
set_option maxHeartbeats 16000000 in
theorem less_c (a b c d : Int) (w : World) (ha : 0 ≤ a ∧ a ≤ 4000000000000000000) (hb : 0 < b ∧ b ≤ 4000000000000000000) (hc : 0 ≤ c ∧ c ≤ 4000000000000000000) (hd : 0 < d ∧ d ≤ 4000000000000000000) :
    Calls Try.prog 25 #[fv a b, fv c d] w fun en w' => en = .returned (.bool (ltB false a b c d)) ∧ New w w' := by
  have HFL := Lib.hid (fun (x y : Int) (w1 : World) hx hy => floor_c x y w1 hx hy)
  obtain ⟨R, hR⟩ : ∃ R, R = ltB false a b c d := ⟨_, rfl⟩
  have HR := Lib.hid hR
  rw [← hR]
  clear hR
  go_enter Try.func25, Try.ntmps25
  go_wp2_with fail
  obtain ⟨W1, hW1⟩ : ∃ W1, W1 = (((w.alloc (.cells #[.int .i64 a, .int .i64 b] 29)).alloc (.cells #[.int .i64 c, .int .i64 d] 29)).alloc (.cells #[.int .i64 a, .int .i64 b] 29)).alloc (.cells #[.int .i64 c, .int .i64 d] 29) := ⟨_, rfl⟩
  have HW1 := Lib.hid (show LsW w W1 a b c d by
    rw [hW1]; exact ⟨(((((New.refl _).alloc _).alloc _).alloc _).alloc _), (alloc4_heap w _ _ _ _).2.2.1, (alloc4_heap w _ _ _ _).2.2.2⟩)
  rw [← hW1]
  clear hW1
  go_loopw [7] (fun i wr => ∃ s x1 y1 x2 y2, i = .bool s ∧ (0 ≤ x1 ∧ x1 ≤ 4000000000000000000) ∧ (0 < y1 ∧ y1 ≤ 4000000000000000000) ∧ (0 ≤ x2 ∧ x2 ≤ 4000000000000000000) ∧ (0 < y2 ∧ y2 ≤ 4000000000000000000) ∧ ltB s x1 y1 x2 y2 = R ∧ LsW w wr x1 y1 x2 y2) (fun _ wr => (cellI wr ⟨w.heap.size + 1 + 1, 1, none⟩).toNat)
  case atStart => exact ⟨false, a, b, c, d, rfl, ha, hb, hc, hd, HR.out.symm, HW1.out⟩
  case round =>
    obtain ⟨s, x1, y1, x2, y2, rfl, hx1, hy1, hx2, hy2, hval, hw⟩ := hrel
    have HV := Lib.hid hval
    have HWR := Lib.hid hw
    obtain ⟨d1, d2, d3, d4, d5⟩ := div_parts x1 y1 hx1.1 hy1.1
    obtain ⟨e1, e2, e3, e4, e5⟩ := div_parts x2 y2 hx2.1 hy2.1
    have HF1 := Lib.hid (fun (w1 : World) => HFL.out x1 y1 w1 hx1 hy1)
    have HF2 := Lib.hid (fun (w1 : World) => HFL.out x2 y2 w1 hx2 hy2)
    obtain ⟨k1, k2⟩ := cell_fr HWR.out.2.1
    obtain ⟨k3, k4⟩ := cell_fr HWR.out.2.2
    have HME := Lib.hid (show cellI wr ⟨w.heap.size + 1 + 1, 1, none⟩ = y1 by simp [cellI, k2])
    have HNE := Lib.hid (fun (hne : x1 / y1 ≠ x2 / y2) => ls_ne s hne d2 d3 e2 e3 hy1.1 hy2.1)
    rw [← d1, ← e1] at HNE
    have HEQ := Lib.hid (fun (he : x1 / y1 = x2 / y2) => ls_same s (x1 := x1) (x2 := x2) (y1 := y1) (y2 := y2) he)
    have q1 : IntKind.i64.wrap (x1 / y1 * y1) = x1 / y1 * y1 := IntWalk.i64_in _ (by omega)
    have q2 : IntKind.i64.wrap (x2 / y2 * y2) = x2 / y2 * y2 := IntWalk.i64_in _ (by omega)
    obtain ⟨p, hp⟩ : ∃ p, p = x1 - x1 / y1 * y1 := ⟨_, rfl⟩
    obtain ⟨q, hq⟩ : ∃ q, q = x2 - x2 / y2 * y2 := ⟨_, rfl⟩
    have q3 : IntKind.i64.wrap (x1 - x1 / y1 * y1) = p := by rw [hp]; exact IntWalk.i64_in _ (by omega)
    have q4 : IntKind.i64.wrap (x2 - x2 / y2 * y2) = q := by rw [hq]; exact IntWalk.i64_in _ (by omega)
    rw [← hp] at d2 d3 HEQ
    rw [← hq] at e2 e3 HEQ
    clear hval hw d1 e1 d4 d5 e4 e5 hp hq
    generalize x1 / y1 = M at *
    generalize x2 / y2 = N at *
    go_wp2_with fail
    go_at_call 52
    refine (HF1.out _).mono ?_
    rintro e u1 ⟨rfl, hu1⟩
    have HU1 := Lib.hid (HWR.out.keep hu1)
    clear k1 k2 k3 k4 hu1
    obtain ⟨k1, k2⟩ := cell_fr HU1.out.2.1
    obtain ⟨k3, k4⟩ := cell_fr HU1.out.2.2
    go_wp2_with fail
    go_at_call 52
    refine (HF2.out _).mono ?_
    rintro e u2 ⟨rfl, hu2⟩
    have HU2 := Lib.hid (HU1.out.keep hu2)
    clear k1 k2 k3 k4 hu2
    obtain ⟨k1, k2⟩ := cell_fr HU2.out.2.1
    obtain ⟨k3, k4⟩ := cell_fr HU2.out.2.2
    by_cases hMN : M = N
    · have HE2 := Lib.hid (HEQ.out hMN)
      have hmb : (M != N) = false := by simpa using hMN
      have hmp : (M = N) = True := eq_true hMN
      clear HEQ HNE hMN
      by_cases hz : p = 0 ∨ q = 0
      · have HZ := Lib.hid (ls_zero s d2 e2 hy1.1 hy2.1 hz)
        have HF := Lib.hid (HV.out.symm.trans (HE2.out.trans HZ.out))
        rcases Int.lt_or_eq_of_le d2 with hp | hp
        · obtain rfl : q = 0 := by omega
          have hpn : (p = 0) = False := eq_false (by omega)
          have hpb : (p == 0) = false := by simpa using (show ¬ p = 0 by omega)
          have hpd : decide (0 < p) = true := decide_eq_true hp
          cases s
          · have HF2 := Lib.hid (show false = R by rw [HF.out]; simp [hpn])
            go_wp2_with fail
            all_goals (go_ret; exact ⟨ret_bool HF2.out, HU2.out.1⟩)
          · have HF2 := Lib.hid (show true = R by rw [HF.out]; simp [hp])
            go_wp2_with fail
            all_goals (go_ret; exact ⟨ret_bool HF2.out, HU2.out.1⟩)
        · subst hp
          rcases Int.lt_or_eq_of_le e2 with hq | hq
          · have hqn : (q = 0) = False := eq_false (by omega)
            have hqb : (q == 0) = false := by simpa using (show ¬ q = 0 by omega)
            have hqd : decide (0 < q) = true := decide_eq_true hq
            cases s
            · have HF2 := Lib.hid (show true = R by rw [HF.out]; simp [hq])
              go_wp2_with fail
              all_goals (go_ret; exact ⟨ret_bool HF2.out, HU2.out.1⟩)
            · have HF2 := Lib.hid (show false = R by rw [HF.out]; simp [hqn])
              go_wp2_with fail
              all_goals (go_ret; exact ⟨ret_bool HF2.out, HU2.out.1⟩)
          · subst hq
            have HF2 := Lib.hid (show false = R by rw [HF.out]; cases s <;> simp)
            cases s
            · go_wp2_with fail
              all_goals (go_ret; exact ⟨ret_bool HF2.out, HU2.out.1⟩)
            · go_wp2_with fail
              all_goals (go_ret; exact ⟨ret_bool HF2.out, HU2.out.1⟩)
      · have hpn : (p = 0) = False := eq_false (by omega)
        have hqn : (q = 0) = False := eq_false (by omega)
        have hpb : (p == 0) = false := by simpa using (show ¬ p = 0 by omega)
        have hqb : (q == 0) = false := by simpa using (show ¬ q = 0 by omega)
        have hp0 : 0 < p := by omega
        have hq0 : 0 < q := by omega
        clear hz
        have f1 : ∀ o, u2.frozen? ⟨w.heap.size + 1 + 1, o, none⟩ = false := fun o => by simp [World.frozen?, HU2.out.2.1]
        have f2 : ∀ o, u2.frozen? ⟨w.heap.size + 1 + 1 + 1, o, none⟩ = false := fun o => by simp [World.frozen?, HU2.out.2.2]
        have HT := Lib.hid (HV.out.symm.trans (HE2.out.trans (ls_turn s p q y1 y2)))
        go_wp2_with fail
        go_roundw
        case rel => exact ⟨!s, y1, p, y2, q, rfl, ⟨by omega, hy1.2⟩, ⟨hp0, by omega⟩, ⟨by omega, hy2.2⟩, ⟨hq0, by omega⟩, HT.out.symm, HU2.out.turn⟩
        case measure =>
          rw [HME.out]
          have := (cell_fr (HU2.out.turn (p := p) (q := q)).2.1).2
          simp only [cellI, this]
          omega
    · have HF := Lib.hid (HV.out.symm.trans (HNE.out hMN))
      have hmb : (M != N) = true := by simpa using hMN
      go_wp2_with fail
      all_goals (go_ret; exact ⟨ret_bool (by rw [HF.out]; generalize decide (M < N) = z; cases z <;> cases s <;> rfl), HU2.out.1⟩)

end Go.Proofs.Ytpjekinmcdglbaa
