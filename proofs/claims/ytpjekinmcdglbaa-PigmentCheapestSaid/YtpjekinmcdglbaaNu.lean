import Derived.Test.YtpjekinmcdglbaaCj
import Derived.Test.YtpjekinmcdglbaaCo
import Derived.Test.YtpjekinmcdglbaaFo
import Derived.Test.YtpjekinmcdglbaaNb
import Derived.Test.YtpjekinmcdglbaaCp
import Derived.Test.YtpjekinmcdglbaaFj
import Derived.Test.YtpjekinmcdglbaaCw

/- The reference's Less: continued fractions say the same as products. Numbers from 0, denominators from 1, at most 4000000000000000000. -/
namespace Go.Proofs.Ytpjekinmcdglbaa
set_option linter.unusedSimpArgs false
set_option linter.unusedVariables false
set_option maxRecDepth 100000
open Go.RowKit

/-- less, or greater where the fractions were turned -/
def ltB (s : Bool) (x1 y1 x2 y2 : Int) : Bool := if s = true then decide (x2 * y1 < x1 * y2) else decide (x1 * y2 < x2 * y1)
theorem div_parts (x y : Int) (hx : 0 ≤ x) (hy : 0 < y) : x = x / y * y + (x - x / y * y) ∧ 0 ≤ x - x / y * y ∧ x - x / y * y < y ∧ 0 ≤ x / y ∧ 0 ≤ x / y * y := by
  have h1 := Int.mul_ediv_add_emod x y
  have h2 := Int.emod_nonneg x (show y ≠ 0 by omega)
  have h3 := Int.emod_lt_of_pos x hy
  have h4 := Int.ediv_nonneg hx (show 0 ≤ y by omega)
  have h5 := Int.mul_nonneg h4 (show 0 ≤ y by omega)
  rw [Int.mul_comm] at h1
  omega
theorem ls_lt {m n p q y1 y2 : Int} (hmn : m < n) (hp : p < y1) (hq : 0 ≤ q) (hy1 : 0 < y1) (hy2 : 0 < y2) : (m * y1 + p) * y2 < (n * y2 + q) * y1 := by
  have a := Int.mul_lt_mul_of_pos_right hp hy2
  have b := Int.mul_nonneg hq (show 0 ≤ y1 by omega)
  have c := Int.mul_le_mul_of_nonneg_right (show m + 1 ≤ n by omega) (show 0 ≤ y1 * y2 by exact Int.mul_nonneg (by omega) (by omega))
  have e1 : (m * y1 + p) * y2 = m * (y1 * y2) + p * y2 := by rw [Int.add_mul, Int.mul_assoc]
  have e2 : (n * y2 + q) * y1 = n * (y1 * y2) + q * y1 := by rw [Int.add_mul, Int.mul_assoc, Int.mul_comm y2 y1]
  have e3 : (m + 1) * (y1 * y2) = m * (y1 * y2) + y1 * y2 := by rw [Int.add_mul, Int.one_mul]
  omega
theorem ls_ne (s : Bool) {m n p q y1 y2 : Int} (hne : m ≠ n) (hp0 : 0 ≤ p) (hp : p < y1) (hq0 : 0 ≤ q) (hq : q < y2) (hy1 : 0 < y1) (hy2 : 0 < y2) : ltB s (m * y1 + p) y1 (n * y2 + q) y2 = (decide (m < n) != s) := by
  rcases Int.lt_or_lt_of_ne hne with h | h
  · have a := ls_lt h hp hq0 hy1 hy2
    cases s
    · simp [ltB, h, a]
    · have : ¬ (n * y2 + q) * y1 < (m * y1 + p) * y2 := by omega
      simp [ltB, h, this]
  · have a := ls_lt h hq hp0 hy2 hy1
    have hn : ¬ m < n := by omega
    cases s
    · have : ¬ (m * y1 + p) * y2 < (n * y2 + q) * y1 := by omega
      simp [ltB, hn, this]
    · simp [ltB, hn, a]
theorem ls_cut (s : Bool) (m p q y1 y2 : Int) : ltB s (m * y1 + p) y1 (m * y2 + q) y2 = ltB s p y1 q y2 := by
  have e1 : (m * y1 + p) * y2 = m * (y1 * y2) + p * y2 := by rw [Int.add_mul, Int.mul_assoc]
  have e2 : (m * y2 + q) * y1 = m * (y1 * y2) + q * y1 := by rw [Int.add_mul, Int.mul_assoc, Int.mul_comm y2 y1]
  cases s
  · simp only [ltB, e1, e2]; simp
  · simp only [ltB, e1, e2]; simp
theorem ls_same (s : Bool) {m n x1 x2 y1 y2 : Int} (h : m = n) : ltB s x1 y1 x2 y2 = ltB s (x1 - m * y1) y1 (x2 - n * y2) y2 := by
  subst h
  have := ls_cut s m (x1 - m * y1) (x2 - m * y2) y1 y2
  rw [show m * y1 + (x1 - m * y1) = x1 by omega, show m * y2 + (x2 - m * y2) = x2 by omega] at this
  exact this
theorem ls_turn (s : Bool) (p q y1 y2 : Int) : ltB s p y1 q y2 = ltB (!s) y1 p y2 q := by
  cases s <;> simp [ltB, Int.mul_comm]
theorem ls_zero (s : Bool) {p q y1 y2 : Int} (hp0 : 0 ≤ p) (hq0 : 0 ≤ q) (hy1 : 0 < y1) (hy2 : 0 < y2) (h : p = 0 ∨ q = 0) : ltB s p y1 q y2 = ((decide (p = 0) && decide (0 < q) && !s) || (decide (q = 0) && decide (0 < p) && s)) := by
  have a := Int.mul_nonneg hq0 (show 0 ≤ y1 by omega)
  have b := Int.mul_nonneg hp0 (show 0 ≤ y2 by omega)
  rcases Int.lt_or_eq_of_le hp0 with h1 | h1
  · obtain rfl : q = 0 := by omega
    have c := Int.mul_pos h1 hy2
    cases s
    · have : ¬ p * y2 < 0 := by omega
      simp [ltB, this]
    · simp [ltB, c, h1]
  · subst h1
    rcases Int.lt_or_eq_of_le hq0 with h2 | h2
    · have c := Int.mul_pos h2 hy1
      cases s
      · simp [ltB, c, h2]
      · have : ¬ q * y1 < 0 := by omega
        simp [ltB, this]
    · subst h2; cases s <;> simp [ltB]

set_option maxHeartbeats 4000000 in
theorem floor_c (a b : Int) (w : World) (ha : 0 ≤ a ∧ a ≤ 4000000000000000000) (hb : 0 < b ∧ b ≤ 4000000000000000000) :
    Calls Try.prog 52 #[.int .i64 a, .int .i64 b] w fun en w' => en = .returned (.int .i64 (a / b)) ∧ New w w' := by
  obtain ⟨m1, m2, m3⟩ := emod_fact a b ha.1 hb.1
  have t0 := Int.ediv_nonneg ha.1 (show 0 ≤ b by omega)
  have t1 := Int.ediv_le_self b ha.1
  have t2 : a.tdiv b = a / b := Int.tdiv_eq_ediv_of_nonneg ha.1
  have hz : (b = 0) = False := eq_false (by omega)
  generalize a / b = D at *
  have hn : ¬ a % b < 0 := by omega
  go_enter Try.func52, Try.ntmps52
  go_wp2_with fail
  all_goals (go_ret; exact ⟨ret_int (by simp), New.refl _⟩)

def cellI (W : World) (a : Addr) : Int := match W.cell? a with | some (.int _ n) => n | _ => 0
def LsW (w W : World) (x1 y1 x2 y2 : Int) : Prop :=
  New w W ∧ W.heap[w.heap.size + 1 + 1]? = some (.cells #[.int .i64 x1, .int .i64 y1] 29 (0, 0)) ∧ W.heap[w.heap.size + 1 + 1 + 1]? = some (.cells #[.int .i64 x2, .int .i64 y2] 29 (0, 0))
theorem LsW.keep {w W V : World} {x1 y1 x2 y2 : Int} (h : LsW w W x1 y1 x2 y2) (hn : New W V) : LsW w V x1 y1 x2 y2 := by
  have hk : ∀ k o, W.heap[k]? = some o → V.heap[k]? = some o := fun k o h => (hn.below.block k (Array.getElem?_eq_some_iff.1 h).1).trans h
  exact ⟨h.1.trans hn, hk _ _ h.2.1, hk _ _ h.2.2⟩
theorem LsW.turn {w W : World} {x1 y1 x2 y2 p q : Int} (h : LsW w W x1 y1 x2 y2) :
    LsW w ((((W.setCell ⟨w.heap.size + 1 + 1, 0, none⟩ (.int .i64 y1)).setCell ⟨w.heap.size + 1 + 1, 1, none⟩ (.int .i64 p)).setCell ⟨w.heap.size + 1 + 1 + 1, 0, none⟩ (.int .i64 y2)).setCell ⟨w.heap.size + 1 + 1 + 1, 1, none⟩ (.int .i64 q)) y1 p y2 q := by
  refine ⟨(((h.1.setCell (by show w.heap.size ≤ w.heap.size + 1 + 1; omega) _).setCell (by show w.heap.size ≤ w.heap.size + 1 + 1; omega) _).setCell (by show w.heap.size ≤ w.heap.size + 1 + 1 + 1; omega) _).setCell (by show w.heap.size ≤ w.heap.size + 1 + 1 + 1; omega) _, ?_, ?_⟩
  · rw [heap_setCell_other _ _ _ _ _ (by omega), heap_setCell_other _ _ _ _ _ (by omega)]
    exact (heap_setCell_same _ _ 1 _ (heap_setCell_same _ _ 0 _ h.2.1)).trans (by simp)
  · exact (heap_setCell_same _ _ 1 _ (heap_setCell_same _ _ 0 _ ((heap_setCell_other _ _ _ _ _ (by omega)).trans ((heap_setCell_other _ _ _ _ _ (by omega)).trans h.2.2)))).trans (by simp)
theorem cell_fr {W : World} {g : Nat} {a b : Int} {t : TypeId} {fr : Nat × Nat} (h : W.heap[g]? = some (.cells #[.int .i64 a, .int .i64 b] t fr)) : W.cell? ⟨g, 0, none⟩ = some (.int .i64 a) ∧ W.cell? ⟨g, 1, none⟩ = some (.int .i64 b) := by
  simp [World.cell?, h]
set_option maxHeartbeats 16000000 in
theorem less_c (a b c d : Int) (w : World) (ha : 0 ≤ a ∧ a ≤ 4000000000000000000) (hb : 0 < b ∧ b ≤ 4000000000000000000) (hc : 0 ≤ c ∧ c ≤ 4000000000000000000) (hd : 0 < d ∧ d ≤ 4000000000000000000) :
    Calls Try.prog 25 #[fv a b, fv c d] w fun en w' => en = .returned (.bool (ltB false a b c d)) ∧ New w w' := by
  have HFL := Lib.hid (fun (x y : Int) (w1 : World) hx hy => floor_c x y w1 hx hy)
  obtain ⟨R, hR⟩ : ∃ R, R = ltB false a b c d := ⟨_, rfl⟩
  have HR := Lib.hid hR
  rw [← hR]
  clear hR
  go_enter Try.func25, Try.ntmps25
  go_wp2_with fail
  obtain ⟨W1, hW1⟩ : ∃ W1, W1 = (((w.alloc (.cells #[.int .i64 a, .int .i64 b] 29)).alloc (.cells #[.int .i64 c, .int .i64 d] 29)).alloc (.cells #[.int .i64 a, .int .i64 b] 29)).alloc (.cells #[.int .i64 c, .int .i64 d] 29) := ⟨_, rfl⟩
  have HW1 := Lib.hid (show LsW w W1 a b c d by
    rw [hW1]; exact ⟨(((((New.refl _).alloc _).alloc _).alloc _).alloc _), (alloc4_heap w _ _ _ _).2.2.1, (alloc4_heap w _ _ _ _).2.2.2⟩)
  rw [← hW1]
  clear hW1
  go_loopw [7] (fun i wr => ∃ s x1 y1 x2 y2, i = .bool s ∧ (0 ≤ x1 ∧ x1 ≤ 4000000000000000000) ∧ (0 < y1 ∧ y1 ≤ 4000000000000000000) ∧ (0 ≤ x2 ∧ x2 ≤ 4000000000000000000) ∧ (0 < y2 ∧ y2 ≤ 4000000000000000000) ∧ ltB s x1 y1 x2 y2 = R ∧ LsW w wr x1 y1 x2 y2) (fun _ wr => (cellI wr ⟨w.heap.size + 1 + 1, 1, none⟩).toNat)
  case atStart => exact ⟨false, a, b, c, d, rfl, ha, hb, hc, hd, HR.out.symm, HW1.out⟩
  case round =>
    obtain ⟨s, x1, y1, x2, y2, rfl, hx1, hy1, hx2, hy2, hval, hw⟩ := hrel
    have HV := Lib.hid hval
    have HWR := Lib.hid hw
    obtain ⟨d1, d2, d3, d4, d5⟩ := div_parts x1 y1 hx1.1 hy1.1
    obtain ⟨e1, e2, e3, e4, e5⟩ := div_parts x2 y2 hx2.1 hy2.1
    have HF1 := Lib.hid (fun (w1 : World) => HFL.out x1 y1 w1 hx1 hy1)
    have HF2 := Lib.hid (fun (w1 : World) => HFL.out x2 y2 w1 hx2 hy2)
    obtain ⟨k1, k2⟩ := cell_fr HWR.out.2.1
    obtain ⟨k3, k4⟩ := cell_fr HWR.out.2.2
    have HME := Lib.hid (show cellI wr ⟨w.heap.size + 1 + 1, 1, none⟩ = y1 by simp [cellI, k2])
    have HNE := Lib.hid (fun (hne : x1 / y1 ≠ x2 / y2) => ls_ne s hne d2 d3 e2 e3 hy1.1 hy2.1)
    rw [← d1, ← e1] at HNE
    have HEQ := Lib.hid (fun (he : x1 / y1 = x2 / y2) => ls_same s (x1 := x1) (x2 := x2) (y1 := y1) (y2 := y2) he)
    have q1 : IntKind.i64.wrap (x1 / y1 * y1) = x1 / y1 * y1 := IntWalk.i64_in _ (by omega)
    have q2 : IntKind.i64.wrap (x2 / y2 * y2) = x2 / y2 * y2 := IntWalk.i64_in _ (by omega)
    obtain ⟨p, hp⟩ : ∃ p, p = x1 - x1 / y1 * y1 := ⟨_, rfl⟩
    obtain ⟨q, hq⟩ : ∃ q, q = x2 - x2 / y2 * y2 := ⟨_, rfl⟩
    have q3 : IntKind.i64.wrap (x1 - x1 / y1 * y1) = p := by rw [hp]; exact IntWalk.i64_in _ (by omega)
    have q4 : IntKind.i64.wrap (x2 - x2 / y2 * y2) = q := by rw [hq]; exact IntWalk.i64_in _ (by omega)
    rw [← hp] at d2 d3 HEQ
    rw [← hq] at e2 e3 HEQ
    clear hval hw d1 e1 d4 d5 e4 e5 hp hq
    generalize x1 / y1 = M at *
    generalize x2 / y2 = N at *
    go_wp2_with fail
    go_at_call 52
    refine (HF1.out _).mono ?_
    rintro e u1 ⟨rfl, hu1⟩
    have HU1 := Lib.hid (HWR.out.keep hu1)
    clear k1 k2 k3 k4 hu1
    obtain ⟨k1, k2⟩ := cell_fr HU1.out.2.1
    obtain ⟨k3, k4⟩ := cell_fr HU1.out.2.2
    go_wp2_with fail
    go_at_call 52
    refine (HF2.out _).mono ?_
    rintro e u2 ⟨rfl, hu2⟩
    have HU2 := Lib.hid (HU1.out.keep hu2)
    clear k1 k2 k3 k4 hu2
    obtain ⟨k1, k2⟩ := cell_fr HU2.out.2.1
    obtain ⟨k3, k4⟩ := cell_fr HU2.out.2.2
    by_cases hMN : M = N
    · have HE2 := Lib.hid (HEQ.out hMN)
      have hmb : (M != N) = false := by simpa using hMN
      have hmp : (M = N) = True := eq_true hMN
      clear HEQ HNE hMN
      by_cases hz : p = 0 ∨ q = 0
      · have HZ := Lib.hid (ls_zero s d2 e2 hy1.1 hy2.1 hz)
        have HF := Lib.hid (HV.out.symm.trans (HE2.out.trans HZ.out))
        rcases Int.lt_or_eq_of_le d2 with hp | hp
        · obtain rfl : q = 0 := by omega
          have hpn : (p = 0) = False := eq_false (by omega)
          have hpb : (p == 0) = false := by simpa using (show ¬ p = 0 by omega)
          have hpd : decide (0 < p) = true := decide_eq_true hp
          cases s
          · have HF2 := Lib.hid (show false = R by rw [HF.out]; simp [hpn])
            go_wp2_with fail
            all_goals (go_ret; exact ⟨ret_bool HF2.out, HU2.out.1⟩)
          · have HF2 := Lib.hid (show true = R by rw [HF.out]; simp [hp])
            go_wp2_with fail
            all_goals (go_ret; exact ⟨ret_bool HF2.out, HU2.out.1⟩)
        · subst hp
          rcases Int.lt_or_eq_of_le e2 with hq | hq
          · have hqn : (q = 0) = False := eq_false (by omega)
            have hqb : (q == 0) = false := by simpa using (show ¬ q = 0 by omega)
            have hqd : decide (0 < q) = true := decide_eq_true hq
            cases s
            · have HF2 := Lib.hid (show true = R by rw [HF.out]; simp [hq])
              go_wp2_with fail
              all_goals (go_ret; exact ⟨ret_bool HF2.out, HU2.out.1⟩)
            · have HF2 := Lib.hid (show false = R by rw [HF.out]; simp [hqn])
              go_wp2_with fail
              all_goals (go_ret; exact ⟨ret_bool HF2.out, HU2.out.1⟩)
          · subst hq
            have HF2 := Lib.hid (show false = R by rw [HF.out]; cases s <;> simp)
            cases s
            · go_wp2_with fail
              all_goals (go_ret; exact ⟨ret_bool HF2.out, HU2.out.1⟩)
            · go_wp2_with fail
              all_goals (go_ret; exact ⟨ret_bool HF2.out, HU2.out.1⟩)
      · have hpn : (p = 0) = False := eq_false (by omega)
        have hqn : (q = 0) = False := eq_false (by omega)
        have hpb : (p == 0) = false := by simpa using (show ¬ p = 0 by omega)
        have hqb : (q == 0) = false := by simpa using (show ¬ q = 0 by omega)
        have hp0 : 0 < p := by omega
        have hq0 : 0 < q := by omega
        clear hz
        have f1 : ∀ o, u2.frozen? ⟨w.heap.size + 1 + 1, o, none⟩ = false := fun o => by simp [World.frozen?, HU2.out.2.1]
        have f2 : ∀ o, u2.frozen? ⟨w.heap.size + 1 + 1 + 1, o, none⟩ = false := fun o => by simp [World.frozen?, HU2.out.2.2]
        have HT := Lib.hid (HV.out.symm.trans (HE2.out.trans (ls_turn s p q y1 y2)))
        go_wp2_with fail
        go_roundw
        case rel => exact ⟨!s, y1, p, y2, q, rfl, ⟨by omega, hy1.2⟩, ⟨hp0, by omega⟩, ⟨by omega, hy2.2⟩, ⟨hq0, by omega⟩, HT.out.symm, HU2.out.turn⟩
        case measure =>
          rw [HME.out]
          have := (cell_fr (HU2.out.turn (p := p) (q := q)).2.1).2
          simp only [cellI, this]
          omega
    · have HF := Lib.hid (HV.out.symm.trans (HNE.out hMN))
      have hmb : (M != N) = true := by simpa using hMN
      go_wp2_with fail
      all_goals (go_ret; exact ⟨ret_bool (by rw [HF.out]; generalize decide (M < N) = z; cases z <;> cases s <;> rfl), HU2.out.1⟩)

end Go.Proofs.Ytpjekinmcdglbaa

/- Strong duality: the best vertex of a palette's duals is tight at free tints, and a recipe costs what it says. No condition beyond what each lemma names. -/
namespace Go.Proofs.Ytpjekinmcdglbaa
set_option linter.unusedSimpArgs false
set_option linter.unusedVariables false
set_option maxRecDepth 100000

/-! affine functions over the shades -/
structure Aff where
  k : Rat
  v : R3
def ev (e : Aff) (s : R3) : Rat := e.k + e.v.dot s
def cmb (t : Rat) (y e : Aff) : Aff := ⟨y.k + t * e.k, ⟨y.v.x + t * e.v.x, y.v.y + t * e.v.y, y.v.z + t * e.v.z⟩⟩
theorem ev_cmb (t : Rat) (y e : Aff) (s : R3) : ev (cmb t y e) s = ev y s + t * ev e s := by
  simp only [ev, cmb, R3.dot]; grind
def scl (t : Rat) (e : Aff) : Aff := ⟨t * e.k, ⟨t * e.v.x, t * e.v.y, t * e.v.z⟩⟩
theorem ev_scl (t : Rat) (e : Aff) (s : R3) : ev (scl t e) s = t * ev e s := by
  simp only [ev, scl, R3.dot]; grind
theorem ev_diff (e : Aff) (a b : R3) : e.v.dot (b.sub a) = ev e b - ev e a := by
  simp only [ev, R3.sub, R3.dot]; grind
def Vani (s : Nat → R3) (e : Aff) (L : List Nat) : Prop := ∀ i ∈ L, ev e (s i) = 0
def Spans (s : Nat → R3) (n : Nat) (L : List Nat) : Prop := ∀ e, Vani s e L → ∀ j, j < n → ev e (s j) = 0
def Ind (s : Nat → R3) (L : List Nat) : Prop := ∀ i ∈ L, ∃ e, ev e (s i) ≠ 0 ∧ ∀ j ∈ L, j ≠ i → ev e (s j) = 0
def Feas (s : Nat → R3) (p : Nat → Rat) (n : Nat) (y : Aff) : Prop := ∀ i, i < n → ev y (s i) ≤ p i
def Tgt (s : Nat → R3) (p : Nat → Rat) (y : Aff) (L : List Nat) : Prop := ∀ i ∈ L, ev y (s i) = p i
theorem Ind.sub {s : Nat → R3} {L M : List Nat} (h : Ind s L) (hm : ∀ i ∈ M, i ∈ L) : Ind s M := fun i hi => by
  obtain ⟨e, h1, h2⟩ := h i (hm i hi)
  exact ⟨e, h1, fun j hj hne => h2 j (hm j hj) hne⟩
theorem argmin (P : Nat → Prop) (f : Nat → Rat) : ∀ n, (∃ j, j < n ∧ P j) → ∃ j, j < n ∧ P j ∧ ∀ i, i < n → P i → f j ≤ f i
  | 0 => fun ⟨j, h, _⟩ => by omega
  | n + 1 => fun ⟨j, h, hp⟩ => by
    by_cases hn : ∃ j, j < n ∧ P j
    · obtain ⟨m, hm, hP, hmin⟩ := argmin P f n hn
      by_cases hl : P n ∧ f n ≤ f m
      · refine ⟨n, by omega, hl.1, fun i hi hPi => ?_⟩
        by_cases e : i = n
        · subst e; exact Rat.le_refl
        · exact Rat.le_trans hl.2 (hmin i (by omega) hPi)
      · refine ⟨m, by omega, hP, fun i hi hPi => ?_⟩
        by_cases e : i = n
        · subst e
          rcases (Rat.le_total : f i ≤ f m ∨ f m ≤ f i) with h | h
          · exact absurd ⟨hPi, h⟩ hl
          · exact h
        · exact hmin i (by omega) hPi
    · have e : j = n := by
        apply Classical.byContradiction
        intro hne
        exact hn ⟨j, by omega, hp⟩
      subst e
      refine ⟨j, h, hp, fun i hi hPi => ?_⟩
      by_cases e : i = j
      · subst e; exact Rat.le_refl
      · exact absurd ⟨i, by omega, hPi⟩ hn
theorem div_mul_self (a b : Rat) (hb : 0 < b) : a / b * b = a := by grind
theorem move {s : Nat → R3} {p : Nat → Rat} {n : Nat} {y e : Aff} (hy : Feas s p n y) (he : ∃ j, j < n ∧ 0 < ev e (s j)) :
    ∃ t, 0 ≤ t ∧ Feas s p n (cmb t y e) ∧ (∃ j, j < n ∧ 0 < ev e (s j) ∧ ev (cmb t y e) (s j) = p j) ∧ ((∀ i, i < n → ev y (s i) = p i → ev e (s i) ≤ 0) → 0 < t) := by
  obtain ⟨j, hj, hp, hmin⟩ := argmin (fun j => 0 < ev e (s j)) (fun j => (p j - ev y (s j)) / ev e (s j)) n he
  have hdm := div_mul_self (p j - ev y (s j)) (ev e (s j)) hp
  have hsl : 0 ≤ p j - ev y (s j) := by have := hy j hj; grind
  have h0 : 0 ≤ (p j - ev y (s j)) / ev e (s j) := rdiv_nn hsl hp
  refine ⟨(p j - ev y (s j)) / ev e (s j), h0, fun i hi => ?_, ⟨j, hj, hp, ?_⟩, fun ht => ?_⟩
  · rw [ev_cmb]
    have hyi := hy i hi
    by_cases hpos : 0 < ev e (s i)
    · have h1 := hmin i hi hpos
      have h2 := div_mul_self (p i - ev y (s i)) (ev e (s i)) hpos
      have h3 := Rat.mul_le_mul_of_nonneg_right h1 (show 0 ≤ ev e (s i) by grind)
      grind
    · have h3 := rmul_nn h0 (show 0 ≤ - ev e (s i) by grind)
      grind
  · rw [ev_cmb, hdm]; grind
  · apply Classical.byContradiction
    intro hn
    have hz : (p j - ev y (s j)) / ev e (s j) = 0 := by grind
    rw [hz] at hdm
    have := ht j hj (by grind)
    grind
/-! independent shades -/
theorem ind2 {s : Nat → R3} {a b : Nat} (hab : a ≠ b) (h : Ind s [a, b]) : ¬ ((s b).sub (s a)).zero := by
  intro hz
  obtain ⟨e, h1, h2⟩ := h a (by simp)
  have h3 := h2 b (by simp) (Ne.symm hab)
  have h4 := ev_diff e (s a) (s b)
  obtain ⟨z1, z2, z3⟩ := hz
  simp only [R3.dot, z1, z2, z3] at h4
  grind
theorem ind3 {s : Nat → R3} {a b c : Nat} (hab : a ≠ b) (hac : a ≠ c) (hbc : b ≠ c) (h : Ind s [a, b, c]) : ¬ (((s b).sub (s a)).cross ((s c).sub (s a))).zero := by
  intro hz
  have hu := rdot_pos (ind2 hab (h.sub (M := [a, b]) (by intro i hi; simp at hi ⊢; rcases hi with rfl | rfl <;> simp)))
  obtain ⟨e, h1, h2⟩ := h c (by simp)
  have h3 := h2 a (by simp) hac
  have h4 := h2 b (by simp) hbc
  have h5 := ev_diff e (s a) (s b)
  have h6 := ev_diff e (s a) (s c)
  obtain ⟨l1, l2, l3⟩ := lineOf _ _ hz
  generalize (s b).sub (s a) = u at *
  generalize (s c).sub (s a) = v at *
  have h7 : u.dot u * e.v.dot v = u.dot v * e.v.dot u := by
    generalize u.dot u = A at *
    generalize u.dot v = B at *
    simp only [R3.dot]; grind
  have h8 : u.dot u * ev e (s c) = 0 := by grind
  rcases Rat.mul_eq_zero.1 h8 with h | h
  · grind
  · exact h1 h
theorem spanid (u w t e : R3) : ((u.cross w).dot (u.cross w)) * e.dot t = ((t.cross w).dot (u.cross w)) * e.dot u + ((u.cross t).dot (u.cross w)) * e.dot w + ((u.cross w).dot t) * e.dot (u.cross w) := by
  simp only [R3.dot, R3.cross]; grind
theorem ind4 {s : Nat → R3} {a b c d : Nat} (hab : a ≠ b) (hac : a ≠ c) (hbc : b ≠ c) (had : a ≠ d) (hbd : b ≠ d) (hcd : c ≠ d) (h : Ind s [a, b, c, d]) : (((s b).sub (s a)).cross ((s c).sub (s a))).dot ((s d).sub (s a)) ≠ 0 := by
  intro hz
  have hu := rdot_pos (ind3 hab hac hbc (h.sub (M := [a, b, c]) (by intro i hi; simp at hi ⊢; rcases hi with rfl | rfl | rfl <;> simp)))
  obtain ⟨e, h1, h2⟩ := h d (by simp)
  have h3 := h2 a (by simp) had
  have h4 := h2 b (by simp) hbd
  have h5 := h2 c (by simp) hcd
  have h6 := ev_diff e (s a) (s b)
  have h7 := ev_diff e (s a) (s c)
  have h8 := ev_diff e (s a) (s d)
  have h9 := spanid ((s b).sub (s a)) ((s c).sub (s a)) ((s d).sub (s a)) e.v
  rw [hz, h6, h7, h8, h3, h4, h5] at h9
  have h10 : (((s b).sub (s a)).cross ((s c).sub (s a))).dot (((s b).sub (s a)).cross ((s c).sub (s a))) * ev e (s d) = 0 := by grind
  rcases Rat.mul_eq_zero.1 h10 with h | h
  · grind
  · exact h1 h
theorem allid (u w t v : R3) : (u.cross w).dot t * v.x = v.dot u * (w.cross t).x + v.dot w * (t.cross u).x + v.dot t * (u.cross w).x ∧ (u.cross w).dot t * v.y = v.dot u * (w.cross t).y + v.dot w * (t.cross u).y + v.dot t * (u.cross w).y ∧ (u.cross w).dot t * v.z = v.dot u * (w.cross t).z + v.dot w * (t.cross u).z + v.dot t * (u.cross w).z := by
  simp only [R3.dot, R3.cross]; refine ⟨?_, ?_, ?_⟩ <;> grind
theorem all4 {s : Nat → R3} {a b c d : Nat} (hn : (((s b).sub (s a)).cross ((s c).sub (s a))).dot ((s d).sub (s a)) ≠ 0) {e : Aff} (h : Vani s e [a, b, c, d]) : ∀ z, ev e z = 0 := by
  intro z
  have h3 := h a (by simp)
  have h4 := h b (by simp)
  have h5 := h c (by simp)
  have h5' := h d (by simp)
  have h6 := ev_diff e (s a) (s b)
  have h7 := ev_diff e (s a) (s c)
  have h8 := ev_diff e (s a) (s d)
  obtain ⟨i1, i2, i3⟩ := allid ((s b).sub (s a)) ((s c).sub (s a)) ((s d).sub (s a)) e.v
  rw [h6, h7, h8, h3, h4, h5, h5'] at i1 i2 i3
  have v1 : e.v.x = 0 := by rcases Rat.mul_eq_zero.1 (show _ * e.v.x = 0 by rw [i1]; grind) with h | h; exact absurd h hn; exact h
  have v2 : e.v.y = 0 := by rcases Rat.mul_eq_zero.1 (show _ * e.v.y = 0 by rw [i2]; grind) with h | h; exact absurd h hn; exact h
  have v3 : e.v.z = 0 := by rcases Rat.mul_eq_zero.1 (show _ * e.v.z = 0 by rw [i3]; grind) with h | h; exact absurd h hn; exact h
  simp only [ev, R3.dot, v1, v2, v3] at h3 ⊢
  grind
/-! from a dual to a vertex -/
def HullF (s : Nat → R3) (n : Nat) (x : R3) : Prop := ∀ e : Aff, (∀ j, j < n → ev e (s j) ≤ 0) → ev e x ≤ 0
theorem HullF.zero {s : Nat → R3} {n : Nat} {x : R3} (hx : HullF s n x) {e : Aff} (h : ∀ j, j < n → ev e (s j) = 0) : ev e x = 0 := by
  have h1 := hx e (fun j hj => by rw [h j hj]; exact Rat.le_refl)
  have h2 := hx (scl (-1) e) (fun j hj => by rw [ev_scl, h j hj]; grind)
  rw [ev_scl] at h2
  grind
/-- a direction that keeps the tight ones, does not lower the value, and is blocked somewhere -/
theorem direction {s : Nat → R3} {n : Nat} {x : R3} (hx : HullF s n x) {L : List Nat} (hs : ¬ Spans s n L) :
    ∃ e, Vani s e L ∧ 0 ≤ ev e x ∧ ∃ j, j < n ∧ 0 < ev e (s j) := by
  have : ∃ e, Vani s e L ∧ ∃ j, j < n ∧ ev e (s j) ≠ 0 := by
    apply Classical.byContradiction
    intro hn
    refine hs fun e he j hj => ?_
    apply Classical.byContradiction
    intro hne
    exact hn ⟨e, he, j, hj, hne⟩
  obtain ⟨e, he, j, hj, hne⟩ := this
  have hV : ∀ t, Vani s (scl t e) L := fun t i hi => by rw [ev_scl, he i hi]; grind
  have hpos : ∀ t : Rat, 0 ≤ t * ev e x → t ≠ 0 → ∃ e', Vani s e' L ∧ 0 ≤ ev e' x ∧ ∃ j, j < n ∧ 0 < ev e' (s j) := by
    intro t ht ht0
    by_cases hp : ∃ j, j < n ∧ 0 < ev (scl t e) (s j)
    · exact ⟨scl t e, hV t, by rw [ev_scl]; exact ht, hp⟩
    · have hle : ∀ j, j < n → ev (scl t e) (s j) ≤ 0 := fun j hj => by
        apply Classical.byContradiction
        intro h
        exact hp ⟨j, hj, by grind⟩
      have h1 := hx _ hle
      rw [ev_scl] at h1
      refine ⟨scl (-t) e, hV _, by rw [ev_scl]; grind, j, hj, ?_⟩
      have h2 := hle j hj
      rw [ev_scl] at h2 ⊢
      have h3 : t * ev e (s j) ≠ 0 := fun h => by
        rcases Rat.mul_eq_zero.1 h with h | h
        · exact ht0 h
        · exact hne h
      grind
  rcases (Rat.le_total : 0 ≤ ev e x ∨ ev e x ≤ 0) with h | h
  · exact hpos 1 (by grind) (by grind)
  · exact hpos (-1) (by grind) (by grind)
theorem Ind.cons {s : Nat → R3} {L : List Nat} {j : Nat} {e : Aff} (hL : Ind s L) (he : Vani s e L) (hj : ev e (s j) ≠ 0) : Ind s (j :: L) := by
  have hjL : j ∉ L := fun h => hj (he j h)
  intro i hi
  rcases List.mem_cons.1 hi with rfl | hi
  · refine ⟨e, hj, fun k hk hne => ?_⟩
    rcases List.mem_cons.1 hk with rfl | hk
    · exact absurd rfl hne
    · exact he k hk
  · obtain ⟨d, h1, h2⟩ := hL i hi
    have hq : ev d (s j) / ev e (s j) * ev e (s j) = ev d (s j) := by grind
    refine ⟨cmb (-(ev d (s j) / ev e (s j))) d e, ?_, fun k hk hne => ?_⟩
    · rw [ev_cmb, he i hi]; grind
    · rw [ev_cmb]
      rcases List.mem_cons.1 hk with rfl | hk
      · grind
      · rw [h2 k hk hne, he k hk]; grind
theorem grow {s : Nat → R3} {p : Nat → Rat} {n : Nat} {x : R3} (hx : HullF s n x) {y : Aff} {L : List Nat} (hy : Feas s p n y) (ht : Tgt s p y L) (hi : Ind s L) (hs : ¬ Spans s n L) :
    ∃ y' j, Feas s p n y' ∧ ev y x ≤ ev y' x ∧ j < n ∧ j ∉ L ∧ Tgt s p y' (j :: L) ∧ Ind s (j :: L) := by
  obtain ⟨e, he, hex, hep⟩ := direction hx hs
  obtain ⟨t, h0, hf, ⟨j, hj, hjp, hjt⟩, _⟩ := move hy hep
  refine ⟨cmb t y e, j, hf, ?_, hj, fun h => by have := he j h; grind, fun i hi => ?_, hi.cons he (by grind)⟩
  · rw [ev_cmb]
    have := rmul_nn h0 hex
    grind
  · rcases List.mem_cons.1 hi with rfl | hi
    · exact hjt
    · rw [ev_cmb, ht i hi, he i hi]; grind
def Vtx (s : Nat → R3) (p : Nat → Rat) (n : Nat) (y : Aff) (L : List Nat) : Prop := Feas s p n y ∧ Tgt s p y L ∧ Ind s L ∧ Spans s n L ∧ ∀ i ∈ L, i < n
theorem vertex {s : Nat → R3} {p : Nat → Rat} {n : Nat} {x : R3} (hx : HullF s n x) : ∀ (d : Nat) (y : Aff) (L : List Nat), L.length + d = 4 → L.Nodup → (∀ i ∈ L, i < n) → Feas s p n y → Tgt s p y L → Ind s L → ∃ y' L', Vtx s p n y' L' ∧ ev y x ≤ ev y' x
  | d, y, L => by
    intro hl hnd hlt hy ht hi
    by_cases hs : Spans s n L
    · exact ⟨y, L, ⟨hy, ht, hi, hs, hlt⟩, Rat.le_refl⟩
    · match d with
      | 0 =>
        exfalso
        apply hs
        match L, hl with
        | [a, b, c, d], _ =>
          simp only [List.nodup_cons, List.mem_cons, List.not_mem_nil, not_or, or_false] at hnd
          obtain ⟨⟨h1, h2, h3⟩, ⟨h4, h5⟩, h6, _⟩ := hnd
          exact fun e he j _ => all4 (ind4 h1 h2 h4 h3 h5 h6 hi) he _
      | d + 1 =>
        obtain ⟨y1, j, f1, v1, j1, j2, t1, i1⟩ := grow hx hy ht hi hs
        obtain ⟨y', L', h', v'⟩ := vertex hx d y1 (j :: L) (by simp; omega) (List.nodup_cons.2 ⟨j2, hnd⟩) (fun i hi => by
          rcases List.mem_cons.1 hi with rfl | hi
          · exact j1
          · exact hlt i hi) f1 t1 i1
        exact ⟨y', L', h', Rat.le_trans v1 v'⟩
/-- a vertex whose tight tints ascend -/
theorem vertex_asc {s : Nat → R3} {p : Nat → Rat} {n : Nat} {x : R3} (hx : HullF s n x) {y : Aff} (hy : Feas s p n y) : ∃ y' L', Vtx s p n y' L' ∧ L'.Pairwise (· < ·) ∧ ev y x ≤ ev y' x := by
  obtain ⟨y', L, ⟨h1, h2, h3, h4, h5⟩, hv⟩ := vertex hx 4 y [] rfl List.nodup_nil (fun _ h => by cases h) hy (fun _ h => by cases h) (fun _ h => by cases h)
  have hm : ∀ i, i ∈ (List.range n).filter (fun i => decide (i ∈ L)) ↔ i ∈ L := fun i => by
    simp only [List.mem_filter, List.mem_range, decide_eq_true_eq]
    exact ⟨fun h => h.2, fun h => ⟨h5 i h, h⟩⟩
  refine ⟨y', (List.range n).filter (fun i => decide (i ∈ L)), ⟨h1, fun i hi => h2 i ((hm i).1 hi), h3.sub fun i hi => (hm i).1 hi, fun e he => h4 e fun i hi => he i ((hm i).2 hi), fun i hi => h5 i ((hm i).1 hi)⟩, ?_, hv⟩
  exact List.Pairwise.filter _ List.pairwise_lt_range
theorem pw_ne {a b : Nat} (h : a < b) : a ≠ b := by omega
/-- independent shades are at most four -/
theorem ind_len {s : Nat → R3} {L : List Nat} (hi : Ind s L) (hp : L.Pairwise (· < ·)) : L.length ≤ 4 := by
  match L with
  | [] | [_] | [_, _] | [_, _, _] | [_, _, _, _] => simp
  | a :: b :: c :: d :: f :: r =>
    exfalso
    simp only [List.pairwise_cons, List.mem_cons, forall_eq_or_imp] at hp
    obtain ⟨⟨h1, h2, h3, h4, _⟩, ⟨h5, h6, h7, _⟩, ⟨h8, h9, _⟩, ⟨h10, _⟩, _⟩ := hp
    obtain ⟨e, e1, e2⟩ := hi f (by simp)
    refine e1 (all4 (ind4 (pw_ne h1) (pw_ne h2) (pw_ne h5) (pw_ne h3) (pw_ne h6) (pw_ne h8) (hi.sub (M := [a, b, c, d]) ?_)) (e := e) ?_ _)
    · intro i hi; simp at hi ⊢; rcases hi with rfl | rfl | rfl | rfl <;> simp
    · intro i hi
      simp at hi
      rcases hi with rfl | rfl | rfl | rfl
      · exact e2 _ (by simp) (by omega)
      · exact e2 _ (by simp) (by omega)
      · exact e2 _ (by simp) (by omega)
      · exact e2 _ (by simp) (by omega)
theorem best_fin {α : Type} (R : α → Rat → Prop) (hu : ∀ l v v', R l v → R l v' → v = v') : ∀ Ls : List α, (∃ l ∈ Ls, ∃ v, R l v) → ∃ l ∈ Ls, ∃ v, R l v ∧ ∀ l' ∈ Ls, ∀ v', R l' v' → v' ≤ v
  | [] => fun ⟨_, h, _⟩ => by cases h
  | a :: Ls => fun ⟨l, hl, v, hv⟩ => by
    by_cases hr : ∃ l ∈ Ls, ∃ v, R l v
    · obtain ⟨m, hm, w, hw, hmax⟩ := best_fin R hu Ls hr
      by_cases ha : ∃ u, R a u ∧ w ≤ u
      · obtain ⟨u, hau, hle⟩ := ha
        refine ⟨a, by simp, u, hau, fun l' hl' v' hv' => ?_⟩
        rcases List.mem_cons.1 hl' with rfl | h
        · rw [hu _ _ _ hv' hau]; exact Rat.le_refl
        · exact Rat.le_trans (hmax _ h _ hv') hle
      · refine ⟨m, List.mem_cons_of_mem _ hm, w, hw, fun l' hl' v' hv' => ?_⟩
        rcases List.mem_cons.1 hl' with rfl | h
        · rcases (Rat.le_total : v' ≤ w ∨ w ≤ v') with h | h
          · exact h
          · exact absurd ⟨v', hv', h⟩ ha
        · exact hmax _ h _ hv'
    · have e : l = a := by
        rcases List.mem_cons.1 hl with h | h
        · exact h
        · exact absurd ⟨l, h, v, hv⟩ hr
      subst e
      refine ⟨l, by simp, v, hv, fun l' hl' v' hv' => ?_⟩
      rcases List.mem_cons.1 hl' with rfl | h
      · rw [hu _ _ _ hv' hv]; exact Rat.le_refl
      · exact absurd ⟨l', h, v', hv'⟩ hr
/-- THE BEST VERTEX: no direction raises the value and keeps its tight tints from growing -/
theorem best_vertex {s : Nat → R3} {p : Nat → Rat} {n : Nat} {x : R3} (hx : HullF s n x) (hp : ∀ i, i < n → 0 ≤ p i) {Ls : List (List Nat)} (hLs : ∀ L, Ind s L → L.Pairwise (· < ·) → (∀ i ∈ L, i < n) → Spans s n L → L ∈ Ls) :
    ∃ L y, L ∈ Ls ∧ Vtx s p n y L ∧ ∀ e : Aff, (∀ i, i < n → ev y (s i) = p i → ev e (s i) ≤ 0) → ev e x ≤ 0 := by
  have h0 : Feas s p n ⟨0, ⟨0, 0, 0⟩⟩ := fun i hi => by
    have := hp i hi
    simp only [ev, R3.dot]; grind
  obtain ⟨y0, L0, k0, a0, _⟩ := vertex_asc hx h0
  obtain ⟨L, hL, v, ⟨y, hy, rfl⟩, hmax⟩ := best_fin (fun L v => ∃ y, Vtx s p n y L ∧ ev y x = v) (by
    rintro L v v' ⟨y, hy, rfl⟩ ⟨y', hy', rfl⟩
    have hz := hx.zero (hy.2.2.2.1 (cmb (-1) y y') (fun i hi => by rw [ev_cmb, hy.2.1 i hi, hy'.2.1 i hi]; grind))
    rw [ev_cmb] at hz
    grind) Ls ⟨L0, hLs L0 k0.2.2.1 a0 k0.2.2.2.2 k0.2.2.2.1, _, y0, k0, rfl⟩
  refine ⟨L, y, hL, hy, fun e he => ?_⟩
  apply Classical.byContradiction
  intro hne
  have hpos : ∃ j, j < n ∧ 0 < ev e (s j) := by
    apply Classical.byContradiction
    intro h
    refine hne (hx e fun j hj => ?_)
    apply Classical.byContradiction
    intro h'
    exact h ⟨j, hj, by grind⟩
  obtain ⟨t, t0, hf, _, ht⟩ := move hy.1 hpos
  have htp := ht he
  obtain ⟨y1, L1, k1, a1, v1⟩ := vertex_asc hx hf
  have h2 := hmax L1 (hLs L1 k1.2.2.1 a1 k1.2.2.2.2 k1.2.2.2.1) _ ⟨y1, k1, rfl⟩
  rw [ev_cmb] at v1
  have h3 := Rat.mul_pos htp (show 0 < ev e x by grind)
  grind
/-! shades, prices, recipes -/
def sQ (T : List T5) (i : Nat) : R3 := cV (sh3 T i)
def pQ (T : List T5) (i : Nat) : Rat := ((tP T i : Int) : Rat)
def rsum (P : List (Int × Int)) (f : Nat → Rat) : Nat → Rat
  | 0 => 0
  | k + 1 => rsum P f k + ((pW P k : Int) : Rat) * f (pT P k).toNat
theorem rsum_ev (T : List T5) (P : List (Int × Int)) (e : Aff) : ∀ k, rsum P (fun i => ev e (sQ T i)) k = e.k * ((sumW P k : Int) : Rat) + e.v.x * ((sumT P (tA T) k : Int) : Rat) + e.v.y * ((sumT P (tB T) k : Int) : Rat) + e.v.z * ((sumT P (tC T) k : Int) : Rat)
  | 0 => by simp [rsum, sumW, sumT]; grind
  | k + 1 => by
    have ih := rsum_ev T P e k
    show rsum P (fun i => ev e (sQ T i)) k + ((pW P k : Int) : Rat) * ev e (sQ T (pT P k).toNat) = _
    rw [ih]
    simp only [sumW, sumT, ev, sQ, cV, sh3, R3.dot, Rat.intCast_add, Rat.intCast_mul]; grind
theorem rsum_price (T : List T5) (P : List (Int × Int)) : ∀ k, rsum P (pQ T) k = ((sumT P (tP T) k : Int) : Rat)
  | 0 => by simp [rsum, sumT]
  | k + 1 => by simp only [rsum, sumT, rsum_price T P k, pQ, Rat.intCast_add, Rat.intCast_mul]
theorem rsum_congr {P : List (Int × Int)} {f g : Nat → Rat} : ∀ {k : Nat}, (∀ i, i < k → f (pT P i).toNat = g (pT P i).toNat) → rsum P f k = rsum P g k
  | 0, _ => rfl
  | k + 1, h => by simp only [rsum]; rw [rsum_congr (fun i hi => h i (by omega)), h k (by omega)]
theorem cast_nn {w : Int} (h : 0 ≤ w) : (0 : Rat) ≤ (w : Rat) := by
  have : ((0 : Int) : Rat) ≤ (w : Rat) := Rat.intCast_le_intCast.2 h
  simpa using this
theorem cast_ps {w : Int} (h : 0 < w) : (0 : Rat) < (w : Rat) := by
  have : ((0 : Int) : Rat) < (w : Rat) := Rat.intCast_lt_intCast.2 h
  simpa using this
theorem rsum_le {P : List (Int × Int)} {f : Nat → Rat} : ∀ {k : Nat}, (∀ i, i < k → 1 ≤ pW P i ∧ f (pT P i).toNat ≤ 0) → rsum P f k ≤ 0
  | 0, _ => Rat.le_refl
  | k + 1, h => by
    have h1 := rsum_le (P := P) (f := f) (k := k) fun i hi => h i (by omega)
    obtain ⟨h2, h3⟩ := h k (by omega)
    have h4 := rmul_nn (cast_nn (show 0 ≤ pW P k by omega)) (show 0 ≤ - f (pT P k).toNat by grind)
    simp only [rsum]; grind
/-- what a function of the shades sums to over a recipe -/
theorem rcp_ev {T : List T5} {n : Nat} {a b c : Int} {x : List (Int × Int)} (hS : shOk T) (ha : 0 ≤ a ∧ a ≤ 1000) (hb : 0 ≤ b ∧ b ≤ 1000) (hc : 0 ≤ c ∧ c ≤ 1000) (h : x ∈ rcpL T n a b c) (e : Aff) :
    rsum x (fun i => ev e (sQ T i)) x.length = ((sumW x x.length : Int) : Rat) * ev e (cV ⟨a, b, c⟩) := by
  obtain ⟨_, h1, h2, h3⟩ := rcp_spec hS ha hb hc h
  rw [rsum_ev, h1, h2, h3]
  simp only [ev, cV, R3.dot, Rat.intCast_mul]; grind
theorem rcp_W {T : List T5} {n : Nat} {a b c : Int} {x : List (Int × Int)} (hS : shOk T) (ha : 0 ≤ a ∧ a ≤ 1000) (hb : 0 ≤ b ∧ b ≤ 1000) (hc : 0 ≤ c ∧ c ≤ 1000) (h : x ∈ rcpL T n a b c) : 0 < sumW x x.length := by
  obtain ⟨⟨⟨l1, l4⟩, hi, hg⟩, _⟩ := rcp_spec hS ha hb hc h
  have := sumW_ge (P := x) (k := x.length) (fun i hh => (hi i hh).1.1)
  omega
theorem hull_of {T : List T5} {n : Nat} {a b c : Int} {x : List (Int × Int)} (hS : shOk T) (ha : 0 ≤ a ∧ a ≤ 1000) (hb : 0 ≤ b ∧ b ≤ 1000) (hc : 0 ≤ c ∧ c ≤ 1000) (h : x ∈ rcpL T n a b c) : HullF (sQ T) n (cV ⟨a, b, c⟩) := by
  intro e he
  have h1 := rcp_ev hS ha hb hc h e
  have hW := cast_ps (rcp_W hS ha hb hc h)
  obtain ⟨⟨_, hi, hg⟩, _⟩ := rcp_spec hS ha hb hc h
  have h2 : rsum x (fun i => ev e (sQ T i)) x.length ≤ 0 := rsum_le fun i hh => ⟨(hi i hh).1.1, he _ (by have := (hi i hh).2.1; omega)⟩
  apply Classical.byContradiction
  intro hn
  have := Rat.mul_pos hW (show 0 < ev e (cV ⟨a, b, c⟩) by grind)
  grind
theorem cost_tight {T : List T5} {n : Nat} {a b c : Int} {x : List (Int × Int)} (hS : shOk T) (ha : 0 ≤ a ∧ a ≤ 1000) (hb : 0 ≤ b ∧ b ≤ 1000) (hc : 0 ≤ c ∧ c ≤ 1000) (h : x ∈ rcpL T n a b c) (y : Aff) (ht : ∀ i, i < x.length → ev y (sQ T (pT x i).toNat) = pQ T (pT x i).toNat) :
    ((sumT x (tP T) x.length : Int) : Rat) = ((sumW x x.length : Int) : Rat) * ev y (cV ⟨a, b, c⟩) := by
  rw [← rcp_ev hS ha hb hc h y, ← rsum_price]
  exact rsum_congr fun i hi => (ht i hi).symm
/-! some of the tints -/
def subT (T : List T5) (I : List Nat) : List T5 := I.map fun i => T.getD i (ByteArray.empty, 0, 0, 0, 0)
theorem subT_at (T : List T5) (I : List Nat) {k : Nat} (hk : k < I.length) : (subT T I).getD k (ByteArray.empty, 0, 0, 0, 0) = T.getD (I.getD k 0) (ByteArray.empty, 0, 0, 0, 0) := by
  simp [subT, List.getD_eq_getElem?_getD, hk]
theorem sh3_sub (T : List T5) (I : List Nat) {k : Nat} (hk : k < I.length) : sh3 (subT T I) k = sh3 T (I.getD k 0) := by
  simp only [sh3, tA, tB, tC, subT_at T I hk]
theorem rowT_sub (T : List T5) (I : List Nat) {k : Nat} (hk : k < I.length) (j : Nat) : rowT (subT T I) k j = rowT T (I.getD k 0) j := by
  simp only [rowT, tA, tB, tC, subT_at T I hk]
theorem frm_sub (T : List T5) (I pl ds : List Nat) (h : ∀ p ∈ pl, p < I.length) : frm T (pl.map fun p => I.getD p 0) ds = frm (subT T I) pl ds := by
  funext k
  unfold frm
  rw [List.length_map]
  by_cases hk : k / 4 < pl.length
  · rw [if_pos hk, if_pos hk]
    have hm : pl.getD (k / 4) 0 ∈ pl := by simp [List.getD_eq_getElem?_getD, hk]
    rw [rowT_sub T I (h _ hm)]
    congr 1
    simp [List.getD_eq_getElem?_getD, hk]
  · rw [if_neg hk, if_neg hk]
theorem frameR_sub (T : List T5) (I pl : List Nat) (h : ∀ p ∈ pl, p < I.length) : frameR T (pl.map fun p => I.getD p 0) = frameR (subT T I) pl := by
  unfold frameR
  simp only [List.length_map, frm_sub T I pl _ h]
theorem ext_asc {n : Nat} : ∀ (r pre : List Nat) (s : Nat), (∀ p ∈ r, s ≤ p ∧ p < n) → r.Pairwise (· < ·) → pre ++ r ∈ extL n r.length pre s
  | [], pre, s, _, _ => by simp [extL]
  | q :: r, pre, s, h, hp => by
    have hq := h q (by simp)
    rw [List.pairwise_cons] at hp
    have ih := ext_asc (n := n) r (pre ++ [q]) (q + 1) (fun p hpm => ⟨hp.1 p hpm, (h p (by simp [hpm])).2⟩) hp.2
    simp only [List.length_cons, extL, List.mem_flatMap, List.mem_range]
    refine ⟨q - s, by omega, ?_⟩
    have e : s + (q - s) = q := by omega
    rw [e]
    simpa using ih
theorem free_in {T : List T5} {n : Nat} {pl : List Nat} {F : Nat → Int} (h1 : 1 ≤ pl.length) (h4 : pl.length ≤ 4) (hp : pl.Pairwise (· < ·)) (hlt : ∀ p ∈ pl, p < n) (hf : frF T pl = some (pl, F)) : (pl, F) ∈ freeTo T n 4 := by
  simp only [freeTo, List.mem_flatMap, List.mem_range, List.mem_filterMap]
  refine ⟨pl.length - 1, by omega, pl, ?_, hf⟩
  have := ext_asc (n := n) pl [] 0 (fun p hpm => ⟨Nat.zero_le _, hlt p hpm⟩) hp
  rw [show pl.length - 1 + 1 = pl.length by omega]
  simpa using this
theorem map_asc {I : List Nat} (hI : I.Pairwise (· < ·)) : ∀ {pl : List Nat}, pl.Pairwise (· < ·) → (∀ p ∈ pl, p < I.length) → (pl.map fun p => I.getD p 0).Pairwise (· < ·) := by
  intro pl hp hlt
  rw [List.pairwise_map]
  refine hp.imp_of_mem ?_
  intro p q hpm hqm hpq
  have h1 := hlt p hpm
  have h2 := hlt q hqm
  rw [List.pairwise_iff_getElem] at hI
  have := hI p q h1 h2 hpq
  simpa [List.getD_eq_getElem?_getD, h1, h2] using this
/-- a recipe of some of the tints is one of all -/
theorem sub_rec {T : List T5} {n : Nat} {a b c : Int} {I : List Nat} (hI : I.Pairwise (· < ·)) (hIn : ∀ i ∈ I, i < n) (h : rcpL (subT T I) I.length a b c ≠ []) :
    ∃ x, x ∈ rcpL T n a b c ∧ ∀ i, i < x.length → (pT x i).toNat ∈ I := by
  obtain ⟨x', hx'⟩ := List.exists_mem_of_ne_nil _ h
  simp only [rcpL, List.mem_filterMap] at hx'
  obtain ⟨⟨pl, F⟩, hf, hx⟩ := hx'
  obtain ⟨ds, he, hd, ⟨l1, l4⟩, hpw, hlt⟩ := freeTo_spec hf
  simp only at he hpw hlt l1 l4 hd hx
  have hmI : ∀ i, i < pl.length → I.getD (pl.getD i 0) 0 ∈ I := fun i hi => by
    have hm : pl.getD i 0 ∈ pl := by simp [List.getD_eq_getElem?_getD, hi]
    have := hlt _ hm
    generalize pl.getD i 0 = k at *
    simp [List.getD_eq_getElem?_getD, this]
  have hfr : frF (subT T I) pl = some (pl, F) := by
    simp only [freeTo, List.mem_flatMap, List.mem_range, List.mem_filterMap] at hf
    obtain ⟨i, _, pl', _, hf⟩ := hf
    obtain ⟨_, _, e, _⟩ := frF_some hf
    have e1 : pl = pl' := by injection e
    rw [e1]; rw [← e1]; rw [← e1] at hf; exact hf
  have hfm : frF T (pl.map fun p => I.getD p 0) = some (pl.map fun p => I.getD p 0, F) := by
    unfold frF at hfr ⊢
    rw [frameR_sub T I pl hlt]
    split at hfr
    case isTrue ht =>
      rw [if_pos ht]
      injection hfr with hfr
      injection hfr with _ h2
      rw [h2]
    case isFalse => cases hfr
  have hin := free_in (n := n) (by simpa using l1) (by simpa using l4) (map_asc hI hpw hlt) (by
    intro p hp
    obtain ⟨q, hq, rfl⟩ := List.mem_map.1 hp
    have := hlt q hq
    exact hIn _ (by simp [List.getD_eq_getElem?_getD, this])) hfm
  unfold rcF at hx
  simp only at hx
  split at hx
  case isFalse => cases hx
  case isTrue hok =>
    refine ⟨mixTo (weI F (row1 a b c)) (pl.map fun p => I.getD p 0) (pl.map fun p => I.getD p 0).length, ?_, fun i hi => ?_⟩
    · simp only [rcpL, List.mem_filterMap]
      refine ⟨_, hin, ?_⟩
      unfold rcF
      simp only [List.length_map]
      rw [if_pos hok]
    · rw [mixTo_length, List.length_map] at hi
      rw [(pT_mix _ _ i (by simpa using hi)).1, Int.toNat_natCast]
      have := hmI i hi
      simpa [List.getD_eq_getElem?_getD, hi] using this
/-- independent shades have a frame -/
theorem free_of_ind {T : List T5} {n : Nat} {L : List Nat} (h0 : L ≠ []) (hi : Ind (sQ T) L) (hp : L.Pairwise (· < ·)) (hlt : ∀ i ∈ L, i < n) : ∃ F, (L, F) ∈ freeTo T n 4 := by
  have hl := ind_len hi hp
  have hc : ∀ p q, (sQ T q).sub (sQ T p) = cV ((sh3 T q).sub (sh3 T p)) := fun p q => (cV_sub _ _).symm
  have key : ∃ ds, ds ∈ extL 3 (4 - L.length) [] 0 ∧ detI (frm T L ds) ≠ 0 := by
    match L, h0, hl with
    | [p], _, _ => exact ⟨[0, 1, 2], by show [0, 1, 2] ∈ extL 3 3 [] 0; decide, by rw [det1]; decide⟩
    | [p, q], _, _ =>
      simp only [List.pairwise_cons, List.mem_cons, forall_eq_or_imp] at hp
      have := ind2 (pw_ne hp.1.1) hi
      rw [hc, cV_zero] at this
      exact det2.2 this
    | [p, q, r], _, _ =>
      simp only [List.pairwise_cons, List.mem_cons, forall_eq_or_imp] at hp
      obtain ⟨⟨h1, h2, _⟩, ⟨h3, _⟩, _⟩ := hp
      have := ind3 (pw_ne h1) (pw_ne h2) (pw_ne h3) hi
      rw [hc, hc, ← cV_cross, cV_zero] at this
      exact det3.2 this
    | [p, q, r, s], _, _ =>
      simp only [List.pairwise_cons, List.mem_cons, forall_eq_or_imp] at hp
      obtain ⟨⟨h1, h2, h3, _⟩, ⟨h4, h5, _⟩, ⟨h6, _⟩, _⟩ := hp
      have := ind4 (pw_ne h1) (pw_ne h2) (pw_ne h4) (pw_ne h3) (pw_ne h5) (pw_ne h6) hi
      rw [hc, hc, hc, ← cV_cross, ← cV_dot] at this
      exact det4x.2 (fun e => this (by show ((((nrm T p q r).dot ((sh3 T s).sub (sh3 T p))) : Int) : Rat) = 0; rw [e]; simp))
  obtain ⟨ds, hds, hd⟩ := key
  cases hf : frF T L with
  | none => exact absurd (frF_none hf ds hds) hd
  | some x =>
    obtain ⟨_, _, e, _⟩ := frF_some hf
    have h1 : 1 ≤ L.length := by cases L with | nil => exact absurd rfl h0 | cons => simp
    refine ⟨x.2, free_in h1 hl hp hlt ?_⟩
    rw [hf, e]
/-- A BEST VERTEX has a frame, and a recipe of tints that are tight there -/
theorem opt_vertex {T : List T5} {n : Nat} {a b c : Int} (htn : tnOk T) (hS : shOk T) (ha : 0 ≤ a ∧ a ≤ 1000) (hb : 0 ≤ b ∧ b ≤ 1000) (hc : 0 ≤ c ∧ c ≤ 1000) (h : rcpL T n a b c ≠ []) :
    ∃ L F y x, (L, F) ∈ freeTo T n 4 ∧ Vtx (sQ T) (pQ T) n y L ∧ x ∈ rcpL T n a b c ∧ ((sumT x (tP T) x.length : Int) : Rat) = ((sumW x x.length : Int) : Rat) * ev y (cV ⟨a, b, c⟩) := by
  obtain ⟨x0, hx0⟩ := List.exists_mem_of_ne_nil _ h
  have hx := hull_of hS ha hb hc hx0
  have hn : 0 < n := by
    obtain ⟨⟨⟨l1, _⟩, hi, _⟩, _⟩ := rcp_spec hS ha hb hc hx0
    have := (hi 0 (by omega)).2.1; omega
  obtain ⟨L, y, hL, hy, hmax⟩ := best_vertex (p := pQ T) hx (fun i _ => cast_nn (htn i).2.2.1) (Ls := (freeTo T n 4).map (·.1)) (by
    intro L hi hp hlt hs
    have h0 : L ≠ [] := by
      rintro rfl
      have := hs ⟨1, ⟨0, 0, 0⟩⟩ (fun _ h => by cases h) 0 hn
      simp only [ev, R3.dot] at this
      grind
    obtain ⟨F, hF⟩ := free_of_ind h0 hi hp hlt
    exact List.mem_map.2 ⟨_, hF, rfl⟩)
  obtain ⟨⟨L', F⟩, hF, rfl⟩ := List.mem_map.1 hL
  obtain ⟨I, hI⟩ : ∃ I, I = (List.range n).filter (fun i => decide (ev y (sQ T i) = pQ T i)) := ⟨_, rfl⟩
  have hIm : ∀ i, i ∈ I ↔ i < n ∧ ev y (sQ T i) = pQ T i := fun i => by rw [hI]; simp only [List.mem_filter, List.mem_range, decide_eq_true_eq]
  have hIp : I.Pairwise (· < ·) := by rw [hI]; exact List.Pairwise.filter _ List.pairwise_lt_range
  have hI0 : 0 < I.length := by
    cases I with
    | cons => simp
    | nil =>
      exfalso
      have := hmax ⟨1, ⟨0, 0, 0⟩⟩ (fun i hi ht => absurd ((hIm i).2 ⟨hi, ht⟩) (by simp))
      simp only [ev, R3.dot] at this
      grind
  have hr : rcpL (subT T I) I.length a b c ≠ [] := by
    rcases sep (q := qT (subT T I) ⟨a, b, c⟩) hI0 with hT | ⟨z, hz, hs⟩
    · exact tet_rec hT
    · by_cases h0 : z.zero
      · exact zero_rec hz h0
      · exfalso
        have hpos := rdot_pos h0
        have hev : ∀ p, ev ⟨z.sq + z.dot (cV ⟨a, b, c⟩), ⟨-z.x, -z.y, -z.z⟩⟩ p = z.sq + z.dot (cV ⟨a, b, c⟩) - z.dot p := fun p => by simp only [ev, R3.dot]; grind
        have h1 := hmax ⟨z.sq + z.dot (cV ⟨a, b, c⟩), ⟨-z.x, -z.y, -z.z⟩⟩ (fun i hi ht => by
          obtain ⟨k, hk, hik⟩ := List.getElem_of_mem ((hIm i).2 ⟨hi, ht⟩)
          have h2 := hs k hk
          have h3 : qT (subT T I) ⟨a, b, c⟩ k = (sQ T i).sub (cV ⟨a, b, c⟩) := by
            unfold qT
            rw [cV_sub, sh3_sub T I hk]
            have : I.getD k 0 = i := by simp [List.getD_eq_getElem?_getD, hk, hik]
            rw [this]; rfl
          rw [h3] at h2
          rw [hev]
          simp only [R3.dot, R3.sub] at h2 ⊢
          grind)
        rw [hev] at h1
        unfold R3.sq at h1
        grind
  obtain ⟨x, hxm, hxt⟩ := sub_rec hIp (fun i hi => ((hIm i).1 hi).1) hr
  exact ⟨L', F, y, x, hF, hy, hxm, cost_tight hS ha hb hc hxm y fun i hi => ((hIm _).1 (hxt i hi)).2⟩
/-! the dual that a frame gives -/
theorem co_at (f p : Nat → Int) (c k : Nat) : colTo f c p 4 k = if k = 3 * 4 + c then p 3 else if k = 2 * 4 + c then p 2 else if k = 1 * 4 + c then p 1 else if k = 0 * 4 + c then p 0 else f k := rfl
theorem crac0 (a0 a1 a2 a3 b0 b1 b2 b3 c0 c1 c2 c3 d0 d1 d2 d3 p0 p1 p2 p3 : Int) : D16 p0 a1 a2 a3 p1 b1 b2 b3 p2 c1 c2 c3 p3 d1 d2 d3 * a0 + D16 a0 p0 a2 a3 b0 p1 b2 b3 c0 p2 c2 c3 d0 p3 d2 d3 * a1 + D16 a0 a1 p0 a3 b0 b1 p1 b3 c0 c1 p2 c3 d0 d1 p3 d3 * a2 + D16 a0 a1 a2 p0 b0 b1 b2 p1 c0 c1 c2 p2 d0 d1 d2 p3 * a3 = D16 a0 a1 a2 a3 b0 b1 b2 b3 c0 c1 c2 c3 d0 d1 d2 d3 * p0 := by
  simp only [D16]
  grind
theorem crac1 (a0 a1 a2 a3 b0 b1 b2 b3 c0 c1 c2 c3 d0 d1 d2 d3 p0 p1 p2 p3 : Int) : D16 p0 a1 a2 a3 p1 b1 b2 b3 p2 c1 c2 c3 p3 d1 d2 d3 * b0 + D16 a0 p0 a2 a3 b0 p1 b2 b3 c0 p2 c2 c3 d0 p3 d2 d3 * b1 + D16 a0 a1 p0 a3 b0 b1 p1 b3 c0 c1 p2 c3 d0 d1 p3 d3 * b2 + D16 a0 a1 a2 p0 b0 b1 b2 p1 c0 c1 c2 p2 d0 d1 d2 p3 * b3 = D16 a0 a1 a2 a3 b0 b1 b2 b3 c0 c1 c2 c3 d0 d1 d2 d3 * p1 := by
  simp only [D16]
  grind
theorem crac2 (a0 a1 a2 a3 b0 b1 b2 b3 c0 c1 c2 c3 d0 d1 d2 d3 p0 p1 p2 p3 : Int) : D16 p0 a1 a2 a3 p1 b1 b2 b3 p2 c1 c2 c3 p3 d1 d2 d3 * c0 + D16 a0 p0 a2 a3 b0 p1 b2 b3 c0 p2 c2 c3 d0 p3 d2 d3 * c1 + D16 a0 a1 p0 a3 b0 b1 p1 b3 c0 c1 p2 c3 d0 d1 p3 d3 * c2 + D16 a0 a1 a2 p0 b0 b1 b2 p1 c0 c1 c2 p2 d0 d1 d2 p3 * c3 = D16 a0 a1 a2 a3 b0 b1 b2 b3 c0 c1 c2 c3 d0 d1 d2 d3 * p2 := by
  simp only [D16]
  grind
theorem crac3 (a0 a1 a2 a3 b0 b1 b2 b3 c0 c1 c2 c3 d0 d1 d2 d3 p0 p1 p2 p3 : Int) : D16 p0 a1 a2 a3 p1 b1 b2 b3 p2 c1 c2 c3 p3 d1 d2 d3 * d0 + D16 a0 p0 a2 a3 b0 p1 b2 b3 c0 p2 c2 c3 d0 p3 d2 d3 * d1 + D16 a0 a1 p0 a3 b0 b1 p1 b3 c0 c1 p2 c3 d0 d1 p3 d3 * d2 + D16 a0 a1 a2 p0 b0 b1 b2 p1 c0 c1 c2 p2 d0 d1 d2 p3 * d3 = D16 a0 a1 a2 a3 b0 b1 b2 b3 c0 c1 c2 c3 d0 d1 d2 d3 * p3 := by
  simp only [D16]
  grind
theorem crac (f p : Nat → Int) (i : Nat) (hi : i < 4) : detI (colTo f 0 p 4) * f (4 * i) + detI (colTo f 1 p 4) * f (4 * i + 1) + detI (colTo f 2 p 4) * f (4 * i + 2) + detI (colTo f 3 p 4) * f (4 * i + 3) = detI f * p i := by
  have e0 : detI (colTo f 0 p 4) = D16 (p 0) (f 1) (f 2) (f 3) (p 1) (f 5) (f 6) (f 7) (p 2) (f 9) (f 10) (f 11) (p 3) (f 13) (f 14) (f 15) := by rw [det_d16]; simp [co_at]
  have e1 : detI (colTo f 1 p 4) = D16 (f 0) (p 0) (f 2) (f 3) (f 4) (p 1) (f 6) (f 7) (f 8) (p 2) (f 10) (f 11) (f 12) (p 3) (f 14) (f 15) := by rw [det_d16]; simp [co_at]
  have e2 : detI (colTo f 2 p 4) = D16 (f 0) (f 1) (p 0) (f 3) (f 4) (f 5) (p 1) (f 7) (f 8) (f 9) (p 2) (f 11) (f 12) (f 13) (p 3) (f 15) := by rw [det_d16]; simp [co_at]
  have e3 : detI (colTo f 3 p 4) = D16 (f 0) (f 1) (f 2) (p 0) (f 4) (f 5) (f 6) (p 1) (f 8) (f 9) (f 10) (p 2) (f 12) (f 13) (f 14) (p 3) := by rw [det_d16]; simp [co_at]
  rw [e0, e1, e2, e3, det_d16]
  have : i = 0 ∨ i = 1 ∨ i = 2 ∨ i = 3 := by omega
  rcases this with rfl | rfl | rfl | rfl
  · exact crac0 (f 0) (f 1) (f 2) (f 3) (f 4) (f 5) (f 6) (f 7) (f 8) (f 9) (f 10) (f 11) (f 12) (f 13) (f 14) (f 15) (p 0) (p 1) (p 2) (p 3)
  · exact crac1 (f 0) (f 1) (f 2) (f 3) (f 4) (f 5) (f 6) (f 7) (f 8) (f 9) (f 10) (f 11) (f 12) (f 13) (f 14) (f 15) (p 0) (p 1) (p 2) (p 3)
  · exact crac2 (f 0) (f 1) (f 2) (f 3) (f 4) (f 5) (f 6) (f 7) (f 8) (f 9) (f 10) (f 11) (f 12) (f 13) (f 14) (f 15) (p 0) (p 1) (p 2) (p 3)
  · exact crac3 (f 0) (f 1) (f 2) (f 3) (f 4) (f 5) (f 6) (f 7) (f 8) (f 9) (f 10) (f 11) (f 12) (f 13) (f 14) (f 15) (p 0) (p 1) (p 2) (p 3)
theorem pbd {x y A B : Int} (hx : -A ≤ x ∧ x ≤ A) (hy : -B ≤ y ∧ y ≤ B) : -(A * B) ≤ x * y ∧ x * y ≤ A * B := by
  have h1 := Int.mul_nonneg (show 0 ≤ A - x by omega) (show 0 ≤ B + y by omega)
  have h2 := Int.mul_nonneg (show 0 ≤ A + x by omega) (show 0 ≤ B - y by omega)
  have h3 := Int.mul_nonneg (show 0 ≤ A - x by omega) (show 0 ≤ B - y by omega)
  have h4 := Int.mul_nonneg (show 0 ≤ A + x by omega) (show 0 ≤ B + y by omega)
  constructor <;> grind
theorem dbd {x y A : Int} (hx : -A ≤ x ∧ x ≤ A) (hy : -A ≤ y ∧ y ≤ A) : -(2 * A) ≤ x - y ∧ x - y ≤ 2 * A := by omega
theorem pbd4 {x y A B C : Int} (hx : -(2 * A) ≤ x ∧ x ≤ 2 * A) (hy : -(2 * B) ≤ y ∧ y ≤ 2 * B) (e : A * B = C) : -(4 * C) ≤ x * y ∧ x * y ≤ 4 * C := by
  have h := pbd hx hy
  have : 2 * A * (2 * B) = 4 * C := by grind
  rw [this] at h; exact h
theorem det_bd {m b : Nat → Int} (h : ∀ i j, i < 4 → j < 4 → -b j ≤ m (4 * i + j) ∧ m (4 * i + j) ≤ b j) : -(24 * (b 0 * b 1 * b 2 * b 3)) ≤ detI m ∧ detI m ≤ 24 * (b 0 * b 1 * b 2 * b 3) := by
  have U : ∀ i j, i < 4 → j < 4 → -(2 * (b i * b j)) ≤ upI m i j ∧ upI m i j ≤ 2 * (b i * b j) := fun i j hi hj => by
    have h1 := pbd (h 0 i (by omega) hi) (h 1 j (by omega) hj)
    have h2 := pbd (h 0 j (by omega) hj) (h 1 i (by omega) hi)
    rw [Int.mul_comm (b j)] at h2
    have := dbd h1 h2
    simpa [upI] using this
  have L : ∀ i j, i < 4 → j < 4 → -(2 * (b i * b j)) ≤ loI m i j ∧ loI m i j ≤ 2 * (b i * b j) := fun i j hi hj => by
    have h1 := pbd (h 2 i (by omega) hi) (h 3 j (by omega) hj)
    have h2 := pbd (h 2 j (by omega) hj) (h 3 i (by omega) hi)
    rw [Int.mul_comm (b j)] at h2
    have := dbd h1 h2
    simpa [loI] using this
  have p1 := pbd4 (C := b 0 * b 1 * b 2 * b 3) (U 0 1 (by omega) (by omega)) (L 2 3 (by omega) (by omega)) (by grind)
  have p2 := pbd4 (C := b 0 * b 1 * b 2 * b 3) (U 0 2 (by omega) (by omega)) (L 1 3 (by omega) (by omega)) (by grind)
  have p3 := pbd4 (C := b 0 * b 1 * b 2 * b 3) (U 0 3 (by omega) (by omega)) (L 1 2 (by omega) (by omega)) (by grind)
  have p4 := pbd4 (C := b 0 * b 1 * b 2 * b 3) (U 1 2 (by omega) (by omega)) (L 0 3 (by omega) (by omega)) (by grind)
  have p5 := pbd4 (C := b 0 * b 1 * b 2 * b 3) (U 1 3 (by omega) (by omega)) (L 0 2 (by omega) (by omega)) (by grind)
  have p6 := pbd4 (C := b 0 * b 1 * b 2 * b 3) (U 2 3 (by omega) (by omega)) (L 0 1 (by omega) (by omega)) (by grind)
  unfold detI
  generalize b 0 * b 1 * b 2 * b 3 = C at *
  omega
/-- a frame with prices in one column -/
theorem so_bd {f p : Nat → Int} (hf : thin f) (hp : ∀ i, i < 4 → 0 ≤ p i ∧ p i ≤ 10000) (c : Nat) (hc : c < 4) : -1000000000000000 ≤ soI f p c ∧ soI f p c ≤ 1000000000000000 := by
  have h := det_bd (m := colTo f c p 4) (b := fun j => if j = c then 10000 else 1000) (fun i j hi hj => by
    rw [co_at]
    have h1 := (hf (4 * i + j) (by omega)).1
    have q0 := hp 0 (by omega)
    have q1 := hp 1 (by omega)
    have q2 := hp 2 (by omega)
    have q3 := hp 3 (by omega)
    by_cases e : j = c
    · subst e
      simp only [if_pos]
      split
      · omega
      · split
        · omega
        · split
          · omega
          · split <;> omega
    · rw [if_neg e, if_neg (by omega), if_neg (by omega), if_neg (by omega), if_neg (by omega)]
      omega)
  have h2 : (24 : Int) * ((if 0 = c then 10000 else 1000) * (if 1 = c then 10000 else 1000) * (if 2 = c then 10000 else 1000) * (if 3 = c then 10000 else 1000)) ≤ 1000000000000000 := by
    have : c = 0 ∨ c = 1 ∨ c = 2 ∨ c = 3 := by omega
    rcases this with rfl | rfl | rfl | rfl <;> decide
  have h3 := sg1_or (detI f)
  unfold soI
  rcases h3 with e | e <;> rw [e] <;> omega
theorem prTo_nn {T : List T5} (htn : tnOk T) (pl : List Nat) : ∀ k j, 0 ≤ prTo T pl k j ∧ prTo T pl k j ≤ 10000
  | 0, j => by simp [prTo]
  | k + 1, j => by
    have ih := prTo_nn htn pl k j
    have := (htn (pl.getD k 0)).2.2
    simp only [prTo, put1]
    split
    · exact this
    · exact ih
theorem prTo_at (T : List T5) (pl : List Nat) : ∀ k i, i < k → prTo T pl k i = tP T (pl.getD i 0)
  | 0, i, h => by omega
  | k + 1, i, h => by
    simp only [prTo, put1]
    split
    · rename_i e; rw [e]
    · exact prTo_at T pl k i (by omega)
theorem low_same {V D C W : Int} (hV : 0 ≤ V) (hD : 0 < D) (hC : 0 ≤ C) (hW : 0 < W) (h : V * W = C * D) : lowA V D = lowA C W ∧ lowB V D = lowB C W := by
  have k1 : ∀ K x y : Int, 0 < K → 0 ≤ x → 0 < y → lowA (K * x) (K * y) = lowA x y ∧ lowB (K * x) (K * y) = lowB x y := fun K x y hK hx hy => by
    unfold lowA lowB
    rw [gcdI_scale K x y hK hx (by omega)]
    exact ⟨Int.mul_tdiv_mul_of_pos _ _ hK, Int.mul_tdiv_mul_of_pos _ _ hK⟩
  have a := k1 W V D hW hV hD
  have b := k1 D C W hD hC hW
  rw [show W * V = D * C by rw [Int.mul_comm W V, h, Int.mul_comm], Int.mul_comm W D] at a
  exact ⟨a.1.symm.trans b.1, a.2.symm.trans b.2⟩
/-- SOME FREE TINTS' DUAL FITS -/
theorem dual_fits {T : List T5} {n : Nat} {a b c : Int} {x : List (Int × Int)} (htn : tnOk T) (hS : shOk T) (ha : 0 ≤ a ∧ a ≤ 1000) (hb : 0 ≤ b ∧ b ≤ 1000) (hc : 0 ≤ c ∧ c ≤ 1000) (h : bestTo T (rcpL T n a b c) = some x) :
    ∃ y, y ∈ freeTo T n 4 ∧ duB T n (soI y.2 (prTo T y.1 y.1.length)) (sg1 (detI y.2) * detI y.2) (pxA T x) (pxB T x) a b c = true := by
  have hbs := best_spec (T := T) (L := rcpL T n a b c) (fun x hx => posR_of htn (rcp_small hS ha hb hc hx).1)
  have hne : rcpL T n a b c ≠ [] := fun e => by rw [hbs.1 e] at h; cases h
  obtain ⟨x', hx', hxm, hxp, hxl⟩ := hbs.2 hne
  rw [hx'] at h
  injection h with h
  subst h
  obtain ⟨L, F, y, z, hF, hy, hzm, hzc⟩ := opt_vertex htn hS ha hb hc hne
  have hxh := hull_of (n := n) hS ha hb hc hzm
  refine ⟨(L, F), hF, ?_⟩
  obtain ⟨ds, he, hd, ⟨l1, l4⟩, hpw, hlt⟩ := freeTo_spec hF
  simp only at he hd l1 l4 hpw hlt ⊢
  have hth : thin F := by rw [he]; exact frm_thin hS L ds
  have hD := sg_abs (detI F) hd
  have hDb := thin_det hth
  have hPb := prTo_nn htn L L.length
  have hPa := prTo_at T L L.length
  have hNb := fun j hj => so_bd hth (fun i _ => hPb i) j hj
  have hcr := crac F (prTo T L L.length)
  have hfa : ∀ i, i < L.length → ∀ j, j < 4 → F (4 * i + j) = rowT T (L.getD i 0) j := fun i hi j hj => by rw [he, frm_at T L ds i j hi hj]
  have hSo : ∀ j, soI F (prTo T L L.length) j = sg1 (detI F) * detI (colTo F j (prTo T L L.length) 4) := fun _ => rfl
  have hrow : ∀ i, i < L.length → soI F (prTo T L L.length) 0 + (soI F (prTo T L L.length) 1 * tA T (L.getD i 0) + soI F (prTo T L L.length) 2 * tB T (L.getD i 0) + soI F (prTo T L L.length) 3 * tC T (L.getD i 0)) = sg1 (detI F) * detI F * tP T (L.getD i 0) := fun i hi => by
    have h1 := hcr i (by omega)
    have f0 := hfa i hi 0 (by omega)
    have f1 := hfa i hi 1 (by omega)
    have f2 := hfa i hi 2 (by omega)
    have f3 := hfa i hi 3 (by omega)
    rw [Nat.add_zero] at f0
    rw [f0, f1, f2, f3, hPa i hi, rowT0, rowT1, rowT2, rowT3] at h1
    simp only [hSo]
    grind
  generalize soI F (prTo T L L.length) = N at *
  generalize hDD : sg1 (detI F) * detI F = D at *
  have hDle : D ≤ 6000000000 := by
    rw [← hDD]
    rcases sg1_or (detI F) with e | e <;> rw [e] <;> omega
  clear hcr hfa hSo hPa hPb
  have hev : ∀ u v w : Int, ev ⟨((N 0 : Int) : Rat), ⟨((N 1 : Int) : Rat), ((N 2 : Int) : Rat), ((N 3 : Int) : Rat)⟩⟩ (cV ⟨u, v, w⟩) = ((N 0 + (N 1 * u + N 2 * v + N 3 * w) : Int) : Rat) := fun u v w => by
    simp only [ev, cV, R3.dot, Rat.intCast_add, Rat.intCast_mul]
  -- it agrees with the vertex on the hull
  have hE : ∀ e, e = cmb (-((D : Int) : Rat)) ⟨((N 0 : Int) : Rat), ⟨((N 1 : Int) : Rat), ((N 2 : Int) : Rat), ((N 3 : Int) : Rat)⟩⟩ y → ∀ j, j < n → ev e (sQ T j) = 0 := fun e he => hy.2.2.2.1 e (fun i hi => by
    obtain ⟨k, hk, hik⟩ := List.getElem_of_mem hi
    have hg : L.getD k 0 = i := by simp [List.getD_eq_getElem?_getD, hk, hik]
    have h1 := hrow k hk
    rw [hg] at h1
    have h2 := hy.2.1 i hi
    rw [he, ev_cmb, h2]
    unfold sQ sh3
    rw [hev, h1, Rat.intCast_mul]
    unfold pQ
    grind)
  have hval : ∀ j, j < n → ((N 0 + (N 1 * tA T j + N 2 * tB T j + N 3 * tC T j) : Int) : Rat) = ((D : Int) : Rat) * ev y (sQ T j) := fun j hj => by
    have h1 := hE _ rfl j hj
    rw [ev_cmb] at h1
    have h2 := hev (tA T j) (tB T j) (tC T j)
    have h3 : sQ T j = cV ⟨tA T j, tB T j, tC T j⟩ := rfl
    rw [h3] at h1 ⊢
    grind
  have hvx : ((N 0 + (N 1 * a + N 2 * b + N 3 * c) : Int) : Rat) = ((D : Int) : Rat) * ev y (cV ⟨a, b, c⟩) := by
    have h1 := hxh.zero (hE _ rfl)
    rw [ev_cmb, hev] at h1
    grind
  have hfe : ∀ j, j < n → N 0 + (N 1 * tA T j + N 2 * tB T j + N 3 * tC T j) ≤ D * tP T j := fun j hj => by
    have h1 := hval j hj
    have h2 := hy.1 j hj
    have h3 := Rat.mul_le_mul_of_nonneg_left h2 (cast_nn (show 0 ≤ D by omega))
    rw [← h1] at h3
    unfold pQ at h3
    rw [← Rat.intCast_mul] at h3
    exact Rat.intCast_le_intCast.1 h3
  have hWz := rcp_W hS ha hb hc hzm
  have hWx := rcp_W hS ha hb hc hxm
  obtain ⟨⟨_, hxi, _⟩, s1, s2, s3⟩ := rcp_spec hS ha hb hc hxm
  have hdl := dual_least (P := x') (k := x'.length) (n := n) (fun i hi => ⟨(hxi i hi).1.1, (hxi i hi).2.1⟩) hfe s1 s2 s3
  have hlt := hxl z hzm
  unfold ltR pP pV at hlt
  have hcz : (N 0 + (N 1 * a + N 2 * b + N 3 * c)) * sumW z z.length = sumT z (tP T) z.length * D := by
    apply Rat.intCast_inj.1
    rw [Rat.intCast_mul, Rat.intCast_mul, hvx, hzc]
    grind
  have hP0 : 0 ≤ sumT x' (tP T) x'.length := hxp.1
  unfold pxA pxB duB
  generalize sumT x' (tP T) x'.length = C at *
  generalize sumW x' x'.length = W at *
  generalize sumT z (tP T) z.length = Cz at *
  generalize sumW z z.length = Wz at *
  generalize hVV : N 0 + (N 1 * a + N 2 * b + N 3 * c) = V at *
  have hVW : V * W = C * D := by
    have h1 : C * Wz ≤ Cz * W := by omega
    have h2 := Int.mul_le_mul_of_nonneg_right h1 (show 0 ≤ D by omega)
    have h3 : (C * D) * Wz ≤ (V * W) * Wz := by
      have e1 : C * D * Wz = C * Wz * D := by grind
      have e2 : V * W * Wz = Cz * W * D := by grind
      rw [e1, e2]; exact h2
    have h4 := Int.le_of_mul_le_mul_right h3 hWz
    rw [Int.mul_comm D C] at hdl
    omega
  have hV0 : 0 ≤ V := by
    apply Classical.byContradiction
    intro hn
    have h1 := Int.mul_pos (show 0 < -V by omega) hWx
    have h2 := Int.mul_nonneg hP0 (show 0 ≤ D by omega)
    rw [Int.neg_mul] at h1
    omega
  have hfr : frA V D = lowA V D ∧ frB V D = lowB V D := by
    unfold frA frB lowA lowB
    rw [show max V (-V) = V by omega]
    exact ⟨rfl, rfl⟩
  obtain ⟨z1, z2⟩ := low_same hV0 (show 0 < D by omega) hP0 hWx hVW
  rw [hfr.1, hfr.2, z1, z2, decide_eq_true (show 1 ≤ D by omega), decide_eq_true (show D ≤ 1000000000000 by omega)]
  have r1 : (List.range 4).all (dnB N) = true := List.all_eq_true.2 fun j hj => by
    have := hNb j (by simpa using hj)
    unfold dnB
    rw [decide_eq_true this.1, decide_eq_true this.2]; rfl
  have r2 : (List.range n).all (dtB T N D) = true := List.all_eq_true.2 fun j hj => decide_eq_true (hfe j (by simpa using hj))
  rw [r1, r2]
  simp

end Go.Proofs.Ytpjekinmcdglbaa
