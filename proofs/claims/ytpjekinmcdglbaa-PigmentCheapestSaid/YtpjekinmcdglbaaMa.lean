/- Numbers of recipes: the weights that a frame gives (Cramer), that every recipe of the list gives its shade and is valid, that a plane or a dual bounds what recipes give or cost, the first of the least price, and one tint more. No condition beyond what each lemma names. -/
import Derived.Test.YtpjekinmcdglbaaCu
set_option linter.unusedSimpArgs false
set_option linter.unusedVariables false
set_option maxRecDepth 100000
namespace Go.Proofs.Ytpjekinmcdglbaa

-- Cramer
theorem rs_at (f r : Nat → Int) (i k : Nat) : rowSet f i r k = if k = i * 4 + 3 then r 3 else if k = i * 4 + 2 then r 2 else if k = i * 4 + 1 then r 1 else if k = i * 4 then r 0 else f k := rfl
def D16 (a0 a1 a2 a3 b0 b1 b2 b3 c0 c1 c2 c3 d0 d1 d2 d3 : Int) : Int := (a0 * b1 - a1 * b0) * (c2 * d3 - c3 * d2) - (a0 * b2 - a2 * b0) * (c1 * d3 - c3 * d1) + (a0 * b3 - a3 * b0) * (c1 * d2 - c2 * d1) + (a1 * b2 - a2 * b1) * (c0 * d3 - c3 * d0) - (a1 * b3 - a3 * b1) * (c0 * d2 - c2 * d0) + (a2 * b3 - a3 * b2) * (c0 * d1 - c1 * d0)
theorem det_d16 (m : Nat → Int) : detI m = D16 (m 0) (m 1) (m 2) (m 3) (m 4) (m 5) (m 6) (m 7) (m 8) (m 9) (m 10) (m 11) (m 12) (m 13) (m 14) (m 15) := rfl
theorem cram0 (a0 a1 a2 a3 b0 b1 b2 b3 c0 c1 c2 c3 d0 d1 d2 d3 r0 r1 r2 r3 : Int) : D16 r0 r1 r2 r3 b0 b1 b2 b3 c0 c1 c2 c3 d0 d1 d2 d3 * a0 + D16 a0 a1 a2 a3 r0 r1 r2 r3 c0 c1 c2 c3 d0 d1 d2 d3 * b0 + D16 a0 a1 a2 a3 b0 b1 b2 b3 r0 r1 r2 r3 d0 d1 d2 d3 * c0 + D16 a0 a1 a2 a3 b0 b1 b2 b3 c0 c1 c2 c3 r0 r1 r2 r3 * d0 = D16 a0 a1 a2 a3 b0 b1 b2 b3 c0 c1 c2 c3 d0 d1 d2 d3 * r0 := by
  simp only [D16]
  grind
theorem cram1 (a0 a1 a2 a3 b0 b1 b2 b3 c0 c1 c2 c3 d0 d1 d2 d3 r0 r1 r2 r3 : Int) : D16 r0 r1 r2 r3 b0 b1 b2 b3 c0 c1 c2 c3 d0 d1 d2 d3 * a1 + D16 a0 a1 a2 a3 r0 r1 r2 r3 c0 c1 c2 c3 d0 d1 d2 d3 * b1 + D16 a0 a1 a2 a3 b0 b1 b2 b3 r0 r1 r2 r3 d0 d1 d2 d3 * c1 + D16 a0 a1 a2 a3 b0 b1 b2 b3 c0 c1 c2 c3 r0 r1 r2 r3 * d1 = D16 a0 a1 a2 a3 b0 b1 b2 b3 c0 c1 c2 c3 d0 d1 d2 d3 * r1 := by
  simp only [D16]
  grind
theorem cram2 (a0 a1 a2 a3 b0 b1 b2 b3 c0 c1 c2 c3 d0 d1 d2 d3 r0 r1 r2 r3 : Int) : D16 r0 r1 r2 r3 b0 b1 b2 b3 c0 c1 c2 c3 d0 d1 d2 d3 * a2 + D16 a0 a1 a2 a3 r0 r1 r2 r3 c0 c1 c2 c3 d0 d1 d2 d3 * b2 + D16 a0 a1 a2 a3 b0 b1 b2 b3 r0 r1 r2 r3 d0 d1 d2 d3 * c2 + D16 a0 a1 a2 a3 b0 b1 b2 b3 c0 c1 c2 c3 r0 r1 r2 r3 * d2 = D16 a0 a1 a2 a3 b0 b1 b2 b3 c0 c1 c2 c3 d0 d1 d2 d3 * r2 := by
  simp only [D16]
  grind
theorem cram3 (a0 a1 a2 a3 b0 b1 b2 b3 c0 c1 c2 c3 d0 d1 d2 d3 r0 r1 r2 r3 : Int) : D16 r0 r1 r2 r3 b0 b1 b2 b3 c0 c1 c2 c3 d0 d1 d2 d3 * a3 + D16 a0 a1 a2 a3 r0 r1 r2 r3 c0 c1 c2 c3 d0 d1 d2 d3 * b3 + D16 a0 a1 a2 a3 b0 b1 b2 b3 r0 r1 r2 r3 d0 d1 d2 d3 * c3 + D16 a0 a1 a2 a3 b0 b1 b2 b3 c0 c1 c2 c3 r0 r1 r2 r3 * d3 = D16 a0 a1 a2 a3 b0 b1 b2 b3 c0 c1 c2 c3 d0 d1 d2 d3 * r3 := by
  simp only [D16]
  grind
theorem cram_f (f r : Nat → Int) (j : Nat) (hj : j < 4) : detI (rowSet f 0 r) * f j + detI (rowSet f 1 r) * f (4 + j) + detI (rowSet f 2 r) * f (8 + j) + detI (rowSet f 3 r) * f (12 + j) = detI f * r j := by
  have : j = 0 ∨ j = 1 ∨ j = 2 ∨ j = 3 := by omega
  rcases this with rfl | rfl | rfl | rfl
  · exact cram0 (f 0) (f 1) (f 2) (f 3) (f 4) (f 5) (f 6) (f 7) (f 8) (f 9) (f 10) (f 11) (f 12) (f 13) (f 14) (f 15) (r 0) (r 1) (r 2) (r 3)
  · exact cram1 (f 0) (f 1) (f 2) (f 3) (f 4) (f 5) (f 6) (f 7) (f 8) (f 9) (f 10) (f 11) (f 12) (f 13) (f 14) (f 15) (r 0) (r 1) (r 2) (r 3)
  · exact cram2 (f 0) (f 1) (f 2) (f 3) (f 4) (f 5) (f 6) (f 7) (f 8) (f 9) (f 10) (f 11) (f 12) (f 13) (f 14) (f 15) (r 0) (r 1) (r 2) (r 3)
  · exact cram3 (f 0) (f 1) (f 2) (f 3) (f 4) (f 5) (f 6) (f 7) (f 8) (f 9) (f 10) (f 11) (f 12) (f 13) (f 14) (f 15) (r 0) (r 1) (r 2) (r 3)
theorem frm_at (T : List T5) (pl ds : List Nat) (i j : Nat) (hi : i < pl.length) (hj : j < 4) : frm T pl ds (4 * i + j) = rowT T (pl.getD i 0) j := by
  have h1 : (4 * i + j) / 4 = i := by omega
  have h2 : (4 * i + j) % 4 = j := by omega
  simp only [frm, h1, h2, if_pos hi]
theorem okTo_at {W : Nat → Int} {l : Nat} : ∀ {k : Nat}, okTo W l k = true → ∀ i, i < k → okAt W l i = true
  | 0, _, i, hi => by omega
  | k + 1, h, i, hi => by
    simp only [okTo, Bool.and_eq_true] at h
    rcases Nat.lt_or_eq_of_le (Nat.le_of_lt_succ hi) with h1 | h1
    · exact okTo_at h.1 i h1
    · rw [h1]; exact h.2
theorem okAt_iff {W : Nat → Int} {l i : Nat} (h : okAt W l i = true) : (i < l → 0 < W i) ∧ (l ≤ i → W i = 0) := by
  unfold okAt at h
  simp only [Bool.and_eq_true, beq_iff_eq, Bool.not_eq_true', decide_eq_false_iff_not, decide_eq_decide] at h
  omega
/-- what a mixture of a frame of tints is: weights greater than 0 at the first l places, and sums -/
theorem mix_sums (T : List T5) (pl ds : List Nat) (a b c : Int) (h4 : pl.length ≤ 4) (hd : detI (frm T pl ds) ≠ 0) (hok : okTo (weI (frm T pl ds) (row1 a b c)) pl.length 4 = true) :
    ∃ W : Nat → Int, W = weI (frm T pl ds) (row1 a b c) ∧ (∀ i, i < pl.length → 0 < W i) ∧ (∀ i, pl.length ≤ i → i < 4 → W i = 0) ∧
      ∀ j, j < 4 → (if 0 < pl.length then W 0 * rowT T (pl.getD 0 0) j else 0) + (if 1 < pl.length then W 1 * rowT T (pl.getD 1 0) j else 0) + (if 2 < pl.length then W 2 * rowT T (pl.getD 2 0) j else 0) + (if 3 < pl.length then W 3 * rowT T (pl.getD 3 0) j else 0) = (W 0 + W 1 + W 2 + W 3) * row1 a b c j := by
  refine ⟨_, rfl, fun i hi => (okAt_iff (okTo_at hok i (by omega))).1 hi, fun i hi h4' => (okAt_iff (okTo_at hok i h4')).2 hi, ?_⟩
  have hz := fun i hi h4' => (okAt_iff (okTo_at hok i h4')).2 hi
  have key : ∀ j, j < 4 → (if 0 < pl.length then weI (frm T pl ds) (row1 a b c) 0 * rowT T (pl.getD 0 0) j else 0) + (if 1 < pl.length then weI (frm T pl ds) (row1 a b c) 1 * rowT T (pl.getD 1 0) j else 0) + (if 2 < pl.length then weI (frm T pl ds) (row1 a b c) 2 * rowT T (pl.getD 2 0) j else 0) + (if 3 < pl.length then weI (frm T pl ds) (row1 a b c) 3 * rowT T (pl.getD 3 0) j else 0) = sg1 (detI (frm T pl ds)) * detI (frm T pl ds) * row1 a b c j := by
    intro j hj
    have hc := cram_f (frm T pl ds) (row1 a b c) j hj
    have one : ∀ i, i < 4 → (if i < pl.length then weI (frm T pl ds) (row1 a b c) i * rowT T (pl.getD i 0) j else 0) = weI (frm T pl ds) (row1 a b c) i * frm T pl ds (4 * i + j) := by
      intro i hi
      by_cases h : i < pl.length
      · rw [if_pos h, frm_at T pl ds i j h hj]
      · rw [if_neg h, hz i (by omega) hi, Int.zero_mul]
    rw [one 0 (by omega), one 1 (by omega), one 2 (by omega), one 3 (by omega)]
    simp only [weI, Nat.mul_zero, Nat.zero_add, Nat.reduceMul]
    rw [Int.mul_assoc (sg1 _) (detI (frm T pl ds)) (row1 a b c j), ← hc]
    simp only [Int.mul_assoc, Int.mul_add]
  intro j hj
  rw [key j hj]
  have k0 := key 0 (by omega)
  have hs : weI (frm T pl ds) (row1 a b c) 0 + weI (frm T pl ds) (row1 a b c) 1 + weI (frm T pl ds) (row1 a b c) 2 + weI (frm T pl ds) (row1 a b c) 3 = sg1 (detI (frm T pl ds)) * detI (frm T pl ds) := by
    have e0 : ∀ p, rowT T p 0 = 1 := fun p => rfl
    have e1 : row1 a b c 0 = 1 := rfl
    simp only [e0, e1, Int.mul_one] at k0
    rw [← k0]
    have one : ∀ i, i < 4 → weI (frm T pl ds) (row1 a b c) i = (if i < pl.length then weI (frm T pl ds) (row1 a b c) i else 0) := by
      intro i hi
      by_cases h : i < pl.length
      · rw [if_pos h]
      · rw [if_neg h, hz i (by omega) hi]
    rw [← one 0 (by omega), ← one 1 (by omega), ← one 2 (by omega), ← one 3 (by omega)]
  rw [hs]
-- gcd
theorem gcdI_dl {x y : Int} (hx : 0 ≤ x) : gcdI x y ∣ x := by
  obtain ⟨a, rfl⟩ := Int.eq_ofNat_of_zero_le hx
  unfold gcdI; exact Int.natCast_dvd_natCast.2 (by simpa using Nat.gcd_dvd_left a y.toNat)
theorem gcdI_dr {x y : Int} (hy : 0 ≤ y) : gcdI x y ∣ y := by
  obtain ⟨a, rfl⟩ := Int.eq_ofNat_of_zero_le hy
  unfold gcdI; exact Int.natCast_dvd_natCast.2 (by simpa using Nat.gcd_dvd_right x.toNat a)
theorem gcdI_nn (a b : Int) : 0 ≤ gcdI a b := by unfold gcdI; omega
theorem gcdI_great {d x y : Int} (hx : 0 ≤ x) (hy : 0 ≤ y) (h1 : d ∣ x) (h2 : d ∣ y) : d ∣ gcdI x y := by
  obtain ⟨a, rfl⟩ := Int.eq_ofNat_of_zero_le hx
  obtain ⟨b, rfl⟩ := Int.eq_ofNat_of_zero_le hy
  have h3 : d.natAbs ∣ Nat.gcd a b := Nat.dvd_gcd (Int.natAbs_dvd_natAbs.2 h1) (Int.natAbs_dvd_natAbs.2 h2)
  unfold gcdI
  simp only [Int.toNat_natCast]
  exact Int.natAbs_dvd.1 (Int.natCast_dvd_natCast.2 h3)
theorem gcTo_nn (W : Nat → Int) : ∀ k, 0 ≤ gcTo W k
  | 0 => by simp [gcTo]
  | k + 1 => gcdI_nn _ _
theorem gcTo_dvd {W : Nat → Int} : ∀ {k : Nat}, (∀ i, i < k → 0 ≤ W i) → ∀ i, i < k → gcTo W k ∣ W i
  | 0, _, i, hi => by omega
  | k + 1, h, i, hi => by
    rcases Nat.lt_or_eq_of_le (Nat.le_of_lt_succ hi) with h1 | h1
    · exact Int.dvd_trans (gcdI_dl (gcTo_nn W k)) (gcTo_dvd (fun i hi => h i (by omega)) i h1)
    · rw [h1]; exact gcdI_dr (h k (by omega))
theorem gcTo_great {W : Nat → Int} {d : Int} : ∀ {k : Nat}, (∀ i, i < k → 0 ≤ W i) → (∀ i, i < k → d ∣ W i) → d ∣ gcTo W k
  | 0, _, _ => by simp [gcTo]
  | k + 1, h, hd => gcdI_great (gcTo_nn W k) (h k (by omega)) (gcTo_great (fun i hi => h i (by omega)) (fun i hi => hd i (by omega))) (hd k (by omega))
theorem gcdTo_nn (P : List (Int × Int)) : ∀ k, 0 ≤ gcdTo P k
  | 0 => by simp [gcdTo]
  | k + 1 => gcdI_nn _ _
theorem gcdTo_dvd {P : List (Int × Int)} : ∀ {k : Nat}, (∀ i, i < k → 0 ≤ pW P i) → ∀ i, i < k → gcdTo P k ∣ pW P i
  | 0, _, i, hi => by omega
  | k + 1, h, i, hi => by
    rcases Nat.lt_or_eq_of_le (Nat.le_of_lt_succ hi) with h1 | h1
    · exact Int.dvd_trans (gcdI_dl (gcdTo_nn P k)) (gcdTo_dvd (fun i hi => h i (by omega)) i h1)
    · rw [h1]; exact gcdI_dr (h k (by omega))

-- bounds
theorem mb01 {x y : Int} (hx : 0 ≤ x ∧ x ≤ 1) (hy : 0 ≤ y ∧ y ≤ 1000) : 0 ≤ x * y ∧ x * y ≤ 1000 := by
  have : x = 0 ∨ x = 1 := by omega
  rcases this with rfl | rfl <;> omega
theorem mb11 {x y : Int} (hx : 0 ≤ x ∧ x ≤ 1000) (hy : 0 ≤ y ∧ y ≤ 1000) : 0 ≤ x * y ∧ x * y ≤ 1000000 := by
  have a := Int.mul_nonneg hx.1 hy.1
  have b := Int.mul_le_mul hx.2 hy.2 hy.1 (by omega)
  omega
theorem mbs {x y A B : Int} (hx : -A ≤ x ∧ x ≤ A) (hy : -B ≤ y ∧ y ≤ B) : -(A * B) ≤ x * y ∧ x * y ≤ A * B := by
  have hA : 0 ≤ A := by omega
  have hB : 0 ≤ B := by omega
  have p1 := Int.mul_nonneg (show 0 ≤ A - x by omega) (show 0 ≤ B - y by omega)
  have p2 := Int.mul_nonneg (show 0 ≤ A + x by omega) (show 0 ≤ B + y by omega)
  have p3 := Int.mul_nonneg (show 0 ≤ A - x by omega) (show 0 ≤ B + y by omega)
  have p4 := Int.mul_nonneg (show 0 ≤ A + x by omega) (show 0 ≤ B - y by omega)
  simp only [Int.sub_mul, Int.mul_sub, Int.add_mul, Int.mul_add] at p1 p2 p3 p4
  constructor <;> omega
/-- a matrix whose first column is 0 or 1, and whose other numbers are 0 to 1000 -/
def thin (m : Nat → Int) : Prop := ∀ k, k < 16 → (0 ≤ m k ∧ m k ≤ 1000) ∧ (k % 4 = 0 → m k ≤ 1)
theorem thin_det {m : Nat → Int} (h : thin m) : -6000000000 ≤ detI m ∧ detI m ≤ 6000000000 := by
  have c : ∀ k, k < 16 → 0 ≤ m k ∧ m k ≤ 1000 := fun k hk => (h k hk).1
  have z : ∀ k, k < 4 → 0 ≤ m (4 * k) ∧ m (4 * k) ≤ 1 := fun k hk => ⟨(h _ (by omega)).1.1, (h _ (by omega)).2 (by omega)⟩
  have u0 : ∀ j, j < 4 → -1000 ≤ upI m 0 j ∧ upI m 0 j ≤ 1000 := fun j hj => by
    have a := mb01 (z 0 (by omega)) (c (4 + j) (by omega))
    have b := mb01 (z 1 (by omega)) (c j (by omega))
    simp only [upI, Nat.mul_zero, Nat.mul_one, Nat.add_zero] at a b ⊢
    rw [Int.mul_comm (m j)]; omega
  have l0 : ∀ j, j < 4 → -1000 ≤ loI m 0 j ∧ loI m 0 j ≤ 1000 := fun j hj => by
    have a := mb01 (z 2 (by omega)) (c (12 + j) (by omega))
    have b := mb01 (z 3 (by omega)) (c (8 + j) (by omega))
    simp only [loI, Nat.reduceMul, Nat.add_zero] at a b ⊢
    rw [Int.mul_comm (m (8 + j))]; omega
  have u : ∀ i j, i < 4 → j < 4 → -1000000 ≤ upI m i j ∧ upI m i j ≤ 1000000 := fun i j hi hj => by
    have a := mb11 (c i (by omega)) (c (4 + j) (by omega))
    have b := mb11 (c j (by omega)) (c (4 + i) (by omega))
    simp only [upI]; omega
  have l : ∀ i j, i < 4 → j < 4 → -1000000 ≤ loI m i j ∧ loI m i j ≤ 1000000 := fun i j hi hj => by
    have a := mb11 (c (8 + i) (by omega)) (c (12 + j) (by omega))
    have b := mb11 (c (8 + j) (by omega)) (c (12 + i) (by omega))
    simp only [loI]; omega
  have p1 := mbs (u0 1 (by omega)) (l 2 3 (by omega) (by omega))
  have p2 := mbs (u0 2 (by omega)) (l 1 3 (by omega) (by omega))
  have p3 := mbs (u0 3 (by omega)) (l 1 2 (by omega) (by omega))
  have p4 := mbs (u 1 2 (by omega) (by omega)) (l0 3 (by omega))
  have p5 := mbs (u 1 3 (by omega) (by omega)) (l0 2 (by omega))
  have p6 := mbs (u 2 3 (by omega) (by omega)) (l0 1 (by omega))
  unfold detI
  omega
theorem frm_thin {T : List T5} (hS : shOk T) (pl ds : List Nat) : thin (frm T pl ds) := by
  intro k hk
  unfold frm
  split
  · rename_i h1
    have h2 := hS (pl.getD (k / 4) 0)
    unfold rowT
    have : k % 4 < 4 := by omega
    split
    · omega
    · split
      · omega
      · split <;> omega
  · rename_i h1
    split
    · rename_i h2
      omega
    · omega
theorem rowSet_thin {f r : Nat → Int} (hf : thin f) (i : Nat) (hr : ∀ j, j < 4 → (0 ≤ r j ∧ r j ≤ 1000)) (h0 : r 0 ≤ 1) : thin (rowSet f i r) := by
  intro k hk
  rw [rs_at]
  have h3 := hr 3 (by omega)
  have h2 := hr 2 (by omega)
  have h1 := hr 1 (by omega)
  have h00 := hr 0 (by omega)
  split
  · refine ⟨by omega, fun h => by omega⟩
  · split
    · refine ⟨by omega, fun h => by omega⟩
    · split
      · refine ⟨by omega, fun h => by omega⟩
      · split
        · exact ⟨by omega, fun _ => h0⟩
        · exact hf k hk
theorem extL_asc {n : Nat} : ∀ {k : Nat} {pre : List Nat} {s : Nat} {x : List Nat}, x ∈ extL n k pre s → (pre.Pairwise (· < ·) ∧ ∀ p ∈ pre, p < s ∧ p < n) → x.Pairwise (· < ·) ∧ (∀ p ∈ x, p < n) ∧ x.length = pre.length + k
  | 0, pre, s, x, h, hp => by
    simp [extL] at h; subst h; exact ⟨hp.1, fun p h => (hp.2 p h).2, rfl⟩
  | k + 1, pre, s, x, h, hp => by
    simp only [extL, List.mem_flatMap, List.mem_range] at h
    obtain ⟨i, hi, hx⟩ := h
    have := extL_asc hx ⟨by
      rw [List.pairwise_append]
      refine ⟨hp.1, by simp, fun a ha b hb => ?_⟩
      have := hp.2 a ha
      simp at hb; omega, fun p hpm => by
      rw [List.mem_append] at hpm
      rcases hpm with h | h
      · have := hp.2 p h; omega
      · simp at h; omega⟩
    refine ⟨this.1, this.2.1, ?_⟩
    rw [this.2.2]; simp; omega
/-- what a place in freeTo is -/
theorem freeTo_spec {T : List T5} {n : Nat} {x : List Nat × (Nat → Int)} (h : x ∈ freeTo T n 4) : ∃ ds, x.2 = frm T x.1 ds ∧ detI x.2 ≠ 0 ∧ (1 ≤ x.1.length ∧ x.1.length ≤ 4) ∧ x.1.Pairwise (· < ·) ∧ (∀ p ∈ x.1, p < n) := by
  simp only [freeTo, List.mem_flatMap, List.mem_range, List.mem_filterMap] at h
  obtain ⟨i, hi, pl, hpl, hx⟩ := h
  have e := extL_asc hpl ⟨by simp, by simp⟩
  unfold frF at hx
  split at hx
  case isTrue ht =>
    injection hx with hx
    subst hx
    unfold frameR at ht ⊢
    split at ht
    case h_1 ds hd =>
      have h3 := List.find?_some hd
      simp only [decide_eq_true_eq] at h3
      simp only [hd]
      exact ⟨ds, rfl, h3, by have := e.2.2; simp at this; omega, e.1, e.2.1⟩
    case h_2 hd => cases ht
  case isFalse => cases hx
theorem pT_mix (W : Nat → Int) (pl : List Nat) (i : Nat) (h : i < pl.length) : pT (mixTo W pl pl.length) i = (pl.getD i 0 : Int) ∧ pW (mixTo W pl pl.length) i = (W i).tdiv (gcTo W 4) := by
  simp [pT, pW, mixTo, List.getD_eq_getElem?_getD, h]
theorem mixTo_length (W : Nat → Int) (pl : List Nat) (k : Nat) : (mixTo W pl k).length = k := by simp [mixTo]
theorem four {α : Type} (l : List α) (h1 : 1 ≤ l.length) (h4 : l.length ≤ 4) : (∃ a, l = [a]) ∨ (∃ a b, l = [a, b]) ∨ (∃ a b c, l = [a, b, c]) ∨ ∃ a b c d, l = [a, b, c, d] := by
  match l, h1, h4 with
  | [a], _, _ => exact .inl ⟨a, rfl⟩
  | [a, b], _, _ => exact .inr (.inl ⟨a, b, rfl⟩)
  | [a, b, c], _, _ => exact .inr (.inr (.inl ⟨a, b, c, rfl⟩))
  | [a, b, c, d], _, _ => exact .inr (.inr (.inr ⟨a, b, c, d, rfl⟩))
theorem sumT_congr {P : List (Int × Int)} {f g : Nat → Int} : ∀ {k : Nat}, (∀ i, i < k → f (pT P i).toNat = g (pT P i).toNat) → sumT P f k = sumT P g k
  | 0, _ => rfl
  | k + 1, h => by simp only [sumT]; rw [sumT_congr (fun i hi => h i (by omega)), h k (by omega)]
/-- times g, the sums of a mixture are those of its weights -/
theorem mix_scaled {W : Nat → Int} {pl : List Nat} {g : Int} (hg : ∀ i, i < 4 → W i = (W i).tdiv (gcTo W 4) * g) (f : Nat → Int) : ∀ k, k ≤ pl.length → k ≤ 4 →
    sumT (mixTo W pl pl.length) f k * g = (if 0 < k then W 0 * f (pl.getD 0 0) else 0) + (if 1 < k then W 1 * f (pl.getD 1 0) else 0) + (if 2 < k then W 2 * f (pl.getD 2 0) else 0) + (if 3 < k then W 3 * f (pl.getD 3 0) else 0) := by
  intro k hk hk4
  have step : ∀ j, j < pl.length → j < 4 → pW (mixTo W pl pl.length) j * f (pT (mixTo W pl pl.length) j).toNat * g = W j * f (pl.getD j 0) := by
    intro j hj h4
    rw [(pT_mix W pl j hj).1, (pT_mix W pl j hj).2, Int.toNat_natCast, Int.mul_right_comm, ← hg j h4]
  have : k = 0 ∨ k = 1 ∨ k = 2 ∨ k = 3 ∨ k = 4 := by omega
  rcases this with rfl | rfl | rfl | rfl | rfl
  · simp [sumT]
  · simp only [sumT, Int.add_mul, Int.zero_mul, step 0 (by omega) (by omega)]; simp
  · simp only [sumT, Int.add_mul, Int.zero_mul, step 0 (by omega) (by omega), step 1 (by omega) (by omega)]; simp
  · simp only [sumT, Int.add_mul, Int.zero_mul, step 0 (by omega) (by omega), step 1 (by omega) (by omega), step 2 (by omega) (by omega)]; simp
  · simp only [sumT, Int.add_mul, Int.zero_mul, step 0 (by omega) (by omega), step 1 (by omega) (by omega), step 2 (by omega) (by omega), step 3 (by omega) (by omega)]; simp
theorem sumW_one (P : List (Int × Int)) : ∀ k, sumW P k = sumT P (fun _ => 1) k
  | 0 => rfl
  | k + 1 => by simp only [sumW, sumT, sumW_one P k, Int.mul_one]
theorem row1_bd {a b c : Int} (ha : 0 ≤ a ∧ a ≤ 1000) (hb : 0 ≤ b ∧ b ≤ 1000) (hc : 0 ≤ c ∧ c ≤ 1000) : ∀ j, j < 4 → 0 ≤ row1 a b c j ∧ row1 a b c j ≤ 1000 := by
  intro j hj
  unfold row1
  split
  · omega
  · split
    · omega
    · split <;> omega
theorem sg1_or (n : Int) : sg1 n = 1 ∨ sg1 n = -1 := by unfold sg1; split <;> simp
/-- THE RECIPES: each is one to four tints, ascending, with weights from 1 to 6000000000 whose divisor is 1, and gives the shade -/
theorem rcp_spec {T : List T5} {n : Nat} {a b c : Int} {x : List (Int × Int)} (hS : shOk T) (ha : 0 ≤ a ∧ a ≤ 1000) (hb : 0 ≤ b ∧ b ≤ 1000) (hc : 0 ≤ c ∧ c ≤ 1000) (h : x ∈ rcpL T n a b c) :
    ((1 ≤ x.length ∧ x.length ≤ 4) ∧ (∀ i, i < x.length → (1 ≤ pW x i ∧ pW x i ≤ 6000000000) ∧ (0 ≤ pT x i ∧ pT x i < n) ∧ (∀ j, j < i → pT x j < pT x i)) ∧ gcdTo x x.length = 1) ∧
    sumT x (tA T) x.length = a * sumW x x.length ∧ sumT x (tB T) x.length = b * sumW x x.length ∧ sumT x (tC T) x.length = c * sumW x x.length := by
  simp only [rcpL, List.mem_filterMap] at h
  obtain ⟨⟨pl, f⟩, hf, hx⟩ := h
  obtain ⟨ds, he, hd, ⟨l1, l4⟩, hpw, hlt⟩ := freeTo_spec hf
  simp only at he hpw hlt l1 l4 hd hx
  subst he
  unfold rcF at hx
  simp only at hx
  split at hx
  case isFalse => cases hx
  case isTrue hok =>
    injection hx with hx
    obtain ⟨W, hW, hpos, hzer, hsum⟩ := mix_sums T pl ds a b c l4 hd hok
    rw [← hW] at hx hok
    have hth : thin (frm T pl ds) := frm_thin hS pl ds
    have hWb : ∀ i, i < 4 → 0 ≤ W i ∧ W i ≤ 6000000000 := by
      intro i hi
      have h1 := thin_det (rowSet_thin (r := row1 a b c) hth i (row1_bd ha hb hc) (by simp [row1]))
      have h2 : W i = sg1 (detI (frm T pl ds)) * detI (rowSet (frm T pl ds) i (row1 a b c)) := by rw [hW]; rfl
      have h3 : 0 ≤ W i := by
        by_cases hh : i < pl.length
        · have := hpos i hh; omega
        · have := hzer i (by omega) hi; omega
      refine ⟨h3, ?_⟩
      rw [h2]
      rcases sg1_or (detI (frm T pl ds)) with e | e <;> rw [e] <;> omega
    have hnn : ∀ i, i < 4 → 0 ≤ W i := fun i hi => (hWb i hi).1
    have hg0 : 0 < gcTo W 4 := by
      rcases Int.lt_or_eq_of_le (gcTo_nn W 4) with h | h
      · exact h
      · have h1 := gcTo_dvd hnn 0 (by omega)
        rw [← h] at h1
        have h2 := Int.zero_dvd.1 h1
        have h3 := hpos 0 (by omega); omega
    have hdv : ∀ i, i < 4 → W i = (W i).tdiv (gcTo W 4) * gcTo W 4 := fun i hi => (Int.tdiv_mul_cancel (gcTo_dvd hnn i hi)).symm
    have hq : ∀ i, i < pl.length → 1 ≤ (W i).tdiv (gcTo W 4) ∧ (W i).tdiv (gcTo W 4) ≤ 6000000000 := by
      intro i hi
      have h1 := hpos i hi
      have h2 := hdv i (by omega)
      have h3 := (hWb i (by omega)).2
      have h4 : 0 ≤ (W i).tdiv (gcTo W 4) := Int.tdiv_nonneg (by omega) (by omega)
      have h5 : (W i).tdiv (gcTo W 4) ≠ 0 := fun e => by rw [e, Int.zero_mul] at h2; omega
      refine ⟨by omega, ?_⟩
      have h6 := Int.mul_le_mul_of_nonneg_left (show (1 : Int) ≤ gcTo W 4 by omega) h4
      omega
    subst hx
    simp only [mixTo_length]
    have key : ∀ f : Nat → Int, sumT (mixTo W pl pl.length) f pl.length * gcTo W 4 = (if 0 < pl.length then W 0 * f (pl.getD 0 0) else 0) + (if 1 < pl.length then W 1 * f (pl.getD 1 0) else 0) + (if 2 < pl.length then W 2 * f (pl.getD 2 0) else 0) + (if 3 < pl.length then W 3 * f (pl.getD 3 0) else 0) :=
      fun f => mix_scaled hdv f _ (Nat.le_refl _) l4
    have kW : sumW (mixTo W pl pl.length) pl.length * gcTo W 4 = W 0 + W 1 + W 2 + W 3 := by
      rw [sumW_one, key]
      have := hsum 0 (by omega)
      have e0 : ∀ p, rowT T p 0 = 1 := fun p => rfl
      have e1 : row1 a b c 0 = 1 := rfl
      simp only [e0, e1] at this
      rw [this, Int.mul_one]
    have fin : ∀ (f : Nat → Int) (j : Nat), j < 4 → (∀ p, f p = rowT T p j) → sumT (mixTo W pl pl.length) f pl.length = row1 a b c j * sumW (mixTo W pl pl.length) pl.length := by
      intro f j hj hfj
      have h1 := key f
      have h2 : f = fun p => rowT T p j := funext hfj
      rw [h2] at h1
      rw [hsum j hj, ← kW] at h1
      apply Int.eq_of_mul_eq_mul_right (show gcTo W 4 ≠ 0 by omega)
      rw [h2, h1, Int.mul_right_comm, Int.mul_comm (sumW _ _) (row1 a b c j)]
    refine ⟨⟨⟨l1, l4⟩, fun i hi => ?_, ?_⟩, fin (tA T) 1 (by omega) (fun p => rfl), fin (tB T) 2 (by omega) (fun p => rfl), fin (tC T) 3 (by omega) (fun p => rfl)⟩
    · obtain ⟨e1, e2⟩ := pT_mix W pl i hi
      rw [e1, e2]
      refine ⟨hq i hi, ⟨by omega, ?_⟩, fun j hj => ?_⟩
      · have : pl.getD i 0 ∈ pl := by simp [List.getD_eq_getElem?_getD, hi]
        have := hlt _ this; omega
      · rw [(pT_mix W pl j (by omega)).1]
        have := List.pairwise_iff_getElem.1 hpw j i (by omega) hi hj
        simp only [List.getD_eq_getElem?_getD, List.getElem?_eq_getElem hi, List.getElem?_eq_getElem (show j < pl.length by omega), Option.getD_some]
        omega
    · have hnx : ∀ i, i < pl.length → 0 ≤ pW (mixTo W pl pl.length) i := fun i hi => by rw [(pT_mix W pl i hi).2]; have := hq i hi; omega
      have h1 := gcdTo_dvd hnx
      have h2 : gcdTo (mixTo W pl pl.length) pl.length * gcTo W 4 ∣ gcTo W 4 := by
        refine gcTo_great hnn fun i hi => ?_
        by_cases hh : i < pl.length
        · have h3 := h1 i hh
          rw [(pT_mix W pl i hh).2] at h3
          have h4 := Int.mul_dvd_mul h3 (Int.dvd_refl (gcTo W 4))
          rwa [← hdv i hi] at h4
        · rw [hzer i (by omega) hi]; exact Int.dvd_zero _
      have h3 : gcdTo (mixTo W pl pl.length) pl.length * gcTo W 4 ∣ 1 * gcTo W 4 := by rw [Int.one_mul]; exact h2
      have h4 := Int.dvd_of_mul_dvd_mul_right (show gcTo W 4 ≠ 0 by omega) h3
      exact Int.eq_one_of_dvd_one (gcdTo_nn _ _) h4
theorem sumT_add (P : List (Int × Int)) (f g : Nat → Int) : ∀ k, sumT P (fun p => f p + g p) k = sumT P f k + sumT P g k
  | 0 => rfl
  | k + 1 => by simp only [sumT, sumT_add P f g k, Int.mul_add]; omega
theorem sumT_mul (P : List (Int × Int)) (c : Int) (f : Nat → Int) : ∀ k, sumT P (fun p => c * f p) k = c * sumT P f k
  | 0 => by simp [sumT]
  | k + 1 => by simp only [sumT, sumT_mul P c f k, Int.mul_add]; rw [Int.mul_left_comm]
theorem sumT_const (P : List (Int × Int)) (c : Int) : ∀ k, sumT P (fun _ => c) k = c * sumW P k
  | 0 => by simp [sumT, sumW]
  | k + 1 => by simp only [sumT, sumW, sumT_const P c k, Int.mul_add, Int.mul_comm]
theorem sumT_mono {P : List (Int × Int)} {f g : Nat → Int} : ∀ {k : Nat}, (∀ i, i < k → 1 ≤ pW P i ∧ f (pT P i).toNat ≤ g (pT P i).toNat) → sumT P f k ≤ sumT P g k
  | 0, _ => Int.le_refl _
  | k + 1, h => by
    have h1 := sumT_mono (k := k) (f := f) (g := g) (P := P) (fun i hi => h i (by omega))
    obtain ⟨h2, h3⟩ := h k (by omega)
    have h4 := Int.mul_le_mul_of_nonneg_left h3 (show 0 ≤ pW P k by omega)
    simp only [sumT]; omega
theorem sumW_ge {P : List (Int × Int)} : ∀ {k : Nat}, (∀ i, i < k → 1 ≤ pW P i) → (k : Int) ≤ sumW P k
  | 0, _ => by simp [sumW]
  | k + 1, h => by
    have := sumW_ge (k := k) (fun i hi => h i (by omega))
    have := h k (by omega)
    simp only [sumW]; omega
/-- a plane that has the tints of a recipe on one side has its shade there -/
theorem plane_side {P : List (Int × Int)} {T : List T5} {k n : Nat} {N0 N1 N2 C a b c : Int} (hk : 1 ≤ k) (hP : ∀ i, i < k → 1 ≤ pW P i ∧ 0 ≤ pT P i ∧ pT P i < n) (hT : ∀ p, p < n → N0 * tA T p + N1 * tB T p + N2 * tC T p ≤ C)
    (h1 : sumT P (tA T) k = a * sumW P k) (h2 : sumT P (tB T) k = b * sumW P k) (h3 : sumT P (tC T) k = c * sumW P k) : N0 * a + N1 * b + N2 * c ≤ C := by
  have hm : sumT P (fun p => N0 * tA T p + N1 * tB T p + N2 * tC T p) k ≤ sumT P (fun _ => C) k := sumT_mono fun i hi => ⟨(hP i hi).1, hT _ (by have := hP i hi; omega)⟩
  have hW := sumW_ge (P := P) (k := k) (fun i hi => (hP i hi).1)
  rw [sumT_const, sumT_add, sumT_add, sumT_mul, sumT_mul, sumT_mul, h1, h2, h3, ← Int.mul_assoc, ← Int.mul_assoc, ← Int.mul_assoc, ← Int.add_mul, ← Int.add_mul] at hm
  exact Int.le_of_mul_le_mul_right hm (by omega)
theorem plane_none {T : List T5} {n : Nat} {N0 N1 N2 C a b c : Int} (hS : shOk T) (ha : 0 ≤ a ∧ a ≤ 1000) (hb : 0 ≤ b ∧ b ≤ 1000) (hc : 0 ≤ c ∧ c ≤ 1000) (hT : ∀ p, p < n → N0 * tA T p + N1 * tB T p + N2 * tC T p ≤ C) (hw : C < N0 * a + N1 * b + N2 * c) : rcpL T n a b c = [] := by
  cases hr : rcpL T n a b c with
  | nil => rfl
  | cons x rest =>
    have hx : x ∈ rcpL T n a b c := by rw [hr]; simp
    obtain ⟨⟨⟨l1, l4⟩, hi, _⟩, s1, s2, s3⟩ := rcp_spec hS ha hb hc hx
    have := plane_side (T := T) (n := n) l1 (fun i h => ⟨(hi i h).1.1, (hi i h).2.1⟩) hT s1 s2 s3
    omega
theorem rcp_small {T : List T5} {n : Nat} {a b c : Int} {x : List (Int × Int)} (hS : shOk T) (ha : 0 ≤ a ∧ a ≤ 1000) (hb : 0 ≤ b ∧ b ≤ 1000) (hc : 0 ≤ c ∧ c ≤ 1000) (h : x ∈ rcpL T n a b c) : smallR x n ∧ recB x n = true := by
  obtain ⟨⟨⟨l1, l4⟩, hi, hg⟩, _⟩ := rcp_spec hS ha hb hc h
  refine ⟨⟨⟨l1, l4⟩, fun i hh => ?_⟩, ?_⟩
  · have := hi i hh; omega
  · unfold recB
    rw [hg]
    simp only [Bool.and_eq_true, decide_eq_true_eq, beq_self_eq_true, and_true]
    refine ⟨⟨l1, l4⟩, List.all_eq_true.2 fun i hh => ?_⟩
    have hh : i < x.length := by simpa using hh
    obtain ⟨h1, h2, h3⟩ := hi i hh
    simp only [okPt, Bool.and_eq_true, decide_eq_true_eq]
    refine ⟨⟨?_, by omega⟩, by omega, by omega⟩
    cases i with
    | zero => simp only [lastT]; omega
    | succ i => exact h3 i (by omega)
-- fractions
theorem gcdI_mul (a W : Int) (ha : 0 ≤ a) (hW : 0 < W) : gcdI (a * W) W = W := by
  obtain ⟨a, rfl⟩ := Int.eq_ofNat_of_zero_le ha
  obtain ⟨W, rfl⟩ := Int.eq_ofNat_of_zero_le (show 0 ≤ W by omega)
  unfold gcdI
  rw [← Int.natCast_mul]
  simp only [Int.toNat_natCast, Nat.gcd_mul_left_left]
theorem low_whole (a W : Int) (ha : 0 ≤ a) (hW : 0 < W) : lowA (a * W) W = a ∧ lowB (a * W) W = 1 := by
  unfold lowA lowB
  rw [gcdI_mul a W ha hW]
  exact ⟨Int.mul_tdiv_cancel _ (by omega), Int.tdiv_self (by omega)⟩
theorem low_cross (P W : Int) (hP : 0 ≤ P) (hW : 0 < W) : lowA P W * W = P * lowB P W ∧ 0 ≤ lowA P W ∧ 0 < lowB P W := by
  have g0 := (gcdI_pos P W hW).1
  have d1 := Int.tdiv_mul_cancel (gcdI_dl (y := W) hP)
  have d2 := Int.tdiv_mul_cancel (gcdI_dr (x := P) (show 0 ≤ W by omega))
  unfold lowA lowB
  refine ⟨?_, Int.tdiv_nonneg hP (by omega), ?_⟩
  · conv => lhs; rhs; rw [← d2]
    conv => rhs; lhs; rw [← d1]
    simp only [Int.mul_assoc, Int.mul_comm, Int.mul_left_comm]
  · have h1 : 0 ≤ W.tdiv (gcdI P W) := Int.tdiv_nonneg (by omega) (by omega)
    have h2 : W.tdiv (gcdI P W) ≠ 0 := fun e => by rw [e, Int.zero_mul] at d2; omega
    omega
/-- fractions in lowest terms are less as their products are -/
theorem less_low {P W Q V : Int} (hP : 0 ≤ P) (hW : 0 < W) (hQ : 0 ≤ Q) (hV : 0 < V) : lessB (lowA P W).toNat (lowB P W).toNat (lowA Q V).toNat (lowB Q V).toNat = true ↔ P * V < Q * W := by
  obtain ⟨a1, a2, a3⟩ := low_cross P W hP hW
  obtain ⟨b1, b2, b3⟩ := low_cross Q V hQ hV
  unfold lessB
  rw [decide_eq_true_eq]
  generalize lowA P W = p at *
  generalize lowB P W = w at *
  generalize lowA Q V = q at *
  generalize lowB Q V = v at *
  have e : p.toNat * v.toNat < q.toNat * w.toNat ↔ p * v < q * w := by
    obtain ⟨p, rfl⟩ := Int.eq_ofNat_of_zero_le a2
    obtain ⟨w, rfl⟩ := Int.eq_ofNat_of_zero_le (show 0 ≤ w by omega)
    obtain ⟨q, rfl⟩ := Int.eq_ofNat_of_zero_le b2
    obtain ⟨v, rfl⟩ := Int.eq_ofNat_of_zero_le (show 0 ≤ v by omega)
    simp only [Int.toNat_natCast]
    rw [← Int.natCast_mul, ← Int.natCast_mul]; omega
  rw [e]
  -- p W = P w, q V = Q v
  have k1 : p * v * (W * V) = P * V * (w * v) := by
    have : p * v * (W * V) = (p * W) * (v * V) := by simp only [Int.mul_assoc, Int.mul_comm, Int.mul_left_comm]
    rw [this, a1]; simp only [Int.mul_assoc, Int.mul_comm, Int.mul_left_comm]
  have k2 : q * w * (W * V) = Q * W * (w * v) := by
    have : q * w * (W * V) = (q * V) * (w * W) := by simp only [Int.mul_assoc, Int.mul_comm, Int.mul_left_comm]
    rw [this, b1]; simp only [Int.mul_assoc, Int.mul_comm, Int.mul_left_comm]
  have hWV : 0 < W * V := Int.mul_pos hW hV
  have hwv : 0 < w * v := Int.mul_pos a3 b3
  constructor
  · intro h
    have := Int.mul_lt_mul_of_pos_right h hWV
    rw [k1, k2] at this
    exact Int.lt_of_mul_lt_mul_right this (by omega)
  · intro h
    have := Int.mul_lt_mul_of_pos_right h hwv
    rw [← k1, ← k2] at this
    exact Int.lt_of_mul_lt_mul_right this (by omega)
def pP (T : List T5) (x : List (Int × Int)) : Int := sumT x (tP T) x.length
def pV (x : List (Int × Int)) : Int := sumW x x.length
def ltR (T : List T5) (x y : List (Int × Int)) : Prop := pP T x * pV y < pP T y * pV x
def posR (T : List T5) (x : List (Int × Int)) : Prop := 0 ≤ pP T x ∧ 0 < pV x
theorem posR_of {T : List T5} {x : List (Int × Int)} {n : Nat} (htn : tnOk T) (h : smallR x n) : posR T x := by
  obtain ⟨⟨l1, l4⟩, hp⟩ := h
  have hW := sumW_ge (P := x) (k := x.length) (fun i hi => (hp i hi).1.1)
  refine ⟨?_, by unfold pV; omega⟩
  have h0 : sumT x (fun _ => 0) x.length ≤ sumT x (tP T) x.length := sumT_mono fun i hi => ⟨(hp i hi).1.1, (htn _).2.2.1⟩
  rw [sumT_const, Int.zero_mul] at h0
  exact h0
theorem lt_iff {T : List T5} {x y : List (Int × Int)} (hx : posR T x) (hy : posR T y) : lessB (pxA T x).toNat (pxB T x).toNat (pxA T y).toNat (pxB T y).toNat = true ↔ ltR T x y :=
  less_low hx.1 hx.2 hy.1 hy.2
theorem ltR_trans {T : List T5} {x y z : List (Int × Int)} (hx : posR T x) (hy : posR T y) (hz : posR T z) (h1 : ¬ ltR T x y) (h2 : ltR T z y) : ¬ ltR T x z := by
  unfold ltR at *
  obtain ⟨x1, x2⟩ := hx
  obtain ⟨y1, y2⟩ := hy
  obtain ⟨z1, z2⟩ := hz
  have a := Int.mul_le_mul_of_nonneg_right (show pP T y * pV x ≤ pP T x * pV y by omega) (show 0 ≤ pV z by omega)
  have b := Int.mul_le_mul_of_nonneg_right (show pP T z * pV y ≤ pP T y * pV z by omega) (show 0 ≤ pV x by omega)
  have e1 : pP T y * pV z * pV x = pP T y * pV x * pV z := Int.mul_right_comm _ _ _
  have e2 : pP T x * pV y * pV z = pP T x * pV z * pV y := Int.mul_right_comm _ _ _
  have e3 : pP T z * pV y * pV x = pP T z * pV x * pV y := Int.mul_right_comm _ _ _
  have c : pP T z * pV x * pV y ≤ pP T x * pV z * pV y := by omega
  have := Int.le_of_mul_le_mul_right c y2
  omega
theorem foldl_best {T : List T5} : ∀ (L : List (List (Int × Int))) (o : Option (List (Int × Int))), (∀ x, x ∈ L → posR T x) → (∀ y, o = some y → posR T y) →
    (o = none → L = [] → L.foldl (bstep T) o = none) ∧ ((o ≠ none ∨ L ≠ []) → ∃ y, L.foldl (bstep T) o = some y ∧ (y ∈ L ∨ o = some y) ∧ posR T y ∧ (∀ x, x ∈ L → ¬ ltR T x y) ∧ ∀ z, o = some z → ¬ ltR T z y)
  | [], o, _, hq => ⟨fun h _ => h, fun h => by
      rcases h with h | h
      · cases o with
        | none => exact absurd rfl h
        | some y => exact ⟨y, rfl, .inr rfl, hq y rfl, by simp, fun z hz => by injection hz with hz; subst hz; unfold ltR; omega⟩
      · exact absurd rfl h⟩
  | x :: L, o, hp, hq => by
    refine ⟨(fun _ h => by cases h), fun _ => ?_⟩
    have hx := hp x (by simp)
    have nir : ∀ q : List (Int × Int), ¬ ltR T q q := fun q => by unfold ltR; omega
    simp only [List.foldl_cons]
    cases o with
    | none =>
      obtain ⟨y, h1, h2, h3, h4, h5⟩ := (foldl_best L (some x) (fun x h => hp x (by simp [h])) (fun y hy => by injection hy with hy; subst hy; exact hx)).2 (.inl (by simp))
      refine ⟨y, h1, ?_, h3, ?_, fun z hz => by cases hz⟩
      · rcases h2 with h2 | h2
        · exact .inl (by simp [h2])
        · injection h2 with h2; subst h2; exact .inl (by simp)
      · intro z hz
        rcases List.mem_cons.1 hz with rfl | hz
        · exact h5 _ rfl
        · exact h4 z hz
    | some v =>
      have hv := hq v rfl
      simp only [bstep]
      by_cases hl : lessB (pxA T x).toNat (pxB T x).toNat (pxA T v).toNat (pxB T v).toNat = true
      · rw [if_pos hl]
        have hlt := (lt_iff hx hv).1 hl
        obtain ⟨y, h1, h2, h3, h4, h5⟩ := (foldl_best L (some x) (fun x h => hp x (by simp [h])) (fun y hy => by injection hy with hy; subst hy; exact hx)).2 (.inl (by simp))
        refine ⟨y, h1, ?_, h3, ?_, fun z hz => ?_⟩
        · rcases h2 with h2 | h2
          · exact .inl (by simp [h2])
          · injection h2 with h2; subst h2; exact .inl (by simp)
        · intro z hz
          rcases List.mem_cons.1 hz with rfl | hz
          · exact h5 _ rfl
          · exact h4 z hz
        · injection hz with hz; subst hz
          -- v is dearer than x, x is not cheaper than y
          have hxy := h5 x rfl
          intro hvy
          -- v < y and x < v give x < y
          unfold ltR at *
          obtain ⟨x1, x2⟩ := hx
          obtain ⟨v1, v2⟩ := hv
          obtain ⟨y1, y2⟩ := h3
          have a := Int.mul_lt_mul_of_pos_right hlt y2
          have b := Int.mul_lt_mul_of_pos_right hvy x2
          have e1 : pP T v * pV y * pV x = pP T v * pV x * pV y := Int.mul_right_comm _ _ _
          have e2 : pP T x * pV v * pV y = pP T x * pV y * pV v := Int.mul_right_comm _ _ _
          have e3 : pP T y * pV v * pV x = pP T y * pV x * pV v := Int.mul_right_comm _ _ _
          have c : pP T x * pV y * pV v < pP T y * pV x * pV v := by omega
          exact hxy (Int.lt_of_mul_lt_mul_right c (by omega))
      · rw [if_neg hl]
        have hnl : ¬ ltR T x v := fun h => hl ((lt_iff hx hv).2 h)
        obtain ⟨y, h1, h2, h3, h4, h5⟩ := (foldl_best L (some v) (fun x h => hp x (by simp [h])) (fun y hy => by injection hy with hy; subst hy; exact hv)).2 (.inl (by simp))
        refine ⟨y, h1, ?_, h3, ?_, fun z hz => h5 z hz⟩
        · rcases h2 with h2 | h2
          · exact .inl (by simp [h2])
          · exact .inr h2
        · intro z hz
          rcases List.mem_cons.1 hz with rfl | hz
          · intro hzy
            by_cases hyv : ltR T y v
            · exact ltR_trans hx hv h3 hnl hyv hzy
            · -- v is not cheaper than y, y not cheaper than v: equal
              have hvy := h5 v rfl
              unfold ltR at *
              obtain ⟨x1, x2⟩ := hx
              obtain ⟨v1, v2⟩ := hv
              obtain ⟨y1, y2⟩ := h3
              have a := Int.mul_le_mul_of_nonneg_right (show pP T v * pV z ≤ pP T z * pV v by omega) (show 0 ≤ pV y by omega)
              have b := Int.mul_lt_mul_of_pos_right hzy v2
              have c := Int.mul_le_mul_of_nonneg_right (show pP T y * pV v ≤ pP T v * pV y by omega) (show 0 ≤ pV z by omega)
              have e1 : pP T z * pV y * pV v = pP T z * pV v * pV y := Int.mul_right_comm _ _ _
              have e2 : pP T y * pV v * pV z = pP T y * pV z * pV v := Int.mul_right_comm _ _ _
              have e3 : pP T v * pV y * pV z = pP T v * pV z * pV y := Int.mul_right_comm _ _ _
              omega
          · exact h4 z hz
/-- the first of the least price: in the list, and none is cheaper -/
theorem best_spec {T : List T5} {L : List (List (Int × Int))} (h : ∀ x, x ∈ L → posR T x) : (L = [] → bestTo T L = none) ∧ (L ≠ [] → ∃ y, bestTo T L = some y ∧ y ∈ L ∧ posR T y ∧ ∀ x, x ∈ L → ¬ ltR T x y) := by
  have := foldl_best L none h (fun y h => by cases h)
  refine ⟨this.1 rfl, fun hl => ?_⟩
  obtain ⟨y, h1, h2, h3, h4, _⟩ := this.2 (.inr hl)
  exact ⟨y, h1, h2.elim id (fun h => by cases h), h3, h4⟩
-- one tint more
theorem getD_app {α : Type} (l : List α) (q d : α) (i : Nat) (h : i < l.length) : (l ++ [q]).getD i d = l.getD i d := by
  simp [List.getD_eq_getElem?_getD, List.getElem?_append_left h]
theorem extL_more {n : Nat} : ∀ {k : Nat} {pre : List Nat} {s : Nat} {x : List Nat}, x ∈ extL n k pre s → x ∈ extL (n + 1) k pre s
  | 0, pre, s, x, h => h
  | k + 1, pre, s, x, h => by
    simp only [extL, List.mem_flatMap, List.mem_range] at h ⊢
    obtain ⟨i, hi, hx⟩ := h
    exact ⟨i, by omega, extL_more hx⟩
theorem frm_more (T : List T5) (q : T5) (pl ds : List Nat) (h : ∀ p ∈ pl, p < T.length) : frm (T ++ [q]) pl ds = frm T pl ds := by
  funext k
  unfold frm
  by_cases hk : k / 4 < pl.length
  · rw [if_pos hk, if_pos hk]
    have hm : pl.getD (k / 4) 0 ∈ pl := by simp [List.getD_eq_getElem?_getD, hk]
    have hl := h _ hm
    unfold rowT tA tB tC
    rw [getD_app _ _ _ _ hl]
  · rw [if_neg hk, if_neg hk]
theorem frF_more (T : List T5) (q : T5) (pl : List Nat) (h : ∀ p ∈ pl, p < T.length) : frF (T ++ [q]) pl = frF T pl := by
  unfold frF frameR
  simp only [frm_more T q pl _ h]
theorem rcpL_more {T : List T5} {q : T5} {a b c : Int} {x : List (Int × Int)} (h : x ∈ rcpL T T.length a b c) : x ∈ rcpL (T ++ [q]) (T.length + 1) a b c := by
  simp only [rcpL, List.mem_filterMap] at h ⊢
  obtain ⟨y, hy, hx⟩ := h
  refine ⟨y, ?_, hx⟩
  simp only [freeTo, List.mem_flatMap, List.mem_range, List.mem_filterMap] at hy ⊢
  obtain ⟨i, hi, pl, hpl, hf⟩ := hy
  refine ⟨i, hi, pl, extL_more hpl, ?_⟩
  rw [frF_more T q pl (extL_asc hpl ⟨by simp, by simp⟩).2.1]
  exact hf
theorem pP_more {T : List T5} {q : T5} {x : List (Int × Int)} (h : smallR x T.length) : pP (T ++ [q]) x = pP T x := by
  unfold pP
  refine sumT_congr fun i hi => ?_
  have := (h.2 i hi).2
  unfold tP
  rw [getD_app _ _ _ _ (by omega)]
-- duals
/-- a recipe that gives a shade costs at least what a dual says -/
theorem dual_least {P : List (Int × Int)} {T : List T5} {k n : Nat} {N0 N1 N2 N3 D a b c : Int} (hP : ∀ i, i < k → 1 ≤ pW P i ∧ 0 ≤ pT P i ∧ pT P i < n) (hT : ∀ p, p < n → N0 + (N1 * tA T p + N2 * tB T p + N3 * tC T p) ≤ D * tP T p)
    (h1 : sumT P (tA T) k = a * sumW P k) (h2 : sumT P (tB T) k = b * sumW P k) (h3 : sumT P (tC T) k = c * sumW P k) : (N0 + (N1 * a + N2 * b + N3 * c)) * sumW P k ≤ D * sumT P (tP T) k := by
  have hm : sumT P (fun p => N0 + (N1 * tA T p + N2 * tB T p + N3 * tC T p)) k ≤ sumT P (fun p => D * tP T p) k := sumT_mono fun i hi => ⟨(hP i hi).1, hT _ (by have := hP i hi; omega)⟩
  rw [sumT_mul, sumT_add (f := fun _ => N0), sumT_const, sumT_add, sumT_add, sumT_mul, sumT_mul, sumT_mul, h1, h2, h3, ← Int.mul_assoc, ← Int.mul_assoc, ← Int.mul_assoc, ← Int.add_mul, ← Int.add_mul, ← Int.add_mul] at hm
  exact hm
/-- a mixture whose fractions are whole numbers gives these -/
theorem low_is_whole {S W a : Int} (hS : 0 ≤ S) (hW : 0 < W) (h1 : lowA S W = a) (h2 : lowB S W = 1) : S = a * W := by
  have := (low_cross S W hS hW).1
  rw [h1, h2, Int.mul_one] at this
  exact this.symm

end Go.Proofs.Ytpjekinmcdglbaa
