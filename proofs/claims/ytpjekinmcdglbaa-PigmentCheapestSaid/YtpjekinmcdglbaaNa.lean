/- Numbers of recipes: the weights that cross products give are those that determinants give, so both find the same recipe of the same places. No condition beyond what each lemma names. -/
import Derived.Test.YtpjekinmcdglbaaMa
set_option linter.unusedSimpArgs false
set_option linter.unusedVariables false
set_option maxRecDepth 100000
namespace Go.Proofs.Ytpjekinmcdglbaa

/-! the reference's recipes are the program's -/
structure V3 where
  x : Int
  y : Int
  z : Int
def V3.sub (a b : V3) : V3 := ⟨a.x - b.x, a.y - b.y, a.z - b.z⟩
def V3.dot (a b : V3) : Int := a.x * b.x + a.y * b.y + a.z * b.z
def V3.cross (a b : V3) : V3 := ⟨a.y * b.z - a.z * b.y, a.z * b.x - a.x * b.z, a.x * b.y - a.y * b.x⟩
def sh3 (T : List T5) (p : Nat) : V3 := ⟨tA T p, tB T p, tC T p⟩
/-- the reference's weights of one to four points -/
def rw2 (p q w : V3) : List Int × Bool :=
  let u := q.sub p; let x := w.sub p
  ([u.dot u - u.dot x, u.dot x], decide (0 < u.dot u) && (decide ((u.cross x).x = 0) && decide ((u.cross x).y = 0) && decide ((u.cross x).z = 0)))
def rw3 (p q r w : V3) : List Int × Bool :=
  let u := q.sub p; let v := r.sub p; let x := w.sub p; let n := u.cross v
  let a := n.dot (x.cross v); let b := n.dot (u.cross x)
  ([n.dot n - a - b, a, b], (!(decide (n.x = 0) && decide (n.y = 0) && decide (n.z = 0))) && decide (n.dot x = 0))
def rw4 (p q r s w : V3) : List Int × Bool :=
  let u := q.sub p; let v := r.sub p; let t := s.sub p; let x := w.sub p; let n := u.cross v
  let d := n.dot t; let a := (x.cross v).dot t; let b := (u.cross x).dot t; let c := n.dot x
  if d < 0 then ([a + b + c - d, -a, -b, -c], true) else ([d - a - b - c, a, b, c], decide (0 < d))
def rwt : List V3 → V3 → List Int × Bool
  | [p], w => ([1], decide (w.x = p.x) && decide (w.y = p.y) && decide (w.z = p.z))
  | [p, q], w => rw2 p q w
  | [p, q, r], w => rw3 p q r w
  | [p, q, r, s], w => rw4 p q r s w
  | _, _ => ([], false)
-- multilinear: a row that is a sum of the rows
theorem rowsum0 (a0 a1 a2 a3 b0 b1 b2 b3 c0 c1 c2 c3 d0 d1 d2 d3 y0 y1 y2 y3 : Int) :
    D16 (y0*a0+y1*b0+y2*c0+y3*d0) (y0*a1+y1*b1+y2*c1+y3*d1) (y0*a2+y1*b2+y2*c2+y3*d2) (y0*a3+y1*b3+y2*c3+y3*d3) b0 b1 b2 b3 c0 c1 c2 c3 d0 d1 d2 d3 = y0 * D16 a0 a1 a2 a3 b0 b1 b2 b3 c0 c1 c2 c3 d0 d1 d2 d3 := by
  simp only [D16]; grind
theorem rowsum1 (a0 a1 a2 a3 b0 b1 b2 b3 c0 c1 c2 c3 d0 d1 d2 d3 y0 y1 y2 y3 : Int) :
    D16 a0 a1 a2 a3 (y0*a0+y1*b0+y2*c0+y3*d0) (y0*a1+y1*b1+y2*c1+y3*d1) (y0*a2+y1*b2+y2*c2+y3*d2) (y0*a3+y1*b3+y2*c3+y3*d3) c0 c1 c2 c3 d0 d1 d2 d3 = y1 * D16 a0 a1 a2 a3 b0 b1 b2 b3 c0 c1 c2 c3 d0 d1 d2 d3 := by
  simp only [D16]; grind
theorem rowsum2 (a0 a1 a2 a3 b0 b1 b2 b3 c0 c1 c2 c3 d0 d1 d2 d3 y0 y1 y2 y3 : Int) :
    D16 a0 a1 a2 a3 b0 b1 b2 b3 (y0*a0+y1*b0+y2*c0+y3*d0) (y0*a1+y1*b1+y2*c1+y3*d1) (y0*a2+y1*b2+y2*c2+y3*d2) (y0*a3+y1*b3+y2*c3+y3*d3) d0 d1 d2 d3 = y2 * D16 a0 a1 a2 a3 b0 b1 b2 b3 c0 c1 c2 c3 d0 d1 d2 d3 := by
  simp only [D16]; grind
theorem rowsum3 (a0 a1 a2 a3 b0 b1 b2 b3 c0 c1 c2 c3 d0 d1 d2 d3 y0 y1 y2 y3 : Int) :
    D16 a0 a1 a2 a3 b0 b1 b2 b3 c0 c1 c2 c3 (y0*a0+y1*b0+y2*c0+y3*d0) (y0*a1+y1*b1+y2*c1+y3*d1) (y0*a2+y1*b2+y2*c2+y3*d2) (y0*a3+y1*b3+y2*c3+y3*d3) = y3 * D16 a0 a1 a2 a3 b0 b1 b2 b3 c0 c1 c2 c3 d0 d1 d2 d3 := by
  simp only [D16]; grind
theorem rowscale0 (S r0 r1 r2 r3 b0 b1 b2 b3 c0 c1 c2 c3 d0 d1 d2 d3 : Int) : D16 (S*r0) (S*r1) (S*r2) (S*r3) b0 b1 b2 b3 c0 c1 c2 c3 d0 d1 d2 d3 = S * D16 r0 r1 r2 r3 b0 b1 b2 b3 c0 c1 c2 c3 d0 d1 d2 d3 := by
  simp only [D16]; grind
theorem rowscale1 (S r0 r1 r2 r3 a0 a1 a2 a3 c0 c1 c2 c3 d0 d1 d2 d3 : Int) : D16 a0 a1 a2 a3 (S*r0) (S*r1) (S*r2) (S*r3) c0 c1 c2 c3 d0 d1 d2 d3 = S * D16 a0 a1 a2 a3 r0 r1 r2 r3 c0 c1 c2 c3 d0 d1 d2 d3 := by
  simp only [D16]; grind
theorem rowscale2 (S r0 r1 r2 r3 a0 a1 a2 a3 b0 b1 b2 b3 d0 d1 d2 d3 : Int) : D16 a0 a1 a2 a3 b0 b1 b2 b3 (S*r0) (S*r1) (S*r2) (S*r3) d0 d1 d2 d3 = S * D16 a0 a1 a2 a3 b0 b1 b2 b3 r0 r1 r2 r3 d0 d1 d2 d3 := by
  simp only [D16]; grind
theorem rowscale3 (S r0 r1 r2 r3 a0 a1 a2 a3 b0 b1 b2 b3 c0 c1 c2 c3 : Int) : D16 a0 a1 a2 a3 b0 b1 b2 b3 c0 c1 c2 c3 (S*r0) (S*r1) (S*r2) (S*r3) = S * D16 a0 a1 a2 a3 b0 b1 b2 b3 c0 c1 c2 c3 r0 r1 r2 r3 := by
  simp only [D16]; grind
/-- if S times a row is the sum of y times the rows, S times its weights are y times the determinant -/
theorem row_weights {f r : Nat → Int} {S : Int} {y : Nat → Int} (h : ∀ j, j < 4 → S * r j = y 0 * f j + y 1 * f (4 + j) + y 2 * f (8 + j) + y 3 * f (12 + j)) :
    ∀ i, i < 4 → S * detI (rowSet f i r) = y i * detI f := by
  have h0 := h 0 (by omega)
  have h1 := h 1 (by omega)
  have h2 := h 2 (by omega)
  have h3 := h 3 (by omega)
  simp only [Nat.add_zero, Nat.reduceAdd] at h0 h1 h2 h3
  intro i hi
  have : i = 0 ∨ i = 1 ∨ i = 2 ∨ i = 3 := by omega
  rcases this with rfl | rfl | rfl | rfl
  · have a := rowscale0 S (r 0) (r 1) (r 2) (r 3) (f 4) (f 5) (f 6) (f 7) (f 8) (f 9) (f 10) (f 11) (f 12) (f 13) (f 14) (f 15)
    rw [h0, h1, h2, h3, rowsum0] at a
    exact a.symm
  · have a := rowscale1 S (r 0) (r 1) (r 2) (r 3) (f 0) (f 1) (f 2) (f 3) (f 8) (f 9) (f 10) (f 11) (f 12) (f 13) (f 14) (f 15)
    rw [h0, h1, h2, h3, rowsum1] at a
    exact a.symm
  · have a := rowscale2 S (r 0) (r 1) (r 2) (r 3) (f 0) (f 1) (f 2) (f 3) (f 4) (f 5) (f 6) (f 7) (f 12) (f 13) (f 14) (f 15)
    rw [h0, h1, h2, h3, rowsum2] at a
    exact a.symm
  · have a := rowscale3 S (r 0) (r 1) (r 2) (r 3) (f 0) (f 1) (f 2) (f 3) (f 4) (f 5) (f 6) (f 7) (f 8) (f 9) (f 10) (f 11)
    rw [h0, h1, h2, h3, rowsum3] at a
    exact a.symm
theorem ext3 : (extL 3 3 [] 0 = [[0, 1, 2]]) ∧ (extL 3 2 [] 0 = [[0, 1], [0, 2], [1, 2]]) ∧ (extL 3 1 [] 0 = [[0], [1], [2]]) ∧ extL 3 0 [] 0 = [[]] := by decide +kernel
theorem det1 (T : List T5) (p : Nat) : detI (frm T [p] [0, 1, 2]) = 1 := by
  simp [detI, upI, loI, frm, rowT]
theorem det2a (T : List T5) (p q : Nat) : detI (frm T [p, q] [0, 1]) = tC T q - tC T p := by
  simp [detI, upI, loI, frm, rowT]
theorem det2b (T : List T5) (p q : Nat) : detI (frm T [p, q] [0, 2]) = -(tB T q - tB T p) := by
  simp [detI, upI, loI, frm, rowT]; try omega
theorem det2c (T : List T5) (p q : Nat) : detI (frm T [p, q] [1, 2]) = tA T q - tA T p := by
  simp [detI, upI, loI, frm, rowT]
def nrm (T : List T5) (p q r : Nat) : V3 := ((sh3 T q).sub (sh3 T p)).cross ((sh3 T r).sub (sh3 T p))
theorem det3a (T : List T5) (p q r : Nat) : detI (frm T [p, q, r] [0]) = (nrm T p q r).x := by
  simp [detI, upI, loI, frm, rowT, nrm, V3.cross, V3.sub, sh3]; grind
theorem det3b (T : List T5) (p q r : Nat) : detI (frm T [p, q, r] [1]) = (nrm T p q r).y := by
  simp [detI, upI, loI, frm, rowT, nrm, V3.cross, V3.sub, sh3]; grind
theorem det3c (T : List T5) (p q r : Nat) : detI (frm T [p, q, r] [2]) = (nrm T p q r).z := by
  simp [detI, upI, loI, frm, rowT, nrm, V3.cross, V3.sub, sh3]; grind
theorem det4 (T : List T5) (p q r s : Nat) : detI (frm T [p, q, r, s] []) = (nrm T p q r).dot ((sh3 T s).sub (sh3 T p)) := by
  simp [detI, upI, loI, frm, rowT, nrm, V3.cross, V3.sub, V3.dot, sh3]; grind
theorem sg_abs (d : Int) (h : d ≠ 0) : 0 < sg1 d * d := by unfold sg1; split <;> omega
theorem pos_r {a b : Int} (ha : 0 < a) (h : 0 < a * b) : 0 < b := by
  rcases Int.lt_trichotomy b 0 with hb | hb | hb
  · have := Int.mul_neg_of_pos_of_neg ha hb; omega
  · subst hb; omega
  · exact hb
theorem gcdI_scale (K x y : Int) (hK : 0 < K) (hx : 0 ≤ x) (hy : 0 ≤ y) : gcdI (K * x) (K * y) = K * gcdI x y := by
  obtain ⟨K, rfl⟩ := Int.eq_ofNat_of_zero_le (show 0 ≤ K by omega)
  obtain ⟨x, rfl⟩ := Int.eq_ofNat_of_zero_le hx
  obtain ⟨y, rfl⟩ := Int.eq_ofNat_of_zero_le hy
  unfold gcdI
  rw [show (K : Int) * (x : Int) = ((K * x : Nat) : Int) from (Int.natCast_mul _ _).symm, show (K : Int) * (y : Int) = ((K * y : Nat) : Int) from (Int.natCast_mul _ _).symm]
  rw [Int.toNat_natCast, Int.toNat_natCast, Nat.gcd_mul_left, Int.natCast_mul, Int.toNat_natCast, Int.toNat_natCast]
theorem gcTo_scale (K : Int) (W : Nat → Int) (hK : 0 < K) : ∀ k, (∀ i, i < k → 0 ≤ W i) → gcTo (fun i => K * W i) k = K * gcTo W k
  | 0, _ => by simp [gcTo]
  | k + 1, h => by
    simp only [gcTo]
    rw [gcTo_scale K W hK k (fun i hi => h i (by omega)), gcdI_scale K _ _ hK (gcTo_nn W k) (h k (by omega))]
theorem gcTo_congr {W V : Nat → Int} : ∀ k, (∀ i, i < k → W i = V i) → gcTo W k = gcTo V k
  | 0, _ => rfl
  | k + 1, h => by simp only [gcTo]; rw [gcTo_congr k (fun i hi => h i (by omega)), h k (by omega)]
theorem gcdI_z (x : Int) (hx : 0 ≤ x) : gcdI x 0 = x := by unfold gcdI; simp; omega
theorem gcTo_zeros {W : Nat → Int} {l : Nat} : ∀ k, l ≤ k → (∀ i, l ≤ i → i < k → W i = 0) → gcTo W k = gcTo W l
  | 0, h, _ => by obtain rfl : l = 0 := by omega
                  rfl
  | k + 1, h, hz => by
    by_cases hk : l = k + 1
    · rw [hk]
    · simp only [gcTo]
      rw [hz k (by omega) (by omega), gcdI_z _ (gcTo_nn W k), gcTo_zeros k (by omega) (fun i h1 h2 => hz i h1 (by omega))]
theorem tdiv_same {K S W y gW gy : Int} (hK : 0 < K) (hS : 0 < S) (h : S * W = K * y) (hg : S * gW = K * gy) (hgW : 0 < gW) (hd : gW ∣ W) : W.tdiv gW = y.tdiv gy := by
  obtain ⟨q, rfl⟩ := hd
  have h1 : K * y = K * (gy * q) := by rw [← h, ← Int.mul_assoc, hg, Int.mul_assoc]
  have h2 : y = gy * q := Int.eq_of_mul_eq_mul_left (by omega) h1
  have h3 : 0 < gy := by
    have : 0 < K * gy := by rw [← hg]; exact Int.mul_pos hS hgW
    exact pos_r hK this
  rw [h2, Int.mul_tdiv_cancel_left _ (by omega), Int.mul_tdiv_cancel_left _ (by omega)]
/-- the parts of a recipe of places and weights -/
def partsOf (pl : List Nat) (y : Nat → Int) : List (Int × Int) := (List.range pl.length).map fun i => ((pl.getD i 0 : Int), (y i).tdiv (gcTo y pl.length))
/-- weights that give the shade are the program's -/
theorem same_of {f : Nat → Int} {pl : List Nat} {a b c S : Int} {y : Nat → Int} (hl1 : 1 ≤ pl.length) (hl : pl.length ≤ 4) (hd : detI f ≠ 0) (hS : 0 < S) (hp : ∀ i, i < pl.length → 0 < y i) (hz : ∀ i, pl.length ≤ i → i < 4 → y i = 0)
    (h : ∀ j, j < 4 → S * row1 a b c j = y 0 * f j + y 1 * f (4 + j) + y 2 * f (8 + j) + y 3 * f (12 + j)) : rcF a b c (pl, f) = some (partsOf pl y) := by
  have hK := sg_abs _ hd
  have hw : ∀ i, i < 4 → S * weI f (row1 a b c) i = (sg1 (detI f) * detI f) * y i := by
    intro i hi
    have := row_weights h i hi
    unfold weI
    rw [Int.mul_left_comm, this, Int.mul_assoc, Int.mul_comm (detI f)]
  have hpos : ∀ i, i < pl.length → 0 < weI f (row1 a b c) i := fun i hi => by
    have h1 := hw i (by omega)
    have h2 := Int.mul_pos hK (hp i hi)
    rw [← h1] at h2
    exact pos_r hS h2
  have hzer : ∀ i, pl.length ≤ i → i < 4 → weI f (row1 a b c) i = 0 := fun i h1 h4 => by
    have h2 := hw i h4
    rw [hz i h1 h4, Int.mul_zero] at h2
    rcases Int.mul_eq_zero.1 h2 with h | h
    · omega
    · exact h
  have hat : ∀ i, i < 4 → okAt (weI f (row1 a b c)) pl.length i = true := fun i hi => by
    unfold okAt
    by_cases hh : i < pl.length
    · have := hpos i hh
      rw [decide_eq_true hh, decide_eq_true this, decide_eq_false (by omega)]; rfl
    · have := hzer i (by omega) hi
      rw [this]
      simp [hh]
  have hok : okTo (weI f (row1 a b c)) pl.length 4 = true := by
    simp only [okTo, hat 0 (by omega), hat 1 (by omega), hat 2 (by omega), hat 3 (by omega)]; rfl
  have hnn : ∀ i, i < 4 → 0 ≤ weI f (row1 a b c) i := fun i hi => by
    by_cases hh : i < pl.length
    · have := hpos i hh; omega
    · have := hzer i (by omega) hi; omega
  have hyn : ∀ i, i < 4 → 0 ≤ y i := fun i hi => by
    by_cases hh : i < pl.length
    · have := hp i hh; omega
    · have := hz i (by omega) hi; omega
  have hg : S * gcTo (weI f (row1 a b c)) 4 = (sg1 (detI f) * detI f) * gcTo y 4 := by
    rw [← gcTo_scale S _ hS 4 hnn, ← gcTo_scale _ y hK 4 hyn]
    exact gcTo_congr 4 fun i hi => hw i hi
  have hgz : gcTo y 4 = gcTo y pl.length := gcTo_zeros 4 hl hz
  have hg0 : 0 < gcTo (weI f (row1 a b c)) 4 := by
    rcases Int.lt_or_eq_of_le (gcTo_nn (weI f (row1 a b c)) 4) with h | h
    · exact h
    · have h1 := gcTo_dvd hnn 0 (by omega)
      rw [← h] at h1
      have h2 := Int.zero_dvd.1 h1
      have h3 := hpos 0 (by omega); omega
  unfold rcF
  simp only [hok, if_true]
  congr 1
  unfold mixTo partsOf
  apply List.map_congr_left
  intro i hi
  have hi : i < pl.length := by simpa using hi
  rw [tdiv_same hK hS (hw i (by omega)) hg hg0 (gcTo_dvd hnn i (by omega)), hgz]
/-- what a mixture of the program says of the weights -/
theorem rc_some {T : List T5} {pl ds : List Nat} {a b c : Int} {x : List (Int × Int)} (h4 : pl.length ≤ 4) (hd : detI (frm T pl ds) ≠ 0) (h : rcF a b c (pl, frm T pl ds) = some x) :
    ∃ W : Nat → Int, (∀ i, i < pl.length → 0 < W i) ∧ ∀ j, j < 4 → (if 0 < pl.length then W 0 * rowT T (pl.getD 0 0) j else 0) + (if 1 < pl.length then W 1 * rowT T (pl.getD 1 0) j else 0) + (if 2 < pl.length then W 2 * rowT T (pl.getD 2 0) j else 0) + (if 3 < pl.length then W 3 * rowT T (pl.getD 3 0) j else 0) = (W 0 + W 1 + W 2 + W 3) * row1 a b c j ∧ ∀ i, pl.length ≤ i → i < 4 → W i = 0 := by
  unfold rcF at h
  simp only at h
  split at h
  case isFalse => cases h
  case isTrue hok =>
    obtain ⟨W, hW, hpos, hzer, hsum⟩ := mix_sums T pl ds a b c h4 hd hok
    exact ⟨W, hpos, fun j hj => ⟨hsum j hj, hzer⟩⟩
theorem frF_some {T : List T5} {pl : List Nat} {x : List Nat × (Nat → Int)} (h : frF T pl = some x) : ∃ ds, ds ∈ extL 3 (4 - pl.length) [] 0 ∧ x = (pl, frm T pl ds) ∧ detI (frm T pl ds) ≠ 0 := by
  unfold frF at h
  split at h
  case isFalse => cases h
  case isTrue ht =>
    injection h with h
    subst h
    unfold frameR at ht ⊢
    split at ht
    case h_1 ds hd =>
      have h3 := List.find?_some hd
      have h4 := List.mem_of_find?_eq_some hd
      simp only [decide_eq_true_eq] at h3
      simp only [hd]
      exact ⟨ds, h4, rfl, h3⟩
    case h_2 => cases ht
theorem frF_none {T : List T5} {pl : List Nat} (h : frF T pl = none) : ∀ ds, ds ∈ extL 3 (4 - pl.length) [] 0 → detI (frm T pl ds) = 0 := by
  unfold frF at h
  split at h
  case isTrue => cases h
  case isFalse ht =>
    intro ds hds
    apply Classical.byContradiction
    intro hne
    apply ht
    unfold frameR
    split
    · rfl
    · rename_i hd
      have := List.find?_eq_none.1 hd ds hds
      simp [hne] at this
theorem id2 (u x : V3) (h1 : (u.cross x).x = 0) (h2 : (u.cross x).y = 0) (h3 : (u.cross x).z = 0) :
    u.dot u * x.x = u.dot x * u.x ∧ u.dot u * x.y = u.dot x * u.y ∧ u.dot u * x.z = u.dot x * u.z := by
  obtain ⟨u1, u2, u3⟩ := u; obtain ⟨x1, x2, x3⟩ := x
  simp only [V3.cross, V3.dot] at *
  refine ⟨?_, ?_, ?_⟩ <;> grind
theorem id3 (u v x : V3) (h : (u.cross v).dot x = 0) :
    ((u.cross v).dot (u.cross v) * x.x = (u.cross v).dot (x.cross v) * u.x + (u.cross v).dot (u.cross x) * v.x) ∧ ((u.cross v).dot (u.cross v) * x.y = (u.cross v).dot (x.cross v) * u.y + (u.cross v).dot (u.cross x) * v.y) ∧ (u.cross v).dot (u.cross v) * x.z = (u.cross v).dot (x.cross v) * u.z + (u.cross v).dot (u.cross x) * v.z := by
  obtain ⟨u1, u2, u3⟩ := u; obtain ⟨v1, v2, v3⟩ := v; obtain ⟨x1, x2, x3⟩ := x
  simp only [V3.cross, V3.dot] at *
  refine ⟨?_, ?_, ?_⟩ <;> grind
theorem id4 (u v t x : V3) :
    ((u.cross v).dot t * x.x = (x.cross v).dot t * u.x + (u.cross x).dot t * v.x + (u.cross v).dot x * t.x) ∧ ((u.cross v).dot t * x.y = (x.cross v).dot t * u.y + (u.cross x).dot t * v.y + (u.cross v).dot x * t.y) ∧ (u.cross v).dot t * x.z = (x.cross v).dot t * u.z + (u.cross x).dot t * v.z + (u.cross v).dot x * t.z := by
  obtain ⟨u1, u2, u3⟩ := u; obtain ⟨v1, v2, v3⟩ := v; obtain ⟨x1, x2, x3⟩ := x; obtain ⟨t1, t2, t3⟩ := t
  simp only [V3.cross, V3.dot] at *
  refine ⟨?_, ?_, ?_⟩ <;> grind
theorem sqn (x : Int) : 0 ≤ x * x := by
  rcases Int.le_total 0 x with h | h
  · exact Int.mul_nonneg h h
  · exact Int.mul_nonneg_of_nonpos_of_nonpos h h
theorem sq0 {x : Int} (h : x * x = 0) : x = 0 := by
  rcases Int.mul_eq_zero.1 h with h | h <;> exact h
theorem dot_pos (u : V3) (h : ¬ (u.x = 0 ∧ u.y = 0 ∧ u.z = 0)) : 0 < u.dot u := by
  obtain ⟨x, y, z⟩ := u
  simp only [V3.dot] at *
  have hx := sqn x
  have hy := sqn y
  have hz := sqn z
  apply Classical.byContradiction
  intro hn
  exact h ⟨sq0 (by omega), sq0 (by omega), sq0 (by omega)⟩
-- the other way
theorem ba2 (u x : V3) (M W : Int) (h1 : M * x.x = W * u.x) (h2 : M * x.y = W * u.y) (h3 : M * x.z = W * u.z) :
    M * u.dot x = W * u.dot u ∧ M * (u.cross x).x = 0 ∧ M * (u.cross x).y = 0 ∧ M * (u.cross x).z = 0 := by
  obtain ⟨u1, u2, u3⟩ := u; obtain ⟨x1, x2, x3⟩ := x
  simp only [V3.cross, V3.dot] at *
  refine ⟨?_, ?_, ?_, ?_⟩ <;> grind
theorem ba3 (u v x : V3) (M W V : Int) (h1 : M * x.x = W * u.x + V * v.x) (h2 : M * x.y = W * u.y + V * v.y) (h3 : M * x.z = W * u.z + V * v.z) :
    M * (u.cross v).dot x = 0 ∧ M * (u.cross v).dot (x.cross v) = W * (u.cross v).dot (u.cross v) ∧ M * (u.cross v).dot (u.cross x) = V * (u.cross v).dot (u.cross v) := by
  obtain ⟨u1, u2, u3⟩ := u; obtain ⟨v1, v2, v3⟩ := v; obtain ⟨x1, x2, x3⟩ := x
  simp only [V3.cross, V3.dot] at *
  refine ⟨?_, ?_, ?_⟩ <;> grind
theorem ba4 (u v t x : V3) (M W V Y : Int) (h1 : M * x.x = W * u.x + V * v.x + Y * t.x) (h2 : M * x.y = W * u.y + V * v.y + Y * t.y) (h3 : M * x.z = W * u.z + V * v.z + Y * t.z) :
    M * (x.cross v).dot t = W * (u.cross v).dot t ∧ M * (u.cross x).dot t = V * (u.cross v).dot t ∧ M * (u.cross v).dot x = Y * (u.cross v).dot t := by
  obtain ⟨u1, u2, u3⟩ := u; obtain ⟨v1, v2, v3⟩ := v; obtain ⟨x1, x2, x3⟩ := x; obtain ⟨t1, t2, t3⟩ := t
  simp only [V3.cross, V3.dot] at *
  refine ⟨?_, ?_, ?_⟩ <;> grind
theorem zero_of_mul {M x : Int} (hM : 0 < M) (h : M * x = 0) : x = 0 := by
  rcases Int.mul_eq_zero.1 h with h | h
  · omega
  · exact h
theorem pos_of_eq {M x W n : Int} (hM : 0 < M) (hW : 0 < W) (hn : 0 < n) (h : M * x = W * n) : 0 < x := pos_r hM (by rw [h]; exact Int.mul_pos hW hn)
theorem bary2 {S y a p q : Int} (h : S * (a - p) = y * (q - p)) : S * a = (S - y) * p + y * q := by grind
theorem bary3 {S y z a p q r : Int} (h : S * (a - p) = y * (q - p) + z * (r - p)) : S * a = (S - y - z) * p + y * q + z * r := by grind
theorem bary4 {S y z t a p q r s : Int} (h : S * (a - p) = y * (q - p) + z * (r - p) + t * (s - p)) : S * a = (S - y - z - t) * p + y * q + z * r + t * s := by grind
theorem unb2 {W V a p q : Int} (h : W * p + V * q = (W + V) * a) : (W + V) * (a - p) = V * (q - p) := by grind
theorem unb3 {W V Y a p q r : Int} (h : W * p + V * q + Y * r = (W + V + Y) * a) : (W + V + Y) * (a - p) = V * (q - p) + Y * (r - p) := by grind
theorem unb4 {W V Y Z a p q r s : Int} (h : W * p + V * q + Y * r + Z * s = (W + V + Y + Z) * a) : (W + V + Y + Z) * (a - p) = V * (q - p) + Y * (r - p) + Z * (s - p) := by grind
/-- the reference's recipe of some places -/
def rfY (T : List T5) (pl : List Nat) (w : V3) (i : Nat) : Int := (rwt (pl.map (sh3 T)) w).1.getD i 0
def rfOk (T : List T5) (pl : List Nat) (w : V3) : Bool := (rwt (pl.map (sh3 T)) w).2
def rfPos (T : List T5) (pl : List Nat) (w : V3) : Bool := (List.range pl.length).all fun i => decide (0 < rfY T pl w i)
def rfR (T : List T5) (pl : List Nat) (w : V3) : Option (List (Int × Int)) := if (rfOk T pl w && rfPos T pl w) = true then some (partsOf pl (rfY T pl w)) else none
def sumR (T : List T5) (pl : List Nat) (y : Nat → Int) (j : Nat) : Int :=
  (if 0 < pl.length then y 0 * rowT T (pl.getD 0 0) j else 0) + (if 1 < pl.length then y 1 * rowT T (pl.getD 1 0) j else 0) + (if 2 < pl.length then y 2 * rowT T (pl.getD 2 0) j else 0) + (if 3 < pl.length then y 3 * rowT T (pl.getD 3 0) j else 0)
/-- what the reference's weights must keep -/
def CoreA (T : List T5) (pl : List Nat) (a b c : Int) : Prop := rfOk T pl ⟨a, b, c⟩ = true → rfPos T pl ⟨a, b, c⟩ = true →
  (∃ S : Int, 0 < S ∧ ∀ j, j < 4 → S * row1 a b c j = sumR T pl (rfY T pl ⟨a, b, c⟩) j) ∧ ∃ ds, ds ∈ extL 3 (4 - pl.length) [] 0 ∧ detI (frm T pl ds) ≠ 0
def CoreB (T : List T5) (pl : List Nat) (a b c : Int) : Prop := (∃ ds, ds ∈ extL 3 (4 - pl.length) [] 0 ∧ detI (frm T pl ds) ≠ 0) → ∀ W : Nat → Int, (∀ i, i < pl.length → 0 < W i) → (∀ i, pl.length ≤ i → i < 4 → W i = 0) → (∀ j, j < 4 → sumR T pl W j = (W 0 + W 1 + W 2 + W 3) * row1 a b c j) → rfOk T pl ⟨a, b, c⟩ = true ∧ rfPos T pl ⟨a, b, c⟩ = true
theorem rec_eq_of {T : List T5} {pl : List Nat} {a b c : Int} (h1 : 1 ≤ pl.length) (h4 : pl.length ≤ 4) (hA : CoreA T pl a b c) (hB : CoreB T pl a b c) :
    rfR T pl ⟨a, b, c⟩ = (frF T pl).bind (rcF a b c) := by
  have hyz : ∀ i, pl.length ≤ i → i < 4 → rfY T pl ⟨a, b, c⟩ i = 0 := by
    intro i hi _
    unfold rfY
    rcases four pl h1 h4 with ⟨p, rfl⟩ | ⟨p, q, rfl⟩ | ⟨p, q, r, rfl⟩ | ⟨p, q, r, s, rfl⟩ <;> simp only [List.length_cons, List.length_nil] at hi
    · simp only [List.map, rwt]; match i, hi with | i + 1, _ => simp
    · simp only [List.map, rwt, rw2]; match i, hi with | i + 2, _ => simp
    · simp only [List.map, rwt, rw3]; match i, hi with | i + 3, _ => simp
    · omega
  unfold rfR
  by_cases hk : (rfOk T pl ⟨a, b, c⟩ && rfPos T pl ⟨a, b, c⟩) = true
  · rw [if_pos hk]
    rw [Bool.and_eq_true] at hk
    obtain ⟨⟨S, hS, hs⟩, ds, hds, hdet⟩ := hA hk.1 hk.2
    cases hf : frF T pl with
    | none => exact absurd (frF_none hf ds hds) hdet
    | some x =>
      obtain ⟨es, hes, rfl, hd⟩ := frF_some hf
      have hp : ∀ i, i < pl.length → 0 < rfY T pl ⟨a, b, c⟩ i := fun i hi => by
        have := (List.all_eq_true.1 hk.2) i (List.mem_range.2 hi)
        simpa using this
      refine (same_of h1 h4 hd hS hp hyz ?_).symm
      intro j hj
      rw [hs j hj]
      unfold sumR
      have t0 : ∀ i, i < pl.length → frm T pl es (4 * i + j) = rowT T (pl.getD i 0) j := fun i hi => frm_at T pl es i j hi hj
      have e0 : frm T pl es j = rowT T (pl.getD 0 0) j := by have := t0 0 (by omega); rwa [Nat.mul_zero, Nat.zero_add] at this
      rw [if_pos (by omega : 0 < pl.length), e0]
      congr 1
      · congr 1
        · congr 1
          by_cases h : 1 < pl.length
          · rw [if_pos h, ← t0 1 h]
          · rw [if_neg h, hyz 1 (by omega) (by omega), Int.zero_mul]
        · by_cases h : 2 < pl.length
          · rw [if_pos h, ← t0 2 h]
          · rw [if_neg h, hyz 2 (by omega) (by omega), Int.zero_mul]
      · by_cases h : 3 < pl.length
        · rw [if_pos h, ← t0 3 h]
        · rw [if_neg h, hyz 3 (by omega) (by omega), Int.zero_mul]
  · rw [if_neg hk]
    cases hf : frF T pl with
    | none => rfl
    | some x =>
      obtain ⟨es, hes, rfl, hd⟩ := frF_some hf
      cases hr : rcF a b c (pl, frm T pl es) with
      | none => simp [hr]
      | some y =>
        exfalso
        obtain ⟨W, hW, hsum⟩ := rc_some h4 hd hr
        obtain ⟨h5, h6⟩ := hB ⟨es, hes, hd⟩ W hW (hsum 0 (by omega)).2 (fun j hj => (hsum j hj).1)
        exact hk (by rw [h5, h6]; rfl)
theorem rowT0 (T : List T5) (p : Nat) : rowT T p 0 = 1 := rfl
theorem rowT1 (T : List T5) (p : Nat) : rowT T p 1 = tA T p := rfl
theorem rowT2 (T : List T5) (p : Nat) : rowT T p 2 = tB T p := rfl
theorem rowT3 (T : List T5) (p : Nat) : rowT T p 3 = tC T p := rfl
theorem row10 (a b c : Int) : row1 a b c 0 = 1 := rfl
theorem row11 (a b c : Int) : row1 a b c 1 = a := rfl
theorem row12 (a b c : Int) : row1 a b c 2 = b := rfl
theorem row13 (a b c : Int) : row1 a b c 3 = c := rfl
theorem j4 {P : Nat → Prop} (h0 : P 0) (h1 : P 1) (h2 : P 2) (h3 : P 3) : ∀ j, j < 4 → P j := by
  intro j hj
  have : j = 0 ∨ j = 1 ∨ j = 2 ∨ j = 3 := by omega
  rcases this with rfl | rfl | rfl | rfl <;> assumption
theorem sumR1 (T : List T5) (p : Nat) (y : Nat → Int) (j : Nat) : sumR T [p] y j = y 0 * rowT T p j := by simp [sumR]
theorem sumR2 (T : List T5) (p q : Nat) (y : Nat → Int) (j : Nat) : sumR T [p, q] y j = y 0 * rowT T p j + y 1 * rowT T q j := by simp [sumR]
theorem sumR3 (T : List T5) (p q r : Nat) (y : Nat → Int) (j : Nat) : sumR T [p, q, r] y j = y 0 * rowT T p j + y 1 * rowT T q j + y 2 * rowT T r j := by simp [sumR]
theorem sumR4 (T : List T5) (p q r s : Nat) (y : Nat → Int) (j : Nat) : sumR T [p, q, r, s] y j = y 0 * rowT T p j + y 1 * rowT T q j + y 2 * rowT T r j + y 3 * rowT T s j := by simp [sumR]
theorem coreA1 (T : List T5) (p : Nat) (a b c : Int) : CoreA T [p] a b c := by
  intro h1 h2
  refine ⟨⟨1, by omega, ?_⟩, [0, 1, 2], ?_, ?_⟩
  · simp only [rfOk, rwt, List.map, Bool.and_eq_true, decide_eq_true_eq] at h1
    obtain ⟨⟨e1, e2⟩, e3⟩ := h1
    simp only [sh3] at e1 e2 e3
    apply j4 <;> simp [sumR1, rfY, rwt, rowT0, rowT1, rowT2, rowT3, row10, row11, row12, row13, e1, e2, e3]
  · show _ ∈ extL 3 3 [] 0
    rw [ext3.1]; simp
  · rw [det1]; decide
theorem coreB1 (T : List T5) (p : Nat) (a b c : Int) : CoreB T [p] a b c := by
  intro _ W hW hz hs
  have w0 := hW 0 (by simp)
  have z1 := hz 1 (by simp) (by omega)
  have z2 := hz 2 (by simp) (by omega)
  have z3 := hz 3 (by simp) (by omega)
  have s1 := hs 1 (by omega)
  have s2 := hs 2 (by omega)
  have s3 := hs 3 (by omega)
  simp only [sumR1, z1, z2, z3, row11, row12, row13, Int.add_zero, rowT1, rowT2, rowT3] at s1 s2 s3
  have w1 : W 0 ≠ 0 := by omega
  have q1 := Int.eq_of_mul_eq_mul_left w1 s1
  have q2 := Int.eq_of_mul_eq_mul_left w1 s2
  have q3 := Int.eq_of_mul_eq_mul_left w1 s3
  refine ⟨?_, ?_⟩
  · simp [rfOk, rwt, sh3, q1, q2, q3]
  · simp [rfPos, rfY, rwt, List.range_succ]
theorem vne {u : V3} {P : Prop} (h : u.x ≠ 0 ∨ u.y ≠ 0 ∨ u.z ≠ 0) : ¬ (u.x = 0 ∧ u.y = 0 ∧ u.z = 0) := by omega
theorem det2 {T : List T5} {p q : Nat} : (∃ ds, ds ∈ extL 3 2 [] 0 ∧ detI (frm T [p, q] ds) ≠ 0) ↔ ¬ (((sh3 T q).sub (sh3 T p)).x = 0 ∧ ((sh3 T q).sub (sh3 T p)).y = 0 ∧ ((sh3 T q).sub (sh3 T p)).z = 0) := by
  rw [ext3.2.1]
  have e1 : ((sh3 T q).sub (sh3 T p)).x = tA T q - tA T p := rfl
  have e2 : ((sh3 T q).sub (sh3 T p)).y = tB T q - tB T p := rfl
  have e3 : ((sh3 T q).sub (sh3 T p)).z = tC T q - tC T p := rfl
  rw [e1, e2, e3]
  constructor
  · rintro ⟨ds, hds, hd⟩
    simp only [List.mem_cons, List.not_mem_nil, or_false] at hds
    rcases hds with rfl | rfl | rfl
    · rw [det2a] at hd; omega
    · rw [det2b] at hd; omega
    · rw [det2c] at hd; omega
  · intro h
    by_cases h3 : tC T q - tC T p = 0
    · by_cases h2 : tB T q - tB T p = 0
      · exact ⟨[1, 2], by simp, by rw [det2c]; omega⟩
      · exact ⟨[0, 2], by simp, by rw [det2b]; omega⟩
    · exact ⟨[0, 1], by simp, by rw [det2a]; omega⟩
theorem det3 {T : List T5} {p q r : Nat} : (∃ ds, ds ∈ extL 3 1 [] 0 ∧ detI (frm T [p, q, r] ds) ≠ 0) ↔ ¬ ((nrm T p q r).x = 0 ∧ (nrm T p q r).y = 0 ∧ (nrm T p q r).z = 0) := by
  rw [ext3.2.2.1]
  constructor
  · rintro ⟨ds, hds, hd⟩
    simp only [List.mem_cons, List.not_mem_nil, or_false] at hds
    rcases hds with rfl | rfl | rfl
    · rw [det3a] at hd; omega
    · rw [det3b] at hd; omega
    · rw [det3c] at hd; omega
  · intro h
    by_cases h3 : (nrm T p q r).x = 0
    · by_cases h2 : (nrm T p q r).y = 0
      · exact ⟨[2], by simp, by rw [det3c]; omega⟩
      · exact ⟨[1], by simp, by rw [det3b]; omega⟩
    · exact ⟨[0], by simp, by rw [det3a]; omega⟩
theorem coreA2 (T : List T5) (p q : Nat) (a b c : Int) : CoreA T [p, q] a b c := by
  intro h1 h2
  simp only [rfOk, rwt, rw2, List.map, Bool.and_eq_true, decide_eq_true_eq] at h1
  obtain ⟨h0, ⟨c1, c2⟩, c3⟩ := h1
  obtain ⟨i1, i2, i3⟩ := id2 _ _ c1 c2 c3
  refine ⟨⟨_, h0, ?_⟩, (det2).2 ?_⟩
  · apply j4
    · simp only [sumR2, rfY, rwt, rw2, List.map, List.getD_cons_zero, List.getD_cons_succ, rowT0, row10]; omega
    · simp only [sumR2, rfY, rwt, rw2, List.map, List.getD_cons_zero, List.getD_cons_succ, rowT1, row11]; exact bary2 i1
    · simp only [sumR2, rfY, rwt, rw2, List.map, List.getD_cons_zero, List.getD_cons_succ, rowT2, row12]; exact bary2 i2
    · simp only [sumR2, rfY, rwt, rw2, List.map, List.getD_cons_zero, List.getD_cons_succ, rowT3, row13]; exact bary2 i3
  · rintro ⟨e1, e2, e3⟩
    simp only [V3.dot, e1, e2, e3] at h0
    omega
theorem coreB2 (T : List T5) (p q : Nat) (a b c : Int) : CoreB T [p, q] a b c := by
  intro hd W hW hz hs
  have hu := dot_pos _ (det2.1 hd)
  have w0 := hW 0 (by simp)
  have w1 := hW 1 (by simp)
  have z2 := hz 2 (by simp) (by omega)
  have z3 := hz 3 (by simp) (by omega)
  have s1 := hs 1 (by omega)
  have s2 := hs 2 (by omega)
  have s3 := hs 3 (by omega)
  simp only [sumR2, z2, z3, row11, row12, row13, Int.add_zero, rowT1, rowT2, rowT3] at s1 s2 s3
  have hM : 0 < W 0 + W 1 := by omega
  obtain ⟨b1, b2, b3, b4⟩ := ba2 ((sh3 T q).sub (sh3 T p)) (V3.sub ⟨a, b, c⟩ (sh3 T p)) (W 0 + W 1) (W 1) (unb2 s1) (unb2 s2) (unb2 s3)
  have p1 := pos_of_eq hM w1 hu b1
  have p0 : 0 < ((sh3 T q).sub (sh3 T p)).dot ((sh3 T q).sub (sh3 T p)) - ((sh3 T q).sub (sh3 T p)).dot (V3.sub ⟨a, b, c⟩ (sh3 T p)) := pos_of_eq hM w0 hu (by rw [Int.mul_sub, b1, ← Int.sub_mul]; congr 1; omega)
  refine ⟨?_, ?_⟩
  · simp only [rfOk, rwt, rw2, List.map, Bool.and_eq_true, decide_eq_true_eq]
    exact ⟨hu, ⟨zero_of_mul hM b2, zero_of_mul hM b3⟩, zero_of_mul hM b4⟩
  · simp only [rfPos, rfY, rwt, rw2, List.map, List.length_cons, List.length_nil, List.range_succ, List.range_zero, List.nil_append, List.cons_append, List.all_cons, List.all_nil, List.getD_cons_zero, List.getD_cons_succ, Bool.and_true, Bool.and_eq_true, decide_eq_true_eq]
    exact ⟨p0, p1⟩
theorem dot_ne {u : V3} (h : 0 < u.dot u) : ¬ (u.x = 0 ∧ u.y = 0 ∧ u.z = 0) := by
  rintro ⟨e1, e2, e3⟩
  simp only [V3.dot, e1, e2, e3] at h
  omega
theorem coreA3 (T : List T5) (p q r : Nat) (a b c : Int) : CoreA T [p, q, r] a b c := by
  intro h1 h2
  simp only [rfOk, rwt, rw3, List.map, Bool.and_eq_true, decide_eq_true_eq, Bool.not_eq_true', Bool.and_eq_false_iff, decide_eq_false_iff_not] at h1
  obtain ⟨hn, h0⟩ := h1
  have hn : ¬ ((nrm T p q r).x = 0 ∧ (nrm T p q r).y = 0 ∧ (nrm T p q r).z = 0) := by
    unfold nrm
    rintro ⟨e1, e2, e3⟩
    rcases hn with (h | h) | h
    · exact h e1
    · exact h e2
    · exact h e3
  obtain ⟨i1, i2, i3⟩ := id3 _ _ _ h0
  refine ⟨⟨_, dot_pos _ hn, ?_⟩, (det3).2 hn⟩
  unfold nrm
  apply j4
  · simp only [sumR3, rfY, rwt, rw3, List.map, List.getD_cons_zero, List.getD_cons_succ, rowT0, row10]; omega
  · simp only [sumR3, rfY, rwt, rw3, List.map, List.getD_cons_zero, List.getD_cons_succ, rowT1, row11]; exact bary3 i1
  · simp only [sumR3, rfY, rwt, rw3, List.map, List.getD_cons_zero, List.getD_cons_succ, rowT2, row12]; exact bary3 i2
  · simp only [sumR3, rfY, rwt, rw3, List.map, List.getD_cons_zero, List.getD_cons_succ, rowT3, row13]; exact bary3 i3
theorem coreB3 (T : List T5) (p q r : Nat) (a b c : Int) : CoreB T [p, q, r] a b c := by
  intro hd W hW hz hs
  have hd := det3.1 hd
  have hu := dot_pos _ hd
  have w0 := hW 0 (by simp)
  have w1 := hW 1 (by simp)
  have w2 := hW 2 (by simp)
  have z3 := hz 3 (by simp) (by omega)
  have s1 := hs 1 (by omega)
  have s2 := hs 2 (by omega)
  have s3 := hs 3 (by omega)
  simp only [sumR3, z3, row11, row12, row13, Int.add_zero, rowT1, rowT2, rowT3] at s1 s2 s3
  have hM : 0 < W 0 + W 1 + W 2 := by omega
  obtain ⟨b1, b2, b3⟩ := ba3 ((sh3 T q).sub (sh3 T p)) ((sh3 T r).sub (sh3 T p)) (V3.sub ⟨a, b, c⟩ (sh3 T p)) (W 0 + W 1 + W 2) (W 1) (W 2) (unb3 s1) (unb3 s2) (unb3 s3)
  unfold nrm at hu hd
  have p1 := pos_of_eq hM w1 hu b2
  have p2 := pos_of_eq hM w2 hu b3
  have p0 := pos_of_eq (x := (((sh3 T q).sub (sh3 T p)).cross ((sh3 T r).sub (sh3 T p))).dot (((sh3 T q).sub (sh3 T p)).cross ((sh3 T r).sub (sh3 T p))) - (((sh3 T q).sub (sh3 T p)).cross ((sh3 T r).sub (sh3 T p))).dot ((V3.sub ⟨a, b, c⟩ (sh3 T p)).cross ((sh3 T r).sub (sh3 T p))) - (((sh3 T q).sub (sh3 T p)).cross ((sh3 T r).sub (sh3 T p))).dot (((sh3 T q).sub (sh3 T p)).cross (V3.sub ⟨a, b, c⟩ (sh3 T p)))) hM w0 hu (by rw [Int.mul_sub, Int.mul_sub, b2, b3, ← Int.sub_mul, ← Int.sub_mul]; congr 1; omega)
  refine ⟨?_, ?_⟩
  · simp only [rfOk, rwt, rw3, List.map, Bool.and_eq_true, decide_eq_true_eq, Bool.not_eq_true', Bool.and_eq_false_iff, decide_eq_false_iff_not]
    exact ⟨by omega, zero_of_mul hM b1⟩
  · simp only [rfPos, rfY, rwt, rw3, List.map, List.length_cons, List.length_nil, List.range_succ, List.range_zero, List.nil_append, List.cons_append, List.all_cons, List.all_nil, List.getD_cons_zero, List.getD_cons_succ, Bool.and_true, Bool.and_eq_true, decide_eq_true_eq]
    exact ⟨p0, p1, p2⟩
theorem det4x {T : List T5} {p q r s : Nat} : (∃ ds, ds ∈ extL 3 0 [] 0 ∧ detI (frm T [p, q, r, s] ds) ≠ 0) ↔ (nrm T p q r).dot ((sh3 T s).sub (sh3 T p)) ≠ 0 := by
  rw [ext3.2.2.2]
  constructor
  · rintro ⟨ds, hds, hd⟩
    simp only [List.mem_cons, List.not_mem_nil, or_false] at hds
    subst hds
    rw [det4] at hd; exact hd
  · intro h
    exact ⟨[], by simp, by rw [det4]; exact h⟩
theorem neg4 {d A B C x u v w : Int} (h : d * x = A * u + B * v + C * w) : -d * x = -A * u + -B * v + -C * w := by grind
theorem neg1 {M A W d : Int} (h : M * A = W * d) : M * -A = W * -d := by grind
theorem s4p {d A B C : Int} : -d = A + B + C - d + -A + -B + -C := by omega
theorem bary4n {d A B C a p q r s : Int} (h : d * (a - p) = A * (q - p) + B * (r - p) + C * (s - p)) : -d * a = (A + B + C - d) * p + -A * q + -B * r + -C * s := by grind
def wA (p q r s w : V3) : Int := ((w.sub p).cross (r.sub p)).dot (s.sub p)
def wB (p q r s w : V3) : Int := ((q.sub p).cross (w.sub p)).dot (s.sub p)
def wC (p q r s w : V3) : Int := ((q.sub p).cross (r.sub p)).dot (w.sub p)
def wD (p q r s : V3) : Int := ((q.sub p).cross (r.sub p)).dot (s.sub p)
theorem rw4n {p q r s w : V3} (h : wD p q r s < 0) : rw4 p q r s w = ([wA p q r s w + wB p q r s w + wC p q r s w - wD p q r s, -wA p q r s w, -wB p q r s w, -wC p q r s w], true) := by
  simp only [rw4]; exact if_pos h
theorem rw4p {p q r s w : V3} (h : ¬ wD p q r s < 0) : rw4 p q r s w = ([wD p q r s - wA p q r s w - wB p q r s w - wC p q r s w, wA p q r s w, wB p q r s w, wC p q r s w], decide (0 < wD p q r s)) := by
  simp only [rw4]; exact if_neg h
theorem coreA4 (T : List T5) (p q r s : Nat) (a b c : Int) : CoreA T [p, q, r, s] a b c := by
  intro h1 h2
  obtain ⟨i1, i2, i3⟩ := id4 ((sh3 T q).sub (sh3 T p)) ((sh3 T r).sub (sh3 T p)) ((sh3 T s).sub (sh3 T p)) (V3.sub ⟨a, b, c⟩ (sh3 T p))
  rcases Int.lt_trichotomy ((nrm T p q r).dot ((sh3 T s).sub (sh3 T p))) 0 with hd | hd | hd
  · refine ⟨⟨-((nrm T p q r).dot ((sh3 T s).sub (sh3 T p))), by omega, ?_⟩, (det4x).2 (by omega)⟩
    unfold nrm at hd ⊢
    have e := rw4n (w := ⟨a, b, c⟩) hd
    apply j4
    · simp only [sumR4, rfY, List.map, rwt, e, List.getD_cons_zero, List.getD_cons_succ, rowT0, row10]; unfold wD; omega
    · simp only [sumR4, rfY, List.map, rwt, e, List.getD_cons_zero, List.getD_cons_succ, rowT1, row11]; exact bary4n i1
    · simp only [sumR4, rfY, List.map, rwt, e, List.getD_cons_zero, List.getD_cons_succ, rowT2, row12]; exact bary4n i2
    · simp only [sumR4, rfY, List.map, rwt, e, List.getD_cons_zero, List.getD_cons_succ, rowT3, row13]; exact bary4n i3
  · exfalso
    unfold nrm at hd
    simp only [rfOk, rwt, rw4, List.map] at h1
    rw [if_neg (by omega)] at h1
    simp only [decide_eq_true_eq] at h1
    omega
  · refine ⟨⟨(nrm T p q r).dot ((sh3 T s).sub (sh3 T p)), hd, ?_⟩, (det4x).2 (by omega)⟩
    unfold nrm at hd ⊢
    have e := rw4p (p := sh3 T p) (q := sh3 T q) (r := sh3 T r) (s := sh3 T s) (w := ⟨a, b, c⟩) (show ¬ (_ < 0) by unfold wD; omega)
    apply j4
    · simp only [sumR4, rfY, List.map, rwt, e, List.getD_cons_zero, List.getD_cons_succ, rowT0, row10]; unfold wD; omega
    · simp only [sumR4, rfY, List.map, rwt, e, List.getD_cons_zero, List.getD_cons_succ, rowT1, row11]; exact bary4 i1
    · simp only [sumR4, rfY, List.map, rwt, e, List.getD_cons_zero, List.getD_cons_succ, rowT2, row12]; exact bary4 i2
    · simp only [sumR4, rfY, List.map, rwt, e, List.getD_cons_zero, List.getD_cons_succ, rowT3, row13]; exact bary4 i3
theorem last4n {A B C d X Y Z U : Int} (h1 : (X + Y + Z + U) * A = Y * d) (h2 : (X + Y + Z + U) * B = Z * d) (h3 : (X + Y + Z + U) * C = U * d) : (X + Y + Z + U) * (A + B + C - d) = X * -d := by grind
theorem last4p {A B C d X Y Z U : Int} (h1 : (X + Y + Z + U) * A = Y * d) (h2 : (X + Y + Z + U) * B = Z * d) (h3 : (X + Y + Z + U) * C = U * d) : (X + Y + Z + U) * (d - A - B - C) = X * d := by grind
theorem coreB4 (T : List T5) (p q r s : Nat) (a b c : Int) : CoreB T [p, q, r, s] a b c := by
  intro hd W hW hz hs
  have hd := det4x.1 hd
  have w0 := hW 0 (by simp)
  have w1 := hW 1 (by simp)
  have w2 := hW 2 (by simp)
  have w3 := hW 3 (by simp)
  have s1 := hs 1 (by omega)
  have s2 := hs 2 (by omega)
  have s3 := hs 3 (by omega)
  simp only [sumR4, row11, row12, row13, rowT1, rowT2, rowT3] at s1 s2 s3
  have hM : 0 < W 0 + W 1 + W 2 + W 3 := by omega
  obtain ⟨b1, b2, b3⟩ := ba4 ((sh3 T q).sub (sh3 T p)) ((sh3 T r).sub (sh3 T p)) ((sh3 T s).sub (sh3 T p)) (V3.sub ⟨a, b, c⟩ (sh3 T p)) (W 0 + W 1 + W 2 + W 3) (W 1) (W 2) (W 3) (unb4 s1) (unb4 s2) (unb4 s3)
  unfold nrm at hd
  have hall : ∀ {x y z u : Int} {g : List Int × Bool}, g.1 = [x, y, z, u] → g.2 = true → rwt ([p, q, r, s].map (sh3 T)) ⟨a, b, c⟩ = g → 0 < x → 0 < y → 0 < z → 0 < u → rfOk T [p, q, r, s] ⟨a, b, c⟩ = true ∧ rfPos T [p, q, r, s] ⟨a, b, c⟩ = true := by
    intro x y z u g hg1 hg2 hg hx hy hz hu
    refine ⟨?_, ?_⟩
    · rw [rfOk, hg, hg2]
    · simp only [rfPos, rfY, hg, hg1, List.length_cons, List.length_nil, List.range_succ, List.range_zero, List.nil_append, List.cons_append, List.all_cons, List.all_nil, List.getD_cons_zero, List.getD_cons_succ, Bool.and_true, Bool.and_eq_true, decide_eq_true_eq]
      exact ⟨hx, hy, hz, hu⟩
  rcases Int.lt_trichotomy ((((sh3 T q).sub (sh3 T p)).cross ((sh3 T r).sub (sh3 T p))).dot ((sh3 T s).sub (sh3 T p))) 0 with h | h | h
  · have hn : 0 < -((((sh3 T q).sub (sh3 T p)).cross ((sh3 T r).sub (sh3 T p))).dot ((sh3 T s).sub (sh3 T p))) := by omega
    refine hall rfl rfl (rw4n (w := ⟨a, b, c⟩) h) ?_ (pos_of_eq hM w1 hn (neg1 b1)) (pos_of_eq hM w2 hn (neg1 b2)) (pos_of_eq hM w3 hn (neg1 b3))
    exact pos_of_eq hM w0 hn (last4n b1 b2 b3)
  · omega
  · refine hall rfl (decide_eq_true h) (rw4p (p := sh3 T p) (q := sh3 T q) (r := sh3 T r) (s := sh3 T s) (w := ⟨a, b, c⟩) (show ¬ (_ < 0) by unfold wD; omega)) ?_ (pos_of_eq hM w1 h b1) (pos_of_eq hM w2 h b2) (pos_of_eq hM w3 h b3)
    exact pos_of_eq hM w0 h (last4p b1 b2 b3)
theorem rec_eq (T : List T5) (pl : List Nat) (a b c : Int) (h1 : 1 ≤ pl.length) (h4 : pl.length ≤ 4) : rfR T pl ⟨a, b, c⟩ = (frF T pl).bind (rcF a b c) := by
  apply rec_eq_of h1 h4
  · rcases four pl h1 h4 with ⟨p, rfl⟩ | ⟨p, q, rfl⟩ | ⟨p, q, r, rfl⟩ | ⟨p, q, r, s, rfl⟩
    · exact coreA1 T p a b c
    · exact coreA2 T p q a b c
    · exact coreA3 T p q r a b c
    · exact coreA4 T p q r s a b c
  · rcases four pl h1 h4 with ⟨p, rfl⟩ | ⟨p, q, rfl⟩ | ⟨p, q, r, rfl⟩ | ⟨p, q, r, s, rfl⟩
    · exact coreB1 T p a b c
    · exact coreB2 T p q a b c
    · exact coreB3 T p q r a b c
    · exact coreB4 T p q r s a b c

end Go.Proofs.Ytpjekinmcdglbaa
