/- The doubled area as the reference reckons it. -/
import Derived.Test.YtpdfbboagaflhaaGreatS01
import Derived.Test.YtpdfbboagaflhaaGreatM05
import Derived.Deep.RegionHeld3
import Derived.BigRegion
import Derived.Deep.RegionWith
import Derived.LoopTactic

set_option linter.unusedSimpArgs false
set_option linter.unusedVariables false
set_option linter.unusedSectionVars false
namespace Go.Proofs.YtpdfbboagaflhaaGreat
open Go.RowKit

theorem ptLit_one1 {x y x' y' : Int} (e : ptLit x y = ptLit x' y') (h1 : 0 ≤ x ∧ x ≤ 10000) (h2 : 0 ≤ y ∧ y ≤ 10000) (h3 : 0 ≤ x' ∧ x' ≤ 10000) (h4 : 0 ≤ y' ∧ y' ≤ 10000) : x = x' ∧ y = y' := by
  unfold ptLit at e
  simp only [Lit.string.injEq] at e
  have w1 : (Lit.int .i64 x).wf = true := WalkArith.wf_i64 (by omega)
  have w2 : (Lit.int .i64 y).wf = true := WalkArith.wf_i64 (by omega)
  have w3 : (Lit.int .i64 x').wf = true := WalkArith.wf_i64 (by omega)
  have w4 : (Lit.int .i64 y').wf = true := WalkArith.wf_i64 (by omega)
  have := keyBytes_inj (l := [.int .i64 x, .int .i64 y]) (l' := [.int .i64 x', .int .i64 y']) (by simp [Alike, Lit.sameKind]) (by simp [Lit.keyWf, w1, w2]) (by simp [Lit.keyWf, w3, w4]) e
  simpa using this
theorem rep_none1 {l : List P2} (hok : okL l = true) (h : ∀ i j : Nat, j < i → i < l.length → ¬ (px l i = px l j ∧ py l i = py l j)) : repI l = false := by
  rw [repI_nodup, keysTo, nodup_map_range]
  intro i j hi hj e
  have b1 := okL_bd hok i
  have b2 := okL_bd hok j
  have := ptLit_one1 e b1.1 b1.2 b2.1 b2.2
  rcases Nat.lt_trichotomy i j with hh | hh | hh
  · exact absurd ⟨this.1.symm, this.2.symm⟩ (h j i hh hj)
  · exact hh
  · exact absurd this (h i j hh hi)
theorem sign_ne {a : Int} (h : a ≠ 0) : Int.sign a = 1 ∨ Int.sign a = -1 := by
  rcases Int.lt_or_gt_of_ne h with h | h
  · right; exact Int.sign_eq_neg_one_of_neg h
  · left; exact Int.sign_eq_one_of_pos h
theorem mul_ne {a c : Int} (ha : a ≠ 0) (hc : c ≠ 0) : a * c ≠ 0 := fun h => by rcases Int.mul_eq_zero.1 h with h | h <;> contradiction
theorem okL_okP {l : List P2} (h : okL l = true) (i : Nat) (hi : i < l.length) : okP (px l i) (py l i) = true := by
  have := okL_bd h i
  simp only [okP, okN, Bool.and_eq_true, decide_eq_true_eq]; omega
theorem edge_okS {l : List P2} (hok : okL l = true) (hrep : repI l = false) (h2 : 2 ≤ l.length) (i : Nat) (hi : i < l.length) : okS (q1 (edgesL l) i) (q2 (edgesL l) i) (q3 (edgesL l) i) (q4 (edgesL l) i) = true := by
  obtain ⟨e1, e2, e3, e4⟩ := edgesL_at l i hi
  have b1 := okL_bd hok i
  have b2 := okL_bd hok ((i + 1) % l.length)
  have hm : (i + 1) % l.length < l.length := Nat.mod_lt _ (by omega)
  rw [e1, e2, e3, e4, okS_iff]
  refine ⟨b1, b2, fun ⟨u, v⟩ => ?_⟩
  have := rep_no hrep hi hm u v
  by_cases hh : i + 1 < l.length
  · rw [Nat.mod_eq_of_lt hh] at this; omega
  · rw [show i + 1 = l.length by omega, Nat.mod_self] at this; omega
theorem anyOn_false {L : List S4} {p q : Int} {n : Nat} : anyOn L p q n = false ↔ ∀ i, i < n → onAt L p q i = false := by
  simp [anyOn]
def ptAt (l : List P2) (i : Nat) : P2 := (px l i, py l i)
theorem ptAt_get (l : List P2) (i : Nat) (h : i < l.length) : ptAt l i = l[i] := by simp [ptAt, px, py, List.getD_eq_getElem?_getD, h]
/-- which comes first -/
def lexLt (p q : P2) : Prop := p.1 < q.1 ∨ (p.1 = q.1 ∧ p.2 < q.2)
theorem orI_lt (x y x' y' : Int) : orI (cmpI x x') (cmpI y y') < 0 ↔ x < x' ∨ (x = x' ∧ y < y') := by
  unfold orI cmpI
  by_cases h1 : x < x'
  · simp [h1]
  · by_cases h2 : x' < x
    · simp [h1, h2] <;> omega
    · by_cases h3 : y < y'
      · simp [h1, h2, h3] <;> omega
      · by_cases h4 : y' < y
        · simp [h1, h2, h3, h4] <;> omega
        · simp [h1, h2, h3, h4] <;> omega
theorem ltP_iff (l : List P2) (i j : Nat) : ltP l i j = true ↔ lexLt (ptAt l i) (ptAt l j) := by
  simp only [ltP, decide_eq_true_eq, orI_lt, lexLt, ptAt]
theorem least_spec (l : List P2) : ∀ k, 0 < k → leastTo l k < k ∧ ∀ i, i < k → ¬ lexLt (ptAt l i) (ptAt l (leastTo l k))
  | 0, h => absurd h (by omega)
  | 1, _ => by
    have e : leastTo l 1 = 0 := by
      show (if ltP l 0 (leastTo l 0) = true then 0 else leastTo l 0) = 0
      split <;> rfl
    rw [e]
    refine ⟨by omega, fun i hi => ?_⟩
    obtain rfl : i = 0 := by omega
    unfold lexLt; omega
  | k + 2, _ => by
    obtain ⟨h1, h2⟩ := least_spec l (k + 1) (by omega)
    rw [show leastTo l (k + 2) = if ltP l (k + 1) (leastTo l (k + 1)) = true then k + 1 else leastTo l (k + 1) from rfl]
    split
    next h =>
      rw [ltP_iff] at h
      refine ⟨by omega, fun i hi => ?_⟩
      by_cases e : i = k + 1
      · subst e; unfold lexLt; omega
      · have := h2 i (by omega)
        unfold lexLt at *; omega
    next h =>
      rw [ltP_iff] at h
      refine ⟨by omega, fun i hi => ?_⟩
      by_cases e : i = k + 1
      · subst e; exact h
      · exact h2 i (by omega)
theorem least_unique {l : List P2} {n j : Nat} (hj : j < n) (h : ∀ i, i < n → i ≠ j → lexLt (ptAt l j) (ptAt l i)) : leastTo l n = j := by
  obtain ⟨h1, h2⟩ := least_spec l n (by omega)
  by_cases e : leastTo l n = j
  · exact e
  · exact absurd (h _ h1 e) (h2 j hj)

/-! bends as a filter -/
theorem bendsTo_filter (l : List P2) (n : Nat) : ∀ k, bendsTo l n k = ((List.range k).filter (fun i => decide (turnAt l n i ≠ 0))).map (ptAt l)
  | 0 => rfl
  | k + 1 => by
    rw [List.range_succ, List.filter_append, List.map_append, ← bendsTo_filter l n k]
    simp only [bendsTo]
    by_cases h : turnAt l n k = 0
    · rw [if_pos h]; simp [h]
    · rw [if_neg h]; simp [h, ptAt]
theorem rot_at (l : List P2) (f i : Nat) (hf : f ≤ l.length) (hi : i < l.length) : px (rotL l f) i = px l ((f + i) % l.length) ∧ py (rotL l f) i = py l ((f + i) % l.length) := by
  have : (rotL l f)[i]? = l[(f + i) % l.length]? := by
    unfold rotL
    by_cases h : i < l.length - f
    · rw [List.getElem?_append_left (by simpa using h), List.getElem?_drop, Nat.mod_eq_of_lt (by omega)]
    · rw [List.getElem?_append_right (by simp; omega), List.length_drop, List.getElem?_take_of_lt (by omega), show f + i = (i - (l.length - f)) + l.length by omega, Nat.add_mod_right, Nat.mod_eq_of_lt (by omega)]
  simp only [px, py, List.getD_eq_getElem?_getD, this, and_self]
theorem rotL_len (l : List P2) (f : Nat) (h : f ≤ l.length) : (rotL l f).length = l.length := by simp [rotL]; omega
theorem mod_prev {n i f : Nat} (hf : f ≤ n) (hi : i < n) : (f + (i + n - 1) % n) % n = ((f + i) % n + n - 1) % n := by
  by_cases h0 : i = 0
  · subst h0
    rw [Nat.zero_add, Nat.mod_eq_of_lt (show n - 1 < n by omega), Nat.add_zero]
    by_cases hh : f = n
    · subst hh; rw [Nat.mod_self, Nat.zero_add, show f + (f - 1) = (f - 1) + f by omega, Nat.add_mod_right]
    · rw [Nat.mod_eq_of_lt (show f < n by omega), show f + (n - 1) = f + n - 1 by omega]
  · rw [show i + n - 1 = (i - 1) + n by omega, Nat.add_mod_right, Nat.mod_eq_of_lt (show i - 1 < n by omega)]
    by_cases hh : f + i < n
    · rw [Nat.mod_eq_of_lt hh, show f + i + n - 1 = (f + (i - 1)) + n by omega, Nat.add_mod_right]
    · by_cases h2 : f + i = n
      · rw [h2, Nat.mod_self, Nat.zero_add, show f + (i - 1) = n - 1 by omega]
      · rw [show f + i = (f + i - n) + n by omega, Nat.add_mod_right, Nat.mod_eq_of_lt (show f + i - n < n by omega), show f + (i - 1) = (f + i - n - 1) + n by omega, Nat.add_mod_right, show f + i - n + n - 1 = (f + i - n - 1) + n by omega, Nat.add_mod_right]
theorem mod_next {n i f : Nat} : (f + (i + 1) % n) % n = ((f + i) % n + 1) % n := by
  rw [Nat.add_mod_mod, Nat.mod_add_mod, Nat.add_assoc]
theorem turnAt_rot (l : List P2) (f i : Nat) (hf : f ≤ l.length) (hi : i < l.length) : turnAt (rotL l f) l.length i = turnAt l l.length ((f + i) % l.length) := by
  have h1 : (i + l.length - 1) % l.length < l.length := Nat.mod_lt _ (by omega)
  have h2 : (i + 1) % l.length < l.length := Nat.mod_lt _ (by omega)
  unfold turnAt
  rw [(rot_at l f _ hf h1).1, (rot_at l f _ hf h1).2, (rot_at l f _ hf hi).1, (rot_at l f _ hf hi).2, (rot_at l f _ hf h2).1, (rot_at l f _ hf h2).2, mod_prev hf hi, mod_next]
theorem range_rot (n f : Nat) (hf : f ≤ n) : (List.range n).map (fun i => (f + i) % n) = List.range' f (n - f) ++ List.range f := by
  apply List.ext_getElem
  · simp; omega
  · intro i h1 h2
    simp only [List.length_map, List.length_range] at h1
    simp only [List.getElem_map, List.getElem_range]
    by_cases h : i < n - f
    · rw [List.getElem_append_left (by simpa using h), List.getElem_range', Nat.mod_eq_of_lt (by omega)]; omega
    · rw [List.getElem_append_right (by simp; omega)]
      simp only [List.length_range', List.getElem_range]
      rw [show f + i = (i - (n - f)) + n by omega, Nat.add_mod_right, Nat.mod_eq_of_lt (by omega)]
/-- the corners that stay, from one index on, and before it -/
def keepA (l : List P2) (f : Nat) : List P2 := ((List.range f).filter (fun i => decide (turnAt l l.length i ≠ 0))).map (ptAt l)
def keepZ (l : List P2) (f : Nat) : List P2 := ((List.range' f (l.length - f)).filter (fun i => decide (turnAt l l.length i ≠ 0))).map (ptAt l)
theorem normB_split (l : List P2) (f : Nat) (hf : f ≤ l.length) : normB l = keepA l f ++ keepZ l f := by
  unfold normB keepA keepZ
  rw [bendsTo_filter, ← List.map_append, ← List.filter_append]
  congr 2
  apply List.ext_getElem
  · simp; omega
  · intro i h1 h2
    by_cases h : i < f
    · rw [List.getElem_append_left (by simpa using h)]; simp
    · rw [List.getElem_append_right (by simp; omega)]; simp; omega
theorem normB_rot (l : List P2) (f : Nat) (hf : f ≤ l.length) : normB (rotL l f) = keepZ l f ++ keepA l f := by
  unfold normB keepA keepZ
  rw [bendsTo_filter, rotL_len l f hf, ← List.map_append, ← List.filter_append, ← range_rot _ _ hf, List.filter_map, List.map_map]
  have : ∀ m : List Nat, (∀ i ∈ m, i < l.length) → (m.filter (fun i => decide (turnAt (rotL l f) l.length i ≠ 0))).map (ptAt (rotL l f)) = (m.filter ((fun i => decide (turnAt l l.length i ≠ 0)) ∘ fun i => (f + i) % l.length)).map (ptAt l ∘ fun i => (f + i) % l.length) := by
    intro m
    induction m with
    | nil => intro _; rfl
    | cons i m ih =>
      intro h
      have hi : i < l.length := h i (by simp)
      have e1 : ptAt (rotL l f) i = (ptAt l ∘ fun i => (f + i) % l.length) i := by simp only [ptAt, Function.comp, (rot_at l f i hf hi).1, (rot_at l f i hf hi).2]
      have e2 : decide (turnAt (rotL l f) l.length i ≠ 0) = ((fun i => decide (turnAt l l.length i ≠ 0)) ∘ fun i => (f + i) % l.length) i := by simp only [Function.comp, turnAt_rot l f i hf hi]
      rw [List.filter_cons, List.filter_cons, e2]
      split
      · rw [List.map_cons, List.map_cons, e1, ih (fun j hj => h j (by simp [hj]))]
      · exact ih (fun j hj => h j (by simp [hj]))
  exact this _ (fun i hi => by simpa using hi)
/-- a corner that comes before all others and is not straight: turning round and striking commute -/
theorem rot_norm {l : List P2} {f : Nat} (hf : f < l.length) (ht : turnAt l l.length f ≠ 0) (hs : ∀ i, i < l.length → i ≠ f → lexLt (ptAt l f) (ptAt l i)) :
    rotL (normB l) (leastTo (normB l) (normB l).length) = normB (rotL l f) := by
  have e1 : keepZ l f = ptAt l f :: (((List.range' (f + 1) (l.length - f - 1)).filter (fun i => decide (turnAt l l.length i ≠ 0))).map (ptAt l)) := by
    unfold keepZ
    rw [show l.length - f = (l.length - f - 1) + 1 by omega, List.range'_succ, List.filter_cons_of_pos (by simpa using ht), List.map_cons]
    rfl
  have hn : normB l = keepA l f ++ keepZ l f := normB_split l f (by omega)
  have hle : leastTo (normB l) (normB l).length = (keepA l f).length := by
    have hk : (keepA l f).length < (normB l).length := by rw [hn, e1]; simp
    refine least_unique hk fun i hi hne => ?_
    have hk' : ptAt (normB l) (keepA l f).length = ptAt l f := by
      rw [ptAt_get _ _ hk]
      simp only [hn, e1]
      simp
    rw [hk', ptAt_get _ _ hi]
    by_cases hlt : i < (keepA l f).length
    · have e : (normB l)[i] = (keepA l f)[i] := by simp only [hn]; rw [List.getElem_append_left hlt]
      rw [e]
      have hm : (keepA l f)[i] ∈ keepA l f := List.getElem_mem hlt
      simp only [keepA, List.mem_map, List.mem_filter, List.mem_range] at hm
      obtain ⟨j, ⟨hj, _⟩, he⟩ := hm
      simp only [keepA]
      rw [← he]
      exact hs j (by omega) (by omega)
    · have hb : i - (keepA l f).length < (keepZ l f).length := by rw [hn, List.length_append] at hi; omega
      have e : (normB l)[i] = (keepZ l f)[i - (keepA l f).length] := by simp only [hn]; rw [List.getElem_append_right (by omega)]
      rw [e]
      obtain ⟨j, hj⟩ : ∃ j, i - (keepA l f).length = j + 1 := ⟨i - (keepA l f).length - 1, by omega⟩
      have hb2 : j + 1 < (keepZ l f).length := by omega
      have e3 : (keepZ l f)[i - (keepA l f).length] = (keepZ l f)[j + 1] := by congr 1
      rw [e3]
      have hb3 : j < (((List.range' (f + 1) (l.length - f - 1)).filter (fun i => decide (turnAt l l.length i ≠ 0))).map (ptAt l)).length := by rw [e1] at hb2; simpa using hb2
      have e4 : (keepZ l f)[j + 1] = (((List.range' (f + 1) (l.length - f - 1)).filter (fun i => decide (turnAt l l.length i ≠ 0))).map (ptAt l))[j] := by simp only [e1]; rfl
      rw [e4]
      have hm := List.getElem_mem hb3
      rw [List.mem_map] at hm
      obtain ⟨k, hk1, hk2⟩ := hm
      rw [List.mem_filter, List.mem_range'_1] at hk1
      rw [← hk2]
      exact hs k (by omega) (by omega)
  rw [hle, normB_rot l f (by omega), hn]
  unfold rotL
  simp

/-! the least corner is not straight -/
theorem meet_fold {a b c d e f : Int} (h1 : okS a b c d = true) (h2 : okS c d e f = true) (hl : lexLt (c, d) (a, b)) (hr : lexLt (c, d) (e, f)) (ht : turnI a b c d e f = 0) : meetI a b c d c d e f = 4 := by
  obtain ⟨⟨b1, b2⟩, ⟨b3, b4⟩, _⟩ := okS_iff.1 h1
  obtain ⟨_, ⟨b5, b6⟩, _⟩ := okS_iff.1 h2
  have t0 : turnI a b c d c d = 0 := by
    rw [turnI_sign, show (c - a) * (d - b) - (d - b) * (c - a) = 0 by grind]; rfl
  have F1 : f1 a b c d = c ∧ f2 a b c d = d ∧ f3 a b c d = a ∧ f4 a b c d = b := by
    have : 0 < orI (cmpI a c) (cmpI b d) := by
      have k1 := orI_lt a b c d
      have k2 := orI_lt c d a b
      have k3 : orI (cmpI a c) (cmpI b d) = - orI (cmpI c a) (cmpI d b) := by
        unfold orI cmpI; split <;> split <;> (repeat split) <;> omega
      unfold lexLt at hl
      omega
    unfold f1 f2 f3 f4
    simp only [if_pos this, and_self]
  have F2 : f1 c d e f = c ∧ f2 c d e f = d ∧ f3 c d e f = e ∧ f4 c d e f = f := by
    have : ¬ 0 < orI (cmpI c e) (cmpI d f) := by
      have := (orI_lt c d e f).2 hr
      omega
    unfold f1 f2 f3 f4
    simp only [if_neg this, and_self]
  rw [meetI, if_pos ⟨t0, ht⟩, F1.1, F1.2.1, F1.2.2.1, F1.2.2.2, F2.1, F2.2.1, F2.2.2.1, F2.2.2.2, onLine_key b4 b2 b4 b6, if_pos]
  unfold kap lexLt at *
  omega
theorem prev_next {n k : Nat} (hk : k < n) : ((k + n - 1) % n + 1) % n = k := by
  by_cases h0 : k = 0
  · subst h0; rw [Nat.zero_add, Nat.mod_eq_of_lt (show n - 1 < n by omega), show n - 1 + 1 = n by omega, Nat.mod_self]
  · rw [show k + n - 1 = (k - 1) + n by omega, Nat.add_mod_right, Nat.mod_eq_of_lt (show k - 1 < n by omega), show k - 1 + 1 = k by omega, Nat.mod_eq_of_lt hk]
theorem prev_cases {n k : Nat} (hk : k < n) : (k = 0 ∧ (k + n - 1) % n = n - 1) ∨ (0 < k ∧ (k + n - 1) % n = k - 1) := by
  by_cases h0 : k = 0
  · left; subst h0; exact ⟨rfl, by rw [Nat.zero_add, Nat.mod_eq_of_lt (by omega)]⟩
  · right; exact ⟨by omega, by rw [show k + n - 1 = (k - 1) + n by omega, Nat.add_mod_right, Nat.mod_eq_of_lt (by omega)]⟩
/-- neighbouring edges of a simple polygon meet in an end alone -/
theorem edges_one {l : List P2} (h : polyI l = 0) {k : Nat} (hk : k < l.length) : meetE (edgesL l) ((k + l.length - 1) % l.length) k = 1 := by
  obtain ⟨h1, h2, h3, h4⟩ := polyI_ok h
  rw [apartB_iff] at h4
  obtain ⟨_, hok⟩ := ckPts_zero h1
  rcases prev_cases hk with ⟨e0, e1⟩ | ⟨e0, e1⟩
  · rw [e1]
    subst e0
    have := h4 0 hk (l.length - 1) (by omega) (by omega)
    have k1 := edge_okS hok h3 (by omega) 0 hk
    have k2 := edge_okS hok h3 (by omega) (l.length - 1) (by omega)
    unfold meetE at this ⊢
    rw [meetI_comm k1 k2, this]
    unfold wantI
    rw [if_pos (by omega)]
  · rw [e1, h4 (k - 1) (by omega) k (by omega) hk]
    unfold wantI
    rw [if_pos (by omega)]
theorem least_bend {l : List P2} (h : polyI l = 0) {k : Nat} (hk : k < l.length) (hs : ∀ i, i < l.length → i ≠ k → lexLt (ptAt l k) (ptAt l i)) : turnAt l l.length k ≠ 0 := by
  obtain ⟨h1, h2, h3, h4⟩ := polyI_ok h
  obtain ⟨_, hok⟩ := ckPts_zero h1
  have he := edges_one h hk
  have hp : (k + l.length - 1) % l.length < l.length := Nat.mod_lt _ (by omega)
  have hq : (k + 1) % l.length < l.length := Nat.mod_lt _ (by omega)
  have k1 := edge_okS hok h3 (by omega) _ hp
  have k2 := edge_okS hok h3 (by omega) k hk
  obtain ⟨e1, e2, e3, e4⟩ := edgesL_at l _ hp
  obtain ⟨g1, g2, g3, g4⟩ := edgesL_at l k hk
  rw [prev_next hk] at e3 e4
  rw [e1, e2, e3, e4] at k1
  rw [g1, g2, g3, g4] at k2
  unfold meetE at he
  rw [e1, e2, e3, e4, g1, g2, g3, g4] at he
  intro ht
  have n1 : (k + l.length - 1) % l.length ≠ k := by rcases prev_cases hk with ⟨a, b⟩ | ⟨a, b⟩ <;> omega
  have n2 : (k + 1) % l.length ≠ k := by
    by_cases hh : k + 1 < l.length
    · rw [Nat.mod_eq_of_lt hh]; omega
    · rw [show k + 1 = l.length by omega, Nat.mod_self]; omega
  have := meet_fold k1 k2 (hs _ hp n1) (hs _ hq n2) ht
  omega

/-! the doubled area without straight corners -/
/-- the doubled area of the triangle of three points -/
def c3 (p q r : P2) : Int := (q.1 - p.1) * (r.2 - p.2) - (q.2 - p.2) * (r.1 - p.1)
def cr (p q : P2) : Int := p.1 * q.2 - p.2 * q.1
def chain : P2 → List P2 → Int
  | _, [] => 0
  | p, q :: l => cr p q + chain q l
def lastOf : P2 → List P2 → P2
  | p, [] => p
  | _, q :: l => lastOf q l
theorem chain_snoc (p : P2) (l : List P2) (q : P2) : chain p (l ++ [q]) = chain p l + cr (lastOf p l) q := by
  induction l generalizing p with
  | nil => simp [chain, lastOf]
  | cons r l ih => simp only [List.cons_append, chain, lastOf, ih]; omega
theorem lastOf_snoc (p : P2) (l : List P2) (q : P2) : lastOf p (l ++ [q]) = q := by
  induction l generalizing p with
  | nil => rfl
  | cons r l ih => simp only [List.cons_append, lastOf, ih]
theorem line3 {p q r s : P2} (hne : q ≠ r) (h1 : c3 p q r = 0) (h2 : c3 q r s = 0) : c3 p r s = 0 := by
  obtain ⟨p1, p2⟩ := p; obtain ⟨q1, q2⟩ := q; obtain ⟨r1, r2⟩ := r; obtain ⟨s1, s2⟩ := s
  simp only [c3] at *
  by_cases hx : r1 = q1
  · have hy : r2 ≠ q2 := fun e => hne (by rw [hx, e])
    subst hx
    have a1 : (r2 - q2) * (r1 - p1) = 0 := by grind
    have a2 : (r2 - q2) * (s1 - r1) = 0 := by grind
    have y : r2 - q2 ≠ 0 := by omega
    have b1 := (Int.mul_eq_zero.1 a1).resolve_left y
    have b2 := (Int.mul_eq_zero.1 a2).resolve_left y
    rw [show s1 = p1 by omega, show r1 = p1 by omega]
    simp
  · have x : r1 - q1 ≠ 0 := by omega
    have e : (r1 - q1) * ((r1 - p1) * (s2 - p2) - (r2 - p2) * (s1 - p1)) = 0 := by grind
    exact (Int.mul_eq_zero.1 e).resolve_left x
theorem c3_cr (p q r : P2) : cr p q + cr q r = cr p r + c3 p q r := by
  simp only [c3, cr]; grind
/-- as long as the first corner stays and neighbours differ -/
theorem chain_bends (l : List P2) (h0 : turnAt l l.length 0 ≠ 0) (hd : ∀ k, k < l.length → ptAt l k ≠ ptAt l ((k + 1) % l.length)) :
    ∀ k, k < l.length → ∃ m, bendsTo l l.length (k + 1) = ptAt l 0 :: m ∧ c3 (lastOf (ptAt l 0) m) (ptAt l k) (ptAt l ((k + 1) % l.length)) = 0 ∧
      chain (ptAt l 0) m + cr (lastOf (ptAt l 0) m) (ptAt l ((k + 1) % l.length)) = crossTo (edgesL l) (k + 1)
  | 0, h => by
    refine ⟨[], ?_, ?_, ?_⟩
    · simp only [bendsTo, if_neg h0, List.nil_append]; rfl
    · simp [lastOf, c3]
    · obtain ⟨g1, g2, g3, g4⟩ := edgesL_at l 0 h
      simp only [chain, lastOf, crossTo, g1, g2, g3, g4, cr, ptAt]
  | k + 1, h => by
    obtain ⟨m, e1, e2, e3⟩ := chain_bends l h0 hd k (by omega)
    rw [Nat.mod_eq_of_lt h] at e2 e3
    obtain ⟨g1, g2, g3, g4⟩ := edgesL_at l (k + 1) h
    have hc : crossTo (edgesL l) (k + 2) = crossTo (edgesL l) (k + 1) + cr (ptAt l (k + 1)) (ptAt l ((k + 1 + 1) % l.length)) := by
      rw [show crossTo (edgesL l) (k + 2) = crossTo (edgesL l) (k + 1) + (q1 (edgesL l) (k + 1) * q4 (edgesL l) (k + 1) - q2 (edgesL l) (k + 1) * q3 (edgesL l) (k + 1)) from rfl, g1, g2, g3, g4]
      rfl
    have hb : bendsTo l l.length (k + 2) = if turnAt l l.length (k + 1) = 0 then bendsTo l l.length (k + 1) else bendsTo l l.length (k + 1) ++ [ptAt l (k + 1)] := rfl
    rw [hb, hc]
    by_cases ht : turnAt l l.length (k + 1) = 0
    · rw [if_pos ht]
      have hp : (k + 1 + l.length - 1) % l.length = k := by rw [show k + 1 + l.length - 1 = k + l.length by omega, Nat.add_mod_right, Nat.mod_eq_of_lt (by omega)]
      have z : c3 (ptAt l k) (ptAt l (k + 1)) (ptAt l ((k + 1 + 1) % l.length)) = 0 := by
        rw [turnAt, hp, turnI_sign, Int.sign_eq_zero_iff_zero] at ht
        exact ht
      have hne := hd k (by omega)
      rw [Nat.mod_eq_of_lt h] at hne
      have z2 := line3 hne e2 z
      refine ⟨m, e1, z2, ?_⟩
      have := c3_cr (lastOf (ptAt l 0) m) (ptAt l (k + 1)) (ptAt l ((k + 1 + 1) % l.length))
      omega
    · rw [if_neg ht]
      refine ⟨m ++ [ptAt l (k + 1)], by rw [e1]; rfl, ?_, ?_⟩
      · rw [lastOf_snoc]; simp [c3]
      · rw [lastOf_snoc, chain_snoc]; omega
/-- the doubled area of a list, as a chain that comes back -/
theorem cross_chain (p : P2) (m : List P2) : crossTo (edgesL (p :: m)) (m.length + 1) = chain p m + cr (lastOf p m) p := by
  have gen : ∀ k, k ≤ m.length → crossTo (edgesL (p :: m)) k = chain p (m.take k) ∧ lastOf p (m.take k) = ptAt (p :: m) k := by
    intro k
    induction k with
    | zero => intro _; simp [crossTo, chain, lastOf, ptAt, px, py]
    | succ k ih =>
      intro hk
      obtain ⟨i1, i2⟩ := ih (by omega)
      obtain ⟨g1, g2, g3, g4⟩ := edgesL_at (p :: m) k (by simp; omega)
      rw [Nat.mod_eq_of_lt (by simp; omega)] at g3 g4
      have hk' : k < m.length := by omega
      have e : m[k] = ptAt (p :: m) (k + 1) := by rw [ptAt_get _ _ (by simp; omega)]; rfl
      rw [List.take_succ_eq_append_getElem hk', chain_snoc, lastOf_snoc, i2, e]
      refine ⟨?_, rfl⟩
      rw [show crossTo (edgesL (p :: m)) (k + 1) = crossTo (edgesL (p :: m)) k + (q1 (edgesL (p :: m)) k * q4 (edgesL (p :: m)) k - q2 (edgesL (p :: m)) k * q3 (edgesL (p :: m)) k) from rfl, i1, g1, g2, g3, g4]
      rfl
  obtain ⟨i1, i2⟩ := gen m.length (Nat.le_refl _)
  rw [List.take_length] at i1 i2
  obtain ⟨g1, g2, g3, g4⟩ := edgesL_at (p :: m) m.length (by simp)
  rw [List.length_cons, Nat.mod_self] at g3 g4
  rw [show crossTo (edgesL (p :: m)) (m.length + 1) = crossTo (edgesL (p :: m)) m.length + (q1 (edgesL (p :: m)) m.length * q4 (edgesL (p :: m)) m.length - q2 (edgesL (p :: m)) m.length * q3 (edgesL (p :: m)) m.length) from rfl, i1, i2, g1, g2, g3, g4]
  simp [cr, ptAt, px, py]
theorem cross_bends {l : List P2} (hn : 0 < l.length) (h0 : turnAt l l.length 0 ≠ 0) (hd : ∀ k, k < l.length → ptAt l k ≠ ptAt l ((k + 1) % l.length)) :
    crossTo (edgesL (normB l)) (normB l).length = crossTo (edgesL l) l.length := by
  obtain ⟨m, e1, e2, e3⟩ := chain_bends l h0 hd (l.length - 1) (by omega)
  rw [show l.length - 1 + 1 = l.length by omega, Nat.mod_self] at e3
  rw [show l.length - 1 + 1 = l.length by omega] at e1
  have : normB l = ptAt l 0 :: m := e1
  rw [this, List.length_cons, cross_chain, e3]
/-- turning round leaves the doubled area -/
theorem cross_app (a b : List P2) (hb : b ≠ []) (ha : a ≠ []) : crossTo (edgesL (a ++ b)) (a ++ b).length = crossTo (edgesL (b ++ a)) (b ++ a).length := by
  cases a with
  | nil => exact absurd rfl ha
  | cons p a =>
    cases b with
    | nil => exact absurd rfl hb
    | cons q b =>
      have capp : ∀ (x : P2) (u : List P2) (y : P2) (v : List P2), chain x (u ++ y :: v) = chain x u + cr (lastOf x u) y + chain y v := by
        intro x u
        induction u generalizing x with
        | nil => intro y v; simp [chain, lastOf]
        | cons z u ih => intro y v; simp only [List.cons_append, chain, lastOf, ih]; omega
      have lapp : ∀ (x : P2) (u : List P2) (y : P2) (v : List P2), lastOf x (u ++ y :: v) = lastOf y v := by
        intro x u
        induction u generalizing x with
        | nil => intro y v; simp [lastOf]
        | cons z u ih => intro y v; simp only [List.cons_append, lastOf, ih]
      have e1 := cross_chain p (a ++ q :: b)
      have e2 := cross_chain q (b ++ p :: a)
      rw [capp, lapp] at e1 e2
      simp only [List.cons_append, List.length_cons] at *
      rw [e1, e2]; omega
theorem cross_rot (l : List P2) (f : Nat) : crossTo (edgesL (rotL l f)) (rotL l f).length = crossTo (edgesL l) l.length := by
  unfold rotL
  by_cases h1 : l.drop f = []
  · have : l.take f = l := by
      have := List.take_append_drop f l
      rw [h1, List.append_nil] at this; exact this
    rw [h1, this]; rfl
  · by_cases h2 : l.take f = []
    · have : l.drop f = l := by
        have := List.take_append_drop f l
        rw [h2] at this; exact this
      rw [h2, this, List.append_nil]
    · rw [cross_app _ _ h2 h1, List.take_append_drop]

/-! backwards -/
theorem revTo_px (l : List P2) (n : Nat) : ∀ m k, k < m → px (revTo l n m) k = px l (n - 1 - k) ∧ py (revTo l n m) k = py l (n - 1 - k)
  | 0, k, h => absurd h (by omega)
  | m + 1, k, h => by
    have hl := revTo_length l n m
    by_cases e : k = m
    · subst e
      simp [revTo, px, py, List.getD_eq_getElem?_getD, hl]
    · obtain ⟨i1, i2⟩ := revTo_px l n m k (by omega)
      rw [← i1, ← i2]
      simp only [revTo, px, py, List.getD_eq_getElem?_getD]
      rw [List.getElem?_append_left (by rw [hl]; omega)]
      exact ⟨rfl, rfl⟩
theorem revTo_rev (l : List P2) : revTo l l.length l.length = l.reverse := by
  apply List.ext_getElem
  · simp [revTo_length]
  · intro i h1 h2
    rw [List.length_reverse] at h2
    rw [← ptAt_get _ _ h1]
    obtain ⟨i1, i2⟩ := revTo_px l l.length l.length i h2
    simp only [List.getElem_reverse]
    rw [← ptAt_get l _ (by omega)]
    unfold ptAt
    rw [i1, i2]
theorem rev_px (l : List P2) (k : Nat) (h : k < l.length) : px l.reverse k = px l (l.length - 1 - k) ∧ py l.reverse k = py l (l.length - 1 - k) := by
  rw [← revTo_rev]; exact revTo_px l _ _ k h
theorem turnI_neg (a b c d p q : Int) : turnI p q c d a b = - turnI a b c d p q := by
  rw [turnI_sign, turnI_sign, ← Int.sign_neg]; congr 1; grind
theorem mod_rev {n k : Nat} (hk : k < n) : n - 1 - (k + n - 1) % n = (n - 1 - k + 1) % n ∧ n - 1 - (k + 1) % n = (n - 1 - k + n - 1) % n := by
  by_cases h0 : k = 0
  · subst h0
    rw [Nat.zero_add, Nat.mod_eq_of_lt (show n - 1 < n by omega), Nat.sub_zero, show n - 1 + 1 = n by omega, Nat.mod_self]
    refine ⟨by omega, ?_⟩
    by_cases h1 : n = 1
    · subst h1; rfl
    · rw [Nat.zero_add, Nat.mod_eq_of_lt (show 1 < n by omega), show n - 1 + n - 1 = (n - 1 - 1) + n by omega, Nat.add_mod_right, Nat.mod_eq_of_lt (by omega)]
  · rw [show k + n - 1 = (k - 1) + n by omega, Nat.add_mod_right, Nat.mod_eq_of_lt (show k - 1 < n by omega), Nat.mod_eq_of_lt (show n - 1 - k + 1 < n by omega)]
    refine ⟨by omega, ?_⟩
    by_cases h1 : k + 1 = n
    · rw [h1, Nat.mod_self, show n - 1 - k = 0 by omega, Nat.zero_add, Nat.mod_eq_of_lt (by omega)]; omega
    · rw [Nat.mod_eq_of_lt (show k + 1 < n by omega), show n - 1 - k + n - 1 = (n - 1 - k - 1) + n by omega, Nat.add_mod_right, Nat.mod_eq_of_lt (by omega)]; omega
theorem turnAt_rev (l : List P2) (k : Nat) (hk : k < l.length) : turnAt l.reverse l.length k = - turnAt l l.length (l.length - 1 - k) := by
  have h1 : (k + l.length - 1) % l.length < l.length := Nat.mod_lt _ (by omega)
  have h2 : (k + 1) % l.length < l.length := Nat.mod_lt _ (by omega)
  obtain ⟨m1, m2⟩ := mod_rev hk
  unfold turnAt
  rw [(rev_px l _ h1).1, (rev_px l _ h1).2, (rev_px l _ hk).1, (rev_px l _ hk).2, (rev_px l _ h2).1, (rev_px l _ h2).2, m1, m2, turnI_neg]
theorem normB_rev (l : List P2) : normB l.reverse = (normB l).reverse := by
  unfold normB
  rw [bendsTo_filter, bendsTo_filter, List.length_reverse, ← List.map_reverse, ← List.filter_reverse]
  have hr : (List.range l.length).reverse = (List.range l.length).map fun i => l.length - 1 - i := by
    apply List.ext_getElem (by simp)
    intro i h1 h2
    simp
  rw [hr, List.filter_map, List.map_map]
  have : ∀ m : List Nat, (∀ i ∈ m, i < l.length) → (m.filter (fun i => decide (turnAt l.reverse l.length i ≠ 0))).map (ptAt l.reverse) = (m.filter ((fun i => decide (turnAt l l.length i ≠ 0)) ∘ fun i => l.length - 1 - i)).map (ptAt l ∘ fun i => l.length - 1 - i) := by
    intro m
    induction m with
    | nil => intro _; rfl
    | cons i m ih =>
      intro h
      have hi : i < l.length := h i (by simp)
      have e1 : ptAt l.reverse i = (ptAt l ∘ fun i => l.length - 1 - i) i := by simp only [ptAt, Function.comp, (rev_px l i hi).1, (rev_px l i hi).2]
      have e2 : decide (turnAt l.reverse l.length i ≠ 0) = ((fun i => decide (turnAt l l.length i ≠ 0)) ∘ fun i => l.length - 1 - i) i := by
        simp only [Function.comp, turnAt_rev l i hi]
        rw [decide_eq_decide]; omega
      rw [List.filter_cons, List.filter_cons, e2]
      split
      · rw [List.map_cons, List.map_cons, e1, ih (fun j hj => h j (by simp [hj]))]
      · exact ih (fun j hj => h j (by simp [hj]))
  exact this _ (fun i hi => by simpa using hi)

/-! both normal forms -/
/-- what the reference goes round -/
def refA (l : List P2) : List P2 := if areaI l < 0 then l.reverse else l
/-- the reference's normal form -/
def refN (l : List P2) : List P2 := normB (rotL (refA l) (leastTo (refA l) (refA l).length))
theorem pts_ne {l : List P2} (hr : repI l = false) {i j : Nat} (hi : i < l.length) (hj : j < l.length) (h : i ≠ j) : ptAt l i ≠ ptAt l j := fun e => by
  simp only [ptAt, Prod.mk.injEq] at e
  exact h (rep_no hr hi hj e.1 e.2)
theorem least_lt {l : List P2} (hr : repI l = false) (h0 : 0 < l.length) : leastTo l l.length < l.length ∧ ∀ i, i < l.length → i ≠ leastTo l l.length → lexLt (ptAt l (leastTo l l.length)) (ptAt l i) := by
  obtain ⟨h1, h2⟩ := least_spec l l.length h0
  refine ⟨h1, fun i hi hne => ?_⟩
  have a := h2 i hi
  have b := pts_ne hr hi h1 hne
  have b' : ¬ ((ptAt l i).1 = (ptAt l (leastTo l l.length)).1 ∧ (ptAt l i).2 = (ptAt l (leastTo l l.length)).2) := fun ⟨u, v⟩ => b (Prod.ext u v)
  unfold lexLt at *; omega
theorem next_ne {n k : Nat} (h : 2 ≤ n) (hk : k < n) : k ≠ (k + 1) % n := by
  by_cases hh : k + 1 < n
  · rw [Nat.mod_eq_of_lt hh]; omega
  · rw [show k + 1 = n by omega, Nat.mod_self]; omega
theorem area_bends {l : List P2} (h : polyI l = 0) : areaI (normB l) = areaI l ∧ 0 < (normB l).length ∧ okL (normB l) = true := by
  obtain ⟨h1, h2, h3, h4⟩ := polyI_ok h
  obtain ⟨hlen, hok⟩ := ckPts_zero h1
  obtain ⟨p1, p2⟩ := least_lt h3 (by omega)
  have hb := least_bend h p1 p2
  generalize hf : leastTo l l.length = f at *
  have hlr := rotL_len l f (by omega)
  have ht0 : turnAt (rotL l f) (rotL l f).length 0 ≠ 0 := by
    rw [hlr, turnAt_rot l f 0 (by omega) (by omega), Nat.add_zero, Nat.mod_eq_of_lt p1]; exact hb
  have hd : ∀ k, k < (rotL l f).length → ptAt (rotL l f) k ≠ ptAt (rotL l f) ((k + 1) % (rotL l f).length) := by
    intro k hk
    rw [hlr] at hk ⊢
    have hm : (k + 1) % l.length < l.length := Nat.mod_lt _ (by omega)
    simp only [ptAt, (rot_at l f k (by omega) hk).1, (rot_at l f k (by omega) hk).2, (rot_at l f _ (by omega) hm).1, (rot_at l f _ (by omega) hm).2]
    rw [mod_next]
    have hmm : (f + k) % l.length < l.length := Nat.mod_lt _ (by omega)
    exact pts_ne h3 hmm (Nat.mod_lt _ (by omega)) (next_ne (by omega) hmm)
  have e1 := cross_bends (l := rotL l f) (by omega) ht0 hd
  rw [cross_rot, normB_rot l f (by omega)] at e1
  have e2 : crossTo (edgesL (normB l)) (normB l).length = crossTo (edgesL l) l.length := by
    rw [← e1, normB_split l f (by omega)]
    by_cases ha : keepA l f = []
    · rw [ha]; simp
    · by_cases hz : keepZ l f = []
      · rw [hz]; simp
      · exact cross_app _ _ hz ha
  have hpos : 0 < (normB l).length := by
    rw [normB_split l f (by omega), List.length_append]
    have : keepZ l f ≠ [] := by
      unfold keepZ
      rw [show l.length - f = (l.length - f - 1) + 1 by omega, List.range'_succ, List.filter_cons_of_pos (by simpa using hb), List.map_cons]
      simp
    have := List.length_pos_iff.2 this
    omega
  have hle : (normB l).length ≤ l.length := by
    unfold normB; rw [bendsTo_filter, List.length_map]
    have := List.length_filter_le (fun i => decide (turnAt l l.length i ≠ 0)) (List.range l.length)
    simpa using this
  have hok' : okL (normB l) = true := by
    unfold okL normB
    rw [bendsTo_filter, List.all_eq_true]
    intro p hp
    rw [List.mem_map] at hp
    obtain ⟨i, _, rfl⟩ := hp
    exact okP_iff.2 (okL_bd hok i)
  refine ⟨?_, hpos, hok'⟩
  unfold areaI ckPts
  rw [hok, hok', e2, if_neg (show ¬ (400 : Int) < (normB l).length by omega), if_neg (show ¬ (400 : Int) < l.length by omega)]
theorem norm_eq {l : List P2} (h : polyI l = 0) : refN l = normL l := by
  obtain ⟨h1, h2, h3, h4⟩ := polyI_ok h
  obtain ⟨hlen, hok⟩ := ckPts_zero h1
  obtain ⟨ea, _, _⟩ := area_bends h
  have hC : normC l = normB (refA l) := by
    unfold normC refA
    rw [ea]
    split
    · rw [revTo_rev, normB_rev]
    · rfl
  have hAl : (refA l).length = l.length := by unfold refA; split <;> simp
  have hAr : repI (refA l) = false := by
    unfold refA; split
    · refine rep_none1 ?_ fun i j hj hi => ?_
      · unfold okL at *; rw [List.all_reverse]; exact hok
      · rw [List.length_reverse] at hi
        rw [(rev_px l i hi).1, (rev_px l i hi).2, (rev_px l j (by omega)).1, (rev_px l j (by omega)).2]
        rintro ⟨u, v⟩
        have := rep_no h3 (by omega) (by omega) u v
        omega
    · exact h3
  obtain ⟨p1, p2⟩ := least_lt hAr (by omega)
  have hb : turnAt (refA l) (refA l).length (leastTo (refA l) (refA l).length) ≠ 0 := by
    generalize leastTo (refA l) (refA l).length = f at *
    rw [hAl] at p1 p2 ⊢
    unfold refA at p2 ⊢
    split
    next hs =>
      rw [if_pos hs] at p2
      rw [turnAt_rev l f p1]
      have := least_bend h (k := l.length - 1 - f) (by omega) (fun i hi hne => by
        have := p2 (l.length - 1 - i) (by omega) (by omega)
        simp only [ptAt, (rev_px l f p1).1, (rev_px l f p1).2, (rev_px l (l.length - 1 - i) (by omega)).1, (rev_px l (l.length - 1 - i) (by omega)).2] at this
        rw [show l.length - 1 - (l.length - 1 - i) = i by omega] at this
        exact this)
      omega
    next hs =>
      rw [if_neg hs] at p2
      exact least_bend h p1 p2
  unfold refN normL
  rw [← rot_norm p1 hb p2, hC]

/-! convex -/
def convB (m : List P2) : Bool := (List.range m.length).all fun k => turnAt m m.length k == 1
def convR (m : List P2) : Bool := (List.range m.length).all fun k => decide (0 < turnI (px m k) (py m k) (px m ((k + 1) % m.length)) (py m ((k + 1) % m.length)) (px m ((k + 2) % m.length)) (py m ((k + 2) % m.length)))
theorem conv_eq (m : List P2) : convR m = convB m := by
  have key : ∀ k, k < m.length → turnI (px m k) (py m k) (px m ((k + 1) % m.length)) (py m ((k + 1) % m.length)) (px m ((k + 2) % m.length)) (py m ((k + 2) % m.length)) = turnAt m m.length ((k + 1) % m.length) := by
    intro k hk
    unfold turnAt
    have e1 : ((k + 1) % m.length + m.length - 1) % m.length = k := by
      by_cases hh : k + 1 < m.length
      · rw [Nat.mod_eq_of_lt hh, show k + 1 + m.length - 1 = k + m.length by omega, Nat.add_mod_right, Nat.mod_eq_of_lt hk]
      · rw [show k + 1 = m.length by omega, Nat.mod_self, Nat.zero_add, Nat.mod_eq_of_lt (by omega)]; omega
    have e2 : ((k + 1) % m.length + 1) % m.length = (k + 2) % m.length := by rw [Nat.mod_add_mod]
    rw [e1, e2]
  have sg : ∀ k, (0 < turnAt m m.length k) ↔ turnAt m m.length k = 1 := by
    intro k
    unfold turnAt
    rw [turnI_sign]
    generalize (_ : Int) - _ = z
    rcases Int.lt_trichotomy z 0 with h | h | h
    · rw [Int.sign_eq_neg_one_of_neg h]; omega
    · rw [h]; simp
    · rw [Int.sign_eq_one_of_pos h]; omega
  rw [Bool.eq_iff_iff]
  unfold convR convB
  simp only [List.all_eq_true, List.mem_range, decide_eq_true_eq, beq_iff_eq]
  constructor
  · intro h k hk
    have hp : (k + m.length - 1) % m.length < m.length := Nat.mod_lt _ (by omega)
    have := h _ hp
    rw [key _ hp, prev_next hk, sg] at this
    exact this
  · intro h k hk
    rw [key k hk, sg]
    exact h _ (Nat.mod_lt _ (by omega))

end Go.Proofs.YtpdfbboagaflhaaGreat

set_option linter.unusedSimpArgs false
set_option linter.unusedVariables false
namespace Go.Proofs.YtpdfbboagaflhaaGreat
open Go.RowKit

def lessB (ax ay bx by' : Int) : Bool := decide (ax < bx ∨ (ax = bx ∧ ay < by'))

set_option maxRecDepth 20000 in
set_option maxHeartbeats 2000000 in
theorem ref_less (ax ay bx by' : Int) (w : World) : Calls Tryz.prog 116 #[pv ax ay, pv bx by'] w fun e w' => e = .returned (.bool (lessB ax ay bx by')) ∧ New w w' := by
  by_cases h1 : ax < bx
  · rw [show lessB ax ay bx by' = true by simp [lessB, h1]]
    go_enter Tryz.func116, Tryz.ntmps116
    go_wp2_with fail
    all_goals (go_ret; refine ⟨rfl, ?_⟩; (repeat (first | exact New.refl _ | apply New.alloc | apply New.aft | apply New.drew | refine New.setCell ?_ ?_ _)); all_goals (first | done | (simp [size_aft]; done) | (simp [size_aft]; omega)))
  · by_cases h2 : ax = bx
    · subst h2
      by_cases h3 : ay < by'
      · rw [show lessB ax ay ax by' = true by simp [lessB, h3]]
        go_enter Tryz.func116, Tryz.ntmps116
        go_wp2_with fail
        all_goals (go_ret; refine ⟨rfl, ?_⟩; (repeat (first | exact New.refl _ | apply New.alloc | apply New.aft | apply New.drew | refine New.setCell ?_ ?_ _)); all_goals (first | done | (simp [size_aft]; done) | (simp [size_aft]; omega)))
      · rw [show lessB ax ay ax by' = false by simp [lessB, h3]]
        go_enter Tryz.func116, Tryz.ntmps116
        go_wp2_with fail
        all_goals (go_ret; refine ⟨rfl, ?_⟩; (repeat (first | exact New.refl _ | apply New.alloc | apply New.aft | apply New.drew | refine New.setCell ?_ ?_ _)); all_goals (first | done | (simp [size_aft]; done) | (simp [size_aft]; omega)))
    · rw [show lessB ax ay bx by' = false by simp [lessB, h1, h2]]
      have h3 : (ax == bx) = false := by simpa using h2
      go_enter Tryz.func116, Tryz.ntmps116
      go_wp2_with fail
      all_goals (go_ret; refine ⟨rfl, ?_⟩; (repeat (first | exact New.refl _ | apply New.alloc | apply New.aft | apply New.drew | refine New.setCell ?_ ?_ _)); all_goals (first | done | (simp [size_aft]; done) | (simp [size_aft]; omega)))

def farN (ax ay bx by' : Int) : Int := (bx - ax) * (bx - ax) + (by' - ay) * (by' - ay)
set_option maxRecDepth 20000 in
set_option maxHeartbeats 2000000 in
theorem ref_far (ax ay bx by' : Int) (w : World) (h1 : 0 ≤ ax ∧ ax ≤ 10000) (h2 : 0 ≤ ay ∧ ay ≤ 10000) (h3 : 0 ≤ bx ∧ bx ≤ 10000) (h4 : 0 ≤ by' ∧ by' ≤ 10000) : Calls Tryz.prog 128 #[pv ax ay, pv bx by'] w fun e w' => e = .returned (.int .i64 (farN ax ay bx by')) ∧ New w w' := by
  obtain ⟨p1, p2⟩ := mul_bd (bx - ax) (bx - ax) 10000 10000 (by omega) (by omega) (by omega) (by omega)
  obtain ⟨p3, p4⟩ := mul_bd (by' - ay) (by' - ay) 10000 10000 (by omega) (by omega) (by omega) (by omega)
  simp only [Int.reduceMul, Int.reduceNeg] at p1 p2 p3 p4
  unfold farN
  go_enter Tryz.func128, Tryz.ntmps128
  go_wp2_with fail
  all_goals (go_ret; refine ⟨rfl, ?_⟩; (repeat (first | exact New.refl _ | apply New.alloc | apply New.aft | apply New.drew | refine New.setCell ?_ ?_ _)); all_goals (first | done | (simp [size_aft]; done) | (simp [size_aft]; omega)))

end Go.Proofs.YtpdfbboagaflhaaGreat

set_option linter.unusedSimpArgs false
set_option linter.unusedVariables false
set_option maxRecDepth 100000
namespace Go.Proofs.YtpdfbboagaflhaaGreat
open Go.RowKit

set_option maxHeartbeats 4000000 in
theorem ref_area2 (b off n c : Nat) (l : List P2) (w : World) (hl : n ≤ 1000000) (hw : Pts w b off n l) :
    Calls Tryz.prog 47 #[.slice (some ⟨b, off, none⟩) n c] w fun en w' => en = .returned (.int .i64 (areaI l)) ∧ New w w' := by
  have HW := Lib.hid hw
  have HN := Lib.hid hw.1
  have HA := Lib.hid (fun (w1 : World) (h1 : New w w1) => ref_allValid b off n c l w1 (by omega) (HW.out.new h1))
  cases hok : okL l
  · rw [hok] at HA
    rw [← areaI_no (l := l) (by unfold ckPts; rw [hok]; split <;> simp)]
    clear hw hok
    go_enter Tryz.func47, Tryz.ntmps47
    go_wp2_with (go_at_call 104; refine (HA.out _ (by (repeat (first | exact New.refl _ | apply New.alloc | apply New.aft | apply New.drew | refine New.setCell ?_ ?_ _)); all_goals (first | done | (simp [size_aft]; done) | (simp [size_aft]; omega)))).mono ?_; rintro e w1 ⟨rfl, pw, rfl⟩)
    all_goals (go_ret; refine ⟨rfl, ?_⟩; (repeat (first | exact New.refl _ | apply New.alloc | apply New.aft | apply New.drew | refine New.setCell ?_ ?_ _)); all_goals (first | done | (simp [size_aft]; done) | (simp [size_aft]; omega)))
  · by_cases h4 : 400 < n
    · rw [hok] at HA
      have hn4 : (400 : Int) < (n : Int) := by omega
      rw [← areaI_no (l := l) (by unfold ckPts; rw [if_pos (by rw [hw.1]; exact hn4)]; decide)]
      clear hw hok
      go_enter Tryz.func47, Tryz.ntmps47
      go_wp2_with (go_at_call 104; refine (HA.out _ (by (repeat (first | exact New.refl _ | apply New.alloc | apply New.aft | apply New.drew | refine New.setCell ?_ ?_ _)); all_goals (first | done | (simp [size_aft]; done) | (simp [size_aft]; omega)))).mono ?_; rintro e w1 ⟨rfl, pw, rfl⟩)
      all_goals (go_ret; refine ⟨rfl, ?_⟩; (repeat (first | exact New.refl _ | apply New.alloc | apply New.aft | apply New.drew | refine New.setCell ?_ ?_ _)); all_goals (first | done | (simp [size_aft]; done) | (simp [size_aft]; omega)))
    · have hn4 : ¬ (400 : Int) < (n : Int) := by omega
      have HV := Lib.hid (areaI_yes (l := l) (by unfold ckPts; rw [if_neg (by rw [hw.1]; exact hn4), hok]; rfl))
      have HBD := Lib.hid (crossTo_bd hok)
      have HB := Lib.hid (okL_bd hok)
      have HED := Lib.hid (fun (k : Nat) (hk : k < n) (w1 : World) (h1 : New w w1) => ref_edge b off n c k l w1 hk hl (HW.out.new h1))
      rw [hok] at HA
      clear hw hok
      go_enter Tryz.func47, Tryz.ntmps47
      go_wp2_with (go_at_call 104; refine (HA.out _ (by (repeat (first | exact New.refl _ | apply New.alloc | apply New.aft | apply New.drew | refine New.setCell ?_ ?_ _)); all_goals (first | done | (simp [size_aft]; done) | (simp [size_aft]; omega)))).mono ?_; rintro e w1 ⟨rfl, pw, rfl⟩)
      go_loopw [4, 5] (fun s i wr => ∃ k : Nat, k ≤ n ∧ i = .int .i64 k ∧ s = .int .i64 (crossTo (edgesL l) k) ∧ New w wr) (fun _ i _ => n - (intOf i).toNat)
      case atStart => exact ⟨0, Nat.zero_le _, rfl, rfl, by (repeat (first | exact New.refl _ | apply New.alloc | apply New.aft | apply New.drew | refine New.setCell ?_ ?_ _)); all_goals (first | done | (simp [size_aft]; done) | (simp [size_aft]; omega))⟩
      case round =>
        obtain ⟨k, hk, rfl, rfl, pr, rfl⟩ := hrel
        by_cases hlt : k < n
        · have hkn : (k : Int) < (n : Int) := by omega
          have HE := Lib.hid (HED.out k hlt)
          obtain ⟨b1, b2⟩ := HB.out k
          obtain ⟨b3, b4⟩ := HB.out ((k + 1) % n)
          have hs := HBD.out k (by rw [HN.out]; omega)
          have hp1 := pos_bd _ _ b1 b4
          have hp2 := pos_bd _ _ b3 b2
          have HX := Lib.hid (show crossTo (edgesL l) (k + 1) = crossTo (edgesL l) k + px l k * py l ((k + 1) % n) - px l ((k + 1) % n) * py l k by
            obtain ⟨e1, e2, e3, e4⟩ := edgesL_at l k (by rw [HN.out]; exact hlt)
            rw [show crossTo (edgesL l) (k + 1) = crossTo (edgesL l) k + (q1 (edgesL l) k * q4 (edgesL l) k - q2 (edgesL l) k * q3 (edgesL l) k) from rfl, e1, e2, e3, e4, HN.out, Int.mul_comm (py l k)]
            omega)
          generalize px l k = X at *
          generalize py l k = Y at *
          generalize px l ((k + 1) % n) = X' at *
          generalize py l ((k + 1) % n) = Y' at *
          generalize crossTo (edgesL l) k = S at *
          go_wp2_with (go_at_call 110; refine (HE.out _ (by (repeat (first | exact New.refl _ | apply New.alloc | apply New.aft | apply New.drew | refine New.setCell ?_ ?_ _)); all_goals (first | done | (simp [size_aft]; done) | (simp [size_aft]; omega)))).mono ?_; rintro e w1 ⟨rfl, hn⟩; have HNE := Lib.hid (New.trans (by (repeat (first | exact New.refl _ | apply New.alloc | apply New.aft | apply New.drew | refine New.setCell ?_ ?_ _)); all_goals (first | done | (simp [size_aft]; done) | (simp [size_aft]; omega))) hn : New w w1); clear hn)
          go_roundw
          case rel => exact ⟨k + 1, by omega, by go_num, by rw [HX.out], HNE.out.trans (by (repeat (first | exact New.refl _ | apply New.alloc | apply New.aft | apply New.drew | refine New.setCell ?_ ?_ _)); all_goals (first | done | (simp [size_aft]; done) | (simp [size_aft]; omega)))⟩
          case measure => simp [intOf]; omega
        · have HK := Lib.hid (show k = n by omega)
          have hkn : ¬ (k : Int) < (n : Int) := by omega
          have HV2 := Lib.hid (show crossTo (edgesL l) k = areaI l by rw [← HV.out, HK.out, HN.out])
          clear hlt
          go_wp2_with fail
          go_ret
          exact ⟨ret_int HV2.out, by (repeat (first | exact New.refl _ | apply New.alloc | apply New.aft | apply New.drew | refine New.setCell ?_ ?_ _)); all_goals (first | done | (simp [size_aft]; done) | (simp [size_aft]; omega))⟩

end Go.Proofs.YtpdfbboagaflhaaGreat
