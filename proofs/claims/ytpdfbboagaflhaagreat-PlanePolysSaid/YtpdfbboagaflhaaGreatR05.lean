/- PlanePolys returns true for every input, and its arguments read afterwards as before: the given statement, without a condition. -/
import Derived.Test.YtpdfbboagaflhaaGreatN10
import Derived.Test.YtpdfbboagaflhaaGreatM05
import Derived.Deep.RegionHeld3
import Derived.BigRegion
import Derived.Test.YtpdfbboagaflhaaGreatP01
import Derived.Deep.RegionWith
import Derived.LoopTactic
import Derived.Test.YtpdfbboagaflhaaGreatN03
import Derived.Deep.AppendLies
import Derived.Deep.RegionLaw
import Derived.Test.YtpdfbboagaflhaaGreatM51
import Derived.Test.YtpdfbboagaflhaaGreatRows
import Derived.ProofKit
import Derived.OpenShut
import Derived.Lib.SmallJoins
import Derived.Carry

set_option linter.unusedSimpArgs false
set_option linter.unusedVariables false
set_option linter.unusedSectionVars false
namespace Go.Proofs.YtpdfbboagaflhaaGreat
open Go.RowKit

theorem ptLit_one1 {x y x' y' : Int} (e : ptLit x y = ptLit x' y') (h1 : 0 ≤ x ∧ x ≤ 10000) (h2 : 0 ≤ y ∧ y ≤ 10000) (h3 : 0 ≤ x' ∧ x' ≤ 10000) (h4 : 0 ≤ y' ∧ y' ≤ 10000) : x = x' ∧ y = y' := by
  unfold ptLit at e
  simp only [Lit.string.injEq] at e
  have w1 : (Lit.int .i64 x).wf = true := WalkArith.wf_i64 (by omega)
  have w2 : (Lit.int .i64 y).wf = true := WalkArith.wf_i64 (by omega)
  have w3 : (Lit.int .i64 x').wf = true := WalkArith.wf_i64 (by omega)
  have w4 : (Lit.int .i64 y').wf = true := WalkArith.wf_i64 (by omega)
  have := keyBytes_inj (l := [.int .i64 x, .int .i64 y]) (l' := [.int .i64 x', .int .i64 y']) (by simp [Alike, Lit.sameKind]) (by simp [Lit.keyWf, w1, w2]) (by simp [Lit.keyWf, w3, w4]) e
  simpa using this
theorem rep_none1 {l : List P2} (hok : okL l = true) (h : ∀ i j : Nat, j < i → i < l.length → ¬ (px l i = px l j ∧ py l i = py l j)) : repI l = false := by
  rw [repI_nodup, keysTo, nodup_map_range]
  intro i j hi hj e
  have b1 := okL_bd hok i
  have b2 := okL_bd hok j
  have := ptLit_one1 e b1.1 b1.2 b2.1 b2.2
  rcases Nat.lt_trichotomy i j with hh | hh | hh
  · exact absurd ⟨this.1.symm, this.2.symm⟩ (h j i hh hj)
  · exact hh
  · exact absurd this (h i j hh hi)
theorem sign_ne {a : Int} (h : a ≠ 0) : Int.sign a = 1 ∨ Int.sign a = -1 := by
  rcases Int.lt_or_gt_of_ne h with h | h
  · right; exact Int.sign_eq_neg_one_of_neg h
  · left; exact Int.sign_eq_one_of_pos h
theorem mul_ne {a c : Int} (ha : a ≠ 0) (hc : c ≠ 0) : a * c ≠ 0 := fun h => by rcases Int.mul_eq_zero.1 h with h | h <;> contradiction
theorem okL_okP {l : List P2} (h : okL l = true) (i : Nat) (hi : i < l.length) : okP (px l i) (py l i) = true := by
  have := okL_bd h i
  simp only [okP, okN, Bool.and_eq_true, decide_eq_true_eq]; omega
theorem edge_okS {l : List P2} (hok : okL l = true) (hrep : repI l = false) (h2 : 2 ≤ l.length) (i : Nat) (hi : i < l.length) : okS (q1 (edgesL l) i) (q2 (edgesL l) i) (q3 (edgesL l) i) (q4 (edgesL l) i) = true := by
  obtain ⟨e1, e2, e3, e4⟩ := edgesL_at l i hi
  have b1 := okL_bd hok i
  have b2 := okL_bd hok ((i + 1) % l.length)
  have hm : (i + 1) % l.length < l.length := Nat.mod_lt _ (by omega)
  rw [e1, e2, e3, e4, okS_iff]
  refine ⟨b1, b2, fun ⟨u, v⟩ => ?_⟩
  have := rep_no hrep hi hm u v
  by_cases hh : i + 1 < l.length
  · rw [Nat.mod_eq_of_lt hh] at this; omega
  · rw [show i + 1 = l.length by omega, Nat.mod_self] at this; omega
theorem anyOn_false {L : List S4} {p q : Int} {n : Nat} : anyOn L p q n = false ↔ ∀ i, i < n → onAt L p q i = false := by
  simp [anyOn]
def ptAt (l : List P2) (i : Nat) : P2 := (px l i, py l i)
theorem ptAt_get (l : List P2) (i : Nat) (h : i < l.length) : ptAt l i = l[i] := by simp [ptAt, px, py, List.getD_eq_getElem?_getD, h]
/-- which comes first -/
def lexLt (p q : P2) : Prop := p.1 < q.1 ∨ (p.1 = q.1 ∧ p.2 < q.2)
theorem orI_lt (x y x' y' : Int) : orI (cmpI x x') (cmpI y y') < 0 ↔ x < x' ∨ (x = x' ∧ y < y') := by
  unfold orI cmpI
  by_cases h1 : x < x'
  · simp [h1]
  · by_cases h2 : x' < x
    · simp [h1, h2] <;> omega
    · by_cases h3 : y < y'
      · simp [h1, h2, h3] <;> omega
      · by_cases h4 : y' < y
        · simp [h1, h2, h3, h4] <;> omega
        · simp [h1, h2, h3, h4] <;> omega
theorem ltP_iff (l : List P2) (i j : Nat) : ltP l i j = true ↔ lexLt (ptAt l i) (ptAt l j) := by
  simp only [ltP, decide_eq_true_eq, orI_lt, lexLt, ptAt]
theorem least_spec (l : List P2) : ∀ k, 0 < k → leastTo l k < k ∧ ∀ i, i < k → ¬ lexLt (ptAt l i) (ptAt l (leastTo l k))
  | 0, h => absurd h (by omega)
  | 1, _ => by
    have e : leastTo l 1 = 0 := by
      show (if ltP l 0 (leastTo l 0) = true then 0 else leastTo l 0) = 0
      split <;> rfl
    rw [e]
    refine ⟨by omega, fun i hi => ?_⟩
    obtain rfl : i = 0 := by omega
    unfold lexLt; omega
  | k + 2, _ => by
    obtain ⟨h1, h2⟩ := least_spec l (k + 1) (by omega)
    rw [show leastTo l (k + 2) = if ltP l (k + 1) (leastTo l (k + 1)) = true then k + 1 else leastTo l (k + 1) from rfl]
    split
    next h =>
      rw [ltP_iff] at h
      refine ⟨by omega, fun i hi => ?_⟩
      by_cases e : i = k + 1
      · subst e; unfold lexLt; omega
      · have := h2 i (by omega)
        unfold lexLt at *; omega
    next h =>
      rw [ltP_iff] at h
      refine ⟨by omega, fun i hi => ?_⟩
      by_cases e : i = k + 1
      · subst e; exact h
      · exact h2 i (by omega)
theorem least_unique {l : List P2} {n j : Nat} (hj : j < n) (h : ∀ i, i < n → i ≠ j → lexLt (ptAt l j) (ptAt l i)) : leastTo l n = j := by
  obtain ⟨h1, h2⟩ := least_spec l n (by omega)
  by_cases e : leastTo l n = j
  · exact e
  · exact absurd (h _ h1 e) (h2 j hj)

/-! bends as a filter -/
theorem bendsTo_filter (l : List P2) (n : Nat) : ∀ k, bendsTo l n k = ((List.range k).filter (fun i => decide (turnAt l n i ≠ 0))).map (ptAt l)
  | 0 => rfl
  | k + 1 => by
    rw [List.range_succ, List.filter_append, List.map_append, ← bendsTo_filter l n k]
    simp only [bendsTo]
    by_cases h : turnAt l n k = 0
    · rw [if_pos h]; simp [h]
    · rw [if_neg h]; simp [h, ptAt]
theorem rot_at (l : List P2) (f i : Nat) (hf : f ≤ l.length) (hi : i < l.length) : px (rotL l f) i = px l ((f + i) % l.length) ∧ py (rotL l f) i = py l ((f + i) % l.length) := by
  have : (rotL l f)[i]? = l[(f + i) % l.length]? := by
    unfold rotL
    by_cases h : i < l.length - f
    · rw [List.getElem?_append_left (by simpa using h), List.getElem?_drop, Nat.mod_eq_of_lt (by omega)]
    · rw [List.getElem?_append_right (by simp; omega), List.length_drop, List.getElem?_take_of_lt (by omega), show f + i = (i - (l.length - f)) + l.length by omega, Nat.add_mod_right, Nat.mod_eq_of_lt (by omega)]
  simp only [px, py, List.getD_eq_getElem?_getD, this, and_self]
theorem rotL_len (l : List P2) (f : Nat) (h : f ≤ l.length) : (rotL l f).length = l.length := by simp [rotL]; omega
theorem mod_prev {n i f : Nat} (hf : f ≤ n) (hi : i < n) : (f + (i + n - 1) % n) % n = ((f + i) % n + n - 1) % n := by
  by_cases h0 : i = 0
  · subst h0
    rw [Nat.zero_add, Nat.mod_eq_of_lt (show n - 1 < n by omega), Nat.add_zero]
    by_cases hh : f = n
    · subst hh; rw [Nat.mod_self, Nat.zero_add, show f + (f - 1) = (f - 1) + f by omega, Nat.add_mod_right]
    · rw [Nat.mod_eq_of_lt (show f < n by omega), show f + (n - 1) = f + n - 1 by omega]
  · rw [show i + n - 1 = (i - 1) + n by omega, Nat.add_mod_right, Nat.mod_eq_of_lt (show i - 1 < n by omega)]
    by_cases hh : f + i < n
    · rw [Nat.mod_eq_of_lt hh, show f + i + n - 1 = (f + (i - 1)) + n by omega, Nat.add_mod_right]
    · by_cases h2 : f + i = n
      · rw [h2, Nat.mod_self, Nat.zero_add, show f + (i - 1) = n - 1 by omega]
      · rw [show f + i = (f + i - n) + n by omega, Nat.add_mod_right, Nat.mod_eq_of_lt (show f + i - n < n by omega), show f + (i - 1) = (f + i - n - 1) + n by omega, Nat.add_mod_right, show f + i - n + n - 1 = (f + i - n - 1) + n by omega, Nat.add_mod_right]
theorem mod_next {n i f : Nat} : (f + (i + 1) % n) % n = ((f + i) % n + 1) % n := by
  rw [Nat.add_mod_mod, Nat.mod_add_mod, Nat.add_assoc]
theorem turnAt_rot (l : List P2) (f i : Nat) (hf : f ≤ l.length) (hi : i < l.length) : turnAt (rotL l f) l.length i = turnAt l l.length ((f + i) % l.length) := by
  have h1 : (i + l.length - 1) % l.length < l.length := Nat.mod_lt _ (by omega)
  have h2 : (i + 1) % l.length < l.length := Nat.mod_lt _ (by omega)
  unfold turnAt
  rw [(rot_at l f _ hf h1).1, (rot_at l f _ hf h1).2, (rot_at l f _ hf hi).1, (rot_at l f _ hf hi).2, (rot_at l f _ hf h2).1, (rot_at l f _ hf h2).2, mod_prev hf hi, mod_next]
theorem range_rot (n f : Nat) (hf : f ≤ n) : (List.range n).map (fun i => (f + i) % n) = List.range' f (n - f) ++ List.range f := by
  apply List.ext_getElem
  · simp; omega
  · intro i h1 h2
    simp only [List.length_map, List.length_range] at h1
    simp only [List.getElem_map, List.getElem_range]
    by_cases h : i < n - f
    · rw [List.getElem_append_left (by simpa using h), List.getElem_range', Nat.mod_eq_of_lt (by omega)]; omega
    · rw [List.getElem_append_right (by simp; omega)]
      simp only [List.length_range', List.getElem_range]
      rw [show f + i = (i - (n - f)) + n by omega, Nat.add_mod_right, Nat.mod_eq_of_lt (by omega)]
/-- the corners that stay, from one index on, and before it -/
def keepA (l : List P2) (f : Nat) : List P2 := ((List.range f).filter (fun i => decide (turnAt l l.length i ≠ 0))).map (ptAt l)
def keepZ (l : List P2) (f : Nat) : List P2 := ((List.range' f (l.length - f)).filter (fun i => decide (turnAt l l.length i ≠ 0))).map (ptAt l)
theorem normB_split (l : List P2) (f : Nat) (hf : f ≤ l.length) : normB l = keepA l f ++ keepZ l f := by
  unfold normB keepA keepZ
  rw [bendsTo_filter, ← List.map_append, ← List.filter_append]
  congr 2
  apply List.ext_getElem
  · simp; omega
  · intro i h1 h2
    by_cases h : i < f
    · rw [List.getElem_append_left (by simpa using h)]; simp
    · rw [List.getElem_append_right (by simp; omega)]; simp; omega
theorem normB_rot (l : List P2) (f : Nat) (hf : f ≤ l.length) : normB (rotL l f) = keepZ l f ++ keepA l f := by
  unfold normB keepA keepZ
  rw [bendsTo_filter, rotL_len l f hf, ← List.map_append, ← List.filter_append, ← range_rot _ _ hf, List.filter_map, List.map_map]
  have : ∀ m : List Nat, (∀ i ∈ m, i < l.length) → (m.filter (fun i => decide (turnAt (rotL l f) l.length i ≠ 0))).map (ptAt (rotL l f)) = (m.filter ((fun i => decide (turnAt l l.length i ≠ 0)) ∘ fun i => (f + i) % l.length)).map (ptAt l ∘ fun i => (f + i) % l.length) := by
    intro m
    induction m with
    | nil => intro _; rfl
    | cons i m ih =>
      intro h
      have hi : i < l.length := h i (by simp)
      have e1 : ptAt (rotL l f) i = (ptAt l ∘ fun i => (f + i) % l.length) i := by simp only [ptAt, Function.comp, (rot_at l f i hf hi).1, (rot_at l f i hf hi).2]
      have e2 : decide (turnAt (rotL l f) l.length i ≠ 0) = ((fun i => decide (turnAt l l.length i ≠ 0)) ∘ fun i => (f + i) % l.length) i := by simp only [Function.comp, turnAt_rot l f i hf hi]
      rw [List.filter_cons, List.filter_cons, e2]
      split
      · rw [List.map_cons, List.map_cons, e1, ih (fun j hj => h j (by simp [hj]))]
      · exact ih (fun j hj => h j (by simp [hj]))
  exact this _ (fun i hi => by simpa using hi)
/-- a corner that comes before all others and is not straight: turning round and striking commute -/
theorem rot_norm {l : List P2} {f : Nat} (hf : f < l.length) (ht : turnAt l l.length f ≠ 0) (hs : ∀ i, i < l.length → i ≠ f → lexLt (ptAt l f) (ptAt l i)) :
    rotL (normB l) (leastTo (normB l) (normB l).length) = normB (rotL l f) := by
  have e1 : keepZ l f = ptAt l f :: (((List.range' (f + 1) (l.length - f - 1)).filter (fun i => decide (turnAt l l.length i ≠ 0))).map (ptAt l)) := by
    unfold keepZ
    rw [show l.length - f = (l.length - f - 1) + 1 by omega, List.range'_succ, List.filter_cons_of_pos (by simpa using ht), List.map_cons]
    rfl
  have hn : normB l = keepA l f ++ keepZ l f := normB_split l f (by omega)
  have hle : leastTo (normB l) (normB l).length = (keepA l f).length := by
    have hk : (keepA l f).length < (normB l).length := by rw [hn, e1]; simp
    refine least_unique hk fun i hi hne => ?_
    have hk' : ptAt (normB l) (keepA l f).length = ptAt l f := by
      rw [ptAt_get _ _ hk]
      simp only [hn, e1]
      simp
    rw [hk', ptAt_get _ _ hi]
    by_cases hlt : i < (keepA l f).length
    · have e : (normB l)[i] = (keepA l f)[i] := by simp only [hn]; rw [List.getElem_append_left hlt]
      rw [e]
      have hm : (keepA l f)[i] ∈ keepA l f := List.getElem_mem hlt
      simp only [keepA, List.mem_map, List.mem_filter, List.mem_range] at hm
      obtain ⟨j, ⟨hj, _⟩, he⟩ := hm
      simp only [keepA]
      rw [← he]
      exact hs j (by omega) (by omega)
    · have hb : i - (keepA l f).length < (keepZ l f).length := by rw [hn, List.length_append] at hi; omega
      have e : (normB l)[i] = (keepZ l f)[i - (keepA l f).length] := by simp only [hn]; rw [List.getElem_append_right (by omega)]
      rw [e]
      obtain ⟨j, hj⟩ : ∃ j, i - (keepA l f).length = j + 1 := ⟨i - (keepA l f).length - 1, by omega⟩
      have hb2 : j + 1 < (keepZ l f).length := by omega
      have e3 : (keepZ l f)[i - (keepA l f).length] = (keepZ l f)[j + 1] := by congr 1
      rw [e3]
      have hb3 : j < (((List.range' (f + 1) (l.length - f - 1)).filter (fun i => decide (turnAt l l.length i ≠ 0))).map (ptAt l)).length := by rw [e1] at hb2; simpa using hb2
      have e4 : (keepZ l f)[j + 1] = (((List.range' (f + 1) (l.length - f - 1)).filter (fun i => decide (turnAt l l.length i ≠ 0))).map (ptAt l))[j] := by simp only [e1]; rfl
      rw [e4]
      have hm := List.getElem_mem hb3
      rw [List.mem_map] at hm
      obtain ⟨k, hk1, hk2⟩ := hm
      rw [List.mem_filter, List.mem_range'_1] at hk1
      rw [← hk2]
      exact hs k (by omega) (by omega)
  rw [hle, normB_rot l f (by omega), hn]
  unfold rotL
  simp

/-! the least corner is not straight -/
theorem meet_fold {a b c d e f : Int} (h1 : okS a b c d = true) (h2 : okS c d e f = true) (hl : lexLt (c, d) (a, b)) (hr : lexLt (c, d) (e, f)) (ht : turnI a b c d e f = 0) : meetI a b c d c d e f = 4 := by
  obtain ⟨⟨b1, b2⟩, ⟨b3, b4⟩, _⟩ := okS_iff.1 h1
  obtain ⟨_, ⟨b5, b6⟩, _⟩ := okS_iff.1 h2
  have t0 : turnI a b c d c d = 0 := by
    rw [turnI_sign, show (c - a) * (d - b) - (d - b) * (c - a) = 0 by grind]; rfl
  have F1 : f1 a b c d = c ∧ f2 a b c d = d ∧ f3 a b c d = a ∧ f4 a b c d = b := by
    have : 0 < orI (cmpI a c) (cmpI b d) := by
      have k1 := orI_lt a b c d
      have k2 := orI_lt c d a b
      have k3 : orI (cmpI a c) (cmpI b d) = - orI (cmpI c a) (cmpI d b) := by
        unfold orI cmpI; split <;> split <;> (repeat split) <;> omega
      unfold lexLt at hl
      omega
    unfold f1 f2 f3 f4
    simp only [if_pos this, and_self]
  have F2 : f1 c d e f = c ∧ f2 c d e f = d ∧ f3 c d e f = e ∧ f4 c d e f = f := by
    have : ¬ 0 < orI (cmpI c e) (cmpI d f) := by
      have := (orI_lt c d e f).2 hr
      omega
    unfold f1 f2 f3 f4
    simp only [if_neg this, and_self]
  rw [meetI, if_pos ⟨t0, ht⟩, F1.1, F1.2.1, F1.2.2.1, F1.2.2.2, F2.1, F2.2.1, F2.2.2.1, F2.2.2.2, onLine_key b4 b2 b4 b6, if_pos]
  unfold kap lexLt at *
  omega
theorem prev_next {n k : Nat} (hk : k < n) : ((k + n - 1) % n + 1) % n = k := by
  by_cases h0 : k = 0
  · subst h0; rw [Nat.zero_add, Nat.mod_eq_of_lt (show n - 1 < n by omega), show n - 1 + 1 = n by omega, Nat.mod_self]
  · rw [show k + n - 1 = (k - 1) + n by omega, Nat.add_mod_right, Nat.mod_eq_of_lt (show k - 1 < n by omega), show k - 1 + 1 = k by omega, Nat.mod_eq_of_lt hk]
theorem prev_cases {n k : Nat} (hk : k < n) : (k = 0 ∧ (k + n - 1) % n = n - 1) ∨ (0 < k ∧ (k + n - 1) % n = k - 1) := by
  by_cases h0 : k = 0
  · left; subst h0; exact ⟨rfl, by rw [Nat.zero_add, Nat.mod_eq_of_lt (by omega)]⟩
  · right; exact ⟨by omega, by rw [show k + n - 1 = (k - 1) + n by omega, Nat.add_mod_right, Nat.mod_eq_of_lt (by omega)]⟩
/-- neighbouring edges of a simple polygon meet in an end alone -/
theorem edges_one {l : List P2} (h : polyI l = 0) {k : Nat} (hk : k < l.length) : meetE (edgesL l) ((k + l.length - 1) % l.length) k = 1 := by
  obtain ⟨h1, h2, h3, h4⟩ := polyI_ok h
  rw [apartB_iff] at h4
  obtain ⟨_, hok⟩ := ckPts_zero h1
  rcases prev_cases hk with ⟨e0, e1⟩ | ⟨e0, e1⟩
  · rw [e1]
    subst e0
    have := h4 0 hk (l.length - 1) (by omega) (by omega)
    have k1 := edge_okS hok h3 (by omega) 0 hk
    have k2 := edge_okS hok h3 (by omega) (l.length - 1) (by omega)
    unfold meetE at this ⊢
    rw [meetI_comm k1 k2, this]
    unfold wantI
    rw [if_pos (by omega)]
  · rw [e1, h4 (k - 1) (by omega) k (by omega) hk]
    unfold wantI
    rw [if_pos (by omega)]
theorem least_bend {l : List P2} (h : polyI l = 0) {k : Nat} (hk : k < l.length) (hs : ∀ i, i < l.length → i ≠ k → lexLt (ptAt l k) (ptAt l i)) : turnAt l l.length k ≠ 0 := by
  obtain ⟨h1, h2, h3, h4⟩ := polyI_ok h
  obtain ⟨_, hok⟩ := ckPts_zero h1
  have he := edges_one h hk
  have hp : (k + l.length - 1) % l.length < l.length := Nat.mod_lt _ (by omega)
  have hq : (k + 1) % l.length < l.length := Nat.mod_lt _ (by omega)
  have k1 := edge_okS hok h3 (by omega) _ hp
  have k2 := edge_okS hok h3 (by omega) k hk
  obtain ⟨e1, e2, e3, e4⟩ := edgesL_at l _ hp
  obtain ⟨g1, g2, g3, g4⟩ := edgesL_at l k hk
  rw [prev_next hk] at e3 e4
  rw [e1, e2, e3, e4] at k1
  rw [g1, g2, g3, g4] at k2
  unfold meetE at he
  rw [e1, e2, e3, e4, g1, g2, g3, g4] at he
  intro ht
  have n1 : (k + l.length - 1) % l.length ≠ k := by rcases prev_cases hk with ⟨a, b⟩ | ⟨a, b⟩ <;> omega
  have n2 : (k + 1) % l.length ≠ k := by
    by_cases hh : k + 1 < l.length
    · rw [Nat.mod_eq_of_lt hh]; omega
    · rw [show k + 1 = l.length by omega, Nat.mod_self]; omega
  have := meet_fold k1 k2 (hs _ hp n1) (hs _ hq n2) ht
  omega

/-! the doubled area without straight corners -/
/-- the doubled area of the triangle of three points -/
def c3 (p q r : P2) : Int := (q.1 - p.1) * (r.2 - p.2) - (q.2 - p.2) * (r.1 - p.1)
def cr (p q : P2) : Int := p.1 * q.2 - p.2 * q.1
def chain : P2 → List P2 → Int
  | _, [] => 0
  | p, q :: l => cr p q + chain q l
def lastOf : P2 → List P2 → P2
  | p, [] => p
  | _, q :: l => lastOf q l
theorem chain_snoc (p : P2) (l : List P2) (q : P2) : chain p (l ++ [q]) = chain p l + cr (lastOf p l) q := by
  induction l generalizing p with
  | nil => simp [chain, lastOf]
  | cons r l ih => simp only [List.cons_append, chain, lastOf, ih]; omega
theorem lastOf_snoc (p : P2) (l : List P2) (q : P2) : lastOf p (l ++ [q]) = q := by
  induction l generalizing p with
  | nil => rfl
  | cons r l ih => simp only [List.cons_append, lastOf, ih]
theorem line3 {p q r s : P2} (hne : q ≠ r) (h1 : c3 p q r = 0) (h2 : c3 q r s = 0) : c3 p r s = 0 := by
  obtain ⟨p1, p2⟩ := p; obtain ⟨q1, q2⟩ := q; obtain ⟨r1, r2⟩ := r; obtain ⟨s1, s2⟩ := s
  simp only [c3] at *
  by_cases hx : r1 = q1
  · have hy : r2 ≠ q2 := fun e => hne (by rw [hx, e])
    subst hx
    have a1 : (r2 - q2) * (r1 - p1) = 0 := by grind
    have a2 : (r2 - q2) * (s1 - r1) = 0 := by grind
    have y : r2 - q2 ≠ 0 := by omega
    have b1 := (Int.mul_eq_zero.1 a1).resolve_left y
    have b2 := (Int.mul_eq_zero.1 a2).resolve_left y
    rw [show s1 = p1 by omega, show r1 = p1 by omega]
    simp
  · have x : r1 - q1 ≠ 0 := by omega
    have e : (r1 - q1) * ((r1 - p1) * (s2 - p2) - (r2 - p2) * (s1 - p1)) = 0 := by grind
    exact (Int.mul_eq_zero.1 e).resolve_left x
theorem c3_cr (p q r : P2) : cr p q + cr q r = cr p r + c3 p q r := by
  simp only [c3, cr]; grind
/-- as long as the first corner stays and neighbours differ -/
theorem chain_bends (l : List P2) (h0 : turnAt l l.length 0 ≠ 0) (hd : ∀ k, k < l.length → ptAt l k ≠ ptAt l ((k + 1) % l.length)) :
    ∀ k, k < l.length → ∃ m, bendsTo l l.length (k + 1) = ptAt l 0 :: m ∧ c3 (lastOf (ptAt l 0) m) (ptAt l k) (ptAt l ((k + 1) % l.length)) = 0 ∧
      chain (ptAt l 0) m + cr (lastOf (ptAt l 0) m) (ptAt l ((k + 1) % l.length)) = crossTo (edgesL l) (k + 1)
  | 0, h => by
    refine ⟨[], ?_, ?_, ?_⟩
    · simp only [bendsTo, if_neg h0, List.nil_append]; rfl
    · simp [lastOf, c3]
    · obtain ⟨g1, g2, g3, g4⟩ := edgesL_at l 0 h
      simp only [chain, lastOf, crossTo, g1, g2, g3, g4, cr, ptAt]
  | k + 1, h => by
    obtain ⟨m, e1, e2, e3⟩ := chain_bends l h0 hd k (by omega)
    rw [Nat.mod_eq_of_lt h] at e2 e3
    obtain ⟨g1, g2, g3, g4⟩ := edgesL_at l (k + 1) h
    have hc : crossTo (edgesL l) (k + 2) = crossTo (edgesL l) (k + 1) + cr (ptAt l (k + 1)) (ptAt l ((k + 1 + 1) % l.length)) := by
      rw [show crossTo (edgesL l) (k + 2) = crossTo (edgesL l) (k + 1) + (q1 (edgesL l) (k + 1) * q4 (edgesL l) (k + 1) - q2 (edgesL l) (k + 1) * q3 (edgesL l) (k + 1)) from rfl, g1, g2, g3, g4]
      rfl
    have hb : bendsTo l l.length (k + 2) = if turnAt l l.length (k + 1) = 0 then bendsTo l l.length (k + 1) else bendsTo l l.length (k + 1) ++ [ptAt l (k + 1)] := rfl
    rw [hb, hc]
    by_cases ht : turnAt l l.length (k + 1) = 0
    · rw [if_pos ht]
      have hp : (k + 1 + l.length - 1) % l.length = k := by rw [show k + 1 + l.length - 1 = k + l.length by omega, Nat.add_mod_right, Nat.mod_eq_of_lt (by omega)]
      have z : c3 (ptAt l k) (ptAt l (k + 1)) (ptAt l ((k + 1 + 1) % l.length)) = 0 := by
        rw [turnAt, hp, turnI_sign, Int.sign_eq_zero_iff_zero] at ht
        exact ht
      have hne := hd k (by omega)
      rw [Nat.mod_eq_of_lt h] at hne
      have z2 := line3 hne e2 z
      refine ⟨m, e1, z2, ?_⟩
      have := c3_cr (lastOf (ptAt l 0) m) (ptAt l (k + 1)) (ptAt l ((k + 1 + 1) % l.length))
      omega
    · rw [if_neg ht]
      refine ⟨m ++ [ptAt l (k + 1)], by rw [e1]; rfl, ?_, ?_⟩
      · rw [lastOf_snoc]; simp [c3]
      · rw [lastOf_snoc, chain_snoc]; omega
/-- the doubled area of a list, as a chain that comes back -/
theorem cross_chain (p : P2) (m : List P2) : crossTo (edgesL (p :: m)) (m.length + 1) = chain p m + cr (lastOf p m) p := by
  have gen : ∀ k, k ≤ m.length → crossTo (edgesL (p :: m)) k = chain p (m.take k) ∧ lastOf p (m.take k) = ptAt (p :: m) k := by
    intro k
    induction k with
    | zero => intro _; simp [crossTo, chain, lastOf, ptAt, px, py]
    | succ k ih =>
      intro hk
      obtain ⟨i1, i2⟩ := ih (by omega)
      obtain ⟨g1, g2, g3, g4⟩ := edgesL_at (p :: m) k (by simp; omega)
      rw [Nat.mod_eq_of_lt (by simp; omega)] at g3 g4
      have hk' : k < m.length := by omega
      have e : m[k] = ptAt (p :: m) (k + 1) := by rw [ptAt_get _ _ (by simp; omega)]; rfl
      rw [List.take_succ_eq_append_getElem hk', chain_snoc, lastOf_snoc, i2, e]
      refine ⟨?_, rfl⟩
      rw [show crossTo (edgesL (p :: m)) (k + 1) = crossTo (edgesL (p :: m)) k + (q1 (edgesL (p :: m)) k * q4 (edgesL (p :: m)) k - q2 (edgesL (p :: m)) k * q3 (edgesL (p :: m)) k) from rfl, i1, g1, g2, g3, g4]
      rfl
  obtain ⟨i1, i2⟩ := gen m.length (Nat.le_refl _)
  rw [List.take_length] at i1 i2
  obtain ⟨g1, g2, g3, g4⟩ := edgesL_at (p :: m) m.length (by simp)
  rw [List.length_cons, Nat.mod_self] at g3 g4
  rw [show crossTo (edgesL (p :: m)) (m.length + 1) = crossTo (edgesL (p :: m)) m.length + (q1 (edgesL (p :: m)) m.length * q4 (edgesL (p :: m)) m.length - q2 (edgesL (p :: m)) m.length * q3 (edgesL (p :: m)) m.length) from rfl, i1, i2, g1, g2, g3, g4]
  simp [cr, ptAt, px, py]
theorem cross_bends {l : List P2} (hn : 0 < l.length) (h0 : turnAt l l.length 0 ≠ 0) (hd : ∀ k, k < l.length → ptAt l k ≠ ptAt l ((k + 1) % l.length)) :
    crossTo (edgesL (normB l)) (normB l).length = crossTo (edgesL l) l.length := by
  obtain ⟨m, e1, e2, e3⟩ := chain_bends l h0 hd (l.length - 1) (by omega)
  rw [show l.length - 1 + 1 = l.length by omega, Nat.mod_self] at e3
  rw [show l.length - 1 + 1 = l.length by omega] at e1
  have : normB l = ptAt l 0 :: m := e1
  rw [this, List.length_cons, cross_chain, e3]
/-- turning round leaves the doubled area -/
theorem cross_app (a b : List P2) (hb : b ≠ []) (ha : a ≠ []) : crossTo (edgesL (a ++ b)) (a ++ b).length = crossTo (edgesL (b ++ a)) (b ++ a).length := by
  cases a with
  | nil => exact absurd rfl ha
  | cons p a =>
    cases b with
    | nil => exact absurd rfl hb
    | cons q b =>
      have capp : ∀ (x : P2) (u : List P2) (y : P2) (v : List P2), chain x (u ++ y :: v) = chain x u + cr (lastOf x u) y + chain y v := by
        intro x u
        induction u generalizing x with
        | nil => intro y v; simp [chain, lastOf]
        | cons z u ih => intro y v; simp only [List.cons_append, chain, lastOf, ih]; omega
      have lapp : ∀ (x : P2) (u : List P2) (y : P2) (v : List P2), lastOf x (u ++ y :: v) = lastOf y v := by
        intro x u
        induction u generalizing x with
        | nil => intro y v; simp [lastOf]
        | cons z u ih => intro y v; simp only [List.cons_append, lastOf, ih]
      have e1 := cross_chain p (a ++ q :: b)
      have e2 := cross_chain q (b ++ p :: a)
      rw [capp, lapp] at e1 e2
      simp only [List.cons_append, List.length_cons] at *
      rw [e1, e2]; omega
theorem cross_rot (l : List P2) (f : Nat) : crossTo (edgesL (rotL l f)) (rotL l f).length = crossTo (edgesL l) l.length := by
  unfold rotL
  by_cases h1 : l.drop f = []
  · have : l.take f = l := by
      have := List.take_append_drop f l
      rw [h1, List.append_nil] at this; exact this
    rw [h1, this]; rfl
  · by_cases h2 : l.take f = []
    · have : l.drop f = l := by
        have := List.take_append_drop f l
        rw [h2] at this; exact this
      rw [h2, this, List.append_nil]
    · rw [cross_app _ _ h2 h1, List.take_append_drop]

/-! backwards -/
theorem revTo_px (l : List P2) (n : Nat) : ∀ m k, k < m → px (revTo l n m) k = px l (n - 1 - k) ∧ py (revTo l n m) k = py l (n - 1 - k)
  | 0, k, h => absurd h (by omega)
  | m + 1, k, h => by
    have hl := revTo_length l n m
    by_cases e : k = m
    · subst e
      simp [revTo, px, py, List.getD_eq_getElem?_getD, hl]
    · obtain ⟨i1, i2⟩ := revTo_px l n m k (by omega)
      rw [← i1, ← i2]
      simp only [revTo, px, py, List.getD_eq_getElem?_getD]
      rw [List.getElem?_append_left (by rw [hl]; omega)]
      exact ⟨rfl, rfl⟩
theorem revTo_rev (l : List P2) : revTo l l.length l.length = l.reverse := by
  apply List.ext_getElem
  · simp [revTo_length]
  · intro i h1 h2
    rw [List.length_reverse] at h2
    rw [← ptAt_get _ _ h1]
    obtain ⟨i1, i2⟩ := revTo_px l l.length l.length i h2
    simp only [List.getElem_reverse]
    rw [← ptAt_get l _ (by omega)]
    unfold ptAt
    rw [i1, i2]
theorem rev_px (l : List P2) (k : Nat) (h : k < l.length) : px l.reverse k = px l (l.length - 1 - k) ∧ py l.reverse k = py l (l.length - 1 - k) := by
  rw [← revTo_rev]; exact revTo_px l _ _ k h
theorem turnI_neg (a b c d p q : Int) : turnI p q c d a b = - turnI a b c d p q := by
  rw [turnI_sign, turnI_sign, ← Int.sign_neg]; congr 1; grind
theorem mod_rev {n k : Nat} (hk : k < n) : n - 1 - (k + n - 1) % n = (n - 1 - k + 1) % n ∧ n - 1 - (k + 1) % n = (n - 1 - k + n - 1) % n := by
  by_cases h0 : k = 0
  · subst h0
    rw [Nat.zero_add, Nat.mod_eq_of_lt (show n - 1 < n by omega), Nat.sub_zero, show n - 1 + 1 = n by omega, Nat.mod_self]
    refine ⟨by omega, ?_⟩
    by_cases h1 : n = 1
    · subst h1; rfl
    · rw [Nat.zero_add, Nat.mod_eq_of_lt (show 1 < n by omega), show n - 1 + n - 1 = (n - 1 - 1) + n by omega, Nat.add_mod_right, Nat.mod_eq_of_lt (by omega)]
  · rw [show k + n - 1 = (k - 1) + n by omega, Nat.add_mod_right, Nat.mod_eq_of_lt (show k - 1 < n by omega), Nat.mod_eq_of_lt (show n - 1 - k + 1 < n by omega)]
    refine ⟨by omega, ?_⟩
    by_cases h1 : k + 1 = n
    · rw [h1, Nat.mod_self, show n - 1 - k = 0 by omega, Nat.zero_add, Nat.mod_eq_of_lt (by omega)]; omega
    · rw [Nat.mod_eq_of_lt (show k + 1 < n by omega), show n - 1 - k + n - 1 = (n - 1 - k - 1) + n by omega, Nat.add_mod_right, Nat.mod_eq_of_lt (by omega)]; omega
theorem turnAt_rev (l : List P2) (k : Nat) (hk : k < l.length) : turnAt l.reverse l.length k = - turnAt l l.length (l.length - 1 - k) := by
  have h1 : (k + l.length - 1) % l.length < l.length := Nat.mod_lt _ (by omega)
  have h2 : (k + 1) % l.length < l.length := Nat.mod_lt _ (by omega)
  obtain ⟨m1, m2⟩ := mod_rev hk
  unfold turnAt
  rw [(rev_px l _ h1).1, (rev_px l _ h1).2, (rev_px l _ hk).1, (rev_px l _ hk).2, (rev_px l _ h2).1, (rev_px l _ h2).2, m1, m2, turnI_neg]
theorem normB_rev (l : List P2) : normB l.reverse = (normB l).reverse := by
  unfold normB
  rw [bendsTo_filter, bendsTo_filter, List.length_reverse, ← List.map_reverse, ← List.filter_reverse]
  have hr : (List.range l.length).reverse = (List.range l.length).map fun i => l.length - 1 - i := by
    apply List.ext_getElem (by simp)
    intro i h1 h2
    simp
  rw [hr, List.filter_map, List.map_map]
  have : ∀ m : List Nat, (∀ i ∈ m, i < l.length) → (m.filter (fun i => decide (turnAt l.reverse l.length i ≠ 0))).map (ptAt l.reverse) = (m.filter ((fun i => decide (turnAt l l.length i ≠ 0)) ∘ fun i => l.length - 1 - i)).map (ptAt l ∘ fun i => l.length - 1 - i) := by
    intro m
    induction m with
    | nil => intro _; rfl
    | cons i m ih =>
      intro h
      have hi : i < l.length := h i (by simp)
      have e1 : ptAt l.reverse i = (ptAt l ∘ fun i => l.length - 1 - i) i := by simp only [ptAt, Function.comp, (rev_px l i hi).1, (rev_px l i hi).2]
      have e2 : decide (turnAt l.reverse l.length i ≠ 0) = ((fun i => decide (turnAt l l.length i ≠ 0)) ∘ fun i => l.length - 1 - i) i := by
        simp only [Function.comp, turnAt_rev l i hi]
        rw [decide_eq_decide]; omega
      rw [List.filter_cons, List.filter_cons, e2]
      split
      · rw [List.map_cons, List.map_cons, e1, ih (fun j hj => h j (by simp [hj]))]
      · exact ih (fun j hj => h j (by simp [hj]))
  exact this _ (fun i hi => by simpa using hi)

/-! both normal forms -/
/-- what the reference goes round -/
def refA (l : List P2) : List P2 := if areaI l < 0 then l.reverse else l
/-- the reference's normal form -/
def refN (l : List P2) : List P2 := normB (rotL (refA l) (leastTo (refA l) (refA l).length))
theorem pts_ne {l : List P2} (hr : repI l = false) {i j : Nat} (hi : i < l.length) (hj : j < l.length) (h : i ≠ j) : ptAt l i ≠ ptAt l j := fun e => by
  simp only [ptAt, Prod.mk.injEq] at e
  exact h (rep_no hr hi hj e.1 e.2)
theorem least_lt {l : List P2} (hr : repI l = false) (h0 : 0 < l.length) : leastTo l l.length < l.length ∧ ∀ i, i < l.length → i ≠ leastTo l l.length → lexLt (ptAt l (leastTo l l.length)) (ptAt l i) := by
  obtain ⟨h1, h2⟩ := least_spec l l.length h0
  refine ⟨h1, fun i hi hne => ?_⟩
  have a := h2 i hi
  have b := pts_ne hr hi h1 hne
  have b' : ¬ ((ptAt l i).1 = (ptAt l (leastTo l l.length)).1 ∧ (ptAt l i).2 = (ptAt l (leastTo l l.length)).2) := fun ⟨u, v⟩ => b (Prod.ext u v)
  unfold lexLt at *; omega
theorem next_ne {n k : Nat} (h : 2 ≤ n) (hk : k < n) : k ≠ (k + 1) % n := by
  by_cases hh : k + 1 < n
  · rw [Nat.mod_eq_of_lt hh]; omega
  · rw [show k + 1 = n by omega, Nat.mod_self]; omega
theorem area_bends {l : List P2} (h : polyI l = 0) : areaI (normB l) = areaI l ∧ 0 < (normB l).length ∧ okL (normB l) = true := by
  obtain ⟨h1, h2, h3, h4⟩ := polyI_ok h
  obtain ⟨hlen, hok⟩ := ckPts_zero h1
  obtain ⟨p1, p2⟩ := least_lt h3 (by omega)
  have hb := least_bend h p1 p2
  generalize hf : leastTo l l.length = f at *
  have hlr := rotL_len l f (by omega)
  have ht0 : turnAt (rotL l f) (rotL l f).length 0 ≠ 0 := by
    rw [hlr, turnAt_rot l f 0 (by omega) (by omega), Nat.add_zero, Nat.mod_eq_of_lt p1]; exact hb
  have hd : ∀ k, k < (rotL l f).length → ptAt (rotL l f) k ≠ ptAt (rotL l f) ((k + 1) % (rotL l f).length) := by
    intro k hk
    rw [hlr] at hk ⊢
    have hm : (k + 1) % l.length < l.length := Nat.mod_lt _ (by omega)
    simp only [ptAt, (rot_at l f k (by omega) hk).1, (rot_at l f k (by omega) hk).2, (rot_at l f _ (by omega) hm).1, (rot_at l f _ (by omega) hm).2]
    rw [mod_next]
    have hmm : (f + k) % l.length < l.length := Nat.mod_lt _ (by omega)
    exact pts_ne h3 hmm (Nat.mod_lt _ (by omega)) (next_ne (by omega) hmm)
  have e1 := cross_bends (l := rotL l f) (by omega) ht0 hd
  rw [cross_rot, normB_rot l f (by omega)] at e1
  have e2 : crossTo (edgesL (normB l)) (normB l).length = crossTo (edgesL l) l.length := by
    rw [← e1, normB_split l f (by omega)]
    by_cases ha : keepA l f = []
    · rw [ha]; simp
    · by_cases hz : keepZ l f = []
      · rw [hz]; simp
      · exact cross_app _ _ hz ha
  have hpos : 0 < (normB l).length := by
    rw [normB_split l f (by omega), List.length_append]
    have : keepZ l f ≠ [] := by
      unfold keepZ
      rw [show l.length - f = (l.length - f - 1) + 1 by omega, List.range'_succ, List.filter_cons_of_pos (by simpa using hb), List.map_cons]
      simp
    have := List.length_pos_iff.2 this
    omega
  have hle : (normB l).length ≤ l.length := by
    unfold normB; rw [bendsTo_filter, List.length_map]
    have := List.length_filter_le (fun i => decide (turnAt l l.length i ≠ 0)) (List.range l.length)
    simpa using this
  have hok' : okL (normB l) = true := by
    unfold okL normB
    rw [bendsTo_filter, List.all_eq_true]
    intro p hp
    rw [List.mem_map] at hp
    obtain ⟨i, _, rfl⟩ := hp
    exact okP_iff.2 (okL_bd hok i)
  refine ⟨?_, hpos, hok'⟩
  unfold areaI ckPts
  rw [hok, hok', e2, if_neg (show ¬ (400 : Int) < (normB l).length by omega), if_neg (show ¬ (400 : Int) < l.length by omega)]
theorem norm_eq {l : List P2} (h : polyI l = 0) : refN l = normL l := by
  obtain ⟨h1, h2, h3, h4⟩ := polyI_ok h
  obtain ⟨hlen, hok⟩ := ckPts_zero h1
  obtain ⟨ea, _, _⟩ := area_bends h
  have hC : normC l = normB (refA l) := by
    unfold normC refA
    rw [ea]
    split
    · rw [revTo_rev, normB_rev]
    · rfl
  have hAl : (refA l).length = l.length := by unfold refA; split <;> simp
  have hAr : repI (refA l) = false := by
    unfold refA; split
    · refine rep_none1 ?_ fun i j hj hi => ?_
      · unfold okL at *; rw [List.all_reverse]; exact hok
      · rw [List.length_reverse] at hi
        rw [(rev_px l i hi).1, (rev_px l i hi).2, (rev_px l j (by omega)).1, (rev_px l j (by omega)).2]
        rintro ⟨u, v⟩
        have := rep_no h3 (by omega) (by omega) u v
        omega
    · exact h3
  obtain ⟨p1, p2⟩ := least_lt hAr (by omega)
  have hb : turnAt (refA l) (refA l).length (leastTo (refA l) (refA l).length) ≠ 0 := by
    generalize leastTo (refA l) (refA l).length = f at *
    rw [hAl] at p1 p2 ⊢
    unfold refA at p2 ⊢
    split
    next hs =>
      rw [if_pos hs] at p2
      rw [turnAt_rev l f p1]
      have := least_bend h (k := l.length - 1 - f) (by omega) (fun i hi hne => by
        have := p2 (l.length - 1 - i) (by omega) (by omega)
        simp only [ptAt, (rev_px l f p1).1, (rev_px l f p1).2, (rev_px l (l.length - 1 - i) (by omega)).1, (rev_px l (l.length - 1 - i) (by omega)).2] at this
        rw [show l.length - 1 - (l.length - 1 - i) = i by omega] at this
        exact this)
      omega
    next hs =>
      rw [if_neg hs] at p2
      exact least_bend h p1 p2
  unfold refN normL
  rw [← rot_norm p1 hb p2, hC]

/-! convex -/
def convB (m : List P2) : Bool := (List.range m.length).all fun k => turnAt m m.length k == 1
def convR (m : List P2) : Bool := (List.range m.length).all fun k => decide (0 < turnI (px m k) (py m k) (px m ((k + 1) % m.length)) (py m ((k + 1) % m.length)) (px m ((k + 2) % m.length)) (py m ((k + 2) % m.length)))
theorem conv_eq (m : List P2) : convR m = convB m := by
  have key : ∀ k, k < m.length → turnI (px m k) (py m k) (px m ((k + 1) % m.length)) (py m ((k + 1) % m.length)) (px m ((k + 2) % m.length)) (py m ((k + 2) % m.length)) = turnAt m m.length ((k + 1) % m.length) := by
    intro k hk
    unfold turnAt
    have e1 : ((k + 1) % m.length + m.length - 1) % m.length = k := by
      by_cases hh : k + 1 < m.length
      · rw [Nat.mod_eq_of_lt hh, show k + 1 + m.length - 1 = k + m.length by omega, Nat.add_mod_right, Nat.mod_eq_of_lt hk]
      · rw [show k + 1 = m.length by omega, Nat.mod_self, Nat.zero_add, Nat.mod_eq_of_lt (by omega)]; omega
    have e2 : ((k + 1) % m.length + 1) % m.length = (k + 2) % m.length := by rw [Nat.mod_add_mod]
    rw [e1, e2]
  have sg : ∀ k, (0 < turnAt m m.length k) ↔ turnAt m m.length k = 1 := by
    intro k
    unfold turnAt
    rw [turnI_sign]
    generalize (_ : Int) - _ = z
    rcases Int.lt_trichotomy z 0 with h | h | h
    · rw [Int.sign_eq_neg_one_of_neg h]; omega
    · rw [h]; simp
    · rw [Int.sign_eq_one_of_pos h]; omega
  rw [Bool.eq_iff_iff]
  unfold convR convB
  simp only [List.all_eq_true, List.mem_range, decide_eq_true_eq, beq_iff_eq]
  constructor
  · intro h k hk
    have hp : (k + m.length - 1) % m.length < m.length := Nat.mod_lt _ (by omega)
    have := h _ hp
    rw [key _ hp, prev_next hk, sg] at this
    exact this
  · intro h k hk
    rw [key k hk, sg]
    exact h _ (Nat.mod_lt _ (by omega))

end Go.Proofs.YtpdfbboagaflhaaGreat

set_option linter.unusedSimpArgs false
set_option linter.unusedVariables false
namespace Go.Proofs.YtpdfbboagaflhaaGreat
open Go.RowKit

def lessB (ax ay bx by' : Int) : Bool := decide (ax < bx ∨ (ax = bx ∧ ay < by'))

set_option maxRecDepth 20000 in
set_option maxHeartbeats 2000000 in
theorem ref_less (ax ay bx by' : Int) (w : World) : Calls Tryz.prog 116 #[pv ax ay, pv bx by'] w fun e w' => e = .returned (.bool (lessB ax ay bx by')) ∧ New w w' := by
  by_cases h1 : ax < bx
  · rw [show lessB ax ay bx by' = true by simp [lessB, h1]]
    go_enter Tryz.func116, Tryz.ntmps116
    go_wp2_with fail
    all_goals (go_ret; refine ⟨rfl, ?_⟩; (repeat (first | exact New.refl _ | apply New.alloc | apply New.aft | apply New.drew | refine New.setCell ?_ ?_ _)); all_goals (first | done | (simp [size_aft]; done) | (simp [size_aft]; omega)))
  · by_cases h2 : ax = bx
    · subst h2
      by_cases h3 : ay < by'
      · rw [show lessB ax ay ax by' = true by simp [lessB, h3]]
        go_enter Tryz.func116, Tryz.ntmps116
        go_wp2_with fail
        all_goals (go_ret; refine ⟨rfl, ?_⟩; (repeat (first | exact New.refl _ | apply New.alloc | apply New.aft | apply New.drew | refine New.setCell ?_ ?_ _)); all_goals (first | done | (simp [size_aft]; done) | (simp [size_aft]; omega)))
      · rw [show lessB ax ay ax by' = false by simp [lessB, h3]]
        go_enter Tryz.func116, Tryz.ntmps116
        go_wp2_with fail
        all_goals (go_ret; refine ⟨rfl, ?_⟩; (repeat (first | exact New.refl _ | apply New.alloc | apply New.aft | apply New.drew | refine New.setCell ?_ ?_ _)); all_goals (first | done | (simp [size_aft]; done) | (simp [size_aft]; omega)))
    · rw [show lessB ax ay bx by' = false by simp [lessB, h1, h2]]
      have h3 : (ax == bx) = false := by simpa using h2
      go_enter Tryz.func116, Tryz.ntmps116
      go_wp2_with fail
      all_goals (go_ret; refine ⟨rfl, ?_⟩; (repeat (first | exact New.refl _ | apply New.alloc | apply New.aft | apply New.drew | refine New.setCell ?_ ?_ _)); all_goals (first | done | (simp [size_aft]; done) | (simp [size_aft]; omega)))

def farN (ax ay bx by' : Int) : Int := (bx - ax) * (bx - ax) + (by' - ay) * (by' - ay)
set_option maxRecDepth 20000 in
set_option maxHeartbeats 2000000 in
theorem ref_far (ax ay bx by' : Int) (w : World) (h1 : 0 ≤ ax ∧ ax ≤ 10000) (h2 : 0 ≤ ay ∧ ay ≤ 10000) (h3 : 0 ≤ bx ∧ bx ≤ 10000) (h4 : 0 ≤ by' ∧ by' ≤ 10000) : Calls Tryz.prog 128 #[pv ax ay, pv bx by'] w fun e w' => e = .returned (.int .i64 (farN ax ay bx by')) ∧ New w w' := by
  obtain ⟨p1, p2⟩ := mul_bd (bx - ax) (bx - ax) 10000 10000 (by omega) (by omega) (by omega) (by omega)
  obtain ⟨p3, p4⟩ := mul_bd (by' - ay) (by' - ay) 10000 10000 (by omega) (by omega) (by omega) (by omega)
  simp only [Int.reduceMul, Int.reduceNeg] at p1 p2 p3 p4
  unfold farN
  go_enter Tryz.func128, Tryz.ntmps128
  go_wp2_with fail
  all_goals (go_ret; refine ⟨rfl, ?_⟩; (repeat (first | exact New.refl _ | apply New.alloc | apply New.aft | apply New.drew | refine New.setCell ?_ ?_ _)); all_goals (first | done | (simp [size_aft]; done) | (simp [size_aft]; omega)))

end Go.Proofs.YtpdfbboagaflhaaGreat

set_option linter.unusedSimpArgs false
set_option linter.unusedVariables false
set_option maxRecDepth 100000
namespace Go.Proofs.YtpdfbboagaflhaaGreat
open Go.RowKit

set_option maxHeartbeats 4000000 in
theorem ref_area2 (b off n c : Nat) (l : List P2) (w : World) (hl : n ≤ 1000000) (hw : Pts w b off n l) :
    Calls Tryz.prog 47 #[.slice (some ⟨b, off, none⟩) n c] w fun en w' => en = .returned (.int .i64 (areaI l)) ∧ New w w' := by
  have HW := Lib.hid hw
  have HN := Lib.hid hw.1
  have HA := Lib.hid (fun (w1 : World) (h1 : New w w1) => ref_allValid b off n c l w1 (by omega) (HW.out.new h1))
  cases hok : okL l
  · rw [hok] at HA
    rw [← areaI_no (l := l) (by unfold ckPts; rw [hok]; split <;> simp)]
    clear hw hok
    go_enter Tryz.func47, Tryz.ntmps47
    go_wp2_with (go_at_call 104; refine (HA.out _ (by (repeat (first | exact New.refl _ | apply New.alloc | apply New.aft | apply New.drew | refine New.setCell ?_ ?_ _)); all_goals (first | done | (simp [size_aft]; done) | (simp [size_aft]; omega)))).mono ?_; rintro e w1 ⟨rfl, pw, rfl⟩)
    all_goals (go_ret; refine ⟨rfl, ?_⟩; (repeat (first | exact New.refl _ | apply New.alloc | apply New.aft | apply New.drew | refine New.setCell ?_ ?_ _)); all_goals (first | done | (simp [size_aft]; done) | (simp [size_aft]; omega)))
  · by_cases h4 : 400 < n
    · rw [hok] at HA
      have hn4 : (400 : Int) < (n : Int) := by omega
      rw [← areaI_no (l := l) (by unfold ckPts; rw [if_pos (by rw [hw.1]; exact hn4)]; decide)]
      clear hw hok
      go_enter Tryz.func47, Tryz.ntmps47
      go_wp2_with (go_at_call 104; refine (HA.out _ (by (repeat (first | exact New.refl _ | apply New.alloc | apply New.aft | apply New.drew | refine New.setCell ?_ ?_ _)); all_goals (first | done | (simp [size_aft]; done) | (simp [size_aft]; omega)))).mono ?_; rintro e w1 ⟨rfl, pw, rfl⟩)
      all_goals (go_ret; refine ⟨rfl, ?_⟩; (repeat (first | exact New.refl _ | apply New.alloc | apply New.aft | apply New.drew | refine New.setCell ?_ ?_ _)); all_goals (first | done | (simp [size_aft]; done) | (simp [size_aft]; omega)))
    · have hn4 : ¬ (400 : Int) < (n : Int) := by omega
      have HV := Lib.hid (areaI_yes (l := l) (by unfold ckPts; rw [if_neg (by rw [hw.1]; exact hn4), hok]; rfl))
      have HBD := Lib.hid (crossTo_bd hok)
      have HB := Lib.hid (okL_bd hok)
      have HED := Lib.hid (fun (k : Nat) (hk : k < n) (w1 : World) (h1 : New w w1) => ref_edge b off n c k l w1 hk hl (HW.out.new h1))
      rw [hok] at HA
      clear hw hok
      go_enter Tryz.func47, Tryz.ntmps47
      go_wp2_with (go_at_call 104; refine (HA.out _ (by (repeat (first | exact New.refl _ | apply New.alloc | apply New.aft | apply New.drew | refine New.setCell ?_ ?_ _)); all_goals (first | done | (simp [size_aft]; done) | (simp [size_aft]; omega)))).mono ?_; rintro e w1 ⟨rfl, pw, rfl⟩)
      go_loopw [4, 5] (fun s i wr => ∃ k : Nat, k ≤ n ∧ i = .int .i64 k ∧ s = .int .i64 (crossTo (edgesL l) k) ∧ New w wr) (fun _ i _ => n - (intOf i).toNat)
      case atStart => exact ⟨0, Nat.zero_le _, rfl, rfl, by (repeat (first | exact New.refl _ | apply New.alloc | apply New.aft | apply New.drew | refine New.setCell ?_ ?_ _)); all_goals (first | done | (simp [size_aft]; done) | (simp [size_aft]; omega))⟩
      case round =>
        obtain ⟨k, hk, rfl, rfl, pr, rfl⟩ := hrel
        by_cases hlt : k < n
        · have hkn : (k : Int) < (n : Int) := by omega
          have HE := Lib.hid (HED.out k hlt)
          obtain ⟨b1, b2⟩ := HB.out k
          obtain ⟨b3, b4⟩ := HB.out ((k + 1) % n)
          have hs := HBD.out k (by rw [HN.out]; omega)
          have hp1 := pos_bd _ _ b1 b4
          have hp2 := pos_bd _ _ b3 b2
          have HX := Lib.hid (show crossTo (edgesL l) (k + 1) = crossTo (edgesL l) k + px l k * py l ((k + 1) % n) - px l ((k + 1) % n) * py l k by
            obtain ⟨e1, e2, e3, e4⟩ := edgesL_at l k (by rw [HN.out]; exact hlt)
            rw [show crossTo (edgesL l) (k + 1) = crossTo (edgesL l) k + (q1 (edgesL l) k * q4 (edgesL l) k - q2 (edgesL l) k * q3 (edgesL l) k) from rfl, e1, e2, e3, e4, HN.out, Int.mul_comm (py l k)]
            omega)
          generalize px l k = X at *
          generalize py l k = Y at *
          generalize px l ((k + 1) % n) = X' at *
          generalize py l ((k + 1) % n) = Y' at *
          generalize crossTo (edgesL l) k = S at *
          go_wp2_with (go_at_call 110; refine (HE.out _ (by (repeat (first | exact New.refl _ | apply New.alloc | apply New.aft | apply New.drew | refine New.setCell ?_ ?_ _)); all_goals (first | done | (simp [size_aft]; done) | (simp [size_aft]; omega)))).mono ?_; rintro e w1 ⟨rfl, hn⟩; have HNE := Lib.hid (New.trans (by (repeat (first | exact New.refl _ | apply New.alloc | apply New.aft | apply New.drew | refine New.setCell ?_ ?_ _)); all_goals (first | done | (simp [size_aft]; done) | (simp [size_aft]; omega))) hn : New w w1); clear hn)
          go_roundw
          case rel => exact ⟨k + 1, by omega, by go_num, by rw [HX.out], HNE.out.trans (by (repeat (first | exact New.refl _ | apply New.alloc | apply New.aft | apply New.drew | refine New.setCell ?_ ?_ _)); all_goals (first | done | (simp [size_aft]; done) | (simp [size_aft]; omega)))⟩
          case measure => simp [intOf]; omega
        · have HK := Lib.hid (show k = n by omega)
          have hkn : ¬ (k : Int) < (n : Int) := by omega
          have HV2 := Lib.hid (show crossTo (edgesL l) k = areaI l by rw [← HV.out, HK.out, HN.out])
          clear hlt
          go_wp2_with fail
          go_ret
          exact ⟨ret_int HV2.out, by (repeat (first | exact New.refl _ | apply New.alloc | apply New.aft | apply New.drew | refine New.setCell ?_ ?_ _)); all_goals (first | done | (simp [size_aft]; done) | (simp [size_aft]; omega))⟩

end Go.Proofs.YtpdfbboagaflhaaGreat

set_option linter.unusedSimpArgs false
set_option linter.unusedVariables false
set_option maxRecDepth 100000
namespace Go.Proofs.YtpdfbboagaflhaaGreat
open Go.RowKit

/-- a result that is a list of points -/
def PtsR (w : World) (v : Value) (R : List P2) : Prop := ∃ av cap, v = .slice av R.length cap ∧ (0 < R.length → ∃ g, av = some ⟨g, 0, none⟩ ∧ Pts w g 0 R.length R)
theorem PtsR.new {w w' : World} {v : Value} {R : List P2} (h : PtsR w v R) (hn : New w w') : PtsR w' v R := by
  obtain ⟨av, cap, h1, h2⟩ := h
  exact ⟨av, cap, h1, fun h0 => by obtain ⟨g, h3, h4⟩ := h2 h0; exact ⟨g, h3, h4.new hn⟩⟩

set_option maxHeartbeats 2000000 in
theorem move1_c (x y dx dy : Int) (B1 B2 : Nat) (w : World) (hx : 0 ≤ x ∧ x ≤ 10000) (hy : 0 ≤ y ∧ y ≤ 10000) (h1 : -20000 ≤ dx ∧ dx ≤ 20000) (h2 : -20000 ≤ dy ∧ dy ≤ 20000) (c1 : w.cell? ⟨B1, 0, none⟩ = some (.int .i64 dx)) (c2 : w.cell? ⟨B2, 0, none⟩ = some (.int .i64 dy)) (b1 : B1 < w.heap.size) (b2 : B2 < w.heap.size) :
    Calls Tryz.prog 159 #[pv x y, .pointer (some ⟨B1, 0, none⟩), .pointer (some ⟨B2, 0, none⟩)] w fun en w' => en = .returned (pv (x + dx) (y + dy)) ∧ New w w' := by
  have b3 : B1 < w.heap.size + 1 := by omega
  have b4 : B2 < w.heap.size + 1 := by omega
  have b5 : B1 < w.heap.size + 1 + 1 := by omega
  have b6 : B2 < w.heap.size + 1 + 1 := by omega
  go_enter Tryz.func159, Tryz.ntmps159
  go_wp2_with fail
  all_goals (refine bodyPost_ret (v := pv (x + dx) (y + dy)) (by simp [results, Tryz.results159, go_sem]) rfl ⟨rfl, ?_⟩; (repeat (first | exact New.refl _ | apply New.alloc | apply New.aft | apply New.drew | refine New.setCell ?_ ?_ _)); all_goals (first | done | (simp [size_aft]; done) | (simp [size_aft]; omega)))
set_option maxHeartbeats 2000000 in
theorem mirror1_c (x y dx : Int) (B1 : Nat) (w : World) (hx : 0 ≤ x ∧ x ≤ 10000) (hy : 0 ≤ y ∧ y ≤ 10000) (h1 : -20000 ≤ dx ∧ dx ≤ 20000) (c1 : w.cell? ⟨B1, 0, none⟩ = some (.int .i64 dx)) (b1 : B1 < w.heap.size) :
    Calls Tryz.prog 161 #[pv x y, .pointer (some ⟨B1, 0, none⟩)] w fun en w' => en = .returned (pv (dx - x) y) ∧ New w w' := by
  have b3 : B1 < w.heap.size + 1 := by omega
  have b5 : B1 < w.heap.size + 1 + 1 := by omega
  go_enter Tryz.func161, Tryz.ntmps161
  go_wp2_with fail
  all_goals (refine bodyPost_ret (v := pv (dx - x) y) (by simp [results, Tryz.results161, go_sem]) rfl ⟨rfl, ?_⟩; (repeat (first | exact New.refl _ | apply New.alloc | apply New.aft | apply New.drew | refine New.setCell ?_ ?_ _)); all_goals (first | done | (simp [size_aft]; done) | (simp [size_aft]; omega)))
set_option maxHeartbeats 2000000 in
theorem enlarge1_c (x y k : Int) (B1 : Nat) (w : World) (hx : 0 ≤ x ∧ x ≤ 10000) (hy : 0 ≤ y ∧ y ≤ 10000) (h1 : -20000 ≤ k ∧ k ≤ 20000) (c1 : w.cell? ⟨B1, 0, none⟩ = some (.int .i64 k)) (b1 : B1 < w.heap.size) :
    Calls Tryz.prog 162 #[pv x y, .pointer (some ⟨B1, 0, none⟩)] w fun en w' => en = .returned (pv (x * k) (y * k)) ∧ New w w' := by
  have m1 := mul_bd x k 10000 20000 (by omega) (by omega) (by omega) (by omega)
  have m2 := mul_bd y k 10000 20000 (by omega) (by omega) (by omega) (by omega)
  simp only [Int.reduceMul, Int.reduceNeg] at m1 m2
  have b3 : B1 < w.heap.size + 1 := by omega
  have b5 : B1 < w.heap.size + 1 + 1 := by omega
  go_enter Tryz.func162, Tryz.ntmps162
  go_wp2_with fail
  all_goals (refine bodyPost_ret (v := pv (x * k) (y * k)) (by simp [results, Tryz.results162, go_sem]) rfl ⟨rfl, ?_⟩; (repeat (first | exact New.refl _ | apply New.alloc | apply New.aft | apply New.drew | refine New.setCell ?_ ?_ _)); all_goals (first | done | (simp [size_aft]; done) | (simp [size_aft]; omega)))

set_option maxHeartbeats 4000000 in
theorem samePoints_c (v u : Value) (R : List P2) (w : World) (hl : R.length ≤ 1000000) (hv : PtsR w v R) (hu : PtsR w u R) : Calls Tryz.prog 52 #[v, u] w fun en w' => en = .returned (.bool true) ∧ New w w' := by
  obtain ⟨av, cv, rfl, hv⟩ := hv
  obtain ⟨au, cu, rfl, hu⟩ := hu
  by_cases h0 : 0 < R.length
  · obtain ⟨g, rfl, _, hg1, hg2⟩ := hv h0
    obtain ⟨g', rfl, _, hg3, hg4⟩ := hu h0
    generalize R.length = n at *
    have t0 : ((n : Int) != (n : Int)) = false := by simp
    clear hv hu
    go_enter Tryz.func52, Tryz.ntmps52
    go_wp2_with fail
    go_loopw [5] (fun i wr => ∃ k : Nat, k ≤ n ∧ i = .int .i64 k ∧ New w wr) (fun i _ => n - (intOf i).toNat)
    case atStart => exact ⟨0, Nat.zero_le _, rfl, New.refl _⟩
    case round =>
      obtain ⟨k, hk, rfl, pr, rfl⟩ := hrel
      by_cases hlt : k < n
      · obtain ⟨c1, c2⟩ := hg2 k hlt
        obtain ⟨d1, d2⟩ := hg4 k hlt
        simp only [Nat.zero_add] at c1 c2 d1 d2
        have hkn : (k : Int) < (n : Int) := by omega
        clear hg2 hg4
        generalize px R k = X at *
        generalize py R k = Y at *
        have e1 : (X == X) = true := by simp
        have e2 : (Y == Y) = true := by simp
        go_wp2_with fail
        first | refine wp_region_at2 (by kernel_rfl) (by kernel_rfl) ?_ | refine wp_region_at (by kernel_rfl) (by kernel_rfl) ?_
        repeat (go_big_quiet_step (fail))
        refine wpQuiet_nil ?_
        rintro _ ⟨q, rfl⟩
        go_wp2_with fail
        go_roundw
        case rel => exact ⟨k + 1, by omega, by go_num, by (repeat (first | exact New.refl _ | apply New.alloc | apply New.aft | apply New.drew | refine New.setCell ?_ ?_ _)); all_goals (first | done | (simp [size_aft]; done) | (simp [size_aft]; omega))⟩
        case measure => simp [intOf]; omega
      · go_wp2_with fail
        go_ret
        exact ⟨rfl, by (repeat (first | exact New.refl _ | apply New.alloc | apply New.aft | apply New.drew | refine New.setCell ?_ ?_ _)); all_goals (first | done | (simp [size_aft]; done) | (simp [size_aft]; omega))⟩
  · have h1 : R.length = 0 := by omega
    rw [h1]
    clear hv hu
    go_enter Tryz.func52, Tryz.ntmps52
    go_wp2_with fail
    refine wp_loop_rounds 1 ?_
    repeat any_goals (rw [rounds_succ]; go_wp2)
    go_ret; exact ⟨rfl, New.refl _⟩

/-- a slice of points, nil or not -/
def PtsA (w : World) (av : Option Addr) (n : Nat) (l : List P2) : Prop := l.length = n ∧ (0 < n → ∃ b off, av = some ⟨b, off, none⟩ ∧ Pts w b off n l)
theorem PtsA.new {w w' : World} {av : Option Addr} {n : Nat} {l : List P2} (h : PtsA w av n l) (hn : New w w') : PtsA w' av n l :=
  ⟨h.1, fun h0 => by obtain ⟨b, off, h1, h2⟩ := h.2 h0; exact ⟨b, off, h1, h2.new hn⟩⟩
theorem PtsR.nil (w : World) : PtsR w (.slice none 0 0) [] := ⟨none, 0, rfl, fun h => absurd h (by simp)⟩
theorem PtsR.own {w : World} {B : Nat} {v : Value} {R : List P2} (h : w.ownsRow B 23 2 v R.length (ptCells R)) : PtsR w v R := own_form h

end Go.Proofs.YtpdfbboagaflhaaGreat

set_option linter.unusedSimpArgs false
set_option linter.unusedVariables false
set_option maxRecDepth 100000
namespace Go.Proofs.YtpdfbboagaflhaaGreat
open Go.RowKit

theorem made_pts (n : Nat) : (madeCells (.agg #[.int .i64 0, .int .i64 0] : Value).cells (n * 2)).toList = ptCells (List.replicate n (0, 0)) := by
  have h1 : ∀ n : Nat, ptCells (List.replicate n (0, 0)) = List.replicate (n * 2) (.int .i64 0) := by
    intro n
    induction n with
    | zero => rfl
    | succ n ih =>
      rw [List.replicate_succ, show ptCells ((0, 0) :: List.replicate n (0, 0)) = [.int .i64 0, .int .i64 0] ++ ptCells (List.replicate n (0, 0)) by simp [ptCells], ih, show (n + 1) * 2 = n * 2 + 1 + 1 by omega, List.replicate_succ, List.replicate_succ]
      rfl
  rw [h1]
  unfold madeCells
  rw [Array.toList_map, List.eq_replicate_iff]
  refine ⟨by simp, fun v hv => ?_⟩
  rw [List.mem_map] at hv
  obtain ⟨i, _, rfl⟩ := hv
  have : i % 2 = 0 ∨ i % 2 = 1 := by omega
  rcases this with h | h <;> simp [h, Value.cells]
theorem own_made {w : World} (n : Nat) (h : n ≤ maxLen) : (w.alloc (.cells (madeCells (.agg #[.int .i64 0, .int .i64 0] : Value).cells (n * 2)) 23)).ownsRow w.heap.size 23 2 (.slice (some ⟨w.heap.size, 0, none⟩) n n) n (ptCells (List.replicate n (0, 0))) := by
  refine own_mk (by rw [ptCells_length, List.length_replicate]) (Nat.le_refl _) (heap_alloc_new _ _) (Nat.le_refl _) h (by rw [size_madeCells]) ?_
  rw [made_pts, List.take_of_length_le (by rw [ptCells_length, List.length_replicate]; exact Nat.le_refl _)]

/-- a list as a result, and no error -/
def ListR (w w' : World) (en : Ending) (R : List P2) : Prop := ∃ v, en = .returned (.tuple #[v, .int .i64 0]) ∧ PtsR w' v R ∧ New w w'

set_option maxHeartbeats 4000000 in
theorem ref_normal_no (b off n c : Nat) (l : List P2) (w : World) (h0 : 0 < n) (hl : n ≤ 1000000) (hw : Pts w b off n l) (hp : polyI l ≠ 0) :
    Calls Tryz.prog 51 #[.slice (some ⟨b, off, none⟩) n c] w fun en w' => en = .returned (.tuple #[.slice none 0 0, .int .i64 (polyI l)]) ∧ New w w' := by
  have HP := Lib.hid (ref_checkPoly b off n c l w h0 hl hw)
  have hq1 : (polyI l == 0) = false := by simpa using hp
  have hq2 : (polyI l != 0) = true := by simpa using hp
  clear hp hw
  go_enter Tryz.func51, Tryz.ntmps51
  go_wp2_with (go_at_call 45; refine HP.out.mono ?_; rintro e w2 ⟨rfl, hn2⟩; have HN2 := Lib.hid hn2; clear hn2)
  go_ret2
  exact ⟨rfl, HN2.out⟩

theorem lessB_ltP (l : List P2) (i j : Nat) : lessB (px l i) (py l i) (px l j) (py l j) = ltP l i j := by
  unfold lessB ltP
  rw [decide_eq_decide, orI_lt]
theorem tm_nat (a k : Nat) (x : Int) (h : x = (a : Int)) : x.tmod (k : Int) = ((a % k : Nat) : Int) := by
  rw [h, Int.tmod_eq_emod_of_nonneg (by omega), ← Int.natCast_emod]
/-- how far the first list is filled -/
def Filled (A m : List P2) (n k : Nat) : Prop := m.length = n ∧ ∀ j, j < k → px m j = px A j ∧ py m j = py A j
theorem filled_set {A m : List P2} {n k : Nat} (h : Filled A m n k) (hk : k < n) : Filled A (m.set k (px A k, py A k)) n (k + 1) := by
  refine ⟨by rw [List.length_set]; exact h.1, fun j hj => ?_⟩
  by_cases e : j = k
  · subst e
    simp [px, py, List.getD_eq_getElem?_getD, h.1, hk]
  · have := h.2 j (by omega)
    simp only [px, py, List.getD_eq_getElem?_getD] at *
    rw [List.getElem?_set_ne (by omega)]
    exact this
theorem filled_all {A m : List P2} {n : Nat} (h : Filled A m n n) (hA : A.length = n) : m = A := by
  apply List.ext_getElem (by rw [h.1, hA])
  intro i h1 h2
  have := h.2 i (by rw [← h.1]; exact h1)
  rw [← ptAt_get m i h1, ← ptAt_get A i h2]
  exact Prod.ext this.1 this.2

set_option maxHeartbeats 16000000 in
theorem ref_normal_yes (b off n c : Nat) (l : List P2) (w : World) (h0 : 0 < n) (hw : Pts w b off n l) (hp : polyI l = 0) :
    Calls Tryz.prog 51 #[.slice (some ⟨b, off, none⟩) n c] w fun en w' => ListR w w' en (refN l) := by
  obtain ⟨i0, hi, hz0, hz1, hz2⟩ := info_parts info23
  obtain ⟨g1, g2, g3, g4⟩ := polyI_ok hp
  obtain ⟨g5, g6⟩ := ckPts_zero g1
  have hn2 : n ≤ 200 := by rw [hw.1] at g5; omega
  have HW := Lib.hid hw
  have HN := Lib.hid hw.1
  have HP := Lib.hid (ref_checkPoly b off n c l w h0 (by omega) hw)
  rw [hp] at HP
  have HAR := Lib.hid (fun (w1 : World) (h1 : New w w1) => ref_area2 b off n c l w1 (by omega) (HW.out.new h1))
  have hAl : (refA l).length = n := by unfold refA; split <;> simp [hw.1]
  have hAv : ∀ i, i < n → (areaI l < 0 → px (refA l) i = px l (n - 1 - i) ∧ py (refA l) i = py l (n - 1 - i)) ∧ (¬ areaI l < 0 → px (refA l) i = px l i ∧ py (refA l) i = py l i) := fun i hi => by
    unfold refA
    refine ⟨fun h => ?_, fun h => ?_⟩
    · rw [if_pos h, ← hw.1]; exact rev_px l i (by rw [hw.1]; exact hi)
    · rw [if_neg h]; exact ⟨rfl, rfl⟩
  have HAV := Lib.hid hAv
  have HAL := Lib.hid hAl
  have HAB := Lib.hid (show ∀ i, i < n → (0 ≤ px (refA l) i ∧ px (refA l) i ≤ 10000) ∧ (0 ≤ py (refA l) i ∧ py (refA l) i ≤ 10000) from fun i hi => by
    have b1 := okL_bd g6 i
    have b2 := okL_bd g6 (n - 1 - i)
    have h := hAv i hi
    by_cases hs : areaI l < 0
    · have := h.1 hs; omega
    · have := h.2 hs; omega)
  have HRN := Lib.hid (show refN l = normB (rotL (refA l) (leastTo (refA l) n)) by unfold refN; rw [hAl])
  generalize refA l = A at *
  clear hw hp g1 g2 g3 g4 g5 g6 hAl hAv
  have hmk : ∀ w : World, (Instr.makeSlice 40 (.int .i64 (n : Int)) (.int .i64 (n : Int))).run Tryz.prog w = .ok (.slice (some ⟨w.heap.size, 0, none⟩) n n) (w.alloc (.cells (madeCells (.agg #[.int .i64 0, .int .i64 0] : Value).cells (n * 2)) 23)) := by
    intro w
    have := run_make (P := Tryz.prog) w 40 23 i0 _ Tryz.underlying40 hi hz0 .i64 .i64 n n (by omega) (by omega) (by rw [hz2]; omega) (by omega)
    rw [hz1] at this
    simpa using this
  go_enter Tryz.func51, Tryz.ntmps51
  go_wp2_with (go_at_call 45; refine HP.out.mono ?_; rintro e w1 ⟨rfl, hn1⟩; have HN1 := Lib.hid hn1; clear hn1)
  go_loopw [7] (fun i wr => ∃ (k : Nat) (m : List P2), k ≤ n ∧ i = .int .i64 k ∧ Filled A m n k ∧ wr.ownsRow w1.heap.size 23 2 (.slice (some ⟨w1.heap.size, 0, none⟩) n n) n (ptCells m) ∧ New w1 wr) (fun i _ => n - (intOf i).toNat)
  case atStart => exact ⟨0, _, Nat.zero_le _, rfl, ⟨by rw [List.length_replicate], fun j hj => absurd hj (Nat.not_lt_zero _)⟩, own_made n (by unfold maxLen; omega), (New.refl _).alloc _⟩
  case round =>
    obtain ⟨k, m, hk, rfl, hfil, hown, hnew⟩ := hrel
    have HFIL := Lib.hid hfil
    have HO := Lib.hid hown
    have HNEW := Lib.hid hnew
    clear hfil hown hnew
    by_cases hlt : k < n
    · obtain ⟨_, hb2, hcell⟩ := HW.out.new (HN1.out.trans HNEW.out)
      obtain ⟨c1, c2⟩ := hcell k hlt
      clear hcell
      have hkn : (k : Int) < (n : Int) := by omega
      obtain ⟨⟨p1, p2⟩, pf⟩ := own_pt HO.out HFIL.out.1 hlt
      have hgl := (HO.out.lt w1.heap.size rfl).2
      have HAVk := Lib.hid (HAV.out k hlt)
      have hGe : w1.heap.size < wr.heap.size := hgl
      have HFS := Lib.hid (filled_set HFIL.out hlt)
      have hwA : IntKind.i64.wrap ((n : Int) - 1) = (n : Int) - 1 := IntWalk.i64_in _ (by omega)
      have hwB : IntKind.i64.wrap ((n : Int) - 1 - (k : Int)) = (n : Int) - 1 - (k : Int) := IntWalk.i64_in _ (by omega)
      have hq1 : ((n : Int) - 1 - (k : Int)).toNat = n - 1 - k := by omega
      have hq2 : (0 : Int) ≤ (n : Int) - 1 - (k : Int) := by omega
      have hq3 : (n : Int) - 1 - (k : Int) < (n : Int) := by omega
      obtain ⟨wo, rfl⟩ : ∃ wo : World, wo = wr := ⟨_, rfl⟩
      generalize areaI l = S at *
      by_cases hs : S < 0
      · obtain ⟨ax, ay⟩ := HAVk.out.1 (by omega)
        go_wp2_with (go_at_call 47; refine (HAR.out _ (HN1.out.trans (by (repeat (first | exact HNEW.out | exact New.refl _ | apply New.alloc | apply New.aft | apply New.drew | refine New.setCell ?_ ?_ _)); all_goals (first | done | (simp [size_aft]; done) | (simp [size_aft]; omega))))).mono ?_; rintro e w2 ⟨rfl, hn⟩; have HO2 := Lib.hid (own_new (own_setPt HO.out k (px l k) (py l k)) hn); have HN2 := Lib.hid (New.trans (by (repeat (first | exact HNEW.out | exact New.refl _ | apply New.alloc | apply New.aft | apply New.drew | refine New.setCell ?_ ?_ _)); all_goals (first | done | (simp [size_aft]; done) | (simp [size_aft]; omega))) hn : New w1 w2); obtain ⟨_, hb4, hc4⟩ := HW.out.new (HN1.out.trans HN2.out); obtain ⟨c5, c6⟩ := hc4 (n - 1 - k) (by omega); obtain ⟨⟨p3, p4⟩, pf2⟩ := own_pt HO2.out (by rw [List.length_set]; exact HFIL.out.1) hlt; have hgl2 := (HO2.out.lt w1.heap.size rfl).2; clear hc4 hn)
        go_roundw
        case rel => exact ⟨k + 1, m.set k (px A k, py A k), by omega, by go_num, HFS.out, by have := own_setPt HO2.out k (px l (n - 1 - k)) (py l (n - 1 - k)); rw [List.set_set] at this; rw [ax, ay]; exact this, (by (repeat (first | exact HN2.out | exact New.refl _ | apply New.alloc | apply New.aft | apply New.drew | refine New.setCell ?_ ?_ _)); all_goals (first | done | (simp [size_aft]; done) | (simp [size_aft]; omega)))⟩
        case measure => simp [intOf]; omega
      · obtain ⟨ax, ay⟩ := HAVk.out.2 (by omega)
        go_wp2_with (go_at_call 47; refine (HAR.out _ (HN1.out.trans (by (repeat (first | exact HNEW.out | exact New.refl _ | apply New.alloc | apply New.aft | apply New.drew | refine New.setCell ?_ ?_ _)); all_goals (first | done | (simp [size_aft]; done) | (simp [size_aft]; omega))))).mono ?_; rintro e w2 ⟨rfl, hn⟩; have HO2 := Lib.hid (own_new (own_setPt HO.out k (px l k) (py l k)) hn); have HN2 := Lib.hid (New.trans (by (repeat (first | exact HNEW.out | exact New.refl _ | apply New.alloc | apply New.aft | apply New.drew | refine New.setCell ?_ ?_ _)); all_goals (first | done | (simp [size_aft]; done) | (simp [size_aft]; omega))) hn : New w1 w2); clear hn)
        go_roundw
        case rel => exact ⟨k + 1, m.set k (px A k, py A k), by omega, by go_num, HFS.out, by rw [ax, ay]; exact HO2.out, HN2.out⟩
        case measure => simp [intOf]; omega
    · have hkn : ¬ (k : Int) < (n : Int) := by omega
      obtain rfl : k = n := by omega
      have hmA := filled_all HFIL.out HAL.out
      rw [hmA] at HO
      have HPA := Lib.hid (pts_own HO.out HAL.out)
      obtain ⟨wl, rfl⟩ : ∃ wl : World, wl = wr := ⟨_, rfl⟩
      have HNL := Lib.hid (HN1.out.trans HNEW.out)
      clear hmA HFIL HAV HAR HP HW
      generalize hG : w1.heap.size = G at *
      clear hG
      go_wp2_with fail
      go_loopw [8, 9] (fun v i wr => ∃ j : Nat, j ≤ k ∧ i = .int .i64 j ∧ v = .int .i64 (leastTo A j : Nat) ∧ New wl wr) (fun _ i _ => k - (intOf i).toNat)
      case atStart => exact ⟨0, Nat.zero_le _, rfl, rfl, New.refl _⟩
      case round =>
        obtain ⟨j, hj, rfl, rfl, pr, rfl⟩ := hrel
        by_cases hjn : j < k
        · have hjn2 : (j : Int) < (k : Int) := by omega
          obtain ⟨_, hb2, hcell⟩ := HPA.out
          have hlt2 : leastTo A j < k := by
            by_cases e : j = 0
            · subst e; show 0 < k; omega
            · have := (least_spec A j (by omega)).1; omega
          obtain ⟨c1, c2⟩ := hcell j hjn
          obtain ⟨c3, c4⟩ := hcell (leastTo A j) hlt2
          simp only [Nat.zero_add] at c1 c2 c3 c4
          have HLS := Lib.hid (fun w1 : World => ref_less (px A j) (py A j) (px A (leastTo A j)) (py A (leastTo A j)) w1)
          rw [lessB_ltP] at HLS
          have hlo : leastTo A (j + 1) = if ltP A j (leastTo A j) = true then j else leastTo A j := rfl
          have hl2 : (leastTo A j : Int) < (k : Int) := by omega
          clear hcell
          generalize px A j = X at *
          generalize py A j = Y at *
          generalize px A (leastTo A j) = LX at *
          generalize py A (leastTo A j) = LY at *
          cases hp : ltP A j (leastTo A j)
          · rw [hp] at HLS hlo
            have HLO := Lib.hid hlo
            clear hlo hp
            generalize leastTo A j = f at *
            go_wp2_with fail
            first | refine wp_region_at2 (by kernel_rfl) (by kernel_rfl) ?_ | refine wp_region_at (by kernel_rfl) (by kernel_rfl) ?_
            repeat (go_big_quiet_step (first | (go_at_call 116; (with_reducible exact calls_new (HLS.out _)))))
            refine wpQuiet_nil ?_
            rintro _ ⟨q0, rfl⟩
            go_wp2_with fail
            go_roundw
            case rel => exact ⟨j + 1, by omega, by go_num, by rw [HLO.out]; rfl, (by (repeat (first | exact New.refl _ | apply New.alloc | apply New.aft | apply New.drew | refine New.setCell ?_ ?_ _)); all_goals (first | done | (simp [size_aft]; done) | (simp [size_aft]; omega)))⟩
            case measure => simp [intOf]; omega
          · rw [hp] at HLS hlo
            have HLO := Lib.hid hlo
            clear hlo hp
            generalize leastTo A j = f at *
            go_wp2_with fail
            first | refine wp_region_at2 (by kernel_rfl) (by kernel_rfl) ?_ | refine wp_region_at (by kernel_rfl) (by kernel_rfl) ?_
            repeat (go_big_quiet_step (first | (go_at_call 116; (with_reducible exact calls_new (HLS.out _)))))
            refine wpQuiet_nil ?_
            rintro _ ⟨q0, rfl⟩
            go_wp2_with fail
            go_roundw
            case rel => exact ⟨j + 1, by omega, by go_num, by rw [HLO.out]; rfl, (by (repeat (first | exact New.refl _ | apply New.alloc | apply New.aft | apply New.drew | refine New.setCell ?_ ?_ _)); all_goals (first | done | (simp [size_aft]; done) | (simp [size_aft]; omega)))⟩
            case measure => simp [intOf]; omega
        · have hjn2 : ¬ (j : Int) < (k : Int) := by omega
          have HJE := Lib.hid (show leastTo A j = leastTo A k by rw [show j = k by omega])
          have hfk : leastTo A j < k := by rw [HJE.out]; exact (least_spec A k h0).1
          have HRN2 := Lib.hid (show refN l = normB (rotL A (leastTo A j)) by rw [HRN.out, HJE.out])
          generalize leastTo A j = f at *
          have hBl := rotL_len A f (by rw [HAL.out]; omega)
          rw [HAL.out] at hBl
          have HBX := Lib.hid (show ∀ i, i < k → px (rotL A f) i = px A ((f + i) % k) ∧ py (rotL A f) i = py A ((f + i) % k) from fun i hi => by
            have := rot_at A f i (by rw [HAL.out]; omega) (by rw [HAL.out]; exact hi)
            rw [HAL.out] at this; exact this)
          have HBL := Lib.hid hBl
          clear hBl
          generalize rotL A f = B at *
          go_wp2_with fail
          go_loopw [11, 12] (fun v i wr => ∃ t : Nat, t ≤ k ∧ i = .int .i64 t ∧ wr.ownsRow wl.heap.size 23 2 v (bendsTo B k t).length (ptCells (bendsTo B k t)) ∧ New wl wr) (fun _ i _ => k - (intOf i).toNat)
          case atStart => exact ⟨0, Nat.zero_le _, rfl, World.ownsRow_nil _ _ _ _, (by (repeat (first | exact New.refl _ | apply New.alloc | apply New.aft | apply New.drew | refine New.setCell ?_ ?_ _)); all_goals (first | done | (simp [size_aft]; done) | (simp [size_aft]; omega)))⟩
          case round =>
            obtain ⟨wt, rfl⟩ : ∃ wt : World, wt = wr := ⟨_, rfl⟩
            obtain ⟨t, ht, rfl, hown, hnew⟩ := hrel
            have HNT := Lib.hid hnew
            have HOT := Lib.hid hown
            have HLE := bendsTo_le B k t
            clear hown hnew
            by_cases htk : t < k
            · have htk2 : (t : Int) < (k : Int) := by omega
              obtain ⟨_, hb2, hcell⟩ := HPA.out.new HNT.out
              have j1 : (f + t) % k < k := Nat.mod_lt _ h0
              have j0 : (f + t + k - 1) % k < k := Nat.mod_lt _ h0
              have j2 : (f + t + 1) % k < k := Nat.mod_lt _ h0
              obtain ⟨c1, c2⟩ := hcell _ j1
              obtain ⟨c3, c4⟩ := hcell _ j0
              obtain ⟨c5, c6⟩ := hcell _ j2
              simp only [Nat.zero_add] at c1 c2 c3 c4 c5 c6
              clear hcell
              have m1 := tm_nat (f + t) k ((f : Int) + (t : Int)) (by omega)
              have m0 := tm_nat (f + t + k - 1) k ((f : Int) + (t : Int) + (k : Int) - 1) (by omega)
              have m2 := tm_nat (f + t + 1) k ((f : Int) + (t : Int) + 1) (by omega)
              have w1' : IntKind.i64.wrap ((f : Int) + (t : Int)) = (f : Int) + (t : Int) := IntWalk.i64_in _ (by omega)
              have w2' : IntKind.i64.wrap ((f : Int) + (t : Int) + (k : Int)) = (f : Int) + (t : Int) + (k : Int) := IntWalk.i64_in _ (by omega)
              have w3' : IntKind.i64.wrap ((f : Int) + (t : Int) + (k : Int) - 1) = (f : Int) + (t : Int) + (k : Int) - 1 := IntWalk.i64_in _ (by omega)
              have w4' : IntKind.i64.wrap ((f : Int) + (t : Int) + 1) = (f : Int) + (t : Int) + 1 := IntWalk.i64_in _ (by omega)
              have hnz : (k = 0) = False := eq_false (by omega)
              have b1 := HAB.out _ j1
              have b0 := HAB.out _ j0
              have b2 := HAB.out _ j2
              have HTT := Lib.hid (show turnAt B k t = turnI (px A ((f + t + k - 1) % k)) (py A ((f + t + k - 1) % k)) (px A ((f + t) % k)) (py A ((f + t) % k)) (px A ((f + t + 1) % k)) (py A ((f + t + 1) % k)) by
                unfold turnAt
                rw [(HBX.out _ (Nat.mod_lt (t + k - 1) h0)).1, (HBX.out _ (Nat.mod_lt (t + k - 1) h0)).2, (HBX.out t htk).1, (HBX.out t htk).2, (HBX.out _ (Nat.mod_lt (t + 1) h0)).1, (HBX.out _ (Nat.mod_lt (t + 1) h0)).2]
                rw [Nat.add_mod_mod, Nat.add_mod_mod, show f + (t + k - 1) = f + t + k - 1 by omega, show f + (t + 1) = f + t + 1 by omega])
              have HTU := Lib.hid (fun w2 : World => ref_turn (px A ((f + t + k - 1) % k)) (py A ((f + t + k - 1) % k)) (px A ((f + t) % k)) (py A ((f + t) % k)) (px A ((f + t + 1) % k)) (py A ((f + t + 1) % k)) w2 (by omega) (by omega) (by omega) (by omega) (by omega) (by omega))
              have HBS := Lib.hid (show bendsTo B k (t + 1) = if turnAt B k t = 0 then bendsTo B k t else bendsTo B k t ++ [(px A ((f + t) % k), py A ((f + t) % k))] by rw [← (HBX.out t htk).1, ← (HBX.out t htk).2]; rfl)
              rw [HTT.out] at HBS
              clear HTT b1 b0 b2
              generalize (f + t + k - 1) % k = i0' at *
              generalize (f + t) % k = i1' at *
              generalize (f + t + 1) % k = i2' at *
              generalize px A i0' = X0 at *
              generalize py A i0' = Y0 at *
              generalize px A i1' = X1 at *
              generalize py A i1' = Y1 at *
              generalize px A i2' = X2 at *
              generalize py A i2' = Y2 at *
              generalize turnI X0 Y0 X1 Y1 X2 Y2 = T at *
              by_cases hT : T = 0
              · subst hT
                have HBE := Lib.hid (show bendsTo B k (t + 1) = bendsTo B k t by rw [HBS.out, if_pos rfl])
                clear HBS
                go_wp2_with (go_at_call 87; refine (HTU.out _).mono ?_; rintro e w3 ⟨rfl, pv3, rfl⟩)
                go_roundw
                case rel => exact ⟨t + 1, by omega, by go_num, by rw [HBE.out]; exact own_new HOT.out (by (repeat (first | exact New.refl _ | apply New.alloc | apply New.aft | apply New.drew | refine New.setCell ?_ ?_ _)); all_goals (first | done | (simp [size_aft]; done) | (simp [size_aft]; omega))), (by (repeat (first | exact HNT.out | exact New.refl _ | apply New.alloc | apply New.aft | apply New.drew | refine New.setCell ?_ ?_ _)); all_goals (first | done | (simp [size_aft]; done) | (simp [size_aft]; omega)))⟩
                case measure => simp [intOf]; omega
              · have t2 : (T == 0) = false := by simpa using hT
                have t3 : (T != 0) = true := by simpa using hT
                have HBE := Lib.hid (show bendsTo B k (t + 1) = bendsTo B k t ++ [(X1, Y1)] by rw [HBS.out, if_neg hT])
                clear HBS hT
                go_wp2_with (first | (go_at_call 87; refine (HTU.out _).mono ?_; rintro e w3 ⟨rfl, pv3, rfl⟩) | (at_builtin; refine wpList_append_lies _ rfl (.tmp 104) (.tmp 106) 40 rfl wl.heap.size 23 i0 _ 2 16 Tryz.underlying40 hi hz0 hz1 hz2 rfl (by omega) u11 (bendsTo B k t).length (ptCells (bendsTo B k t)) rfl ?_ _ 1 1 [.int .i64 X1, .int .i64 Y1] rfl rfl ?_ ?_ (by omega) ?_ ?_ ?_ _ rfl ?_; exact own_new HOT.out (by (repeat (first | exact New.refl _ | apply New.alloc | apply New.aft | apply New.drew | refine New.setCell ?_ ?_ _)); all_goals (first | done | (simp [size_aft]; done) | (simp [size_aft]; omega))); (refine cells_new _ _ _ _ ?_); (simp [go_sem]); (intro u hu; simp at hu; rcases hu with rfl | rfl <;> rfl); (unfold maxLen; omega); omega; (have z1 := HNT.out.size; simp [go_sem, size_aft]; omega); intro g4 cap4 w4 hown4 hgrow4 hor4 hlt4; have HNW4 := Lib.hid (show New wl w4 from new_grown (by (repeat (first | exact HNT.out | exact New.refl _ | apply New.alloc | apply New.aft | apply New.drew | refine New.setCell ?_ ?_ _)); all_goals (first | done | (simp [size_aft]; done) | (simp [size_aft]; omega))) hgrow4 HOT.out); have HO4 := Lib.hid hown4; clear hown4 hgrow4 hor4 hlt4))
                go_roundw
                case rel => exact ⟨t + 1, by omega, by go_num, by rw [HBE.out, ptCells_snoc, List.length_append]; exact HO4.out, HNW4.out⟩
                case measure => simp [intOf]; omega
            · have htk2 : ¬ (t : Int) < (k : Int) := by omega
              have HRE := Lib.hid (show bendsTo B k t = refN l by rw [HRN2.out, show t = k by omega]; unfold normB; rw [HBL.out])
              go_wp2_with fail
              go_ret2
              have h1 := HOT.out
              rw [HRE.out] at h1
              exact ⟨u11, rfl, PtsR.own h1, HNL.out.trans HNT.out⟩

end Go.Proofs.YtpdfbboagaflhaaGreat

set_option linter.unusedSimpArgs false
set_option linter.unusedVariables false
set_option maxRecDepth 100000
namespace Go.Proofs.YtpdfbboagaflhaaGreat
open Go.RowKit

theorem okL_app (a b : List P2) : okL (a ++ b) = (okL a && okL b) := by simp [okL]
theorem okL_sub {a b : List P2} (h : okL b = true) (hs : ∀ p, p ∈ a → p ∈ b) : okL a = true := by
  unfold okL at *
  rw [List.all_eq_true] at *
  exact fun p hp => h p (hs p hp)
theorem okL_norm {l : List P2} (h : polyI l = 0) : okL (normL l) = true ∧ (normL l).length = (normB l).length := by
  obtain ⟨_, h2, h3⟩ := area_bends h
  refine ⟨okL_sub h3 fun p hp => ?_, normL_length l h2⟩
  unfold normL rotL at hp
  rw [List.mem_append] at hp
  have hc : p ∈ normC l := by
    rcases hp with hp | hp
    · exact List.mem_of_mem_drop hp
    · exact List.mem_of_mem_take hp
  unfold normC at hc
  split at hc
  · rw [revTo_rev] at hc; exact List.mem_reverse.1 hc
  · exact hc
/-- what Convex returns -/
def convV (l : List P2) : Bool := if polyI l = 0 then convB (normL l) else false
theorem convB_iff (m : List P2) : convB m = true ↔ ∀ k, k < m.length → turnAt m m.length k = 1 := by
  unfold convB; simp

set_option maxHeartbeats 4000000 in
theorem convex_nil (v : Option Addr) (c : Nat) (w : World) : Calls Tryz.prog 48 #[.slice v 0 c] w fun en w' => en = .returned (.bool false) ∧ New w w' := by
  have HP := Lib.hid (show ∀ w1 : World, Calls Tryz.prog 50 #[.slice v 0 c] w1 fun en w' => en = .returned (.tuple #[.slice none 0 0, .int .i64 1]) ∧ New w1 w' from fun w1 => by
    have HC := Lib.hid (fun w1 : World => checkPoly_nil v c w1)
    go_enter Tryz.func50, Tryz.ntmps50
    go_wp2_with (go_at_call 44; refine (HC.out _).mono ?_; rintro e w2 ⟨rfl, hn⟩; have HN1 := Lib.hid hn; clear hn)
    go_ret2; exact ⟨rfl, HN1.out⟩)
  go_enter Tryz.func48, Tryz.ntmps48
  go_wp2_with (go_at_call 50; refine (HP.out _).mono ?_; rintro e w2 ⟨rfl, hn⟩; have HN1 := Lib.hid hn; clear hn)
  go_ret; exact ⟨rfl, HN1.out⟩
set_option maxHeartbeats 4000000 in
theorem convex_no (b off n c : Nat) (l : List P2) (w : World) (h0 : 0 < n) (hl : n ≤ 1000000) (hw : Pts w b off n l) (hp : polyI l ≠ 0) : Calls Tryz.prog 48 #[.slice (some ⟨b, off, none⟩) n c] w fun en w' => en = .returned (.bool false) ∧ New w w' := by
  have HP := Lib.hid (normal_no b off n c l w h0 hl hw hp)
  have hq1 : (polyI l == 0) = false := by simpa using hp
  have hq2 : (polyI l != 0) = true := by simpa using hp
  generalize polyI l = E at *
  clear hp hw
  go_enter Tryz.func48, Tryz.ntmps48
  go_wp2_with (go_at_call 50; refine (HP.out).mono ?_; rintro e w2 ⟨rfl, hn⟩; have HN1 := Lib.hid hn; clear hn)
  go_ret; exact ⟨rfl, HN1.out⟩
set_option maxHeartbeats 8000000 in
theorem convex_yes (b off n c : Nat) (l : List P2) (w : World) (h0 : 0 < n) (hl : n ≤ 1000000) (hw : Pts w b off n l) (hp : polyI l = 0) : Calls Tryz.prog 48 #[.slice (some ⟨b, off, none⟩) n c] w fun en w' => en = .returned (.bool (convB (normL l))) ∧ New w w' := by
  obtain ⟨_, hB, _⟩ := area_bends hp
  obtain ⟨hok, hlen⟩ := okL_norm hp
  have HP := Lib.hid (normal_yes b off n c l w h0 hl hw hp hB)
  have HBD := Lib.hid (bdL_of_ok hok)
  have HCV := Lib.hid (convB_iff (normL l))
  have hm5 : (normB l).length ≤ 1000000 := by have := bendsTo_le l l.length l.length; unfold normB; rw [hw.1] at *; omega
  rw [← hlen] at HP hB hm5
  clear hw hp hok hlen
  generalize normL l = M at *
  generalize hmm : M.length = m at *
  have HM := Lib.hid hmm
  clear hmm
  go_enter Tryz.func48, Tryz.ntmps48
  go_wp2_with (go_at_call 50; refine (HP.out).mono ?_; rintro e w1 ⟨g, cap, rfl, ho, hn⟩; have HO := Lib.hid (pts_own ho HM.out); have HN1 := Lib.hid hn; clear hn ho)
  go_loopw [18] (fun i wr => ∃ k : Nat, k ≤ m ∧ i = .int .i64 k ∧ (∀ j, j < k → turnAt M m j = 1) ∧ New w1 wr) (fun i _ => m - (intOf i).toNat)
  case atStart => exact ⟨0, Nat.zero_le _, rfl, fun j hj => absurd hj (Nat.not_lt_zero _), New.refl _⟩
  case round =>
    obtain ⟨k, hk, rfl, hall, pr, rfl⟩ := hrel
    have HALL := Lib.hid hall
    clear hall
    by_cases hlt : k < m
    · have g1 := HBD.out k
      have g2 := HBD.out ((k + m - 1) % m)
      have g3 := HBD.out ((k + 1) % m)
      have HAR := Lib.hid (fun (w2 : World) (h : New w1 w2) => around_c g 0 m cap k M w2 hlt hm5 (HO.out.new h))
      have HTA := Lib.hid (show turnAt M m k = turnI (px M ((k + m - 1) % m)) (py M ((k + m - 1) % m)) (px M k) (py M k) (px M ((k + 1) % m)) (py M ((k + 1) % m)) from rfl)
      have HTU := Lib.hid (fun w2 : World => turn_c (px M ((k + m - 1) % m)) (py M ((k + m - 1) % m)) (px M k) (py M k) (px M ((k + 1) % m)) (py M ((k + 1) % m)) w2 (by omega) (by omega) (by omega) (by omega) (by omega) (by omega))
      generalize px M ((k + m - 1) % m) = A1 at *
      generalize py M ((k + m - 1) % m) = A2 at *
      generalize px M k = B1 at *
      generalize py M k = B2 at *
      generalize px M ((k + 1) % m) = C1 at *
      generalize py M ((k + 1) % m) = C2 at *
      generalize turnI A1 A2 B1 B2 C1 C2 = T at *
      clear g1 g2 g3
      have hkm : (k : Int) < (m : Int) := by omega
      by_cases ht : T = 1
      · subst ht
        go_wp2_with (first | (go_at_call 111; refine (HAR.out _ (by (repeat (first | exact New.refl _ | apply New.alloc | apply New.aft | apply New.drew | refine New.setCell ?_ ?_ _)); all_goals (first | done | (simp [size_aft]; done) | (simp [size_aft]; omega)))).mono ?_; rintro e w2 ⟨rfl, pw, rfl⟩) | (go_at_call 85; refine (HTU.out _).mono ?_; rintro e w3 ⟨rfl, pv3, rfl⟩))
        go_roundw
        case rel => exact ⟨k + 1, by omega, by go_num, fun j hj => by
            by_cases e : j = k
            · subst e; exact HTA.out
            · exact HALL.out j (by omega), by (repeat (first | exact New.refl _ | apply New.alloc | apply New.aft | apply New.drew | refine New.setCell ?_ ?_ _)); all_goals (first | done | (simp [size_aft]; done) | (simp [size_aft]; omega))⟩
        case measure => simp [intOf]; omega
      · have t1 : (T == 1) = false := by simpa using ht
        have t2 : (T != 1) = true := by simpa using ht
        have HV := Lib.hid (show false = convB M by
          cases hc : convB M
          · rfl
          · exact absurd (HTA.out.symm.trans (HCV.out.1 hc k hlt)) ht)
        clear ht
        go_wp2_with (first | (go_at_call 111; refine (HAR.out _ (by (repeat (first | exact New.refl _ | apply New.alloc | apply New.aft | apply New.drew | refine New.setCell ?_ ?_ _)); all_goals (first | done | (simp [size_aft]; done) | (simp [size_aft]; omega)))).mono ?_; rintro e w2 ⟨rfl, pw, rfl⟩) | (go_at_call 85; refine (HTU.out _).mono ?_; rintro e w3 ⟨rfl, pv3, rfl⟩))
        go_ret
        exact ⟨ret_bool HV.out, HN1.out.trans (by (repeat (first | exact New.refl _ | apply New.alloc | apply New.aft | apply New.drew | refine New.setCell ?_ ?_ _)); all_goals (first | done | (simp [size_aft]; done) | (simp [size_aft]; omega)))⟩
    · have hkm : ¬ (k : Int) < (m : Int) := by omega
      have HV := Lib.hid (show true = convB M from (HCV.out.2 fun j hj => HALL.out j (by omega)).symm)
      go_wp2_with fail
      go_ret
      exact ⟨ret_bool HV.out, HN1.out.trans (by (repeat (first | exact New.refl _ | apply New.alloc | apply New.aft | apply New.drew | refine New.setCell ?_ ?_ _)); all_goals (first | done | (simp [size_aft]; done) | (simp [size_aft]; omega)))⟩

end Go.Proofs.YtpdfbboagaflhaaGreat

set_option linter.unusedSimpArgs false
set_option linter.unusedVariables false
set_option maxRecDepth 100000
namespace Go.Proofs.YtpdfbboagaflhaaGreat
open Go.RowKit

set_option maxHeartbeats 4000000 in
theorem ref_convex_nil (v : Option Addr) (c : Nat) (w : World) : Calls Tryz.prog 49 #[.slice v 0 c] w fun en w' => en = .returned (.bool false) ∧ New w w' := by
  have HP := Lib.hid (show ∀ w1 : World, Calls Tryz.prog 51 #[.slice v 0 c] w1 fun en w' => en = .returned (.tuple #[.slice none 0 0, .int .i64 1]) ∧ New w1 w' from fun w1 => by
    have HC := Lib.hid (fun w1 : World => ref_checkPoly_nil v c w1)
    go_enter Tryz.func51, Tryz.ntmps51
    go_wp2_with (go_at_call 45; refine (HC.out _).mono ?_; rintro e w2 ⟨rfl, hn⟩; have HN1 := Lib.hid hn; clear hn)
    go_ret2; exact ⟨rfl, HN1.out⟩)
  go_enter Tryz.func49, Tryz.ntmps49
  go_wp2_with (go_at_call 51; refine (HP.out _).mono ?_; rintro e w2 ⟨rfl, hn⟩; have HN1 := Lib.hid hn; clear hn)
  go_ret; exact ⟨rfl, HN1.out⟩
set_option maxHeartbeats 4000000 in
theorem ref_convex_no (b off n c : Nat) (l : List P2) (w : World) (h0 : 0 < n) (hl : n ≤ 1000000) (hw : Pts w b off n l) (hp : polyI l ≠ 0) : Calls Tryz.prog 49 #[.slice (some ⟨b, off, none⟩) n c] w fun en w' => en = .returned (.bool false) ∧ New w w' := by
  have HP := Lib.hid (ref_normal_no b off n c l w h0 hl hw hp)
  have hq1 : (polyI l == 0) = false := by simpa using hp
  have hq2 : (polyI l != 0) = true := by simpa using hp
  generalize polyI l = E at *
  clear hp hw
  go_enter Tryz.func49, Tryz.ntmps49
  go_wp2_with (go_at_call 51; refine (HP.out).mono ?_; rintro e w2 ⟨rfl, hn⟩; have HN1 := Lib.hid hn; clear hn)
  go_ret; exact ⟨rfl, HN1.out⟩
theorem refN_ok {l : List P2} (h : polyI l = 0) : okL (refN l) = true ∧ 0 < (refN l).length ∧ (refN l).length ≤ 200 := by
  obtain ⟨_, h2, _⟩ := area_bends h
  obtain ⟨h4, h5⟩ := okL_norm h
  obtain ⟨g1, _, _, _⟩ := polyI_ok h
  obtain ⟨g5, _⟩ := ckPts_zero g1
  rw [norm_eq h]
  have h3 : (normB l).length ≤ l.length := bendsTo_le l l.length l.length
  exact ⟨h4, by omega, by omega⟩
theorem convR_iff (m : List P2) : convR m = true ↔ ∀ k, k < m.length → 0 < turnI (px m k) (py m k) (px m ((k + 1) % m.length)) (py m ((k + 1) % m.length)) (px m ((k + 2) % m.length)) (py m ((k + 2) % m.length)) := by
  unfold convR; simp
set_option maxHeartbeats 8000000 in
theorem ref_convex_yes (b off n c : Nat) (l : List P2) (w : World) (h0 : 0 < n) (hw : Pts w b off n l) (hp : polyI l = 0) : Calls Tryz.prog 49 #[.slice (some ⟨b, off, none⟩) n c] w fun en w' => en = .returned (.bool (convB (normL l))) ∧ New w w' := by
  obtain ⟨hok, hpos, hle⟩ := refN_ok hp
  have HP := Lib.hid (ref_normal_yes b off n c l w h0 hw hp)
  have HLR := Lib.hid (show ∀ w w' en, ListR w w' en (refN l) → ∃ v, en = .returned (.tuple #[v, .int .i64 0]) ∧ PtsR w' v (refN l) ∧ New w w' from fun _ _ _ h => h)
  have HBD := Lib.hid (okL_bd hok)
  have HCV := Lib.hid (convR_iff (refN l))
  rw [← norm_eq hp, ← conv_eq]
  clear hw hp hok
  generalize refN l = M at *
  generalize hmm : M.length = m at *
  have HM := Lib.hid hmm
  clear hmm
  have hnz : (m = 0) = False := eq_false (by omega)
  go_enter Tryz.func49, Tryz.ntmps49
  go_wp2_with (go_at_call 51; refine (HP.out).mono ?_; rintro e w1 hh; obtain ⟨r, rfl, hr, hn⟩ := HLR.out _ _ _ hh; obtain ⟨av, cap, rfl, hr2⟩ := hr; obtain ⟨g, rfl, hg⟩ := hr2 (by rw [HM.out]; exact hpos); rw [HM.out] at hg; rw [HM.out]; have HO := Lib.hid hg; have HN1 := Lib.hid hn; clear hn hg hr2 hh)
  go_loopw [6] (fun i wr => ∃ k : Nat, k ≤ m ∧ i = .int .i64 k ∧ (∀ j, j < k → 0 < turnI (px M j) (py M j) (px M ((j + 1) % m)) (py M ((j + 1) % m)) (px M ((j + 2) % m)) (py M ((j + 2) % m))) ∧ New w1 wr) (fun i _ => m - (intOf i).toNat)
  case atStart => exact ⟨0, Nat.zero_le _, rfl, fun j hj => absurd hj (Nat.not_lt_zero _), New.refl _⟩
  case round =>
    obtain ⟨k, hk, rfl, hall, hnew⟩ := hrel
    have HALL := Lib.hid hall
    have HNK := Lib.hid hnew
    clear hall hnew
    obtain ⟨wo, rfl⟩ : ∃ wo : World, wo = wr := ⟨_, rfl⟩
    by_cases hlt : k < m
    · obtain ⟨_, hb2, hcell⟩ := HO.out.new HNK.out
      have j1 : (k + 1) % m < m := Nat.mod_lt _ hpos
      have j2 : (k + 2) % m < m := Nat.mod_lt _ hpos
      obtain ⟨c1, c2⟩ := hcell k hlt
      obtain ⟨c3, c4⟩ := hcell _ j1
      obtain ⟨c5, c6⟩ := hcell _ j2
      simp only [Nat.zero_add] at c1 c2 c3 c4 c5 c6
      clear hcell
      have m1 := tm_nat (k + 1) m ((k : Int) + 1) (by omega)
      have m2 := tm_nat (k + 2) m ((k : Int) + 2) (by omega)
      have x1 : IntKind.i64.wrap ((k : Int) + 1) = (k : Int) + 1 := IntWalk.i64_in _ (by omega)
      have x2 : IntKind.i64.wrap ((k : Int) + 2) = (k : Int) + 2 := IntWalk.i64_in _ (by omega)
      have b0 := HBD.out k
      have b1 := HBD.out ((k + 1) % m)
      have b2 := HBD.out ((k + 2) % m)
      have HTU := Lib.hid (fun w2 : World => ref_turn (px M k) (py M k) (px M ((k + 1) % m)) (py M ((k + 1) % m)) (px M ((k + 2) % m)) (py M ((k + 2) % m)) w2 (by omega) (by omega) (by omega) (by omega) (by omega) (by omega))
      have HTV := Lib.hid (show ∀ P : Prop, (0 < turnI (px M k) (py M k) (px M ((k + 1) % m)) (py M ((k + 1) % m)) (px M ((k + 2) % m)) (py M ((k + 2) % m)) → P) ↔ (0 < turnI (px M k) (py M k) (px M ((k + 1) % m)) (py M ((k + 1) % m)) (px M ((k + 2) % m)) (py M ((k + 2) % m)) → P) from fun _ => Iff.rfl)
      have HCK := Lib.hid (fun (h : convR M = true) => HCV.out.1 h k hlt)
      have HAK := Lib.hid (show 0 < turnI (px M k) (py M k) (px M ((k + 1) % m)) (py M ((k + 1) % m)) (px M ((k + 2) % m)) (py M ((k + 2) % m)) → ∀ j, j < k + 1 → 0 < turnI (px M j) (py M j) (px M ((j + 1) % m)) (py M ((j + 1) % m)) (px M ((j + 2) % m)) (py M ((j + 2) % m)) from fun h j hj => by
        by_cases e : j = k
        · subst e; exact h
        · exact HALL.out j (by omega))
      clear b0 b1 b2 HTV
      generalize hT : turnI (px M k) (py M k) (px M ((k + 1) % m)) (py M ((k + 1) % m)) (px M ((k + 2) % m)) (py M ((k + 2) % m)) = T at *
      clear hT
      generalize (k + 1) % m = i1 at *
      generalize (k + 2) % m = i2 at *
      generalize px M k = X0 at *
      generalize py M k = Y0 at *
      generalize px M i1 = X1 at *
      generalize py M i1 = Y1 at *
      generalize px M i2 = X2 at *
      generalize py M i2 = Y2 at *
      by_cases ht : T ≤ 0
      · have HV := Lib.hid (show false = convR M by
          cases hc : convR M
          · rfl
          · exact absurd (HCK.out hc) (by omega))
        clear HCK HAK
        go_wp2_with fail
        first | refine wp_region_at2 (by kernel_rfl) (by kernel_rfl) ?_ | refine wp_region_at (by kernel_rfl) (by kernel_rfl) ?_
        repeat (go_big_quiet_step (first | (go_at_call 87; (with_reducible exact calls_new (HTU.out _)))))
        refine wpQuiet_nil ?_
        rintro _ ⟨q0, rfl⟩
        go_wp2_with fail
        go_ret
        exact ⟨ret_bool HV.out, HN1.out.trans (HNK.out.trans (by (repeat (first | exact New.refl _ | apply New.alloc | apply New.aft | apply New.drew | refine New.setCell ?_ ?_ _)); all_goals (first | done | (simp [size_aft]; done) | (simp [size_aft]; omega))))⟩
      · have HAL2 := Lib.hid (HAK.out (by omega))
        clear HCK HAK
        go_wp2_with fail
        first | refine wp_region_at2 (by kernel_rfl) (by kernel_rfl) ?_ | refine wp_region_at (by kernel_rfl) (by kernel_rfl) ?_
        repeat (go_big_quiet_step (first | (go_at_call 87; (with_reducible exact calls_new (HTU.out _)))))
        refine wpQuiet_nil ?_
        rintro _ ⟨q0, rfl⟩
        go_wp2_with fail
        go_roundw
        case rel => exact ⟨k + 1, by omega, by go_num, HAL2.out, HNK.out.trans (by (repeat (first | exact New.refl _ | apply New.alloc | apply New.aft | apply New.drew | refine New.setCell ?_ ?_ _)); all_goals (first | done | (simp [size_aft]; done) | (simp [size_aft]; omega)))⟩
        case measure => simp [intOf]; omega
    · have hkm : ¬ (k : Int) < (m : Int) := by omega
      have HV := Lib.hid (show true = convR M from (HCV.out.2 fun j hj => HALL.out j (by omega)).symm)
      go_wp2_with fail
      go_ret
      exact ⟨ret_bool HV.out, HN1.out.trans HNK.out⟩

end Go.Proofs.YtpdfbboagaflhaaGreat

set_option linter.unusedSimpArgs false
set_option linter.unusedVariables false
set_option maxRecDepth 100000
namespace Go.Proofs.YtpdfbboagaflhaaGreat
open Go.RowKit

set_option maxHeartbeats 4000000 in
theorem edges_nil (v : Option Addr) (c : Nat) (w : World) : Calls Tryz.prog 109 #[.slice v 0 c] w fun en w' => ∃ g cap, en = .returned (.slice (some ⟨g, 0, none⟩) 0 cap) ∧ New w w' := by
  obtain ⟨i0, hi, hz0, hz1, hz2⟩ := info_parts info30
  have hmk : ∀ w : World, (Instr.makeSlice 58 (.int .i64 0) (.int .i64 0)).run Tryz.prog w = .ok (.slice (some ⟨w.heap.size, 0, none⟩) 0 0) (w.alloc (.cells (madeCells (.agg #[.int .i64 0, .int .i64 0, .int .i64 0, .int .i64 0] : Value).cells (0 * 4)) 30)) := by
    intro w
    have := run_make (P := Tryz.prog) w 58 30 i0 _ Tryz.underlying58 hi hz0 .i64 .i64 0 0 (by omega) (by omega) (by rw [hz2]; omega) (by omega)
    rw [hz1] at this
    simpa using this
  go_enter Tryz.func109, Tryz.ntmps109
  go_wp2_with fail
  go_loopw [3, 11] (fun v i wr => (v = .slice (some ⟨w.heap.size, 0, none⟩) 0 0 ∧ i = .int .i64 0) ∧ New w wr) (fun _ _ _ => 0)
  case atStart => exact ⟨⟨rfl, rfl⟩, (New.refl _).alloc _⟩
  case round =>
    obtain ⟨⟨rfl, rfl⟩, hn⟩ := hrel
    have HN := Lib.hid hn
    clear hn
    go_wp2_with fail
    go_ret; exact ⟨_, _, rfl, HN.out⟩
set_option maxHeartbeats 4000000 in
theorem area2_nil (v : Option Addr) (c : Nat) (w : World) : Calls Tryz.prog 46 #[.slice v 0 c] w fun en w' => en = .returned (.int .i64 0) ∧ New w w' := by
  have HC := Lib.hid (fun w1 : World => checkPoints_nil v c 400 (by omega) w1)
  have HE := Lib.hid (fun w1 : World => edges_nil v c w1)
  go_enter Tryz.func46, Tryz.ntmps46
  go_wp2_with (first | (go_at_call 84; refine (HC.out _).mono ?_; rintro e w1 ⟨rfl, hn⟩; have HN1 := Lib.hid hn; clear hn) | (go_at_call 109; refine (HE.out _).mono ?_; rintro e w2 ⟨g, cap, rfl, hn⟩; have HN2 := Lib.hid (HN1.out.trans hn); clear hn))
  go_loopw [3, 12] (fun s i wr => (s = .int .i64 0 ∧ i = .int .i64 0) ∧ New w2 wr) (fun _ _ _ => 0)
  case atStart => exact ⟨⟨rfl, rfl⟩, New.refl _⟩
  case round =>
    obtain ⟨⟨rfl, rfl⟩, hn⟩ := hrel
    have HN := Lib.hid (HN2.out.trans hn)
    clear hn
    go_wp2_with fail
    go_ret; exact ⟨rfl, HN.out⟩
set_option maxHeartbeats 4000000 in
theorem ref_area2_nil (v : Option Addr) (c : Nat) (w : World) : Calls Tryz.prog 47 #[.slice v 0 c] w fun en w' => en = .returned (.int .i64 0) ∧ New w w' := by
  have HA := Lib.hid (fun w1 : World => ref_allValid_nil w1 v c)
  go_enter Tryz.func47, Tryz.ntmps47
  go_wp2_with (go_at_call 104; refine (HA.out _).mono ?_; rintro e w1 ⟨rfl, hn⟩; have HN1 := Lib.hid hn; clear hn)
  go_loopw [4, 5] (fun s i wr => (s = .int .i64 0 ∧ i = .int .i64 0) ∧ New w1 wr) (fun _ _ _ => 0)
  case atStart => exact ⟨⟨rfl, rfl⟩, New.refl _⟩
  case round =>
    obtain ⟨⟨rfl, rfl⟩, hn⟩ := hrel
    have HN := Lib.hid (HN1.out.trans hn)
    clear hn
    go_wp2_with fail
    go_ret; exact ⟨rfl, HN.out⟩

set_option maxHeartbeats 4000000 in
theorem polys_long (v : Option Addr) (n c : Nat) (w : World) (hn : (60 < n ∧ n ≤ 200) ∨ 500 < n) : Calls Tryz.prog 8 #[.slice v n c] w fun e w' => e = .returned (.bool true) ∧ New w w' := by
  have HL := Lib.hid alive_c
  rcases hn with ⟨h1, h2⟩ | h1
  · have k1 : (60 : Int) < (n : Int) := by omega
    have k2 : (n : Int) ≤ 200 := by omega
    clear h1 h2
    go_enter Tryz.func8, Tryz.ntmps8
    go_wp2_with (go_at_call 31; refine (HL.out _).mono ?_; rintro e w1 ⟨rfl, pw, rfl⟩)
    all_goals (go_ret; refine ⟨ret_bool (by simp), ?_⟩; (repeat (first | exact New.refl _ | apply New.alloc | apply New.aft | apply New.drew | refine New.setCell ?_ ?_ _)); all_goals (first | done | (simp [size_aft]; done) | (simp [size_aft]; omega)))
  · have k1 : (60 : Int) < (n : Int) := by omega
    have k2 : ¬ (n : Int) ≤ 200 := by omega
    have k3 : (500 : Int) < (n : Int) := by omega
    clear h1
    go_enter Tryz.func8, Tryz.ntmps8
    go_wp2_with (go_at_call 31; refine (HL.out _).mono ?_; rintro e w1 ⟨rfl, pw, rfl⟩)
    all_goals (go_ret; refine ⟨ret_bool (by simp), ?_⟩; (repeat (first | exact New.refl _ | apply New.alloc | apply New.aft | apply New.drew | refine New.setCell ?_ ?_ _)); all_goals (first | done | (simp [size_aft]; done) | (simp [size_aft]; omega)))

set_option maxHeartbeats 4000000 in
theorem polys_of (v : Option Addr) (n c : Nat) (E S : Int) (B : Bool) (w : World) (hn : n ≤ 60 ∨ 200 < n) (hn5 : n ≤ 500)
    (H1 : Hid (∀ w1 : World, New w w1 → Calls Tryz.prog 44 #[.slice v n c] w1 fun en w' => en = .returned (.int .i64 E) ∧ New w1 w'))
    (H2 : Hid (∀ w1 : World, New w w1 → Calls Tryz.prog 45 #[.slice v n c] w1 fun en w' => en = .returned (.int .i64 E) ∧ New w1 w'))
    (H3 : Hid (∀ w1 : World, New w w1 → Calls Tryz.prog 46 #[.slice v n c] w1 fun en w' => en = .returned (.int .i64 S) ∧ New w1 w'))
    (H4 : Hid (∀ w1 : World, New w w1 → Calls Tryz.prog 47 #[.slice v n c] w1 fun en w' => en = .returned (.int .i64 S) ∧ New w1 w'))
    (H5 : Hid (∀ w1 : World, New w w1 → Calls Tryz.prog 48 #[.slice v n c] w1 fun en w' => en = .returned (.bool B) ∧ New w1 w'))
    (H6 : Hid (∀ w1 : World, New w w1 → Calls Tryz.prog 49 #[.slice v n c] w1 fun en w' => en = .returned (.bool B) ∧ New w1 w')) :
    Calls Tryz.prog 8 #[.slice v n c] w fun e w' => e = .returned (.bool true) ∧ New w w' := by
  have HL := Lib.hid alive_c
  have hE : (E == E) = true := by simp
  have hS : (S == S) = true := by simp
  rcases hn with h1 | h1
  · have k1 : ¬ (60 : Int) < (n : Int) := by omega
    have k3 : ¬ (500 : Int) < (n : Int) := by omega
    clear h1 hn5
    cases B
    · go_enter Tryz.func8, Tryz.ntmps8
      go_wp2_with (first | (go_at_call 31; refine (HL.out _).mono ?_; rintro e w1 ⟨rfl, hn⟩; have N1 := Lib.hid hn; clear hn) | (go_at_call 44; refine (H1.out _ N1.out).mono ?_; rintro e w2 ⟨rfl, hn⟩; have N2 := Lib.hid (N1.out.trans hn); clear hn) | (go_at_call 45; refine (H2.out _ N2.out).mono ?_; rintro e w3 ⟨rfl, hn⟩; have N3 := Lib.hid (N2.out.trans hn); clear hn) | (go_at_call 46; refine (H3.out _ N3.out).mono ?_; rintro e w4 ⟨rfl, hn⟩; have N4 := Lib.hid (N3.out.trans hn); clear hn) | (go_at_call 47; refine (H4.out _ N4.out).mono ?_; rintro e w5 ⟨rfl, hn⟩; have N5 := Lib.hid (N4.out.trans hn); clear hn) | (go_at_call 48; refine (H5.out _ N5.out).mono ?_; rintro e w6 ⟨rfl, hn⟩; have N6 := Lib.hid (N5.out.trans hn); clear hn) | (go_at_call 49; refine (H6.out _ N6.out).mono ?_; rintro e w7 ⟨rfl, hn⟩; have N7 := Lib.hid (N6.out.trans hn); clear hn))
      all_goals (go_ret; exact ⟨ret_bool (by simp), N7.out⟩)
    · go_enter Tryz.func8, Tryz.ntmps8
      go_wp2_with (first | (go_at_call 31; refine (HL.out _).mono ?_; rintro e w1 ⟨rfl, hn⟩; have N1 := Lib.hid hn; clear hn) | (go_at_call 44; refine (H1.out _ N1.out).mono ?_; rintro e w2 ⟨rfl, hn⟩; have N2 := Lib.hid (N1.out.trans hn); clear hn) | (go_at_call 45; refine (H2.out _ N2.out).mono ?_; rintro e w3 ⟨rfl, hn⟩; have N3 := Lib.hid (N2.out.trans hn); clear hn) | (go_at_call 46; refine (H3.out _ N3.out).mono ?_; rintro e w4 ⟨rfl, hn⟩; have N4 := Lib.hid (N3.out.trans hn); clear hn) | (go_at_call 47; refine (H4.out _ N4.out).mono ?_; rintro e w5 ⟨rfl, hn⟩; have N5 := Lib.hid (N4.out.trans hn); clear hn) | (go_at_call 48; refine (H5.out _ N5.out).mono ?_; rintro e w6 ⟨rfl, hn⟩; have N6 := Lib.hid (N5.out.trans hn); clear hn) | (go_at_call 49; refine (H6.out _ N6.out).mono ?_; rintro e w7 ⟨rfl, hn⟩; have N7 := Lib.hid (N6.out.trans hn); clear hn))
      all_goals (go_ret; exact ⟨ret_bool (by simp), N7.out⟩)
  · have k1 : (60 : Int) < (n : Int) := by omega
    have k2 : ¬ (n : Int) ≤ 200 := by omega
    have k3 : ¬ (500 : Int) < (n : Int) := by omega
    clear h1 hn5
    cases B
    · go_enter Tryz.func8, Tryz.ntmps8
      go_wp2_with (first | (go_at_call 31; refine (HL.out _).mono ?_; rintro e w1 ⟨rfl, hn⟩; have N1 := Lib.hid hn; clear hn) | (go_at_call 44; refine (H1.out _ N1.out).mono ?_; rintro e w2 ⟨rfl, hn⟩; have N2 := Lib.hid (N1.out.trans hn); clear hn) | (go_at_call 45; refine (H2.out _ N2.out).mono ?_; rintro e w3 ⟨rfl, hn⟩; have N3 := Lib.hid (N2.out.trans hn); clear hn) | (go_at_call 46; refine (H3.out _ N3.out).mono ?_; rintro e w4 ⟨rfl, hn⟩; have N4 := Lib.hid (N3.out.trans hn); clear hn) | (go_at_call 47; refine (H4.out _ N4.out).mono ?_; rintro e w5 ⟨rfl, hn⟩; have N5 := Lib.hid (N4.out.trans hn); clear hn) | (go_at_call 48; refine (H5.out _ N5.out).mono ?_; rintro e w6 ⟨rfl, hn⟩; have N6 := Lib.hid (N5.out.trans hn); clear hn) | (go_at_call 49; refine (H6.out _ N6.out).mono ?_; rintro e w7 ⟨rfl, hn⟩; have N7 := Lib.hid (N6.out.trans hn); clear hn))
      all_goals (go_ret; exact ⟨ret_bool (by simp), N7.out⟩)
    · go_enter Tryz.func8, Tryz.ntmps8
      go_wp2_with (first | (go_at_call 31; refine (HL.out _).mono ?_; rintro e w1 ⟨rfl, hn⟩; have N1 := Lib.hid hn; clear hn) | (go_at_call 44; refine (H1.out _ N1.out).mono ?_; rintro e w2 ⟨rfl, hn⟩; have N2 := Lib.hid (N1.out.trans hn); clear hn) | (go_at_call 45; refine (H2.out _ N2.out).mono ?_; rintro e w3 ⟨rfl, hn⟩; have N3 := Lib.hid (N2.out.trans hn); clear hn) | (go_at_call 46; refine (H3.out _ N3.out).mono ?_; rintro e w4 ⟨rfl, hn⟩; have N4 := Lib.hid (N3.out.trans hn); clear hn) | (go_at_call 47; refine (H4.out _ N4.out).mono ?_; rintro e w5 ⟨rfl, hn⟩; have N5 := Lib.hid (N4.out.trans hn); clear hn) | (go_at_call 48; refine (H5.out _ N5.out).mono ?_; rintro e w6 ⟨rfl, hn⟩; have N6 := Lib.hid (N5.out.trans hn); clear hn) | (go_at_call 49; refine (H6.out _ N6.out).mono ?_; rintro e w7 ⟨rfl, hn⟩; have N7 := Lib.hid (N6.out.trans hn); clear hn))
      all_goals (go_ret; exact ⟨ret_bool (by simp), N7.out⟩)

theorem planePolys_all (w : World) (av : Option Addr) (n c : Nat) (l : List P2) (hl : l.length = n) (hp : 0 < n → ∃ b off, av = some ⟨b, off, none⟩ ∧ Pts w b off n l) : Calls Tryz.prog 8 #[.slice av n c] w fun e w' => e = .returned (.bool true) ∧ New w w' := by
  by_cases h : (60 < n ∧ n ≤ 200) ∨ 500 < n
  · exact polys_long av n c w h
  · by_cases h0 : 0 < n
    · obtain ⟨b, off, rfl, hw⟩ := hp h0
      have hn6 : n ≤ 1000000 := by omega
      refine polys_of _ n c (polyI l) (areaI l) (convV l) w (by omega) (by omega) (Lib.hid fun w1 h1 => checkPoly_c b off n c l w1 h0 hn6 (hw.new h1)) (Lib.hid fun w1 h1 => ref_checkPoly b off n c l w1 h0 hn6 (hw.new h1))
        (Lib.hid fun w1 h1 => area2_c b off n c l w1 h0 hn6 (hw.new h1)) (Lib.hid fun w1 h1 => ref_area2 b off n c l w1 hn6 (hw.new h1)) (Lib.hid fun w1 h1 => ?_) (Lib.hid fun w1 h1 => ?_)
      · unfold convV
        split
        next hpo => exact convex_yes b off n c l w1 h0 hn6 (hw.new h1) hpo
        next hpo => exact convex_no b off n c l w1 h0 hn6 (hw.new h1) hpo
      · unfold convV
        split
        next hpo => exact ref_convex_yes b off n c l w1 h0 (hw.new h1) hpo
        next hpo => exact ref_convex_no b off n c l w1 h0 hn6 (hw.new h1) hpo
    · obtain rfl : n = 0 := by omega
      exact polys_of av 0 c 1 0 false w (by omega) (by omega) (Lib.hid fun w1 _ => checkPoly_nil av c w1) (Lib.hid fun w1 _ => ref_checkPoly_nil av c w1) (Lib.hid fun w1 _ => area2_nil av c w1) (Lib.hid fun w1 _ => ref_area2_nil av c w1) (Lib.hid fun w1 _ => convex_nil av c w1) (Lib.hid fun w1 _ => ref_convex_nil av c w1)

end Go.Proofs.YtpdfbboagaflhaaGreat

set_option linter.unusedSimpArgs false
set_option linter.unusedVariables false
set_option linter.constructorNameAsVariable false
namespace Go.Proofs.YtpdfbboagaflhaaGreat
open Go.ChangeShapes Go.WideShapes Go.ChangeAt Go.RowKit Go.Joins
set_option maxRecDepth 100000

theorem jPo_wf : Rows.planePolysRow.wf (OpenSpec.ofChange Rows.planePolysSpec) = true := by kernel_rfl
theorem jPo_par : Tryz.f8.params.all (Tryz.prog.readableRec ·) = true := by kernel_rfl
theorem jPo_tie : namedTie Tryz.prog Rows.planePolysRow.named Rows.planePolysSpec.vars = true := by kernel_rfl
theorem jPo_st : (Rows.planePolysRow.stops == []) = true := by kernel_rfl
theorem jPo_kn : (Rows.planePolysRow.knobs == []) = true := by kernel_rfl
theorem jPo_inp : (Rows.planePolysRow.inPlace == Tryz.prog.inPlace 8) = true := by kernel_rfl
theorem jPo_unf : (Rows.planePolysRow.unfollowed == Tryz.prog.unfollowed 8) = true := by kernel_rfl
theorem jPo_rec : (Rows.planePolysRow.recurses == Tryz.prog.recurses 8) = true := by kernel_rfl
theorem jPo_nam : (Rows.planePolysRow.named == Tryz.prog.varsNamed 8) = true := by kernel_rfl
theorem jPo_maps : (Rows.planePolysRow.maps == (Tryz.f8.params.toList ++ Rows.planePolysSpec.plain.varTypes Tryz.prog).any (Tryz.prog.mapsRec ·)) = true := by kernel_rfl
theorem jPo_ifs : (Rows.planePolysRow.ifaces == (Tryz.f8.params.toList ++ Rows.planePolysSpec.plain.varTypes Tryz.prog).any (Tryz.prog.ifacesRec ·)) = true := by kernel_rfl
theorem jPo_mout : (Rows.planePolysRow.mapsOut == Tryz.prog.mapsAmong Tryz.f8.resultTypes.toList) = true := by kernel_rfl
theorem jPo_loops : (Rows.planePolysRow.loops == (Tryz.f8.params.toList ++ Rows.planePolysSpec.plain.varTypes Tryz.prog).any (Tryz.prog.loopsFrom ·)) = true := by kernel_rfl
theorem jPo_wide : (Rows.planePolysRow.wideKeys == (Tryz.f8.params.toList ++ Rows.planePolysSpec.plain.varTypes Tryz.prog ++ Tryz.f8.resultTypes.toList).any (Tryz.prog.wideKeysFrom ·)) = true := by kernel_rfl
theorem jPo_vars : Rows.planePolysSpec.vars.all (Tryz.prog.varReadable ·) = true := by kernel_rfl
theorem jPo_res : Tryz.f8.resultTypes.all (fun t => Tryz.prog.readableRec t && decide (t < Tryz.prog.types.size)) = true := by kernel_rfl
theorem jPo_iout : (Rows.planePolysRow.ifacesOut == Tryz.f8.resultTypes.toList.any (Tryz.prog.ifacesRec ·)) = true := by kernel_rfl
theorem jPo_lout : (Rows.planePolysRow.loopsOut == Tryz.f8.resultTypes.toList.any (Tryz.prog.loopsFrom ·)) = true := by kernel_rfl
theorem jPo_plain : (Rows.planePolysRow.plainKeys == Tryz.prog.plainKeys) = true := by kernel_rfl
theorem jPo_short : Rows.planePolysRow.shortTexts.isNone = true := by kernel_rfl
theorem jPo_lift0 : (Rows.planePolysRow.lifted == false) = true := by kernel_rfl
theorem jPo_lift : (Rows.planePolysRow.lifted == Tryz.prog.liftsFinal) = true := (congrArg (fun b => (Rows.planePolysRow.lifted == b)) lift_is).trans jPo_lift0
theorem jPo_make0 : (some Make.cut == some Rows.planePolysRow.make) = true := by kernel_rfl
theorem jPo_make : (Tryz.prog.make == some Rows.planePolysRow.make) = true := (congrArg (fun b => (b == some Rows.planePolysRow.make)) make_is).trans jPo_make0
theorem jPo_kinds : (Rows.planePolysRow.kinds == (if Rows.planePolysRow.domain.isEmpty then [] else Tryz.f8.params.toList.map fun t => match Tryz.prog.underlying t with | some (.int k) => some k | _ => none)) = true := by kernel_rfl
theorem jPo_pin : (Rows.planePolysRow.pinned == Rows.planePolysRow.pinnedBy) = true := by kernel_rfl
theorem jPo_veil : (Rows.planePolysRow.veiled == (Tryz.f8.params.toList ++ Rows.planePolysSpec.plain.varTypes Tryz.prog ++ Tryz.f8.resultTypes.toList).any (Tryz.prog.veiledRec ·)) = true := by kernel_rfl
theorem jPo_vfit : Rows.planePolysRow.veiledFits Tryz.prog Tryz.f8.params.toList (Tryz.f8.params.toList ++ Rows.planePolysSpec.plain.varTypes Tryz.prog ++ Tryz.f8.resultTypes.toList) = true := by kernel_rfl
theorem jPo_closed : joinedFacts Tryz.prog 8 Tryz.f8 Rows.planePolysSpec Rows.planePolysRow = true := (b_and (b_and (b_and (b_and (b_and (b_and (b_and (b_and (b_and (b_and (b_and (b_and (b_and (b_and (b_and (b_and (b_and (b_and (b_and (b_and (b_and (b_and (b_and (b_and (b_and (b_and (b_and (b_and (b_and (b_and (b_and jPo_wf jp_laid) jp_rowed) jPo_par) jPo_tie) jPo_st) jp_stops) jPo_kn) jp_knobs) jPo_inp) jPo_unf) jPo_rec) jPo_nam) jPo_maps) jPo_ifs) jPo_mout) jPo_loops) jPo_wide) jPo_vars) jPo_res) jPo_iout) jPo_lout) jPo_plain) jPo_short) jp_heard) jp_enter) jPo_lift) jPo_make) jPo_kinds) jPo_pin) jPo_veil) jPo_vfit)
theorem jPo_name : Tryz.prog.funcNamed Rows.planePolysRow.func = some 8 := by kernel_rfl
theorem jPo_inst : Tryz.f8.isInstance Tryz.prog Rows.planePolysRow.origin Rows.planePolysRow.targs := of_decide_eq_true (by kernel_rfl)
theorem jPo_wrap : Tryz.f8.isWrapper Tryz.prog Rows.planePolysRow.wrapper Rows.planePolysRow.mainSum := by unfold Func.isWrapper; rw [if_neg (by decide +kernel)]; exact ⟨rfl, rfl⟩

set_option maxHeartbeats 2000000 in
theorem jPo_lifted (os : Os) (started : os.Started) (H : Type) (enc : TypeId × Value → H) :
    ReturnsInHanded {} Tryz.checked os 8 .any (Rows.planePolysSpec.pre6 enc Tryz.prog Tryz.f8 Rows.planePolysRow.domain false) (Rows.planePolysSpec.post enc Tryz.prog Tryz.f8 false true false false) := by
  refine returnsInHanded_of_change (C := Tryz.checked) own_knob started (by kernel_rfl) Tryz.func8
    (ChangeSpec.witness6 (enc := enc) (C := Tryz.checked) false ⟨#[], #[.slice none 0 0], []⟩ 8 (by kernel_rfl) (by kernel_rfl) (by kernel_rfl) (by kernel_rfl)) ?_
  intro W base args ds gs before hval0 hW hcnd _
  have hval : ∀ (j : Nat) t v, Tryz.f8.params[j]? = some t → args[j]? = some v → Value.okWide Tryz.prog W .any base t v := hval0
  have hW' := hW
  obtain ⟨p, q, hA0, hV, rfl, hfz, hnd⟩ := hW
  have hA : DataW.TrodAll enc Tryz.prog W 0 (fun _ => true) true Tryz.f8.params.toList args.toList ds p := hA0
  rw [Tryz.params8] at hA hval
  obtain ⟨v0, vs0, d0, ds0, p0, q0, hargs, rfl, rfl, h0, r0⟩ := trodAll_cons hA
  obtain ⟨rfl, rfl, rfl⟩ := trodAll_nil r0
  obtain rfl : args = #[v0] := by cases args; simp_all
  obtain ⟨rfl, rfl⟩ := trodVars_none hV
  have hlt : ∀ x ∈ p0, x.block < W.heap.size := fun x hx => hW'.lt x (by simpa using hx)
  have g0 := h0
  obtain ⟨av0, n0, cap0, l0, rfl, hl0, hp0⟩ := open_pts (hval 0 40 v0 rfl rfl) h0
  clear hA0 hval0 hval
  refine (planePolys_all W av0 n0 cap0 l0 hl0 hp0).mono fun e W' ⟨he, hg⟩ => ?_
  subst he
  have t0 := Below.trod laidOut (by kernel_rfl) (of_decide_eq_true (by kernel_rfl)) g0 hg.below (fun x hx => hlt x (by simp [hx]))
  exact ⟨_, rfl, _, _, _, _, _, _, hW', trodAll_cons_mk (shut_bool Tryz.underlying4 _) trodAll_mk0, trodAll_cons_mk t0 trodAll_mk0, rfl, hg.below.frame _, fun h => by cases h⟩

/-- PlanePolys, as it is given -/
theorem planePolys_proved : Rows.PlanePolysSaid :=
  OpenClaim.holds_of_wide 8 Tryz.f8 rfl rfl rfl rfl rfl rfl rfl ⟨rfl, rfl, rfl, rfl, rfl⟩ rfl rfl rfl rfl rfl jPo_name Tryz.func8 jPo_closed jPo_inst jPo_wrap
    (fun os started H enc _ => jPo_lifted os started H enc)

end Go.Proofs.YtpdfbboagaflhaaGreat
