/- Simple polygons: straight corners struck, what CheckPoly accepts, the normal form of turned and reversed lists and of itself. -/
import Derived.Test.YtpdfbboagaflhaaGreatS31

set_option linter.unusedSimpArgs false
set_option linter.unusedVariables false
set_option linter.unusedSectionVars false
namespace Go.Proofs.YtpdfbboagaflhaaGreat
open Go.RowKit

/-- the order of points, forwards (e is 1) or backwards (e is -1) -/
def ky (e : Int) (p : P2) : Int := e * (10001 * p.1 + p.2)
theorem c3_a (e : Int) (s t r p : P2) : (ky e p - ky e t) * c3 s p r = (ky e p - ky e s) * c3 t p r + (ky e p - ky e r) * c3 s p t := by
  simp only [ky, c3]; grind
theorem c3_b (e : Int) (s t r p : P2) : (ky e t - ky e s) * c3 s p r = (ky e r - ky e s) * c3 s p t + (ky e p - ky e s) * c3 s t r := by
  simp only [ky, c3]; grind
theorem c3_c (e : Int) (v u p r : P2) : (ky e v - ky e u) * c3 u p r = -((ky e p - ky e u) * c3 v u r) + (ky e r - ky e u) * c3 v u p := by
  simp only [ky, c3]; grind
theorem c3_d (e : Int) (w v u p : P2) : (ky e u - ky e v) * c3 w v p = -((ky e w - ky e v) * c3 v u p) + (ky e p - ky e v) * c3 w v u := by
  simp only [ky, c3]; grind
theorem c3_sw (s t p : P2) : c3 s p t = - c3 s t p := by simp only [c3]; grind
theorem nn_of {a b : Int} (ha : 0 < a) (h : 0 ≤ a * b) : 0 ≤ b := by
  rcases Int.lt_or_le b 0 with hb | hb
  · have := Int.mul_neg_of_pos_of_neg ha hb; omega
  · exact hb
theorem ps_of {a b : Int} (ha : 0 < a) (h : 0 < a * b) : 0 < b := by
  rcases Int.lt_or_le 0 b with hb | hb
  · exact hb
  · have := Int.mul_nonpos_of_nonneg_of_nonpos (Int.le_of_lt ha) hb; omega
/-- every point of a set is left of each step of a stack, or on it -/
def Good (e : Int) (R : P2 → Prop) : List P2 → Prop
  | t :: s :: rest => ky e s < ky e t ∧ (∀ r, R r → 0 ≤ c3 s t r ∧ (c3 s t r = 0 → ky e s ≤ ky e r ∧ ky e r ≤ ky e t)) ∧ Good e R (s :: rest)
  | _ => True
/-- a stack without the points that do not turn left -/
def popC (p : P2) : List P2 → List P2
  | t :: s :: r => if 0 < c3 s t p then t :: s :: r else popC p (s :: r)
  | o => o
/-- where the stack stops -/
def Stops (p : P2) : List P2 → Prop
  | t :: s :: _ => 0 < c3 s t p
  | _ => True
theorem pop_J (e : Int) (R : P2 → Prop) (p : P2) (hR : ∀ r, R r → ky e r ≤ ky e p) : ∀ (rest : List P2) (t : P2), Good e R (t :: rest) → ky e t < ky e p → (∀ r, R r → ky e t ≤ ky e r → 0 ≤ c3 t p r) →
    ∃ u rest', popC p (t :: rest) = u :: rest' ∧ Good e R (u :: rest') ∧ ky e u < ky e p ∧ (∀ r, R r → ky e u ≤ ky e r → 0 ≤ c3 u p r) ∧ Stops p (u :: rest') ∧ (u :: rest').getLast? = (t :: rest).getLast? ∧ ∀ x, x ∈ u :: rest' → x ∈ t :: rest
  | [], t, hg, ht, hJ => ⟨t, [], rfl, hg, ht, hJ, trivial, rfl, fun x h => h⟩
  | s :: r, t, hg, ht, hJ => by
    by_cases hc : 0 < c3 s t p
    · exact ⟨t, s :: r, by simp [popC, hc], hg, ht, hJ, hc, rfl, fun x h => h⟩
    · obtain ⟨g1, g2, g3⟩ := hg
      have hst : 0 ≤ c3 s p t := by rw [c3_sw]; omega
      obtain ⟨u, rest', a1, a2, a3, a4, a5, a6, a7⟩ := pop_J e R p hR r s g3 (by omega) (fun x hx hxs => by
        by_cases hxt : ky e t ≤ ky e x
        · have j := hJ x hx hxt
          have i := c3_a e s t x p
          have b1 := Int.mul_nonneg (a := ky e p - ky e s) (by omega) j
          have b2 := Int.mul_nonneg (a := ky e p - ky e x) (by have := hR x hx; omega) hst
          exact nn_of (a := ky e p - ky e t) (by omega) (by omega)
        · have j := (g2 x hx).1
          have i := c3_b e s t x p
          have b1 := Int.mul_nonneg (a := ky e x - ky e s) (by omega) hst
          have b2 := Int.mul_nonneg (a := ky e p - ky e s) (by omega) j
          exact nn_of (a := ky e t - ky e s) (by omega) (by omega))
      refine ⟨u, rest', by simp only [popC, hc, if_false]; exact a1, a2, a3, a4, a5, ?_, fun x h => by have := a7 x h; simp at this ⊢; right; exact this⟩
      rw [a6]; simp [List.getLast?_cons_cons]
theorem good_ext (e : Int) (R : P2 → Prop) (p : P2) : ∀ (rest : List P2) (u : P2), Good e R (u :: rest) → (∀ x, x ∈ u :: rest → R x) → Stops p (u :: rest) → ky e u < ky e p → Good e (fun r => R r ∨ r = p) (u :: rest)
  | [], _, _, _, _, _ => trivial
  | v :: rest, u, ⟨g1, g2, g3⟩, hm, hs, hk => by
    have hs' : 0 < c3 v u p := hs
    refine ⟨g1, fun r hr => ?_, good_ext e R p rest v g3 (fun x hx => hm x (by simp at hx ⊢; right; exact hx)) ?_ (by omega)⟩
    · rcases hr with hr | rfl
      · exact g2 r hr
      · exact ⟨by omega, fun h => by omega⟩
    · cases rest with
      | nil => trivial
      | cons w rest =>
        obtain ⟨k1, k2, k3⟩ := g3
        have hu := k2 u (hm u (by simp))
        have hu' : 0 < c3 w v u := by
          rcases Int.lt_or_eq_of_le hu.1 with h | h
          · exact h
          · have := hu.2 h.symm; omega
        have i := c3_d e w v u p
        have b1 := Int.mul_pos (a := ky e v - ky e w) (b := c3 v u p) (by omega) hs'
        have b2 := Int.mul_pos (a := ky e p - ky e v) (b := c3 w v u) (by omega) hu'
        rw [show ky e w - ky e v = -(ky e v - ky e w) by omega, Int.neg_mul] at i
        exact ps_of (a := ky e u - ky e v) (by omega) (by omega)
/-- one point more -/
theorem good_step (e : Int) (R : P2 → Prop) (p t m : P2) (rest : List P2) (hg : Good e R (t :: rest)) (hm : ∀ x, x ∈ t :: rest → R x) (hl : (t :: rest).getLast? = some m) (hmin : ∀ r, R r → ky e m ≤ ky e r) (hmax : ∀ r, R r → ky e r ≤ ky e t) (hp : ky e t < ky e p)
    (hinj : ∀ r, R r → ky e r = ky e t → r = t) :
    Good e (fun r => R r ∨ r = p) (p :: popC p (t :: rest)) ∧ (∀ x, x ∈ p :: popC p (t :: rest) → R x ∨ x = p) ∧ (p :: popC p (t :: rest)).getLast? = some m := by
  obtain ⟨u, rest', a1, a2, a3, a4, a5, a6, a7⟩ := pop_J e R p (fun r hr => by have := hmax r hr; omega) rest t hg hp (fun r hr hk => by
    rw [hinj r hr (by have := hmax r hr; omega)]; simp [c3])
  rw [a1]
  refine ⟨⟨a3, fun r hr => ?_, good_ext e R p rest' u a2 (fun x hx => hm x (a7 x hx)) a5 a3⟩, ?_, ?_⟩
  · rcases hr with hr | rfl
    · have hrt := hmax r hr
      by_cases hk : ky e u ≤ ky e r
      · exact ⟨a4 r hr hk, fun _ => ⟨hk, by omega⟩⟩
      · cases rest' with
        | nil =>
          rw [← a6] at hl
          simp at hl
          have := hmin r hr
          rw [← hl] at this; omega
        | cons v rest' =>
          have hs : 0 < c3 v u p := a5
          obtain ⟨g1, g2, _⟩ := a2
          have j := (g2 r hr).1
          have i := c3_c e v u p r
          have b1 := Int.mul_nonneg (a := ky e p - ky e u) (by omega) j
          have b2 := Int.mul_pos (a := ky e u - ky e r) (b := c3 v u p) (by omega) hs
          rw [show ky e r - ky e u = -(ky e u - ky e r) by omega, Int.neg_mul, show ky e v - ky e u = -(ky e u - ky e v) by omega, Int.neg_mul] at i
          have := ps_of (a := ky e u - ky e v) (b := c3 u p r) (by omega) (by omega)
          exact ⟨by omega, fun h => by omega⟩
    · refine ⟨by simp [c3]; rw [Int.mul_comm]; omega, fun _ => ⟨by omega, by omega⟩⟩
  · intro x hx
    rw [List.mem_cons] at hx
    rcases hx with rfl | hx
    · right; rfl
    · left; exact hm x (a7 x hx)
  · rw [List.getLast?_cons_cons, a6, hl]
/-- the stack, the last point first -/
def stkTo (l : List P2) : Nat → List P2
  | 0 => []
  | k + 1 => ptAt l k :: popC (ptAt l k) (stkTo l k)
def Among (l : List P2) (k : Nat) (r : P2) : Prop := ∃ j, j < k ∧ r = ptAt l j
theorem stk_good (e : Int) (l : List P2) (hs : ∀ i j, i < j → j < l.length → ky e (ptAt l i) < ky e (ptAt l j)) : ∀ k, k < l.length → ∃ rest, stkTo l (k + 1) = ptAt l k :: rest ∧ Good e (Among l (k + 1)) (ptAt l k :: rest) ∧ (∀ x, x ∈ ptAt l k :: rest → Among l (k + 1) x) ∧ (ptAt l k :: rest).getLast? = some (ptAt l 0)
  | 0, _ => ⟨[], rfl, trivial, fun x hx => ⟨0, by omega, by simpa using hx⟩, rfl⟩
  | k + 1, h => by
    obtain ⟨rest, b1, b2, b3, b4⟩ := stk_good e l hs k (by omega)
    have st := good_step e (Among l (k + 1)) (ptAt l (k + 1)) (ptAt l k) (ptAt l 0) rest b2 b3 b4
      (fun r ⟨j, hj, he⟩ => by
        subst he
        by_cases h0 : j = 0
        · subst h0; exact Int.le_refl _
        · exact Int.le_of_lt (hs 0 j (by omega) (by omega)))
      (fun r ⟨j, hj, he⟩ => by
        subst he
        by_cases h0 : j = k
        · subst h0; exact Int.le_refl _
        · exact Int.le_of_lt (hs j k (by omega) (by omega)))
      (hs k (k + 1) (by omega) h)
      (fun r ⟨j, hj, he⟩ hk => by
        subst he
        by_cases h0 : j = k
        · subst h0; rfl
        · have := hs j k (by omega) (by omega); omega)
    have hR : (fun r => Among l (k + 1) r ∨ r = ptAt l (k + 1)) = Among l (k + 1 + 1) := by
      funext r
      apply propext
      constructor
      · rintro (⟨j, hj, he⟩ | he)
        · exact ⟨j, by omega, he⟩
        · exact ⟨k + 1, by omega, he⟩
      · rintro ⟨j, hj, he⟩
        by_cases h0 : j = k + 1
        · right; rw [he, h0]
        · left; exact ⟨j, by omega, he⟩
    rw [hR] at st
    refine ⟨popC (ptAt l (k + 1)) (ptAt l k :: rest), by show ptAt l (k + 1) :: popC _ (stkTo l (k + 1)) = _; rw [b1], st.1, fun x hx => ?_, st.2.2⟩
    have := st.2.1 x hx
    rw [← hR]; exact this
/-- the same stack as the program's -/
theorem popC_rev (x y : Int) : ∀ (n : Nat) (o : List P2), o.length = n → popL o.reverse x y = (popC (x, y) o).reverse := by
  intro n
  induction n with
  | zero => intro o ho; obtain rfl := List.eq_nil_of_length_eq_zero ho; rfl
  | succ n ih =>
    intro o ho
    cases o with
    | nil => simp at ho
    | cons t o =>
      cases o with
      | nil => rw [popL_no (by simp [badTop])]; rfl
      | cons s r =>
        have hl : (t :: s :: r).reverse.length = r.length + 2 := by simp
        have e1 : px (t :: s :: r).reverse (r.length + 2 - 1) = t.1 ∧ py (t :: s :: r).reverse (r.length + 2 - 1) = t.2 := by
          simp [px, py, List.getD_eq_getElem?_getD]
        have e2 : px (t :: s :: r).reverse (r.length + 2 - 2) = s.1 ∧ py (t :: s :: r).reverse (r.length + 2 - 2) = s.2 := by
          simp [px, py, List.getD_eq_getElem?_getD]
        have hb : badTop (t :: s :: r).reverse x y = !decide (0 < c3 s t (x, y)) := by
          unfold badTop
          rw [hl, e1.1, e1.2, e2.1, e2.2, turnI_sign]
          have : (t.1 - s.1) * (y - s.2) - (t.2 - s.2) * (x - s.1) = c3 s t (x, y) := rfl
          rw [this]
          generalize c3 s t (x, y) = z
          rcases Int.lt_trichotomy z 0 with h | h | h
          · rw [Int.sign_eq_neg_one_of_neg h]; simp; omega
          · subst h; simp
          · rw [Int.sign_eq_one_of_pos h]; simp; omega
        by_cases hc : 0 < c3 s t (x, y)
        · rw [popL_no (by rw [hb]; simp [hc])]
          simp [popC, hc]
        · have htk : (t :: s :: r).reverse.take ((t :: s :: r).reverse.length - 1) = (s :: r).reverse := by
            rw [hl, show (t :: s :: r).reverse = (s :: r).reverse ++ [t] by simp, List.take_left' (by simp)]
          rw [popL_yes (by rw [hb]; simp [hc]), htk, ih (s :: r) (by simpa using ho)]
          simp [popC, hc]
theorem halfTo_stk (l : List P2) : ∀ k, halfTo l k = (stkTo l k).reverse
  | 0 => rfl
  | k + 1 => by
    simp only [halfTo, stkTo, List.reverse_cons]
    rw [halfTo_stk l k, popC_rev _ _ _ _ rfl]
    rfl

/-! the points in order -/
def valid (p : P2) : Prop := (0 ≤ p.1 ∧ p.1 ≤ 10000) ∧ (0 ≤ p.2 ∧ p.2 ≤ 10000)
theorem ky_lt {p q : P2} (hp : valid p) (hq : valid q) : lexLt p q ↔ ky 1 p < ky 1 q := by
  unfold valid at *; unfold lexLt ky; omega
theorem ky_inj {p q : P2} (hp : valid p) (hq : valid q) (h : ky 1 p = ky 1 q) : p = q := by
  unfold valid at *; unfold ky at h; exact Prod.ext (by omega) (by omega)
theorem ky_neg (p : P2) : ky (-1) p = - ky 1 p := by unfold ky; omega
theorem valid_of {l : List P2} (h : okL l = true) {p : P2} (hp : p ∈ l) : valid p := by
  unfold okL at h; rw [List.all_eq_true] at h; exact okP_iff.1 (h p hp)
theorem sortP_mem {l : List P2} {p : P2} : p ∈ sortP l ↔ p ∈ l := List.mem_mergeSort
theorem sortP_sorted (l : List P2) : (sortP l).Pairwise fun x y => ¬ lexLt y x := by
  unfold sortP
  rw [ltOf_cfP_eq]
  have := List.pairwise_mergeSort (le := fun x y => !lessP y x) (fun a b c h1 h2 => by simp [lessP] at *; omega) (fun a b => by simp [lessP]; omega) l
  refine this.imp fun {a b} h => ?_
  simp [lessP] at h; unfold lexLt; omega
/-- without what comes twice: strictly ascending, with the same points -/
theorem dd_spec {s : List P2} (hs : s.Pairwise fun x y => ¬ lexLt y x) : ∀ k, k ≤ s.length → (ddTo s k).Pairwise lexLt ∧ (∀ p, p ∈ ddTo s k ↔ p ∈ s.take k) ∧ (0 < k → ∀ p, p ∈ ddTo s k → lexLt p (ptAt s (k - 1)) ∨ p = ptAt s (k - 1))
  | 0, _ => by simp [ddTo]
  | k + 1, h => by
    obtain ⟨i1, i2, i3⟩ := dd_spec hs k (by omega)
    have htk : s.take (k + 1) = s.take k ++ [ptAt s k] := by rw [List.take_succ_eq_append_getElem (by omega), ptAt_get]
    have hle : 0 < k → lexLt (ptAt s (k - 1)) (ptAt s k) ∨ ptAt s (k - 1) = ptAt s k := fun h0 => by
      have := List.pairwise_iff_getElem.1 hs (k - 1) k (by omega) (by omega) (by omega)
      rw [← ptAt_get, ← ptAt_get] at this
      by_cases e : ptAt s (k - 1) = ptAt s k
      · right; exact e
      · left
        have e' : ¬ ((ptAt s (k - 1)).1 = (ptAt s k).1 ∧ (ptAt s (k - 1)).2 = (ptAt s k).2) := fun ⟨u, v⟩ => e (Prod.ext u v)
        unfold lexLt at *; omega
    have tr : ∀ {a b c : P2}, lexLt a b → lexLt b c → lexLt a c := fun h1 h2 => by unfold lexLt at *; omega
    simp only [ddTo]
    by_cases hc : k = 0 ∨ same s k (k - 1) = false
    · rw [if_pos hc]
      have hlt : ∀ p, p ∈ ddTo s k → lexLt p (ptAt s k) := fun p hp => by
        by_cases h0 : k = 0
        · subst h0; simp [ddTo] at hp
        · have hne : ptAt s (k - 1) ≠ ptAt s k := fun e => by
            have hc' := hc.resolve_left h0
            simp only [ptAt, Prod.mk.injEq] at e
            simp [same, e.1, e.2] at hc'
          have h1 := (hle (by omega)).resolve_right hne
          rcases i3 (by omega) p hp with h2 | h2
          · exact tr h2 h1
          · rw [h2]; exact h1
      refine ⟨?_, ?_, ?_⟩
      · rw [List.pairwise_append]
        refine ⟨i1, by simp, fun a ha b hb => ?_⟩
        simp at hb; rw [hb]; exact hlt a ha
      · intro p; rw [htk, List.mem_append, List.mem_append, i2]; rfl
      · intro _ p hp
        rw [List.mem_append] at hp
        rcases hp with hp | hp
        · left; exact hlt p hp
        · right; simp at hp; exact hp
    · rw [if_neg hc]
      have h0 : 0 < k := by omega
      have he : ptAt s (k - 1) = ptAt s k := by
        cases hs' : same s k (k - 1)
        · exact absurd (Or.inr hs') hc
        · simp [same] at hs'; simp [ptAt, hs'.1, hs'.2]
      refine ⟨i1, ?_, ?_⟩
      · intro p; rw [htk, List.mem_append, i2]
        constructor
        · intro h; left; exact h
        · rintro (h | h)
          · exact h
          · simp at h; rw [h, ← he, ptAt_get s _ (by omega)]
            rw [List.mem_take_iff_getElem]
            exact ⟨k - 1, by omega, rfl⟩
      · intro _ p hp
        show lexLt p (ptAt s k) ∨ p = ptAt s k
        rw [← he]; exact i3 h0 p hp
theorem ptsL_spec (l : List P2) : (ptsL l).Pairwise lexLt ∧ ∀ p, p ∈ ptsL l ↔ p ∈ l := by
  have hlen : (sortP l).length = l.length := List.length_mergeSort l
  obtain ⟨h1, h2, _⟩ := dd_spec (sortP_sorted l) l.length (by omega)
  refine ⟨h1, fun p => ?_⟩
  unfold ptsL
  rw [h2, ← hlen, List.take_length, sortP_mem]

/-! what a step of the hull says -/
/-- all points are left of the way from p to q, or between both -/
def Ext (l : List P2) (p q : P2) : Prop := q ∈ l ∧ ky 1 q ≠ ky 1 p ∧ ∀ r, r ∈ l → 0 ≤ c3 p q r ∧ (c3 p q r = 0 → (ky 1 p ≤ ky 1 r ∧ ky 1 r ≤ ky 1 q) ∨ (ky 1 q ≤ ky 1 r ∧ ky 1 r ≤ ky 1 p))
theorem good_at (e : Int) (R : P2 → Prop) : ∀ (S : List P2), Good e R S → ∀ i, (h : i + 1 < S.length) → ky e S[i + 1] < ky e S[i] ∧ ∀ r, R r → 0 ≤ c3 S[i + 1] S[i] r ∧ (c3 S[i + 1] S[i] r = 0 → ky e S[i + 1] ≤ ky e r ∧ ky e r ≤ ky e S[i])
  | [], _, i, h => by simp at h
  | [t], _, i, h => by simp at h
  | t :: s :: rest, hg, i, h => by
    obtain ⟨g1, g2, g3⟩ := hg
    cases i with
    | zero => exact ⟨g1, g2⟩
    | succ i => exact good_at e R (s :: rest) g3 i (by simpa using h)
theorem good_last (e : Int) (R : P2 → Prop) : ∀ (S : List P2), Good e R S → ∀ i, (h : i + 1 < S.length) → ky e (S[S.length - 1]'(by omega)) < ky e S[i] := by
  intro S hg i h
  have gen : ∀ d i, (h : i + 1 + d < S.length) → ky e S[i + 1 + d] < ky e S[i] := by
    intro d
    induction d with
    | zero => intro i h; exact (good_at e R S hg i h).1
    | succ d ih =>
      intro i h
      have a := ih i (by omega)
      have b := (good_at e R S hg (i + 1 + d) (by omega)).1
      have : S[i + 1 + d + 1]'(by omega) = S[i + 1 + (d + 1)] := rfl
      rw [← this]; omega
  have := gen (S.length - 1 - (i + 1)) i (by omega)
  have e1 : S[i + 1 + (S.length - 1 - (i + 1))]'(by omega) = S[S.length - 1]'(by omega) := by congr 1; omega
  rw [← e1]; exact this
/-- a half of the hull, from the first point of the list to the last one -/
theorem half_spec (e : Int) (P : List P2) (hs : ∀ i j, i < j → j < P.length → ky e (ptAt P i) < ky e (ptAt P j)) (h2 : 2 ≤ P.length) :
    2 ≤ (halfTo P P.length).length ∧ ptAt (halfTo P P.length) 0 = ptAt P 0 ∧ ptAt (halfTo P P.length) ((halfTo P P.length).length - 1) = ptAt P (P.length - 1) ∧
    (∀ i, i + 1 < (halfTo P P.length).length → ptAt (halfTo P P.length) (i + 1) ∈ P ∧ ky e (ptAt (halfTo P P.length) i) < ky e (ptAt (halfTo P P.length) (i + 1)) ∧ ∀ r, r ∈ P → 0 ≤ c3 (ptAt (halfTo P P.length) i) (ptAt (halfTo P P.length) (i + 1)) r ∧ (c3 (ptAt (halfTo P P.length) i) (ptAt (halfTo P P.length) (i + 1)) r = 0 → ky e (ptAt (halfTo P P.length) i) ≤ ky e r ∧ ky e r ≤ ky e (ptAt (halfTo P P.length) (i + 1)))) ∧
    (∀ i, i < (halfTo P P.length).length → 0 < i → ky e (ptAt P 0) < ky e (ptAt (halfTo P P.length) i)) := by
  have hlen2 : 2 ≤ (halfTo P P.length).length := by
    obtain ⟨k, hk⟩ : ∃ k, P.length = k + 2 := ⟨P.length - 2, by omega⟩
    have := halfTo_two P k
    rw [← hk] at this; exact this
  obtain ⟨rest, b1, b2, b3, b4⟩ := stk_good e P hs (P.length - 1) (by omega)
  rw [show P.length - 1 + 1 = P.length by omega] at b1 b2 b3
  have hrev := halfTo_stk P P.length
  rw [b1] at hrev
  generalize hS : ptAt P (P.length - 1) :: rest = S at *
  have hA : ∀ r, Among P P.length r ↔ r ∈ P := fun r => by
    constructor
    · rintro ⟨j, hj, rfl⟩; rw [ptAt_get P j hj]; exact List.getElem_mem hj
    · intro h
      obtain ⟨j, hj, he⟩ := List.getElem_of_mem h
      exact ⟨j, hj, by rw [ptAt_get P j hj, he]⟩
  have hlS : (halfTo P P.length).length = S.length := by rw [hrev, List.length_reverse]
  have hat : ∀ i, (h : i < S.length) → ptAt (halfTo P P.length) i = S[S.length - 1 - i]'(by omega) := fun i h => by
    rw [ptAt_get _ _ (by omega)]
    simp only [hrev, List.getElem_reverse]
  have hlast : S[S.length - 1]'(by omega) = ptAt P 0 := by
    rw [List.getLast?_eq_getElem?, List.getElem?_eq_getElem (by omega)] at b4
    exact Option.some.inj b4
  rw [hlS] at hlen2 ⊢
  refine ⟨hlen2, ?_, ?_, ?_, ?_⟩
  · rw [hat 0 (by omega)]; simp only [Nat.sub_zero]; exact hlast
  · rw [hat _ (by omega)]
    have : S[S.length - 1 - (S.length - 1)]'(by omega) = S[0]'(by omega) := by congr 1; omega
    rw [this]; subst hS; rfl
  · intro i hi
    rw [hat i (by omega), hat (i + 1) hi]
    have hg := good_at e _ S b2 (S.length - 1 - (i + 1)) (by omega)
    have e1 : S[S.length - 1 - (i + 1) + 1]'(by omega) = S[S.length - 1 - i]'(by omega) := by congr 1; omega
    rw [e1] at hg
    refine ⟨(hA _).1 (b3 _ (List.getElem_mem _)), hg.1, fun r hr => hg.2 r ((hA r).2 hr)⟩
  · intro i hi h0
    rw [hat i hi]
    have := good_last e _ S b2 (S.length - 1 - i) (by omega)
    rw [hlast] at this
    exact this

/-! the hull, step by step -/
theorem rev_pt (l : List P2) (k : Nat) (h : k < l.length) : ptAt l.reverse k = ptAt l (l.length - 1 - k) := by
  simp only [ptAt, (rev_px l k h).1, (rev_px l k h).2]
theorem hull_spec {l : List P2} (hok : okL l = true) (h2 : 2 ≤ (ptsL l).length) :
    2 ≤ (hullL l).length ∧ ptAt (hullL l) 0 = ptAt (ptsL l) 0 ∧ (∀ k, k < (hullL l).length → Ext l (ptAt (hullL l) k) (ptAt (hullL l) ((k + 1) % (hullL l).length))) ∧ (∀ k, k < (hullL l).length → 0 < k → ky 1 (ptAt (hullL l) k) ≠ ky 1 (ptAt (hullL l) 0)) := by
  obtain ⟨hp, hm⟩ := ptsL_spec l
  have hval : ∀ i, i < (ptsL l).length → valid (ptAt (ptsL l) i) := fun i hi => valid_of hok ((hm _).1 (by rw [ptAt_get _ _ hi]; exact List.getElem_mem hi))
  have hs1 : ∀ i j, i < j → j < (ptsL l).length → ky 1 (ptAt (ptsL l) i) < ky 1 (ptAt (ptsL l) j) := fun i j hij hj => by
    rw [← ky_lt (hval i (by omega)) (hval j hj)]
    have := List.pairwise_iff_getElem.1 hp i j (by omega) hj hij
    rw [ptAt_get _ _ (by omega), ptAt_get _ _ hj]; exact this
  have hrl : (ptsL l).reverse.length = (ptsL l).length := List.length_reverse
  have hs2 : ∀ i j, i < j → j < (ptsL l).reverse.length → ky (-1) (ptAt (ptsL l).reverse i) < ky (-1) (ptAt (ptsL l).reverse j) := fun i j hij hj => by
    rw [hrl] at hj
    have e1 : ptAt (ptsL l).reverse i = ptAt (ptsL l) ((ptsL l).length - 1 - i) := rev_pt _ _ (by omega)
    have e2 : ptAt (ptsL l).reverse j = ptAt (ptsL l) ((ptsL l).length - 1 - j) := rev_pt _ _ hj
    rw [e1, e2, ky_neg, ky_neg]
    have := hs1 ((ptsL l).length - 1 - j) ((ptsL l).length - 1 - i) (by omega) (by omega)
    omega
  obtain ⟨x1, x2, x3, x4, x5⟩ := half_spec 1 (ptsL l) hs1 h2
  obtain ⟨y1, y2, y3, y4, y5⟩ := half_spec (-1) (ptsL l).reverse hs2 (by omega)
  have eb : halfTo (ptsL l) (ptsL l).length = belowL l := rfl
  have ea : halfTo (ptsL l).reverse (ptsL l).reverse.length = aboveL l := by unfold aboveL; rw [revTo_rev, hrl]
  rw [eb] at x1 x2 x3 x4 x5
  rw [ea] at y1 y2 y3 y4 y5
  have r0 : ptAt (ptsL l).reverse 0 = ptAt (ptsL l) ((ptsL l).length - 1) := by rw [rev_pt _ _ (by omega), Nat.sub_zero]
  have r1 : ptAt (ptsL l).reverse ((ptsL l).reverse.length - 1) = ptAt (ptsL l) 0 := by
    rw [hrl, rev_pt _ _ (by omega), Nat.sub_self]
  rw [r0] at y2 y5
  rw [r1] at y3
  have hHl : (hullL l).length = ((belowL l).length - 1) + ((aboveL l).length - 1) := by unfold hullL; rw [List.length_append, List.length_take, List.length_take]; omega
  have hlow : ∀ i, i < (belowL l).length - 1 → ptAt (hullL l) i = ptAt (belowL l) i := fun i hi => by
    rw [ptAt_get _ _ (by omega), ptAt_get _ _ (by omega)]
    simp only [hullL]
    rw [List.getElem_append_left (by rw [List.length_take]; omega), List.getElem_take]
  have hupp : ∀ i, i < (aboveL l).length - 1 → ptAt (hullL l) ((belowL l).length - 1 + i) = ptAt (aboveL l) i := fun i hi => by
    rw [ptAt_get _ _ (by omega), ptAt_get _ _ (by omega)]
    simp only [hullL]
    rw [List.getElem_append_right (by rw [List.length_take]; omega), List.getElem_take]
    congr 1
    rw [List.length_take]; omega
  have hlow' : ∀ i, i ≤ (belowL l).length - 1 → ptAt (hullL l) i = ptAt (belowL l) i := fun i hi => by
    by_cases e : i = (belowL l).length - 1
    · have := hupp 0 (by omega)
      rw [Nat.add_zero] at this
      rw [e, this, y2, x3]
    · exact hlow i (by omega)
  have h00 : ptAt (hullL l) 0 = ptAt (ptsL l) 0 := by rw [hlow 0 (by omega), x2]
  refine ⟨by omega, h00, ?_, ?_⟩
  · intro k hk
    by_cases hkb : k < (belowL l).length - 1
    · rw [Nat.mod_eq_of_lt (by omega), hlow k hkb, hlow' (k + 1) (by omega)]
      obtain ⟨z1, z2, z3⟩ := x4 k (by omega)
      exact ⟨(hm _).1 z1, by omega, fun r hr => ⟨(z3 r ((hm r).2 hr)).1, fun h => Or.inl ((z3 r ((hm r).2 hr)).2 h)⟩⟩
    · obtain ⟨j, hj⟩ : ∃ j, k = (belowL l).length - 1 + j := ⟨k - ((belowL l).length - 1), by omega⟩
      have ek : ptAt (hullL l) k = ptAt (aboveL l) j := by rw [hj]; exact hupp j (by omega)
      have en : ptAt (hullL l) ((k + 1) % (hullL l).length) = ptAt (aboveL l) (j + 1) := by
        by_cases e : k + 1 = (hullL l).length
        · rw [e, Nat.mod_self, h00, ← y3]; congr 1; omega
        · rw [Nat.mod_eq_of_lt (by omega), hj, show (belowL l).length - 1 + j + 1 = (belowL l).length - 1 + (j + 1) by omega]
          exact hupp (j + 1) (by omega)
      rw [ek, en]
      obtain ⟨z1, z2, z3⟩ := y4 j (by omega)
      rw [ky_neg, ky_neg] at z2
      refine ⟨(hm _).1 (List.mem_reverse.1 z1), by omega, fun r hr => ?_⟩
      have := z3 r (List.mem_reverse.2 ((hm r).2 hr))
      rw [ky_neg, ky_neg, ky_neg] at this
      exact ⟨this.1, fun h => Or.inr (by have := this.2 h; omega)⟩
  · intro k hk h0
    rw [h00]
    by_cases hkb : k < (belowL l).length - 1
    · rw [hlow k hkb]
      have := x5 k (by omega) h0
      omega
    · obtain ⟨j, hj⟩ : ∃ j, k = (belowL l).length - 1 + j := ⟨k - ((belowL l).length - 1), by omega⟩
      rw [show ptAt (hullL l) k = ptAt (aboveL l) j by rw [hj]; exact hupp j (by omega)]
      rw [← y3]
      have mono : ∀ d i, i + d + 1 < (aboveL l).length → ky (-1) (ptAt (aboveL l) i) < ky (-1) (ptAt (aboveL l) (i + d + 1)) := by
        intro d
        induction d with
        | zero => intro i hi; exact (y4 i hi).2.1
        | succ d ih => intro i hi; have a := ih i (by omega); have b := (y4 (i + d + 1) hi).2.1; have : i + (d + 1) + 1 = i + d + 1 + 1 := by omega
                       rw [this]; omega
      have := mono ((aboveL l).length - 1 - j - 1) j (by omega)
      rw [show j + ((aboveL l).length - 1 - j - 1) + 1 = (aboveL l).length - 1 by omega, ky_neg, ky_neg] at this
      omega

/-! the way round, as the reference goes it -/
def farI (a b : P2) : Int := (b.1 - a.1) * (b.1 - a.1) + (b.2 - a.2) * (b.2 - a.2)
def takes (p q r : P2) : Bool := decide (turnI p.1 p.2 q.1 q.2 r.1 r.2 < 0) || (turnI p.1 p.2 q.1 q.2 r.1 r.2 == 0 && decide (farI p q < farI p r))
def scanTo (l : List P2) (p : P2) : Nat → P2
  | 0 => p
  | k + 1 => if scanTo l p k = p then ptAt l k else if takes p (scanTo l p k) (ptAt l k) then ptAt l k else scanTo l p k
theorem sq_le {x y : Int} (h : (0 ≤ x ∧ x ≤ y) ∨ (y ≤ x ∧ x ≤ 0)) : x * x ≤ y * y ∧ (x ≠ y → x * x < y * y) := by
  rcases h with ⟨h1, h2⟩ | ⟨h1, h2⟩
  · refine ⟨Int.mul_le_mul h2 h2 h1 (by omega), fun hne => ?_⟩
    have a : y * x < y * y := Int.mul_lt_mul_of_pos_left (by omega) (by omega)
    have b : x * x ≤ y * x := Int.mul_le_mul_of_nonneg_right h2 h1
    omega
  · have c1 : x * x = (-x) * (-x) := by rw [Int.neg_mul_neg]
    have c2 : y * y = (-y) * (-y) := by rw [Int.neg_mul_neg]
    rw [c1, c2]
    refine ⟨Int.mul_le_mul (by omega) (by omega) (by omega) (by omega), fun hne => ?_⟩
    have a : -y * -x < -y * -y := Int.mul_lt_mul_of_pos_left (by omega) (by omega)
    have b : -x * -x ≤ -y * -x := Int.mul_le_mul_of_nonneg_right (by omega) (by omega)
    omega
theorem far_le {p q r : P2} (hp : valid p) (hq : valid q) (hr : valid r) (h0 : c3 p q r = 0) (hb : (ky 1 p ≤ ky 1 r ∧ ky 1 r ≤ ky 1 q) ∨ (ky 1 q ≤ ky 1 r ∧ ky 1 r ≤ ky 1 p)) : farI p r ≤ farI p q ∧ (r ≠ q → farI p r < farI p q) := by
  obtain ⟨a, b⟩ := p; obtain ⟨c, d⟩ := q; obtain ⟨x, y⟩ := r
  unfold valid at hp hq hr
  simp only [c3] at h0
  simp only [ky] at hb
  have hbt : (min a c ≤ x ∧ x ≤ max a c) ∧ (min b d ≤ y ∧ y ≤ max b d) := by
    rcases hb with h | h
    · exact (on_asc (a := a) (b := b) (c := c) (d := d) (p := x) (q := y) (by simp at hp hq hr h ⊢; omega) (by omega)).1 (by simp at hp hq hr h ⊢; omega)
    · have := (on_asc (a := c) (b := d) (c := a) (d := b) (p := x) (q := y) (by simp at hp hq hr h ⊢; omega) (by grind)).1 (by simp at hp hq hr h ⊢; omega)
      omega
  have s1 := sq_le (x := x - a) (y := c - a) (by omega)
  have s2 := sq_le (x := y - b) (y := d - b) (by omega)
  simp only [farI]
  refine ⟨by omega, fun hne => ?_⟩
  by_cases e : x = c
  · have : y ≠ d := fun e2 => hne (by rw [e, e2])
    have := s2.2 (by omega)
    omega
  · have := s1.2 (by omega)
    omega
theorem turn3 (p q r : P2) : turnI p.1 p.2 q.1 q.2 r.1 r.2 = Int.sign (c3 p q r) := by rw [turnI_sign]; rfl
theorem scan_mem (l : List P2) (p : P2) : ∀ k, k ≤ l.length → scanTo l p k = p ∨ scanTo l p k ∈ l
  | 0, _ => Or.inl rfl
  | k + 1, h => by
    have hm : ptAt l k ∈ l := by rw [ptAt_get l k (by omega)]; exact List.getElem_mem _
    simp only [scanTo]
    split
    · right; exact hm
    · split
      · right; exact hm
      · exact scan_mem l p k (by omega)
theorem scan_ext {l : List P2} (hok : okL l = true) {p q : P2} (hpl : p ∈ l) (he : Ext l p q) : scanTo l p l.length = q := by
  obtain ⟨hq, hne, hall⟩ := he
  have hqp : q ≠ p := fun e => hne (by rw [e])
  obtain ⟨j, hj, hjq⟩ := List.getElem_of_mem hq
  have vp := valid_of hok hpl
  have vq := valid_of hok hq
  have gen : ∀ k, j + 1 + k ≤ l.length → scanTo l p (j + 1 + k) = q := by
    intro k
    induction k with
    | zero =>
      intro _
      show (if scanTo l p j = p then ptAt l j else if takes p (scanTo l p j) (ptAt l j) then ptAt l j else scanTo l p j) = q
      rw [ptAt_get l j hj, hjq]
      by_cases h1 : scanTo l p j = p
      · rw [if_pos h1]
      · rw [if_neg h1]
        by_cases h2 : scanTo l p j = q
        · rw [h2]; split <;> rfl
        · have hm := (scan_mem l p j (by omega)).resolve_left h1
          generalize scanTo l p j = s at *
          have hs := hall s hm
          have ht : takes p s q = true := by
            unfold takes
            rw [turn3, c3_sw]
            rw [show c3 p q s = c3 p q s from rfl]
            rcases Int.lt_or_eq_of_le hs.1 with h | h
            · have : Int.sign (-c3 p q s) = -1 := Int.sign_eq_neg_one_of_neg (by omega)
              rw [this]; rfl
            · have hf := (far_le vp vq (valid_of hok hm) h.symm (hs.2 h.symm)).2 h2
              rw [← h]; simp [hf]
          rw [ht]; rfl
    | succ k ih =>
      intro hk
      have i := ih (by omega)
      show (if scanTo l p (j + 1 + k) = p then ptAt l (j + 1 + k) else if takes p (scanTo l p (j + 1 + k)) (ptAt l (j + 1 + k)) then ptAt l (j + 1 + k) else scanTo l p (j + 1 + k)) = q
      rw [i, if_neg hqp]
      have hm : ptAt l (j + 1 + k) ∈ l := by rw [ptAt_get l _ (by omega)]; exact List.getElem_mem _
      generalize ptAt l (j + 1 + k) = r at *
      have hr := hall r hm
      have ht : takes p q r = false := by
        unfold takes
        rw [turn3]
        rcases Int.lt_or_eq_of_le hr.1 with h | h
        · have : Int.sign (c3 p q r) = 1 := Int.sign_eq_one_of_pos h
          rw [this]; rfl
        · have hf := (far_le vp vq (valid_of hok hm) h.symm (hr.2 h.symm)).1
          rw [← h]; simp; omega
      rw [ht]; rfl
  have := gen (l.length - (j + 1)) (by omega)
  rwa [show j + 1 + (l.length - (j + 1)) = l.length by omega] at this
theorem least_first {l : List P2} (h0 : 0 < (ptsL l).length) : ptAt l (leastTo l l.length) = ptAt (ptsL l) 0 := by
  obtain ⟨hp, hm⟩ := ptsL_spec l
  have hl : 0 < l.length := by
    have : ptAt (ptsL l) 0 ∈ ptsL l := by rw [ptAt_get _ _ h0]; exact List.getElem_mem _
    exact List.length_pos_of_mem ((hm _).1 this)
  obtain ⟨a1, a2⟩ := least_spec l l.length hl
  have m1 : ptAt l (leastTo l l.length) ∈ l := by rw [ptAt_get _ _ a1]; exact List.getElem_mem _
  have m2 : ptAt (ptsL l) 0 ∈ l := (hm _).1 (by rw [ptAt_get _ _ h0]; exact List.getElem_mem _)
  obtain ⟨i, hi, hie⟩ := List.getElem_of_mem m2
  obtain ⟨j, hj, hje⟩ := List.getElem_of_mem ((hm _).2 m1)
  have b1 := a2 i hi
  rw [ptAt_get l i hi, hie] at b1
  by_cases e : j = 0
  · subst e; rw [ptAt_get _ _ h0, hje]
  · have b2 := List.pairwise_iff_getElem.1 hp 0 j h0 hj (by omega)
    rw [hje] at b2
    rw [ptAt_get _ _ h0] at b1
    exact absurd b2 b1
/-- each step leads from a corner to the next one -/
theorem scan_hull {l : List P2} (hok : okL l = true) (h2 : 2 ≤ (ptsL l).length) {k : Nat} (hk : k < (hullL l).length) :
    scanTo l (ptAt (hullL l) k) l.length = ptAt (hullL l) ((k + 1) % (hullL l).length) ∧ ptAt (hullL l) ((k + 1) % (hullL l).length) ≠ ptAt (hullL l) k ∧ ptAt (hullL l) k ∈ l := by
  obtain ⟨h1, h3, h4, h5⟩ := hull_spec hok h2
  have hmem : ptAt (hullL l) k ∈ l := by
    have := (h4 _ (Nat.mod_lt (k + (hullL l).length - 1) (by omega))).1
    rw [prev_next hk] at this
    exact this
  exact ⟨scan_ext hok hmem (h4 k hk), fun e => (h4 k hk).2.1 (by rw [e]), hmem⟩
/-- one point alone -/
theorem scan_one {l : List P2} {p : P2} (h : ∀ i, i < l.length → ptAt l i = p) : ∀ k, k ≤ l.length → scanTo l p k = p
  | 0, _ => rfl
  | k + 1, hk => by
    simp only [scanTo]
    rw [if_pos (scan_one h k (by omega)), h k (by omega)]
theorem one_all {l : List P2} (h1 : (ptsL l).length = 1) : ∀ i, i < l.length → ptAt l i = ptAt (ptsL l) 0 := fun i hi => by
  obtain ⟨_, hm⟩ := ptsL_spec l
  have : ptAt l i ∈ ptsL l := (hm _).2 (by rw [ptAt_get l i hi]; exact List.getElem_mem _)
  obtain ⟨j, hj, he⟩ := List.getElem_of_mem this
  have : j = 0 := by omega
  subst this
  rw [ptAt_get (ptsL l) 0 hj, he]
/-! the hull is convex, and has all points -/
theorem ext_unique {l : List P2} (hok : okL l = true) {p q r : P2} (hp : p ∈ l) (h1 : Ext l p q) (h2 : Ext l p r) : q = r := by
  rw [← scan_ext hok hp h1, scan_ext hok hp h2]
/-- a closed way of extreme steps whose first corner comes once -/
structure Round (l H : List P2) : Prop where
  ok : okL l = true
  two : 2 ≤ H.length
  step : ∀ k, k < H.length → Ext l (ptAt H k) (ptAt H ((k + 1) % H.length))
  once : ∀ k, k < H.length → 0 < k → ptAt H k ≠ ptAt H 0
section
variable {l H : List P2} (R : Round l H)
include R
theorem Round.mem {k : Nat} (hk : k < H.length) : ptAt H k ∈ l := by
  have := (R.step _ (Nat.mod_lt (k + H.length - 1) (by omega))).1
  rw [prev_next hk] at this
  exact this
theorem Round.go {i j : Nat} (hi : i < H.length) (hj : j < H.length) (h : ptAt H i = ptAt H j) : ∀ d, ptAt H ((i + d) % H.length) = ptAt H ((j + d) % H.length)
  | 0 => by rw [Nat.add_zero, Nat.add_zero, Nat.mod_eq_of_lt hi, Nat.mod_eq_of_lt hj, h]
  | d + 1 => by
    have ih := Round.go hi hj h d
    have h1 := R.step _ (Nat.mod_lt (i + d) (show 0 < H.length by have := R.two; omega))
    have h2 := R.step _ (Nat.mod_lt (j + d) (show 0 < H.length by have := R.two; omega))
    rw [Nat.mod_add_mod] at h1 h2
    rw [← ih] at h2
    exact ext_unique R.ok (R.mem (Nat.mod_lt _ (by have := R.two; omega))) h1 h2
theorem Round.inj {i j : Nat} (hi : i < H.length) (hj : j < H.length) (h : ptAt H i = ptAt H j) : i = j := by
  have key : ∀ {i j : Nat}, i < j → j < H.length → ptAt H i ≠ ptAt H j := fun {i j} hij hj h => by
    have := R.go (by omega) hj h (H.length - j)
    rw [show j + (H.length - j) = H.length by omega, Nat.mod_self, Nat.mod_eq_of_lt (by omega)] at this
    exact R.once _ (by omega) (by omega) this
  rcases Nat.lt_trichotomy i j with h1 | h1 | h1
  · exact absurd h (key h1 hj)
  · exact h1
  · exact absurd h.symm (key h1 hi)
theorem Round.left {k : Nat} (hk : k < H.length) {p : P2} (hp : p ∈ l) : 0 ≤ c3 (ptAt H k) (ptAt H ((k + 1) % H.length)) p := ((R.step k hk).2.2 p hp).1
theorem Round.strict {k j : Nat} (hk : k < H.length) (hj : j < H.length) (h1 : j ≠ k) (h2 : j ≠ (k + 1) % H.length) : 0 < c3 (ptAt H k) (ptAt H ((k + 1) % H.length)) (ptAt H j) := by
  have hn : (k + 1) % H.length < H.length := Nat.mod_lt _ (by omega)
  have n1 : ptAt H j ≠ ptAt H k := fun e => h1 (R.inj hj hk e)
  have n2 : ptAt H j ≠ ptAt H ((k + 1) % H.length) := fun e => h2 (R.inj hj hn e)
  have e1 := (R.step k hk).2.2 _ (R.mem hj)
  rcases Int.lt_or_eq_of_le e1.1 with h | h
  · exact h
  · exfalso
    have hb := e1.2 h.symm
    have vj := valid_of R.ok (R.mem hj)
    have k1 : ky 1 (ptAt H j) ≠ ky 1 (ptAt H k) := fun e => n1 (ky_inj vj (valid_of R.ok (R.mem hk)) e)
    have k2 : ky 1 (ptAt H j) ≠ ky 1 (ptAt H ((k + 1) % H.length)) := fun e => n2 (ky_inj vj (valid_of R.ok (R.mem hn)) e)
    obtain ⟨_, _, g⟩ := R.step j hj
    have a1 := g _ (R.mem hk)
    have a2 := g _ (R.mem hn)
    generalize ptAt H ((j + 1) % H.length) = r' at *
    generalize ptAt H ((k + 1) % H.length) = q at *
    generalize ptAt H k = p at *
    generalize ptAt H j = r at *
    have id : (ky 1 q - ky 1 r) * c3 r r' p = (ky 1 p - ky 1 r) * c3 r r' q := by
      have h0 : c3 p q r = 0 := h.symm
      have : (ky 1 q - ky 1 r) * c3 r r' p - (ky 1 p - ky 1 r) * c3 r r' q = c3 p q r * (ky 1 r - ky 1 r') := by
        simp only [ky, c3]; grind
      rw [h0, Int.zero_mul] at this
      omega
    have z : c3 r r' p = 0 ∧ c3 r r' q = 0 := by
      rcases hb with hb | hb
      · have b1 := Int.mul_nonneg (a := ky 1 q - ky 1 r) (b := c3 r r' p) (by omega) a1.1
        have b2 := Int.mul_nonneg (a := -(ky 1 p - ky 1 r)) (b := c3 r r' q) (by omega) a2.1
        rw [Int.neg_mul] at b2
        have c1 : (ky 1 q - ky 1 r) * c3 r r' p = 0 := by omega
        have c2 : (ky 1 p - ky 1 r) * c3 r r' q = 0 := by omega
        exact ⟨(Int.mul_eq_zero.1 c1).resolve_left (by omega), (Int.mul_eq_zero.1 c2).resolve_left (by omega)⟩
      · have b1 := Int.mul_nonneg (a := -(ky 1 q - ky 1 r)) (b := c3 r r' p) (by omega) a1.1
        have b2 := Int.mul_nonneg (a := ky 1 p - ky 1 r) (b := c3 r r' q) (by omega) a2.1
        rw [Int.neg_mul] at b1
        have c1 : (ky 1 q - ky 1 r) * c3 r r' p = 0 := by omega
        have c2 : (ky 1 p - ky 1 r) * c3 r r' q = 0 := by omega
        exact ⟨(Int.mul_eq_zero.1 c1).resolve_left (by omega), (Int.mul_eq_zero.1 c2).resolve_left (by omega)⟩
    have d1 := a1.2 z.1
    have d2 := a2.2 z.2
    omega
theorem next_ne' {k : Nat} (hk : k < H.length) : (k + 1) % H.length ≠ k := fun e => next_ne R.two hk e.symm
theorem Round.bend (h3 : 3 ≤ H.length) {k : Nat} (hk : k < H.length) : 0 < c3 (ptAt H ((k + H.length - 1) % H.length)) (ptAt H k) (ptAt H ((k + 1) % H.length)) := by
  have hp : (k + H.length - 1) % H.length < H.length := Nat.mod_lt _ (by omega)
  have := R.strict (k := (k + H.length - 1) % H.length) (j := (k + 1) % H.length) hp (Nat.mod_lt _ (by omega)) (by
    rcases prev_cases hk with ⟨a, b⟩ | ⟨a, b⟩
    · rw [b]; subst a; rw [Nat.mod_eq_of_lt (by omega)]; omega
    · rw [b]
      by_cases hh : k + 1 < H.length
      · rw [Nat.mod_eq_of_lt hh]; omega
      · rw [show k + 1 = H.length by omega, Nat.mod_self]; omega) (by rw [prev_next hk]; exact next_ne' R hk)
  rw [prev_next hk] at this
  exact this
theorem Round.okH : okL H = true := by
  unfold okL
  rw [List.all_eq_true]
  intro p hp
  obtain ⟨i, hi, he⟩ := List.getElem_of_mem hp
  have := valid_of R.ok (R.mem hi)
  rw [ptAt_get _ _ hi, he] at this
  exact okP_iff.2 this
theorem Round.poly (h3 : 3 ≤ H.length) (hl : H.length ≤ 200) : polyI H = 0 := by
  have hok := R.okH
  have hrep : repI H = false := rep_none1 hok fun i j hj hi ⟨u, v⟩ => by
    have := R.inj hi (by omega) (show ptAt H i = ptAt H j by simp only [ptAt, u, v])
    omega
  refine (poly_4 ?_ (by omega) hrep ?_).symm
  · unfold ckPts; rw [if_neg (by omega), hok]; rfl
  rw [apartB_iff]
  intro i hi j hij hj
  have hin : (i + 1) % H.length < H.length := Nat.mod_lt _ (by omega)
  have hjn : (j + 1) % H.length < H.length := Nat.mod_lt _ (by omega)
  obtain ⟨e1, e2, e3, e4⟩ := edgesL_at H i hi
  obtain ⟨g1, g2, g3, g4⟩ := edgesL_at H j hj
  unfold meetE
  rw [e1, e2, e3, e4, g1, g2, g3, g4]
  have T : ∀ p q r : P2, turnI p.1 p.2 q.1 q.2 r.1 r.2 = Int.sign (c3 p q r) := turn3
  have t1 := T (ptAt H i) (ptAt H ((i + 1) % H.length)) (ptAt H j)
  have t2 := T (ptAt H i) (ptAt H ((i + 1) % H.length)) (ptAt H ((j + 1) % H.length))
  have t3 := T (ptAt H j) (ptAt H ((j + 1) % H.length)) (ptAt H i)
  have t4 := T (ptAt H j) (ptAt H ((j + 1) % H.length)) (ptAt H ((i + 1) % H.length))
  simp only [ptAt] at t1 t2 t3 t4
  have hi1 : (i + 1) % H.length = i + 1 := Nat.mod_eq_of_lt (by omega)
  unfold meetI
  rw [t1, t2, t3, t4]
  by_cases hw : j = i + 1 ∨ (i = 0 ∧ j + 1 = H.length)
  · rw [want_1 hw]
    rcases hw with hw | ⟨hw1, hw2⟩
    · have z1 : c3 (px H i, py H i) (px H ((i + 1) % H.length), py H ((i + 1) % H.length)) (px H j, py H j) = 0 := by rw [hi1, hw]; simp [c3]; rw [Int.mul_comm]; simp
      have z4 : c3 (px H j, py H j) (px H ((j + 1) % H.length), py H ((j + 1) % H.length)) (px H ((i + 1) % H.length), py H ((i + 1) % H.length)) = 0 := by rw [hi1, hw]; simp [c3]
      have p2 := R.strict hi hjn (by
        intro e
        by_cases hh : j + 1 < H.length
        · rw [Nat.mod_eq_of_lt hh] at e; omega
        · rw [show j + 1 = H.length by omega, Nat.mod_self] at e; omega) (by rw [hi1, ← hw]; exact next_ne' R hj)
      simp only [ptAt] at p2
      rw [z1, z4, Int.sign_eq_one_of_pos p2]
      simp
    · have hjn0 : (j + 1) % H.length = 0 := by rw [hw2, Nat.mod_self]
      have z2 : c3 (px H i, py H i) (px H ((i + 1) % H.length), py H ((i + 1) % H.length)) (px H ((j + 1) % H.length), py H ((j + 1) % H.length)) = 0 := by rw [hjn0, hw1]; simp [c3]
      have z3 : c3 (px H j, py H j) (px H ((j + 1) % H.length), py H ((j + 1) % H.length)) (px H i, py H i) = 0 := by rw [hjn0, hw1]; simp [c3]; rw [Int.mul_comm]; simp
      have p1 := R.strict hi hj (by omega) (by rw [hi1]; omega)
      simp only [ptAt] at p1
      rw [z2, z3, Int.sign_eq_one_of_pos p1]
      simp
  · rw [want_0 hw]
    have p1 := R.strict hi hj (by omega) (by rw [hi1]; omega)
    have p2 := R.strict hi hjn (by
      intro e
      by_cases hh : j + 1 < H.length
      · rw [Nat.mod_eq_of_lt hh] at e; omega
      · rw [show j + 1 = H.length by omega, Nat.mod_self] at e; omega) (by
      rw [hi1]; intro e
      by_cases hh : j + 1 < H.length
      · rw [Nat.mod_eq_of_lt hh] at e; omega
      · rw [show j + 1 = H.length by omega, Nat.mod_self] at e; omega)
    simp only [ptAt] at p1 p2
    rw [Int.sign_eq_one_of_pos p1, Int.sign_eq_one_of_pos p2]
    simp
theorem Round.turns (h3 : 3 ≤ H.length) {k : Nat} (hk : k < H.length) : turnAt H H.length k = 1 := by
  have := turn3 (ptAt H ((k + H.length - 1) % H.length)) (ptAt H k) (ptAt H ((k + 1) % H.length))
  rw [Int.sign_eq_one_of_pos (R.bend h3 hk)] at this
  exact this
theorem Round.area (h3 : 3 ≤ H.length) : 0 ≤ areaI H := by
  unfold areaI
  split
  · have gen : ∀ k, k ≤ H.length → cr (ptAt H 0) (ptAt H (k % H.length)) ≤ crossTo (edgesL H) k := by
      intro k
      induction k with
      | zero => intro _; rw [Nat.zero_mod]; simp [cr, crossTo]; rw [Int.mul_comm]; simp
      | succ k ih =>
        intro hk
        have a := ih (by omega)
        obtain ⟨e1, e2, e3, e4⟩ := edgesL_at H k (by omega)
        rw [Nat.mod_eq_of_lt (show k < H.length by omega)] at a
        have b := R.left (k := k) (by omega) (R.mem (k := 0) (by omega))
        have c : c3 (ptAt H k) (ptAt H ((k + 1) % H.length)) (ptAt H 0) = cr (ptAt H k) (ptAt H ((k + 1) % H.length)) - cr (ptAt H 0) (ptAt H ((k + 1) % H.length)) + cr (ptAt H 0) (ptAt H k) := by
          simp only [c3, cr]; grind
        have d : crossTo (edgesL H) (k + 1) = crossTo (edgesL H) k + cr (ptAt H k) (ptAt H ((k + 1) % H.length)) := by
          rw [show crossTo (edgesL H) (k + 1) = crossTo (edgesL H) k + (q1 (edgesL H) k * q4 (edgesL H) k - q2 (edgesL H) k * q3 (edgesL H) k) from rfl, e1, e2, e3, e4]; rfl
        omega
    have := gen H.length (Nat.le_refl _)
    rw [Nat.mod_self] at this
    have z : cr (ptAt H 0) (ptAt H 0) = 0 := by simp [cr]; rw [Int.mul_comm]; simp
    omega
  · exact Int.le_refl _
theorem bends_all (m : List P2) (h : ∀ k, k < m.length → turnAt m m.length k ≠ 0) : normB m = m := by
  unfold normB
  rw [bendsTo_filter, List.filter_eq_self.2 (fun i hi => by simpa using h i (by simpa using hi))]
  apply List.ext_getElem (by simp)
  intro i h1 h2
  simp [ptAt_get m i h2]
theorem Round.conv (h3 : 3 ≤ H.length) : convB (normL H) = true := by
  have hb := bends_all R H (fun k hk => by rw [R.turns h3 hk]; decide)
  have hc : normC H = H := by unfold normC; rw [hb, if_neg (by have := R.area h3; omega)]
  have hf : leastTo H H.length ≤ H.length := by have := (least_spec H H.length (by omega)).1; omega
  unfold convB normL
  rw [hc, rotL_len H _ hf, List.all_eq_true]
  intro k hk
  rw [List.mem_range] at hk
  rw [turnAt_rot H _ k hf hk, R.turns h3 (Nat.mod_lt _ (by omega))]
  rfl

/-! where -/
theorem argmin (f : Nat → Int) : ∀ n, 0 < n → ∃ k, k < n ∧ ∀ j, j < n → f k ≤ f j
  | 0, h => absurd h (by omega)
  | 1, _ => ⟨0, by omega, fun j hj => by obtain rfl : j = 0 := by omega
                                         exact Int.le_refl _⟩
  | n + 2, _ => by
    obtain ⟨k, hk, h⟩ := argmin f (n + 1) (by omega)
    by_cases hc : f k ≤ f (n + 1)
    · refine ⟨k, by omega, fun j hj => ?_⟩
      by_cases e : j = n + 1
      · subst e; exact hc
      · exact h j (by omega)
    · refine ⟨n + 1, by omega, fun j hj => ?_⟩
      by_cases e : j = n + 1
      · subst e; exact Int.le_refl _
      · have := h j (by omega); omega
theorem Round.low (h3 : 3 ≤ H.length) {p : P2} (hp : ∀ k, k < H.length → 0 < c3 (ptAt H k) (ptAt H ((k + 1) % H.length)) p) : ∃ k, k < H.length ∧ py H k ≤ p.2 := by
  obtain ⟨k, hk, hmin⟩ := argmin R (py H) H.length (by omega)
  refine ⟨k, hk, ?_⟩
  have hpr : (k + H.length - 1) % H.length < H.length := Nat.mod_lt _ (by omega)
  have hnx : (k + 1) % H.length < H.length := Nat.mod_lt _ (by omega)
  have D := R.bend h3 hk
  have a := hp _ hpr
  have b := hp k hk
  rw [prev_next hk] at a
  have m1 := hmin _ hpr
  have m2 := hmin _ hnx
  have id : c3 (ptAt H ((k + H.length - 1) % H.length)) (ptAt H k) (ptAt H ((k + 1) % H.length)) * (p.2 - py H k) = c3 (ptAt H k) (ptAt H ((k + 1) % H.length)) p * (py H ((k + H.length - 1) % H.length) - py H k) + c3 (ptAt H ((k + H.length - 1) % H.length)) (ptAt H k) p * (py H ((k + 1) % H.length) - py H k) := by
    simp only [c3, ptAt]; grind
  have b1 := Int.mul_nonneg (Int.le_of_lt b) (show 0 ≤ py H ((k + H.length - 1) % H.length) - py H k by omega)
  have b2 := Int.mul_nonneg (Int.le_of_lt a) (show 0 ≤ py H ((k + 1) % H.length) - py H k by omega)
  have := nn_of D (b := p.2 - py H k) (by omega)
  omega
theorem Round.high (h3 : 3 ≤ H.length) {p : P2} (hp : ∀ k, k < H.length → 0 < c3 (ptAt H k) (ptAt H ((k + 1) % H.length)) p) : ∃ k, k < H.length ∧ p.2 < py H k := by
  obtain ⟨k, hk, hmin⟩ := argmin R (fun i => - py H i) H.length (by omega)
  refine ⟨k, hk, ?_⟩
  have hpr : (k + H.length - 1) % H.length < H.length := Nat.mod_lt _ (by omega)
  have hnx : (k + 1) % H.length < H.length := Nat.mod_lt _ (by omega)
  have D := R.bend h3 hk
  have a := hp _ hpr
  have b := hp k hk
  rw [prev_next hk] at a
  have m1 := hmin _ hpr
  have m2 := hmin _ hnx

  have id : c3 (ptAt H ((k + H.length - 1) % H.length)) (ptAt H k) (ptAt H ((k + 1) % H.length)) * (py H k - p.2) = c3 (ptAt H k) (ptAt H ((k + 1) % H.length)) p * (py H k - py H ((k + H.length - 1) % H.length)) + c3 (ptAt H ((k + H.length - 1) % H.length)) (ptAt H k) p * (py H k - py H ((k + 1) % H.length)) := by
    simp only [c3, ptAt]; grind
  have b1 := Int.mul_nonneg (Int.le_of_lt b) (show 0 ≤ py H k - py H ((k + H.length - 1) % H.length) by omega)
  have b2 := Int.mul_nonneg (Int.le_of_lt a) (show 0 ≤ py H k - py H ((k + 1) % H.length) by omega)
  by_cases e1 : py H k = py H ((k + H.length - 1) % H.length)
  · by_cases e2 : py H k = py H ((k + 1) % H.length)
    · exfalso
      have : c3 (ptAt H ((k + H.length - 1) % H.length)) (ptAt H k) (ptAt H ((k + 1) % H.length)) = 0 := by
        simp only [c3, ptAt]; rw [← e1, ← e2]; simp
      omega
    · have := Int.mul_pos a (show 0 < py H k - py H ((k + 1) % H.length) by omega)
      have := ps_of D (b := py H k - p.2) (by omega)
      omega
  · have := Int.mul_pos b (show 0 < py H k - py H ((k + H.length - 1) % H.length) by omega)
    have := ps_of D (b := py H k - p.2) (by omega)
    omega
/-- an edge that goes up across a height -/
def upB (H : List P2) (q : Int) (k : Nat) : Bool := decide (py H k ≤ q) && decide (q < py H ((k + 1) % H.length))
theorem Round.pass {p : P2} (hp : ∀ k, k < H.length → 0 < c3 (ptAt H k) (ptAt H ((k + 1) % H.length)) p) {k : Nat} (hk : k < H.length) : passAt (edgesL H) p.1 p.2 k = upB H p.2 k := by
  obtain ⟨e1, e2, e3, e4⟩ := edgesL_at H k hk
  unfold passAt passB upB
  rw [e1, e2, e3, e4]
  have t1 := turn3 (ptAt H k) (ptAt H ((k + 1) % H.length)) p
  have t2 := turn3 (ptAt H ((k + 1) % H.length)) (ptAt H k) p
  have sw : c3 (ptAt H ((k + 1) % H.length)) (ptAt H k) p = - c3 (ptAt H k) (ptAt H ((k + 1) % H.length)) p := by simp only [c3]; grind
  rw [Int.sign_eq_one_of_pos (hp k hk)] at t1
  rw [sw, Int.sign_eq_neg_one_of_neg (by have := hp k hk; omega)] at t2
  simp only [ptAt] at t1 t2
  rw [t1, t2]
  by_cases hy : py H ((k + 1) % H.length) < py H k
  · rw [if_pos hy]
    rw [Bool.eq_iff_iff]
    simp
    omega
  · rw [if_neg hy]; simp
theorem Round.up_one (h3 : 3 ≤ H.length) {q : Int} {i j : Nat} (hi : i < H.length) (hj : j < H.length) (h1 : upB H q i = true) (h2 : upB H q j = true) : i = j := by
  have hin : (i + 1) % H.length < H.length := Nat.mod_lt _ (by omega)
  have hjn : (j + 1) % H.length < H.length := Nat.mod_lt _ (by omega)
  unfold upB at h1 h2
  simp only [Bool.and_eq_true, decide_eq_true_eq] at h1 h2
  by_cases e : i = j
  · exact e
  · exfalso
    have a1 := R.left hj (R.mem hi)
    have a2 := R.left hj (R.mem hin)
    have b1 := R.left hi (R.mem hj)
    have b2 := R.left hi (R.mem hjn)
    have st : 0 < c3 (ptAt H j) (ptAt H ((j + 1) % H.length)) (ptAt H i) := R.strict hj hi e (by
      intro e2; rw [e2] at h1; omega)
    have id : (py H ((i + 1) % H.length) - q) * c3 (ptAt H j) (ptAt H ((j + 1) % H.length)) (ptAt H i) + (q - py H i) * c3 (ptAt H j) (ptAt H ((j + 1) % H.length)) (ptAt H ((i + 1) % H.length))
        + ((py H ((j + 1) % H.length) - q) * c3 (ptAt H i) (ptAt H ((i + 1) % H.length)) (ptAt H j) + (q - py H j) * c3 (ptAt H i) (ptAt H ((i + 1) % H.length)) (ptAt H ((j + 1) % H.length))) = 0 := by
      simp only [c3, ptAt]; grind
    have m1 := Int.mul_pos (show 0 < py H ((i + 1) % H.length) - q by omega) st
    have m2 := Int.mul_nonneg (show 0 ≤ q - py H i by omega) a2
    have m3 := Int.mul_nonneg (show 0 ≤ py H ((j + 1) % H.length) - q by omega) b1
    have m4 := Int.mul_nonneg (show 0 ≤ q - py H j by omega) b2
    omega
theorem Round.up_some {q : Int} {a b : Nat} (ha : a < H.length) (hb : b < H.length) (h1 : py H a ≤ q) (h2 : q < py H b) : ∃ i, i < H.length ∧ upB H q i = true := by
  apply Classical.byContradiction
  intro hno
  have st : ∀ k, k < H.length → py H k ≤ q → py H ((k + 1) % H.length) ≤ q := fun k hk h => by
    apply Classical.byContradiction
    intro h'
    exact hno ⟨k, hk, by unfold upB; simp [h]; omega⟩
  have gen : ∀ d, py H ((a + d) % H.length) ≤ q := by
    intro d
    induction d with
    | zero => rw [Nat.add_zero, Nat.mod_eq_of_lt ha]; exact h1
    | succ d ih =>
      have := st _ (Nat.mod_lt (a + d) (by omega)) ih
      rw [Nat.mod_add_mod] at this
      exact this
  have := gen (b + (H.length - a))
  rw [show a + (b + (H.length - a)) = b + H.length by omega, Nat.add_mod_right, Nat.mod_eq_of_lt hb] at this
  omega
theorem Round.where_ne (h3 : 3 ≤ H.length) {p : P2} (hpl : p ∈ l) : whereI H p.1 p.2 ≠ 0 := by
  unfold whereI
  cases hn : anyOn (edgesL H) p.1 p.2 H.length
  · have hp : ∀ k, k < H.length → 0 < c3 (ptAt H k) (ptAt H ((k + 1) % H.length)) p := by
      intro k hk
      have s := (R.step k hk).2.2 p hpl
      rcases Int.lt_or_eq_of_le s.1 with h | h
      · exact h
      · exfalso
        have ho := anyOn_false.1 hn k hk
        obtain ⟨e1, e2, e3, e4⟩ := edgesL_at H k hk
        rw [onAt, ← onR_eq, e1, e2, e3, e4] at ho
        have hb := s.2 h.symm
        have v1 := valid_of R.ok (R.mem hk)
        have v2 := valid_of R.ok (R.mem (Nat.mod_lt (k + 1) (show 0 < H.length by omega)))
        have v3 := valid_of R.ok hpl
        have t := turn3 (ptAt H k) (ptAt H ((k + 1) % H.length)) p
        rw [← h] at t
        have t' : turnI (px H k) (py H k) (px H ((k + 1) % H.length)) (py H ((k + 1) % H.length)) p.1 p.2 = 0 := t
        have hc : (px H ((k + 1) % H.length) - px H k) * (p.2 - py H k) = (py H ((k + 1) % H.length) - py H k) * (p.1 - px H k) := by
          have : c3 (ptAt H k) (ptAt H ((k + 1) % H.length)) p = 0 := h.symm
          simp only [c3, ptAt] at this; omega
        unfold valid ptAt at v1 v2
        unfold valid at v3
        simp only [ky, ptAt] at hb
        have hbt : (min (px H k) (px H ((k + 1) % H.length)) ≤ p.1 ∧ p.1 ≤ max (px H k) (px H ((k + 1) % H.length))) ∧ (min (py H k) (py H ((k + 1) % H.length)) ≤ p.2 ∧ p.2 ≤ max (py H k) (py H ((k + 1) % H.length))) := by
          simp only at v1 v2
          rcases hb with hb | hb
          · exact (on_asc (by omega) hc).1 (by omega)
          · have := (on_asc (a := px H ((k + 1) % H.length)) (b := py H ((k + 1) % H.length)) (c := px H k) (d := py H k) (p := p.1) (q := p.2) (by omega) (by grind)).1 (by omega)
            omega
        have : onR p.1 p.2 (px H k) (py H k) (px H ((k + 1) % H.length)) (py H ((k + 1) % H.length)) = true := by
          unfold onR btwB
          rw [t']
          simp only [Bool.and_eq_true, decide_eq_true_eq, beq_iff_eq]
          exact ⟨hbt, trivial⟩
        rw [this] at ho; cases ho
    obtain ⟨a, ha, ha2⟩ := R.low h3 hp
    obtain ⟨b, hb, hb2⟩ := R.high h3 hp
    obtain ⟨i, hi, hiu⟩ := R.up_some ha hb ha2 hb2
    have odd : ∀ k, k ≤ H.length → oddTo (edgesL H) p.1 p.2 k = decide (i < k) := by
      intro k
      induction k with
      | zero => intro _; simp [oddTo]
      | succ k ih =>
        intro hk
        have ihk := ih (by omega)
        have hpk := R.pass hp (k := k) (by omega)
        simp only [oddTo, hpk, ihk]
        by_cases e : k = i
        · subst e; rw [hiu]; simp
        · have : upB H p.2 k = false := by
            cases hu : upB H p.2 k
            · rfl
            · exact absurd (R.up_one h3 (by omega) hi hu hiu) e
          rw [this]
          simp
          omega
    rw [odd _ (Nat.le_refl _)]
    simp [hi]
  · simp
end

/-! the hull of the hull -/
theorem hull_round {l : List P2} (hok : okL l = true) (h2 : 2 ≤ (ptsL l).length) : Round l (hullL l) := by
  obtain ⟨a, b, c, d⟩ := hull_spec hok h2
  exact ⟨hok, a, c, fun k hk h0 e => d k hk h0 (by rw [e])⟩
theorem pts_least {l : List P2} (hok : okL l = true) {p : P2} (hp : p ∈ l) : ky 1 (ptAt (ptsL l) 0) ≤ ky 1 p := by
  obtain ⟨hs, hm⟩ := ptsL_spec l
  obtain ⟨j, hj, he⟩ := List.getElem_of_mem ((hm p).2 hp)
  by_cases e : j = 0
  · subst e; rw [ptAt_get _ _ hj, he]; exact Int.le_refl _
  · have := List.pairwise_iff_getElem.1 hs 0 j (by omega) hj (by omega)
    rw [he] at this
    have h0 : ptAt (ptsL l) 0 = (ptsL l)[0]'(by omega) := ptAt_get _ _ (by omega)
    rw [← h0] at this
    have v : valid (ptAt (ptsL l) 0) := valid_of hok ((hm _).1 (by rw [h0]; exact List.getElem_mem _))
    have := (ky_lt v (valid_of hok hp)).1 this
    omega
theorem hull_mem {l : List P2} (hok : okL l = true) (h2 : 2 ≤ (ptsL l).length) {p : P2} (hp : p ∈ hullL l) : p ∈ l := by
  obtain ⟨i, hi, he⟩ := List.getElem_of_mem hp
  have := (hull_round hok h2).mem hi
  rw [ptAt_get _ _ hi, he] at this
  exact this
theorem pts_two {l : List P2} {p q : P2} (hp : p ∈ l) (hq : q ∈ l) (hne : p ≠ q) : 2 ≤ (ptsL l).length := by
  obtain ⟨_, hm⟩ := ptsL_spec l
  obtain ⟨i, hi, hie⟩ := List.getElem_of_mem ((hm p).2 hp)
  obtain ⟨j, hj, hje⟩ := List.getElem_of_mem ((hm q).2 hq)
  by_cases e : i = j
  · subst e; exact absurd (hie.symm.trans hje) hne
  · omega
theorem hull_again {l : List P2} (hok : okL l = true) (h2 : 2 ≤ (ptsL l).length) : 2 ≤ (ptsL (hullL l)).length ∧ hullL (hullL l) = hullL l := by
  have R := hull_round hok h2
  have hokH := R.okH
  have two := R.two
  have m0 : ptAt (hullL l) 0 ∈ hullL l := by rw [ptAt_get _ _ (by omega)]; exact List.getElem_mem _
  have m1 : ptAt (hullL l) 1 ∈ hullL l := by rw [ptAt_get _ _ (by omega)]; exact List.getElem_mem _
  have h2' : 2 ≤ (ptsL (hullL l)).length := pts_two m1 m0 (R.once 1 (by omega) (by omega))
  refine ⟨h2', ?_⟩
  have R' := hull_round hokH h2'
  have two' := R'.two
  have s0 : ptAt (hullL l) 0 = ptAt (ptsL l) 0 := (hull_spec hok h2).2.1
  have s0' : ptAt (hullL (hullL l)) 0 = ptAt (ptsL (hullL l)) 0 := (hull_spec hokH h2').2.1
  have first : ptAt (hullL (hullL l)) 0 = ptAt (hullL l) 0 := by
    have mm : ptAt (hullL (hullL l)) 0 ∈ hullL l := R'.mem (by omega)
    have a := pts_least hokH m0
    have b := pts_least hok (hull_mem hok h2 mm)
    rw [← s0'] at a
    rw [← s0] at b
    exact ky_inj (valid_of hokH mm) (valid_of hokH m0) (by omega)
  have stepH : ∀ k, k < (hullL l).length → Ext (hullL l) (ptAt (hullL l) k) (ptAt (hullL l) ((k + 1) % (hullL l).length)) := fun k hk => by
    obtain ⟨_, b, c⟩ := R.step k hk
    refine ⟨?_, b, fun r hr => c r (hull_mem hok h2 hr)⟩
    rw [ptAt_get _ _ (Nat.mod_lt _ (by omega))]; exact List.getElem_mem _
  have memH : ∀ k, k < (hullL l).length → ptAt (hullL l) k ∈ hullL l := fun k hk => by rw [ptAt_get _ _ hk]; exact List.getElem_mem _
  have gen : ∀ k, k < (hullL l).length → k < (hullL (hullL l)).length → ptAt (hullL (hullL l)) k = ptAt (hullL l) k := by
    intro k
    induction k with
    | zero => intro _ _; exact first
    | succ k ih =>
      intro h1 h2
      have e := ih (by omega) (by omega)
      have a := R'.step k (by omega)
      have b := stepH k (by omega)
      rw [e, Nat.mod_eq_of_lt h2] at a
      rw [Nat.mod_eq_of_lt h1] at b
      exact ext_unique hokH (memH k (by omega)) a b
  have len : (hullL (hullL l)).length = (hullL l).length := by
    rcases Nat.lt_trichotomy (hullL (hullL l)).length (hullL l).length with h | h | h
    · exfalso
      have e := gen ((hullL (hullL l)).length - 1) (by omega) (by omega)
      have a := R'.step ((hullL (hullL l)).length - 1) (by omega)
      have b := stepH ((hullL (hullL l)).length - 1) (by omega)
      rw [e, show (hullL (hullL l)).length - 1 + 1 = (hullL (hullL l)).length by omega, Nat.mod_self] at a
      rw [show (hullL (hullL l)).length - 1 + 1 = (hullL (hullL l)).length by omega, Nat.mod_eq_of_lt h] at b
      have := ext_unique hokH (memH _ (by omega)) a b
      rw [first] at this
      exact R.once _ h (by omega) this.symm
    · exact h
    · exfalso
      have e := gen ((hullL l).length - 1) (by omega) (by omega)
      have a := R'.step ((hullL l).length - 1) (by omega)
      have b := stepH ((hullL l).length - 1) (by omega)
      rw [e, show (hullL l).length - 1 + 1 = (hullL l).length by omega, Nat.mod_eq_of_lt h] at a
      rw [show (hullL l).length - 1 + 1 = (hullL l).length by omega, Nat.mod_self] at b
      have := ext_unique hokH (memH _ (by omega)) a b
      rw [← first] at this
      exact R'.once _ h (by omega) this
  apply List.ext_getElem len
  intro i h1 h2
  rw [← ptAt_get _ _ h1, ← ptAt_get _ _ h2]
  exact gen i h2 h1

end Go.Proofs.YtpdfbboagaflhaaGreat

set_option linter.unusedSimpArgs false
set_option linter.unusedVariables false
set_option linter.unusedSectionVars false
namespace Go.Proofs.YtpdfbboagaflhaaGreat
open Go.RowKit

/-! the pieces of segments -/
def eA (s : S4) : P2 := (s.1, s.2.1)
def eB (s : S4) : P2 := (s.2.2.1, s.2.2.2)
def segAt (l : List S4) (k : Nat) : S4 := (q1 l k, q2 l k, q3 l k, q4 l k)
def okSeg (s : S4) : Bool := okS s.1 s.2.1 s.2.2.1 s.2.2.2
/-- a point of a segment -/
def onS (p : P2) (s : S4) : Prop := c3 (eA s) (eB s) p = 0 ∧ ((ky 1 (eA s) ≤ ky 1 p ∧ ky 1 p ≤ ky 1 (eB s)) ∨ (ky 1 (eB s) ≤ ky 1 p ∧ ky 1 p ≤ ky 1 (eA s)))
theorem okSeg_iff {s : S4} : okSeg s = true ↔ valid (eA s) ∧ valid (eB s) ∧ eA s ≠ eB s := by
  unfold okSeg valid eA eB
  rw [okS_iff]
  simp only [ne_eq, Prod.mk.injEq]
theorem onR_iff {p : P2} {s : S4} (hp : valid p) (hs : okSeg s = true) : onR p.1 p.2 s.1 s.2.1 s.2.2.1 s.2.2.2 = true ↔ onS p s := by
  obtain ⟨v1, v2, _⟩ := okSeg_iff.1 hs
  obtain ⟨a, b, c, d⟩ := s
  obtain ⟨x, y⟩ := p
  unfold valid eA eB at *
  unfold onS onR btwB
  have t : turnI a b c d x y = Int.sign (c3 (a, b) (c, d) (x, y)) := turn3 (a, b) (c, d) (x, y)
  simp only [Bool.and_eq_true, decide_eq_true_eq, beq_iff_eq, t, Int.sign_eq_zero_iff_zero, eA, eB]
  constructor
  · rintro ⟨h1, h2⟩
    refine ⟨h2, ?_⟩
    have hc : (c - a) * (y - b) = (d - b) * (x - a) := by simp only [c3] at h2; omega
    by_cases hl : a < c ∨ (a = c ∧ b ≤ d)
    · left
      have := (on_asc hl hc).2 h1
      simp only [ky] at *; omega
    · right
      have := (on_asc (a := c) (b := d) (c := a) (d := b) (p := x) (q := y) (by omega) (by grind)).2 (by omega)
      simp only [ky] at *; omega
  · rintro ⟨h2, h1⟩
    refine ⟨?_, h2⟩
    have hc : (c - a) * (y - b) = (d - b) * (x - a) := by simp only [c3] at h2; omega
    simp only [ky] at h1
    simp only at v1 v2 hp
    rcases h1 with h1 | h1
    · exact (on_asc (by omega) hc).1 (by omega)
    · have := (on_asc (a := c) (b := d) (c := a) (d := b) (p := x) (q := y) (by omega) (by grind)).1 (by omega)
      omega
theorem onS_A (s : S4) : onS (eA s) s := ⟨by simp [c3], by omega⟩
theorem onS_B (s : S4) : onS (eB s) s := ⟨by simp only [c3]; rw [Int.mul_comm]; omega, by omega⟩
theorem ky_ne {p q : P2} (hp : valid p) (hq : valid q) (h : p ≠ q) : ky 1 p ≠ ky 1 q := fun e => h (ky_inj hp hq e)
/-- three points of a segment are on one line -/
theorem on3 {s : S4} (hs : okSeg s = true) {p q r : P2} (h1 : onS p s) (h2 : onS q s) (h3 : onS r s) : c3 p q r = 0 := by
  obtain ⟨v1, v2, hne⟩ := okSeg_iff.1 hs
  have k := ky_ne v1 v2 hne
  have id : (ky 1 (eB s) - ky 1 (eA s)) * c3 p q r = (ky 1 r - ky 1 q) * c3 (eA s) (eB s) p + (ky 1 p - ky 1 r) * c3 (eA s) (eB s) q + (ky 1 q - ky 1 p) * c3 (eA s) (eB s) r := by
    simp only [ky, c3]; grind
  rw [h1.1, h2.1, h3.1] at id
  simp only [Int.mul_zero, Int.add_zero] at id
  exact (Int.mul_eq_zero.1 id).resolve_left (by omega)

/-! the cuts of a segment -/
theorem ptAt_mem {l : List P2} {i : Nat} (h : i < l.length) : ptAt l i ∈ l := by rw [ptAt_get l i h]; exact List.getElem_mem h
theorem mem_ptAt {l : List P2} {p : P2} (h : p ∈ l) : ∃ i, i < l.length ∧ p = ptAt l i := by
  obtain ⟨i, hi, he⟩ := List.getElem_of_mem h
  exact ⟨i, hi, by rw [ptAt_get l i hi, he]⟩
theorem cutsTo_mem {E : List P2} {a b c d : Int} (hE : ∀ p, p ∈ E → valid p) (hs : okSeg (a, b, c, d) = true) : ∀ k, k ≤ E.length → ∀ p, p ∈ cutsTo E a b c d k ↔ (p = (a, b) ∨ p = (c, d) ∨ (∃ i, i < k ∧ p = ptAt E i ∧ onS p (a, b, c, d)))
  | 0, _, p => by simp [cutsTo]
  | k + 1, h, p => by
    have ih := cutsTo_mem hE hs k (by omega) p
    have ho := onR_iff (hE _ (ptAt_mem (show k < E.length by omega))) hs
    rw [onR_eq] at ho
    have ho' : onB (px E k) (py E k) a b c d = true ↔ onS (ptAt E k) (a, b, c, d) := ho
    simp only [cutsTo]
    by_cases hc : onB (px E k) (py E k) a b c d = true
    · rw [if_pos hc, List.mem_append, ih, List.mem_singleton]
      have hon := ho'.1 hc
      constructor
      · rintro ((h1 | h1 | ⟨i, h1, h2, h3⟩) | h1)
        · exact .inl h1
        · exact .inr (.inl h1)
        · exact .inr (.inr ⟨i, by omega, h2, h3⟩)
        · exact .inr (.inr ⟨k, by omega, h1, by rw [h1]; exact hon⟩)
      · rintro (h1 | h1 | ⟨i, h1, h2, h3⟩)
        · exact .inl (.inl h1)
        · exact .inl (.inr (.inl h1))
        · by_cases e : i = k
          · subst e; exact .inr h2
          · exact .inl (.inr (.inr ⟨i, by omega, h2, h3⟩))
    · rw [if_neg hc, ih]
      constructor
      · rintro (h1 | h1 | ⟨i, h1, h2, h3⟩)
        · exact .inl h1
        · exact .inr (.inl h1)
        · exact .inr (.inr ⟨i, by omega, h2, h3⟩)
      · rintro (h1 | h1 | ⟨i, h1, h2, h3⟩)
        · exact .inl h1
        · exact .inr (.inl h1)
        · by_cases e : i = k
          · subst e; rw [h2] at h3; exact absurd (ho'.2 h3) hc
          · exact .inr (.inr ⟨i, by omega, h2, h3⟩)
theorem cutsL_spec {E : List P2} {s : S4} (hE : ∀ p, p ∈ E → valid p) (hs : okSeg s = true) (hA : eA s ∈ E) (hB : eB s ∈ E) :
    (cutsL E s.1 s.2.1 s.2.2.1 s.2.2.2).Pairwise lexLt ∧ ∀ p, p ∈ cutsL E s.1 s.2.1 s.2.2.1 s.2.2.2 ↔ (p ∈ E ∧ onS p s) := by
  obtain ⟨a, b, c, d⟩ := s
  have hlen : (sortP (cutsTo E a b c d E.length)).length = (cutsTo E a b c d E.length).length := List.length_mergeSort _
  obtain ⟨h1, h2, _⟩ := dd_spec (sortP_sorted (cutsTo E a b c d E.length)) (cutsTo E a b c d E.length).length (by omega)
  refine ⟨h1, fun p => ?_⟩
  show p ∈ ddTo (sortP (cutsTo E a b c d E.length)) (cutsTo E a b c d E.length).length ↔ _
  rw [h2, ← hlen, List.take_length, sortP_mem, cutsTo_mem hE hs E.length (Nat.le_refl _) p]
  constructor
  · rintro (h | h | ⟨i, hi, he, ho⟩)
    · rw [h]; exact ⟨hA, onS_A (a, b, c, d)⟩
    · rw [h]; exact ⟨hB, onS_B (a, b, c, d)⟩
    · exact ⟨by rw [he]; exact ptAt_mem hi, ho⟩
  · rintro ⟨hm, ho⟩
    obtain ⟨i, hi, he⟩ := mem_ptAt hm
    exact .inr (.inr ⟨i, hi, he, ho⟩)
theorem endsTo_mem (l : List S4) : ∀ k, ∀ p, p ∈ endsTo l k ↔ ∃ i, i < k ∧ (p = eA (segAt l i) ∨ p = eB (segAt l i))
  | 0, p => by simp [endsTo]
  | k + 1, p => by
    simp only [endsTo, List.mem_append, endsTo_mem l k p, List.mem_cons, List.not_mem_nil, or_false]
    constructor
    · rintro (⟨i, hi, h⟩ | h)
      · exact ⟨i, by omega, h⟩
      · exact ⟨k, by omega, h⟩
    · rintro ⟨i, hi, h⟩
      by_cases e : i = k
      · subst e; exact .inr h
      · exact .inl ⟨i, by omega, h⟩
theorem pairs_mem (C : List P2) (k : Nat) (x : S4) : x ∈ pairsTo C k ↔ ∃ i, i < k ∧ eA x = ptAt C i ∧ eB x = ptAt C (i + 1) := by
  unfold pairsTo
  rw [List.mem_map]
  simp only [List.mem_range]
  constructor
  · rintro ⟨i, hi, rfl⟩; exact ⟨i, hi, rfl, rfl⟩
  · rintro ⟨i, hi, h1, h2⟩
    refine ⟨i, hi, ?_⟩
    obtain ⟨a, b, c, d⟩ := x
    simp only [eA, eB, ptAt, Prod.mk.injEq] at h1 h2
    simp only [Prod.mk.injEq]
    exact ⟨h1.1.symm, h1.2.symm, h2.1.symm, h2.2.symm⟩
theorem parts_mem (l : List S4) (E : List P2) : ∀ k, ∀ x, x ∈ partsTo l E k ↔ ∃ i, i < k ∧ x ∈ piecesL E (q1 l i) (q2 l i) (q3 l i) (q4 l i)
  | 0, x => by simp [partsTo]
  | k + 1, x => by
    simp only [partsTo, List.mem_append, parts_mem l E k x]
    constructor
    · rintro (⟨i, hi, h⟩ | h)
      · exact ⟨i, by omega, h⟩
      · exact ⟨k, by omega, h⟩
    · rintro ⟨i, hi, h⟩
      by_cases e : i = k
      · subst e; exact .inr h
      · exact .inl ⟨i, by omega, h⟩

/-- a piece of a segment: two neighbouring cuts -/
structure Piece (E : List P2) (s x : S4) : Prop where
  lt : lexLt (eA x) (eB x)
  inA : eA x ∈ E ∧ onS (eA x) s
  inB : eB x ∈ E ∧ onS (eB x) s
  gap : ∀ p, p ∈ E → onS p s → ¬ (lexLt (eA x) p ∧ lexLt p (eB x))
theorem lex_lt {l : List P2} (h : l.Pairwise lexLt) {i j : Nat} (hj : j < l.length) (hij : i < j) : lexLt (ptAt l i) (ptAt l j) := by
  rw [ptAt_get _ _ (by omega), ptAt_get _ _ hj]
  exact List.pairwise_iff_getElem.1 h i j (by omega) hj hij
theorem piece_of {E : List P2} {s : S4} (hE : ∀ p, p ∈ E → valid p) (hs : okSeg s = true) (hA : eA s ∈ E) (hB : eB s ∈ E) {x : S4} : x ∈ piecesL E s.1 s.2.1 s.2.2.1 s.2.2.2 ↔ Piece E s x := by
  obtain ⟨h1, h2⟩ := cutsL_spec hE hs hA hB
  unfold piecesL
  rw [pairs_mem]
  generalize cutsL E s.1 s.2.1 s.2.2.1 s.2.2.2 = C at *
  constructor
  · rintro ⟨i, hi, e1, e2⟩
    refine ⟨by rw [e1, e2]; exact lex_lt h1 (by omega) (by omega), by rw [e1]; exact (h2 _).1 (ptAt_mem (by omega)), by rw [e2]; exact (h2 _).1 (ptAt_mem (by omega)), ?_⟩
    intro p hp ho ⟨g1, g2⟩
    obtain ⟨j, hj, he⟩ := mem_ptAt ((h2 p).2 ⟨hp, ho⟩)
    rw [e1, he] at g1
    rw [e2, he] at g2
    have asy : ∀ {a b : P2}, lexLt a b → ¬ lexLt b a := fun h h' => by unfold lexLt at *; omega
    rcases Nat.lt_trichotomy j i with h | h | h
    · exact asy g1 (lex_lt h1 (by omega) h)
    · subst h; exact asy g1 g1
    · by_cases e : j = i + 1
      · subst e; exact asy g2 g2
      · exact asy g2 (lex_lt h1 hj (by omega))
  · rintro ⟨g1, g2, g3, g4⟩
    obtain ⟨i, hi, ei⟩ := mem_ptAt ((h2 _).2 g2)
    obtain ⟨j, hj, ej⟩ := mem_ptAt ((h2 _).2 g3)
    have asy : ∀ {a b : P2}, lexLt a b → ¬ lexLt b a := fun h h' => by unfold lexLt at *; omega
    rw [ei, ej] at g1
    have hij : i < j := by
      rcases Nat.lt_trichotomy j i with h | h | h
      · exact absurd (lex_lt h1 hi h) (asy g1)
      · subst h; exact absurd g1 (asy g1)
      · exact h
    by_cases e : j = i + 1
    · subst e; exact ⟨i, by omega, ei, ej⟩
    · exfalso
      have m := (h2 _).1 (ptAt_mem (l := C) (i := i + 1) (by omega))
      refine g4 _ m.1 m.2 ⟨?_, ?_⟩
      · rw [ei]; exact lex_lt h1 (by omega) (by omega)
      · rw [ej]; exact lex_lt h1 hj (by omega)

/-! how pieces meet -/
section
variable {E : List P2} (hE : ∀ p, p ∈ E → valid p) {s t x y : S4} (hs : okSeg s = true) (ht : okSeg t = true)
include hE
theorem Piece.ok (P : Piece E s x) : okSeg x = true := by
  refine okSeg_iff.2 ⟨hE _ P.inA.1, hE _ P.inB.1, fun e => ?_⟩
  have := P.lt; rw [e] at this; unfold lexLt at this; omega
theorem Piece.kl (P : Piece E s x) : ky 1 (eA x) < ky 1 (eB x) := (ky_lt (hE _ P.inA.1) (hE _ P.inB.1)).1 P.lt
include hs
/-- a point of a piece is one of the segment -/
theorem Piece.sub (P : Piece E s x) {p : P2} (hp : valid p) (h : onS p x) : onS p s := by
  obtain ⟨v1, v2, hne⟩ := okSeg_iff.1 hs
  have k := ky_ne v1 v2 hne
  have kx := P.kl hE
  have a := P.inA.2
  have b := P.inB.2
  have id : (ky 1 (eB x) - ky 1 (eA x)) * c3 (eA s) (eB s) p = (ky 1 (eB x) - ky 1 p) * c3 (eA s) (eB s) (eA x) + (ky 1 p - ky 1 (eA x)) * c3 (eA s) (eB s) (eB x) + (ky 1 (eB s) - ky 1 (eA s)) * c3 (eA x) (eB x) p := by
    simp only [ky, c3]; grind
  rw [a.1, b.1, h.1] at id
  simp only [Int.mul_zero, Int.add_zero] at id
  refine ⟨(Int.mul_eq_zero.1 id).resolve_left (by omega), ?_⟩
  have h2 := h.2
  have a2 := a.2
  have b2 := b.2
  omega
omit hs
include ht
theorem Piece.end_of (P : Piece E t y) {p : P2} (hp : p ∈ E) (h : onS p y) : p = eA y ∨ p = eB y := by
  have v := hE p hp
  have g := P.gap p hp (P.sub hE ht v h)
  have k := P.kl hE
  rw [ky_lt (hE _ P.inA.1) v, ky_lt v (hE _ P.inB.1)] at g
  have h2 := h.2
  by_cases e : ky 1 p = ky 1 (eA y)
  · left; exact ky_inj v (hE _ P.inA.1) e
  · right; exact ky_inj v (hE _ P.inB.1) (by omega)
end
theorem S4_ext {x y : S4} (h1 : eA x = eA y) (h2 : eB x = eB y) : x = y := by
  obtain ⟨a, b, c, d⟩ := x
  obtain ⟨e, f, g, h⟩ := y
  simp only [eA, eB, Prod.mk.injEq] at h1 h2
  simp only [Prod.mk.injEq]; exact ⟨h1.1, h1.2, h2.1, h2.2⟩
def meetS (x y : S4) : Int := meetI x.1 x.2.1 x.2.2.1 x.2.2.2 y.1 y.2.1 y.2.2.1 y.2.2.2
theorem turnS (x : S4) (p : P2) : turnI x.1 x.2.1 x.2.2.1 x.2.2.2 p.1 p.2 = Int.sign (c3 (eA x) (eB x) p) := turn3 (eA x) (eB x) p
theorem meetS_comm {x y : S4} (h1 : okSeg x = true) (h2 : okSeg y = true) : meetS y x = meetS x y := meetI_comm h1 h2
theorem sign_mul_neg {a b : Int} (h : Int.sign a * Int.sign b < 0) : (a < 0 ∧ 0 < b) ∨ (0 < a ∧ b < 0) := by
  rcases Int.lt_trichotomy a 0 with ha | ha | ha
  · rw [Int.sign_eq_neg_one_of_neg ha] at h
    rcases Int.lt_trichotomy b 0 with hb | hb | hb
    · rw [Int.sign_eq_neg_one_of_neg hb] at h; omega
    · rw [hb] at h; simp at h
    · exact .inl ⟨ha, hb⟩
  · rw [ha] at h; simp at h
  · rw [Int.sign_eq_one_of_pos ha] at h
    rcases Int.lt_trichotomy b 0 with hb | hb | hb
    · exact .inr ⟨ha, hb⟩
    · rw [hb] at h; simp at h
    · rw [Int.sign_eq_one_of_pos hb] at h; omega
/-- the ends of a piece are on different sides of a line: then so are the ends of its segment -/
theorem sides {t y : S4} {u v : P2} (ht : okSeg t = true) (vy1 : valid (eA y)) (vy2 : valid (eB y)) (h1 : onS (eA y) t) (h2 : onS (eB y) t) (h : Int.sign (c3 u v (eA y)) * Int.sign (c3 u v (eB y)) < 0) : Int.sign (c3 u v (eA t)) * Int.sign (c3 u v (eB t)) < 0 := by
  obtain ⟨w1, w2, hne⟩ := okSeg_iff.1 ht
  have k := ky_ne w1 w2 hne
  have id : ∀ z : P2, onS z t → (ky 1 (eB t) - ky 1 (eA t)) * c3 u v z = (ky 1 (eB t) - ky 1 z) * c3 u v (eA t) + (ky 1 z - ky 1 (eA t)) * c3 u v (eB t) := by
    intro z hz
    have : (ky 1 (eB t) - ky 1 (eA t)) * c3 u v z = (ky 1 (eB t) - ky 1 z) * c3 u v (eA t) + (ky 1 z - ky 1 (eA t)) * c3 u v (eB t) + (ky 1 v - ky 1 u) * c3 (eA t) (eB t) z := by
      simp only [ky, c3]; grind
    rw [hz.1] at this
    simpa using this
  have i1 := id _ h1
  have i2 := id _ h2
  have b1 := h1.2
  have b2 := h2.2
  have pos : ∀ z : P2, onS z t → 0 ≤ c3 u v (eA t) → 0 ≤ c3 u v (eB t) → 0 ≤ c3 u v z := by
    intro z hz ha hb
    have i := id z hz
    have b := hz.2
    rcases Int.lt_or_gt_of_ne k with k' | k'
    · have m1 := Int.mul_nonneg (show 0 ≤ ky 1 (eB t) - ky 1 z by omega) ha
      have m2 := Int.mul_nonneg (show 0 ≤ ky 1 z - ky 1 (eA t) by omega) hb
      exact nn_of (show 0 < ky 1 (eB t) - ky 1 (eA t) by omega) (by omega)
    · have m1 := Int.mul_nonneg (show 0 ≤ -(ky 1 (eB t) - ky 1 z) by omega) ha
      have m2 := Int.mul_nonneg (show 0 ≤ -(ky 1 z - ky 1 (eA t)) by omega) hb
      rw [Int.neg_mul] at m1 m2
      refine nn_of (a := -(ky 1 (eB t) - ky 1 (eA t))) (by omega) ?_
      rw [Int.neg_mul]; omega
  have neg : ∀ z : P2, onS z t → c3 u v (eA t) ≤ 0 → c3 u v (eB t) ≤ 0 → c3 u v z ≤ 0 := by
    intro z hz ha hb
    have i := id z hz
    have b := hz.2
    rcases Int.lt_or_gt_of_ne k with k' | k'
    · have m1 := Int.mul_nonneg (show 0 ≤ ky 1 (eB t) - ky 1 z by omega) (show 0 ≤ - c3 u v (eA t) by omega)
      have m2 := Int.mul_nonneg (show 0 ≤ ky 1 z - ky 1 (eA t) by omega) (show 0 ≤ - c3 u v (eB t) by omega)
      rw [Int.mul_neg] at m1 m2
      have := nn_of (a := ky 1 (eB t) - ky 1 (eA t)) (b := - c3 u v z) (by omega) (by rw [Int.mul_neg]; omega)
      omega
    · have m1 := Int.mul_nonneg (show 0 ≤ -(ky 1 (eB t) - ky 1 z) by omega) (show 0 ≤ - c3 u v (eA t) by omega)
      have m2 := Int.mul_nonneg (show 0 ≤ -(ky 1 z - ky 1 (eA t)) by omega) (show 0 ≤ - c3 u v (eB t) by omega)
      rw [Int.neg_mul_neg] at m1 m2
      have := nn_of (a := -(ky 1 (eB t) - ky 1 (eA t))) (b := - c3 u v z) (by omega) (by rw [Int.neg_mul_neg]; omega)
      omega
  have hd := sign_mul_neg h
  rcases Int.lt_trichotomy (c3 u v (eA t)) 0 with ha | ha | ha
  · rcases Int.lt_or_le 0 (c3 u v (eB t)) with hb | hb
    · rw [Int.sign_eq_neg_one_of_neg ha, Int.sign_eq_one_of_pos hb]; decide
    · have := neg _ h1 (by omega) hb; have := neg _ h2 (by omega) hb; omega
  · rcases Int.lt_or_le 0 (c3 u v (eB t)) with hb | hb
    · have := pos _ h1 (by omega) (by omega); have := pos _ h2 (by omega) (by omega); omega
    · have := neg _ h1 (by omega) hb; have := neg _ h2 (by omega) hb; omega
  · rcases Int.lt_or_le (c3 u v (eB t)) 0 with hb | hb
    · rw [Int.sign_eq_one_of_pos ha, Int.sign_eq_neg_one_of_neg hb]; decide
    · have := pos _ h1 (by omega) (by omega); have := pos _ h2 (by omega) (by omega); omega
/-- the line of a piece is that of its segment -/
theorem line_sign {s x : S4} (hs : okSeg s = true) (h1 : onS (eA x) s) (h2 : onS (eB x) s) (p q : P2) (h : Int.sign (c3 (eA x) (eB x) p) * Int.sign (c3 (eA x) (eB x) q) < 0) : Int.sign (c3 (eA s) (eB s) p) * Int.sign (c3 (eA s) (eB s) q) < 0 := by
  obtain ⟨w1, w2, hne⟩ := okSeg_iff.1 hs
  have k := ky_ne w1 w2 hne
  have id : ∀ z : P2, (ky 1 (eB s) - ky 1 (eA s)) * c3 (eA x) (eB x) z = (ky 1 (eB x) - ky 1 (eA x)) * c3 (eA s) (eB s) z := by
    intro z
    have : (ky 1 (eB s) - ky 1 (eA s)) * c3 (eA x) (eB x) z = (ky 1 (eB x) - ky 1 (eA x)) * c3 (eA s) (eB s) z + (ky 1 z - ky 1 (eB x)) * c3 (eA s) (eB s) (eA x) + (ky 1 (eA x) - ky 1 z) * c3 (eA s) (eB s) (eB x) := by
      simp only [ky, c3]; grind
    rw [h1.1, h2.1] at this
    simpa using this
  have s1 := congrArg Int.sign (id p)
  have s2 := congrArg Int.sign (id q)
  rw [Int.sign_mul, Int.sign_mul] at s1 s2
  have hk : Int.sign (ky 1 (eB s) - ky 1 (eA s)) * Int.sign (ky 1 (eB s) - ky 1 (eA s)) = 1 := by
    rcases sign_ne (show ky 1 (eB s) - ky 1 (eA s) ≠ 0 by omega) with e | e <;> rw [e] <;> rfl
  have e1 : Int.sign (c3 (eA x) (eB x) p) * Int.sign (c3 (eA x) (eB x) q) = Int.sign (ky 1 (eB x) - ky 1 (eA x)) * Int.sign (ky 1 (eB x) - ky 1 (eA x)) * (Int.sign (c3 (eA s) (eB s) p) * Int.sign (c3 (eA s) (eB s) q)) := by
    calc _ = (Int.sign (ky 1 (eB s) - ky 1 (eA s)) * Int.sign (ky 1 (eB s) - ky 1 (eA s))) * (Int.sign (c3 (eA x) (eB x) p) * Int.sign (c3 (eA x) (eB x) q)) := by rw [hk, Int.one_mul]
      _ = (Int.sign (ky 1 (eB s) - ky 1 (eA s)) * Int.sign (c3 (eA x) (eB x) p)) * (Int.sign (ky 1 (eB s) - ky 1 (eA s)) * Int.sign (c3 (eA x) (eB x) q)) := by grind
      _ = _ := by rw [s1, s2]; grind
  rw [e1] at h
  generalize Int.sign (c3 (eA s) (eB s) p) * Int.sign (c3 (eA s) (eB s) q) = z at *
  have hw : Int.sign (ky 1 (eB x) - ky 1 (eA x)) = 0 ∨ Int.sign (ky 1 (eB x) - ky 1 (eA x)) = 1 ∨ Int.sign (ky 1 (eB x) - ky 1 (eA x)) = -1 := by
    by_cases e : ky 1 (eB x) - ky 1 (eA x) = 0
    · left; rw [e]; rfl
    · right; exact sign_ne e
  rcases hw with e | e | e <;> rw [e] at h <;> omega
/-- pieces meet in ends alone -/
theorem pieces_meet {E : List P2} (hE : ∀ p, p ∈ E → valid p) {s t x y : S4} (hs : okSeg s = true) (ht : okSeg t = true) (P : Piece E s x) (S : Piece E t y) (hne : x ≠ y) (hm : s = t ∨ meetS s t ≠ 3) : meetS x y = 0 ∨ meetS x y = 1 := by
  have ox := P.ok hE
  have oy := S.ok hE
  have dx := (okSeg_iff.1 ox).2.2
  have dy := (okSeg_iff.1 oy).2.2
  have dx' : ¬ (x.1 = x.2.2.1 ∧ x.2.1 = x.2.2.2) := fun ⟨u, v⟩ => dx (Prod.ext u v)
  have dy' : ¬ (y.1 = y.2.2.1 ∧ y.2.1 = y.2.2.2) := fun ⟨u, v⟩ => dy (Prod.ext u v)
  have key : ∀ p, p ∈ endsL x.1 x.2.1 x.2.2.1 x.2.2.2 y.1 y.2.1 y.2.2.1 y.2.2.2 → (p = eA x ∨ p = eB x) ∧ (p = eA y ∨ p = eB y) := by
    intro p hp
    obtain ⟨h1, h2⟩ := ends_sub dx' dy' p hp
    have hpE : p ∈ E := by
      rcases h1 with h | h | h | h
      · rw [h]; exact P.inA.1
      · rw [h]; exact P.inB.1
      · rw [h]; exact S.inA.1
      · rw [h]; exact S.inB.1
    unfold bothB at h2
    rw [Bool.and_eq_true] at h2
    exact ⟨P.end_of hE hs hpE ((onR_iff (hE _ hpE) ox).1 h2.1), S.end_of hE ht hpE ((onR_iff (hE _ hpE) oy).1 h2.2)⟩
  have nd : ∀ p q, (p = eA x ∨ p = eB x) ∧ (p = eA y ∨ p = eB y) → (q = eA x ∨ q = eB x) ∧ (q = eA y ∨ q = eB y) → p = q := by
    rintro p q ⟨a1, a2⟩ ⟨b1, b2⟩
    apply Classical.byContradiction
    intro hpq
    have lx := P.kl hE
    have ly := S.kl hE
    apply hne
    rcases a1 with a1 | a1 <;> rcases b1 with b1 | b1 <;> rcases a2 with a2 | a2 <;> rcases b2 with b2 | b2
    all_goals first
      | exact absurd (a1.trans b1.symm) hpq
      | exact absurd (a2.trans b2.symm) hpq
      | exact S4_ext (a1.symm.trans a2) (b1.symm.trans b2)
      | exact S4_ext (b1.symm.trans b2) (a1.symm.trans a2)
      | (exfalso; rw [← a1, ← b1] at lx; rw [← a2, ← b2] at ly; omega)
  have me : meetS x y = meetOf (endsL x.1 x.2.1 x.2.2.1 x.2.2.2 y.1 y.2.1 y.2.2.1 y.2.2.2) x.1 x.2.1 x.2.2.1 x.2.2.2 y.1 y.2.1 y.2.2.1 y.2.2.2 := (meet_eq ox oy).symm
  have nodup : ∀ (m : List P2) (o : List P2), o.Nodup → (m.foldl (endStep x.1 x.2.1 x.2.2.1 x.2.2.2 y.1 y.2.1 y.2.2.1 y.2.2.2) o).Nodup := by
    intro m
    induction m with
    | nil => intro o ho; exact ho
    | cons p m ih =>
      intro o ho
      rw [List.foldl_cons]
      apply ih
      unfold endStep
      split
      next hc =>
        rw [Bool.and_eq_true] at hc
        have hnm : p ∉ o := fun h => by have := hc.2; simp [h] at this
        rw [List.nodup_append]
        exact ⟨ho, by simp, fun a ha b hb e => by simp at hb; rw [hb] at e; rw [e] at ha; exact hnm ha⟩
      next => exact ho
  have nd1 : (endsL x.1 x.2.1 x.2.2.1 x.2.2.2 y.1 y.2.1 y.2.2.1 y.2.2.2).Nodup := nodup _ [] List.nodup_nil
  rw [me]
  cases hl : endsL x.1 x.2.1 x.2.2.1 x.2.2.2 y.1 y.2.1 y.2.2.1 y.2.2.2 with
  | nil =>
    simp only [meetOf]
    split
    next hc =>
      exfalso
      have c1 : Int.sign (c3 (eA x) (eB x) (eA y)) * Int.sign (c3 (eA x) (eB x) (eB y)) < 0 := by
        rw [← turnS, ← turnS]; exact hc.1
      have c2 : Int.sign (c3 (eA y) (eB y) (eA x)) * Int.sign (c3 (eA y) (eB y) (eB x)) < 0 := by
        rw [← turnS, ← turnS]; exact hc.2
      by_cases est : s = t
      · subst est
        rw [on3 hs P.inA.2 P.inB.2 S.inA.2] at c1
        simp at c1
      · have d1 := sides ht (hE _ S.inA.1) (hE _ S.inB.1) S.inA.2 S.inB.2 (line_sign hs P.inA.2 P.inB.2 _ _ c1)
        have d2 := sides hs (hE _ P.inA.1) (hE _ P.inB.1) P.inA.2 P.inB.2 (line_sign ht S.inA.2 S.inB.2 _ _ c2)
        rw [← turnS, ← turnS] at d1 d2
        refine (hm.resolve_left est) ?_
        have e1 : ¬ (turnI s.1 s.2.1 s.2.2.1 s.2.2.2 t.1 t.2.1 = 0 ∧ turnI s.1 s.2.1 s.2.2.1 s.2.2.2 t.2.2.1 t.2.2.2 = 0) := fun h => by
          have : turnI s.1 s.2.1 s.2.2.1 s.2.2.2 t.1 t.2.1 * turnI s.1 s.2.1 s.2.2.1 s.2.2.2 t.2.2.1 t.2.2.2 < 0 := d1
          rw [h.1] at this; simp at this
        have d1' : turnI s.1 s.2.1 s.2.2.1 s.2.2.2 t.1 t.2.1 * turnI s.1 s.2.1 s.2.2.1 s.2.2.2 t.2.2.1 t.2.2.2 < 0 := d1
        have d2' : turnI t.1 t.2.1 t.2.2.1 t.2.2.2 s.1 s.2.1 * turnI t.1 t.2.1 t.2.2.1 t.2.2.2 s.2.2.1 s.2.2.2 < 0 := d2
        unfold meetS meetI
        rw [if_neg e1, if_neg (by omega), if_neg (by omega), if_neg (by omega)]
    next => left; rfl
  | cons p m =>
    have kp := key p (by rw [hl]; simp)
    cases m with
    | nil => right; exact if_pos kp
    | cons q m =>
      exfalso
      have kq := key q (by rw [hl]; simp)
      have := nd p q kp kq
      rw [hl, List.nodup_cons] at nd1
      exact nd1.1 (by rw [this]; simp)
/-- two segments with two points in common overlap -/
theorem two_common {s t : S4} (hs : okSeg s = true) (ht : okSeg t = true) {p q : P2} (hp : valid p) (hq : valid q) (hne : p ≠ q) (h1 : onS p s) (h2 : onS q s) (h3 : onS p t) (h4 : onS q t) : meetS s t = 4 := by
  obtain ⟨v1, v2, hn1⟩ := okSeg_iff.1 hs
  obtain ⟨w1, w2, hn2⟩ := okSeg_iff.1 ht
  have k1 := ky_ne v1 v2 hn1
  have k2 := ky_ne w1 w2 hn2
  have k := ky_ne hp hq hne
  have id : ∀ z : P2, onS z t → c3 (eA s) (eB s) z = 0 := by
    intro z hz
    have this : (ky 1 q - ky 1 p) * c3 (eA s) (eB s) z = (ky 1 (eB s) - ky 1 (eA s)) * c3 p q z + (ky 1 q - ky 1 z) * c3 (eA s) (eB s) p + (ky 1 z - ky 1 p) * c3 (eA s) (eB s) q := by
      simp only [ky, c3]; grind
    rw [h1.1, h2.1, on3 ht h3 h4 hz] at this
    simp only [Int.mul_zero, Int.add_zero] at this
    exact (Int.mul_eq_zero.1 this).resolve_left (by omega)
  have t1 : turnI s.1 s.2.1 s.2.2.1 s.2.2.2 t.1 t.2.1 = 0 := by
    have := turnS s (eA t); rw [id _ (onS_A t)] at this; exact this
  have t2 : turnI s.1 s.2.1 s.2.2.1 s.2.2.2 t.2.2.1 t.2.2.2 = 0 := by
    have := turnS s (eB t); rw [id _ (onS_B t)] at this; exact this
  have b1 := h1.2; have b2 := h2.2; have b3 := h3.2; have b4 := h4.2
  unfold meetS meetI
  rw [if_pos ⟨t1, t2⟩]
  obtain ⟨a, b, c, d⟩ := s
  obtain ⟨e, f, g, h⟩ := t
  unfold valid eA eB at *
  simp only at v1 v2 w1 w2
  obtain ⟨_, u2, _, u4⟩ := f_bd 0 10000 a b c d (by omega) (by omega) (by omega) (by omega)
  obtain ⟨_, u6, _, u8⟩ := f_bd 0 10000 e f g h (by omega) (by omega) (by omega) (by omega)
  rw [onLine_key u2 u4 u6 u8, (f_key v1.2 v2.2).1, (f_key v1.2 v2.2).2, (f_key w1.2 w2.2).1, (f_key w1.2 w2.2).2, if_pos]
  simp only [ky] at *
  unfold kap
  omega

/-! lengths -/
def dI (p q : P2) : Int := max (p.1 - q.1) (q.1 - p.1) + max (p.2 - q.2) (q.2 - p.2)
def lenS (s : S4) : Int := dI (eA s) (eB s)
theorem dI_swap (p q : P2) : dI p q = dI q p := by unfold dI; omega
theorem dI_add {p q r : P2} (hp : valid p) (hq : valid q) (hr : valid r) (h0 : c3 p r q = 0) (h1 : ky 1 p ≤ ky 1 q) (h2 : ky 1 q ≤ ky 1 r) : dI p q + dI q r = dI p r := by
  obtain ⟨a, b⟩ := p; obtain ⟨x, y⟩ := q; obtain ⟨c, d⟩ := r
  unfold valid at *
  simp only [c3] at h0
  simp only [ky] at h1 h2
  simp only at hp hq hr
  have := (on_asc (a := a) (b := b) (c := c) (d := d) (p := x) (q := y) (by omega) (by omega)).1 (by omega)
  simp only [dI]; omega
def sumF : List S4 → Int
  | [] => 0
  | x :: l => lenS x + sumF l
theorem sumF_app (a b : List S4) : sumF (a ++ b) = sumF a + sumF b := by
  induction a with
  | nil => simp [sumF]
  | cons x a ih => simp only [List.cons_append, sumF, ih]; omega
theorem sumF_perm {a b : List S4} (h : a.Perm b) : sumF a = sumF b := by
  induction h with
  | nil => rfl
  | cons x _ ih => simp only [sumF, ih]
  | swap x y l => simp only [sumF]; omega
  | trans _ _ ih1 ih2 => rw [ih1, ih2]
theorem sum_pairs {s : S4} (hs : okSeg s = true) {C : List P2} (hC : ∀ p, p ∈ C → valid p ∧ onS p s) (hl : C.Pairwise lexLt) : ∀ k, k < C.length → sumF (pairsTo C k) = dI (ptAt C 0) (ptAt C k)
  | 0, _ => by simp [pairsTo, sumF, dI]
  | k + 1, h => by
    have ih := sum_pairs hs hC hl k (by omega)
    have e : pairsTo C (k + 1) = pairsTo C k ++ [(px C k, py C k, px C (k + 1), py C (k + 1))] := by simp [pairsTo, List.range_succ]
    rw [e, sumF_app, ih]
    have m0 := hC _ (ptAt_mem (l := C) (i := 0) (by omega))
    have m1 := hC _ (ptAt_mem (l := C) (i := k) (by omega))
    have m2 := hC _ (ptAt_mem (l := C) (i := k + 1) h)
    have l2 := (ky_lt m1.1 m2.1).1 (lex_lt hl h (by omega))
    have l1 : ky 1 (ptAt C 0) ≤ ky 1 (ptAt C k) := by
      by_cases e : k = 0
      · subst e; exact Int.le_refl _
      · exact Int.le_of_lt ((ky_lt m0.1 m1.1).1 (lex_lt hl (by omega) (by omega)))
    have := dI_add m0.1 m1.1 m2.1 (on3 hs m0.2 m2.2 m1.2) l1 (by omega)
    simp only [sumF, lenS, eA, eB]
    show dI (ptAt C 0) (ptAt C k) + (dI (ptAt C k) (ptAt C (k + 1)) + 0) = _
    omega
/-- the cuts begin and end with the ends -/
theorem cuts_ends {E : List P2} {s : S4} (hE : ∀ p, p ∈ E → valid p) (hs : okSeg s = true) (hA : eA s ∈ E) (hB : eB s ∈ E) :
    2 ≤ (cutsL E s.1 s.2.1 s.2.2.1 s.2.2.2).length ∧ dI (ptAt (cutsL E s.1 s.2.1 s.2.2.1 s.2.2.2) 0) (ptAt (cutsL E s.1 s.2.1 s.2.2.1 s.2.2.2) ((cutsL E s.1 s.2.1 s.2.2.1 s.2.2.2).length - 1)) = lenS s := by
  obtain ⟨h1, h2⟩ := cutsL_spec hE hs hA hB
  generalize cutsL E s.1 s.2.1 s.2.2.1 s.2.2.2 = C at *
  obtain ⟨i, hi, ei⟩ := mem_ptAt ((h2 _).2 ⟨hA, onS_A s⟩)
  obtain ⟨j, hj, ej⟩ := mem_ptAt ((h2 _).2 ⟨hB, onS_B s⟩)
  have hne := (okSeg_iff.1 hs).2.2
  have hij : i ≠ j := fun e => hne (by rw [ei, ej, e])
  have two : 2 ≤ C.length := by omega
  refine ⟨two, ?_⟩
  have val : ∀ k, k < C.length → valid (ptAt C k) ∧ onS (ptAt C k) s := fun k hk => by
    have := (h2 _).1 (ptAt_mem hk)
    exact ⟨hE _ this.1, this.2⟩
  have mono : ∀ a b, a < b → b < C.length → ky 1 (ptAt C a) < ky 1 (ptAt C b) := fun a b hab hb => (ky_lt (val a (by omega)).1 (val b hb).1).1 (lex_lt h1 hb hab)
  have b0 := (val 0 (by omega)).2.2
  have bn := (val (C.length - 1) (by omega)).2.2
  rw [ei, ej] at b0 bn
  unfold lenS
  rw [ei, ej]
  by_cases hlt : i < j
  · have i0 : i = 0 := by
      apply Classical.byContradiction; intro h
      have := mono 0 i (by omega) hi
      have := mono i j hlt hj
      omega
    have jn : j = C.length - 1 := by
      apply Classical.byContradiction; intro h
      have := mono j (C.length - 1) (by omega) (by omega)
      have := mono i j hlt hj
      omega
    rw [i0, jn]
  · have i0 : j = 0 := by
      apply Classical.byContradiction; intro h
      have := mono 0 j (by omega) hj
      have := mono j i (by omega) hi
      omega
    have jn : i = C.length - 1 := by
      apply Classical.byContradiction; intro h
      have := mono i (C.length - 1) (by omega) (by omega)
      have := mono j i (by omega) hi
      omega
    rw [i0, jn, dI_swap]

/-! what Split returns -/
theorem sortS_sorted (l : List S4) : (sortS l).Pairwise fun x y => ¬ lessS y x = true := by
  unfold sortS
  rw [ltOf_cfS_eq]
  have := List.pairwise_mergeSort (le := fun x y => !lessS y x) (fun a b c h1 h2 => by simp [lessS] at *; omega) (fun a b => by simp [lessS]; omega) l
  refine this.imp fun {a b} h => ?_
  simpa using h
theorem lessS_tot {x y : S4} (h1 : ¬ lessS x y = true) (h2 : ¬ lessS y x = true) : x = y := by
  simp only [lessS, decide_eq_true_eq] at h1 h2
  exact Prod.ext (by omega) (Prod.ext (by omega) (Prod.ext (by omega) (by omega)))
theorem lessS_irr (x : S4) : ¬ lessS x x = true := by simp [lessS]
theorem segAt_get (l : List S4) (i : Nat) (h : i < l.length) : segAt l i = l[i] := by simp [segAt, q1, q2, q3, q4, List.getD_eq_getElem?_getD, h]
theorem nodup_idx {s : List S4} (hn : s.Nodup) {i j : Nat} (hi : i < s.length) (hj : j < s.length) (e : s[i] = s[j]) : i = j := by
  rw [List.nodup_iff_pairwise_ne, List.pairwise_iff_getElem] at hn
  rcases Nat.lt_trichotomy i j with h | h | h
  · exact absurd e (hn i j hi hj h)
  · exact h
  · exact absurd e.symm (hn j i hj hi h)
theorem dd_all {s : List S4} (hs : s.Pairwise fun x y => ¬ lessS y x = true) (hn : s.Nodup) : ∀ k, k ≤ s.length → ddS s k = s.take k
  | 0, _ => by simp [ddS]
  | k + 1, h => by
    have e : s.take (k + 1) = s.take k ++ [segAt s k] := by rw [List.take_succ_eq_append_getElem (by omega), segAt_get]
    simp only [ddS]
    rw [if_pos, dd_all hs hn k (by omega), e]
    · rfl
    · by_cases h0 : k = 0
      · exact .inl h0
      · right
        rw [Bool.eq_false_iff]
        intro hs'
        have : segAt s k = segAt s (k - 1) := by
          simp only [sameS, Bool.and_eq_true, beq_iff_eq] at hs'
          simp only [segAt, hs'.1.1.1, hs'.1.1.2, hs'.1.2, hs'.2]
        rw [segAt_get s k (by omega), segAt_get s (k - 1) (by omega)] at this
        have := nodup_idx hn (by omega) (by omega) this
        omega
section
variable {l : List S4} (hok : okSegs l = true) (hf : RowsFree l l.length l.length)
include hok
theorem seg_ok {k : Nat} (hk : k < l.length) : okSeg (segAt l k) = true := okSegs_at l k hk hok
theorem ends_valid : ∀ p, p ∈ endsTo l l.length → valid p := by
  intro p hp
  obtain ⟨i, hi, h⟩ := (endsTo_mem l l.length p).1 hp
  have := okSeg_iff.1 (seg_ok hok hi)
  rcases h with h | h <;> rw [h]
  · exact this.1
  · exact this.2.1
theorem ends_A {k : Nat} (hk : k < l.length) : eA (segAt l k) ∈ endsTo l l.length := (endsTo_mem l l.length _).2 ⟨k, hk, .inl rfl⟩
theorem ends_B {k : Nat} (hk : k < l.length) : eB (segAt l k) ∈ endsTo l l.length := (endsTo_mem l l.length _).2 ⟨k, hk, .inr rfl⟩
theorem part_iff {k : Nat} (hk : k < l.length) {x : S4} : x ∈ piecesL (endsTo l l.length) (q1 l k) (q2 l k) (q3 l k) (q4 l k) ↔ Piece (endsTo l l.length) (segAt l k) x :=
  piece_of (s := segAt l k) (ends_valid hok) (seg_ok hok hk) (ends_A hok hk) (ends_B hok hk)
theorem pieces_pos {k : Nat} (hk : k < l.length) : 0 < (piecesL (endsTo l l.length) (q1 l k) (q2 l k) (q3 l k) (q4 l k)).length := by
  have := (cuts_ends (s := segAt l k) (ends_valid hok) (seg_ok hok hk) (ends_A hok hk) (ends_B hok hk)).1
  show 0 < (pairsTo (cutsL (endsTo l l.length) (q1 l k) (q2 l k) (q3 l k) (q4 l k)) ((cutsL (endsTo l l.length) (q1 l k) (q2 l k) (q3 l k) (q4 l k)).length - 1)).length
  have e : (pairsTo (cutsL (endsTo l l.length) (q1 l k) (q2 l k) (q3 l k) (q4 l k)) ((cutsL (endsTo l l.length) (q1 l k) (q2 l k) (q3 l k) (q4 l k)).length - 1)).length = (cutsL (endsTo l l.length) (q1 l k) (q2 l k) (q3 l k) (q4 l k)).length - 1 := by simp [pairsTo]
  rw [e]
  have : 2 ≤ (cutsL (endsTo l l.length) (q1 l k) (q2 l k) (q3 l k) (q4 l k)).length := this
  omega
theorem sum_part {k : Nat} (hk : k < l.length) : sumF (piecesL (endsTo l l.length) (q1 l k) (q2 l k) (q3 l k) (q4 l k)) = lenS (segAt l k) := by
  have hE := ends_valid hok
  have hs := seg_ok hok hk
  obtain ⟨h1, h2⟩ := cutsL_spec hE hs (ends_A hok hk) (ends_B hok hk)
  obtain ⟨g1, g2⟩ := cuts_ends hE hs (ends_A hok hk) (ends_B hok hk)
  rw [← g2]
  exact sum_pairs hs (fun p hp => by have := (h2 p).1 hp; exact ⟨hE _ this.1, this.2⟩) h1 _ (Nat.sub_lt (Nat.lt_of_lt_of_le (by decide : 0 < 2) g1) (by decide))
theorem part_nodup {k : Nat} (hk : k < l.length) : (piecesL (endsTo l l.length) (q1 l k) (q2 l k) (q3 l k) (q4 l k)).Nodup := by
  have hE := ends_valid hok
  have hs := seg_ok hok hk
  obtain ⟨h1, h2⟩ := cutsL_spec hE hs (ends_A hok hk) (ends_B hok hk)
  unfold piecesL pairsTo
  have h1' : (cutsL (endsTo l l.length) (q1 l k) (q2 l k) (q3 l k) (q4 l k)).Pairwise lexLt := h1
  generalize cutsL (endsTo l l.length) (q1 l k) (q2 l k) (q3 l k) (q4 l k) = C at *
  rw [List.nodup_iff_pairwise_ne, List.pairwise_map, List.pairwise_iff_getElem]
  intro i j hi hj hij e
  have hj' : j < C.length - 1 := by simpa using hj
  simp only [List.getElem_range] at e
  simp only [Prod.mk.injEq] at e
  have := lex_lt h1' (i := i) (j := j) (by omega) hij
  unfold lexLt ptAt at this
  simp only at this
  omega
include hf
theorem free_meet {k m : Nat} (hk : k < l.length) (hm : m < l.length) (h : k ≠ m) : meetS (segAt l k) (segAt l m) ≠ 3 ∧ meetS (segAt l k) (segAt l m) ≠ 4 := by
  have key : ∀ {k m : Nat}, k < m → m < l.length → meetS (segAt l k) (segAt l m) ≠ 3 ∧ meetS (segAt l k) (segAt l m) ≠ 4 := fun {k m} h hm => by
    have := hf k (by omega) m h hm
    unfold crB at this
    rw [Bool.or_eq_false_iff] at this
    simp only [beq_eq_false_iff_ne] at this
    exact this
  rcases Nat.lt_or_gt_of_ne h with h' | h'
  · exact key h' hm
  · have := key h' hk
    rw [← meetS_comm (seg_ok hok hm) (seg_ok hok hk)] at this
    exact this
theorem parts_nodup : ∀ k, k ≤ l.length → (partsTo l (endsTo l l.length) k).Nodup
  | 0, _ => by simp [partsTo]
  | k + 1, h => by
    have hE := ends_valid hok
    simp only [partsTo]
    rw [List.nodup_append]
    refine ⟨parts_nodup k (by omega), part_nodup hok (by omega), fun x hx y hy e => ?_⟩
    subst e
    obtain ⟨i, hi, hxi⟩ := (parts_mem l _ k x).1 hx
    have P := (part_iff hok (show i < l.length by omega)).1 hxi
    have S := (part_iff hok (show k < l.length by omega)).1 hy
    have ox := okSeg_iff.1 (P.ok hE)
    exact (free_meet hok hf (show i < l.length by omega) (show k < l.length by omega) (by omega)).2 (two_common (seg_ok hok (by omega)) (seg_ok hok (by omega)) ox.1 ox.2.1 ox.2.2 P.inA.2 P.inB.2 S.inA.2 S.inB.2)
theorem split_eq : splitL l = sortS (partsTo l (endsTo l l.length) l.length) := by
  have hp : (sortS (partsTo l (endsTo l l.length) l.length)).Perm (partsTo l (endsTo l l.length) l.length) := List.mergeSort_perm _ _
  have hn := hp.nodup_iff.2 (parts_nodup hok hf l.length (Nat.le_refl _))
  have hl : (sortS (partsTo l (endsTo l l.length) l.length)).length = (partsTo l (endsTo l l.length) l.length).length := hp.length_eq
  unfold splitL
  rw [dd_all (sortS_sorted _) hn _ (by omega), ← hl, List.take_length]
theorem split_mem (x : S4) : x ∈ splitL l ↔ ∃ k, k < l.length ∧ Piece (endsTo l l.length) (segAt l k) x := by
  rw [split_eq hok hf]
  have hp : (sortS (partsTo l (endsTo l l.length) l.length)).Perm (partsTo l (endsTo l l.length) l.length) := List.mergeSort_perm _ _
  rw [hp.mem_iff, parts_mem]
  constructor
  · rintro ⟨k, hk, h⟩; exact ⟨k, hk, (part_iff hok hk).1 h⟩
  · rintro ⟨k, hk, h⟩; exact ⟨k, hk, (part_iff hok hk).2 h⟩
theorem split_nodup : (splitL l).Nodup := by
  rw [split_eq hok hf]
  have hp : (sortS (partsTo l (endsTo l l.length) l.length)).Perm (partsTo l (endsTo l l.length) l.length) := List.mergeSort_perm _ _
  exact hp.nodup_iff.2 (parts_nodup hok hf l.length (Nat.le_refl _))
theorem split_lt : (splitL l).Pairwise fun x y => lessS x y = true := by
  have h1 := split_nodup hok hf
  have h2 : (splitL l).Pairwise fun x y => ¬ lessS y x = true := by rw [split_eq hok hf]; exact sortS_sorted _
  rw [List.nodup_iff_pairwise_ne] at h1
  exact (h1.and h2).imp fun ⟨a, b⟩ => Classical.byContradiction fun h => a (lessS_tot h b)
/-- pieces meet in ends alone -/
theorem split_meet {i j : Nat} (hi : i < (splitL l).length) (hj : j < (splitL l).length) (h : i ≠ j) : meetS (segAt (splitL l) i) (segAt (splitL l) j) = 0 ∨ meetS (segAt (splitL l) i) (segAt (splitL l) j) = 1 := by
  have hE := ends_valid hok
  have hne : segAt (splitL l) i ≠ segAt (splitL l) j := fun e => by
    rw [segAt_get _ _ hi, segAt_get _ _ hj] at e
    exact h (nodup_idx (split_nodup hok hf) hi hj e)
  obtain ⟨k, hk, P⟩ := (split_mem hok hf _).1 (by rw [segAt_get _ _ hi]; exact List.getElem_mem hi : segAt (splitL l) i ∈ splitL l)
  obtain ⟨m, hm, S⟩ := (split_mem hok hf _).1 (by rw [segAt_get _ _ hj]; exact List.getElem_mem hj : segAt (splitL l) j ∈ splitL l)
  refine pieces_meet hE (seg_ok hok hk) (seg_ok hok hm) P S hne ?_
  by_cases e : k = m
  · left; rw [e]
  · right; exact (free_meet hok hf hk hm e).1
theorem split_okSeg {i : Nat} (hi : i < (splitL l).length) : okSeg (segAt (splitL l) i) = true := by
  obtain ⟨k, hk, P⟩ := (split_mem hok hf _).1 (by rw [segAt_get _ _ hi]; exact List.getElem_mem hi : segAt (splitL l) i ∈ splitL l)
  exact P.ok (ends_valid hok)
/-- the pieces are as long as the segments -/
theorem split_sum : sumF (splitL l) = sumF l := by
  rw [split_eq hok hf, sumF_perm (show (sortS (partsTo l (endsTo l l.length) l.length)).Perm (partsTo l (endsTo l l.length) l.length) from List.mergeSort_perm _ _)]
  have gen : ∀ k, k ≤ l.length → sumF (partsTo l (endsTo l l.length) k) = sumF (l.take k) := by
    intro k
    induction k with
    | zero => intro _; simp [partsTo, sumF]
    | succ k ih =>
      intro h
      simp only [partsTo]
      rw [sumF_app, ih (by omega), sum_part hok (by omega), List.take_succ_eq_append_getElem (by omega), sumF_app, segAt_get l k (by omega)]
      simp [sumF]
  rw [gen _ (Nat.le_refl _), List.take_length]
/-- each end of a segment is one of a piece -/
theorem split_end {k : Nat} (hk : k < l.length) {p : P2} (hp : p = eA (segAt l k) ∨ p = eB (segAt l k)) : ∃ i, i < (splitL l).length ∧ (p = eA (segAt (splitL l) i) ∨ p = eB (segAt (splitL l) i)) := by
  have hE := ends_valid hok
  obtain ⟨h1, h2⟩ := cutsL_spec hE (seg_ok hok hk) (ends_A hok hk) (ends_B hok hk)
  obtain ⟨g1, _⟩ := cuts_ends hE (seg_ok hok hk) (ends_A hok hk) (ends_B hok hk)
  have hc : p ∈ cutsL (endsTo l l.length) (segAt l k).1 (segAt l k).2.1 (segAt l k).2.2.1 (segAt l k).2.2.2 := by
    rw [h2]
    rcases hp with h | h <;> rw [h]
    · exact ⟨ends_A hok hk, onS_A _⟩
    · exact ⟨ends_B hok hk, onS_B _⟩
  obtain ⟨j, hj, ej⟩ := mem_ptAt hc
  have get : ∀ x : S4, x ∈ piecesL (endsTo l l.length) (q1 l k) (q2 l k) (q3 l k) (q4 l k) → ∃ i, i < (splitL l).length ∧ segAt (splitL l) i = x := by
    intro x hx
    have hm : x ∈ splitL l := (split_mem hok hf x).2 ⟨k, hk, (part_iff hok hk).1 hx⟩
    obtain ⟨i, hi, he⟩ := List.getElem_of_mem hm
    exact ⟨i, hi, by rw [segAt_get _ _ hi, he]⟩
  have pm : ∀ i, i + 1 < (cutsL (endsTo l l.length) (segAt l k).1 (segAt l k).2.1 (segAt l k).2.2.1 (segAt l k).2.2.2).length → ∃ x : S4, x ∈ piecesL (endsTo l l.length) (q1 l k) (q2 l k) (q3 l k) (q4 l k) ∧ eA x = ptAt (cutsL (endsTo l l.length) (segAt l k).1 (segAt l k).2.1 (segAt l k).2.2.1 (segAt l k).2.2.2) i ∧ eB x = ptAt (cutsL (endsTo l l.length) (segAt l k).1 (segAt l k).2.1 (segAt l k).2.2.1 (segAt l k).2.2.2) (i + 1) := by
    intro i hi
    refine ⟨(px _ i, py _ i, px _ (i + 1), py _ (i + 1)), (pairs_mem _ _ _).2 ⟨i, ?_, rfl, rfl⟩, rfl, rfl⟩
    show i < (cutsL (endsTo l l.length) (segAt l k).1 (segAt l k).2.1 (segAt l k).2.2.1 (segAt l k).2.2.2).length - 1
    omega
  by_cases e : j + 1 < (cutsL (endsTo l l.length) (segAt l k).1 (segAt l k).2.1 (segAt l k).2.2.1 (segAt l k).2.2.2).length
  · obtain ⟨x, hx, x1, x2⟩ := pm j e
    obtain ⟨i, hi, ex⟩ := get x hx
    exact ⟨i, hi, .inl (by rw [ex, x1, ej])⟩
  · obtain ⟨x, hx, x1, x2⟩ := pm (j - 1) (by omega)
    obtain ⟨i, hi, ex⟩ := get x hx
    exact ⟨i, hi, .inr (by rw [ex, x2, ej]; congr 1; omega)⟩
end
/-! the reference's way along a segment -/
/-- a point inside of a segment, as the reference tells it -/
def insR (p a b : P2) : Bool := onR p.1 p.2 a.1 a.2 b.1 b.2 && !(p == a) && !(p == b)
def nextStep (a b : P2) (nx p : P2) : P2 := if insR p a b && lessP p nx then p else nx
/-- the next end behind a -/
def nextP (E : List P2) (a b : P2) (k : Nat) : P2 := (E.take k).foldl (nextStep a b) b
theorem lessP_iff (p q : P2) : lessP p q = true ↔ lexLt p q := by simp [lessP, lexLt]
theorem next_fold (a b : P2) : ∀ (m : List P2) (o : P2), (m.foldl (nextStep a b) o = o ∨ (m.foldl (nextStep a b) o ∈ m ∧ insR (m.foldl (nextStep a b) o) a b = true)) ∧ ¬ lexLt o (m.foldl (nextStep a b) o) ∧ ∀ p, p ∈ m → insR p a b = true → ¬ lexLt p (m.foldl (nextStep a b) o)
  | [], o => ⟨.inl rfl, by simp [lexLt], by simp⟩
  | q :: m, o => by
    obtain ⟨i1, i2, i3⟩ := next_fold a b m (nextStep a b o q)
    rw [List.foldl_cons]
    have tr : ∀ {x y z : P2}, ¬ lexLt x y → ¬ lexLt y z → ¬ lexLt x z := fun h1 h2 => by unfold lexLt at *; omega
    have hs : (nextStep a b o q = o ∨ (nextStep a b o q = q ∧ insR q a b = true)) ∧ ¬ lexLt o (nextStep a b o q) ∧ (insR q a b = true → ¬ lexLt q (nextStep a b o q)) := by
      unfold nextStep
      cases h1 : insR q a b
      · simp [lexLt]
      · cases h2 : lessP q o
        · have : ¬ lexLt q o := fun h => by rw [← lessP_iff, h2] at h; cases h
          simp only [Bool.true_and, Bool.false_eq_true, if_false]
          exact ⟨.inl trivial, by simp [lexLt], fun _ => this⟩
        · have h3 := (lessP_iff q o).1 h2
          simp only [Bool.true_and, if_true]
          exact ⟨.inr ⟨trivial, trivial⟩, by unfold lexLt at *; omega, fun _ => by simp [lexLt]⟩
    refine ⟨?_, tr hs.2.1 i2, ?_⟩
    · rcases i1 with h | ⟨h1, h2⟩
      · rw [h]
        rcases hs.1 with h' | ⟨h', h''⟩
        · left; exact h'
        · right; rw [h']; exact ⟨by simp, h''⟩
      · right; exact ⟨by simp [h1], h2⟩
    · intro p hp hi
      rw [List.mem_cons] at hp
      rcases hp with rfl | hp
      · exact tr (hs.2.2 hi) i2
      · exact i3 p hp hi
/-- the points of a part of a segment -/
theorem sub_iff {s : S4} (hs : okSeg s = true) {a b p : P2} (va : valid a) (vb : valid b) (ha : onS a s) (hb : onS b s) (hab : ky 1 a < ky 1 b) : onS p (a.1, a.2, b.1, b.2) ↔ (onS p s ∧ ky 1 a ≤ ky 1 p ∧ ky 1 p ≤ ky 1 b) := by
  have e1 : eA (a.1, a.2, b.1, b.2) = a := rfl
  have e2 : eB (a.1, a.2, b.1, b.2) = b := rfl
  obtain ⟨v1, v2, hne⟩ := okSeg_iff.1 hs
  have k := ky_ne v1 v2 hne
  constructor
  · rintro ⟨h1, h2⟩
    rw [e1, e2] at h1 h2
    have id : (ky 1 b - ky 1 a) * c3 (eA s) (eB s) p = (ky 1 b - ky 1 p) * c3 (eA s) (eB s) a + (ky 1 p - ky 1 a) * c3 (eA s) (eB s) b + (ky 1 (eB s) - ky 1 (eA s)) * c3 a b p := by
      simp only [ky, c3]; grind
    rw [ha.1, hb.1, h1] at id
    simp only [Int.mul_zero, Int.add_zero] at id
    have ha2 := ha.2
    have hb2 := hb.2
    exact ⟨⟨(Int.mul_eq_zero.1 id).resolve_left (by omega), by omega⟩, by omega, by omega⟩
  · rintro ⟨h1, h2, h3⟩
    refine ⟨?_, ?_⟩
    · rw [e1, e2]; exact on3 hs ha hb h1
    · rw [e1, e2]; left; exact ⟨h2, h3⟩
/-- the way goes from cut to cut -/
theorem next_cut {E : List P2} {s : S4} (hE : ∀ p, p ∈ E → valid p) (hs : okSeg s = true) {C : List P2} (hl : C.Pairwise lexLt) (hm : ∀ p, p ∈ C ↔ (p ∈ E ∧ onS p s)) {i : Nat} (hi : i + 1 < C.length) :
    nextP E (ptAt C i) (ptAt C (C.length - 1)) E.length = ptAt C (i + 1) := by
  have val : ∀ k, k < C.length → valid (ptAt C k) ∧ onS (ptAt C k) s := fun k hk => by
    have := (hm _).1 (ptAt_mem hk)
    exact ⟨hE _ this.1, this.2⟩
  have mono : ∀ a b, a < b → b < C.length → ky 1 (ptAt C a) < ky 1 (ptAt C b) := fun a b hab hb => (ky_lt (val a (by omega)).1 (val b hb).1).1 (lex_lt hl hb hab)
  have va := val i (by omega)
  have vb := val (C.length - 1) (by omega)
  have hab := mono i (C.length - 1) (by omega) (by omega)
  have hos : okSeg ((ptAt C i).1, (ptAt C i).2, (ptAt C (C.length - 1)).1, (ptAt C (C.length - 1)).2) = true := okSeg_iff.2 ⟨va.1, vb.1, fun e => by
    have e' : ptAt C i = ptAt C (C.length - 1) := e
    rw [e'] at hab; omega⟩
  have ins : ∀ p, p ∈ E → (insR p (ptAt C i) (ptAt C (C.length - 1)) = true ↔ ∃ j, i < j ∧ j < C.length - 1 ∧ p = ptAt C j) := by
    intro p hp
    unfold insR
    have h1 := onR_iff (hE p hp) hos
    rw [sub_iff hs va.1 vb.1 va.2 vb.2 hab] at h1
    simp only at h1
    simp only [Bool.and_eq_true, Bool.not_eq_true', beq_eq_false_iff_ne]
    rw [h1]
    constructor
    · rintro ⟨⟨⟨g1, g2, g3⟩, g4⟩, g5⟩
      obtain ⟨j, hj, e⟩ := mem_ptAt ((hm p).2 ⟨hp, g1⟩)
      refine ⟨j, ?_, ?_, e⟩
      · apply Classical.byContradiction; intro hh
        by_cases e2 : j = i
        · exact g4 (by rw [e, e2])
        · have := mono j i (by omega) (by omega); rw [e] at g2; omega
      · apply Classical.byContradiction; intro hh
        exact g5 (by rw [e]; congr 1; omega)
    · rintro ⟨j, hj1, hj2, rfl⟩
      have m1 := mono i j hj1 (by omega)
      have m2 := mono j (C.length - 1) hj2 (by omega)
      exact ⟨⟨⟨(val j (by omega)).2, by omega, by omega⟩, fun e => by rw [e] at m1; omega⟩, fun e => by rw [e] at m2; omega⟩
  obtain ⟨f1, f2, f3⟩ := next_fold (ptAt C i) (ptAt C (C.length - 1)) E (ptAt C (C.length - 1))
  unfold nextP
  rw [List.take_length]
  generalize hN : E.foldl (nextStep (ptAt C i) (ptAt C (C.length - 1))) (ptAt C (C.length - 1)) = N at *
  have form : ∃ j, i < j ∧ j < C.length ∧ N = ptAt C j := by
    rcases f1 with h | ⟨h1, h2⟩
    · exact ⟨C.length - 1, by omega, by omega, h⟩
    · obtain ⟨j, a, b, c⟩ := (ins N h1).1 h2
      exact ⟨j, a, by omega, c⟩
  obtain ⟨j, hj1, hj2, hj3⟩ := form
  by_cases e : j = i + 1
  · rw [hj3, e]
  · exfalso
    have hlt := lex_lt hl hj2 (show i + 1 < j by omega)
    have hE1 : ptAt C (i + 1) ∈ E := ((hm _).1 (ptAt_mem hi)).1
    have := f3 _ hE1 ((ins _ hE1).2 ⟨i + 1, by omega, by omega, rfl⟩)
    rw [hj3] at this
    exact this hlt

/-! the ascending list that is filled -/
def atTo (l : List S4) (s : S4) : Nat := (l.takeWhile fun x => lessS x s).length
def insS (l : List S4) (s : S4) : List S4 := if atTo l s < l.length ∧ segAt l (atTo l s) = s then l else l.take (atTo l s) ++ [s] ++ l.drop (atTo l s)
theorem lessS_tr {x y z : S4} (h1 : lessS x y = true) (h2 : lessS y z = true) : lessS x z = true := by
  simp only [lessS, decide_eq_true_eq] at *; omega
theorem atTo_le (l : List S4) (s : S4) : atTo l s ≤ l.length := by unfold atTo; exact (List.takeWhile_sublist _).length_le
theorem atTo_take (l : List S4) (s : S4) : l.take (atTo l s) = l.takeWhile fun x => lessS x s := by
  unfold atTo
  induction l with
  | nil => rfl
  | cons x l ih =>
    rw [List.takeWhile_cons]
    split
    · rw [List.length_cons, List.take_succ_cons, ih]
    · rfl
theorem atTo_drop (l : List S4) (s : S4) : l.drop (atTo l s) = l.dropWhile fun x => lessS x s := by
  unfold atTo
  induction l with
  | nil => rfl
  | cons x l ih =>
    rw [List.takeWhile_cons, List.dropWhile_cons]
    split
    · rw [List.length_cons, List.drop_succ_cons, ih]
    · rfl
theorem insS_spec {l : List S4} (h : l.Pairwise fun x y => lessS x y = true) (s : S4) : (insS l s).Pairwise (fun x y => lessS x y = true) ∧ ∀ x, x ∈ insS l s ↔ (x ∈ l ∨ x = s) := by
  unfold insS
  by_cases hc : atTo l s < l.length ∧ segAt l (atTo l s) = s
  · rw [if_pos hc]
    refine ⟨h, fun x => ⟨.inl, ?_⟩⟩
    rintro (hx | hx)
    · exact hx
    · rw [hx, ← hc.2, segAt_get l _ hc.1]; exact List.getElem_mem _
  · rw [if_neg hc]
    have hta : ∀ x, x ∈ l.take (atTo l s) → lessS x s = true := fun x hx => by
      rw [atTo_take] at hx
      exact List.all_eq_true.1 List.all_takeWhile x hx
    have hdr : ∀ x, x ∈ l.drop (atTo l s) → lessS s x = true := fun x hx => by
      by_cases hlt : atTo l s < l.length
      · have hd : l.drop (atTo l s) = l[atTo l s] :: l.drop (atTo l s + 1) := by rw [List.drop_eq_getElem_cons hlt]
        have hh : lessS (l[atTo l s]) s = false := by
          have e := atTo_drop l s
          rw [hd] at e
          have := List.head?_dropWhile_not (fun x => lessS x s) l
          rw [← e] at this
          simp only [List.head?_cons] at this
          simpa using this
        have hne : l[atTo l s] ≠ s := fun e => hc ⟨hlt, by rw [segAt_get l _ hlt, e]⟩
        have hs0 : lessS s (l[atTo l s]) = true := Classical.byContradiction fun h' => hne (lessS_tot (by rw [hh]; simp) h')
        rw [hd, List.mem_cons] at hx
        rcases hx with hx | hx
        · rw [hx]; exact hs0
        · have hp := h.sublist (List.drop_sublist (atTo l s) l)
          rw [hd, List.pairwise_cons] at hp
          exact lessS_tr hs0 (hp.1 x hx)
      · rw [List.drop_eq_nil_of_le (by omega)] at hx; simp at hx
    refine ⟨?_, fun x => ?_⟩
    · rw [List.pairwise_append, List.pairwise_append]
      refine ⟨⟨h.sublist (List.take_sublist _ _), by simp, fun a ha b hb => ?_⟩, h.sublist (List.drop_sublist _ _), fun a ha b hb => ?_⟩
      · simp at hb; rw [hb]; exact hta a ha
      · rw [List.mem_append, List.mem_singleton] at ha
        rcases ha with ha | ha
        · exact lessS_tr (hta a ha) (hdr b hb)
        · rw [ha]; exact hdr b hb
    · have : x ∈ l ↔ x ∈ l.take (atTo l s) ∨ x ∈ l.drop (atTo l s) := by rw [← List.mem_append, List.take_append_drop]
      rw [this, List.mem_append, List.mem_append, List.mem_singleton]
      constructor
      · rintro ((h | h) | h)
        · exact .inl (.inl h)
        · exact .inr h
        · exact .inl (.inr h)
      · rintro ((h | h) | h)
        · exact .inl (.inl h)
        · exact .inr h
        · exact .inl (.inr h)
def insAll (l : List S4) : List S4 := l.foldl insS []
theorem insAll_spec (l : List S4) : (insAll l).Pairwise (fun x y => lessS x y = true) ∧ ∀ x, x ∈ insAll l ↔ x ∈ l := by
  unfold insAll
  have gen : ∀ (m o : List S4), o.Pairwise (fun x y => lessS x y = true) → (m.foldl insS o).Pairwise (fun x y => lessS x y = true) ∧ ∀ x, x ∈ m.foldl insS o ↔ (x ∈ o ∨ x ∈ m) := by
    intro m
    induction m with
    | nil => intro o ho; exact ⟨ho, by simp⟩
    | cons s m ih =>
      intro o ho
      obtain ⟨a1, a2⟩ := insS_spec ho s
      obtain ⟨b1, b2⟩ := ih _ a1
      refine ⟨b1, fun x => ?_⟩
      rw [List.foldl_cons, b2, a2, List.mem_cons]
      constructor
      · rintro ((h | h) | h)
        · exact .inl h
        · exact .inr (.inl h)
        · exact .inr (.inr h)
      · rintro (h | h | h)
        · exact .inl (.inl h)
        · exact .inl (.inr h)
        · exact .inr h
  have := gen l [] List.Pairwise.nil
  refine ⟨this.1, fun x => ?_⟩
  rw [this.2]; simp
theorem sorted_unique : ∀ {a b : List S4}, a.Pairwise (fun x y => lessS x y = true) → b.Pairwise (fun x y => lessS x y = true) → (∀ x, x ∈ a ↔ x ∈ b) → a = b
  | [], [], _, _, _ => rfl
  | [], y :: b, _, _, h => absurd ((h y).2 (by simp)) (by simp)
  | x :: a, [], _, _, h => absurd ((h x).1 (by simp)) (by simp)
  | x :: a, y :: b, h1, h2, h => by
    have asy : ∀ {x y : S4}, lessS x y = true → ¬ lessS y x = true := fun h h' => lessS_irr _ (lessS_tr h h')
    rw [List.pairwise_cons] at h1 h2
    have hxy : x = y := by
      have m1 := (h x).1 (by simp)
      have m2 := (h y).2 (by simp)
      rw [List.mem_cons] at m1 m2
      rcases m1 with e | e
      · exact e
      · rcases m2 with e2 | e2
        · exact e2.symm
        · exact absurd (h1.1 y e2) (asy (h2.1 x e))
    subst hxy
    congr 1
    refine sorted_unique h1.2 h2.2 fun z => ?_
    have := h z
    rw [List.mem_cons, List.mem_cons] at this
    constructor
    · intro hz
      rcases this.1 (.inr hz) with e | e
      · exact absurd (h1.1 z hz) (by rw [e]; exact lessS_irr _)
      · exact e
    · intro hz
      rcases this.2 (.inr hz) with e | e
      · exact absurd (h2.1 z hz) (by rw [e]; exact lessS_irr _)
      · exact e
theorem split_ref {l : List S4} (hok : okSegs l = true) (hf : RowsFree l l.length l.length) : insAll (partsTo l (endsTo l l.length) l.length) = splitL l := by
  obtain ⟨a1, a2⟩ := insAll_spec (partsTo l (endsTo l l.length) l.length)
  refine sorted_unique a1 (split_lt hok hf) fun x => ?_
  rw [a2, split_mem hok hf, parts_mem]
  constructor
  · rintro ⟨k, hk, h⟩; exact ⟨k, hk, (part_iff hok hk).1 h⟩
  · rintro ⟨k, hk, h⟩; exact ⟨k, hk, (part_iff hok hk).2 h⟩

end Go.Proofs.YtpdfbboagaflhaaGreat

set_option linter.unusedSimpArgs false
set_option linter.unusedVariables false
set_option linter.unusedSectionVars false
namespace Go.Proofs.YtpdfbboagaflhaaGreat
namespace Geo

def TT (a b c : P2) : Int := (b.1 - a.1) * (c.2 - a.2) - (b.2 - a.2) * (c.1 - a.1)
def OnS (p a b : P2) : Prop := TT a b p = 0 ∧ (min a.1 b.1 ≤ p.1 ∧ p.1 ≤ max a.1 b.1) ∧ (min a.2 b.2 ≤ p.2 ∧ p.2 ≤ max a.2 b.2)
def Cr (a b c d : P2) : Prop := TT a b c * TT a b d < 0 ∧ TT c d a * TT c d b < 0
def InT (a b c p : P2) : Prop := 0 ≤ TT a b p ∧ 0 ≤ TT b c p ∧ 0 ≤ TT c a p
theorem tt_rot (a b c : P2) : TT b c a = TT a b c := by unfold TT; grind
theorem tt_swap (a b c : P2) : TT b a c = - TT a b c := by unfold TT; grind
theorem tt_self (a b : P2) : TT a b a = 0 ∧ TT a b b = 0 ∧ TT a a b = 0 := by unfold TT; refine ⟨?_, ?_, ?_⟩ <;> grind
theorem tt_sum (a b c p : P2) : TT b c p + TT a b p + TT c a p = TT a b c := by unfold TT; grind
theorem tt_bary (a b c p : P2) : TT a b c * p.1 = TT b c p * a.1 + TT a b p * c.1 + TT c a p * b.1 ∧ TT a b c * p.2 = TT b c p * a.2 + TT a b p * c.2 + TT c a p * b.2 := by unfold TT; constructor <;> grind
theorem tt_det (a b c p q : P2) : TT b c p * TT a b q - TT a b p * TT b c q = - (TT a b c * TT b p q) := by unfold TT; grind
theorem pos_of_mul {a b : Int} (h : 0 < a * b) (ha : 0 < a) : 0 < b := by
  rcases Int.lt_trichotomy b 0 with h1 | h1 | h1
  · have := Int.mul_neg_of_pos_of_neg ha h1; omega
  · subst h1; simp at h
  · exact h1
theorem pos_iff {a b : Int} (ha : 0 < a) : 0 < a * b ↔ 0 < b := ⟨fun h => pos_of_mul h ha, fun h => Int.mul_pos ha h⟩
theorem nneg_iff {a b : Int} (ha : 0 < a) : 0 ≤ a * b ↔ 0 ≤ b := by
  constructor
  · intro h
    rcases Int.lt_or_le b 0 with h1 | h1
    · have := Int.mul_neg_of_pos_of_neg ha h1; omega
    · exact h1
  · intro h; exact Int.mul_nonneg (by omega) h
theorem mul_neg_cases {a b : Int} (h : a * b < 0) : (0 < a ∧ b < 0) ∨ (a < 0 ∧ 0 < b) := by
  rcases Int.lt_trichotomy a 0 with h1 | h1 | h1
  · right; refine ⟨h1, ?_⟩
    rcases Int.lt_or_le 0 b with h2 | h2
    · exact h2
    · have := Int.mul_nonneg_of_nonpos_of_nonpos (Int.le_of_lt h1) h2; omega
  · subst h1; simp at h
  · left; refine ⟨h1, ?_⟩
    rcases Int.lt_or_le b 0 with h2 | h2
    · exact h2
    · have := Int.mul_nonneg (Int.le_of_lt h1) h2; omega
theorem par_on {p a b : P2} {m N : Int} (hN : 0 < N) (h0 : 0 ≤ m) (h1 : m ≤ N) (hx : N * (p.1 - a.1) = m * (b.1 - a.1)) (hy : N * (p.2 - a.2) = m * (b.2 - a.2)) : OnS p a b := by
  have key : ∀ x y z : Int, N * (x - y) = m * (z - y) → min y z ≤ x ∧ x ≤ max y z := by
    intro x y z h
    rcases Int.lt_or_le z y with hz | hz
    · have e1 : 0 ≤ N * (y - x) := by
        have := Int.mul_nonneg h0 (show 0 ≤ y - z by omega); grind
      have e2 : 0 ≤ N * (x - z) := by
        have := Int.mul_nonneg (show 0 ≤ N - m by omega) (show 0 ≤ y - z by omega); grind
      rw [nneg_iff hN] at e1 e2; omega
    · have e1 : 0 ≤ N * (x - y) := by
        have := Int.mul_nonneg h0 (show 0 ≤ z - y by omega); grind
      have e2 : 0 ≤ N * (z - x) := by
        have := Int.mul_nonneg (show 0 ≤ N - m by omega) (show 0 ≤ z - y by omega); grind
      rw [nneg_iff hN] at e1 e2; omega
  refine ⟨?_, key _ _ _ hx, key _ _ _ hy⟩
  have : N * TT a b p = 0 := by unfold TT; grind
  rcases Int.mul_eq_zero.1 this with h | h
  · omega
  · exact h
theorem on_par {p a b : P2} (h : OnS p a b) (ha : p ≠ a) (hb : p ≠ b) : ∃ m N : Int, 0 < m ∧ m < N ∧ N * (p.1 - a.1) = m * (b.1 - a.1) ∧ N * (p.2 - a.2) = m * (b.2 - a.2) := by
  obtain ⟨h0, hx, hy⟩ := h
  obtain ⟨p1, p2⟩ := p; obtain ⟨a1, a2⟩ := a; obtain ⟨b1, b2⟩ := b
  simp only [TT] at h0 hx hy
  have ha' : ¬ (p1 = a1 ∧ p2 = a2) := fun ⟨h, h'⟩ => ha (by rw [h, h'])
  have hb' : ¬ (p1 = b1 ∧ p2 = b2) := fun ⟨h, h'⟩ => hb (by rw [h, h'])
  rcases Int.le_total a1 b1 with g1 | g1 <;> rcases Int.le_total a2 b2 with g2 | g2
  · exact ⟨(p1 - a1) + (p2 - a2), (b1 - a1) + (b2 - a2), by omega, by omega, by grind, by grind⟩
  · exact ⟨(p1 - a1) + (a2 - p2), (b1 - a1) + (a2 - b2), by omega, by omega, by grind, by grind⟩
  · exact ⟨(a1 - p1) + (p2 - a2), (a1 - b1) + (b2 - a2), by omega, by omega, by grind, by grind⟩
  · exact ⟨(a1 - p1) + (a2 - p2), (a1 - b1) + (a2 - b2), by omega, by omega, by grind, by grind⟩
/-- an affine function on a line -/
theorem par_tt {p a b : P2} {m N : Int} (hx : N * (p.1 - a.1) = m * (b.1 - a.1)) (hy : N * (p.2 - a.2) = m * (b.2 - a.2)) (u v : P2) : N * TT u v p = (N - m) * TT u v a + m * TT u v b := by
  unfold TT; grind
/-- in a triangle and on the line of a side: on the side -/
theorem inT_side {a b c z : P2} (h : InT a b c z) (ht : 0 < TT a b c) (h0 : TT b c z = 0) : OnS z b c := by
  have e := tt_bary a b c z; have s := tt_sum a b c z
  obtain ⟨i1, i2, i3⟩ := h
  exact par_on (m := TT a b z) (N := TT a b c) ht i1 (by omega) (by grind) (by grind)
theorem inT_rot {a b c z : P2} (h : InT a b c z) : InT b c a z := ⟨h.2.1, h.2.2, h.1⟩
theorem cross_abs {z1 z2 u1 u2 w1 w2 S : Int} (hz1 : 0 < z1) (hz2 : 0 < z2) (hS : z1 + z2 ≤ S) (hu : 0 < z1 * u2 - z2 * u1) (hw : z1 * w2 - z2 * w1 < 0) (hk : 0 < w1 * u2 - u1 * w2) (hk2 : w1 * u2 - u1 * w2 < (z1 * u2 - z2 * u1) - (z1 * w2 - z2 * w1)) (hs : u1 + u2 < z1 + z2) (hu1 : u1 < 0) : 0 < w1 ∧ w1 * u2 - u1 * w2 < S * (w1 - u1) := by
  have e1 : 0 < (z1 * u2 - z2 * u1) * w1 := by
    have h1 := Int.mul_pos hz1 hk
    have h2 := Int.mul_pos (show 0 < -u1 by omega) (show 0 < -(z1 * w2 - z2 * w1) by omega)
    grind
  have hw1 := pos_of_mul e1 hu
  refine ⟨hw1, ?_⟩
  have e2 : 0 < (z1 * u2 - z2 * u1) * ((z1 + z2) * (w1 - u1) - (w1 * u2 - u1 * w2)) := by
    have h1 := Int.mul_pos (Int.mul_pos hk hz1) (show 0 < z1 + z2 - (u1 + u2) by omega)
    have h2 := Int.mul_pos (Int.mul_pos (show 0 < -u1 by omega) (show 0 < z1 + z2 by omega)) (show 0 < (z1 * u2 - z2 * u1) - (z1 * w2 - z2 * w1) - (w1 * u2 - u1 * w2) by omega)
    grind
  have e3 := pos_of_mul e2 hu
  have e4 := Int.mul_nonneg (show 0 ≤ S - (z1 + z2) by omega) (show 0 ≤ w1 - u1 by omega)
  grind
theorem cr_swap {a b c d : P2} (h : Cr a b c d) : Cr a b d c := by
  obtain ⟨h1, h2⟩ := h
  have e1 := tt_swap d c a; have e2 := tt_swap d c b
  refine ⟨by rw [Int.mul_comm]; exact h1, ?_⟩
  rw [tt_swap c d a, tt_swap c d b, Int.neg_mul_neg]; exact h2
theorem cr_comm {a b c d : P2} (h : Cr a b c d) : Cr c d a b := ⟨h.2, h.1⟩
theorem cr_swap' {a b c d : P2} (h : Cr a b c d) : Cr b a c d := cr_comm (cr_swap (cr_comm h))
theorem cross_out1 {a b c z u w : P2} (ht : 0 < TT a b c) (hz1 : 0 < TT b c z) (hz2 : 0 < TT a b z) (hz3 : 0 ≤ TT c a z) (hu : TT c a z < TT c a u → TT b c u < 0 ∨ TT a b u < 0) (hw : TT c a z < TT c a w → TT b c w < 0 ∨ TT a b w < 0) (h : Cr b z u w) (hs : TT b z u < 0) : Cr u w b c ∨ Cr u w a b := by
  obtain ⟨h1, h2⟩ := h
  have hsw : 0 < TT b z w := by rcases mul_neg_cases h1 with h | h <;> omega
  have d1 := tt_det a b c z u; have d2 := tt_det a b c z w; have d3 := tt_det a b c w u
  have su := tt_sum a b c u; have sw := tt_sum a b c w; have sz := tt_sum a b c z
  have k0 : TT b c w * TT a b u - TT a b w * TT b c u = TT a b c * TT u w b := by rw [d3]; unfold TT; grind
  have kD : TT b c w * TT a b u - TT a b w * TT b c u - (TT b c z * TT a b u - TT a b z * TT b c u - (TT b c z * TT a b w - TT a b z * TT b c w)) = TT a b c * TT u w z := by unfold TT; grind
  have kc : TT b c w * TT a b u - TT a b w * TT b c u - TT a b c * (TT b c w - TT b c u) = TT a b c * TT u w c := by unfold TT; grind
  have ka : TT b c w * TT a b u - TT a b w * TT b c u + TT a b c * (TT a b w - TT a b u) = TT a b c * TT u w a := by unfold TT; grind
  have p1 : 0 < TT b c z * TT a b u - TT a b z * TT b c u := by have := Int.mul_pos ht (show 0 < - TT b z u by omega); grind
  have p2 : TT b c z * TT a b w - TT a b z * TT b c w < 0 := by have := Int.mul_pos ht hsw; grind
  have p3 : 0 < TT u w b ∧ TT u w z < 0 := by
    rcases mul_neg_cases h2 with h | h
    · exact h
    · exfalso
      have q1 := Int.mul_pos ht h.2
      have q2 := Int.mul_pos ht (show 0 < - TT u w b by omega)
      grind
  have q1 := Int.mul_pos ht p3.1
  have q2 := Int.mul_pos ht (show 0 < - TT u w z by omega)
  have f1 : TT u w b * TT u w c < 0 → TT b c u * TT b c w < 0 → Cr u w b c := fun h h' => ⟨h, h'⟩
  have f2 : TT u w a * TT u w b < 0 → TT a b u * TT a b w < 0 → Cr u w a b := fun h h' => ⟨h, h'⟩
  generalize TT b c u = u1 at *
  generalize TT a b u = u2 at *
  generalize TT b c w = w1 at *
  generalize TT a b w = w2 at *
  generalize TT b c z = z1 at *
  generalize TT a b z = z2 at *
  have hk : 0 < w1 * u2 - u1 * w2 := by grind
  have hk2 : w1 * u2 - u1 * w2 < (z1 * u2 - z2 * u1) - (z1 * w2 - z2 * w1) := by grind
  by_cases c1 : u1 + u2 < z1 + z2
  · have n1 : u1 < 0 := by
      rcases hu (by omega) with h | h
      · exact h
      · have := Int.mul_pos hz1 (show 0 < -u2 by omega)
        have h3 : 0 < z2 * (-u1) := by grind
        have := pos_of_mul h3 hz2; omega
    obtain ⟨r1, r2⟩ := cross_abs (S := TT a b c) hz1 hz2 (by omega) p1 p2 hk hk2 c1 n1
    left
    have r3 : 0 < TT a b c * (- TT u w c) := by grind
    have r4 := pos_of_mul r3 ht
    exact f1 (Int.mul_neg_of_pos_of_neg p3.1 (by omega)) (Int.mul_neg_of_neg_of_pos n1 r1)
  · by_cases c2 : w1 + w2 < z1 + z2
    · have n2 : w2 < 0 := by
        rcases hw (by omega) with h | h
        · have := Int.mul_pos hz2 (show 0 < -w1 by omega)
          have h3 : 0 < z1 * (-w2) := by grind
          have := pos_of_mul h3 hz1; omega
        · exact h
      obtain ⟨r1, r2⟩ := cross_abs (S := TT a b c) (u1 := w2) (u2 := w1) (w1 := u2) (w2 := u1) hz2 hz1 (by omega) (by grind) (by grind) (by grind) (by grind) (by omega) n2
      right
      have r3 : 0 < TT a b c * (- TT u w a) := by grind
      have r4 := pos_of_mul r3 ht
      exact f2 (Int.mul_neg_of_neg_of_pos (by omega) p3.1) (Int.mul_neg_of_pos_of_neg r1 n2)
    · exfalso
      have g1 := Int.mul_nonneg (show 0 ≤ z1 * u2 - z2 * u1 by omega) (show 0 ≤ w1 + w2 - (z1 + z2) by omega)
      have g2 := Int.mul_nonneg (show 0 ≤ -(z1 * w2 - z2 * w1) by omega) (show 0 ≤ u1 + u2 - (z1 + z2) by omega)
      have g3 := Int.mul_pos (show 0 < z1 + z2 by omega) (show 0 < (z1 * u2 - z2 * u1) - (z1 * w2 - z2 * w1) - (w1 * u2 - u1 * w2) by omega)
      grind
theorem cross_out {a b c z u w : P2} (ht : 0 < TT a b c) (hz1 : 0 < TT b c z) (hz2 : 0 < TT a b z) (hz3 : 0 ≤ TT c a z) (hu : TT c a z < TT c a u → TT b c u < 0 ∨ TT a b u < 0) (hw : TT c a z < TT c a w → TT b c w < 0 ∨ TT a b w < 0) (h : Cr b z u w) : Cr u w b c ∨ Cr u w a b := by
  rcases mul_neg_cases h.1 with h1 | h1
  · rcases cross_out1 ht hz1 hz2 hz3 hw hu (cr_swap h) h1.2 with g | g
    · exact Or.inl (cr_swap' g)
    · exact Or.inr (cr_swap' g)
  · exact cross_out1 ht hz1 hz2 hz3 hu hw h h1.1
theorem lin_thru {t p q r p' q' r' a b c u w : Int} (h1 : p + q + r = t) (h2 : p' + q' + r' = t) (hu : t * u = p * a + q * c + r * b) (hw : t * w = p' * a + q' * c + r' * b) (hk : p' * q - q' * p = 0) : (p' - p) * t * (b - u) = - p * t * (w - u) := by
  have e1 : t * (b - u) = p * (b - a) + q * (b - c) := by rw [Int.mul_sub, hu, ← h1]; grind
  have e2 : t * (b - w) = p' * (b - a) + q' * (b - c) := by rw [Int.mul_sub, hw, ← h2]; grind
  have e3 : - p * t * (w - u) = - p * (t * (b - u) - t * (b - w)) := by grind
  rw [e3, Int.mul_assoc, e1, e2]
  grind
theorem ear_out1 {a b c u w : P2} (ht : 0 < TT a b c) (hu : TT b c u < 0 ∨ TT a b u < 0) (h : Cr a c u w) (hs : 0 < TT c a u) : Cr u w b c ∨ Cr u w a b ∨ OnS b u w := by
  obtain ⟨h1, h2⟩ := h
  have hcu : TT a c u = - TT c a u := tt_swap c a u
  have hcw : TT a c w = - TT c a w := tt_swap c a w
  have hsw : TT c a w < 0 := by rcases mul_neg_cases h1 with h | h <;> omega
  have d3 := tt_det a b c w u
  have su := tt_sum a b c u; have sw := tt_sum a b c w
  have k0 : TT b c w * TT a b u - TT a b w * TT b c u = TT a b c * TT u w b := by rw [d3]; unfold TT; grind
  have kc : - (TT c a u * TT b c w - TT c a w * TT b c u) = TT a b c * TT u w c := by unfold TT; grind
  have ka : TT c a u * TT a b w - TT c a w * TT a b u = TT a b c * TT u w a := by unfold TT; grind
  have ksum : (TT c a u * TT b c w - TT c a w * TT b c u) + (TT c a u * TT a b w - TT c a w * TT a b u) = TT a b c * (TT c a u - TT c a w) := by unfold TT; grind
  have bu := tt_bary a b c u; have bw := tt_bary a b c w
  have p3 : 0 < TT u w a ∧ TT u w c < 0 := by
    rcases mul_neg_cases h2 with h | h
    · exact h
    · exfalso
      have q1 := Int.mul_pos ht h.2
      have q2 := Int.mul_pos ht (show 0 < - TT u w a by omega)
      have q3 := Int.mul_pos ht (show 0 < TT c a u - TT c a w by omega)
      grind
  have q1 := Int.mul_pos ht p3.1
  have q2 := Int.mul_pos ht (show 0 < - TT u w c by omega)
  have X1 : 0 < TT c a u * TT b c w - TT c a w * TT b c u := by grind
  have X2 : 0 < TT c a u * TT a b w - TT c a w * TT a b u := by grind
  have keyu : TT b c u < 0 → 0 < TT b c w := by
    intro h
    have g := Int.mul_pos (show 0 < - TT c a w by omega) (show 0 < - TT b c u by omega)
    have g2 : 0 < TT c a u * TT b c w := by grind
    exact pos_of_mul g2 hs
  have keyw : TT a b u < 0 → 0 < TT a b w := by
    intro h
    have g := Int.mul_pos (show 0 < - TT c a w by omega) (show 0 < - TT a b u by omega)
    have g2 : 0 < TT c a u * TT a b w := by grind
    exact pos_of_mul g2 hs
  have hK : TT c a u * (TT a b c * TT u w b) = (TT c a u * TT b c w - TT c a w * TT b c u) * TT a b u - TT b c u * (TT c a u * TT a b w - TT c a w * TT a b u) := by rw [← k0]; grind
  rcases Int.lt_trichotomy (TT u w b) 0 with hb | hb | hb
  · right; left
    have n2 : TT a b u < 0 := by
      rcases Int.lt_or_le (TT a b u) 0 with h | h
      · exact h
      · exfalso
        have n1 : TT b c u < 0 := by omega
        have g1 := Int.mul_nonneg (show 0 ≤ TT c a u * TT b c w - TT c a w * TT b c u by omega) h
        have g2 := Int.mul_pos (show 0 < - TT b c u by omega) (show 0 < TT c a u * TT a b w - TT c a w * TT a b u by omega)
        have g3 := Int.mul_pos hs (Int.mul_pos ht (show 0 < - TT u w b by omega))
        grind
    exact ⟨Int.mul_neg_of_pos_of_neg p3.1 hb, Int.mul_neg_of_neg_of_pos n2 (keyw n2)⟩
  · right; right
    have n1 : TT b c u < 0 := by
      rcases Int.lt_or_le (TT b c u) 0 with h | h
      · exact h
      · exfalso
        have n2 : TT a b u < 0 := by omega
        have g1 := Int.mul_nonneg h (show 0 ≤ TT c a u * TT a b w - TT c a w * TT a b u by omega)
        have g2 := Int.mul_pos (show 0 < - TT a b u by omega) (show 0 < TT c a u * TT b c w - TT c a w * TT b c u by omega)
        rw [hb] at hK
        grind
    have n1' := keyu n1
    have hk : TT b c w * TT a b u - TT a b w * TT b c u = 0 := by rw [k0, hb]; simp
    refine par_on (m := - TT b c u * TT a b c) (N := (TT b c w - TT b c u) * TT a b c) (Int.mul_pos (by omega) ht) (Int.mul_nonneg (by omega) (by omega)) (Int.mul_le_mul_of_nonneg_right (by omega) (by omega)) ?_ ?_
    · exact lin_thru su sw bu.1 bw.1 hk
    · exact lin_thru su sw bu.2 bw.2 hk
  · left
    have n1 : TT b c u < 0 := by
      rcases Int.lt_or_le (TT b c u) 0 with h | h
      · exact h
      · exfalso
        have n2 : TT a b u < 0 := by omega
        have g1 := Int.mul_nonneg h (show 0 ≤ TT c a u * TT a b w - TT c a w * TT a b u by omega)
        have g2 := Int.mul_pos (show 0 < - TT a b u by omega) (show 0 < TT c a u * TT b c w - TT c a w * TT b c u by omega)
        have g3 := Int.mul_pos hs (Int.mul_pos ht hb)
        grind
    exact ⟨Int.mul_neg_of_pos_of_neg hb p3.2, Int.mul_neg_of_neg_of_pos n1 (keyu n1)⟩
theorem ons_swap {p a b : P2} (h : OnS p a b) : OnS p b a := by
  obtain ⟨h1, h2, h3⟩ := h
  refine ⟨by rw [tt_swap a b p, h1]; rfl, by omega, by omega⟩
theorem ear_out {a b c u w : P2} (ht : 0 < TT a b c) (hu : 0 < TT c a u → TT b c u < 0 ∨ TT a b u < 0) (hw : 0 < TT c a w → TT b c w < 0 ∨ TT a b w < 0) (h : Cr a c u w) : Cr u w b c ∨ Cr u w a b ∨ OnS b u w := by
  have hcu : TT a c u = - TT c a u := tt_swap c a u
  have hcw : TT a c w = - TT c a w := tt_swap c a w
  rcases mul_neg_cases h.1 with h1 | h1
  · have g0 : 0 < TT c a w := by omega
    rcases ear_out1 ht (hw g0) (cr_swap h) g0 with g | g | g
    · exact Or.inl (cr_swap' g)
    · exact Or.inr (Or.inl (cr_swap' g))
    · exact Or.inr (Or.inr (ons_swap g))
  · have g0 : 0 < TT c a u := by omega
    exact ear_out1 ht (hu g0) h g0
/-- a linear functional -/
def LL (d p : P2) : Int := d.1 * p.1 + d.2 * p.2
/-- the turn at an extreme next corner keeps its sign when an empty ear is cut off -/
theorem keep_next {a b c x d : P2} (ht : 0 < TT a b c) (ha : LL d a < LL d c) (hb : LL d b < LL d c) (hx : LL d x < LL d c) (hne : ¬ InT a b c x) (hcr : ¬ Cr c x a b) (h0 : TT b c x ≠ 0) (h1 : TT a c x ≠ 0) : 0 < TT b c x * TT a c x := by
  have hcx : TT a c x = - TT c a x := tt_swap c a x
  have by1 : TT a b c * (LL d x - LL d c) = TT b c x * (LL d a - LL d c) + TT c a x * (LL d b - LL d c) := by unfold TT LL; grind
  rcases Int.lt_or_gt_of_ne h0 with g | g <;> rcases Int.lt_or_gt_of_ne h1 with g' | g'
  · exact Int.mul_pos_of_neg_of_neg g g'
  · exfalso
    have e1 := Int.mul_pos ht (show 0 < LL d c - LL d x by omega)
    have e2 := Int.mul_pos (show 0 < - TT b c x by omega) (show 0 < LL d c - LL d a by omega)
    have e3 := Int.mul_pos (show 0 < - TT c a x by omega) (show 0 < LL d c - LL d b by omega)
    grind
  · exfalso
    rcases Int.lt_or_le (TT a b x) 0 with k | k
    · refine hcr ⟨?_, Int.mul_neg_of_pos_of_neg ht k⟩
      rw [tt_rot a c x, tt_rot b c x]
      exact Int.mul_neg_of_neg_of_pos g' g
    · exact hne ⟨k, by omega, by omega⟩
  · exact Int.mul_pos g g'
def steps : List P2 → List (P2 × P2)
  | [] => []
  | [_] => []
  | a :: b :: r => (a, b) :: steps (b :: r)
def EE : List P2 → List (P2 × P2)
  | [] => []
  | a :: r => steps (a :: (r ++ [a]))
def cr2 (e : P2 × P2) : Int := e.1.1 * e.2.2 - e.1.2 * e.2.1
def A2 (l : List P2) : Int := ((EE l).map cr2).sum
theorem steps_cat (A : List P2) (x : P2) (B : List P2) : steps (A ++ x :: B) = steps (A ++ [x]) ++ steps (x :: B) := by
  induction A with
  | nil => simp [steps]
  | cons a A ih =>
    cases A with
    | nil => cases B <;> simp [steps]
    | cons a' A => simp only [List.cons_append, steps] at ih ⊢; rw [ih]
theorem steps_fst {L : List P2} {z x y : P2} : (x, y) ∈ steps (L ++ [z]) → x ∈ L := by
  induction L with
  | nil => simp [steps]
  | cons a L ih =>
    cases L with
    | nil => simp only [List.cons_append, List.nil_append, steps, List.mem_cons, Prod.mk.injEq, List.not_mem_nil, or_false]; rintro ⟨h, _⟩; exact h
    | cons b L =>
      simp only [List.cons_append, steps, List.mem_cons, Prod.mk.injEq] at ih ⊢
      rintro (⟨h, _⟩ | h)
      · exact Or.inl h
      · exact Or.inr (ih h)
theorem steps_snd {L : List P2} {z x y : P2} : (x, y) ∈ steps (z :: L) → y ∈ L := by
  induction L generalizing z with
  | nil => simp [steps]
  | cons a L ih =>
    simp only [steps, List.mem_cons, Prod.mk.injEq]
    rintro (⟨_, h⟩ | h)
    · exact Or.inl h
    · exact Or.inr (ih h)
theorem steps_mem {L : List P2} {x y : P2} (h : (x, y) ∈ steps L) : x ∈ L ∧ y ∈ L := by
  refine ⟨?_, ?_⟩
  · rcases List.eq_nil_or_concat L with rfl | ⟨L', z, rfl⟩
    · simp [steps] at h
    · rw [List.concat_eq_append] at h ⊢
      exact List.mem_append_left _ (steps_fst h)
  · cases L with
    | nil => simp [steps] at h
    | cons a L => exact List.mem_cons_of_mem _ (steps_snd h)
theorem steps_rev (L : List P2) : steps L.reverse = ((steps L).map Prod.swap).reverse := by
  induction L with
  | nil => rfl
  | cons a L ih =>
    cases L with
    | nil => rfl
    | cons b L =>
      have e : (a :: b :: L).reverse = L.reverse ++ b :: [a] := by simp
      rw [e, steps_cat]
      have e2 : L.reverse ++ [b] = (b :: L).reverse := by simp
      rw [e2, ih]
      simp [steps]
structure Simp (l : List P2) : Prop where
  nd : l.Nodup
  on : ∀ e ∈ EE l, ∀ v ∈ l, v ≠ e.1 → v ≠ e.2 → ¬ OnS v e.1 e.2
  cr : ∀ e ∈ EE l, ∀ f ∈ EE l, ¬ Cr e.1 e.2 f.1 f.2
  three : 3 ≤ l.length
theorem EE_rot (A B : List P2) : (EE (A ++ B)).Perm (EE (B ++ A)) := by
  cases A with
  | nil => simp
  | cons a A =>
    cases B with
    | nil => simp
    | cons b B =>
      have e1 : EE (a :: A ++ b :: B) = steps ((a :: A) ++ b :: (B ++ [a])) := by simp [EE]
      have e2 : EE (b :: B ++ a :: A) = steps ((b :: B) ++ a :: (A ++ [b])) := by simp [EE]
      rw [e1, e2, steps_cat, steps_cat (b :: B)]
      exact List.perm_append_comm
theorem sum_perm {l l' : List Int} (h : l.Perm l') : l.sum = l'.sum := by
  induction h with
  | nil => rfl
  | cons x _ ih => simp [ih]
  | swap x y l => simp only [List.sum_cons]; omega
  | trans _ _ h1 h2 => rw [h1, h2]
theorem A2_perm {l l' : List P2} (h : (EE l).Perm (EE l')) : A2 l = A2 l' := sum_perm (h.map cr2)
theorem simp_perm {l l' : List P2} (hs : Simp l) (hp : l.Perm l') (he : ∀ e, e ∈ EE l' → e ∈ EE l) : Simp l' :=
  ⟨hp.nodup_iff.1 hs.nd, fun e h v hv => hs.on e (he e h) v (hp.mem_iff.2 hv), fun e h f hf => hs.cr e (he e h) f (he f hf), by rw [← hp.length_eq]; exact hs.three⟩
theorem EE_rev (l : List P2) : (EE l.reverse).Perm ((EE l).map Prod.swap) := by
  cases l with
  | nil => simp [EE]
  | cons a r =>
    rw [List.reverse_cons]
    refine (EE_rot r.reverse [a]).trans ?_
    have e : EE ([a] ++ r.reverse) = steps (a :: (r ++ [a])).reverse := by simp [EE]
    rw [e, steps_rev]
    exact List.reverse_perm _
theorem A2_rev (l : List P2) : A2 l.reverse = - A2 l := by
  have h := sum_perm ((EE_rev l).map cr2)
  unfold A2
  rw [h, List.map_map]
  generalize EE l = L
  induction L with
  | nil => rfl
  | cons e L ih => simp only [List.map_cons, List.sum_cons, ih, Function.comp, cr2, Prod.fst_swap, Prod.snd_swap]; grind
theorem simp_rev {l : List P2} (hs : Simp l) : Simp l.reverse := by
  have hm : ∀ e, e ∈ EE l.reverse → (e.2, e.1) ∈ EE l := by
    intro e h
    have := (EE_rev l).mem_iff.1 h
    obtain ⟨f, hf, rfl⟩ := List.mem_map.1 this
    exact hf
  refine ⟨(List.reverse_perm l).nodup_iff.2 hs.nd, ?_, ?_, by simpa using hs.three⟩
  · intro e h v hv h1 h2 h3
    exact hs.on _ (hm e h) v (List.mem_reverse.1 hv) h2 h1 (ons_swap h3)
  · intro e h f hf hc
    exact hs.cr _ (hm e h) _ (hm f hf) (cr_swap (cr_swap' hc))
def At (l : List P2) (v : P2) (t : Int) : Prop := ∃ p q, (p, v) ∈ EE l ∧ (v, q) ∈ EE l ∧ t = TT p v q
def Exv (l : List P2) (v : P2) : Prop := v ∈ l ∧ ∃ d, ∀ u ∈ l, u ≠ v → LL d u < LL d v
theorem at_rev {l : List P2} {v : P2} {t : Int} (h : At l v t) : At l.reverse v (-t) := by
  obtain ⟨p, q, h1, h2, rfl⟩ := h
  refine ⟨q, p, ?_, ?_, ?_⟩
  · exact (EE_rev l).mem_iff.2 (List.mem_map.2 ⟨_, h2, rfl⟩)
  · exact (EE_rev l).mem_iff.2 (List.mem_map.2 ⟨_, h1, rfl⟩)
  · unfold TT; grind
theorem ext_rev {l : List P2} {v : P2} (h : Exv l v) : Exv l.reverse v := ⟨List.mem_reverse.2 h.1, h.2.imp fun d hd u hu => hd u (List.mem_reverse.1 hu)⟩
/-- turned so that a corner comes first -/
theorem front {l : List P2} (hs : Simp l) {b : P2} (hb : b ∈ l) : ∃ c R a, Simp (b :: c :: (R ++ [a])) ∧ l.Perm (b :: c :: (R ++ [a])) ∧ (EE l).Perm (EE (b :: c :: (R ++ [a]))) := by
  obtain ⟨X, Y, rfl⟩ := List.append_of_mem hb
  have hp : (X ++ b :: Y).Perm (b :: Y ++ X) := List.perm_append_comm
  have he := EE_rot X (b :: Y)
  have h3 : 3 ≤ (b :: (Y ++ X)).length := by have := hs.three; simp only [List.length_append, List.length_cons] at this ⊢; omega
  have hs' := simp_perm hs hp (fun e h => he.mem_iff.2 h)
  rw [List.cons_append] at hp he hs'
  generalize Y ++ X = M at *
  cases M with
  | nil => simp at h3
  | cons c M =>
    rcases List.eq_nil_or_concat M with rfl | ⟨R, a, rfl⟩
    · simp at h3
    · rw [List.concat_eq_append] at *
      exact ⟨c, R, a, hs', hp, he⟩
theorem front_E (b c a : P2) (R : List P2) : EE (b :: c :: (R ++ [a])) = (b, c) :: (steps (c :: (R ++ [a])) ++ [(a, b)]) := by
  have e : EE (b :: c :: (R ++ [a])) = (b, c) :: steps ((c :: R) ++ a :: [b]) := by simp [EE, steps]
  rw [e, steps_cat]
  simp [steps]
section
variable {b c a : P2} {R : List P2}
attribute [local irreducible] TT OnS Cr InT
theorem nbr_prev {p : P2} (nd : (b :: c :: (R ++ [a])).Nodup) (h : (p, b) ∈ EE (b :: c :: (R ++ [a]))) : p = a := by
  rw [front_E] at h
  have hb : b ∉ c :: (R ++ [a]) := (List.nodup_cons.1 nd).1
  simp only [List.mem_cons, List.mem_append, Prod.mk.injEq, List.not_mem_nil, or_false] at h
  rcases h with ⟨_, h⟩ | h | ⟨h, _⟩
  · exact absurd (by rw [h]; exact List.mem_cons_self) hb
  · exact absurd (steps_mem h).2 hb
  · exact h
theorem nbr_next {q : P2} (nd : (b :: c :: (R ++ [a])).Nodup) (h : (b, q) ∈ EE (b :: c :: (R ++ [a]))) : q = c := by
  rw [front_E] at h
  have hb : b ∉ c :: (R ++ [a]) := (List.nodup_cons.1 nd).1
  simp only [List.mem_cons, List.mem_append, Prod.mk.injEq, List.not_mem_nil, or_false] at h
  rcases h with ⟨_, h⟩ | h | ⟨h, _⟩
  · exact h
  · exact absurd (steps_mem h).1 hb
  · exact absurd (by rw [h]; simp) hb
theorem edge_ab : (a, b) ∈ EE (b :: c :: (R ++ [a])) := by rw [front_E]; simp
theorem edge_bc : (b, c) ∈ EE (b :: c :: (R ++ [a])) := by rw [front_E]; simp
theorem nd_ne (nd : (b :: c :: (R ++ [a])).Nodup) : b ≠ c ∧ b ≠ a ∧ c ≠ a ∧ (∀ v ∈ R, v ≠ b ∧ v ≠ c ∧ v ≠ a) := by
  have hb : b ∉ c :: (R ++ [a]) := (List.nodup_cons.1 nd).1
  have nd2 := (List.nodup_cons.1 nd).2
  have hc : c ∉ R ++ [a] := (List.nodup_cons.1 nd2).1
  have nd3 := (List.nodup_cons.1 nd2).2
  simp only [List.mem_cons, List.mem_append, List.not_mem_nil, or_false, not_or] at hb hc
  refine ⟨hb.1, hb.2.2, hc.2, fun v hv => ⟨?_, ?_, ?_⟩⟩
  · rintro rfl; exact hb.2.1 hv
  · rintro rfl; exact hc.1 hv
  · rintro rfl; exact (List.nodup_append.1 nd3).2.2 v hv v (by simp) rfl
end
theorem col_on {p v q d : P2} (h0 : TT p v q = 0) (hp : LL d p < LL d v) (hq : LL d q < LL d v) : OnS p v q ∨ OnS q v p := by
  have ex : (LL d v - LL d q) * (p.1 - v.1) = (LL d v - LL d p) * (q.1 - v.1) := by unfold TT at h0; unfold LL; grind
  have ey : (LL d v - LL d q) * (p.2 - v.2) = (LL d v - LL d p) * (q.2 - v.2) := by unfold TT at h0; unfold LL; grind
  rcases Int.le_total (LL d v - LL d p) (LL d v - LL d q) with h | h
  · exact Or.inl (par_on (by omega) (by omega) h ex ey)
  · exact Or.inr (par_on (m := LL d v - LL d q) (N := LL d v - LL d p) (by omega) (by omega) h ex.symm ey.symm)
theorem ext_ne {l : List P2} {p v q : P2} (hs : Simp l) (hv : Exv l v) (h1 : (p, v) ∈ EE l) (h2 : (v, q) ∈ EE l) : TT p v q ≠ 0 := by
  intro h0
  obtain ⟨c, R, a, hs', hp, he⟩ := front hs hv.1
  have e1 := nbr_prev hs'.nd (he.mem_iff.1 h1)
  have e2 := nbr_next hs'.nd (he.mem_iff.1 h2)
  subst e1 e2
  obtain ⟨n1, n2, n3, _⟩ := nd_ne hs'.nd
  obtain ⟨d, hd⟩ := hv.2
  have mp : p ∈ l := hp.mem_iff.2 (by simp)
  have mq : q ∈ l := hp.mem_iff.2 (by simp)
  rcases col_on h0 (hd p mp n2.symm) (hd q mq n1.symm) with h | h
  · exact hs.on _ h2 p mp n2.symm n3.symm h
  · exact hs.on _ h1 q mq n3 n1.symm (ons_swap h)
def Diag (l : List P2) (x y : P2) : Prop := (∀ v ∈ l, v ≠ x → v ≠ y → ¬ OnS v x y) ∧ ∀ e ∈ EE l, ¬ Cr x y e.1 e.2
theorem cr_self (x y : P2) : ¬ Cr x y x y := by
  intro h; have := h.1; rw [(tt_self x y).1] at this; simp at this
theorem simp_sub {l l' : List P2} {x y : P2} (hs : Simp l) (hd : Diag l x y) (nd : l'.Nodup) (h3 : 3 ≤ l'.length) (hm : ∀ v ∈ l', v ∈ l) (he : ∀ e ∈ EE l', e ∈ EE l ∨ e = (x, y) ∨ e = (y, x)) : Simp l' := by
  have hc : ∀ e ∈ EE l', ∀ f ∈ EE l', e ∈ EE l → ¬ Cr e.1 e.2 f.1 f.2 := by
    intro e _ f hf hel hcr
    rcases he f hf with h | rfl | rfl
    · exact hs.cr e hel f h hcr
    · exact hd.2 e hel (cr_comm hcr)
    · exact hd.2 e hel (cr_swap' (cr_comm hcr))
  refine ⟨nd, ?_, ?_, h3⟩
  · intro e h v hv n1 n2 hon
    rcases he e h with h | rfl | rfl
    · exact hs.on e h v (hm v hv) n1 n2 hon
    · exact hd.1 v (hm v hv) n1 n2 hon
    · exact hd.1 v (hm v hv) n2 n1 (ons_swap hon)
  · intro e h f hf hcr
    rcases he e h with h' | h' | h'
    · exact hc e h f hf h' hcr
    · rcases he f hf with g | g | g
      · exact hc f hf e h g (cr_comm hcr)
      · subst h' g; exact cr_self _ _ hcr
      · subst h' g; exact cr_self _ _ (cr_swap hcr)
    · rcases he f hf with g | g | g
      · exact hc f hf e h g (cr_comm hcr)
      · subst h' g; exact cr_self _ _ (cr_swap hcr)
      · subst h' g; exact cr_self _ _ hcr
theorem ext_sub {l l' : List P2} {v : P2} (h : Exv l v) (hv : v ∈ l') (hm : ∀ u ∈ l', u ∈ l) : Exv l' v := ⟨hv, h.2.imp fun d hd u hu => hd u (hm u hu)⟩
theorem keep_prev {a b c x d : P2} (ht : 0 < TT a b c) (hc : LL d c < LL d a) (hb : LL d b < LL d a) (hx : LL d x < LL d a) (hne : ¬ InT a b c x) (hcr : ¬ Cr x a b c) (h0 : TT x a b ≠ 0) (h1 : TT x a c ≠ 0) : 0 < TT x a b * TT x a c := by
  have e0 : TT x a b = TT a b x := (tt_rot x a b).symm
  have e1 : TT x a c = - TT c a x := by rw [← tt_rot x a c]; exact tt_swap c a x
  have by1 : TT a b c * (LL d x - LL d a) = TT a b x * (LL d c - LL d a) + TT c a x * (LL d b - LL d a) := by unfold TT LL; grind
  rcases Int.lt_or_gt_of_ne h0 with g | g <;> rcases Int.lt_or_gt_of_ne h1 with g' | g'
  · exact Int.mul_pos_of_neg_of_neg g g'
  · exfalso
    have e1 := Int.mul_pos ht (show 0 < LL d a - LL d x by omega)
    have e2 := Int.mul_pos (show 0 < - TT a b x by omega) (show 0 < LL d a - LL d c by omega)
    have e3 := Int.mul_pos (show 0 < - TT c a x by omega) (show 0 < LL d a - LL d b by omega)
    grind
  · exfalso
    rcases Int.lt_or_le (TT b c x) 0 with k | k
    · refine hcr ⟨?_, ?_⟩
      · exact Int.mul_neg_of_pos_of_neg g g'
      · rw [tt_rot a b c]; exact Int.mul_neg_of_neg_of_pos k ht
    · exact hne ⟨by omega, k, by omega⟩
  · exact Int.mul_pos g g'
theorem inT_on_ac {a b c v : P2} (ht : 0 < TT a b c) (h : OnS v a c) (h1 : v ≠ a) (h2 : v ≠ c) : InT a b c v := by
  obtain ⟨m, N, hm, hN, ex, ey⟩ := on_par h h1 h2
  have e1 := par_tt ex ey a b; have e2 := par_tt ex ey b c; have e3 := par_tt ex ey c a
  have s1 := tt_self a b; have s2 := tt_self b c; have s3 := tt_self c a
  rw [s1.1] at e1; rw [s2.2.1] at e2; rw [s3.1, s3.2.1] at e3
  have r : TT b c a = TT a b c := tt_rot a b c
  rw [r] at e2
  refine ⟨?_, ?_, ?_⟩
  · have : 0 ≤ N * TT a b v := by rw [e1]; have := Int.mul_pos hm ht; omega
    exact (nneg_iff (by omega)).1 this
  · have : 0 ≤ N * TT b c v := by rw [e2]; have := Int.mul_pos (show 0 < N - m by omega) ht; omega
    exact (nneg_iff (by omega)).1 this
  · have : 0 ≤ N * TT c a v := by rw [e3]; omega
    exact (nneg_iff (by omega)).1 this
section
variable {b c a : P2} {R : List P2}
theorem cut_ear_pos (hs : Simp (b :: c :: (R ++ [a]))) (hR : R ≠ []) (ht : 0 < TT a b c) (hemp : ∀ v ∈ R, ¬ InT a b c v) :
    Simp (c :: (R ++ [a])) ∧ A2 (b :: c :: (R ++ [a])) = A2 (c :: (R ++ [a])) + TT a b c ∧
    ∀ v, Exv (b :: c :: (R ++ [a])) v → v ≠ b → Exv (c :: (R ++ [a])) v ∧ ∀ t, At (b :: c :: (R ++ [a])) v t → ∃ t', At (c :: (R ++ [a])) v t' ∧ 0 < t * t' := by
  obtain ⟨n1, n2, n3, nR⟩ := nd_ne hs.nd
  have hE' : EE (c :: (R ++ [a])) = steps (c :: (R ++ [a])) ++ [(a, c)] := by
    have e : EE (c :: (R ++ [a])) = steps ((c :: R) ++ a :: [c]) := by simp [EE]
    rw [e, steps_cat]; simp [steps]
  have hE := front_E b c a R
  have hsub : ∀ v ∈ c :: (R ++ [a]), v ∈ b :: c :: (R ++ [a]) := fun v hv => List.mem_cons_of_mem _ hv
  have notin : ∀ u ∈ b :: c :: (R ++ [a]), 0 < TT c a u → u ≠ b → TT b c u < 0 ∨ TT a b u < 0 := by
    intro u hu h hb
    have hR : u ∈ R := by
      simp only [List.mem_cons, List.mem_append, List.not_mem_nil, or_false] at hu
      rcases hu with h' | h' | h' | h'
      · exact absurd h' hb
      · subst h'; rw [(tt_self u a).1] at h; omega
      · exact h'
      · subst h'; rw [(tt_self c u).2.1] at h; omega
    rcases Int.lt_or_le (TT b c u) 0 with k | k
    · exact Or.inl k
    · rcases Int.lt_or_le (TT a b u) 0 with k' | k'
      · exact Or.inr k'
      · exact absurd ⟨k', k, by omega⟩ (hemp u hR)
  have hD : Diag (b :: c :: (R ++ [a])) a c := by
    refine ⟨?_, ?_⟩
    · intro v hv h1 h2 hon
      have hin := inT_on_ac ht hon h1 h2
      simp only [List.mem_cons, List.mem_append, List.not_mem_nil, or_false] at hv
      rcases hv with h' | h' | h' | h'
      · subst h'
        have := hon.1
        have e := tt_swap a v c
        have e2 := tt_rot v a c
        have e3 := tt_rot a c v
        omega
      · exact h2 h'
      · exact hemp v h' hin
      · exact h1 h'
    · rintro ⟨u, w⟩ he hcr
      have hu := (steps_mem (L := b :: ((c :: (R ++ [a])) ++ [b])) (by simpa [EE] using he))
      have mu : u ∈ b :: c :: (R ++ [a]) := by
        have := hu.1; simp only [List.mem_cons, List.mem_append, List.not_mem_nil, or_false] at this ⊢; grind
      have mw : w ∈ b :: c :: (R ++ [a]) := by
        have := hu.2; simp only [List.mem_cons, List.mem_append, List.not_mem_nil, or_false] at this ⊢; grind
      simp only at hcr
      by_cases hub : u = b
      · subst hub
        have e := nbr_next hs.nd he
        subst e
        have := hcr.1; rw [(tt_self a w).2.1] at this; simp at this
      · by_cases hwb : w = b
        · subst hwb
          have e := nbr_prev hs.nd he
          subst e
          have := hcr.1; rw [(tt_self u c).1] at this; simp at this
        · rcases ear_out ht (fun h => notin u mu h hub) (fun h => notin w mw h hwb) hcr with g | g | g
          · exact hs.cr _ he _ edge_bc g
          · exact hs.cr _ he _ edge_ab g
          · exact hs.on _ he b (by simp) (Ne.symm hub) (Ne.symm hwb) g
  have hS : Simp (c :: (R ++ [a])) := by
    refine simp_sub hs hD (List.nodup_cons.1 hs.nd).2 ?_ hsub ?_
    · cases R with
      | nil => exact absurd rfl hR
      | cons x R => simp
    · intro e he
      rw [hE'] at he; rw [hE]
      simp only [List.mem_cons, List.mem_append, List.not_mem_nil, or_false] at he ⊢
      rcases he with h | h
      · exact Or.inl (Or.inr (Or.inl h))
      · exact Or.inr (Or.inl h)
  refine ⟨hS, ?_, ?_⟩
  · unfold A2
    rw [hE, hE']
    simp only [List.map_cons, List.map_append, List.sum_cons, List.sum_append, List.map_nil, List.sum_nil, cr2]
    unfold TT; grind
  · intro v hv hvb
    have mv : v ∈ c :: (R ++ [a]) := by
      have := hv.1; simp only [List.mem_cons] at this ⊢; grind
    have hv' := ext_sub hv mv hsub
    refine ⟨hv', ?_⟩
    rintro t ⟨p, q, h1, h2, rfl⟩
    have nz := ext_ne hs hv h1 h2
    obtain ⟨d, hd⟩ := hv.2
    have hd' : ∀ u ∈ R ++ [a, b, c], u ≠ v → LL d u < LL d v := by
      intro u hu; refine hd u ?_
      simp only [List.mem_cons, List.mem_append, List.not_mem_nil, or_false] at hu ⊢; grind
    have nds : c ∉ R ++ [a] := (List.nodup_cons.1 (List.nodup_cons.1 hs.nd).2).1
    rw [hE] at h1 h2
    simp only [List.mem_cons, List.mem_append, List.not_mem_nil, or_false, Prod.mk.injEq] at h1 h2
    by_cases hvc : v = c
    · subst hvc
      have ep : p = b := by
        rcases h1 with h | h | h
        · exact h.1
        · exact absurd (steps_snd h) nds
        · exact absurd h.2 n1.symm
      have hq : (v, q) ∈ steps (v :: (R ++ [a])) := by
        rcases h2 with h | h | h
        · exact absurd h.1 n1.symm
        · exact h
        · exact absurd h.1 n3
      subst ep
      have hqR : q ∈ R := by
        cases R with
        | nil => exact absurd rfl hR
        | cons x R =>
          have hn : v ∉ (x :: R) ++ [a] := nds
          simp only [List.cons_append, steps, List.mem_cons, Prod.mk.injEq] at hq
          rcases hq with h | h
          · rw [h.2]; simp
          · exact absurd (List.mem_append_left _ (steps_fst (L := x :: R) h)) hn
      have he1 : (a, v) ∈ EE (v :: (R ++ [a])) := by rw [hE']; simp
      have he2 : (v, q) ∈ EE (v :: (R ++ [a])) := by rw [hE']; simp [hq]
      refine ⟨TT a v q, ⟨a, q, he1, he2, rfl⟩, ?_⟩
      have hqe : (v, q) ∈ EE (p :: v :: (R ++ [a])) := by rw [hE]; simp [hq]
      have k1 : ¬ Cr v q a p := hs.cr (v, q) hqe (a, p) edge_ab
      have k2 := ext_ne hS hv' he1 he2
      have k3 := hd' a (by simp) (Ne.symm n3)
      have k4 := hd' p (by simp) n1
      have k5 := hd' q (by simp [hqR]) (nR q hqR).2.1
      have k6 := hemp q hqR
      exact keep_next (d := d) ht k3 k4 k5 k6 k1 nz k2
    · by_cases hva : v = a
      · subst hva
        have eq : q = b := by
          rcases h2 with h | h | h
          · exact absurd h.1 n2.symm
          · exact absurd (steps_fst (L := c :: R) (by simpa using h)) (by
              intro h'
              simp only [List.mem_cons] at h'
              rcases h' with h' | h'
              · exact hvc h'
              · exact (nR v h').2.2 rfl)
          · exact h.2
        have hp : (p, v) ∈ steps (c :: (R ++ [v])) := by
          rcases h1 with h | h | h
          · exact absurd h.2.symm n3
          · exact h
          · exact absurd h.2 n2.symm
        subst eq
        have hpR : p ∈ R := by
          have h' := steps_fst (L := c :: R) (by simpa using hp)
          simp only [List.mem_cons] at h'
          rcases h' with h' | h'
          · exfalso
            subst h'
            cases R with
            | nil => exact hR rfl
            | cons x R =>
              simp only [List.cons_append, steps, List.mem_cons, Prod.mk.injEq] at hp
              rcases hp with h | h
              · exact (nR x (by simp)).2.2 h.2.symm
              · exact nds (List.mem_append_left _ (steps_fst (L := x :: R) h))
          · exact h'
        have he1 : (p, v) ∈ EE (c :: (R ++ [v])) := by rw [hE']; simp [hp]
        have he2 : (v, c) ∈ EE (c :: (R ++ [v])) := by rw [hE']; simp
        refine ⟨TT p v c, ⟨p, c, he1, he2, rfl⟩, ?_⟩
        have hpe : (p, v) ∈ EE (q :: c :: (R ++ [v])) := by rw [hE]; simp [hp]
        have k1 : ¬ Cr p v q c := hs.cr (p, v) hpe (q, c) edge_bc
        have k2 := ext_ne hS hv' he1 he2
        have k3 := hd' c (by simp) n3
        have k4 := hd' q (by simp) n2
        have k5 := hd' p (by simp [hpR]) (nR p hpR).2.2
        have k6 := hemp p hpR
        exact keep_prev (d := d) ht k3 k4 k5 k6 k1 nz k2
      · have he1 : (p, v) ∈ EE (c :: (R ++ [a])) := by
          rw [hE']
          rcases h1 with h | h | h
          · exact absurd h.2 hvc
          · simp [h]
          · exact absurd h.2 hvb
        have he2 : (v, q) ∈ EE (c :: (R ++ [a])) := by
          rw [hE']
          rcases h2 with h | h | h
          · exact absurd h.1 hvb
          · simp [h]
          · exact absurd h.1 hva
        refine ⟨_, ⟨p, q, he1, he2, rfl⟩, ?_⟩
        rcases Int.lt_or_gt_of_ne nz with h | h
        · exact Int.mul_pos_of_neg_of_neg h h
        · exact Int.mul_pos h h
end
attribute [local irreducible] TT OnS Cr InT
theorem edge_mem {l : List P2} {u w : P2} (h : (u, w) ∈ EE l) : u ∈ l ∧ w ∈ l := by
  cases l with
  | nil => simp [EE] at h
  | cons a r =>
    have := steps_mem h
    simp only [List.mem_cons, List.mem_append, List.not_mem_nil, or_false] at this ⊢; grind
section
variable {b c a z : P2} {R1 R2 : List P2}
theorem diag_z (hs : Simp (b :: c :: ((R1 ++ z :: R2) ++ [a]))) (ht : 0 < TT a b c) (hz : InT a b c z) (hmax : ∀ v ∈ R1 ++ z :: R2, InT a b c v → TT c a v ≤ TT c a z) :
    0 < TT b c z ∧ 0 < TT a b z ∧ Diag (b :: c :: ((R1 ++ z :: R2) ++ [a])) b z := by
  obtain ⟨n1, n2, n3, nR⟩ := nd_ne hs.nd
  have zR : z ∈ R1 ++ z :: R2 := by simp
  obtain ⟨nz1, nz2, nz3⟩ := nR z zR
  have hz' : 0 ≤ TT a b z ∧ 0 ≤ TT b c z ∧ 0 ≤ TT c a z := by unfold InT at hz; exact hz
  have sz := tt_sum a b c z
  have mz : z ∈ b :: c :: ((R1 ++ z :: R2) ++ [a]) := by simp
  have p1 : 0 < TT b c z := by
    rcases Int.lt_or_le 0 (TT b c z) with h | h
    · exact h
    · exact absurd (inT_side hz ht (by omega)) (hs.on (b, c) edge_bc z mz nz1 nz2)
  have p2 : 0 < TT a b z := by
    rcases Int.lt_or_le 0 (TT a b z) with h | h
    · exact h
    · have e1 := tt_rot c a b
      exact absurd (inT_side (inT_rot (inT_rot hz)) (by omega) (by omega)) (hs.on (a, b) edge_ab z mz nz3 nz1)
  have notin : ∀ u ∈ b :: c :: ((R1 ++ z :: R2) ++ [a]), u ≠ b → TT c a z < TT c a u → TT b c u < 0 ∨ TT a b u < 0 := by
    intro u hu hb h
    simp only [List.mem_cons, List.not_mem_nil, or_false] at hu
    rcases hu with h' | h' | h'
    · exact absurd h' hb
    · subst h'; rw [(tt_self u a).1] at h; omega
    · rcases List.mem_append.1 h' with h' | h'
      · rcases Int.lt_or_le (TT b c u) 0 with k | k
        · exact Or.inl k
        · rcases Int.lt_or_le (TT a b u) 0 with k' | k'
          · exact Or.inr k'
          · have : InT a b c u := by unfold InT; exact ⟨k', k, by omega⟩
            have := hmax u h' this; omega
      · have : u = a := by simpa using h'
        subst this; rw [(tt_self c u).2.1] at h; omega
  refine ⟨p1, p2, ?_, ?_⟩
  · intro v hv h1 h2 hon
    obtain ⟨m, N, hm, hN, ex, ey⟩ := on_par hon h1 h2
    have e1 := par_tt ex ey b c; have e2 := par_tt ex ey a b; have e3 := par_tt ex ey c a
    rw [(tt_self b c).1] at e1; rw [(tt_self a b).2.1] at e2; rw [show TT c a b = TT a b c from (tt_rot c a b).symm] at e3
    have g1 : 0 < N * TT b c v := by rw [e1]; have := Int.mul_pos hm p1; omega
    have g2 : 0 < N * TT a b v := by rw [e2]; have := Int.mul_pos hm p2; omega
    have g3 : 0 < N * (TT c a v - TT c a z) := by
      have : N * (TT c a v - TT c a z) = (N - m) * (TT a b c - TT c a z) := by rw [Int.mul_sub, e3]; grind
      rw [this]; exact Int.mul_pos (by omega) (by omega)
    have g1' := pos_of_mul g1 (by omega); have g2' := pos_of_mul g2 (by omega); have g3' := pos_of_mul g3 (by omega)
    rcases notin v hv h1 (by omega) with h | h <;> omega
  · rintro ⟨u, w⟩ he hcr
    simp only at hcr
    have hub : u ≠ b := by rintro rfl; have := hcr; unfold Cr at this; have := this.1; rw [(tt_self u z).1] at this; simp at this
    have hwb : w ≠ b := by rintro rfl; have := hcr; unfold Cr at this; have := this.1; rw [(tt_self w z).1] at this; simp at this
    obtain ⟨mu, mw⟩ := edge_mem he
    rcases cross_out ht p1 p2 hz'.2.2 (notin u mu hub) (notin w mw hwb) hcr with g | g
    · exact hs.cr (u, w) he (b, c) edge_bc g
    · exact hs.cr (u, w) he (a, b) edge_ab g
theorem cut_diag_pos (hs : Simp (b :: c :: ((R1 ++ z :: R2) ++ [a]))) (ht : 0 < TT a b c) (hz : InT a b c z) (hmax : ∀ v ∈ R1 ++ z :: R2, InT a b c v → TT c a v ≤ TT c a z) :
    Simp (b :: c :: (R1 ++ [z])) ∧ Simp (b :: z :: (R2 ++ [a])) ∧ A2 (b :: c :: ((R1 ++ z :: R2) ++ [a])) = A2 (b :: c :: (R1 ++ [z])) + A2 (b :: z :: (R2 ++ [a])) ∧ 0 < TT z b c ∧ 0 < TT a b z ∧
    ∀ v t, Exv (b :: c :: ((R1 ++ z :: R2) ++ [a])) v → v ≠ b → At (b :: c :: ((R1 ++ z :: R2) ++ [a])) v t → (Exv (b :: c :: (R1 ++ [z])) v ∧ At (b :: c :: (R1 ++ [z])) v t) ∨ (Exv (b :: z :: (R2 ++ [a])) v ∧ At (b :: z :: (R2 ++ [a])) v t) := by
  obtain ⟨p1, p2, hD⟩ := diag_z hs ht hz hmax
  have hE : EE (b :: c :: ((R1 ++ z :: R2) ++ [a])) = (b, c) :: ((steps (c :: (R1 ++ [z])) ++ steps (z :: (R2 ++ [a]))) ++ [(a, b)]) := by
    rw [front_E]
    have e : c :: ((R1 ++ z :: R2) ++ [a]) = (c :: R1) ++ z :: (R2 ++ [a]) := by simp
    rw [e, steps_cat]; simp
  have hE1 := front_E b c z R1
  have hE2 := front_E b z a R2
  have m1 : ∀ v ∈ b :: c :: (R1 ++ [z]), v ∈ b :: c :: ((R1 ++ z :: R2) ++ [a]) := by
    intro v hv; simp only [List.mem_cons, List.mem_append, List.not_mem_nil, or_false] at hv ⊢; grind
  have m2 : ∀ v ∈ b :: z :: (R2 ++ [a]), v ∈ b :: c :: ((R1 ++ z :: R2) ++ [a]) := by
    intro v hv; simp only [List.mem_cons, List.mem_append, List.not_mem_nil, or_false] at hv ⊢; grind
  have nd := hs.nd
  have sl1 : (b :: c :: (R1 ++ [z])).Sublist (b :: c :: ((R1 ++ z :: R2) ++ [a])) := by
    refine List.Sublist.cons_cons b (List.Sublist.cons_cons c ?_)
    rw [List.append_assoc]
    exact List.Sublist.append_left (by simp) _
  have sl2 : (b :: z :: (R2 ++ [a])).Sublist (b :: c :: ((R1 ++ z :: R2) ++ [a])) := by
    refine List.Sublist.cons_cons b ?_
    have e : c :: ((R1 ++ z :: R2) ++ [a]) = (c :: R1) ++ z :: (R2 ++ [a]) := by simp
    rw [e]
    exact List.sublist_append_right _ _
  have nd1 := sl1.nodup nd
  have nd2 := sl2.nodup nd
  refine ⟨simp_sub hs hD nd1 (by simp) m1 ?_, simp_sub hs hD nd2 (by simp) m2 ?_, ?_, ?_, p2, ?_⟩
  · intro e he
    rw [hE1] at he; rw [hE]
    simp only [List.mem_cons, List.mem_append, List.not_mem_nil, or_false] at he ⊢; grind
  · intro e he
    rw [hE2] at he; rw [hE]
    simp only [List.mem_cons, List.mem_append, List.not_mem_nil, or_false] at he ⊢; grind
  · unfold A2
    rw [hE, hE1, hE2]
    simp only [List.map_cons, List.map_append, List.sum_cons, List.sum_append, List.map_nil, List.sum_nil, cr2]
    grind
  · rw [← tt_rot z b c]; exact p1
  · rintro v t hv hvb ⟨p, q, h1, h2, rfl⟩
    have hvz : v ≠ z := by
      rintro rfl
      obtain ⟨n1, n2, n3, nR⟩ := nd_ne nd
      obtain ⟨nz1, nz2, nz3⟩ := nR v (by simp)
      obtain ⟨d, hd⟩ := hv.2
      have k1 := hd a (by simp) (Ne.symm nz3)
      have k2 := hd b (by simp) (Ne.symm nz1)
      have k3 := hd c (by simp) (Ne.symm nz2)
      have by1 : TT b c v * (LL d a - LL d v) + TT a b v * (LL d c - LL d v) + TT c a v * (LL d b - LL d v) = 0 := by unfold TT LL; grind
      have hz' : 0 ≤ TT a b v ∧ 0 ≤ TT b c v ∧ 0 ≤ TT c a v := by unfold InT at hz; exact hz
      have q1 := Int.mul_pos p1 (show 0 < LL d v - LL d a by omega)
      have q2 := Int.mul_pos p2 (show 0 < LL d v - LL d c by omega)
      have q3 := Int.mul_nonneg hz'.2.2 (show 0 ≤ LL d v - LL d b by omega)
      grind
    have s1 : ∀ {x y : P2}, (x, y) ∈ steps (c :: (R1 ++ [z])) → (v = x ∨ v = y) → v ∈ c :: R1 := by
      intro x y h hx
      have := steps_mem h
      simp only [List.mem_cons, List.mem_append, List.not_mem_nil, or_false] at this ⊢; grind
    have s2 : ∀ {x y : P2}, (x, y) ∈ steps (z :: (R2 ++ [a])) → (v = x ∨ v = y) → v ∈ R2 ++ [a] := by
      intro x y h hx
      have := steps_mem h
      simp only [List.mem_cons, List.mem_append, List.not_mem_nil, or_false] at this ⊢; grind
    have dis : v ∈ c :: R1 → v ∈ R2 ++ [a] → False := by
      intro g1 g2
      have nd' := (List.nodup_cons.1 nd).2
      have e : c :: ((R1 ++ z :: R2) ++ [a]) = (c :: R1) ++ z :: (R2 ++ [a]) := by simp
      rw [e] at nd'
      exact (List.nodup_append.1 nd').2.2 v g1 v (List.mem_cons_of_mem _ g2) rfl
    rw [hE] at h1 h2
    simp only [List.mem_cons, List.mem_append, List.not_mem_nil, or_false, Prod.mk.injEq] at h1 h2
    have mv : v ∈ c :: R1 ∨ v ∈ R2 ++ [a] := by
      have := hv.1
      simp only [List.mem_cons, List.mem_append, List.not_mem_nil, or_false] at this ⊢; grind
    rcases mv with g | g
    · left
      have ng : v ∉ R2 ++ [a] := fun h => dis g h
      have nva : v ≠ a := by rintro rfl; exact ng (by simp)
      refine ⟨ext_sub hv (by simp only [List.mem_cons, List.mem_append, List.not_mem_nil, or_false] at g ⊢; grind) m1, p, q, ?_, ?_, rfl⟩
      · rw [hE1]; simp only [List.mem_cons, List.mem_append, List.not_mem_nil, or_false, Prod.mk.injEq]
        rcases h1 with h | (h | h) | h
        · exact Or.inl h
        · exact Or.inr (Or.inl h)
        · exact absurd (s2 h (Or.inr rfl)) ng
        · exact absurd h.2 hvb
      · rw [hE1]; simp only [List.mem_cons, List.mem_append, List.not_mem_nil, or_false, Prod.mk.injEq]
        rcases h2 with h | (h | h) | h
        · exact Or.inl h
        · exact Or.inr (Or.inl h)
        · exact absurd (s2 h (Or.inl rfl)) ng
        · exact absurd h.1 nva
    · right
      have ng : v ∉ c :: R1 := fun h => dis h g
      have nvc : v ≠ c := by rintro rfl; exact ng (by simp)
      refine ⟨ext_sub hv (by simp only [List.mem_cons, List.mem_append, List.not_mem_nil, or_false] at g ⊢; grind) m2, p, q, ?_, ?_, rfl⟩
      · rw [hE2]; simp only [List.mem_cons, List.mem_append, List.not_mem_nil, or_false, Prod.mk.injEq]
        rcases h1 with h | (h | h) | h
        · exact absurd h.2 nvc
        · exact absurd (s1 h (Or.inr rfl)) ng
        · exact Or.inr (Or.inl h)
        · exact Or.inr (Or.inr h)
      · rw [hE2]; simp only [List.mem_cons, List.mem_append, List.not_mem_nil, or_false, Prod.mk.injEq]
        rcases h2 with h | (h | h) | h
        · exact absurd h.1 hvb
        · exact absurd (s1 h (Or.inl rfl)) ng
        · exact Or.inr (Or.inl h)
        · exact Or.inr (Or.inr h)
end
def GP (l : List P2) : Prop := ∀ v t, Exv l v → At l v t → 0 < t * A2 l
def Keep (l : List P2) (b : P2) (τ : Int) : Prop := ∃ l', Simp l' ∧ l'.length < l.length ∧ (∀ v ∈ l', v ∈ l) ∧ A2 l = A2 l' + τ ∧ ∀ v, Exv l v → v ≠ b → Exv l' v ∧ ∀ t, At l v t → ∃ t', At l' v t' ∧ 0 < t * t'
theorem at_perm {l l' : List P2} (he : (EE l).Perm (EE l')) {v : P2} {t : Int} (h : At l v t) : At l' v t := by
  obtain ⟨p, q, h1, h2, rfl⟩ := h
  exact ⟨p, q, he.mem_iff.1 h1, he.mem_iff.1 h2, rfl⟩
theorem ext_perm {l l' : List P2} (hp : l.Perm l') {v : P2} (h : Exv l v) : Exv l' v := ⟨hp.mem_iff.1 h.1, h.2.imp fun d hd u hu => hd u (hp.mem_iff.2 hu)⟩
theorem gp_perm {l l' : List P2} (hp : l.Perm l') (he : (EE l).Perm (EE l')) (h : GP l') : GP l := fun v t hv ht => by
  rw [A2_perm he]; exact h v t (ext_perm hp hv) (at_perm he ht)
theorem gp_rev {l : List P2} (h : GP l.reverse) : GP l := fun v t hv ht => by
  have := h v (-t) (ext_rev hv) (at_rev ht)
  rw [A2_rev, Int.neg_mul_neg] at this; exact this
theorem keep_perm {l l' : List P2} (hp : l.Perm l') (he : (EE l).Perm (EE l')) {b : P2} {τ : Int} (h : Keep l' b τ) : Keep l b τ := by
  obtain ⟨k, h1, h2, h3, h4, h5⟩ := h
  exact ⟨k, h1, by rw [hp.length_eq]; exact h2, fun v hv => hp.mem_iff.2 (h3 v hv), by rw [A2_perm he]; exact h4, fun v hv hb => ⟨(h5 v (ext_perm hp hv) hb).1, fun t ht => (h5 v (ext_perm hp hv) hb).2 t (at_perm he ht)⟩⟩
theorem keep_rev {l : List P2} {b : P2} {τ : Int} (h : Keep l.reverse b (-τ)) : Keep l b τ := by
  obtain ⟨k, h1, h2, h3, h4, h5⟩ := h
  refine ⟨k.reverse, simp_rev h1, by simpa using h2, fun v hv => List.mem_reverse.1 (h3 v (List.mem_reverse.1 hv)), ?_, ?_⟩
  · rw [A2_rev] at h4 ⊢; omega
  · intro v hv hb
    have := h5 v (ext_rev hv) hb
    refine ⟨ext_rev this.1, fun t ht => ?_⟩
    obtain ⟨t', h, h'⟩ := this.2 (-t) (at_rev ht)
    exact ⟨-t', at_rev h, by rw [← Int.neg_mul_comm]; exact h'⟩
theorem max_in {α : Type} (F : α → Int) (P : α → Prop) : ∀ l : List α, (∃ v ∈ l, P v) → ∃ v ∈ l, P v ∧ ∀ u ∈ l, P u → F u ≤ F v
  | [], h => by obtain ⟨v, hv, _⟩ := h; cases hv
  | a :: l, h => by
    by_cases hl : ∃ v ∈ l, P v
    · obtain ⟨v, hv, pv, hm⟩ := max_in F P l hl
      by_cases ha : P a ∧ F v < F a
      · refine ⟨a, List.mem_cons_self, ha.1, fun u hu pu => ?_⟩
        rcases List.mem_cons.1 hu with rfl | hu
        · exact Int.le_refl _
        · have := hm u hu pu; omega
      · refine ⟨v, List.mem_cons_of_mem _ hv, pv, fun u hu pu => ?_⟩
        rcases List.mem_cons.1 hu with rfl | hu
        · rcases Int.lt_or_le (F v) (F u) with h | h
          · exact absurd ⟨pu, h⟩ ha
          · exact h
        · exact hm u hu pu
    · obtain ⟨v, hv, pv⟩ := h
      rcases List.mem_cons.1 hv with rfl | hv
      · refine ⟨v, List.mem_cons_self, pv, fun u hu pu => ?_⟩
        rcases List.mem_cons.1 hu with rfl | hu
        · exact Int.le_refl _
        · exact absurd ⟨u, hu, pu⟩ hl
      · exact absurd ⟨v, hv, pv⟩ hl
theorem same_sign {a b c : Int} (h1 : 0 < a * b) (h2 : 0 < b * c) : 0 < a * c := by
  rcases Int.lt_trichotomy b 0 with h | h | h
  · have ha : a < 0 := by
      rcases Int.lt_or_le a 0 with h' | h'
      · exact h'
      · have := Int.mul_nonneg h' (show 0 ≤ -b by omega); grind
    have hc : c < 0 := by
      rcases Int.lt_or_le c 0 with h' | h'
      · exact h'
      · have := Int.mul_nonneg h' (show 0 ≤ -b by omega); grind
    exact Int.mul_pos_of_neg_of_neg ha hc
  · subst h; simp at h1
  · exact Int.mul_pos (pos_of_mul (by rw [Int.mul_comm]; exact h1) h) (pos_of_mul h2 h)
theorem step_pos {b c a : P2} {R : List P2} (hs : Simp (b :: c :: (R ++ [a]))) (hR : R ≠ []) (ht : 0 < TT a b c) (hb : Exv (b :: c :: (R ++ [a])) b)
    (IH : ∀ l', l'.length < (b :: c :: (R ++ [a])).length → (∀ v ∈ l', v ∈ b :: c :: (R ++ [a])) → Simp l' → GP l') : GP (b :: c :: (R ++ [a])) ∨ Keep (b :: c :: (R ++ [a])) b (TT a b c) := by
  by_cases hem : ∃ v ∈ R, InT a b c v
  · left
    obtain ⟨z, hz, pz, hm⟩ := max_in (fun p => TT c a p) (InT a b c) R hem
    obtain ⟨R1, R2, rfl⟩ := List.append_of_mem hz
    have m1 : ∀ v ∈ b :: c :: (R1 ++ [z]), v ∈ b :: c :: ((R1 ++ z :: R2) ++ [a]) := by
      intro v hv; simp only [List.mem_cons, List.mem_append, List.not_mem_nil, or_false] at hv ⊢; grind
    have m2 : ∀ v ∈ b :: z :: (R2 ++ [a]), v ∈ b :: c :: ((R1 ++ z :: R2) ++ [a]) := by
      intro v hv; simp only [List.mem_cons, List.mem_append, List.not_mem_nil, or_false] at hv ⊢; grind
    obtain ⟨s1, s2, hA, t1, t2, hrest⟩ := cut_diag_pos hs ht pz hm
    have g1 := IH _ (by simp) m1 s1
    have g2 := IH _ (by simp; omega) m2 s2
    have a1 : 0 < A2 (b :: c :: (R1 ++ [z])) := pos_of_mul (g1 b _ (ext_sub hb (by simp) m1) ⟨z, c, edge_ab, edge_bc, rfl⟩) t1
    have a2 : 0 < A2 (b :: z :: (R2 ++ [a])) := pos_of_mul (g2 b _ (ext_sub hb (by simp) m2) ⟨a, z, edge_ab, edge_bc, rfl⟩) t2
    have ap : 0 < A2 (b :: c :: ((R1 ++ z :: R2) ++ [a])) := by rw [hA]; omega
    intro v t hv hat
    refine Int.mul_pos ?_ ap
    by_cases hvb : v = b
    · subst hvb
      obtain ⟨p, q, h1, h2, rfl⟩ := hat
      rw [nbr_prev hs.nd h1, nbr_next hs.nd h2]; exact ht
    · rcases hrest v t hv hvb hat with ⟨h1, h2⟩ | ⟨h1, h2⟩
      · exact pos_of_mul (by rw [Int.mul_comm]; exact g1 v t h1 h2) a1
      · exact pos_of_mul (by rw [Int.mul_comm]; exact g2 v t h1 h2) a2
  · right
    obtain ⟨s, hA, hk⟩ := cut_ear_pos hs hR ht (fun v hv h => hem ⟨v, hv, h⟩)
    exact ⟨_, s, by simp, fun v hv => List.mem_cons_of_mem _ hv, hA, hk⟩
theorem step_any {l : List P2} (hs : Simp l) (h4 : 4 ≤ l.length) (IH : ∀ l', l'.length < l.length → (∀ v ∈ l', v ∈ l) → Simp l' → GP l') {b : P2} {τ : Int} (hb : Exv l b) (hat : At l b τ) : GP l ∨ Keep l b τ := by
  have main : ∀ k : List P2, Simp k → 4 ≤ k.length → (∀ l', l'.length < k.length → (∀ v ∈ l', v ∈ k) → Simp l' → GP l') → Exv k b → ∀ σ, 0 < σ → At k b σ → GP k ∨ Keep k b σ := by
    intro k hs h4 IH hb σ hσ hat
    obtain ⟨c, R, a, hs', hp, he⟩ := front hs hb.1
    have hR : R ≠ [] := by rintro rfl; have := hp.length_eq; simp at this; omega
    obtain ⟨p, q, h1, h2, rfl⟩ := hat
    have e1 := nbr_prev hs'.nd (he.mem_iff.1 h1)
    have e2 := nbr_next hs'.nd (he.mem_iff.1 h2)
    subst e1 e2
    rcases step_pos hs' hR hσ (ext_perm hp hb) (fun l' hl hm hs => IH l' (by rw [hp.length_eq]; exact hl) (fun v hv => hp.mem_iff.2 (hm v hv)) hs) with h | h
    · exact Or.inl (gp_perm hp he h)
    · exact Or.inr (keep_perm hp he h)
  have nz : τ ≠ 0 := by obtain ⟨p, q, h1, h2, rfl⟩ := hat; exact ext_ne hs hb h1 h2
  rcases Int.lt_or_gt_of_ne nz with h | h
  · rcases main l.reverse (simp_rev hs) (by simpa using h4) (fun l' hl hm hs => IH l' (by simpa using hl) (fun v hv => List.mem_reverse.1 (hm v hv)) hs) (ext_rev hb) (-τ) (by omega) (at_rev hat) with g | g
    · exact Or.inl (gp_rev g)
    · exact Or.inr (keep_rev g)
  · exact main l hs h4 IH hb τ h hat
def Bnd (l : List P2) : Prop := ∀ v ∈ l, (0 ≤ v.1 ∧ v.1 ≤ 20000) ∧ (0 ≤ v.2 ∧ v.2 ≤ 20000)
theorem uniq_max {l : List P2} (d : P2) (hl : l ≠ []) (hi : ∀ u ∈ l, ∀ v ∈ l, LL d u = LL d v → u = v) : ∃ v, Exv l v ∧ ∀ u ∈ l, LL d u ≤ LL d v := by
  obtain ⟨x, hx⟩ := List.exists_mem_of_ne_nil l hl
  obtain ⟨v, hv, _, hm⟩ := max_in (LL d) (fun _ => True) l ⟨x, hx, trivial⟩
  refine ⟨v, ⟨hv, d, fun u hu hne => ?_⟩, fun u hu => hm u hu trivial⟩
  have := hm u hu trivial
  rcases Int.lt_or_eq_of_le this with h | h
  · exact h
  · exact absurd (hi u hu v hv h) hne
theorem sq_nn (x : Int) : 0 ≤ x * x := by
  rcases Int.le_total 0 x with h | h
  · exact Int.mul_nonneg h h
  · exact Int.mul_nonneg_of_nonpos_of_nonpos h h
theorem three_ext {l : List P2} (hs : Simp l) (hb : Bnd l) : ∃ e1 e2 e3, Exv l e1 ∧ Exv l e2 ∧ Exv l e3 ∧ e1 ≠ e2 ∧ e1 ≠ e3 ∧ e2 ≠ e3 := by
  have hne : l ≠ [] := by rintro rfl; have := hs.three; simp at this
  have inj : ∀ s : Int, s = 1 ∨ s = -1 → ∀ u ∈ l, ∀ v ∈ l, LL (s * 20001, s) u = LL (s * 20001, s) v → u = v := by
    intro s hs u hu v hv h
    have := hb u hu; have := hb v hv
    obtain ⟨u1, u2⟩ := u; obtain ⟨v1, v2⟩ := v
    unfold LL at h; simp only at *
    rw [Prod.mk.injEq]
    rcases hs with rfl | rfl <;> omega
  obtain ⟨e1, x1, m1⟩ := uniq_max (-1 * 20001, -1) hne (inj (-1) (Or.inr rfl))
  obtain ⟨e2, x2, m2⟩ := uniq_max (1 * 20001, 1) hne (inj 1 (Or.inl rfl))
  obtain ⟨c, R, a, hs', hp, he⟩ := front hs x1.1
  obtain ⟨n1, n2, n3, _⟩ := nd_ne hs'.nd
  have mc : c ∈ l := hp.mem_iff.2 (by simp)
  have ma : a ∈ l := hp.mem_iff.2 (by simp)
  have n12 : e1 ≠ e2 := by
    rintro rfl
    have h1 := m1 c mc; have h2 := m2 c mc
    have := inj 1 (Or.inl rfl) c mc e1 x1.1 (by unfold LL at *; simp only at *; omega)
    exact n1 this.symm
  have nz := ext_ne hs x1 (he.mem_iff.2 (edge_ab)) (he.mem_iff.2 (edge_bc))
  have off : ∃ p ∈ l, TT e1 e2 p ≠ 0 := by
    by_cases ha : TT e1 e2 a = 0
    · by_cases hc : TT e1 e2 c = 0
      · exfalso
        apply nz
        have k1 : (e2.1 - e1.1) * TT a e1 c = 0 := by unfold TT at *; grind
        have k2 : (e2.2 - e1.2) * TT a e1 c = 0 := by unfold TT at *; grind
        rcases Int.mul_eq_zero.1 k1 with k1 | k1
        · rcases Int.mul_eq_zero.1 k2 with k2 | k2
          · exact absurd (Prod.ext (by omega) (by omega)) n12
          · exact k2
        · exact k1
      · exact ⟨c, mc, hc⟩
    · exact ⟨a, ma, ha⟩
  obtain ⟨p, mp, hpz⟩ := off
  have gb : ∀ q ∈ l, -2000000000 ≤ LL (e2.1 - e1.1, e2.2 - e1.2) q ∧ LL (e2.1 - e1.1, e2.2 - e1.2) q ≤ 2000000000 := by
    intro q hq
    obtain ⟨⟨a1, a2⟩, a3, a4⟩ := hb q hq
    obtain ⟨⟨b1, b2⟩, b3, b4⟩ := hb e1 x1.1
    obtain ⟨⟨c1, c2⟩, c3, c4⟩ := hb e2 x2.1
    have bd : ∀ x y : Int, -20000 ≤ x → x ≤ 20000 → 0 ≤ y → y ≤ 20000 → -400000000 ≤ x * y ∧ x * y ≤ 400000000 := by
      intro x y h1 h2 h3 h4
      have i1 := Int.mul_nonneg (show 0 ≤ x + 20000 by omega) h3
      have i2 := Int.mul_nonneg (show 0 ≤ 20000 - x by omega) h3
      constructor <;> grind
    have := bd (e2.1 - e1.1) q.1 (by omega) (by omega) a1 a2
    have := bd (e2.2 - e1.2) q.2 (by omega) (by omega) a3 a4
    unfold LL; simp only; omega
  have third : ∀ s : Int, s = 1 ∨ s = -1 → 0 < s * TT e1 e2 p → ∃ e3, Exv l e3 ∧ TT e1 e2 e3 ≠ 0 := by
    intro s hs1 hsp
    let d : P2 := (-(s * 10000000000 * (e2.2 - e1.2)) + (e2.1 - e1.1), s * 10000000000 * (e2.1 - e1.1) + (e2.2 - e1.2))
    have hd : ∀ q, LL d q = 10000000000 * (s * TT e1 e2 q) + LL (e2.1 - e1.1, e2.2 - e1.2) q + s * 10000000000 * ((e2.1 - e1.1) * e1.2 - (e2.2 - e1.2) * e1.1) := by
      intro q; simp only [d, LL, TT]; grind
    have hi : ∀ u ∈ l, ∀ v ∈ l, LL d u = LL d v → u = v := by
      intro u hu v hv h
      rw [hd, hd] at h
      have g1 := gb u hu; have g2 := gb v hv
      have f : s * TT e1 e2 u = s * TT e1 e2 v := by omega
      have g : LL (e2.1 - e1.1, e2.2 - e1.2) u = LL (e2.1 - e1.1, e2.2 - e1.2) v := by omega
      have f' : TT e1 e2 u = TT e1 e2 v := by rcases hs1 with rfl | rfl <;> omega
      have q1 : ((e2.1 - e1.1) * (e2.1 - e1.1) + (e2.2 - e1.2) * (e2.2 - e1.2)) * (u.1 - v.1) = 0 := by unfold TT at f'; unfold LL at g; simp only at g; grind
      have q2 : ((e2.1 - e1.1) * (e2.1 - e1.1) + (e2.2 - e1.2) * (e2.2 - e1.2)) * (u.2 - v.2) = 0 := by unfold TT at f'; unfold LL at g; simp only at g; grind
      have qp : (e2.1 - e1.1) * (e2.1 - e1.1) + (e2.2 - e1.2) * (e2.2 - e1.2) ≠ 0 := by
        intro h
        have i1 : 0 ≤ (e2.1 - e1.1) * (e2.1 - e1.1) := sq_nn (e2.1 - e1.1)
        have i2 : 0 ≤ (e2.2 - e1.2) * (e2.2 - e1.2) := sq_nn (e2.2 - e1.2)
        have j1 : (e2.1 - e1.1) * (e2.1 - e1.1) = 0 := by omega
        have j2 : (e2.2 - e1.2) * (e2.2 - e1.2) = 0 := by omega
        have k1 : e2.1 - e1.1 = 0 := by rcases Int.mul_eq_zero.1 j1 with h | h <;> exact h
        have k2 : e2.2 - e1.2 = 0 := by rcases Int.mul_eq_zero.1 j2 with h | h <;> exact h
        exact n12 (Prod.ext (by omega) (by omega))
      refine Prod.ext ?_ ?_
      · rcases Int.mul_eq_zero.1 q1 with h | h
        · exact absurd h qp
        · omega
      · rcases Int.mul_eq_zero.1 q2 with h | h
        · exact absurd h qp
        · omega
    obtain ⟨e3, x3, m3⟩ := uniq_max d hne hi
    refine ⟨e3, x3, fun h0 => ?_⟩
    have h := m3 p mp
    rw [hd, hd, h0] at h
    have g1 := gb p mp; have g2 := gb e3 x3.1
    omega
  obtain ⟨e3, x3, h3⟩ : ∃ e3, Exv l e3 ∧ TT e1 e2 e3 ≠ 0 := by
    rcases Int.lt_or_gt_of_ne hpz with h | h
    · exact third (-1) (Or.inr rfl) (by omega)
    · exact third 1 (Or.inl rfl) (by omega)
  refine ⟨e1, e2, e3, x1, x2, x3, n12, ?_, ?_⟩
  · rintro rfl; exact h3 (tt_self e1 e2).1
  · rintro rfl; exact h3 (tt_self e1 e2).2.1
theorem at_ex {l : List P2} (hs : Simp l) {v : P2} (hv : v ∈ l) : ∃ t, At l v t := by
  obtain ⟨c, R, a, hs', hp, he⟩ := front hs hv
  exact ⟨_, a, c, he.mem_iff.2 edge_ab, he.mem_iff.2 edge_bc, rfl⟩
theorem gp_all : ∀ n (l : List P2), l.length ≤ n → Bnd l → Simp l → GP l := by
  intro n
  induction n with
  | zero => intro l h _ hs; have := hs.three; omega
  | succ n ih =>
    intro l hl hb hs
    by_cases h3 : l.length = 3
    · intro v t hv hat
      obtain ⟨c, R, a, hs', hp, he⟩ := front hs hv.1
      have hR : R = [] := by have := hp.length_eq; simp at this; exact List.length_eq_zero_iff.1 (by omega)
      subst hR
      obtain ⟨p, q, h1, h2, rfl⟩ := hat
      have nz := ext_ne hs hv h1 h2
      have e1 := nbr_prev hs'.nd (he.mem_iff.1 h1)
      have e2 := nbr_next hs'.nd (he.mem_iff.1 h2)
      subst e1 e2
      have : A2 l = TT p v q := by
        rw [A2_perm he]; unfold A2; simp only [EE, List.nil_append, List.cons_append, steps, List.map_cons, List.map_nil, List.sum_cons, List.sum_nil, cr2]; unfold TT; grind
      rw [this]
      rcases Int.lt_or_gt_of_ne nz with h | h
      · exact Int.mul_pos_of_neg_of_neg h h
      · exact Int.mul_pos h h
    · have h4 : 4 ≤ l.length := by have := hs.three; omega
      have IH : ∀ l', l'.length < l.length → (∀ v ∈ l', v ∈ l) → Simp l' → GP l' := fun l' h1 h2 h3 => ih l' (by omega) (fun v hv => hb v (h2 v hv)) h3
      by_cases hg : GP l
      · exact hg
      · have hK : ∀ b τ, Exv l b → At l b τ → Keep l b τ := fun b τ h1 h2 => (step_any hs h4 IH h1 h2).resolve_left hg
        obtain ⟨e1, e2, e3, x1, x2, x3, n12, n13, n23⟩ := three_ext hs hb
        intro v t hv hat
        have two : ∃ b1 b2, Exv l b1 ∧ Exv l b2 ∧ b1 ≠ v ∧ b2 ≠ v ∧ b1 ≠ b2 := by
          by_cases k1 : e1 = v
          · subst k1; exact ⟨e2, e3, x2, x3, n12.symm, n13.symm, n23⟩
          · by_cases k2 : e2 = v
            · subst k2; exact ⟨e1, e3, x1, x3, n12, n23.symm, n13⟩
            · exact ⟨e1, e2, x1, x2, k1, k2, n12⟩
        obtain ⟨b1, b2, y1, y2, v1, v2, n⟩ := two
        obtain ⟨τ1, at1⟩ := at_ex hs y1.1
        obtain ⟨τ2, at2⟩ := at_ex hs y2.1
        have via : ∀ b τ, Exv l b → At l b τ → ∀ l', (Simp l' ∧ l'.length < l.length ∧ (∀ v ∈ l', v ∈ l) ∧ A2 l = A2 l' + τ ∧ ∀ v, Exv l v → v ≠ b → Exv l' v ∧ ∀ t, At l v t → ∃ t', At l' v t' ∧ 0 < t * t') → ∀ u s, Exv l u → u ≠ b → At l u s → 0 < s * A2 l' := by
          rintro b τ hb hτ l' ⟨s1, s2, s3, s4, s5⟩ u s hu hub hus
          obtain ⟨t', q1, q2⟩ := (s5 u hu hub).2 s hus
          exact same_sign q2 (IH l' s2 s3 s1 u t' (s5 u hu hub).1 q1)
        obtain ⟨l1, k1⟩ := hK b1 τ1 y1 at1
        obtain ⟨l2, k2⟩ := hK b2 τ2 y2 at2
        have r1 := via b1 τ1 y1 at1 l1 k1 v t hv v1.symm hat
        have r2 := via b2 τ2 y2 at2 l2 k2 v t hv v2.symm hat
        have r3 := via b2 τ2 y2 at2 l2 k2 b1 τ1 y1 n at1
        have r4 : 0 < t * τ1 := same_sign r2 (by rw [Int.mul_comm]; exact r3)
        rw [k1.2.2.2.1, Int.mul_add]; omega
/-- the area of a simple polygon is not 0 -/
theorem simp_area {l : List P2} (hb : Bnd l) (hs : Simp l) : A2 l ≠ 0 := by
  obtain ⟨e1, _, _, x1, _⟩ := three_ext hs hb
  obtain ⟨t, ht⟩ := at_ex hs x1.1
  intro h
  have := gp_all l.length l (Nat.le_refl _) hb hs e1 t x1 ht
  rw [h] at this; simp at this

end Geo
end Go.Proofs.YtpdfbboagaflhaaGreat

set_option linter.unusedSimpArgs false
set_option linter.unusedVariables false
set_option linter.unusedSectionVars false
namespace Go.Proofs.YtpdfbboagaflhaaGreat
namespace Geo

def lx (p q : P2) : Prop := p.1 < q.1 ∨ (p.1 = q.1 ∧ p.2 ≤ q.2)
theorem lx_total (p q : P2) : lx p q ∨ lx q p := by unfold lx; omega
theorem lx_trans {p q r : P2} (h1 : lx p q) (h2 : lx q r) : lx p r := by unfold lx at *; omega
theorem ons_lex {p a b : P2} (h0 : TT a b p = 0) (h1 : lx a p) (h2 : lx p b) : OnS p a b := by
  have h3 := lx_trans h1 h2
  refine ⟨h0, ?_⟩
  unfold lx at *
  refine (on_asc h3 (by unfold TT at h0; omega)).1 ⟨?_, ?_⟩ <;> omega
theorem col3 {p v q : P2} (h0 : TT p v q = 0) : OnS v p q ∨ OnS p v q ∨ OnS q v p := by
  have r1 : TT p q v = 0 := by unfold TT at *; grind
  have r2 : TT v q p = 0 := by unfold TT at *; grind
  have r3 : TT v p q = 0 := by unfold TT at *; grind
  have r4 : TT q p v = 0 := by unfold TT at *; grind
  have r5 : TT q v p = 0 := by unfold TT at *; grind
  rcases lx_total p v with a | a <;> rcases lx_total v q with b | b <;> rcases lx_total p q with c | c
  · exact Or.inl (ons_lex r1 a b)
  · exact Or.inl (ons_lex r1 a b)
  · exact Or.inr (Or.inr (ons_swap (ons_lex h0 c b)))
  · exact Or.inr (Or.inl (ons_swap (ons_lex r5 c a)))
  · exact Or.inr (Or.inl (ons_lex r2 a c))
  · exact Or.inr (Or.inr (ons_lex r3 b c))
  · exact Or.inl (ons_swap (ons_lex r4 b a))
  · exact Or.inl (ons_swap (ons_lex r4 b a))
theorem neg_of {k x : Int} (hk : 0 < k) (h : k * x < 0) : x < 0 := by
  rcases Int.lt_or_le x 0 with g | g
  · exact g
  · have := Int.mul_nonneg (Int.le_of_lt hk) g; omega
theorem ons_split {u v a c : P2} {m N : Int} (h0 : 0 < m) (h1 : m < N) (hx : N * (v.1 - a.1) = m * (c.1 - a.1)) (hy : N * (v.2 - a.2) = m * (c.2 - a.2)) (hc : a ≠ c) (h : OnS u a c) : OnS u a v ∨ OnS u v c := by
  have e1 := par_tt hx hy a u
  have e2 := par_tt hx hy u c
  rw [(tt_self a u).1, Int.mul_zero, Int.zero_add] at e1
  rw [(tt_self u c).2.1, Int.mul_zero, Int.add_zero] at e2
  have z1 : TT a u c = 0 := by have := h.1; unfold TT at *; grind
  have z2 : TT u c a = 0 := by have := h.1; unfold TT at *; grind
  rw [z1, Int.mul_zero] at e1
  rw [z2, Int.mul_zero] at e2
  have hN : N ≠ 0 := by omega
  have z3 : TT a u v = 0 := (Int.mul_eq_zero.1 e1).resolve_left hN
  have z4 : TT u c v = 0 := (Int.mul_eq_zero.1 e2).resolve_left hN
  have z5 : TT a v u = 0 := by unfold TT at *; grind
  have z6 : TT v c u = 0 := by unfold TT at *; grind
  have hv : OnS v a c := par_on (by omega) (by omega) (by omega) hx hy
  obtain ⟨k0, kx, ky⟩ := h
  obtain ⟨l0, ly, lz⟩ := hv
  by_cases hl : lx a c
  · have w1 := (on_asc (p := u.1) (q := u.2) hl (by unfold TT at k0; omega)).2 ⟨kx, ky⟩
    have w2 := (on_asc (p := v.1) (q := v.2) hl (by unfold TT at l0; omega)).2 ⟨ly, lz⟩
    rcases lx_total u v with g | g
    · exact Or.inl (ons_lex z5 (by unfold lx; omega) g)
    · exact Or.inr (ons_lex z6 g (by unfold lx; omega))
  · have hl' := (lx_total a c).resolve_left hl
    have w1 := (on_asc (p := u.1) (q := u.2) hl' (by unfold TT at k0; grind)).2 ⟨by omega, by omega⟩
    have w2 := (on_asc (p := v.1) (q := v.2) hl' (by unfold TT at l0; grind)).2 ⟨by omega, by omega⟩
    rcases lx_total u v with g | g
    · exact Or.inr (ons_swap (ons_lex (by unfold TT at *; grind) (by unfold lx; omega) g))
    · exact Or.inl (ons_swap (ons_lex (by unfold TT at *; grind) g (by unfold lx; omega)))
theorem cr_split {v a c x y : P2} {m N : Int} (h0 : 0 < m) (h1 : m < N) (hx : N * (v.1 - a.1) = m * (c.1 - a.1)) (hy : N * (v.2 - a.2) = m * (c.2 - a.2)) (h : Cr a c x y) : OnS v x y ∨ Cr a v x y ∨ Cr v c x y := by
  obtain ⟨s1, s2⟩ := h
  have f1 : ∀ u, N * TT a v u = m * TT a c u := fun u => by
    have := par_tt hx hy u a
    rw [(tt_self u a).2.1, Int.mul_zero, Int.zero_add] at this
    rw [← tt_rot u a v, ← tt_rot u a c] at *; rw [tt_rot, tt_rot] at this ⊢; exact this
  have f2 : ∀ u, N * TT v c u = (N - m) * TT a c u := fun u => by
    have := par_tt hx hy c u
    rw [(tt_self c u).1, Int.mul_zero, Int.add_zero] at this
    have e1 : TT c u v = TT v c u := by unfold TT; grind
    have e2 : TT c u a = TT a c u := by unfold TT; grind
    rw [e1, e2] at this; exact this
  have e3 := par_tt hx hy x y
  have hN : 0 < N := by omega
  by_cases hz : TT x y v = 0
  · refine Or.inl ?_
    have f0 : TT a c v = 0 := by
      have := f1 c
      rw [(tt_self a c).2.1] at this
      have e1 : TT a v c = - TT a c v := by unfold TT; grind
      rw [e1, Int.mul_zero] at this
      have := (Int.mul_eq_zero.1 this).resolve_left (by omega); omega
    rcases mul_neg_cases s1 with ⟨g1, g2⟩ | ⟨g1, g2⟩
    · refine par_on (m := TT a c x) (N := TT a c x - TT a c y) (by omega) (by omega) (by omega) ?_ ?_ <;> (unfold TT at *; grind)
    · refine par_on (m := - TT a c x) (N := TT a c y - TT a c x) (by omega) (by omega) (by omega) ?_ ?_ <;> (unfold TT at *; grind)
  · refine Or.inr ?_
    have p1 : TT a v x * TT a v y < 0 := by
      have : (N * N) * (TT a v x * TT a v y) = (m * m) * (TT a c x * TT a c y) := by
        have a1 := f1 x; have a2 := f1 y
        have e : (N * N) * (TT a v x * TT a v y) = (N * TT a v x) * (N * TT a v y) := by grind
        rw [e, a1, a2]; grind
      refine neg_of (k := N * N) (Int.mul_pos hN hN) ?_
      rw [this]; exact Int.mul_neg_of_pos_of_neg (Int.mul_pos h0 h0) s1
    have p2 : TT v c x * TT v c y < 0 := by
      have : (N * N) * (TT v c x * TT v c y) = ((N - m) * (N - m)) * (TT a c x * TT a c y) := by
        have a1 := f2 x; have a2 := f2 y
        have e : (N * N) * (TT v c x * TT v c y) = (N * TT v c x) * (N * TT v c y) := by grind
        rw [e, a1, a2]; grind
      refine neg_of (k := N * N) (Int.mul_pos hN hN) ?_
      rw [this]; exact Int.mul_neg_of_pos_of_neg (Int.mul_pos (by omega) (by omega)) s1
    rcases mul_neg_cases s2 with ⟨g1, g2⟩ | ⟨g1, g2⟩ <;> rcases Int.lt_or_gt_of_ne hz with g | g
    · exact Or.inl ⟨p1, Int.mul_neg_of_pos_of_neg g1 g⟩
    · exact Or.inr ⟨p2, Int.mul_neg_of_pos_of_neg g g2⟩
    · exact Or.inr ⟨p2, Int.mul_neg_of_neg_of_pos g g2⟩
    · exact Or.inl ⟨p1, Int.mul_neg_of_neg_of_pos g1 g⟩
theorem cmpI_zero (a b : Int) : cmpI a b = 0 ↔ a = b := by unfold cmpI; repeat (split) <;> omega
theorem turn_zero (a b c d p q : Int) : turnI a b c d p q = 0 ↔ TT (a, b) (c, d) (p, q) = 0 := by
  unfold turnI TT; rw [cmpI_zero]; simp only; omega
theorem turnAt_zero (l : List P2) (n k : Nat) : turnAt l n k = 0 ↔ TT (ptAt l ((k + n - 1) % n)) (ptAt l k) (ptAt l ((k + 1) % n)) = 0 := turn_zero _ _ _ _ _ _
theorem ptAt_cons (v : P2) (r : List P2) (k : Nat) : ptAt (v :: r) (k + 1) = ptAt r k := by simp [ptAt, px, py]
theorem ptAt_zero (v : P2) (r : List P2) : ptAt (v :: r) 0 = v := by simp [ptAt, px, py]
theorem ptAt_app (r : List P2) (a : P2) : ptAt (r ++ [a]) r.length = a := by simp [ptAt, px, py, List.getD_eq_getElem?_getD]
theorem range_cons (n : Nat) : List.range (n + 1) = 0 :: (List.range n).map (· + 1) := by rw [List.range_succ_eq_map]
/-- striking a straight first corner changes no bends -/
theorem normB_drop {v c a : P2} {R : List P2} (h0 : TT a v c = 0) (h1 : ∀ u, TT v c u = 0 ↔ TT a c u = 0) (h2 : ∀ u, TT u a v = 0 ↔ TT u a c = 0) (hac : a ≠ c) (hR : R ≠ []) :
    normB (v :: c :: (R ++ [a])) = normB (c :: (R ++ [a])) := by
  unfold normB
  rw [bendsTo_filter, bendsTo_filter]
  have hl : (v :: c :: (R ++ [a])).length = (c :: (R ++ [a])).length + 1 := by simp
  have hn : (c :: (R ++ [a])).length = R.length + 2 := by simp
  rw [hl, range_cons]
  have z : decide (turnAt (v :: c :: (R ++ [a])) ((c :: (R ++ [a])).length + 1) 0 ≠ 0) = false := by
    simp only [ne_eq, decide_not, Bool.not_eq_false', decide_eq_true_eq]
    rw [turnAt_zero, hn]
    have e1 : (0 + (R.length + 2 + 1) - 1) % (R.length + 2 + 1) = (R.length + 1) + 1 := by rw [Nat.mod_eq_of_lt (by omega)]; omega
    have e2 : (0 + 1) % (R.length + 2 + 1) = 0 + 1 := Nat.mod_eq_of_lt (by omega)
    rw [e1, e2, ptAt_cons, ptAt_cons, ptAt_cons, ptAt_zero, ptAt_zero, ptAt_app]
    exact h0
  rw [List.filter_cons, z]
  simp only [Bool.false_eq_true, if_false]
  rw [List.filter_map, List.map_map]
  have key : ∀ i, i < (c :: (R ++ [a])).length → (decide (turnAt (v :: c :: (R ++ [a])) ((c :: (R ++ [a])).length + 1) (i + 1) ≠ 0) = decide (turnAt (c :: (R ++ [a])) (c :: (R ++ [a])).length i ≠ 0)) := by
    intro i hi
    rw [decide_eq_decide]
    refine not_congr ?_
    rw [turnAt_zero, turnAt_zero, hn]
    rw [hn] at hi
    have e1 : (i + 1 + (R.length + 2 + 1) - 1) % (R.length + 2 + 1) = i := by
      rw [show i + 1 + (R.length + 2 + 1) - 1 = i + (R.length + 2 + 1) from by omega, Nat.add_mod_right, Nat.mod_eq_of_lt (by omega)]
    rw [e1, ptAt_cons]
    have hRl : 0 < R.length := List.length_pos_iff.2 hR
    by_cases hi0 : i = 0
    · subst hi0
      have e2 : (0 + 1 + 1) % (R.length + 2 + 1) = 1 + 1 := Nat.mod_eq_of_lt (by omega)
      have e3 : (0 + (R.length + 2) - 1) % (R.length + 2) = R.length + 1 := by rw [Nat.mod_eq_of_lt (by omega)]; omega
      have e4 : (0 + 1) % (R.length + 2) = 1 := Nat.mod_eq_of_lt (by omega)
      rw [e2, e3, e4, ptAt_cons, ptAt_cons, ptAt_zero, ptAt_zero, ptAt_cons, ptAt_app]
      exact h1 _
    · obtain ⟨j, rfl⟩ : ∃ j, i = j + 1 := ⟨i - 1, by omega⟩
      have e3 : (j + 1 + (R.length + 2) - 1) % (R.length + 2) = j := by
        rw [show j + 1 + (R.length + 2) - 1 = j + (R.length + 2) from by omega, Nat.add_mod_right, Nat.mod_eq_of_lt (by omega)]
      rw [e3, ptAt_cons]
      by_cases hj : j = R.length
      · subst hj
        have e2 : (R.length + 1 + 1 + 1) % (R.length + 2 + 1) = 0 := by rw [show R.length + 1 + 1 + 1 = R.length + 2 + 1 from by omega, Nat.mod_self]
        have e4 : (R.length + 1 + 1) % (R.length + 2) = 0 := by rw [show R.length + 1 + 1 = R.length + 2 from by omega, Nat.mod_self]
        rw [e2, e4, ptAt_zero, ptAt_zero, ptAt_cons, ptAt_app]
        exact h2 _
      · have e2 : (j + 1 + 1 + 1) % (R.length + 2 + 1) = (j + 2) + 1 := Nat.mod_eq_of_lt (by omega)
        have e4 : (j + 1 + 1) % (R.length + 2) = j + 2 := Nat.mod_eq_of_lt (by omega)
        rw [e2, e4, ptAt_cons v]
  have ef : (List.range (c :: (R ++ [a])).length).filter ((fun i => decide (turnAt (v :: c :: (R ++ [a])) ((c :: (R ++ [a])).length + 1) i ≠ 0)) ∘ (· + 1)) = (List.range (c :: (R ++ [a])).length).filter (fun i => decide (turnAt (c :: (R ++ [a])) (c :: (R ++ [a])).length i ≠ 0)) := by
    apply List.filter_congr
    intro i hi
    exact key i (List.mem_range.1 hi)
  rw [ef]
  apply List.map_congr_left
  intro i _
  exact ptAt_cons _ _ _
/-- a straight corner of a simple polygon is between its neighbours -/
theorem straight {v c a : P2} {R : List P2} (hs : Simp (v :: c :: (R ++ [a]))) (h0 : TT a v c = 0) : OnS v a c := by
  have e1 : (a, v) ∈ EE (v :: c :: (R ++ [a])) := by rw [front_E]; simp
  have e2 : (v, c) ∈ EE (v :: c :: (R ++ [a])) := by rw [front_E]; simp
  have nd := nd_ne hs.nd
  rcases col3 h0 with h | h | h
  · exact h
  · exact absurd h (hs.on _ e2 a (by simp) nd.2.1.symm nd.2.2.1.symm)
  · exact absurd (ons_swap h) (hs.on _ e1 c (by simp) nd.2.2.1 nd.1.symm)
theorem EE_short (c a : P2) : A2 [c, a] = 0 := by
  unfold A2; simp only [EE, steps, List.cons_append, List.nil_append, List.map_cons, List.map_nil, List.sum_cons, List.sum_nil, cr2]; grind
theorem A2_cut (v c a : P2) (R : List P2) : A2 (v :: c :: (R ++ [a])) = A2 (c :: (R ++ [a])) + TT a v c := by
  have e : EE (c :: (R ++ [a])) = steps (c :: (R ++ [a])) ++ [(a, c)] := by
    have : EE (c :: (R ++ [a])) = steps ((c :: R) ++ a :: [c]) := by simp [EE]
    rw [this, steps_cat]; simp [steps]
  unfold A2
  rw [front_E, e]
  simp only [List.map_cons, List.map_append, List.sum_cons, List.sum_append, List.map_nil, List.sum_nil, cr2]
  unfold TT; grind
theorem EE_cut (c a : P2) (R : List P2) : EE (c :: (R ++ [a])) = steps (c :: (R ++ [a])) ++ [(a, c)] := by
  have : EE (c :: (R ++ [a])) = steps ((c :: R) ++ a :: [c]) := by simp [EE]
  rw [this, steps_cat]; simp [steps]
/-- a straight corner can be struck -/
theorem simp_strike {v c a : P2} {R : List P2} (hb : Bnd (v :: c :: (R ++ [a]))) (hs : Simp (v :: c :: (R ++ [a]))) (h0 : TT a v c = 0) : R ≠ [] ∧ Simp (c :: (R ++ [a])) := by
  have hR : R ≠ [] := by
    rintro rfl
    refine simp_area hb hs ?_
    rw [A2_cut, h0]; simp only [List.nil_append]; rw [EE_short]; rfl
  have nd := nd_ne hs.nd
  have hst := straight hs h0
  obtain ⟨m, N, k0, k1, kx, ky⟩ := on_par hst nd.2.1.symm.symm nd.1
  have hv : ∀ u ∈ c :: (R ++ [a]), u ≠ v := by
    intro u hu e; subst e
    exact (List.nodup_cons.1 hs.nd).1 hu
  have em : ∀ e, e ∈ steps (c :: (R ++ [a])) → e ∈ EE (v :: c :: (R ++ [a])) := by
    intro e he; rw [front_E]; simp [he]
  have ea : (a, v) ∈ EE (v :: c :: (R ++ [a])) := by rw [front_E]; simp
  have ec : (v, c) ∈ EE (v :: c :: (R ++ [a])) := by rw [front_E]; simp
  have hcr : ∀ e, e ∈ steps (c :: (R ++ [a])) → ¬ Cr a c e.1 e.2 := by
    rintro ⟨x, y⟩ he h
    have := steps_mem he
    rcases cr_split k0 k1 kx ky h with g | g | g
    · exact hs.on _ (em _ he) v (by simp) (hv x this.1).symm (hv y this.2).symm g
    · exact hs.cr _ ea _ (em _ he) g
    · exact hs.cr _ ec _ (em _ he) g
  refine ⟨hR, (List.nodup_cons.1 hs.nd).2, ?_, ?_, ?_⟩
  · intro e he u hu h1 h2 h
    rw [EE_cut, List.mem_append, List.mem_singleton] at he
    rcases he with he | rfl
    · exact hs.on _ (em _ he) u (List.mem_cons_of_mem _ hu) h1 h2 h
    · rcases ons_split k0 k1 kx ky nd.2.2.1.symm h with g | g
      · exact hs.on _ ea u (List.mem_cons_of_mem _ hu) h1 (hv u hu) g
      · exact hs.on _ ec u (List.mem_cons_of_mem _ hu) (hv u hu) h2 g
  · intro e he f hf h
    rw [EE_cut, List.mem_append, List.mem_singleton] at he hf
    rcases he with he | rfl <;> rcases hf with hf | rfl
    · exact hs.cr _ (em _ he) _ (em _ hf) h
    · exact hcr _ he (cr_comm h)
    · exact hcr _ hf h
    · exact cr_self _ _ h
  · have := List.length_pos_iff.2 hR; simp; omega
theorem bends_self (m : List P2) (h : ∀ k, k < m.length → turnAt m m.length k ≠ 0) : normB m = m := by
  unfold normB
  rw [bendsTo_filter, List.filter_eq_self.2 (fun i hi => by simpa using h i (by simpa using hi))]
  apply List.ext_getElem (by simp)
  intro i h1 h2
  simp [ptAt_get m i h2]
/-- the bends of a simple polygon are a simple polygon -/
theorem simp_bends : ∀ n (l : List P2), l.length ≤ n → Bnd l → Simp l → Simp (normB l) := by
  intro n
  induction n with
  | zero => intro l h _ hs; have := hs.three; omega
  | succ n ih =>
    intro l hl hb hs
    by_cases hall : ∀ k, k < l.length → turnAt l l.length k ≠ 0
    · rw [bends_self l hall]; exact hs
    · obtain ⟨f, hf⟩ := Classical.not_forall.1 hall
      rw [not_imp, Classical.not_not] at hf
      obtain ⟨hf, ht⟩ := hf
      have hp : (rotL l f).Perm l := by unfold rotL; exact List.perm_append_comm.trans (by rw [List.take_append_drop])
      have he : (EE (rotL l f)).Perm (EE l) := by
        have := EE_rot (l.drop f) (l.take f); rw [List.take_append_drop] at this; exact this
      have hsr : Simp (rotL l f) := simp_perm hs hp.symm (fun e h => he.mem_iff.1 h)
      have hbr : Bnd (rotL l f) := fun v hv => hb v (hp.mem_iff.1 hv)
      have ht0 : turnAt (rotL l f) l.length 0 = 0 := by rw [turnAt_rot l f 0 (by omega) (by omega), Nat.add_zero, Nat.mod_eq_of_lt hf]; exact ht
      have hlen : (rotL l f).length = l.length := hp.length_eq
      have hback : Simp (normB (rotL l f)) → Simp (normB l) := by
        intro h
        rw [normB_rot l f (by omega)] at h
        rw [normB_split l f (by omega)]
        exact simp_perm h List.perm_append_comm (fun e he => (EE_rot _ _).mem_iff.1 he)
      refine hback ?_
      rw [← hlen] at ht0 hl
      generalize rotL l f = M at *
      have h3 := hsr.three
      match M, h3 with
      | v :: c :: M', h3 =>
        rcases List.eq_nil_or_concat M' with rfl | ⟨R, a, rfl⟩
        · simp at h3
        · rw [List.concat_eq_append] at *
          rw [turnAt_zero] at ht0
          have e1 : (0 + (v :: c :: (R ++ [a])).length - 1) % (v :: c :: (R ++ [a])).length = (R.length + 1) + 1 := by rw [Nat.mod_eq_of_lt] <;> simp
          have e2 : (0 + 1) % (v :: c :: (R ++ [a])).length = 0 + 1 := by rw [Nat.mod_eq_of_lt]; simp
          rw [e1, e2, ptAt_cons, ptAt_cons, ptAt_cons, ptAt_zero, ptAt_zero, ptAt_app] at ht0
          obtain ⟨hR, hs2⟩ := simp_strike hbr hsr ht0
          have nd := nd_ne hsr.nd
          obtain ⟨m, N, k0, k1, kx, ky⟩ := on_par (straight hsr ht0) nd.2.1 nd.1
          have f1 : ∀ u, TT v c u = 0 ↔ TT a c u = 0 := fun u => by
            have := par_tt kx ky c u
            rw [(tt_self c u).1, Int.mul_zero, Int.add_zero] at this
            have g1 : TT c u v = TT v c u := by unfold TT; grind
            have g2 : TT c u a = TT a c u := by unfold TT; grind
            rw [g1, g2] at this
            constructor <;> intro h
            · rw [h, Int.mul_zero] at this
              exact (Int.mul_eq_zero.1 this.symm).resolve_left (by omega)
            · rw [h, Int.mul_zero] at this
              exact (Int.mul_eq_zero.1 this).resolve_left (by omega)
          have f2 : ∀ u, TT u a v = 0 ↔ TT u a c = 0 := fun u => by
            have := par_tt kx ky u a
            rw [(tt_self u a).2.1, Int.mul_zero, Int.zero_add] at this
            constructor <;> intro h
            · rw [h, Int.mul_zero] at this
              exact (Int.mul_eq_zero.1 this.symm).resolve_left (by omega)
            · rw [h, Int.mul_zero] at this
              exact (Int.mul_eq_zero.1 this).resolve_left (by omega)
          rw [normB_drop ht0 f1 f2 nd.2.2.1.symm hR]
          exact ih _ (by simp at hl ⊢; omega) (fun u hu => hbr u (List.mem_cons_of_mem _ hu)) hs2
theorem steps_idx : ∀ L : List P2, steps L = (List.range (L.length - 1)).map fun k => (ptAt L k, ptAt L (k + 1))
  | [] => rfl
  | [_] => rfl
  | a :: b :: r => by
    rw [steps, steps_idx (b :: r)]
    simp only [List.length_cons, Nat.add_sub_cancel]
    rw [range_cons, List.map_cons, List.map_map]
    congr 1
theorem nx {n i : Nat} (h : i < n) : (i + 1) % n = if i + 1 = n then 0 else i + 1 := by
  split
  · rename_i e; rw [e, Nat.mod_self]
  · exact Nat.mod_eq_of_lt (by omega)
theorem EE_idx (l : List P2) : EE l = (List.range l.length).map fun k => (ptAt l k, ptAt l ((k + 1) % l.length)) := by
  cases l with
  | nil => rfl
  | cons a r =>
    rw [EE, steps_idx]
    have e : (a :: (r ++ [a])).length - 1 = (a :: r).length := by simp
    rw [e]
    apply List.map_congr_left
    intro k hk
    have hk := List.mem_range.1 hk
    simp only [List.length_cons] at hk
    have e1 : ptAt (a :: (r ++ [a])) k = ptAt (a :: r) k := by
      cases k with
      | zero => rw [ptAt_zero, ptAt_zero]
      | succ k => rw [ptAt_cons, ptAt_cons, ptAt_get _ _ (by simp; omega), ptAt_get _ _ (by omega), List.getElem_append_left]
    have e2 : ptAt (a :: (r ++ [a])) (k + 1) = ptAt (a :: r) ((k + 1) % (a :: r).length) := by
      rw [nx (by simpa using hk), ptAt_cons]
      split
      · rename_i h
        have : k = r.length := by simpa using h
        subst this; rw [ptAt_app, ptAt_zero]
      · rename_i h
        have : k < r.length := by simp at h; omega
        rw [ptAt_cons, ptAt_get _ _ (by simp; omega), ptAt_get _ _ this, List.getElem_append_left]
    rw [e1, e2]
theorem EE_mem {l : List P2} {e : P2 × P2} : e ∈ EE l ↔ ∃ k, k < l.length ∧ e = (ptAt l k, ptAt l ((k + 1) % l.length)) := by
  rw [EE_idx, List.mem_map]
  constructor
  · rintro ⟨k, hk, rfl⟩; exact ⟨k, List.mem_range.1 hk, rfl⟩
  · rintro ⟨k, hk, rfl⟩; exact ⟨k, List.mem_range.2 hk, rfl⟩
theorem pt_mem {l : List P2} {v : P2} : v ∈ l ↔ ∃ k, k < l.length ∧ v = ptAt l k := by
  constructor
  · intro h
    obtain ⟨k, hk, e⟩ := List.getElem_of_mem h
    exact ⟨k, hk, by rw [ptAt_get l k hk, e]⟩
  · rintro ⟨k, hk, rfl⟩; rw [ptAt_get l k hk]; exact List.getElem_mem hk
theorem cross_A2 (l : List P2) : crossTo (edgesL l) l.length = A2 l := by
  have h : ∀ k, k ≤ l.length → crossTo (edgesL l) k = (((List.range k).map fun k => (ptAt l k, ptAt l ((k + 1) % l.length))).map cr2).sum := by
    intro k
    induction k with
    | zero => intro _; rfl
    | succ k ih =>
      intro hk
      rw [crossTo, ih (by omega), List.range_succ, List.map_append, List.map_append, List.sum_append]
      obtain ⟨h1, h2, h3, h4⟩ := edgesL_at l k (by omega)
      rw [h1, h2, h3, h4]
      simp [cr2, ptAt]
  rw [h _ (Nat.le_refl _), ← EE_idx]; rfl
theorem turn_sgn (a b c : P2) : turnI a.1 a.2 b.1 b.2 c.1 c.2 = Int.sign (TT a b c) := turnI_sign _ _ _ _ _ _
theorem sgn_neg (x y : Int) : Int.sign x * Int.sign y < 0 ↔ x * y < 0 := by
  rw [← Int.sign_mul]; exact Int.sign_neg_iff
theorem cr_turn (a b c d : P2) : Cr a b c d ↔ (turnI a.1 a.2 b.1 b.2 c.1 c.2 * turnI a.1 a.2 b.1 b.2 d.1 d.2 < 0 ∧ turnI c.1 c.2 d.1 d.2 a.1 a.2 * turnI c.1 c.2 d.1 d.2 b.1 b.2 < 0) := by
  unfold Cr; rw [turn_sgn, turn_sgn, turn_sgn, turn_sgn, sgn_neg, sgn_neg]
theorem onR_on (p a b : P2) : onR p.1 p.2 a.1 a.2 b.1 b.2 = true ↔ OnS p a b := by
  unfold onR btwB OnS
  rw [turn_sgn]
  simp only [Bool.and_eq_true, decide_eq_true_eq, beq_iff_eq, Int.sign_eq_zero_iff_zero]
  constructor
  · rintro ⟨⟨h1, h2⟩, h3⟩; exact ⟨h3, h1, h2⟩
  · rintro ⟨h3, h1, h2⟩; exact ⟨⟨h1, h2⟩, h3⟩
abbrev Sg := P2 × P2
def bothP (e f : Sg) (p : P2) : Prop := OnS p e.1 e.2 ∧ OnS p f.1 f.2
theorem both_iff (e f : Sg) (p : P2) : bothB e.1.1 e.1.2 e.2.1 e.2.2 f.1.1 f.1.2 f.2.1 f.2.2 p = true ↔ bothP e f p := by
  unfold bothB bothP
  rw [Bool.and_eq_true, onR_on p e.1 e.2, onR_on p f.1 f.2]
def isEnd (e f : Sg) (p : P2) : Prop := p = e.1 ∨ p = e.2 ∨ p = f.1 ∨ p = f.2
def endsP (e f : Sg) : List P2 := endsL e.1.1 e.1.2 e.2.1 e.2.2 f.1.1 f.1.2 f.2.1 f.2.2
theorem endsP_mem {e f : Sg} (h1 : e.1 ≠ e.2) (h2 : f.1 ≠ f.2) (p : P2) : p ∈ endsP e f ↔ isEnd e f p ∧ bothP e f p := by
  obtain ⟨⟨a, b⟩, c, d⟩ := e
  obtain ⟨⟨u, v⟩, w, x⟩ := f
  have k1 : ¬ (a = c ∧ b = d) := fun h => h1 (by simp [h.1, h.2])
  have k2 : ¬ (u = w ∧ v = x) := fun h => h2 (by simp [h.1, h.2])
  constructor
  · intro h
    obtain ⟨g1, g2⟩ := ends_sub k1 k2 p h
    exact ⟨g1, (both_iff ((a, b), (c, d)) ((u, v), (w, x)) p).1 g2⟩
  · rintro ⟨g1, g2⟩
    exact ends_mem k1 k2 p g1 ((both_iff ((a, b), (c, d)) ((u, v), (w, x)) p).2 g2)
theorem endsP_nodup (e f : Sg) : (endsP e f).Nodup := by
  unfold endsP endsL
  have step : ∀ (o : List P2) (p : P2), o.Nodup → (endStep e.1.1 e.1.2 e.2.1 e.2.2 f.1.1 f.1.2 f.2.1 f.2.2 o p).Nodup := by
    intro o p ho
    unfold endStep
    split
    · rename_i h
      simp only [Bool.and_eq_true, Bool.not_eq_true', List.contains_eq_mem, decide_eq_false_iff_not] at h
      rw [List.nodup_append]
      refine ⟨ho, by simp, ?_⟩
      intro a ha b hb; simp at hb; subst hb
      rintro rfl; exact h.2 ha
    · exact ho
  simp only [List.foldl_cons, List.foldl_nil]
  exact step _ _ (step _ _ (step _ _ (step _ _ List.nodup_nil)))
def meetP (e f : Sg) : Int := meetR e.1.1 e.1.2 e.2.1 e.2.2 f.1.1 f.1.2 f.2.1 f.2.2
theorem meetP_none {e f : Sg} (h1 : e.1 ≠ e.2) (h2 : f.1 ≠ f.2) : meetP e f = 0 ↔ (∀ p, isEnd e f p → ¬ bothP e f p) ∧ ¬ Cr e.1 e.2 f.1 f.2 := by
  have hm := endsP_mem h1 h2
  unfold meetP meetR meetOf
  show (match endsP e f with | [] => _ | [p] => _ | _ => _) = (0 : Int) ↔ _
  rw [cr_turn]
  cases hE : endsP e f with
  | nil =>
    simp only
    have n : ∀ p, isEnd e f p → ¬ bothP e f p := fun p a b => by have := (hm p).2 ⟨a, b⟩; rw [hE] at this; simp at this
    constructor
    · intro h; refine ⟨n, fun g => ?_⟩; rw [if_pos g] at h; simp at h
    · rintro ⟨_, g⟩; rw [if_neg g]
  | cons p t =>
    have hp := (hm p).1 (by rw [hE]; simp)
    cases t with
    | nil =>
      simp only
      constructor
      · intro h; split at h <;> simp at h
      · rintro ⟨g, _⟩; exact absurd hp.2 (g p hp.1)
    | cons q t =>
      simp only
      constructor
      · intro h; simp at h
      · rintro ⟨g, _⟩; exact absurd hp.2 (g p hp.1)
theorem meetP_one {e f : Sg} (h1 : e.1 ≠ e.2) (h2 : f.1 ≠ f.2) : meetP e f = 1 ↔ ∃ p, (p = e.1 ∨ p = e.2) ∧ (p = f.1 ∨ p = f.2) ∧ (∀ u, isEnd e f u → bothP e f u → u = p) ∧ bothP e f p := by
  have hm := endsP_mem h1 h2
  have hn := endsP_nodup e f
  unfold meetP meetR meetOf
  show (match endsP e f with | [] => _ | [p] => _ | _ => _) = (1 : Int) ↔ _
  cases hE : endsP e f with
  | nil =>
    simp only
    constructor
    · intro h; split at h <;> simp at h
    · rintro ⟨p, g1, g2, g3, g4⟩
      have := (hm p).2 ⟨by unfold isEnd; rcases g1 with g | g <;> simp [g], g4⟩
      rw [hE] at this; simp at this
  | cons p t =>
    have hp := (hm p).1 (by rw [hE]; simp)
    cases t with
    | nil =>
      simp only
      constructor
      · intro h
        split at h
        · rename_i g
          refine ⟨p, g.1, g.2, fun u a b => ?_, hp.2⟩
          have := (hm u).2 ⟨a, b⟩; rw [hE] at this; simpa using this
        · simp at h
      · rintro ⟨q, g1, g2, g3, g4⟩
        have := g3 p hp.1 hp.2
        subst this
        rw [if_pos ⟨g1, g2⟩]
    | cons q t =>
      simp only
      constructor
      · intro h; simp at h
      · rintro ⟨r, g1, g2, g3, g4⟩
        have hq := (hm q).1 (by rw [hE]; simp)
        have a1 := g3 p hp.1 hp.2
        have a2 := g3 q hq.1 hq.2
        rw [hE] at hn
        simp [a1, a2] at hn
def eAt (l : List P2) (k : Nat) : Sg := (ptAt l k, ptAt l ((k + 1) % l.length))
theorem meetE_P {l : List P2} {i j : Nat} (hi : i < l.length) (hj : j < l.length) (hok : okL l = true) (ni : ptAt l i ≠ ptAt l ((i + 1) % l.length)) (nj : ptAt l j ≠ ptAt l ((j + 1) % l.length)) :
    meetE (edgesL l) i j = meetP (eAt l i) (eAt l j) := by
  obtain ⟨a1, a2, a3, a4⟩ := edgesL_at l i hi
  obtain ⟨b1, b2, b3, b4⟩ := edgesL_at l j hj
  unfold meetE meetP eAt ptAt
  rw [a1, a2, a3, a4, b1, b2, b3, b4]
  refine (meet_eq ?_ ?_).symm
  · have x := okL_bd hok i; have y := okL_bd hok ((i + 1) % l.length)
    exact okS_iff.2 ⟨⟨x.1, x.2⟩, ⟨y.1, y.2⟩, fun h => ni (by unfold ptAt; rw [h.1, h.2])⟩
  · have x := okL_bd hok j; have y := okL_bd hok ((j + 1) % l.length)
    exact okS_iff.2 ⟨⟨x.1, x.2⟩, ⟨y.1, y.2⟩, fun h => nj (by unfold ptAt; rw [h.1, h.2])⟩
theorem bothP_comm {e f : Sg} {p : P2} (h : bothP e f p) : bothP f e p := ⟨h.2, h.1⟩
theorem ons_end1 (a b : P2) : OnS a a b := ⟨(tt_self a b).1, by omega, by omega⟩
theorem ons_end2 (a b : P2) : OnS b a b := ⟨(tt_self a b).2.1, by omega, by omega⟩
theorem pt_inj {l : List P2} (nd : l.Nodup) {i j : Nat} (hi : i < l.length) (hj : j < l.length) (h : ptAt l i = ptAt l j) : i = j := by
  rw [ptAt_get l i hi, ptAt_get l j hj] at h
  exact (List.getElem_inj nd).1 h
theorem nx_lt {n i : Nat} (h : i < n) : (i + 1) % n < n := Nat.mod_lt _ (by omega)
theorem rep_nd {l : List P2} (h : repI l = false) : l.Nodup := by
  rw [List.Nodup, List.pairwise_iff_getElem]
  intro i j hi hj hij e
  have e' : ptAt l i = ptAt l j := by rw [ptAt_get l i hi, ptAt_get l j hj, e]
  unfold ptAt at e'
  simp only [Prod.mk.injEq] at e'
  have := rep_no h hi hj e'.1 e'.2
  omega
theorem nd_rep {l : List P2} (hok : okL l = true) (nd : l.Nodup) : repI l = false :=
  rep_none1 hok fun i j hij hi h => by
    have := pt_inj nd hi (show j < l.length by omega) (by unfold ptAt; rw [h.1, h.2])
    omega
/-- what CheckPoly accepts is a simple polygon -/
theorem poly_simp {l : List P2} (h : polyI l = 0) : Simp l := by
  obtain ⟨hck, h3, hr, ha⟩ := polyI_ok h
  obtain ⟨_, hok⟩ := ckPts_zero hck
  have nd : l.Nodup := rep_nd hr
  have rows := (apartB_iff l).1 ha
  have ne1 : ∀ k, k < l.length → ptAt l k ≠ ptAt l ((k + 1) % l.length) := fun k hk e => by
    have := pt_inj nd hk (nx_lt hk) e
    rw [nx hk] at this; split at this <;> omega
  have val : ∀ i j, i < j → j < l.length → meetP (eAt l i) (eAt l j) = wantI l.length i j := fun i j hij hj => by
    rw [← meetE_P (by omega) hj hok (ne1 i (by omega)) (ne1 j hj)]
    exact rows i (by omega) j hij hj
  -- a common end of two edges is a common corner
  have com : ∀ i j, i < j → j < l.length → ∀ u, isEnd (eAt l i) (eAt l j) u → bothP (eAt l i) (eAt l j) u → (u = ptAt l i ∨ u = ptAt l ((i + 1) % l.length)) ∧ (u = ptAt l j ∨ u = ptAt l ((j + 1) % l.length)) := by
    intro i j hij hj u hu hb
    have v := val i j hij hj
    unfold wantI at v
    split at v
    · obtain ⟨p, g1, g2, g3, g4⟩ := (meetP_one (ne1 i (by omega)) (ne1 j hj)).1 v
      rw [g3 u hu hb]; exact ⟨g1, g2⟩
    · exact absurd hb (((meetP_none (ne1 i (by omega)) (ne1 j hj)).1 v).1 u hu)
  refine ⟨nd, ?_, ?_, by omega⟩
  · intro e he v hv h1 h2 hon
    obtain ⟨i, hi, rfl⟩ := EE_mem.1 he
    obtain ⟨j, hj, rfl⟩ := pt_mem.1 hv
    rcases Nat.lt_trichotomy i j with g | g | g
    · have := com i j g hj (ptAt l j) (Or.inr (Or.inr (Or.inl rfl))) ⟨hon, ons_end1 _ _⟩
      rcases this.1 with e | e
      · exact h1 e
      · exact h2 e
    · subst g; exact h1 rfl
    · have := com j i g hi (ptAt l j) (Or.inl rfl) ⟨ons_end1 _ _, hon⟩
      rcases this.2 with e | e
      · exact h1 e
      · exact h2 e
  · intro e he f hf hc
    obtain ⟨i, hi, rfl⟩ := EE_mem.1 he
    obtain ⟨j, hj, rfl⟩ := EE_mem.1 hf
    have main : ∀ i j, i < j → j < l.length → ¬ Cr (ptAt l i) (ptAt l ((i + 1) % l.length)) (ptAt l j) (ptAt l ((j + 1) % l.length)) := by
      intro i j hij hj hc
      have v := val i j hij hj
      unfold wantI at v
      split at v
      · obtain ⟨p, g1, g2, g3, g4⟩ := (meetP_one (ne1 i (by omega)) (ne1 j hj)).1 v
        have z : TT (ptAt l i) (ptAt l ((i + 1) % l.length)) p = 0 := g4.1.1
        have := hc.1
        unfold eAt at g2
        rcases g2 with g | g <;> (subst g; simp only at z; rw [z] at this; simp at this)
      · exact ((meetP_none (ne1 i (by omega)) (ne1 j hj)).1 v).2 hc
    rcases Nat.lt_trichotomy i j with g | g | g
    · exact main i j g hj hc
    · subst g; exact cr_self _ _ hc
    · exact main j i g hi (cr_comm hc)
/-- a simple polygon is accepted by CheckPoly -/
theorem simp_poly {l : List P2} (hok : okL l = true) (hl : l.length ≤ 200) (hs : Simp l) : polyI l = 0 := by
  have h3 := hs.three
  have nd := hs.nd
  have ne1 : ∀ k, k < l.length → ptAt l k ≠ ptAt l ((k + 1) % l.length) := fun k hk e => by
    have := pt_inj nd hk (nx_lt hk) e
    rw [nx hk] at this; split at this <;> omega
  have hck : ckPts l 200 = 0 := by unfold ckPts; rw [if_neg (by omega), if_pos hok]
  have hr : repI l = false := nd_rep hok nd
  refine (poly_4 hck (by omega) hr ((apartB_iff l).2 ?_)).symm
  intro i hi j hij hj
  rw [meetE_P hi hj hok (ne1 i hi) (ne1 j hj)]
  have hEi : eAt l i ∈ EE l := EE_mem.2 ⟨i, hi, rfl⟩
  have hEj : eAt l j ∈ EE l := EE_mem.2 ⟨j, hj, rfl⟩
  have com : ∀ u, isEnd (eAt l i) (eAt l j) u → bothP (eAt l i) (eAt l j) u → (u = ptAt l i ∨ u = ptAt l ((i + 1) % l.length)) ∧ (u = ptAt l j ∨ u = ptAt l ((j + 1) % l.length)) := by
    intro u hu hb
    have hm : u ∈ l := by
      rcases hu with g | g | g | g <;> rw [g]
      · exact pt_mem.2 ⟨i, hi, rfl⟩
      · exact pt_mem.2 ⟨_, nx_lt hi, rfl⟩
      · exact pt_mem.2 ⟨j, hj, rfl⟩
      · exact pt_mem.2 ⟨_, nx_lt hj, rfl⟩
    constructor
    · by_cases g1 : u = ptAt l i
      · exact Or.inl g1
      · by_cases g2 : u = ptAt l ((i + 1) % l.length)
        · exact Or.inr g2
        · exact absurd hb.1 (hs.on _ hEi u hm g1 g2)
    · by_cases g1 : u = ptAt l j
      · exact Or.inl g1
      · by_cases g2 : u = ptAt l ((j + 1) % l.length)
        · exact Or.inr g2
        · exact absurd hb.2 (hs.on _ hEj u hm g1 g2)
  by_cases hadj : j = i + 1 ∨ (i = 0 ∧ j + 1 = l.length)
  · rw [want_1 hadj, meetP_one (ne1 i hi) (ne1 j hj)]
    rcases hadj with hadj | hadj
    · have e1 : (i + 1) % l.length = j := by rw [nx hi, if_neg (by omega)]; omega
      refine ⟨ptAt l j, Or.inr (by unfold eAt; rw [e1]), Or.inl rfl, ?_, ?_⟩
      · intro u hu hb
        obtain ⟨a, b⟩ := com u hu hb
        rw [e1] at a
        rcases a with a | a
        · rcases b with b | b
          · exact b
          · exfalso
            have := pt_inj nd hi (nx_lt hj) (a.symm.trans b)
            rw [nx hj] at this; split at this <;> omega
        · exact a
      · unfold bothP eAt; rw [e1]; exact ⟨ons_end2 _ _, ons_end1 _ _⟩
    · have e1 : (j + 1) % l.length = i := by rw [nx hj, if_pos hadj.2]; omega
      refine ⟨ptAt l i, Or.inl rfl, Or.inr (by unfold eAt; rw [e1]), ?_, ?_⟩
      · intro u hu hb
        obtain ⟨a, b⟩ := com u hu hb
        rw [e1] at b
        rcases b with b | b
        · rcases a with a | a
          · exact a
          · exfalso
            have := pt_inj nd hj (nx_lt hi) (b.symm.trans a)
            rw [nx hi] at this; split at this <;> omega
        · exact b
      · unfold bothP eAt; rw [e1]; exact ⟨ons_end1 _ _, ons_end2 _ _⟩
  · rw [want_0 hadj, meetP_none (ne1 i hi) (ne1 j hj)]
    refine ⟨?_, hs.cr _ hEi _ hEj⟩
    intro u hu hb
    obtain ⟨a, b⟩ := com u hu hb
    have ni := nx hi
    have nj := nx hj
    rcases a with a | a <;> rcases b with b | b
    · have := pt_inj nd hi hj (a.symm.trans b); omega
    · have := pt_inj nd hi (nx_lt hj) (a.symm.trans b)
      rw [nj] at this; split at this <;> omega
    · have := pt_inj nd (nx_lt hi) hj (a.symm.trans b)
      rw [ni] at this; split at this <;> omega
    · have := pt_inj nd (nx_lt hi) (nx_lt hj) (a.symm.trans b)
      rw [ni, nj] at this; split at this <;> split at this <;> omega
def NoStr (l : List P2) : Prop := ∀ v t, At l v t → t ≠ 0
theorem noStr_perm {l l' : List P2} (he : (EE l').Perm (EE l)) (h : NoStr l) : NoStr l' := fun v t hv => h v t (at_perm he hv)
theorem at_idx (l : List P2) {k : Nat} (hk : k < l.length) : At l (ptAt l k) (TT (ptAt l ((k + l.length - 1) % l.length)) (ptAt l k) (ptAt l ((k + 1) % l.length))) :=
  ⟨_, _, EE_mem.2 ⟨(k + l.length - 1) % l.length, Nat.mod_lt _ (by omega), by rw [prev_next hk]⟩, EE_mem.2 ⟨k, hk, rfl⟩, rfl⟩
theorem noStr_turn {l : List P2} (h : NoStr l) {k : Nat} (hk : k < l.length) : turnAt l l.length k ≠ 0 := fun e => h _ _ (at_idx l hk) ((turnAt_zero l l.length k).1 e)
theorem turn_noStr {l : List P2} (nd : l.Nodup) (h : ∀ k, k < l.length → turnAt l l.length k ≠ 0) : NoStr l := by
  rintro v t ⟨p, q, h1, h2, rfl⟩ e
  obtain ⟨i, hi, e1⟩ := EE_mem.1 h1
  obtain ⟨k, hk, e2⟩ := EE_mem.1 h2
  simp only [Prod.mk.injEq] at e1 e2
  have hik : (i + 1) % l.length = k := pt_inj nd (nx_lt hi) hk (e1.2.symm.trans e2.1)
  refine h k hk ((turnAt_zero l l.length k).2 ?_)
  have : (k + l.length - 1) % l.length = i := by
    rw [← hik, nx hi]; split
    · rw [Nat.mod_eq_of_lt] <;> omega
    · rw [show i + 1 + l.length - 1 = i + l.length from by omega, Nat.add_mod_right, Nat.mod_eq_of_lt hi]
  rw [this, ← e1.1, ← e2.1, ← e2.2]; exact e
theorem noStr_rev {l : List P2} (h : NoStr l) : NoStr l.reverse := fun v t hv => by
  have := at_rev hv; rw [List.reverse_reverse] at this
  have := h v _ this; omega
theorem rot_EE (l : List P2) (f : Nat) : (EE (rotL l f)).Perm (EE l) := by
  have := EE_rot (l.drop f) (l.take f); rw [List.take_append_drop] at this; exact this
theorem rot_perm (l : List P2) (f : Nat) : (rotL l f).Perm l := by unfold rotL; exact List.perm_append_comm.trans (by rw [List.take_append_drop])
theorem simp_rot {l : List P2} (hs : Simp l) (f : Nat) : Simp (rotL l f) := simp_perm hs (rot_perm l f).symm (fun e h => (rot_EE l f).mem_iff.1 h)
theorem bends_noStr : ∀ n (l : List P2), l.length ≤ n → Bnd l → Simp l → NoStr (normB l) := by
  intro n
  induction n with
  | zero => intro l h _ hs; have := hs.three; omega
  | succ n ih =>
    intro l hl hb hs
    by_cases hall : ∀ k, k < l.length → turnAt l l.length k ≠ 0
    · rw [bends_self l hall]; exact turn_noStr hs.nd hall
    · obtain ⟨f, hf⟩ := Classical.not_forall.1 hall
      rw [not_imp, Classical.not_not] at hf
      obtain ⟨hf, ht⟩ := hf
      have hp := rot_perm l f
      have hsr := simp_rot hs f
      have hbr : Bnd (rotL l f) := fun v hv => hb v (hp.mem_iff.1 hv)
      have ht0 : turnAt (rotL l f) l.length 0 = 0 := by rw [turnAt_rot l f 0 (by omega) (by omega), Nat.add_zero, Nat.mod_eq_of_lt hf]; exact ht
      have hlen : (rotL l f).length = l.length := hp.length_eq
      have hback : NoStr (normB (rotL l f)) → NoStr (normB l) := by
        intro h
        rw [normB_rot l f (by omega)] at h
        rw [normB_split l f (by omega)]
        exact noStr_perm (EE_rot _ _) h
      refine hback ?_
      rw [← hlen] at ht0 hl
      generalize rotL l f = M at *
      have h3 := hsr.three
      match M, h3 with
      | v :: c :: M', h3 =>
        rcases List.eq_nil_or_concat M' with rfl | ⟨R, a, rfl⟩
        · simp at h3
        · rw [List.concat_eq_append] at *
          rw [turnAt_zero] at ht0
          have e1 : (0 + (v :: c :: (R ++ [a])).length - 1) % (v :: c :: (R ++ [a])).length = (R.length + 1) + 1 := by rw [Nat.mod_eq_of_lt] <;> simp
          have e2 : (0 + 1) % (v :: c :: (R ++ [a])).length = 0 + 1 := by rw [Nat.mod_eq_of_lt]; simp
          rw [e1, e2, ptAt_cons, ptAt_cons, ptAt_cons, ptAt_zero, ptAt_zero, ptAt_app] at ht0
          obtain ⟨hR, hs2⟩ := simp_strike hbr hsr ht0
          have nd := nd_ne hsr.nd
          obtain ⟨m, N, k0, k1, kx, ky⟩ := on_par (straight hsr ht0) nd.2.1 nd.1
          have f1 : ∀ u, TT v c u = 0 ↔ TT a c u = 0 := fun u => by
            have := par_tt kx ky c u
            rw [(tt_self c u).1, Int.mul_zero, Int.add_zero] at this
            have g1 : TT c u v = TT v c u := by unfold TT; grind
            have g2 : TT c u a = TT a c u := by unfold TT; grind
            rw [g1, g2] at this
            constructor <;> intro h
            · rw [h, Int.mul_zero] at this
              exact (Int.mul_eq_zero.1 this.symm).resolve_left (by omega)
            · rw [h, Int.mul_zero] at this
              exact (Int.mul_eq_zero.1 this).resolve_left (by omega)
          have f2 : ∀ u, TT u a v = 0 ↔ TT u a c = 0 := fun u => by
            have := par_tt kx ky u a
            rw [(tt_self u a).2.1, Int.mul_zero, Int.zero_add] at this
            constructor <;> intro h
            · rw [h, Int.mul_zero] at this
              exact (Int.mul_eq_zero.1 this.symm).resolve_left (by omega)
            · rw [h, Int.mul_zero] at this
              exact (Int.mul_eq_zero.1 this).resolve_left (by omega)
          rw [normB_drop ht0 f1 f2 nd.2.2.1.symm hR]
          exact ih _ (by simp at hl ⊢; omega) (fun u hu => hbr u (List.mem_cons_of_mem _ hu)) hs2
theorem okL_bnd {l : List P2} (h : okL l = true) : Bnd l := by
  intro v hv
  have := List.all_eq_true.1 h v hv
  have := okP_iff.1 this
  omega
theorem okL_mem {l l' : List P2} (h : okL l = true) (hm : ∀ v ∈ l', v ∈ l) : okL l' = true := by
  unfold okL at *
  rw [List.all_eq_true] at h ⊢
  exact fun v hv => h v (hm v hv)
theorem areaI_A2 {l : List P2} (hok : okL l = true) (hl : l.length ≤ 400) : areaI l = A2 l := by
  unfold areaI
  rw [if_pos (by unfold ckPts; rw [if_neg (by omega), if_pos hok]), cross_A2]
theorem bends_mem {l : List P2} {v : P2} (h : v ∈ normB l) : v ∈ l := by
  unfold normB at h
  rw [bendsTo_filter] at h
  obtain ⟨k, hk, rfl⟩ := List.mem_map.1 h
  have := List.mem_range.1 (List.mem_filter.1 hk).1
  exact pt_mem.2 ⟨k, this, rfl⟩
theorem bends_len (l : List P2) : (normB l).length ≤ l.length := by
  unfold normB
  rw [bendsTo_filter, List.length_map]
  exact Nat.le_trans (List.length_filter_le _ _) (by simp)
theorem list_ext_pt {l l' : List P2} (h : l.length = l'.length) (he : ∀ i, i < l.length → ptAt l i = ptAt l' i) : l = l' := by
  apply List.ext_getElem h
  intro i h1 h2
  have := he i h1
  rwa [ptAt_get l i h1, ptAt_get l' i h2] at this
theorem rot_pt (l : List P2) {f i : Nat} (hf : f ≤ l.length) (hi : i < l.length) : ptAt (rotL l f) i = ptAt l ((f + i) % l.length) := by
  obtain ⟨h1, h2⟩ := rot_at l f i hf hi
  unfold ptAt; rw [h1, h2]
theorem rot_rot (m : List P2) {f g : Nat} (hf : f < m.length) (hg : g < m.length) : rotL (rotL m f) g = rotL m ((f + g) % m.length) := by
  have hm : (f + g) % m.length < m.length := Nat.mod_lt _ (by omega)
  have l1 := rotL_len m f (by omega)
  apply list_ext_pt
  · rw [rotL_len _ _ (by omega), l1, rotL_len m _ (by omega)]
  · intro i hi
    rw [rotL_len _ _ (by omega), l1] at hi
    rw [rot_pt _ (by omega) (by omega), l1, rot_pt _ (by omega) (Nat.mod_lt _ (by omega)), rot_pt _ (by omega) hi]
    congr 1
    rw [Nat.add_mod_mod, Nat.mod_add_mod]
    congr 1; omega
theorem rot_zero (m : List P2) : rotL m 0 = m := by simp [rotL]
/-- turned so that the least corner comes first, whatever it began with -/
theorem rot_least {m : List P2} (hok : okL m = true) (nd : m.Nodup) {f : Nat} (hf : f < m.length) : rotL (rotL m f) (leastTo (rotL m f) (rotL m f).length) = rotL m (leastTo m m.length) := by
  have l1 := rotL_len m f (by omega)
  have nd' : (rotL m f).Nodup := (rot_perm m f).nodup_iff.2 nd
  obtain ⟨a1, a2⟩ := least_lt (nd_rep (okL_mem hok fun v hv => (rot_perm m f).mem_iff.1 hv) nd') (by omega)
  obtain ⟨b1, b2⟩ := least_lt (nd_rep hok nd) (by omega)
  generalize leastTo (rotL m f) (rotL m f).length = g at *
  rw [l1] at a1 a2
  rw [rot_rot m hf a1]
  congr 1
  refine Classical.byContradiction fun hne => ?_
  have hm : (f + g) % m.length < m.length := Nat.mod_lt _ (by omega)
  have c1 := b2 _ hm hne
  -- where the least of m lies in the turned list
  obtain ⟨i, hi, e⟩ : ∃ i, i < m.length ∧ (f + i) % m.length = leastTo m m.length := by
    refine ⟨(leastTo m m.length + (m.length - f)) % m.length, Nat.mod_lt _ (by omega), ?_⟩
    rw [Nat.add_mod_mod, show f + (leastTo m m.length + (m.length - f)) = leastTo m m.length + m.length from by omega, Nat.add_mod_right, Nat.mod_eq_of_lt b1]
  have hig : i ≠ g := by rintro rfl; exact hne e
  have c2 := a2 i hi hig
  rw [rot_pt m (by omega) a1, rot_pt m (by omega) hi, e] at c2
  unfold lexLt at c1 c2; omega
/-- the normal form of a turned list -/
theorem norm_rot {l : List P2} (h : polyI l = 0) {f : Nat} (hf : f < l.length) : polyI (rotL l f) = 0 ∧ normL (rotL l f) = normL l := by
  have hs := poly_simp h
  obtain ⟨hck, h3, hr, ha⟩ := polyI_ok h
  obtain ⟨hl, hok⟩ := ckPts_zero hck
  have l1 := rotL_len l f (by omega)
  have hok' : okL (rotL l f) = true := okL_mem hok fun v hv => (rot_perm l f).mem_iff.1 hv
  have hp := simp_poly hok' (by omega) (simp_rot hs f)
  refine ⟨hp, ?_⟩
  rw [← norm_eq hp, ← norm_eq h]
  unfold refN refA
  rw [areaI_A2 hok' (by omega), areaI_A2 hok (by omega), A2_perm (rot_EE l f)]
  by_cases hA : A2 l < 0
  · rw [if_pos hA, if_pos hA]
    by_cases h0 : f = 0
    · subst h0; rw [rot_zero]
    · have e : (rotL l f).reverse = rotL l.reverse (l.length - f) := by
        unfold rotL
        rw [List.reverse_append, List.drop_reverse, List.take_reverse, show l.length - (l.length - f) = f from by omega]
      rw [e, rot_least (m := l.reverse) (f := l.length - f) (okL_mem hok fun v hv => List.mem_reverse.1 hv) ((List.reverse_perm l).nodup_iff.2 hs.nd) (by simp; omega)]
  · rw [if_neg hA, if_neg hA]
    rw [rot_least hok hs.nd hf]
/-- the normal form of the list in the opposite order -/
theorem norm_rev {l : List P2} (h : polyI l = 0) : polyI l.reverse = 0 ∧ normL l.reverse = normL l := by
  have hs := poly_simp h
  obtain ⟨hck, h3, hr, ha⟩ := polyI_ok h
  obtain ⟨hl, hok⟩ := ckPts_zero hck
  have hok' : okL l.reverse = true := okL_mem hok fun v hv => List.mem_reverse.1 hv
  have hp := simp_poly hok' (by simp; omega) (simp_rev hs)
  refine ⟨hp, ?_⟩
  rw [← norm_eq hp, ← norm_eq h]
  unfold refN refA
  have hA := simp_area (okL_bnd hok) hs
  rw [areaI_A2 hok' (by simp; omega), areaI_A2 hok (by omega), A2_rev]
  by_cases hn : A2 l < 0
  · rw [if_pos hn, if_neg (by omega)]
  · rw [if_neg hn, if_pos (by omega), List.reverse_reverse]
/-- the normal form is a simple polygon, turns left, has no straight corners, and begins with its least corner -/
theorem norm_self {l : List P2} (h : polyI l = 0) : Simp (normL l) ∧ NoStr (normL l) ∧ 0 < A2 (normL l) ∧ okL (normL l) = true ∧ (normL l).length ≤ l.length ∧ polyI (normL l) = 0 ∧ normL (normL l) = normL l := by
  have hs := poly_simp h
  obtain ⟨hck, h3, hr, ha⟩ := polyI_ok h
  obtain ⟨hl, hok⟩ := ckPts_zero hck
  have hb := okL_bnd hok
  have s1 := simp_bends _ l (Nat.le_refl _) hb hs
  have n1 := bends_noStr _ l (Nat.le_refl _) hb hs
  have ok1 : okL (normB l) = true := okL_mem hok fun v hv => bends_mem hv
  have len1 := bends_len l
  have A1 := simp_area (okL_bnd ok1) s1
  have cc : Simp (normC l) ∧ NoStr (normC l) ∧ 0 < A2 (normC l) ∧ okL (normC l) = true ∧ (normC l).length ≤ l.length := by
    unfold normC
    rw [areaI_A2 ok1 (by omega)]
    by_cases hn : A2 (normB l) < 0
    · rw [if_pos hn, revTo_rev]
      exact ⟨simp_rev s1, noStr_rev n1, by rw [A2_rev]; omega, okL_mem ok1 fun v hv => List.mem_reverse.1 hv, by simpa using len1⟩
    · rw [if_neg hn]
      exact ⟨s1, n1, by omega, ok1, len1⟩
  obtain ⟨s2, n2, A2', ok2, len2⟩ := cc
  have h0 : 0 < (normC l).length := by have := s2.three; omega
  obtain ⟨k1, k2⟩ := least_lt (nd_rep ok2 s2.nd) h0
  have e : normL l = rotL (normC l) (leastTo (normC l) (normC l).length) := rfl
  have s3 : Simp (normL l) := by rw [e]; exact simp_rot s2 _
  have n3 : NoStr (normL l) := by rw [e]; exact noStr_perm (rot_EE _ _) n2
  have a3 : 0 < A2 (normL l) := by rw [e, A2_perm (rot_EE _ _)]; exact A2'
  have ok3 : okL (normL l) = true := by rw [e]; exact okL_mem ok2 fun v hv => (rot_perm _ _).mem_iff.1 hv
  have len3 : (normL l).length = (normC l).length := by rw [e, rotL_len _ _ (by omega)]
  have p3 := simp_poly ok3 (by omega) s3
  refine ⟨s3, n3, a3, ok3, by omega, p3, ?_⟩
  have b3 : normB (normL l) = normL l := bends_self _ fun k hk => noStr_turn n3 hk
  have c3 : normC (normL l) = normL l := by
    unfold normC; rw [b3, areaI_A2 ok3 (by omega), if_neg (by omega)]
  have z : leastTo (normL l) (normL l).length = 0 := by
    refine least_unique (by omega) ?_
    intro i hi hne
    rw [len3] at hi
    rw [e, rot_pt _ (by omega) h0, rot_pt _ (by omega) hi, Nat.add_zero, Nat.mod_eq_of_lt k1]
    refine k2 _ (Nat.mod_lt _ h0) ?_
    intro hh
    have : ptAt (rotL (normC l) (leastTo (normC l) (normC l).length)) i = ptAt (rotL (normC l) (leastTo (normC l) (normC l).length)) 0 := by
      rw [rot_pt _ (by omega) hi, rot_pt _ (by omega) h0, hh, Nat.add_zero, Nat.mod_eq_of_lt k1]
    have := pt_inj s3.nd (by rw [len3]; exact hi) (by rw [len3]; exact h0) (by rw [e]; exact this)
    exact hne this
  show rotL (normC (normL l)) (leastTo (normC (normL l)) (normC (normL l)).length) = normL l
  rw [c3, z, rot_zero]

end Geo
end Go.Proofs.YtpdfbboagaflhaaGreat
