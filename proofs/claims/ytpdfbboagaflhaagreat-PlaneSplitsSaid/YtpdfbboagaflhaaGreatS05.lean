/- What Split returns of any list: an error, or the pieces. -/
import Derived.Test.YtpdfbboagaflhaaGreatS02
import Derived.Test.YtpdfbboagaflhaaGreatS01
import Derived.Deep.Slices
import Derived.Test.YtpdfbboagaflhaaGreatM19
import Derived.Test.YtpdfbboagaflhaaGreatM48
import Derived.Deep.RegionHeld3
import Derived.Deep.RegionWith
import Derived.BigRegion
import Derived.LoopTactic
import Derived.Deep.AppendLies
import Derived.Deep.RegionLaw

set_option linter.unusedSimpArgs false
set_option linter.unusedVariables false
set_option linter.unusedSectionVars false
namespace Go.Proofs.YtpdfbboagaflhaaGreat
open Go.RowKit

/-- the order of points, forwards (e is 1) or backwards (e is -1) -/
def ky (e : Int) (p : P2) : Int := e * (10001 * p.1 + p.2)
theorem c3_a (e : Int) (s t r p : P2) : (ky e p - ky e t) * c3 s p r = (ky e p - ky e s) * c3 t p r + (ky e p - ky e r) * c3 s p t := by
  simp only [ky, c3]; grind
theorem c3_b (e : Int) (s t r p : P2) : (ky e t - ky e s) * c3 s p r = (ky e r - ky e s) * c3 s p t + (ky e p - ky e s) * c3 s t r := by
  simp only [ky, c3]; grind
theorem c3_c (e : Int) (v u p r : P2) : (ky e v - ky e u) * c3 u p r = -((ky e p - ky e u) * c3 v u r) + (ky e r - ky e u) * c3 v u p := by
  simp only [ky, c3]; grind
theorem c3_d (e : Int) (w v u p : P2) : (ky e u - ky e v) * c3 w v p = -((ky e w - ky e v) * c3 v u p) + (ky e p - ky e v) * c3 w v u := by
  simp only [ky, c3]; grind
theorem c3_sw (s t p : P2) : c3 s p t = - c3 s t p := by simp only [c3]; grind
theorem nn_of {a b : Int} (ha : 0 < a) (h : 0 ≤ a * b) : 0 ≤ b := by
  rcases Int.lt_or_le b 0 with hb | hb
  · have := Int.mul_neg_of_pos_of_neg ha hb; omega
  · exact hb
theorem ps_of {a b : Int} (ha : 0 < a) (h : 0 < a * b) : 0 < b := by
  rcases Int.lt_or_le 0 b with hb | hb
  · exact hb
  · have := Int.mul_nonpos_of_nonneg_of_nonpos (Int.le_of_lt ha) hb; omega
/-- every point of a set is left of each step of a stack, or on it -/
def Good (e : Int) (R : P2 → Prop) : List P2 → Prop
  | t :: s :: rest => ky e s < ky e t ∧ (∀ r, R r → 0 ≤ c3 s t r ∧ (c3 s t r = 0 → ky e s ≤ ky e r ∧ ky e r ≤ ky e t)) ∧ Good e R (s :: rest)
  | _ => True
/-- a stack without the points that do not turn left -/
def popC (p : P2) : List P2 → List P2
  | t :: s :: r => if 0 < c3 s t p then t :: s :: r else popC p (s :: r)
  | o => o
/-- where the stack stops -/
def Stops (p : P2) : List P2 → Prop
  | t :: s :: _ => 0 < c3 s t p
  | _ => True
theorem pop_J (e : Int) (R : P2 → Prop) (p : P2) (hR : ∀ r, R r → ky e r ≤ ky e p) : ∀ (rest : List P2) (t : P2), Good e R (t :: rest) → ky e t < ky e p → (∀ r, R r → ky e t ≤ ky e r → 0 ≤ c3 t p r) →
    ∃ u rest', popC p (t :: rest) = u :: rest' ∧ Good e R (u :: rest') ∧ ky e u < ky e p ∧ (∀ r, R r → ky e u ≤ ky e r → 0 ≤ c3 u p r) ∧ Stops p (u :: rest') ∧ (u :: rest').getLast? = (t :: rest).getLast? ∧ ∀ x, x ∈ u :: rest' → x ∈ t :: rest
  | [], t, hg, ht, hJ => ⟨t, [], rfl, hg, ht, hJ, trivial, rfl, fun x h => h⟩
  | s :: r, t, hg, ht, hJ => by
    by_cases hc : 0 < c3 s t p
    · exact ⟨t, s :: r, by simp [popC, hc], hg, ht, hJ, hc, rfl, fun x h => h⟩
    · obtain ⟨g1, g2, g3⟩ := hg
      have hst : 0 ≤ c3 s p t := by rw [c3_sw]; omega
      obtain ⟨u, rest', a1, a2, a3, a4, a5, a6, a7⟩ := pop_J e R p hR r s g3 (by omega) (fun x hx hxs => by
        by_cases hxt : ky e t ≤ ky e x
        · have j := hJ x hx hxt
          have i := c3_a e s t x p
          have b1 := Int.mul_nonneg (a := ky e p - ky e s) (by omega) j
          have b2 := Int.mul_nonneg (a := ky e p - ky e x) (by have := hR x hx; omega) hst
          exact nn_of (a := ky e p - ky e t) (by omega) (by omega)
        · have j := (g2 x hx).1
          have i := c3_b e s t x p
          have b1 := Int.mul_nonneg (a := ky e x - ky e s) (by omega) hst
          have b2 := Int.mul_nonneg (a := ky e p - ky e s) (by omega) j
          exact nn_of (a := ky e t - ky e s) (by omega) (by omega))
      refine ⟨u, rest', by simp only [popC, hc, if_false]; exact a1, a2, a3, a4, a5, ?_, fun x h => by have := a7 x h; simp at this ⊢; right; exact this⟩
      rw [a6]; simp [List.getLast?_cons_cons]
theorem good_ext (e : Int) (R : P2 → Prop) (p : P2) : ∀ (rest : List P2) (u : P2), Good e R (u :: rest) → (∀ x, x ∈ u :: rest → R x) → Stops p (u :: rest) → ky e u < ky e p → Good e (fun r => R r ∨ r = p) (u :: rest)
  | [], _, _, _, _, _ => trivial
  | v :: rest, u, ⟨g1, g2, g3⟩, hm, hs, hk => by
    have hs' : 0 < c3 v u p := hs
    refine ⟨g1, fun r hr => ?_, good_ext e R p rest v g3 (fun x hx => hm x (by simp at hx ⊢; right; exact hx)) ?_ (by omega)⟩
    · rcases hr with hr | rfl
      · exact g2 r hr
      · exact ⟨by omega, fun h => by omega⟩
    · cases rest with
      | nil => trivial
      | cons w rest =>
        obtain ⟨k1, k2, k3⟩ := g3
        have hu := k2 u (hm u (by simp))
        have hu' : 0 < c3 w v u := by
          rcases Int.lt_or_eq_of_le hu.1 with h | h
          · exact h
          · have := hu.2 h.symm; omega
        have i := c3_d e w v u p
        have b1 := Int.mul_pos (a := ky e v - ky e w) (b := c3 v u p) (by omega) hs'
        have b2 := Int.mul_pos (a := ky e p - ky e v) (b := c3 w v u) (by omega) hu'
        rw [show ky e w - ky e v = -(ky e v - ky e w) by omega, Int.neg_mul] at i
        exact ps_of (a := ky e u - ky e v) (by omega) (by omega)
/-- one point more -/
theorem good_step (e : Int) (R : P2 → Prop) (p t m : P2) (rest : List P2) (hg : Good e R (t :: rest)) (hm : ∀ x, x ∈ t :: rest → R x) (hl : (t :: rest).getLast? = some m) (hmin : ∀ r, R r → ky e m ≤ ky e r) (hmax : ∀ r, R r → ky e r ≤ ky e t) (hp : ky e t < ky e p)
    (hinj : ∀ r, R r → ky e r = ky e t → r = t) :
    Good e (fun r => R r ∨ r = p) (p :: popC p (t :: rest)) ∧ (∀ x, x ∈ p :: popC p (t :: rest) → R x ∨ x = p) ∧ (p :: popC p (t :: rest)).getLast? = some m := by
  obtain ⟨u, rest', a1, a2, a3, a4, a5, a6, a7⟩ := pop_J e R p (fun r hr => by have := hmax r hr; omega) rest t hg hp (fun r hr hk => by
    rw [hinj r hr (by have := hmax r hr; omega)]; simp [c3])
  rw [a1]
  refine ⟨⟨a3, fun r hr => ?_, good_ext e R p rest' u a2 (fun x hx => hm x (a7 x hx)) a5 a3⟩, ?_, ?_⟩
  · rcases hr with hr | rfl
    · have hrt := hmax r hr
      by_cases hk : ky e u ≤ ky e r
      · exact ⟨a4 r hr hk, fun _ => ⟨hk, by omega⟩⟩
      · cases rest' with
        | nil =>
          rw [← a6] at hl
          simp at hl
          have := hmin r hr
          rw [← hl] at this; omega
        | cons v rest' =>
          have hs : 0 < c3 v u p := a5
          obtain ⟨g1, g2, _⟩ := a2
          have j := (g2 r hr).1
          have i := c3_c e v u p r
          have b1 := Int.mul_nonneg (a := ky e p - ky e u) (by omega) j
          have b2 := Int.mul_pos (a := ky e u - ky e r) (b := c3 v u p) (by omega) hs
          rw [show ky e r - ky e u = -(ky e u - ky e r) by omega, Int.neg_mul, show ky e v - ky e u = -(ky e u - ky e v) by omega, Int.neg_mul] at i
          have := ps_of (a := ky e u - ky e v) (b := c3 u p r) (by omega) (by omega)
          exact ⟨by omega, fun h => by omega⟩
    · refine ⟨by simp [c3]; rw [Int.mul_comm]; omega, fun _ => ⟨by omega, by omega⟩⟩
  · intro x hx
    rw [List.mem_cons] at hx
    rcases hx with rfl | hx
    · right; rfl
    · left; exact hm x (a7 x hx)
  · rw [List.getLast?_cons_cons, a6, hl]
/-- the stack, the last point first -/
def stkTo (l : List P2) : Nat → List P2
  | 0 => []
  | k + 1 => ptAt l k :: popC (ptAt l k) (stkTo l k)
def Among (l : List P2) (k : Nat) (r : P2) : Prop := ∃ j, j < k ∧ r = ptAt l j
theorem stk_good (e : Int) (l : List P2) (hs : ∀ i j, i < j → j < l.length → ky e (ptAt l i) < ky e (ptAt l j)) : ∀ k, k < l.length → ∃ rest, stkTo l (k + 1) = ptAt l k :: rest ∧ Good e (Among l (k + 1)) (ptAt l k :: rest) ∧ (∀ x, x ∈ ptAt l k :: rest → Among l (k + 1) x) ∧ (ptAt l k :: rest).getLast? = some (ptAt l 0)
  | 0, _ => ⟨[], rfl, trivial, fun x hx => ⟨0, by omega, by simpa using hx⟩, rfl⟩
  | k + 1, h => by
    obtain ⟨rest, b1, b2, b3, b4⟩ := stk_good e l hs k (by omega)
    have st := good_step e (Among l (k + 1)) (ptAt l (k + 1)) (ptAt l k) (ptAt l 0) rest b2 b3 b4
      (fun r ⟨j, hj, he⟩ => by
        subst he
        by_cases h0 : j = 0
        · subst h0; exact Int.le_refl _
        · exact Int.le_of_lt (hs 0 j (by omega) (by omega)))
      (fun r ⟨j, hj, he⟩ => by
        subst he
        by_cases h0 : j = k
        · subst h0; exact Int.le_refl _
        · exact Int.le_of_lt (hs j k (by omega) (by omega)))
      (hs k (k + 1) (by omega) h)
      (fun r ⟨j, hj, he⟩ hk => by
        subst he
        by_cases h0 : j = k
        · subst h0; rfl
        · have := hs j k (by omega) (by omega); omega)
    have hR : (fun r => Among l (k + 1) r ∨ r = ptAt l (k + 1)) = Among l (k + 1 + 1) := by
      funext r
      apply propext
      constructor
      · rintro (⟨j, hj, he⟩ | he)
        · exact ⟨j, by omega, he⟩
        · exact ⟨k + 1, by omega, he⟩
      · rintro ⟨j, hj, he⟩
        by_cases h0 : j = k + 1
        · right; rw [he, h0]
        · left; exact ⟨j, by omega, he⟩
    rw [hR] at st
    refine ⟨popC (ptAt l (k + 1)) (ptAt l k :: rest), by show ptAt l (k + 1) :: popC _ (stkTo l (k + 1)) = _; rw [b1], st.1, fun x hx => ?_, st.2.2⟩
    have := st.2.1 x hx
    rw [← hR]; exact this
/-- the same stack as the program's -/
theorem popC_rev (x y : Int) : ∀ (n : Nat) (o : List P2), o.length = n → popL o.reverse x y = (popC (x, y) o).reverse := by
  intro n
  induction n with
  | zero => intro o ho; obtain rfl := List.eq_nil_of_length_eq_zero ho; rfl
  | succ n ih =>
    intro o ho
    cases o with
    | nil => simp at ho
    | cons t o =>
      cases o with
      | nil => rw [popL_no (by simp [badTop])]; rfl
      | cons s r =>
        have hl : (t :: s :: r).reverse.length = r.length + 2 := by simp
        have e1 : px (t :: s :: r).reverse (r.length + 2 - 1) = t.1 ∧ py (t :: s :: r).reverse (r.length + 2 - 1) = t.2 := by
          simp [px, py, List.getD_eq_getElem?_getD]
        have e2 : px (t :: s :: r).reverse (r.length + 2 - 2) = s.1 ∧ py (t :: s :: r).reverse (r.length + 2 - 2) = s.2 := by
          simp [px, py, List.getD_eq_getElem?_getD]
        have hb : badTop (t :: s :: r).reverse x y = !decide (0 < c3 s t (x, y)) := by
          unfold badTop
          rw [hl, e1.1, e1.2, e2.1, e2.2, turnI_sign]
          have : (t.1 - s.1) * (y - s.2) - (t.2 - s.2) * (x - s.1) = c3 s t (x, y) := rfl
          rw [this]
          generalize c3 s t (x, y) = z
          rcases Int.lt_trichotomy z 0 with h | h | h
          · rw [Int.sign_eq_neg_one_of_neg h]; simp; omega
          · subst h; simp
          · rw [Int.sign_eq_one_of_pos h]; simp; omega
        by_cases hc : 0 < c3 s t (x, y)
        · rw [popL_no (by rw [hb]; simp [hc])]
          simp [popC, hc]
        · have htk : (t :: s :: r).reverse.take ((t :: s :: r).reverse.length - 1) = (s :: r).reverse := by
            rw [hl, show (t :: s :: r).reverse = (s :: r).reverse ++ [t] by simp, List.take_left' (by simp)]
          rw [popL_yes (by rw [hb]; simp [hc]), htk, ih (s :: r) (by simpa using ho)]
          simp [popC, hc]
theorem halfTo_stk (l : List P2) : ∀ k, halfTo l k = (stkTo l k).reverse
  | 0 => rfl
  | k + 1 => by
    simp only [halfTo, stkTo, List.reverse_cons]
    rw [halfTo_stk l k, popC_rev _ _ _ _ rfl]
    rfl

/-! the points in order -/
def valid (p : P2) : Prop := (0 ≤ p.1 ∧ p.1 ≤ 10000) ∧ (0 ≤ p.2 ∧ p.2 ≤ 10000)
theorem ky_lt {p q : P2} (hp : valid p) (hq : valid q) : lexLt p q ↔ ky 1 p < ky 1 q := by
  unfold valid at *; unfold lexLt ky; omega
theorem ky_inj {p q : P2} (hp : valid p) (hq : valid q) (h : ky 1 p = ky 1 q) : p = q := by
  unfold valid at *; unfold ky at h; exact Prod.ext (by omega) (by omega)
theorem ky_neg (p : P2) : ky (-1) p = - ky 1 p := by unfold ky; omega
theorem valid_of {l : List P2} (h : okL l = true) {p : P2} (hp : p ∈ l) : valid p := by
  unfold okL at h; rw [List.all_eq_true] at h; exact okP_iff.1 (h p hp)
theorem sortP_mem {l : List P2} {p : P2} : p ∈ sortP l ↔ p ∈ l := List.mem_mergeSort
theorem sortP_sorted (l : List P2) : (sortP l).Pairwise fun x y => ¬ lexLt y x := by
  unfold sortP
  rw [ltOf_cfP_eq]
  have := List.pairwise_mergeSort (le := fun x y => !lessP y x) (fun a b c h1 h2 => by simp [lessP] at *; omega) (fun a b => by simp [lessP]; omega) l
  refine this.imp fun {a b} h => ?_
  simp [lessP] at h; unfold lexLt; omega
/-- without what comes twice: strictly ascending, with the same points -/
theorem dd_spec {s : List P2} (hs : s.Pairwise fun x y => ¬ lexLt y x) : ∀ k, k ≤ s.length → (ddTo s k).Pairwise lexLt ∧ (∀ p, p ∈ ddTo s k ↔ p ∈ s.take k) ∧ (0 < k → ∀ p, p ∈ ddTo s k → lexLt p (ptAt s (k - 1)) ∨ p = ptAt s (k - 1))
  | 0, _ => by simp [ddTo]
  | k + 1, h => by
    obtain ⟨i1, i2, i3⟩ := dd_spec hs k (by omega)
    have htk : s.take (k + 1) = s.take k ++ [ptAt s k] := by rw [List.take_succ_eq_append_getElem (by omega), ptAt_get]
    have hle : 0 < k → lexLt (ptAt s (k - 1)) (ptAt s k) ∨ ptAt s (k - 1) = ptAt s k := fun h0 => by
      have := List.pairwise_iff_getElem.1 hs (k - 1) k (by omega) (by omega) (by omega)
      rw [← ptAt_get, ← ptAt_get] at this
      by_cases e : ptAt s (k - 1) = ptAt s k
      · right; exact e
      · left
        have e' : ¬ ((ptAt s (k - 1)).1 = (ptAt s k).1 ∧ (ptAt s (k - 1)).2 = (ptAt s k).2) := fun ⟨u, v⟩ => e (Prod.ext u v)
        unfold lexLt at *; omega
    have tr : ∀ {a b c : P2}, lexLt a b → lexLt b c → lexLt a c := fun h1 h2 => by unfold lexLt at *; omega
    simp only [ddTo]
    by_cases hc : k = 0 ∨ same s k (k - 1) = false
    · rw [if_pos hc]
      have hlt : ∀ p, p ∈ ddTo s k → lexLt p (ptAt s k) := fun p hp => by
        by_cases h0 : k = 0
        · subst h0; simp [ddTo] at hp
        · have hne : ptAt s (k - 1) ≠ ptAt s k := fun e => by
            have hc' := hc.resolve_left h0
            simp only [ptAt, Prod.mk.injEq] at e
            simp [same, e.1, e.2] at hc'
          have h1 := (hle (by omega)).resolve_right hne
          rcases i3 (by omega) p hp with h2 | h2
          · exact tr h2 h1
          · rw [h2]; exact h1
      refine ⟨?_, ?_, ?_⟩
      · rw [List.pairwise_append]
        refine ⟨i1, by simp, fun a ha b hb => ?_⟩
        simp at hb; rw [hb]; exact hlt a ha
      · intro p; rw [htk, List.mem_append, List.mem_append, i2]; rfl
      · intro _ p hp
        rw [List.mem_append] at hp
        rcases hp with hp | hp
        · left; exact hlt p hp
        · right; simp at hp; exact hp
    · rw [if_neg hc]
      have h0 : 0 < k := by omega
      have he : ptAt s (k - 1) = ptAt s k := by
        cases hs' : same s k (k - 1)
        · exact absurd (Or.inr hs') hc
        · simp [same] at hs'; simp [ptAt, hs'.1, hs'.2]
      refine ⟨i1, ?_, ?_⟩
      · intro p; rw [htk, List.mem_append, i2]
        constructor
        · intro h; left; exact h
        · rintro (h | h)
          · exact h
          · simp at h; rw [h, ← he, ptAt_get s _ (by omega)]
            rw [List.mem_take_iff_getElem]
            exact ⟨k - 1, by omega, rfl⟩
      · intro _ p hp
        show lexLt p (ptAt s k) ∨ p = ptAt s k
        rw [← he]; exact i3 h0 p hp
theorem ptsL_spec (l : List P2) : (ptsL l).Pairwise lexLt ∧ ∀ p, p ∈ ptsL l ↔ p ∈ l := by
  have hlen : (sortP l).length = l.length := List.length_mergeSort l
  obtain ⟨h1, h2, _⟩ := dd_spec (sortP_sorted l) l.length (by omega)
  refine ⟨h1, fun p => ?_⟩
  unfold ptsL
  rw [h2, ← hlen, List.take_length, sortP_mem]

/-! what a step of the hull says -/
/-- all points are left of the way from p to q, or between both -/
def Ext (l : List P2) (p q : P2) : Prop := q ∈ l ∧ ky 1 q ≠ ky 1 p ∧ ∀ r, r ∈ l → 0 ≤ c3 p q r ∧ (c3 p q r = 0 → (ky 1 p ≤ ky 1 r ∧ ky 1 r ≤ ky 1 q) ∨ (ky 1 q ≤ ky 1 r ∧ ky 1 r ≤ ky 1 p))
theorem good_at (e : Int) (R : P2 → Prop) : ∀ (S : List P2), Good e R S → ∀ i, (h : i + 1 < S.length) → ky e S[i + 1] < ky e S[i] ∧ ∀ r, R r → 0 ≤ c3 S[i + 1] S[i] r ∧ (c3 S[i + 1] S[i] r = 0 → ky e S[i + 1] ≤ ky e r ∧ ky e r ≤ ky e S[i])
  | [], _, i, h => by simp at h
  | [t], _, i, h => by simp at h
  | t :: s :: rest, hg, i, h => by
    obtain ⟨g1, g2, g3⟩ := hg
    cases i with
    | zero => exact ⟨g1, g2⟩
    | succ i => exact good_at e R (s :: rest) g3 i (by simpa using h)
theorem good_last (e : Int) (R : P2 → Prop) : ∀ (S : List P2), Good e R S → ∀ i, (h : i + 1 < S.length) → ky e (S[S.length - 1]'(by omega)) < ky e S[i] := by
  intro S hg i h
  have gen : ∀ d i, (h : i + 1 + d < S.length) → ky e S[i + 1 + d] < ky e S[i] := by
    intro d
    induction d with
    | zero => intro i h; exact (good_at e R S hg i h).1
    | succ d ih =>
      intro i h
      have a := ih i (by omega)
      have b := (good_at e R S hg (i + 1 + d) (by omega)).1
      have : S[i + 1 + d + 1]'(by omega) = S[i + 1 + (d + 1)] := rfl
      rw [← this]; omega
  have := gen (S.length - 1 - (i + 1)) i (by omega)
  have e1 : S[i + 1 + (S.length - 1 - (i + 1))]'(by omega) = S[S.length - 1]'(by omega) := by congr 1; omega
  rw [← e1]; exact this
/-- a half of the hull, from the first point of the list to the last one -/
theorem half_spec (e : Int) (P : List P2) (hs : ∀ i j, i < j → j < P.length → ky e (ptAt P i) < ky e (ptAt P j)) (h2 : 2 ≤ P.length) :
    2 ≤ (halfTo P P.length).length ∧ ptAt (halfTo P P.length) 0 = ptAt P 0 ∧ ptAt (halfTo P P.length) ((halfTo P P.length).length - 1) = ptAt P (P.length - 1) ∧
    (∀ i, i + 1 < (halfTo P P.length).length → ptAt (halfTo P P.length) (i + 1) ∈ P ∧ ky e (ptAt (halfTo P P.length) i) < ky e (ptAt (halfTo P P.length) (i + 1)) ∧ ∀ r, r ∈ P → 0 ≤ c3 (ptAt (halfTo P P.length) i) (ptAt (halfTo P P.length) (i + 1)) r ∧ (c3 (ptAt (halfTo P P.length) i) (ptAt (halfTo P P.length) (i + 1)) r = 0 → ky e (ptAt (halfTo P P.length) i) ≤ ky e r ∧ ky e r ≤ ky e (ptAt (halfTo P P.length) (i + 1)))) ∧
    (∀ i, i < (halfTo P P.length).length → 0 < i → ky e (ptAt P 0) < ky e (ptAt (halfTo P P.length) i)) := by
  have hlen2 : 2 ≤ (halfTo P P.length).length := by
    obtain ⟨k, hk⟩ : ∃ k, P.length = k + 2 := ⟨P.length - 2, by omega⟩
    have := halfTo_two P k
    rw [← hk] at this; exact this
  obtain ⟨rest, b1, b2, b3, b4⟩ := stk_good e P hs (P.length - 1) (by omega)
  rw [show P.length - 1 + 1 = P.length by omega] at b1 b2 b3
  have hrev := halfTo_stk P P.length
  rw [b1] at hrev
  generalize hS : ptAt P (P.length - 1) :: rest = S at *
  have hA : ∀ r, Among P P.length r ↔ r ∈ P := fun r => by
    constructor
    · rintro ⟨j, hj, rfl⟩; rw [ptAt_get P j hj]; exact List.getElem_mem hj
    · intro h
      obtain ⟨j, hj, he⟩ := List.getElem_of_mem h
      exact ⟨j, hj, by rw [ptAt_get P j hj, he]⟩
  have hlS : (halfTo P P.length).length = S.length := by rw [hrev, List.length_reverse]
  have hat : ∀ i, (h : i < S.length) → ptAt (halfTo P P.length) i = S[S.length - 1 - i]'(by omega) := fun i h => by
    rw [ptAt_get _ _ (by omega)]
    simp only [hrev, List.getElem_reverse]
  have hlast : S[S.length - 1]'(by omega) = ptAt P 0 := by
    rw [List.getLast?_eq_getElem?, List.getElem?_eq_getElem (by omega)] at b4
    exact Option.some.inj b4
  rw [hlS] at hlen2 ⊢
  refine ⟨hlen2, ?_, ?_, ?_, ?_⟩
  · rw [hat 0 (by omega)]; simp only [Nat.sub_zero]; exact hlast
  · rw [hat _ (by omega)]
    have : S[S.length - 1 - (S.length - 1)]'(by omega) = S[0]'(by omega) := by congr 1; omega
    rw [this]; subst hS; rfl
  · intro i hi
    rw [hat i (by omega), hat (i + 1) hi]
    have hg := good_at e _ S b2 (S.length - 1 - (i + 1)) (by omega)
    have e1 : S[S.length - 1 - (i + 1) + 1]'(by omega) = S[S.length - 1 - i]'(by omega) := by congr 1; omega
    rw [e1] at hg
    refine ⟨(hA _).1 (b3 _ (List.getElem_mem _)), hg.1, fun r hr => hg.2 r ((hA r).2 hr)⟩
  · intro i hi h0
    rw [hat i hi]
    have := good_last e _ S b2 (S.length - 1 - i) (by omega)
    rw [hlast] at this
    exact this

/-! the hull, step by step -/
theorem rev_pt (l : List P2) (k : Nat) (h : k < l.length) : ptAt l.reverse k = ptAt l (l.length - 1 - k) := by
  simp only [ptAt, (rev_px l k h).1, (rev_px l k h).2]
theorem hull_spec {l : List P2} (hok : okL l = true) (h2 : 2 ≤ (ptsL l).length) :
    2 ≤ (hullL l).length ∧ ptAt (hullL l) 0 = ptAt (ptsL l) 0 ∧ (∀ k, k < (hullL l).length → Ext l (ptAt (hullL l) k) (ptAt (hullL l) ((k + 1) % (hullL l).length))) ∧ (∀ k, k < (hullL l).length → 0 < k → ky 1 (ptAt (hullL l) k) ≠ ky 1 (ptAt (hullL l) 0)) := by
  obtain ⟨hp, hm⟩ := ptsL_spec l
  have hval : ∀ i, i < (ptsL l).length → valid (ptAt (ptsL l) i) := fun i hi => valid_of hok ((hm _).1 (by rw [ptAt_get _ _ hi]; exact List.getElem_mem hi))
  have hs1 : ∀ i j, i < j → j < (ptsL l).length → ky 1 (ptAt (ptsL l) i) < ky 1 (ptAt (ptsL l) j) := fun i j hij hj => by
    rw [← ky_lt (hval i (by omega)) (hval j hj)]
    have := List.pairwise_iff_getElem.1 hp i j (by omega) hj hij
    rw [ptAt_get _ _ (by omega), ptAt_get _ _ hj]; exact this
  have hrl : (ptsL l).reverse.length = (ptsL l).length := List.length_reverse
  have hs2 : ∀ i j, i < j → j < (ptsL l).reverse.length → ky (-1) (ptAt (ptsL l).reverse i) < ky (-1) (ptAt (ptsL l).reverse j) := fun i j hij hj => by
    rw [hrl] at hj
    have e1 : ptAt (ptsL l).reverse i = ptAt (ptsL l) ((ptsL l).length - 1 - i) := rev_pt _ _ (by omega)
    have e2 : ptAt (ptsL l).reverse j = ptAt (ptsL l) ((ptsL l).length - 1 - j) := rev_pt _ _ hj
    rw [e1, e2, ky_neg, ky_neg]
    have := hs1 ((ptsL l).length - 1 - j) ((ptsL l).length - 1 - i) (by omega) (by omega)
    omega
  obtain ⟨x1, x2, x3, x4, x5⟩ := half_spec 1 (ptsL l) hs1 h2
  obtain ⟨y1, y2, y3, y4, y5⟩ := half_spec (-1) (ptsL l).reverse hs2 (by omega)
  have eb : halfTo (ptsL l) (ptsL l).length = belowL l := rfl
  have ea : halfTo (ptsL l).reverse (ptsL l).reverse.length = aboveL l := by unfold aboveL; rw [revTo_rev, hrl]
  rw [eb] at x1 x2 x3 x4 x5
  rw [ea] at y1 y2 y3 y4 y5
  have r0 : ptAt (ptsL l).reverse 0 = ptAt (ptsL l) ((ptsL l).length - 1) := by rw [rev_pt _ _ (by omega), Nat.sub_zero]
  have r1 : ptAt (ptsL l).reverse ((ptsL l).reverse.length - 1) = ptAt (ptsL l) 0 := by
    rw [hrl, rev_pt _ _ (by omega), Nat.sub_self]
  rw [r0] at y2 y5
  rw [r1] at y3
  have hHl : (hullL l).length = ((belowL l).length - 1) + ((aboveL l).length - 1) := by unfold hullL; rw [List.length_append, List.length_take, List.length_take]; omega
  have hlow : ∀ i, i < (belowL l).length - 1 → ptAt (hullL l) i = ptAt (belowL l) i := fun i hi => by
    rw [ptAt_get _ _ (by omega), ptAt_get _ _ (by omega)]
    simp only [hullL]
    rw [List.getElem_append_left (by rw [List.length_take]; omega), List.getElem_take]
  have hupp : ∀ i, i < (aboveL l).length - 1 → ptAt (hullL l) ((belowL l).length - 1 + i) = ptAt (aboveL l) i := fun i hi => by
    rw [ptAt_get _ _ (by omega), ptAt_get _ _ (by omega)]
    simp only [hullL]
    rw [List.getElem_append_right (by rw [List.length_take]; omega), List.getElem_take]
    congr 1
    rw [List.length_take]; omega
  have hlow' : ∀ i, i ≤ (belowL l).length - 1 → ptAt (hullL l) i = ptAt (belowL l) i := fun i hi => by
    by_cases e : i = (belowL l).length - 1
    · have := hupp 0 (by omega)
      rw [Nat.add_zero] at this
      rw [e, this, y2, x3]
    · exact hlow i (by omega)
  have h00 : ptAt (hullL l) 0 = ptAt (ptsL l) 0 := by rw [hlow 0 (by omega), x2]
  refine ⟨by omega, h00, ?_, ?_⟩
  · intro k hk
    by_cases hkb : k < (belowL l).length - 1
    · rw [Nat.mod_eq_of_lt (by omega), hlow k hkb, hlow' (k + 1) (by omega)]
      obtain ⟨z1, z2, z3⟩ := x4 k (by omega)
      exact ⟨(hm _).1 z1, by omega, fun r hr => ⟨(z3 r ((hm r).2 hr)).1, fun h => Or.inl ((z3 r ((hm r).2 hr)).2 h)⟩⟩
    · obtain ⟨j, hj⟩ : ∃ j, k = (belowL l).length - 1 + j := ⟨k - ((belowL l).length - 1), by omega⟩
      have ek : ptAt (hullL l) k = ptAt (aboveL l) j := by rw [hj]; exact hupp j (by omega)
      have en : ptAt (hullL l) ((k + 1) % (hullL l).length) = ptAt (aboveL l) (j + 1) := by
        by_cases e : k + 1 = (hullL l).length
        · rw [e, Nat.mod_self, h00, ← y3]; congr 1; omega
        · rw [Nat.mod_eq_of_lt (by omega), hj, show (belowL l).length - 1 + j + 1 = (belowL l).length - 1 + (j + 1) by omega]
          exact hupp (j + 1) (by omega)
      rw [ek, en]
      obtain ⟨z1, z2, z3⟩ := y4 j (by omega)
      rw [ky_neg, ky_neg] at z2
      refine ⟨(hm _).1 (List.mem_reverse.1 z1), by omega, fun r hr => ?_⟩
      have := z3 r (List.mem_reverse.2 ((hm r).2 hr))
      rw [ky_neg, ky_neg, ky_neg] at this
      exact ⟨this.1, fun h => Or.inr (by have := this.2 h; omega)⟩
  · intro k hk h0
    rw [h00]
    by_cases hkb : k < (belowL l).length - 1
    · rw [hlow k hkb]
      have := x5 k (by omega) h0
      omega
    · obtain ⟨j, hj⟩ : ∃ j, k = (belowL l).length - 1 + j := ⟨k - ((belowL l).length - 1), by omega⟩
      rw [show ptAt (hullL l) k = ptAt (aboveL l) j by rw [hj]; exact hupp j (by omega)]
      rw [← y3]
      have mono : ∀ d i, i + d + 1 < (aboveL l).length → ky (-1) (ptAt (aboveL l) i) < ky (-1) (ptAt (aboveL l) (i + d + 1)) := by
        intro d
        induction d with
        | zero => intro i hi; exact (y4 i hi).2.1
        | succ d ih => intro i hi; have a := ih i (by omega); have b := (y4 (i + d + 1) hi).2.1; have : i + (d + 1) + 1 = i + d + 1 + 1 := by omega
                       rw [this]; omega
      have := mono ((aboveL l).length - 1 - j - 1) j (by omega)
      rw [show j + ((aboveL l).length - 1 - j - 1) + 1 = (aboveL l).length - 1 by omega, ky_neg, ky_neg] at this
      omega

/-! the way round, as the reference goes it -/
def farI (a b : P2) : Int := (b.1 - a.1) * (b.1 - a.1) + (b.2 - a.2) * (b.2 - a.2)
def takes (p q r : P2) : Bool := decide (turnI p.1 p.2 q.1 q.2 r.1 r.2 < 0) || (turnI p.1 p.2 q.1 q.2 r.1 r.2 == 0 && decide (farI p q < farI p r))
def scanTo (l : List P2) (p : P2) : Nat → P2
  | 0 => p
  | k + 1 => if scanTo l p k = p then ptAt l k else if takes p (scanTo l p k) (ptAt l k) then ptAt l k else scanTo l p k
theorem sq_le {x y : Int} (h : (0 ≤ x ∧ x ≤ y) ∨ (y ≤ x ∧ x ≤ 0)) : x * x ≤ y * y ∧ (x ≠ y → x * x < y * y) := by
  rcases h with ⟨h1, h2⟩ | ⟨h1, h2⟩
  · refine ⟨Int.mul_le_mul h2 h2 h1 (by omega), fun hne => ?_⟩
    have a : y * x < y * y := Int.mul_lt_mul_of_pos_left (by omega) (by omega)
    have b : x * x ≤ y * x := Int.mul_le_mul_of_nonneg_right h2 h1
    omega
  · have c1 : x * x = (-x) * (-x) := by rw [Int.neg_mul_neg]
    have c2 : y * y = (-y) * (-y) := by rw [Int.neg_mul_neg]
    rw [c1, c2]
    refine ⟨Int.mul_le_mul (by omega) (by omega) (by omega) (by omega), fun hne => ?_⟩
    have a : -y * -x < -y * -y := Int.mul_lt_mul_of_pos_left (by omega) (by omega)
    have b : -x * -x ≤ -y * -x := Int.mul_le_mul_of_nonneg_right (by omega) (by omega)
    omega
theorem far_le {p q r : P2} (hp : valid p) (hq : valid q) (hr : valid r) (h0 : c3 p q r = 0) (hb : (ky 1 p ≤ ky 1 r ∧ ky 1 r ≤ ky 1 q) ∨ (ky 1 q ≤ ky 1 r ∧ ky 1 r ≤ ky 1 p)) : farI p r ≤ farI p q ∧ (r ≠ q → farI p r < farI p q) := by
  obtain ⟨a, b⟩ := p; obtain ⟨c, d⟩ := q; obtain ⟨x, y⟩ := r
  unfold valid at hp hq hr
  simp only [c3] at h0
  simp only [ky] at hb
  have hbt : (min a c ≤ x ∧ x ≤ max a c) ∧ (min b d ≤ y ∧ y ≤ max b d) := by
    rcases hb with h | h
    · exact (on_asc (a := a) (b := b) (c := c) (d := d) (p := x) (q := y) (by simp at hp hq hr h ⊢; omega) (by omega)).1 (by simp at hp hq hr h ⊢; omega)
    · have := (on_asc (a := c) (b := d) (c := a) (d := b) (p := x) (q := y) (by simp at hp hq hr h ⊢; omega) (by grind)).1 (by simp at hp hq hr h ⊢; omega)
      omega
  have s1 := sq_le (x := x - a) (y := c - a) (by omega)
  have s2 := sq_le (x := y - b) (y := d - b) (by omega)
  simp only [farI]
  refine ⟨by omega, fun hne => ?_⟩
  by_cases e : x = c
  · have : y ≠ d := fun e2 => hne (by rw [e, e2])
    have := s2.2 (by omega)
    omega
  · have := s1.2 (by omega)
    omega
theorem turn3 (p q r : P2) : turnI p.1 p.2 q.1 q.2 r.1 r.2 = Int.sign (c3 p q r) := by rw [turnI_sign]; rfl
theorem scan_mem (l : List P2) (p : P2) : ∀ k, k ≤ l.length → scanTo l p k = p ∨ scanTo l p k ∈ l
  | 0, _ => Or.inl rfl
  | k + 1, h => by
    have hm : ptAt l k ∈ l := by rw [ptAt_get l k (by omega)]; exact List.getElem_mem _
    simp only [scanTo]
    split
    · right; exact hm
    · split
      · right; exact hm
      · exact scan_mem l p k (by omega)
theorem scan_ext {l : List P2} (hok : okL l = true) {p q : P2} (hpl : p ∈ l) (he : Ext l p q) : scanTo l p l.length = q := by
  obtain ⟨hq, hne, hall⟩ := he
  have hqp : q ≠ p := fun e => hne (by rw [e])
  obtain ⟨j, hj, hjq⟩ := List.getElem_of_mem hq
  have vp := valid_of hok hpl
  have vq := valid_of hok hq
  have gen : ∀ k, j + 1 + k ≤ l.length → scanTo l p (j + 1 + k) = q := by
    intro k
    induction k with
    | zero =>
      intro _
      show (if scanTo l p j = p then ptAt l j else if takes p (scanTo l p j) (ptAt l j) then ptAt l j else scanTo l p j) = q
      rw [ptAt_get l j hj, hjq]
      by_cases h1 : scanTo l p j = p
      · rw [if_pos h1]
      · rw [if_neg h1]
        by_cases h2 : scanTo l p j = q
        · rw [h2]; split <;> rfl
        · have hm := (scan_mem l p j (by omega)).resolve_left h1
          generalize scanTo l p j = s at *
          have hs := hall s hm
          have ht : takes p s q = true := by
            unfold takes
            rw [turn3, c3_sw]
            rw [show c3 p q s = c3 p q s from rfl]
            rcases Int.lt_or_eq_of_le hs.1 with h | h
            · have : Int.sign (-c3 p q s) = -1 := Int.sign_eq_neg_one_of_neg (by omega)
              rw [this]; rfl
            · have hf := (far_le vp vq (valid_of hok hm) h.symm (hs.2 h.symm)).2 h2
              rw [← h]; simp [hf]
          rw [ht]; rfl
    | succ k ih =>
      intro hk
      have i := ih (by omega)
      show (if scanTo l p (j + 1 + k) = p then ptAt l (j + 1 + k) else if takes p (scanTo l p (j + 1 + k)) (ptAt l (j + 1 + k)) then ptAt l (j + 1 + k) else scanTo l p (j + 1 + k)) = q
      rw [i, if_neg hqp]
      have hm : ptAt l (j + 1 + k) ∈ l := by rw [ptAt_get l _ (by omega)]; exact List.getElem_mem _
      generalize ptAt l (j + 1 + k) = r at *
      have hr := hall r hm
      have ht : takes p q r = false := by
        unfold takes
        rw [turn3]
        rcases Int.lt_or_eq_of_le hr.1 with h | h
        · have : Int.sign (c3 p q r) = 1 := Int.sign_eq_one_of_pos h
          rw [this]; rfl
        · have hf := (far_le vp vq (valid_of hok hm) h.symm (hr.2 h.symm)).1
          rw [← h]; simp; omega
      rw [ht]; rfl
  have := gen (l.length - (j + 1)) (by omega)
  rwa [show j + 1 + (l.length - (j + 1)) = l.length by omega] at this
theorem least_first {l : List P2} (h0 : 0 < (ptsL l).length) : ptAt l (leastTo l l.length) = ptAt (ptsL l) 0 := by
  obtain ⟨hp, hm⟩ := ptsL_spec l
  have hl : 0 < l.length := by
    have : ptAt (ptsL l) 0 ∈ ptsL l := by rw [ptAt_get _ _ h0]; exact List.getElem_mem _
    exact List.length_pos_of_mem ((hm _).1 this)
  obtain ⟨a1, a2⟩ := least_spec l l.length hl
  have m1 : ptAt l (leastTo l l.length) ∈ l := by rw [ptAt_get _ _ a1]; exact List.getElem_mem _
  have m2 : ptAt (ptsL l) 0 ∈ l := (hm _).1 (by rw [ptAt_get _ _ h0]; exact List.getElem_mem _)
  obtain ⟨i, hi, hie⟩ := List.getElem_of_mem m2
  obtain ⟨j, hj, hje⟩ := List.getElem_of_mem ((hm _).2 m1)
  have b1 := a2 i hi
  rw [ptAt_get l i hi, hie] at b1
  by_cases e : j = 0
  · subst e; rw [ptAt_get _ _ h0, hje]
  · have b2 := List.pairwise_iff_getElem.1 hp 0 j h0 hj (by omega)
    rw [hje] at b2
    rw [ptAt_get _ _ h0] at b1
    exact absurd b2 b1
/-- each step leads from a corner to the next one -/
theorem scan_hull {l : List P2} (hok : okL l = true) (h2 : 2 ≤ (ptsL l).length) {k : Nat} (hk : k < (hullL l).length) :
    scanTo l (ptAt (hullL l) k) l.length = ptAt (hullL l) ((k + 1) % (hullL l).length) ∧ ptAt (hullL l) ((k + 1) % (hullL l).length) ≠ ptAt (hullL l) k ∧ ptAt (hullL l) k ∈ l := by
  obtain ⟨h1, h3, h4, h5⟩ := hull_spec hok h2
  have hmem : ptAt (hullL l) k ∈ l := by
    have := (h4 _ (Nat.mod_lt (k + (hullL l).length - 1) (by omega))).1
    rw [prev_next hk] at this
    exact this
  exact ⟨scan_ext hok hmem (h4 k hk), fun e => (h4 k hk).2.1 (by rw [e]), hmem⟩
/-- one point alone -/
theorem scan_one {l : List P2} {p : P2} (h : ∀ i, i < l.length → ptAt l i = p) : ∀ k, k ≤ l.length → scanTo l p k = p
  | 0, _ => rfl
  | k + 1, hk => by
    simp only [scanTo]
    rw [if_pos (scan_one h k (by omega)), h k (by omega)]
theorem one_all {l : List P2} (h1 : (ptsL l).length = 1) : ∀ i, i < l.length → ptAt l i = ptAt (ptsL l) 0 := fun i hi => by
  obtain ⟨_, hm⟩ := ptsL_spec l
  have : ptAt l i ∈ ptsL l := (hm _).2 (by rw [ptAt_get l i hi]; exact List.getElem_mem _)
  obtain ⟨j, hj, he⟩ := List.getElem_of_mem this
  have : j = 0 := by omega
  subst this
  rw [ptAt_get (ptsL l) 0 hj, he]
/-! the hull is convex, and has all points -/
theorem ext_unique {l : List P2} (hok : okL l = true) {p q r : P2} (hp : p ∈ l) (h1 : Ext l p q) (h2 : Ext l p r) : q = r := by
  rw [← scan_ext hok hp h1, scan_ext hok hp h2]
/-- a closed way of extreme steps whose first corner comes once -/
structure Round (l H : List P2) : Prop where
  ok : okL l = true
  two : 2 ≤ H.length
  step : ∀ k, k < H.length → Ext l (ptAt H k) (ptAt H ((k + 1) % H.length))
  once : ∀ k, k < H.length → 0 < k → ptAt H k ≠ ptAt H 0
section
variable {l H : List P2} (R : Round l H)
include R
theorem Round.mem {k : Nat} (hk : k < H.length) : ptAt H k ∈ l := by
  have := (R.step _ (Nat.mod_lt (k + H.length - 1) (by omega))).1
  rw [prev_next hk] at this
  exact this
theorem Round.go {i j : Nat} (hi : i < H.length) (hj : j < H.length) (h : ptAt H i = ptAt H j) : ∀ d, ptAt H ((i + d) % H.length) = ptAt H ((j + d) % H.length)
  | 0 => by rw [Nat.add_zero, Nat.add_zero, Nat.mod_eq_of_lt hi, Nat.mod_eq_of_lt hj, h]
  | d + 1 => by
    have ih := Round.go hi hj h d
    have h1 := R.step _ (Nat.mod_lt (i + d) (show 0 < H.length by have := R.two; omega))
    have h2 := R.step _ (Nat.mod_lt (j + d) (show 0 < H.length by have := R.two; omega))
    rw [Nat.mod_add_mod] at h1 h2
    rw [← ih] at h2
    exact ext_unique R.ok (R.mem (Nat.mod_lt _ (by have := R.two; omega))) h1 h2
theorem Round.inj {i j : Nat} (hi : i < H.length) (hj : j < H.length) (h : ptAt H i = ptAt H j) : i = j := by
  have key : ∀ {i j : Nat}, i < j → j < H.length → ptAt H i ≠ ptAt H j := fun {i j} hij hj h => by
    have := R.go (by omega) hj h (H.length - j)
    rw [show j + (H.length - j) = H.length by omega, Nat.mod_self, Nat.mod_eq_of_lt (by omega)] at this
    exact R.once _ (by omega) (by omega) this
  rcases Nat.lt_trichotomy i j with h1 | h1 | h1
  · exact absurd h (key h1 hj)
  · exact h1
  · exact absurd h.symm (key h1 hi)
theorem Round.left {k : Nat} (hk : k < H.length) {p : P2} (hp : p ∈ l) : 0 ≤ c3 (ptAt H k) (ptAt H ((k + 1) % H.length)) p := ((R.step k hk).2.2 p hp).1
theorem Round.strict {k j : Nat} (hk : k < H.length) (hj : j < H.length) (h1 : j ≠ k) (h2 : j ≠ (k + 1) % H.length) : 0 < c3 (ptAt H k) (ptAt H ((k + 1) % H.length)) (ptAt H j) := by
  have hn : (k + 1) % H.length < H.length := Nat.mod_lt _ (by omega)
  have n1 : ptAt H j ≠ ptAt H k := fun e => h1 (R.inj hj hk e)
  have n2 : ptAt H j ≠ ptAt H ((k + 1) % H.length) := fun e => h2 (R.inj hj hn e)
  have e1 := (R.step k hk).2.2 _ (R.mem hj)
  rcases Int.lt_or_eq_of_le e1.1 with h | h
  · exact h
  · exfalso
    have hb := e1.2 h.symm
    have vj := valid_of R.ok (R.mem hj)
    have k1 : ky 1 (ptAt H j) ≠ ky 1 (ptAt H k) := fun e => n1 (ky_inj vj (valid_of R.ok (R.mem hk)) e)
    have k2 : ky 1 (ptAt H j) ≠ ky 1 (ptAt H ((k + 1) % H.length)) := fun e => n2 (ky_inj vj (valid_of R.ok (R.mem hn)) e)
    obtain ⟨_, _, g⟩ := R.step j hj
    have a1 := g _ (R.mem hk)
    have a2 := g _ (R.mem hn)
    generalize ptAt H ((j + 1) % H.length) = r' at *
    generalize ptAt H ((k + 1) % H.length) = q at *
    generalize ptAt H k = p at *
    generalize ptAt H j = r at *
    have id : (ky 1 q - ky 1 r) * c3 r r' p = (ky 1 p - ky 1 r) * c3 r r' q := by
      have h0 : c3 p q r = 0 := h.symm
      have : (ky 1 q - ky 1 r) * c3 r r' p - (ky 1 p - ky 1 r) * c3 r r' q = c3 p q r * (ky 1 r - ky 1 r') := by
        simp only [ky, c3]; grind
      rw [h0, Int.zero_mul] at this
      omega
    have z : c3 r r' p = 0 ∧ c3 r r' q = 0 := by
      rcases hb with hb | hb
      · have b1 := Int.mul_nonneg (a := ky 1 q - ky 1 r) (b := c3 r r' p) (by omega) a1.1
        have b2 := Int.mul_nonneg (a := -(ky 1 p - ky 1 r)) (b := c3 r r' q) (by omega) a2.1
        rw [Int.neg_mul] at b2
        have c1 : (ky 1 q - ky 1 r) * c3 r r' p = 0 := by omega
        have c2 : (ky 1 p - ky 1 r) * c3 r r' q = 0 := by omega
        exact ⟨(Int.mul_eq_zero.1 c1).resolve_left (by omega), (Int.mul_eq_zero.1 c2).resolve_left (by omega)⟩
      · have b1 := Int.mul_nonneg (a := -(ky 1 q - ky 1 r)) (b := c3 r r' p) (by omega) a1.1
        have b2 := Int.mul_nonneg (a := ky 1 p - ky 1 r) (b := c3 r r' q) (by omega) a2.1
        rw [Int.neg_mul] at b1
        have c1 : (ky 1 q - ky 1 r) * c3 r r' p = 0 := by omega
        have c2 : (ky 1 p - ky 1 r) * c3 r r' q = 0 := by omega
        exact ⟨(Int.mul_eq_zero.1 c1).resolve_left (by omega), (Int.mul_eq_zero.1 c2).resolve_left (by omega)⟩
    have d1 := a1.2 z.1
    have d2 := a2.2 z.2
    omega
theorem next_ne' {k : Nat} (hk : k < H.length) : (k + 1) % H.length ≠ k := fun e => next_ne R.two hk e.symm
theorem Round.bend (h3 : 3 ≤ H.length) {k : Nat} (hk : k < H.length) : 0 < c3 (ptAt H ((k + H.length - 1) % H.length)) (ptAt H k) (ptAt H ((k + 1) % H.length)) := by
  have hp : (k + H.length - 1) % H.length < H.length := Nat.mod_lt _ (by omega)
  have := R.strict (k := (k + H.length - 1) % H.length) (j := (k + 1) % H.length) hp (Nat.mod_lt _ (by omega)) (by
    rcases prev_cases hk with ⟨a, b⟩ | ⟨a, b⟩
    · rw [b]; subst a; rw [Nat.mod_eq_of_lt (by omega)]; omega
    · rw [b]
      by_cases hh : k + 1 < H.length
      · rw [Nat.mod_eq_of_lt hh]; omega
      · rw [show k + 1 = H.length by omega, Nat.mod_self]; omega) (by rw [prev_next hk]; exact next_ne' R hk)
  rw [prev_next hk] at this
  exact this
theorem Round.okH : okL H = true := by
  unfold okL
  rw [List.all_eq_true]
  intro p hp
  obtain ⟨i, hi, he⟩ := List.getElem_of_mem hp
  have := valid_of R.ok (R.mem hi)
  rw [ptAt_get _ _ hi, he] at this
  exact okP_iff.2 this
theorem Round.poly (h3 : 3 ≤ H.length) (hl : H.length ≤ 200) : polyI H = 0 := by
  have hok := R.okH
  have hrep : repI H = false := rep_none1 hok fun i j hj hi ⟨u, v⟩ => by
    have := R.inj hi (by omega) (show ptAt H i = ptAt H j by simp only [ptAt, u, v])
    omega
  refine (poly_4 ?_ (by omega) hrep ?_).symm
  · unfold ckPts; rw [if_neg (by omega), hok]; rfl
  rw [apartB_iff]
  intro i hi j hij hj
  have hin : (i + 1) % H.length < H.length := Nat.mod_lt _ (by omega)
  have hjn : (j + 1) % H.length < H.length := Nat.mod_lt _ (by omega)
  obtain ⟨e1, e2, e3, e4⟩ := edgesL_at H i hi
  obtain ⟨g1, g2, g3, g4⟩ := edgesL_at H j hj
  unfold meetE
  rw [e1, e2, e3, e4, g1, g2, g3, g4]
  have T : ∀ p q r : P2, turnI p.1 p.2 q.1 q.2 r.1 r.2 = Int.sign (c3 p q r) := turn3
  have t1 := T (ptAt H i) (ptAt H ((i + 1) % H.length)) (ptAt H j)
  have t2 := T (ptAt H i) (ptAt H ((i + 1) % H.length)) (ptAt H ((j + 1) % H.length))
  have t3 := T (ptAt H j) (ptAt H ((j + 1) % H.length)) (ptAt H i)
  have t4 := T (ptAt H j) (ptAt H ((j + 1) % H.length)) (ptAt H ((i + 1) % H.length))
  simp only [ptAt] at t1 t2 t3 t4
  have hi1 : (i + 1) % H.length = i + 1 := Nat.mod_eq_of_lt (by omega)
  unfold meetI
  rw [t1, t2, t3, t4]
  by_cases hw : j = i + 1 ∨ (i = 0 ∧ j + 1 = H.length)
  · rw [want_1 hw]
    rcases hw with hw | ⟨hw1, hw2⟩
    · have z1 : c3 (px H i, py H i) (px H ((i + 1) % H.length), py H ((i + 1) % H.length)) (px H j, py H j) = 0 := by rw [hi1, hw]; simp [c3]; rw [Int.mul_comm]; simp
      have z4 : c3 (px H j, py H j) (px H ((j + 1) % H.length), py H ((j + 1) % H.length)) (px H ((i + 1) % H.length), py H ((i + 1) % H.length)) = 0 := by rw [hi1, hw]; simp [c3]
      have p2 := R.strict hi hjn (by
        intro e
        by_cases hh : j + 1 < H.length
        · rw [Nat.mod_eq_of_lt hh] at e; omega
        · rw [show j + 1 = H.length by omega, Nat.mod_self] at e; omega) (by rw [hi1, ← hw]; exact next_ne' R hj)
      simp only [ptAt] at p2
      rw [z1, z4, Int.sign_eq_one_of_pos p2]
      simp
    · have hjn0 : (j + 1) % H.length = 0 := by rw [hw2, Nat.mod_self]
      have z2 : c3 (px H i, py H i) (px H ((i + 1) % H.length), py H ((i + 1) % H.length)) (px H ((j + 1) % H.length), py H ((j + 1) % H.length)) = 0 := by rw [hjn0, hw1]; simp [c3]
      have z3 : c3 (px H j, py H j) (px H ((j + 1) % H.length), py H ((j + 1) % H.length)) (px H i, py H i) = 0 := by rw [hjn0, hw1]; simp [c3]; rw [Int.mul_comm]; simp
      have p1 := R.strict hi hj (by omega) (by rw [hi1]; omega)
      simp only [ptAt] at p1
      rw [z2, z3, Int.sign_eq_one_of_pos p1]
      simp
  · rw [want_0 hw]
    have p1 := R.strict hi hj (by omega) (by rw [hi1]; omega)
    have p2 := R.strict hi hjn (by
      intro e
      by_cases hh : j + 1 < H.length
      · rw [Nat.mod_eq_of_lt hh] at e; omega
      · rw [show j + 1 = H.length by omega, Nat.mod_self] at e; omega) (by
      rw [hi1]; intro e
      by_cases hh : j + 1 < H.length
      · rw [Nat.mod_eq_of_lt hh] at e; omega
      · rw [show j + 1 = H.length by omega, Nat.mod_self] at e; omega)
    simp only [ptAt] at p1 p2
    rw [Int.sign_eq_one_of_pos p1, Int.sign_eq_one_of_pos p2]
    simp
theorem Round.turns (h3 : 3 ≤ H.length) {k : Nat} (hk : k < H.length) : turnAt H H.length k = 1 := by
  have := turn3 (ptAt H ((k + H.length - 1) % H.length)) (ptAt H k) (ptAt H ((k + 1) % H.length))
  rw [Int.sign_eq_one_of_pos (R.bend h3 hk)] at this
  exact this
theorem Round.area (h3 : 3 ≤ H.length) : 0 ≤ areaI H := by
  unfold areaI
  split
  · have gen : ∀ k, k ≤ H.length → cr (ptAt H 0) (ptAt H (k % H.length)) ≤ crossTo (edgesL H) k := by
      intro k
      induction k with
      | zero => intro _; rw [Nat.zero_mod]; simp [cr, crossTo]; rw [Int.mul_comm]; simp
      | succ k ih =>
        intro hk
        have a := ih (by omega)
        obtain ⟨e1, e2, e3, e4⟩ := edgesL_at H k (by omega)
        rw [Nat.mod_eq_of_lt (show k < H.length by omega)] at a
        have b := R.left (k := k) (by omega) (R.mem (k := 0) (by omega))
        have c : c3 (ptAt H k) (ptAt H ((k + 1) % H.length)) (ptAt H 0) = cr (ptAt H k) (ptAt H ((k + 1) % H.length)) - cr (ptAt H 0) (ptAt H ((k + 1) % H.length)) + cr (ptAt H 0) (ptAt H k) := by
          simp only [c3, cr]; grind
        have d : crossTo (edgesL H) (k + 1) = crossTo (edgesL H) k + cr (ptAt H k) (ptAt H ((k + 1) % H.length)) := by
          rw [show crossTo (edgesL H) (k + 1) = crossTo (edgesL H) k + (q1 (edgesL H) k * q4 (edgesL H) k - q2 (edgesL H) k * q3 (edgesL H) k) from rfl, e1, e2, e3, e4]; rfl
        omega
    have := gen H.length (Nat.le_refl _)
    rw [Nat.mod_self] at this
    have z : cr (ptAt H 0) (ptAt H 0) = 0 := by simp [cr]; rw [Int.mul_comm]; simp
    omega
  · exact Int.le_refl _
theorem bends_all (m : List P2) (h : ∀ k, k < m.length → turnAt m m.length k ≠ 0) : normB m = m := by
  unfold normB
  rw [bendsTo_filter, List.filter_eq_self.2 (fun i hi => by simpa using h i (by simpa using hi))]
  apply List.ext_getElem (by simp)
  intro i h1 h2
  simp [ptAt_get m i h2]
theorem Round.conv (h3 : 3 ≤ H.length) : convB (normL H) = true := by
  have hb := bends_all R H (fun k hk => by rw [R.turns h3 hk]; decide)
  have hc : normC H = H := by unfold normC; rw [hb, if_neg (by have := R.area h3; omega)]
  have hf : leastTo H H.length ≤ H.length := by have := (least_spec H H.length (by omega)).1; omega
  unfold convB normL
  rw [hc, rotL_len H _ hf, List.all_eq_true]
  intro k hk
  rw [List.mem_range] at hk
  rw [turnAt_rot H _ k hf hk, R.turns h3 (Nat.mod_lt _ (by omega))]
  rfl

/-! where -/
theorem argmin (f : Nat → Int) : ∀ n, 0 < n → ∃ k, k < n ∧ ∀ j, j < n → f k ≤ f j
  | 0, h => absurd h (by omega)
  | 1, _ => ⟨0, by omega, fun j hj => by obtain rfl : j = 0 := by omega
                                         exact Int.le_refl _⟩
  | n + 2, _ => by
    obtain ⟨k, hk, h⟩ := argmin f (n + 1) (by omega)
    by_cases hc : f k ≤ f (n + 1)
    · refine ⟨k, by omega, fun j hj => ?_⟩
      by_cases e : j = n + 1
      · subst e; exact hc
      · exact h j (by omega)
    · refine ⟨n + 1, by omega, fun j hj => ?_⟩
      by_cases e : j = n + 1
      · subst e; exact Int.le_refl _
      · have := h j (by omega); omega
theorem Round.low (h3 : 3 ≤ H.length) {p : P2} (hp : ∀ k, k < H.length → 0 < c3 (ptAt H k) (ptAt H ((k + 1) % H.length)) p) : ∃ k, k < H.length ∧ py H k ≤ p.2 := by
  obtain ⟨k, hk, hmin⟩ := argmin R (py H) H.length (by omega)
  refine ⟨k, hk, ?_⟩
  have hpr : (k + H.length - 1) % H.length < H.length := Nat.mod_lt _ (by omega)
  have hnx : (k + 1) % H.length < H.length := Nat.mod_lt _ (by omega)
  have D := R.bend h3 hk
  have a := hp _ hpr
  have b := hp k hk
  rw [prev_next hk] at a
  have m1 := hmin _ hpr
  have m2 := hmin _ hnx
  have id : c3 (ptAt H ((k + H.length - 1) % H.length)) (ptAt H k) (ptAt H ((k + 1) % H.length)) * (p.2 - py H k) = c3 (ptAt H k) (ptAt H ((k + 1) % H.length)) p * (py H ((k + H.length - 1) % H.length) - py H k) + c3 (ptAt H ((k + H.length - 1) % H.length)) (ptAt H k) p * (py H ((k + 1) % H.length) - py H k) := by
    simp only [c3, ptAt]; grind
  have b1 := Int.mul_nonneg (Int.le_of_lt b) (show 0 ≤ py H ((k + H.length - 1) % H.length) - py H k by omega)
  have b2 := Int.mul_nonneg (Int.le_of_lt a) (show 0 ≤ py H ((k + 1) % H.length) - py H k by omega)
  have := nn_of D (b := p.2 - py H k) (by omega)
  omega
theorem Round.high (h3 : 3 ≤ H.length) {p : P2} (hp : ∀ k, k < H.length → 0 < c3 (ptAt H k) (ptAt H ((k + 1) % H.length)) p) : ∃ k, k < H.length ∧ p.2 < py H k := by
  obtain ⟨k, hk, hmin⟩ := argmin R (fun i => - py H i) H.length (by omega)
  refine ⟨k, hk, ?_⟩
  have hpr : (k + H.length - 1) % H.length < H.length := Nat.mod_lt _ (by omega)
  have hnx : (k + 1) % H.length < H.length := Nat.mod_lt _ (by omega)
  have D := R.bend h3 hk
  have a := hp _ hpr
  have b := hp k hk
  rw [prev_next hk] at a
  have m1 := hmin _ hpr
  have m2 := hmin _ hnx

  have id : c3 (ptAt H ((k + H.length - 1) % H.length)) (ptAt H k) (ptAt H ((k + 1) % H.length)) * (py H k - p.2) = c3 (ptAt H k) (ptAt H ((k + 1) % H.length)) p * (py H k - py H ((k + H.length - 1) % H.length)) + c3 (ptAt H ((k + H.length - 1) % H.length)) (ptAt H k) p * (py H k - py H ((k + 1) % H.length)) := by
    simp only [c3, ptAt]; grind
  have b1 := Int.mul_nonneg (Int.le_of_lt b) (show 0 ≤ py H k - py H ((k + H.length - 1) % H.length) by omega)
  have b2 := Int.mul_nonneg (Int.le_of_lt a) (show 0 ≤ py H k - py H ((k + 1) % H.length) by omega)
  by_cases e1 : py H k = py H ((k + H.length - 1) % H.length)
  · by_cases e2 : py H k = py H ((k + 1) % H.length)
    · exfalso
      have : c3 (ptAt H ((k + H.length - 1) % H.length)) (ptAt H k) (ptAt H ((k + 1) % H.length)) = 0 := by
        simp only [c3, ptAt]; rw [← e1, ← e2]; simp
      omega
    · have := Int.mul_pos a (show 0 < py H k - py H ((k + 1) % H.length) by omega)
      have := ps_of D (b := py H k - p.2) (by omega)
      omega
  · have := Int.mul_pos b (show 0 < py H k - py H ((k + H.length - 1) % H.length) by omega)
    have := ps_of D (b := py H k - p.2) (by omega)
    omega
/-- an edge that goes up across a height -/
def upB (H : List P2) (q : Int) (k : Nat) : Bool := decide (py H k ≤ q) && decide (q < py H ((k + 1) % H.length))
theorem Round.pass {p : P2} (hp : ∀ k, k < H.length → 0 < c3 (ptAt H k) (ptAt H ((k + 1) % H.length)) p) {k : Nat} (hk : k < H.length) : passAt (edgesL H) p.1 p.2 k = upB H p.2 k := by
  obtain ⟨e1, e2, e3, e4⟩ := edgesL_at H k hk
  unfold passAt passB upB
  rw [e1, e2, e3, e4]
  have t1 := turn3 (ptAt H k) (ptAt H ((k + 1) % H.length)) p
  have t2 := turn3 (ptAt H ((k + 1) % H.length)) (ptAt H k) p
  have sw : c3 (ptAt H ((k + 1) % H.length)) (ptAt H k) p = - c3 (ptAt H k) (ptAt H ((k + 1) % H.length)) p := by simp only [c3]; grind
  rw [Int.sign_eq_one_of_pos (hp k hk)] at t1
  rw [sw, Int.sign_eq_neg_one_of_neg (by have := hp k hk; omega)] at t2
  simp only [ptAt] at t1 t2
  rw [t1, t2]
  by_cases hy : py H ((k + 1) % H.length) < py H k
  · rw [if_pos hy]
    rw [Bool.eq_iff_iff]
    simp
    omega
  · rw [if_neg hy]; simp
theorem Round.up_one (h3 : 3 ≤ H.length) {q : Int} {i j : Nat} (hi : i < H.length) (hj : j < H.length) (h1 : upB H q i = true) (h2 : upB H q j = true) : i = j := by
  have hin : (i + 1) % H.length < H.length := Nat.mod_lt _ (by omega)
  have hjn : (j + 1) % H.length < H.length := Nat.mod_lt _ (by omega)
  unfold upB at h1 h2
  simp only [Bool.and_eq_true, decide_eq_true_eq] at h1 h2
  by_cases e : i = j
  · exact e
  · exfalso
    have a1 := R.left hj (R.mem hi)
    have a2 := R.left hj (R.mem hin)
    have b1 := R.left hi (R.mem hj)
    have b2 := R.left hi (R.mem hjn)
    have st : 0 < c3 (ptAt H j) (ptAt H ((j + 1) % H.length)) (ptAt H i) := R.strict hj hi e (by
      intro e2; rw [e2] at h1; omega)
    have id : (py H ((i + 1) % H.length) - q) * c3 (ptAt H j) (ptAt H ((j + 1) % H.length)) (ptAt H i) + (q - py H i) * c3 (ptAt H j) (ptAt H ((j + 1) % H.length)) (ptAt H ((i + 1) % H.length))
        + ((py H ((j + 1) % H.length) - q) * c3 (ptAt H i) (ptAt H ((i + 1) % H.length)) (ptAt H j) + (q - py H j) * c3 (ptAt H i) (ptAt H ((i + 1) % H.length)) (ptAt H ((j + 1) % H.length))) = 0 := by
      simp only [c3, ptAt]; grind
    have m1 := Int.mul_pos (show 0 < py H ((i + 1) % H.length) - q by omega) st
    have m2 := Int.mul_nonneg (show 0 ≤ q - py H i by omega) a2
    have m3 := Int.mul_nonneg (show 0 ≤ py H ((j + 1) % H.length) - q by omega) b1
    have m4 := Int.mul_nonneg (show 0 ≤ q - py H j by omega) b2
    omega
theorem Round.up_some {q : Int} {a b : Nat} (ha : a < H.length) (hb : b < H.length) (h1 : py H a ≤ q) (h2 : q < py H b) : ∃ i, i < H.length ∧ upB H q i = true := by
  apply Classical.byContradiction
  intro hno
  have st : ∀ k, k < H.length → py H k ≤ q → py H ((k + 1) % H.length) ≤ q := fun k hk h => by
    apply Classical.byContradiction
    intro h'
    exact hno ⟨k, hk, by unfold upB; simp [h]; omega⟩
  have gen : ∀ d, py H ((a + d) % H.length) ≤ q := by
    intro d
    induction d with
    | zero => rw [Nat.add_zero, Nat.mod_eq_of_lt ha]; exact h1
    | succ d ih =>
      have := st _ (Nat.mod_lt (a + d) (by omega)) ih
      rw [Nat.mod_add_mod] at this
      exact this
  have := gen (b + (H.length - a))
  rw [show a + (b + (H.length - a)) = b + H.length by omega, Nat.add_mod_right, Nat.mod_eq_of_lt hb] at this
  omega
theorem Round.where_ne (h3 : 3 ≤ H.length) {p : P2} (hpl : p ∈ l) : whereI H p.1 p.2 ≠ 0 := by
  unfold whereI
  cases hn : anyOn (edgesL H) p.1 p.2 H.length
  · have hp : ∀ k, k < H.length → 0 < c3 (ptAt H k) (ptAt H ((k + 1) % H.length)) p := by
      intro k hk
      have s := (R.step k hk).2.2 p hpl
      rcases Int.lt_or_eq_of_le s.1 with h | h
      · exact h
      · exfalso
        have ho := anyOn_false.1 hn k hk
        obtain ⟨e1, e2, e3, e4⟩ := edgesL_at H k hk
        rw [onAt, ← onR_eq, e1, e2, e3, e4] at ho
        have hb := s.2 h.symm
        have v1 := valid_of R.ok (R.mem hk)
        have v2 := valid_of R.ok (R.mem (Nat.mod_lt (k + 1) (show 0 < H.length by omega)))
        have v3 := valid_of R.ok hpl
        have t := turn3 (ptAt H k) (ptAt H ((k + 1) % H.length)) p
        rw [← h] at t
        have t' : turnI (px H k) (py H k) (px H ((k + 1) % H.length)) (py H ((k + 1) % H.length)) p.1 p.2 = 0 := t
        have hc : (px H ((k + 1) % H.length) - px H k) * (p.2 - py H k) = (py H ((k + 1) % H.length) - py H k) * (p.1 - px H k) := by
          have : c3 (ptAt H k) (ptAt H ((k + 1) % H.length)) p = 0 := h.symm
          simp only [c3, ptAt] at this; omega
        unfold valid ptAt at v1 v2
        unfold valid at v3
        simp only [ky, ptAt] at hb
        have hbt : (min (px H k) (px H ((k + 1) % H.length)) ≤ p.1 ∧ p.1 ≤ max (px H k) (px H ((k + 1) % H.length))) ∧ (min (py H k) (py H ((k + 1) % H.length)) ≤ p.2 ∧ p.2 ≤ max (py H k) (py H ((k + 1) % H.length))) := by
          simp only at v1 v2
          rcases hb with hb | hb
          · exact (on_asc (by omega) hc).1 (by omega)
          · have := (on_asc (a := px H ((k + 1) % H.length)) (b := py H ((k + 1) % H.length)) (c := px H k) (d := py H k) (p := p.1) (q := p.2) (by omega) (by grind)).1 (by omega)
            omega
        have : onR p.1 p.2 (px H k) (py H k) (px H ((k + 1) % H.length)) (py H ((k + 1) % H.length)) = true := by
          unfold onR btwB
          rw [t']
          simp only [Bool.and_eq_true, decide_eq_true_eq, beq_iff_eq]
          exact ⟨hbt, trivial⟩
        rw [this] at ho; cases ho
    obtain ⟨a, ha, ha2⟩ := R.low h3 hp
    obtain ⟨b, hb, hb2⟩ := R.high h3 hp
    obtain ⟨i, hi, hiu⟩ := R.up_some ha hb ha2 hb2
    have odd : ∀ k, k ≤ H.length → oddTo (edgesL H) p.1 p.2 k = decide (i < k) := by
      intro k
      induction k with
      | zero => intro _; simp [oddTo]
      | succ k ih =>
        intro hk
        have ihk := ih (by omega)
        have hpk := R.pass hp (k := k) (by omega)
        simp only [oddTo, hpk, ihk]
        by_cases e : k = i
        · subst e; rw [hiu]; simp
        · have : upB H p.2 k = false := by
            cases hu : upB H p.2 k
            · rfl
            · exact absurd (R.up_one h3 (by omega) hi hu hiu) e
          rw [this]
          simp
          omega
    rw [odd _ (Nat.le_refl _)]
    simp [hi]
  · simp
end

/-! the hull of the hull -/
theorem hull_round {l : List P2} (hok : okL l = true) (h2 : 2 ≤ (ptsL l).length) : Round l (hullL l) := by
  obtain ⟨a, b, c, d⟩ := hull_spec hok h2
  exact ⟨hok, a, c, fun k hk h0 e => d k hk h0 (by rw [e])⟩
theorem pts_least {l : List P2} (hok : okL l = true) {p : P2} (hp : p ∈ l) : ky 1 (ptAt (ptsL l) 0) ≤ ky 1 p := by
  obtain ⟨hs, hm⟩ := ptsL_spec l
  obtain ⟨j, hj, he⟩ := List.getElem_of_mem ((hm p).2 hp)
  by_cases e : j = 0
  · subst e; rw [ptAt_get _ _ hj, he]; exact Int.le_refl _
  · have := List.pairwise_iff_getElem.1 hs 0 j (by omega) hj (by omega)
    rw [he] at this
    have h0 : ptAt (ptsL l) 0 = (ptsL l)[0]'(by omega) := ptAt_get _ _ (by omega)
    rw [← h0] at this
    have v : valid (ptAt (ptsL l) 0) := valid_of hok ((hm _).1 (by rw [h0]; exact List.getElem_mem _))
    have := (ky_lt v (valid_of hok hp)).1 this
    omega
theorem hull_mem {l : List P2} (hok : okL l = true) (h2 : 2 ≤ (ptsL l).length) {p : P2} (hp : p ∈ hullL l) : p ∈ l := by
  obtain ⟨i, hi, he⟩ := List.getElem_of_mem hp
  have := (hull_round hok h2).mem hi
  rw [ptAt_get _ _ hi, he] at this
  exact this
theorem pts_two {l : List P2} {p q : P2} (hp : p ∈ l) (hq : q ∈ l) (hne : p ≠ q) : 2 ≤ (ptsL l).length := by
  obtain ⟨_, hm⟩ := ptsL_spec l
  obtain ⟨i, hi, hie⟩ := List.getElem_of_mem ((hm p).2 hp)
  obtain ⟨j, hj, hje⟩ := List.getElem_of_mem ((hm q).2 hq)
  by_cases e : i = j
  · subst e; exact absurd (hie.symm.trans hje) hne
  · omega
theorem hull_again {l : List P2} (hok : okL l = true) (h2 : 2 ≤ (ptsL l).length) : 2 ≤ (ptsL (hullL l)).length ∧ hullL (hullL l) = hullL l := by
  have R := hull_round hok h2
  have hokH := R.okH
  have two := R.two
  have m0 : ptAt (hullL l) 0 ∈ hullL l := by rw [ptAt_get _ _ (by omega)]; exact List.getElem_mem _
  have m1 : ptAt (hullL l) 1 ∈ hullL l := by rw [ptAt_get _ _ (by omega)]; exact List.getElem_mem _
  have h2' : 2 ≤ (ptsL (hullL l)).length := pts_two m1 m0 (R.once 1 (by omega) (by omega))
  refine ⟨h2', ?_⟩
  have R' := hull_round hokH h2'
  have two' := R'.two
  have s0 : ptAt (hullL l) 0 = ptAt (ptsL l) 0 := (hull_spec hok h2).2.1
  have s0' : ptAt (hullL (hullL l)) 0 = ptAt (ptsL (hullL l)) 0 := (hull_spec hokH h2').2.1
  have first : ptAt (hullL (hullL l)) 0 = ptAt (hullL l) 0 := by
    have mm : ptAt (hullL (hullL l)) 0 ∈ hullL l := R'.mem (by omega)
    have a := pts_least hokH m0
    have b := pts_least hok (hull_mem hok h2 mm)
    rw [← s0'] at a
    rw [← s0] at b
    exact ky_inj (valid_of hokH mm) (valid_of hokH m0) (by omega)
  have stepH : ∀ k, k < (hullL l).length → Ext (hullL l) (ptAt (hullL l) k) (ptAt (hullL l) ((k + 1) % (hullL l).length)) := fun k hk => by
    obtain ⟨_, b, c⟩ := R.step k hk
    refine ⟨?_, b, fun r hr => c r (hull_mem hok h2 hr)⟩
    rw [ptAt_get _ _ (Nat.mod_lt _ (by omega))]; exact List.getElem_mem _
  have memH : ∀ k, k < (hullL l).length → ptAt (hullL l) k ∈ hullL l := fun k hk => by rw [ptAt_get _ _ hk]; exact List.getElem_mem _
  have gen : ∀ k, k < (hullL l).length → k < (hullL (hullL l)).length → ptAt (hullL (hullL l)) k = ptAt (hullL l) k := by
    intro k
    induction k with
    | zero => intro _ _; exact first
    | succ k ih =>
      intro h1 h2
      have e := ih (by omega) (by omega)
      have a := R'.step k (by omega)
      have b := stepH k (by omega)
      rw [e, Nat.mod_eq_of_lt h2] at a
      rw [Nat.mod_eq_of_lt h1] at b
      exact ext_unique hokH (memH k (by omega)) a b
  have len : (hullL (hullL l)).length = (hullL l).length := by
    rcases Nat.lt_trichotomy (hullL (hullL l)).length (hullL l).length with h | h | h
    · exfalso
      have e := gen ((hullL (hullL l)).length - 1) (by omega) (by omega)
      have a := R'.step ((hullL (hullL l)).length - 1) (by omega)
      have b := stepH ((hullL (hullL l)).length - 1) (by omega)
      rw [e, show (hullL (hullL l)).length - 1 + 1 = (hullL (hullL l)).length by omega, Nat.mod_self] at a
      rw [show (hullL (hullL l)).length - 1 + 1 = (hullL (hullL l)).length by omega, Nat.mod_eq_of_lt h] at b
      have := ext_unique hokH (memH _ (by omega)) a b
      rw [first] at this
      exact R.once _ h (by omega) this.symm
    · exact h
    · exfalso
      have e := gen ((hullL l).length - 1) (by omega) (by omega)
      have a := R'.step ((hullL l).length - 1) (by omega)
      have b := stepH ((hullL l).length - 1) (by omega)
      rw [e, show (hullL l).length - 1 + 1 = (hullL l).length by omega, Nat.mod_eq_of_lt h] at a
      rw [show (hullL l).length - 1 + 1 = (hullL l).length by omega, Nat.mod_self] at b
      have := ext_unique hokH (memH _ (by omega)) a b
      rw [← first] at this
      exact R'.once _ h (by omega) this
  apply List.ext_getElem len
  intro i h1 h2
  rw [← ptAt_get _ _ h1, ← ptAt_get _ _ h2]
  exact gen i h2 h1

end Go.Proofs.YtpdfbboagaflhaaGreat

set_option linter.unusedSimpArgs false
set_option linter.unusedVariables false
set_option linter.unusedSectionVars false
namespace Go.Proofs.YtpdfbboagaflhaaGreat
open Go.RowKit

/-! the pieces of segments -/
def eA (s : S4) : P2 := (s.1, s.2.1)
def eB (s : S4) : P2 := (s.2.2.1, s.2.2.2)
def segAt (l : List S4) (k : Nat) : S4 := (q1 l k, q2 l k, q3 l k, q4 l k)
def okSeg (s : S4) : Bool := okS s.1 s.2.1 s.2.2.1 s.2.2.2
/-- a point of a segment -/
def onS (p : P2) (s : S4) : Prop := c3 (eA s) (eB s) p = 0 ∧ ((ky 1 (eA s) ≤ ky 1 p ∧ ky 1 p ≤ ky 1 (eB s)) ∨ (ky 1 (eB s) ≤ ky 1 p ∧ ky 1 p ≤ ky 1 (eA s)))
theorem okSeg_iff {s : S4} : okSeg s = true ↔ valid (eA s) ∧ valid (eB s) ∧ eA s ≠ eB s := by
  unfold okSeg valid eA eB
  rw [okS_iff]
  simp only [ne_eq, Prod.mk.injEq]
theorem onR_iff {p : P2} {s : S4} (hp : valid p) (hs : okSeg s = true) : onR p.1 p.2 s.1 s.2.1 s.2.2.1 s.2.2.2 = true ↔ onS p s := by
  obtain ⟨v1, v2, _⟩ := okSeg_iff.1 hs
  obtain ⟨a, b, c, d⟩ := s
  obtain ⟨x, y⟩ := p
  unfold valid eA eB at *
  unfold onS onR btwB
  have t : turnI a b c d x y = Int.sign (c3 (a, b) (c, d) (x, y)) := turn3 (a, b) (c, d) (x, y)
  simp only [Bool.and_eq_true, decide_eq_true_eq, beq_iff_eq, t, Int.sign_eq_zero_iff_zero, eA, eB]
  constructor
  · rintro ⟨h1, h2⟩
    refine ⟨h2, ?_⟩
    have hc : (c - a) * (y - b) = (d - b) * (x - a) := by simp only [c3] at h2; omega
    by_cases hl : a < c ∨ (a = c ∧ b ≤ d)
    · left
      have := (on_asc hl hc).2 h1
      simp only [ky] at *; omega
    · right
      have := (on_asc (a := c) (b := d) (c := a) (d := b) (p := x) (q := y) (by omega) (by grind)).2 (by omega)
      simp only [ky] at *; omega
  · rintro ⟨h2, h1⟩
    refine ⟨?_, h2⟩
    have hc : (c - a) * (y - b) = (d - b) * (x - a) := by simp only [c3] at h2; omega
    simp only [ky] at h1
    simp only at v1 v2 hp
    rcases h1 with h1 | h1
    · exact (on_asc (by omega) hc).1 (by omega)
    · have := (on_asc (a := c) (b := d) (c := a) (d := b) (p := x) (q := y) (by omega) (by grind)).1 (by omega)
      omega
theorem onS_A (s : S4) : onS (eA s) s := ⟨by simp [c3], by omega⟩
theorem onS_B (s : S4) : onS (eB s) s := ⟨by simp only [c3]; rw [Int.mul_comm]; omega, by omega⟩
theorem ky_ne {p q : P2} (hp : valid p) (hq : valid q) (h : p ≠ q) : ky 1 p ≠ ky 1 q := fun e => h (ky_inj hp hq e)
/-- three points of a segment are on one line -/
theorem on3 {s : S4} (hs : okSeg s = true) {p q r : P2} (h1 : onS p s) (h2 : onS q s) (h3 : onS r s) : c3 p q r = 0 := by
  obtain ⟨v1, v2, hne⟩ := okSeg_iff.1 hs
  have k := ky_ne v1 v2 hne
  have id : (ky 1 (eB s) - ky 1 (eA s)) * c3 p q r = (ky 1 r - ky 1 q) * c3 (eA s) (eB s) p + (ky 1 p - ky 1 r) * c3 (eA s) (eB s) q + (ky 1 q - ky 1 p) * c3 (eA s) (eB s) r := by
    simp only [ky, c3]; grind
  rw [h1.1, h2.1, h3.1] at id
  simp only [Int.mul_zero, Int.add_zero] at id
  exact (Int.mul_eq_zero.1 id).resolve_left (by omega)

/-! the cuts of a segment -/
theorem ptAt_mem {l : List P2} {i : Nat} (h : i < l.length) : ptAt l i ∈ l := by rw [ptAt_get l i h]; exact List.getElem_mem h
theorem mem_ptAt {l : List P2} {p : P2} (h : p ∈ l) : ∃ i, i < l.length ∧ p = ptAt l i := by
  obtain ⟨i, hi, he⟩ := List.getElem_of_mem h
  exact ⟨i, hi, by rw [ptAt_get l i hi, he]⟩
theorem cutsTo_mem {E : List P2} {a b c d : Int} (hE : ∀ p, p ∈ E → valid p) (hs : okSeg (a, b, c, d) = true) : ∀ k, k ≤ E.length → ∀ p, p ∈ cutsTo E a b c d k ↔ (p = (a, b) ∨ p = (c, d) ∨ (∃ i, i < k ∧ p = ptAt E i ∧ onS p (a, b, c, d)))
  | 0, _, p => by simp [cutsTo]
  | k + 1, h, p => by
    have ih := cutsTo_mem hE hs k (by omega) p
    have ho := onR_iff (hE _ (ptAt_mem (show k < E.length by omega))) hs
    rw [onR_eq] at ho
    have ho' : onB (px E k) (py E k) a b c d = true ↔ onS (ptAt E k) (a, b, c, d) := ho
    simp only [cutsTo]
    by_cases hc : onB (px E k) (py E k) a b c d = true
    · rw [if_pos hc, List.mem_append, ih, List.mem_singleton]
      have hon := ho'.1 hc
      constructor
      · rintro ((h1 | h1 | ⟨i, h1, h2, h3⟩) | h1)
        · exact .inl h1
        · exact .inr (.inl h1)
        · exact .inr (.inr ⟨i, by omega, h2, h3⟩)
        · exact .inr (.inr ⟨k, by omega, h1, by rw [h1]; exact hon⟩)
      · rintro (h1 | h1 | ⟨i, h1, h2, h3⟩)
        · exact .inl (.inl h1)
        · exact .inl (.inr (.inl h1))
        · by_cases e : i = k
          · subst e; exact .inr h2
          · exact .inl (.inr (.inr ⟨i, by omega, h2, h3⟩))
    · rw [if_neg hc, ih]
      constructor
      · rintro (h1 | h1 | ⟨i, h1, h2, h3⟩)
        · exact .inl h1
        · exact .inr (.inl h1)
        · exact .inr (.inr ⟨i, by omega, h2, h3⟩)
      · rintro (h1 | h1 | ⟨i, h1, h2, h3⟩)
        · exact .inl h1
        · exact .inr (.inl h1)
        · by_cases e : i = k
          · subst e; rw [h2] at h3; exact absurd (ho'.2 h3) hc
          · exact .inr (.inr ⟨i, by omega, h2, h3⟩)
theorem cutsL_spec {E : List P2} {s : S4} (hE : ∀ p, p ∈ E → valid p) (hs : okSeg s = true) (hA : eA s ∈ E) (hB : eB s ∈ E) :
    (cutsL E s.1 s.2.1 s.2.2.1 s.2.2.2).Pairwise lexLt ∧ ∀ p, p ∈ cutsL E s.1 s.2.1 s.2.2.1 s.2.2.2 ↔ (p ∈ E ∧ onS p s) := by
  obtain ⟨a, b, c, d⟩ := s
  have hlen : (sortP (cutsTo E a b c d E.length)).length = (cutsTo E a b c d E.length).length := List.length_mergeSort _
  obtain ⟨h1, h2, _⟩ := dd_spec (sortP_sorted (cutsTo E a b c d E.length)) (cutsTo E a b c d E.length).length (by omega)
  refine ⟨h1, fun p => ?_⟩
  show p ∈ ddTo (sortP (cutsTo E a b c d E.length)) (cutsTo E a b c d E.length).length ↔ _
  rw [h2, ← hlen, List.take_length, sortP_mem, cutsTo_mem hE hs E.length (Nat.le_refl _) p]
  constructor
  · rintro (h | h | ⟨i, hi, he, ho⟩)
    · rw [h]; exact ⟨hA, onS_A (a, b, c, d)⟩
    · rw [h]; exact ⟨hB, onS_B (a, b, c, d)⟩
    · exact ⟨by rw [he]; exact ptAt_mem hi, ho⟩
  · rintro ⟨hm, ho⟩
    obtain ⟨i, hi, he⟩ := mem_ptAt hm
    exact .inr (.inr ⟨i, hi, he, ho⟩)
theorem endsTo_mem (l : List S4) : ∀ k, ∀ p, p ∈ endsTo l k ↔ ∃ i, i < k ∧ (p = eA (segAt l i) ∨ p = eB (segAt l i))
  | 0, p => by simp [endsTo]
  | k + 1, p => by
    simp only [endsTo, List.mem_append, endsTo_mem l k p, List.mem_cons, List.not_mem_nil, or_false]
    constructor
    · rintro (⟨i, hi, h⟩ | h)
      · exact ⟨i, by omega, h⟩
      · exact ⟨k, by omega, h⟩
    · rintro ⟨i, hi, h⟩
      by_cases e : i = k
      · subst e; exact .inr h
      · exact .inl ⟨i, by omega, h⟩
theorem pairs_mem (C : List P2) (k : Nat) (x : S4) : x ∈ pairsTo C k ↔ ∃ i, i < k ∧ eA x = ptAt C i ∧ eB x = ptAt C (i + 1) := by
  unfold pairsTo
  rw [List.mem_map]
  simp only [List.mem_range]
  constructor
  · rintro ⟨i, hi, rfl⟩; exact ⟨i, hi, rfl, rfl⟩
  · rintro ⟨i, hi, h1, h2⟩
    refine ⟨i, hi, ?_⟩
    obtain ⟨a, b, c, d⟩ := x
    simp only [eA, eB, ptAt, Prod.mk.injEq] at h1 h2
    simp only [Prod.mk.injEq]
    exact ⟨h1.1.symm, h1.2.symm, h2.1.symm, h2.2.symm⟩
theorem parts_mem (l : List S4) (E : List P2) : ∀ k, ∀ x, x ∈ partsTo l E k ↔ ∃ i, i < k ∧ x ∈ piecesL E (q1 l i) (q2 l i) (q3 l i) (q4 l i)
  | 0, x => by simp [partsTo]
  | k + 1, x => by
    simp only [partsTo, List.mem_append, parts_mem l E k x]
    constructor
    · rintro (⟨i, hi, h⟩ | h)
      · exact ⟨i, by omega, h⟩
      · exact ⟨k, by omega, h⟩
    · rintro ⟨i, hi, h⟩
      by_cases e : i = k
      · subst e; exact .inr h
      · exact .inl ⟨i, by omega, h⟩

/-- a piece of a segment: two neighbouring cuts -/
structure Piece (E : List P2) (s x : S4) : Prop where
  lt : lexLt (eA x) (eB x)
  inA : eA x ∈ E ∧ onS (eA x) s
  inB : eB x ∈ E ∧ onS (eB x) s
  gap : ∀ p, p ∈ E → onS p s → ¬ (lexLt (eA x) p ∧ lexLt p (eB x))
theorem lex_lt {l : List P2} (h : l.Pairwise lexLt) {i j : Nat} (hj : j < l.length) (hij : i < j) : lexLt (ptAt l i) (ptAt l j) := by
  rw [ptAt_get _ _ (by omega), ptAt_get _ _ hj]
  exact List.pairwise_iff_getElem.1 h i j (by omega) hj hij
theorem piece_of {E : List P2} {s : S4} (hE : ∀ p, p ∈ E → valid p) (hs : okSeg s = true) (hA : eA s ∈ E) (hB : eB s ∈ E) {x : S4} : x ∈ piecesL E s.1 s.2.1 s.2.2.1 s.2.2.2 ↔ Piece E s x := by
  obtain ⟨h1, h2⟩ := cutsL_spec hE hs hA hB
  unfold piecesL
  rw [pairs_mem]
  generalize cutsL E s.1 s.2.1 s.2.2.1 s.2.2.2 = C at *
  constructor
  · rintro ⟨i, hi, e1, e2⟩
    refine ⟨by rw [e1, e2]; exact lex_lt h1 (by omega) (by omega), by rw [e1]; exact (h2 _).1 (ptAt_mem (by omega)), by rw [e2]; exact (h2 _).1 (ptAt_mem (by omega)), ?_⟩
    intro p hp ho ⟨g1, g2⟩
    obtain ⟨j, hj, he⟩ := mem_ptAt ((h2 p).2 ⟨hp, ho⟩)
    rw [e1, he] at g1
    rw [e2, he] at g2
    have asy : ∀ {a b : P2}, lexLt a b → ¬ lexLt b a := fun h h' => by unfold lexLt at *; omega
    rcases Nat.lt_trichotomy j i with h | h | h
    · exact asy g1 (lex_lt h1 (by omega) h)
    · subst h; exact asy g1 g1
    · by_cases e : j = i + 1
      · subst e; exact asy g2 g2
      · exact asy g2 (lex_lt h1 hj (by omega))
  · rintro ⟨g1, g2, g3, g4⟩
    obtain ⟨i, hi, ei⟩ := mem_ptAt ((h2 _).2 g2)
    obtain ⟨j, hj, ej⟩ := mem_ptAt ((h2 _).2 g3)
    have asy : ∀ {a b : P2}, lexLt a b → ¬ lexLt b a := fun h h' => by unfold lexLt at *; omega
    rw [ei, ej] at g1
    have hij : i < j := by
      rcases Nat.lt_trichotomy j i with h | h | h
      · exact absurd (lex_lt h1 hi h) (asy g1)
      · subst h; exact absurd g1 (asy g1)
      · exact h
    by_cases e : j = i + 1
    · subst e; exact ⟨i, by omega, ei, ej⟩
    · exfalso
      have m := (h2 _).1 (ptAt_mem (l := C) (i := i + 1) (by omega))
      refine g4 _ m.1 m.2 ⟨?_, ?_⟩
      · rw [ei]; exact lex_lt h1 (by omega) (by omega)
      · rw [ej]; exact lex_lt h1 hj (by omega)

/-! how pieces meet -/
section
variable {E : List P2} (hE : ∀ p, p ∈ E → valid p) {s t x y : S4} (hs : okSeg s = true) (ht : okSeg t = true)
include hE
theorem Piece.ok (P : Piece E s x) : okSeg x = true := by
  refine okSeg_iff.2 ⟨hE _ P.inA.1, hE _ P.inB.1, fun e => ?_⟩
  have := P.lt; rw [e] at this; unfold lexLt at this; omega
theorem Piece.kl (P : Piece E s x) : ky 1 (eA x) < ky 1 (eB x) := (ky_lt (hE _ P.inA.1) (hE _ P.inB.1)).1 P.lt
include hs
/-- a point of a piece is one of the segment -/
theorem Piece.sub (P : Piece E s x) {p : P2} (hp : valid p) (h : onS p x) : onS p s := by
  obtain ⟨v1, v2, hne⟩ := okSeg_iff.1 hs
  have k := ky_ne v1 v2 hne
  have kx := P.kl hE
  have a := P.inA.2
  have b := P.inB.2
  have id : (ky 1 (eB x) - ky 1 (eA x)) * c3 (eA s) (eB s) p = (ky 1 (eB x) - ky 1 p) * c3 (eA s) (eB s) (eA x) + (ky 1 p - ky 1 (eA x)) * c3 (eA s) (eB s) (eB x) + (ky 1 (eB s) - ky 1 (eA s)) * c3 (eA x) (eB x) p := by
    simp only [ky, c3]; grind
  rw [a.1, b.1, h.1] at id
  simp only [Int.mul_zero, Int.add_zero] at id
  refine ⟨(Int.mul_eq_zero.1 id).resolve_left (by omega), ?_⟩
  have h2 := h.2
  have a2 := a.2
  have b2 := b.2
  omega
omit hs
include ht
theorem Piece.end_of (P : Piece E t y) {p : P2} (hp : p ∈ E) (h : onS p y) : p = eA y ∨ p = eB y := by
  have v := hE p hp
  have g := P.gap p hp (P.sub hE ht v h)
  have k := P.kl hE
  rw [ky_lt (hE _ P.inA.1) v, ky_lt v (hE _ P.inB.1)] at g
  have h2 := h.2
  by_cases e : ky 1 p = ky 1 (eA y)
  · left; exact ky_inj v (hE _ P.inA.1) e
  · right; exact ky_inj v (hE _ P.inB.1) (by omega)
end
theorem S4_ext {x y : S4} (h1 : eA x = eA y) (h2 : eB x = eB y) : x = y := by
  obtain ⟨a, b, c, d⟩ := x
  obtain ⟨e, f, g, h⟩ := y
  simp only [eA, eB, Prod.mk.injEq] at h1 h2
  simp only [Prod.mk.injEq]; exact ⟨h1.1, h1.2, h2.1, h2.2⟩
def meetS (x y : S4) : Int := meetI x.1 x.2.1 x.2.2.1 x.2.2.2 y.1 y.2.1 y.2.2.1 y.2.2.2
theorem turnS (x : S4) (p : P2) : turnI x.1 x.2.1 x.2.2.1 x.2.2.2 p.1 p.2 = Int.sign (c3 (eA x) (eB x) p) := turn3 (eA x) (eB x) p
theorem meetS_comm {x y : S4} (h1 : okSeg x = true) (h2 : okSeg y = true) : meetS y x = meetS x y := meetI_comm h1 h2
theorem sign_mul_neg {a b : Int} (h : Int.sign a * Int.sign b < 0) : (a < 0 ∧ 0 < b) ∨ (0 < a ∧ b < 0) := by
  rcases Int.lt_trichotomy a 0 with ha | ha | ha
  · rw [Int.sign_eq_neg_one_of_neg ha] at h
    rcases Int.lt_trichotomy b 0 with hb | hb | hb
    · rw [Int.sign_eq_neg_one_of_neg hb] at h; omega
    · rw [hb] at h; simp at h
    · exact .inl ⟨ha, hb⟩
  · rw [ha] at h; simp at h
  · rw [Int.sign_eq_one_of_pos ha] at h
    rcases Int.lt_trichotomy b 0 with hb | hb | hb
    · exact .inr ⟨ha, hb⟩
    · rw [hb] at h; simp at h
    · rw [Int.sign_eq_one_of_pos hb] at h; omega
/-- the ends of a piece are on different sides of a line: then so are the ends of its segment -/
theorem sides {t y : S4} {u v : P2} (ht : okSeg t = true) (vy1 : valid (eA y)) (vy2 : valid (eB y)) (h1 : onS (eA y) t) (h2 : onS (eB y) t) (h : Int.sign (c3 u v (eA y)) * Int.sign (c3 u v (eB y)) < 0) : Int.sign (c3 u v (eA t)) * Int.sign (c3 u v (eB t)) < 0 := by
  obtain ⟨w1, w2, hne⟩ := okSeg_iff.1 ht
  have k := ky_ne w1 w2 hne
  have id : ∀ z : P2, onS z t → (ky 1 (eB t) - ky 1 (eA t)) * c3 u v z = (ky 1 (eB t) - ky 1 z) * c3 u v (eA t) + (ky 1 z - ky 1 (eA t)) * c3 u v (eB t) := by
    intro z hz
    have : (ky 1 (eB t) - ky 1 (eA t)) * c3 u v z = (ky 1 (eB t) - ky 1 z) * c3 u v (eA t) + (ky 1 z - ky 1 (eA t)) * c3 u v (eB t) + (ky 1 v - ky 1 u) * c3 (eA t) (eB t) z := by
      simp only [ky, c3]; grind
    rw [hz.1] at this
    simpa using this
  have i1 := id _ h1
  have i2 := id _ h2
  have b1 := h1.2
  have b2 := h2.2
  have pos : ∀ z : P2, onS z t → 0 ≤ c3 u v (eA t) → 0 ≤ c3 u v (eB t) → 0 ≤ c3 u v z := by
    intro z hz ha hb
    have i := id z hz
    have b := hz.2
    rcases Int.lt_or_gt_of_ne k with k' | k'
    · have m1 := Int.mul_nonneg (show 0 ≤ ky 1 (eB t) - ky 1 z by omega) ha
      have m2 := Int.mul_nonneg (show 0 ≤ ky 1 z - ky 1 (eA t) by omega) hb
      exact nn_of (show 0 < ky 1 (eB t) - ky 1 (eA t) by omega) (by omega)
    · have m1 := Int.mul_nonneg (show 0 ≤ -(ky 1 (eB t) - ky 1 z) by omega) ha
      have m2 := Int.mul_nonneg (show 0 ≤ -(ky 1 z - ky 1 (eA t)) by omega) hb
      rw [Int.neg_mul] at m1 m2
      refine nn_of (a := -(ky 1 (eB t) - ky 1 (eA t))) (by omega) ?_
      rw [Int.neg_mul]; omega
  have neg : ∀ z : P2, onS z t → c3 u v (eA t) ≤ 0 → c3 u v (eB t) ≤ 0 → c3 u v z ≤ 0 := by
    intro z hz ha hb
    have i := id z hz
    have b := hz.2
    rcases Int.lt_or_gt_of_ne k with k' | k'
    · have m1 := Int.mul_nonneg (show 0 ≤ ky 1 (eB t) - ky 1 z by omega) (show 0 ≤ - c3 u v (eA t) by omega)
      have m2 := Int.mul_nonneg (show 0 ≤ ky 1 z - ky 1 (eA t) by omega) (show 0 ≤ - c3 u v (eB t) by omega)
      rw [Int.mul_neg] at m1 m2
      have := nn_of (a := ky 1 (eB t) - ky 1 (eA t)) (b := - c3 u v z) (by omega) (by rw [Int.mul_neg]; omega)
      omega
    · have m1 := Int.mul_nonneg (show 0 ≤ -(ky 1 (eB t) - ky 1 z) by omega) (show 0 ≤ - c3 u v (eA t) by omega)
      have m2 := Int.mul_nonneg (show 0 ≤ -(ky 1 z - ky 1 (eA t)) by omega) (show 0 ≤ - c3 u v (eB t) by omega)
      rw [Int.neg_mul_neg] at m1 m2
      have := nn_of (a := -(ky 1 (eB t) - ky 1 (eA t))) (b := - c3 u v z) (by omega) (by rw [Int.neg_mul_neg]; omega)
      omega
  have hd := sign_mul_neg h
  rcases Int.lt_trichotomy (c3 u v (eA t)) 0 with ha | ha | ha
  · rcases Int.lt_or_le 0 (c3 u v (eB t)) with hb | hb
    · rw [Int.sign_eq_neg_one_of_neg ha, Int.sign_eq_one_of_pos hb]; decide
    · have := neg _ h1 (by omega) hb; have := neg _ h2 (by omega) hb; omega
  · rcases Int.lt_or_le 0 (c3 u v (eB t)) with hb | hb
    · have := pos _ h1 (by omega) (by omega); have := pos _ h2 (by omega) (by omega); omega
    · have := neg _ h1 (by omega) hb; have := neg _ h2 (by omega) hb; omega
  · rcases Int.lt_or_le (c3 u v (eB t)) 0 with hb | hb
    · rw [Int.sign_eq_one_of_pos ha, Int.sign_eq_neg_one_of_neg hb]; decide
    · have := pos _ h1 (by omega) (by omega); have := pos _ h2 (by omega) (by omega); omega
/-- the line of a piece is that of its segment -/
theorem line_sign {s x : S4} (hs : okSeg s = true) (h1 : onS (eA x) s) (h2 : onS (eB x) s) (p q : P2) (h : Int.sign (c3 (eA x) (eB x) p) * Int.sign (c3 (eA x) (eB x) q) < 0) : Int.sign (c3 (eA s) (eB s) p) * Int.sign (c3 (eA s) (eB s) q) < 0 := by
  obtain ⟨w1, w2, hne⟩ := okSeg_iff.1 hs
  have k := ky_ne w1 w2 hne
  have id : ∀ z : P2, (ky 1 (eB s) - ky 1 (eA s)) * c3 (eA x) (eB x) z = (ky 1 (eB x) - ky 1 (eA x)) * c3 (eA s) (eB s) z := by
    intro z
    have : (ky 1 (eB s) - ky 1 (eA s)) * c3 (eA x) (eB x) z = (ky 1 (eB x) - ky 1 (eA x)) * c3 (eA s) (eB s) z + (ky 1 z - ky 1 (eB x)) * c3 (eA s) (eB s) (eA x) + (ky 1 (eA x) - ky 1 z) * c3 (eA s) (eB s) (eB x) := by
      simp only [ky, c3]; grind
    rw [h1.1, h2.1] at this
    simpa using this
  have s1 := congrArg Int.sign (id p)
  have s2 := congrArg Int.sign (id q)
  rw [Int.sign_mul, Int.sign_mul] at s1 s2
  have hk : Int.sign (ky 1 (eB s) - ky 1 (eA s)) * Int.sign (ky 1 (eB s) - ky 1 (eA s)) = 1 := by
    rcases sign_ne (show ky 1 (eB s) - ky 1 (eA s) ≠ 0 by omega) with e | e <;> rw [e] <;> rfl
  have e1 : Int.sign (c3 (eA x) (eB x) p) * Int.sign (c3 (eA x) (eB x) q) = Int.sign (ky 1 (eB x) - ky 1 (eA x)) * Int.sign (ky 1 (eB x) - ky 1 (eA x)) * (Int.sign (c3 (eA s) (eB s) p) * Int.sign (c3 (eA s) (eB s) q)) := by
    calc _ = (Int.sign (ky 1 (eB s) - ky 1 (eA s)) * Int.sign (ky 1 (eB s) - ky 1 (eA s))) * (Int.sign (c3 (eA x) (eB x) p) * Int.sign (c3 (eA x) (eB x) q)) := by rw [hk, Int.one_mul]
      _ = (Int.sign (ky 1 (eB s) - ky 1 (eA s)) * Int.sign (c3 (eA x) (eB x) p)) * (Int.sign (ky 1 (eB s) - ky 1 (eA s)) * Int.sign (c3 (eA x) (eB x) q)) := by grind
      _ = _ := by rw [s1, s2]; grind
  rw [e1] at h
  generalize Int.sign (c3 (eA s) (eB s) p) * Int.sign (c3 (eA s) (eB s) q) = z at *
  have hw : Int.sign (ky 1 (eB x) - ky 1 (eA x)) = 0 ∨ Int.sign (ky 1 (eB x) - ky 1 (eA x)) = 1 ∨ Int.sign (ky 1 (eB x) - ky 1 (eA x)) = -1 := by
    by_cases e : ky 1 (eB x) - ky 1 (eA x) = 0
    · left; rw [e]; rfl
    · right; exact sign_ne e
  rcases hw with e | e | e <;> rw [e] at h <;> omega
/-- pieces meet in ends alone -/
theorem pieces_meet {E : List P2} (hE : ∀ p, p ∈ E → valid p) {s t x y : S4} (hs : okSeg s = true) (ht : okSeg t = true) (P : Piece E s x) (S : Piece E t y) (hne : x ≠ y) (hm : s = t ∨ meetS s t ≠ 3) : meetS x y = 0 ∨ meetS x y = 1 := by
  have ox := P.ok hE
  have oy := S.ok hE
  have dx := (okSeg_iff.1 ox).2.2
  have dy := (okSeg_iff.1 oy).2.2
  have dx' : ¬ (x.1 = x.2.2.1 ∧ x.2.1 = x.2.2.2) := fun ⟨u, v⟩ => dx (Prod.ext u v)
  have dy' : ¬ (y.1 = y.2.2.1 ∧ y.2.1 = y.2.2.2) := fun ⟨u, v⟩ => dy (Prod.ext u v)
  have key : ∀ p, p ∈ endsL x.1 x.2.1 x.2.2.1 x.2.2.2 y.1 y.2.1 y.2.2.1 y.2.2.2 → (p = eA x ∨ p = eB x) ∧ (p = eA y ∨ p = eB y) := by
    intro p hp
    obtain ⟨h1, h2⟩ := ends_sub dx' dy' p hp
    have hpE : p ∈ E := by
      rcases h1 with h | h | h | h
      · rw [h]; exact P.inA.1
      · rw [h]; exact P.inB.1
      · rw [h]; exact S.inA.1
      · rw [h]; exact S.inB.1
    unfold bothB at h2
    rw [Bool.and_eq_true] at h2
    exact ⟨P.end_of hE hs hpE ((onR_iff (hE _ hpE) ox).1 h2.1), S.end_of hE ht hpE ((onR_iff (hE _ hpE) oy).1 h2.2)⟩
  have nd : ∀ p q, (p = eA x ∨ p = eB x) ∧ (p = eA y ∨ p = eB y) → (q = eA x ∨ q = eB x) ∧ (q = eA y ∨ q = eB y) → p = q := by
    rintro p q ⟨a1, a2⟩ ⟨b1, b2⟩
    apply Classical.byContradiction
    intro hpq
    have lx := P.kl hE
    have ly := S.kl hE
    apply hne
    rcases a1 with a1 | a1 <;> rcases b1 with b1 | b1 <;> rcases a2 with a2 | a2 <;> rcases b2 with b2 | b2
    all_goals first
      | exact absurd (a1.trans b1.symm) hpq
      | exact absurd (a2.trans b2.symm) hpq
      | exact S4_ext (a1.symm.trans a2) (b1.symm.trans b2)
      | exact S4_ext (b1.symm.trans b2) (a1.symm.trans a2)
      | (exfalso; rw [← a1, ← b1] at lx; rw [← a2, ← b2] at ly; omega)
  have me : meetS x y = meetOf (endsL x.1 x.2.1 x.2.2.1 x.2.2.2 y.1 y.2.1 y.2.2.1 y.2.2.2) x.1 x.2.1 x.2.2.1 x.2.2.2 y.1 y.2.1 y.2.2.1 y.2.2.2 := (meet_eq ox oy).symm
  have nodup : ∀ (m : List P2) (o : List P2), o.Nodup → (m.foldl (endStep x.1 x.2.1 x.2.2.1 x.2.2.2 y.1 y.2.1 y.2.2.1 y.2.2.2) o).Nodup := by
    intro m
    induction m with
    | nil => intro o ho; exact ho
    | cons p m ih =>
      intro o ho
      rw [List.foldl_cons]
      apply ih
      unfold endStep
      split
      next hc =>
        rw [Bool.and_eq_true] at hc
        have hnm : p ∉ o := fun h => by have := hc.2; simp [h] at this
        rw [List.nodup_append]
        exact ⟨ho, by simp, fun a ha b hb e => by simp at hb; rw [hb] at e; rw [e] at ha; exact hnm ha⟩
      next => exact ho
  have nd1 : (endsL x.1 x.2.1 x.2.2.1 x.2.2.2 y.1 y.2.1 y.2.2.1 y.2.2.2).Nodup := nodup _ [] List.nodup_nil
  rw [me]
  cases hl : endsL x.1 x.2.1 x.2.2.1 x.2.2.2 y.1 y.2.1 y.2.2.1 y.2.2.2 with
  | nil =>
    simp only [meetOf]
    split
    next hc =>
      exfalso
      have c1 : Int.sign (c3 (eA x) (eB x) (eA y)) * Int.sign (c3 (eA x) (eB x) (eB y)) < 0 := by
        rw [← turnS, ← turnS]; exact hc.1
      have c2 : Int.sign (c3 (eA y) (eB y) (eA x)) * Int.sign (c3 (eA y) (eB y) (eB x)) < 0 := by
        rw [← turnS, ← turnS]; exact hc.2
      by_cases est : s = t
      · subst est
        rw [on3 hs P.inA.2 P.inB.2 S.inA.2] at c1
        simp at c1
      · have d1 := sides ht (hE _ S.inA.1) (hE _ S.inB.1) S.inA.2 S.inB.2 (line_sign hs P.inA.2 P.inB.2 _ _ c1)
        have d2 := sides hs (hE _ P.inA.1) (hE _ P.inB.1) P.inA.2 P.inB.2 (line_sign ht S.inA.2 S.inB.2 _ _ c2)
        rw [← turnS, ← turnS] at d1 d2
        refine (hm.resolve_left est) ?_
        have e1 : ¬ (turnI s.1 s.2.1 s.2.2.1 s.2.2.2 t.1 t.2.1 = 0 ∧ turnI s.1 s.2.1 s.2.2.1 s.2.2.2 t.2.2.1 t.2.2.2 = 0) := fun h => by
          have : turnI s.1 s.2.1 s.2.2.1 s.2.2.2 t.1 t.2.1 * turnI s.1 s.2.1 s.2.2.1 s.2.2.2 t.2.2.1 t.2.2.2 < 0 := d1
          rw [h.1] at this; simp at this
        have d1' : turnI s.1 s.2.1 s.2.2.1 s.2.2.2 t.1 t.2.1 * turnI s.1 s.2.1 s.2.2.1 s.2.2.2 t.2.2.1 t.2.2.2 < 0 := d1
        have d2' : turnI t.1 t.2.1 t.2.2.1 t.2.2.2 s.1 s.2.1 * turnI t.1 t.2.1 t.2.2.1 t.2.2.2 s.2.2.1 s.2.2.2 < 0 := d2
        unfold meetS meetI
        rw [if_neg e1, if_neg (by omega), if_neg (by omega), if_neg (by omega)]
    next => left; rfl
  | cons p m =>
    have kp := key p (by rw [hl]; simp)
    cases m with
    | nil => right; exact if_pos kp
    | cons q m =>
      exfalso
      have kq := key q (by rw [hl]; simp)
      have := nd p q kp kq
      rw [hl, List.nodup_cons] at nd1
      exact nd1.1 (by rw [this]; simp)
/-- two segments with two points in common overlap -/
theorem two_common {s t : S4} (hs : okSeg s = true) (ht : okSeg t = true) {p q : P2} (hp : valid p) (hq : valid q) (hne : p ≠ q) (h1 : onS p s) (h2 : onS q s) (h3 : onS p t) (h4 : onS q t) : meetS s t = 4 := by
  obtain ⟨v1, v2, hn1⟩ := okSeg_iff.1 hs
  obtain ⟨w1, w2, hn2⟩ := okSeg_iff.1 ht
  have k1 := ky_ne v1 v2 hn1
  have k2 := ky_ne w1 w2 hn2
  have k := ky_ne hp hq hne
  have id : ∀ z : P2, onS z t → c3 (eA s) (eB s) z = 0 := by
    intro z hz
    have this : (ky 1 q - ky 1 p) * c3 (eA s) (eB s) z = (ky 1 (eB s) - ky 1 (eA s)) * c3 p q z + (ky 1 q - ky 1 z) * c3 (eA s) (eB s) p + (ky 1 z - ky 1 p) * c3 (eA s) (eB s) q := by
      simp only [ky, c3]; grind
    rw [h1.1, h2.1, on3 ht h3 h4 hz] at this
    simp only [Int.mul_zero, Int.add_zero] at this
    exact (Int.mul_eq_zero.1 this).resolve_left (by omega)
  have t1 : turnI s.1 s.2.1 s.2.2.1 s.2.2.2 t.1 t.2.1 = 0 := by
    have := turnS s (eA t); rw [id _ (onS_A t)] at this; exact this
  have t2 : turnI s.1 s.2.1 s.2.2.1 s.2.2.2 t.2.2.1 t.2.2.2 = 0 := by
    have := turnS s (eB t); rw [id _ (onS_B t)] at this; exact this
  have b1 := h1.2; have b2 := h2.2; have b3 := h3.2; have b4 := h4.2
  unfold meetS meetI
  rw [if_pos ⟨t1, t2⟩]
  obtain ⟨a, b, c, d⟩ := s
  obtain ⟨e, f, g, h⟩ := t
  unfold valid eA eB at *
  simp only at v1 v2 w1 w2
  obtain ⟨_, u2, _, u4⟩ := f_bd 0 10000 a b c d (by omega) (by omega) (by omega) (by omega)
  obtain ⟨_, u6, _, u8⟩ := f_bd 0 10000 e f g h (by omega) (by omega) (by omega) (by omega)
  rw [onLine_key u2 u4 u6 u8, (f_key v1.2 v2.2).1, (f_key v1.2 v2.2).2, (f_key w1.2 w2.2).1, (f_key w1.2 w2.2).2, if_pos]
  simp only [ky] at *
  unfold kap
  omega

/-! lengths -/
def dI (p q : P2) : Int := max (p.1 - q.1) (q.1 - p.1) + max (p.2 - q.2) (q.2 - p.2)
def lenS (s : S4) : Int := dI (eA s) (eB s)
theorem dI_swap (p q : P2) : dI p q = dI q p := by unfold dI; omega
theorem dI_add {p q r : P2} (hp : valid p) (hq : valid q) (hr : valid r) (h0 : c3 p r q = 0) (h1 : ky 1 p ≤ ky 1 q) (h2 : ky 1 q ≤ ky 1 r) : dI p q + dI q r = dI p r := by
  obtain ⟨a, b⟩ := p; obtain ⟨x, y⟩ := q; obtain ⟨c, d⟩ := r
  unfold valid at *
  simp only [c3] at h0
  simp only [ky] at h1 h2
  simp only at hp hq hr
  have := (on_asc (a := a) (b := b) (c := c) (d := d) (p := x) (q := y) (by omega) (by omega)).1 (by omega)
  simp only [dI]; omega
def sumF : List S4 → Int
  | [] => 0
  | x :: l => lenS x + sumF l
theorem sumF_app (a b : List S4) : sumF (a ++ b) = sumF a + sumF b := by
  induction a with
  | nil => simp [sumF]
  | cons x a ih => simp only [List.cons_append, sumF, ih]; omega
theorem sumF_perm {a b : List S4} (h : a.Perm b) : sumF a = sumF b := by
  induction h with
  | nil => rfl
  | cons x _ ih => simp only [sumF, ih]
  | swap x y l => simp only [sumF]; omega
  | trans _ _ ih1 ih2 => rw [ih1, ih2]
theorem sum_pairs {s : S4} (hs : okSeg s = true) {C : List P2} (hC : ∀ p, p ∈ C → valid p ∧ onS p s) (hl : C.Pairwise lexLt) : ∀ k, k < C.length → sumF (pairsTo C k) = dI (ptAt C 0) (ptAt C k)
  | 0, _ => by simp [pairsTo, sumF, dI]
  | k + 1, h => by
    have ih := sum_pairs hs hC hl k (by omega)
    have e : pairsTo C (k + 1) = pairsTo C k ++ [(px C k, py C k, px C (k + 1), py C (k + 1))] := by simp [pairsTo, List.range_succ]
    rw [e, sumF_app, ih]
    have m0 := hC _ (ptAt_mem (l := C) (i := 0) (by omega))
    have m1 := hC _ (ptAt_mem (l := C) (i := k) (by omega))
    have m2 := hC _ (ptAt_mem (l := C) (i := k + 1) h)
    have l2 := (ky_lt m1.1 m2.1).1 (lex_lt hl h (by omega))
    have l1 : ky 1 (ptAt C 0) ≤ ky 1 (ptAt C k) := by
      by_cases e : k = 0
      · subst e; exact Int.le_refl _
      · exact Int.le_of_lt ((ky_lt m0.1 m1.1).1 (lex_lt hl (by omega) (by omega)))
    have := dI_add m0.1 m1.1 m2.1 (on3 hs m0.2 m2.2 m1.2) l1 (by omega)
    simp only [sumF, lenS, eA, eB]
    show dI (ptAt C 0) (ptAt C k) + (dI (ptAt C k) (ptAt C (k + 1)) + 0) = _
    omega
/-- the cuts begin and end with the ends -/
theorem cuts_ends {E : List P2} {s : S4} (hE : ∀ p, p ∈ E → valid p) (hs : okSeg s = true) (hA : eA s ∈ E) (hB : eB s ∈ E) :
    2 ≤ (cutsL E s.1 s.2.1 s.2.2.1 s.2.2.2).length ∧ dI (ptAt (cutsL E s.1 s.2.1 s.2.2.1 s.2.2.2) 0) (ptAt (cutsL E s.1 s.2.1 s.2.2.1 s.2.2.2) ((cutsL E s.1 s.2.1 s.2.2.1 s.2.2.2).length - 1)) = lenS s := by
  obtain ⟨h1, h2⟩ := cutsL_spec hE hs hA hB
  generalize cutsL E s.1 s.2.1 s.2.2.1 s.2.2.2 = C at *
  obtain ⟨i, hi, ei⟩ := mem_ptAt ((h2 _).2 ⟨hA, onS_A s⟩)
  obtain ⟨j, hj, ej⟩ := mem_ptAt ((h2 _).2 ⟨hB, onS_B s⟩)
  have hne := (okSeg_iff.1 hs).2.2
  have hij : i ≠ j := fun e => hne (by rw [ei, ej, e])
  have two : 2 ≤ C.length := by omega
  refine ⟨two, ?_⟩
  have val : ∀ k, k < C.length → valid (ptAt C k) ∧ onS (ptAt C k) s := fun k hk => by
    have := (h2 _).1 (ptAt_mem hk)
    exact ⟨hE _ this.1, this.2⟩
  have mono : ∀ a b, a < b → b < C.length → ky 1 (ptAt C a) < ky 1 (ptAt C b) := fun a b hab hb => (ky_lt (val a (by omega)).1 (val b hb).1).1 (lex_lt h1 hb hab)
  have b0 := (val 0 (by omega)).2.2
  have bn := (val (C.length - 1) (by omega)).2.2
  rw [ei, ej] at b0 bn
  unfold lenS
  rw [ei, ej]
  by_cases hlt : i < j
  · have i0 : i = 0 := by
      apply Classical.byContradiction; intro h
      have := mono 0 i (by omega) hi
      have := mono i j hlt hj
      omega
    have jn : j = C.length - 1 := by
      apply Classical.byContradiction; intro h
      have := mono j (C.length - 1) (by omega) (by omega)
      have := mono i j hlt hj
      omega
    rw [i0, jn]
  · have i0 : j = 0 := by
      apply Classical.byContradiction; intro h
      have := mono 0 j (by omega) hj
      have := mono j i (by omega) hi
      omega
    have jn : i = C.length - 1 := by
      apply Classical.byContradiction; intro h
      have := mono i (C.length - 1) (by omega) (by omega)
      have := mono j i (by omega) hi
      omega
    rw [i0, jn, dI_swap]

/-! what Split returns -/
theorem sortS_sorted (l : List S4) : (sortS l).Pairwise fun x y => ¬ lessS y x = true := by
  unfold sortS
  rw [ltOf_cfS_eq]
  have := List.pairwise_mergeSort (le := fun x y => !lessS y x) (fun a b c h1 h2 => by simp [lessS] at *; omega) (fun a b => by simp [lessS]; omega) l
  refine this.imp fun {a b} h => ?_
  simpa using h
theorem lessS_tot {x y : S4} (h1 : ¬ lessS x y = true) (h2 : ¬ lessS y x = true) : x = y := by
  simp only [lessS, decide_eq_true_eq] at h1 h2
  exact Prod.ext (by omega) (Prod.ext (by omega) (Prod.ext (by omega) (by omega)))
theorem lessS_irr (x : S4) : ¬ lessS x x = true := by simp [lessS]
theorem segAt_get (l : List S4) (i : Nat) (h : i < l.length) : segAt l i = l[i] := by simp [segAt, q1, q2, q3, q4, List.getD_eq_getElem?_getD, h]
theorem nodup_idx {s : List S4} (hn : s.Nodup) {i j : Nat} (hi : i < s.length) (hj : j < s.length) (e : s[i] = s[j]) : i = j := by
  rw [List.nodup_iff_pairwise_ne, List.pairwise_iff_getElem] at hn
  rcases Nat.lt_trichotomy i j with h | h | h
  · exact absurd e (hn i j hi hj h)
  · exact h
  · exact absurd e.symm (hn j i hj hi h)
theorem dd_all {s : List S4} (hs : s.Pairwise fun x y => ¬ lessS y x = true) (hn : s.Nodup) : ∀ k, k ≤ s.length → ddS s k = s.take k
  | 0, _ => by simp [ddS]
  | k + 1, h => by
    have e : s.take (k + 1) = s.take k ++ [segAt s k] := by rw [List.take_succ_eq_append_getElem (by omega), segAt_get]
    simp only [ddS]
    rw [if_pos, dd_all hs hn k (by omega), e]
    · rfl
    · by_cases h0 : k = 0
      · exact .inl h0
      · right
        rw [Bool.eq_false_iff]
        intro hs'
        have : segAt s k = segAt s (k - 1) := by
          simp only [sameS, Bool.and_eq_true, beq_iff_eq] at hs'
          simp only [segAt, hs'.1.1.1, hs'.1.1.2, hs'.1.2, hs'.2]
        rw [segAt_get s k (by omega), segAt_get s (k - 1) (by omega)] at this
        have := nodup_idx hn (by omega) (by omega) this
        omega
section
variable {l : List S4} (hok : okSegs l = true) (hf : RowsFree l l.length l.length)
include hok
theorem seg_ok {k : Nat} (hk : k < l.length) : okSeg (segAt l k) = true := okSegs_at l k hk hok
theorem ends_valid : ∀ p, p ∈ endsTo l l.length → valid p := by
  intro p hp
  obtain ⟨i, hi, h⟩ := (endsTo_mem l l.length p).1 hp
  have := okSeg_iff.1 (seg_ok hok hi)
  rcases h with h | h <;> rw [h]
  · exact this.1
  · exact this.2.1
theorem ends_A {k : Nat} (hk : k < l.length) : eA (segAt l k) ∈ endsTo l l.length := (endsTo_mem l l.length _).2 ⟨k, hk, .inl rfl⟩
theorem ends_B {k : Nat} (hk : k < l.length) : eB (segAt l k) ∈ endsTo l l.length := (endsTo_mem l l.length _).2 ⟨k, hk, .inr rfl⟩
theorem part_iff {k : Nat} (hk : k < l.length) {x : S4} : x ∈ piecesL (endsTo l l.length) (q1 l k) (q2 l k) (q3 l k) (q4 l k) ↔ Piece (endsTo l l.length) (segAt l k) x :=
  piece_of (s := segAt l k) (ends_valid hok) (seg_ok hok hk) (ends_A hok hk) (ends_B hok hk)
theorem pieces_pos {k : Nat} (hk : k < l.length) : 0 < (piecesL (endsTo l l.length) (q1 l k) (q2 l k) (q3 l k) (q4 l k)).length := by
  have := (cuts_ends (s := segAt l k) (ends_valid hok) (seg_ok hok hk) (ends_A hok hk) (ends_B hok hk)).1
  show 0 < (pairsTo (cutsL (endsTo l l.length) (q1 l k) (q2 l k) (q3 l k) (q4 l k)) ((cutsL (endsTo l l.length) (q1 l k) (q2 l k) (q3 l k) (q4 l k)).length - 1)).length
  have e : (pairsTo (cutsL (endsTo l l.length) (q1 l k) (q2 l k) (q3 l k) (q4 l k)) ((cutsL (endsTo l l.length) (q1 l k) (q2 l k) (q3 l k) (q4 l k)).length - 1)).length = (cutsL (endsTo l l.length) (q1 l k) (q2 l k) (q3 l k) (q4 l k)).length - 1 := by simp [pairsTo]
  rw [e]
  have : 2 ≤ (cutsL (endsTo l l.length) (q1 l k) (q2 l k) (q3 l k) (q4 l k)).length := this
  omega
theorem sum_part {k : Nat} (hk : k < l.length) : sumF (piecesL (endsTo l l.length) (q1 l k) (q2 l k) (q3 l k) (q4 l k)) = lenS (segAt l k) := by
  have hE := ends_valid hok
  have hs := seg_ok hok hk
  obtain ⟨h1, h2⟩ := cutsL_spec hE hs (ends_A hok hk) (ends_B hok hk)
  obtain ⟨g1, g2⟩ := cuts_ends hE hs (ends_A hok hk) (ends_B hok hk)
  rw [← g2]
  exact sum_pairs hs (fun p hp => by have := (h2 p).1 hp; exact ⟨hE _ this.1, this.2⟩) h1 _ (Nat.sub_lt (Nat.lt_of_lt_of_le (by decide : 0 < 2) g1) (by decide))
theorem part_nodup {k : Nat} (hk : k < l.length) : (piecesL (endsTo l l.length) (q1 l k) (q2 l k) (q3 l k) (q4 l k)).Nodup := by
  have hE := ends_valid hok
  have hs := seg_ok hok hk
  obtain ⟨h1, h2⟩ := cutsL_spec hE hs (ends_A hok hk) (ends_B hok hk)
  unfold piecesL pairsTo
  have h1' : (cutsL (endsTo l l.length) (q1 l k) (q2 l k) (q3 l k) (q4 l k)).Pairwise lexLt := h1
  generalize cutsL (endsTo l l.length) (q1 l k) (q2 l k) (q3 l k) (q4 l k) = C at *
  rw [List.nodup_iff_pairwise_ne, List.pairwise_map, List.pairwise_iff_getElem]
  intro i j hi hj hij e
  have hj' : j < C.length - 1 := by simpa using hj
  simp only [List.getElem_range] at e
  simp only [Prod.mk.injEq] at e
  have := lex_lt h1' (i := i) (j := j) (by omega) hij
  unfold lexLt ptAt at this
  simp only at this
  omega
include hf
theorem free_meet {k m : Nat} (hk : k < l.length) (hm : m < l.length) (h : k ≠ m) : meetS (segAt l k) (segAt l m) ≠ 3 ∧ meetS (segAt l k) (segAt l m) ≠ 4 := by
  have key : ∀ {k m : Nat}, k < m → m < l.length → meetS (segAt l k) (segAt l m) ≠ 3 ∧ meetS (segAt l k) (segAt l m) ≠ 4 := fun {k m} h hm => by
    have := hf k (by omega) m h hm
    unfold crB at this
    rw [Bool.or_eq_false_iff] at this
    simp only [beq_eq_false_iff_ne] at this
    exact this
  rcases Nat.lt_or_gt_of_ne h with h' | h'
  · exact key h' hm
  · have := key h' hk
    rw [← meetS_comm (seg_ok hok hm) (seg_ok hok hk)] at this
    exact this
theorem parts_nodup : ∀ k, k ≤ l.length → (partsTo l (endsTo l l.length) k).Nodup
  | 0, _ => by simp [partsTo]
  | k + 1, h => by
    have hE := ends_valid hok
    simp only [partsTo]
    rw [List.nodup_append]
    refine ⟨parts_nodup k (by omega), part_nodup hok (by omega), fun x hx y hy e => ?_⟩
    subst e
    obtain ⟨i, hi, hxi⟩ := (parts_mem l _ k x).1 hx
    have P := (part_iff hok (show i < l.length by omega)).1 hxi
    have S := (part_iff hok (show k < l.length by omega)).1 hy
    have ox := okSeg_iff.1 (P.ok hE)
    exact (free_meet hok hf (show i < l.length by omega) (show k < l.length by omega) (by omega)).2 (two_common (seg_ok hok (by omega)) (seg_ok hok (by omega)) ox.1 ox.2.1 ox.2.2 P.inA.2 P.inB.2 S.inA.2 S.inB.2)
theorem split_eq : splitL l = sortS (partsTo l (endsTo l l.length) l.length) := by
  have hp : (sortS (partsTo l (endsTo l l.length) l.length)).Perm (partsTo l (endsTo l l.length) l.length) := List.mergeSort_perm _ _
  have hn := hp.nodup_iff.2 (parts_nodup hok hf l.length (Nat.le_refl _))
  have hl : (sortS (partsTo l (endsTo l l.length) l.length)).length = (partsTo l (endsTo l l.length) l.length).length := hp.length_eq
  unfold splitL
  rw [dd_all (sortS_sorted _) hn _ (by omega), ← hl, List.take_length]
theorem split_mem (x : S4) : x ∈ splitL l ↔ ∃ k, k < l.length ∧ Piece (endsTo l l.length) (segAt l k) x := by
  rw [split_eq hok hf]
  have hp : (sortS (partsTo l (endsTo l l.length) l.length)).Perm (partsTo l (endsTo l l.length) l.length) := List.mergeSort_perm _ _
  rw [hp.mem_iff, parts_mem]
  constructor
  · rintro ⟨k, hk, h⟩; exact ⟨k, hk, (part_iff hok hk).1 h⟩
  · rintro ⟨k, hk, h⟩; exact ⟨k, hk, (part_iff hok hk).2 h⟩
theorem split_nodup : (splitL l).Nodup := by
  rw [split_eq hok hf]
  have hp : (sortS (partsTo l (endsTo l l.length) l.length)).Perm (partsTo l (endsTo l l.length) l.length) := List.mergeSort_perm _ _
  exact hp.nodup_iff.2 (parts_nodup hok hf l.length (Nat.le_refl _))
theorem split_lt : (splitL l).Pairwise fun x y => lessS x y = true := by
  have h1 := split_nodup hok hf
  have h2 : (splitL l).Pairwise fun x y => ¬ lessS y x = true := by rw [split_eq hok hf]; exact sortS_sorted _
  rw [List.nodup_iff_pairwise_ne] at h1
  exact (h1.and h2).imp fun ⟨a, b⟩ => Classical.byContradiction fun h => a (lessS_tot h b)
/-- pieces meet in ends alone -/
theorem split_meet {i j : Nat} (hi : i < (splitL l).length) (hj : j < (splitL l).length) (h : i ≠ j) : meetS (segAt (splitL l) i) (segAt (splitL l) j) = 0 ∨ meetS (segAt (splitL l) i) (segAt (splitL l) j) = 1 := by
  have hE := ends_valid hok
  have hne : segAt (splitL l) i ≠ segAt (splitL l) j := fun e => by
    rw [segAt_get _ _ hi, segAt_get _ _ hj] at e
    exact h (nodup_idx (split_nodup hok hf) hi hj e)
  obtain ⟨k, hk, P⟩ := (split_mem hok hf _).1 (by rw [segAt_get _ _ hi]; exact List.getElem_mem hi : segAt (splitL l) i ∈ splitL l)
  obtain ⟨m, hm, S⟩ := (split_mem hok hf _).1 (by rw [segAt_get _ _ hj]; exact List.getElem_mem hj : segAt (splitL l) j ∈ splitL l)
  refine pieces_meet hE (seg_ok hok hk) (seg_ok hok hm) P S hne ?_
  by_cases e : k = m
  · left; rw [e]
  · right; exact (free_meet hok hf hk hm e).1
theorem split_okSeg {i : Nat} (hi : i < (splitL l).length) : okSeg (segAt (splitL l) i) = true := by
  obtain ⟨k, hk, P⟩ := (split_mem hok hf _).1 (by rw [segAt_get _ _ hi]; exact List.getElem_mem hi : segAt (splitL l) i ∈ splitL l)
  exact P.ok (ends_valid hok)
/-- the pieces are as long as the segments -/
theorem split_sum : sumF (splitL l) = sumF l := by
  rw [split_eq hok hf, sumF_perm (show (sortS (partsTo l (endsTo l l.length) l.length)).Perm (partsTo l (endsTo l l.length) l.length) from List.mergeSort_perm _ _)]
  have gen : ∀ k, k ≤ l.length → sumF (partsTo l (endsTo l l.length) k) = sumF (l.take k) := by
    intro k
    induction k with
    | zero => intro _; simp [partsTo, sumF]
    | succ k ih =>
      intro h
      simp only [partsTo]
      rw [sumF_app, ih (by omega), sum_part hok (by omega), List.take_succ_eq_append_getElem (by omega), sumF_app, segAt_get l k (by omega)]
      simp [sumF]
  rw [gen _ (Nat.le_refl _), List.take_length]
/-- each end of a segment is one of a piece -/
theorem split_end {k : Nat} (hk : k < l.length) {p : P2} (hp : p = eA (segAt l k) ∨ p = eB (segAt l k)) : ∃ i, i < (splitL l).length ∧ (p = eA (segAt (splitL l) i) ∨ p = eB (segAt (splitL l) i)) := by
  have hE := ends_valid hok
  obtain ⟨h1, h2⟩ := cutsL_spec hE (seg_ok hok hk) (ends_A hok hk) (ends_B hok hk)
  obtain ⟨g1, _⟩ := cuts_ends hE (seg_ok hok hk) (ends_A hok hk) (ends_B hok hk)
  have hc : p ∈ cutsL (endsTo l l.length) (segAt l k).1 (segAt l k).2.1 (segAt l k).2.2.1 (segAt l k).2.2.2 := by
    rw [h2]
    rcases hp with h | h <;> rw [h]
    · exact ⟨ends_A hok hk, onS_A _⟩
    · exact ⟨ends_B hok hk, onS_B _⟩
  obtain ⟨j, hj, ej⟩ := mem_ptAt hc
  have get : ∀ x : S4, x ∈ piecesL (endsTo l l.length) (q1 l k) (q2 l k) (q3 l k) (q4 l k) → ∃ i, i < (splitL l).length ∧ segAt (splitL l) i = x := by
    intro x hx
    have hm : x ∈ splitL l := (split_mem hok hf x).2 ⟨k, hk, (part_iff hok hk).1 hx⟩
    obtain ⟨i, hi, he⟩ := List.getElem_of_mem hm
    exact ⟨i, hi, by rw [segAt_get _ _ hi, he]⟩
  have pm : ∀ i, i + 1 < (cutsL (endsTo l l.length) (segAt l k).1 (segAt l k).2.1 (segAt l k).2.2.1 (segAt l k).2.2.2).length → ∃ x : S4, x ∈ piecesL (endsTo l l.length) (q1 l k) (q2 l k) (q3 l k) (q4 l k) ∧ eA x = ptAt (cutsL (endsTo l l.length) (segAt l k).1 (segAt l k).2.1 (segAt l k).2.2.1 (segAt l k).2.2.2) i ∧ eB x = ptAt (cutsL (endsTo l l.length) (segAt l k).1 (segAt l k).2.1 (segAt l k).2.2.1 (segAt l k).2.2.2) (i + 1) := by
    intro i hi
    refine ⟨(px _ i, py _ i, px _ (i + 1), py _ (i + 1)), (pairs_mem _ _ _).2 ⟨i, ?_, rfl, rfl⟩, rfl, rfl⟩
    show i < (cutsL (endsTo l l.length) (segAt l k).1 (segAt l k).2.1 (segAt l k).2.2.1 (segAt l k).2.2.2).length - 1
    omega
  by_cases e : j + 1 < (cutsL (endsTo l l.length) (segAt l k).1 (segAt l k).2.1 (segAt l k).2.2.1 (segAt l k).2.2.2).length
  · obtain ⟨x, hx, x1, x2⟩ := pm j e
    obtain ⟨i, hi, ex⟩ := get x hx
    exact ⟨i, hi, .inl (by rw [ex, x1, ej])⟩
  · obtain ⟨x, hx, x1, x2⟩ := pm (j - 1) (by omega)
    obtain ⟨i, hi, ex⟩ := get x hx
    exact ⟨i, hi, .inr (by rw [ex, x2, ej]; congr 1; omega)⟩
end
/-! the reference's way along a segment -/
/-- a point inside of a segment, as the reference tells it -/
def insR (p a b : P2) : Bool := onR p.1 p.2 a.1 a.2 b.1 b.2 && !(p == a) && !(p == b)
def nextStep (a b : P2) (nx p : P2) : P2 := if insR p a b && lessP p nx then p else nx
/-- the next end behind a -/
def nextP (E : List P2) (a b : P2) (k : Nat) : P2 := (E.take k).foldl (nextStep a b) b
theorem lessP_iff (p q : P2) : lessP p q = true ↔ lexLt p q := by simp [lessP, lexLt]
theorem next_fold (a b : P2) : ∀ (m : List P2) (o : P2), (m.foldl (nextStep a b) o = o ∨ (m.foldl (nextStep a b) o ∈ m ∧ insR (m.foldl (nextStep a b) o) a b = true)) ∧ ¬ lexLt o (m.foldl (nextStep a b) o) ∧ ∀ p, p ∈ m → insR p a b = true → ¬ lexLt p (m.foldl (nextStep a b) o)
  | [], o => ⟨.inl rfl, by simp [lexLt], by simp⟩
  | q :: m, o => by
    obtain ⟨i1, i2, i3⟩ := next_fold a b m (nextStep a b o q)
    rw [List.foldl_cons]
    have tr : ∀ {x y z : P2}, ¬ lexLt x y → ¬ lexLt y z → ¬ lexLt x z := fun h1 h2 => by unfold lexLt at *; omega
    have hs : (nextStep a b o q = o ∨ (nextStep a b o q = q ∧ insR q a b = true)) ∧ ¬ lexLt o (nextStep a b o q) ∧ (insR q a b = true → ¬ lexLt q (nextStep a b o q)) := by
      unfold nextStep
      cases h1 : insR q a b
      · simp [lexLt]
      · cases h2 : lessP q o
        · have : ¬ lexLt q o := fun h => by rw [← lessP_iff, h2] at h; cases h
          simp only [Bool.true_and, Bool.false_eq_true, if_false]
          exact ⟨.inl trivial, by simp [lexLt], fun _ => this⟩
        · have h3 := (lessP_iff q o).1 h2
          simp only [Bool.true_and, if_true]
          exact ⟨.inr ⟨trivial, trivial⟩, by unfold lexLt at *; omega, fun _ => by simp [lexLt]⟩
    refine ⟨?_, tr hs.2.1 i2, ?_⟩
    · rcases i1 with h | ⟨h1, h2⟩
      · rw [h]
        rcases hs.1 with h' | ⟨h', h''⟩
        · left; exact h'
        · right; rw [h']; exact ⟨by simp, h''⟩
      · right; exact ⟨by simp [h1], h2⟩
    · intro p hp hi
      rw [List.mem_cons] at hp
      rcases hp with rfl | hp
      · exact tr (hs.2.2 hi) i2
      · exact i3 p hp hi
/-- the points of a part of a segment -/
theorem sub_iff {s : S4} (hs : okSeg s = true) {a b p : P2} (va : valid a) (vb : valid b) (ha : onS a s) (hb : onS b s) (hab : ky 1 a < ky 1 b) : onS p (a.1, a.2, b.1, b.2) ↔ (onS p s ∧ ky 1 a ≤ ky 1 p ∧ ky 1 p ≤ ky 1 b) := by
  have e1 : eA (a.1, a.2, b.1, b.2) = a := rfl
  have e2 : eB (a.1, a.2, b.1, b.2) = b := rfl
  obtain ⟨v1, v2, hne⟩ := okSeg_iff.1 hs
  have k := ky_ne v1 v2 hne
  constructor
  · rintro ⟨h1, h2⟩
    rw [e1, e2] at h1 h2
    have id : (ky 1 b - ky 1 a) * c3 (eA s) (eB s) p = (ky 1 b - ky 1 p) * c3 (eA s) (eB s) a + (ky 1 p - ky 1 a) * c3 (eA s) (eB s) b + (ky 1 (eB s) - ky 1 (eA s)) * c3 a b p := by
      simp only [ky, c3]; grind
    rw [ha.1, hb.1, h1] at id
    simp only [Int.mul_zero, Int.add_zero] at id
    have ha2 := ha.2
    have hb2 := hb.2
    exact ⟨⟨(Int.mul_eq_zero.1 id).resolve_left (by omega), by omega⟩, by omega, by omega⟩
  · rintro ⟨h1, h2, h3⟩
    refine ⟨?_, ?_⟩
    · rw [e1, e2]; exact on3 hs ha hb h1
    · rw [e1, e2]; left; exact ⟨h2, h3⟩
/-- the way goes from cut to cut -/
theorem next_cut {E : List P2} {s : S4} (hE : ∀ p, p ∈ E → valid p) (hs : okSeg s = true) {C : List P2} (hl : C.Pairwise lexLt) (hm : ∀ p, p ∈ C ↔ (p ∈ E ∧ onS p s)) {i : Nat} (hi : i + 1 < C.length) :
    nextP E (ptAt C i) (ptAt C (C.length - 1)) E.length = ptAt C (i + 1) := by
  have val : ∀ k, k < C.length → valid (ptAt C k) ∧ onS (ptAt C k) s := fun k hk => by
    have := (hm _).1 (ptAt_mem hk)
    exact ⟨hE _ this.1, this.2⟩
  have mono : ∀ a b, a < b → b < C.length → ky 1 (ptAt C a) < ky 1 (ptAt C b) := fun a b hab hb => (ky_lt (val a (by omega)).1 (val b hb).1).1 (lex_lt hl hb hab)
  have va := val i (by omega)
  have vb := val (C.length - 1) (by omega)
  have hab := mono i (C.length - 1) (by omega) (by omega)
  have hos : okSeg ((ptAt C i).1, (ptAt C i).2, (ptAt C (C.length - 1)).1, (ptAt C (C.length - 1)).2) = true := okSeg_iff.2 ⟨va.1, vb.1, fun e => by
    have e' : ptAt C i = ptAt C (C.length - 1) := e
    rw [e'] at hab; omega⟩
  have ins : ∀ p, p ∈ E → (insR p (ptAt C i) (ptAt C (C.length - 1)) = true ↔ ∃ j, i < j ∧ j < C.length - 1 ∧ p = ptAt C j) := by
    intro p hp
    unfold insR
    have h1 := onR_iff (hE p hp) hos
    rw [sub_iff hs va.1 vb.1 va.2 vb.2 hab] at h1
    simp only at h1
    simp only [Bool.and_eq_true, Bool.not_eq_true', beq_eq_false_iff_ne]
    rw [h1]
    constructor
    · rintro ⟨⟨⟨g1, g2, g3⟩, g4⟩, g5⟩
      obtain ⟨j, hj, e⟩ := mem_ptAt ((hm p).2 ⟨hp, g1⟩)
      refine ⟨j, ?_, ?_, e⟩
      · apply Classical.byContradiction; intro hh
        by_cases e2 : j = i
        · exact g4 (by rw [e, e2])
        · have := mono j i (by omega) (by omega); rw [e] at g2; omega
      · apply Classical.byContradiction; intro hh
        exact g5 (by rw [e]; congr 1; omega)
    · rintro ⟨j, hj1, hj2, rfl⟩
      have m1 := mono i j hj1 (by omega)
      have m2 := mono j (C.length - 1) hj2 (by omega)
      exact ⟨⟨⟨(val j (by omega)).2, by omega, by omega⟩, fun e => by rw [e] at m1; omega⟩, fun e => by rw [e] at m2; omega⟩
  obtain ⟨f1, f2, f3⟩ := next_fold (ptAt C i) (ptAt C (C.length - 1)) E (ptAt C (C.length - 1))
  unfold nextP
  rw [List.take_length]
  generalize hN : E.foldl (nextStep (ptAt C i) (ptAt C (C.length - 1))) (ptAt C (C.length - 1)) = N at *
  have form : ∃ j, i < j ∧ j < C.length ∧ N = ptAt C j := by
    rcases f1 with h | ⟨h1, h2⟩
    · exact ⟨C.length - 1, by omega, by omega, h⟩
    · obtain ⟨j, a, b, c⟩ := (ins N h1).1 h2
      exact ⟨j, a, by omega, c⟩
  obtain ⟨j, hj1, hj2, hj3⟩ := form
  by_cases e : j = i + 1
  · rw [hj3, e]
  · exfalso
    have hlt := lex_lt hl hj2 (show i + 1 < j by omega)
    have hE1 : ptAt C (i + 1) ∈ E := ((hm _).1 (ptAt_mem hi)).1
    have := f3 _ hE1 ((ins _ hE1).2 ⟨i + 1, by omega, by omega, rfl⟩)
    rw [hj3] at this
    exact this hlt

/-! the ascending list that is filled -/
def atTo (l : List S4) (s : S4) : Nat := (l.takeWhile fun x => lessS x s).length
def insS (l : List S4) (s : S4) : List S4 := if atTo l s < l.length ∧ segAt l (atTo l s) = s then l else l.take (atTo l s) ++ [s] ++ l.drop (atTo l s)
theorem lessS_tr {x y z : S4} (h1 : lessS x y = true) (h2 : lessS y z = true) : lessS x z = true := by
  simp only [lessS, decide_eq_true_eq] at *; omega
theorem atTo_le (l : List S4) (s : S4) : atTo l s ≤ l.length := by unfold atTo; exact (List.takeWhile_sublist _).length_le
theorem atTo_take (l : List S4) (s : S4) : l.take (atTo l s) = l.takeWhile fun x => lessS x s := by
  unfold atTo
  induction l with
  | nil => rfl
  | cons x l ih =>
    rw [List.takeWhile_cons]
    split
    · rw [List.length_cons, List.take_succ_cons, ih]
    · rfl
theorem atTo_drop (l : List S4) (s : S4) : l.drop (atTo l s) = l.dropWhile fun x => lessS x s := by
  unfold atTo
  induction l with
  | nil => rfl
  | cons x l ih =>
    rw [List.takeWhile_cons, List.dropWhile_cons]
    split
    · rw [List.length_cons, List.drop_succ_cons, ih]
    · rfl
theorem insS_spec {l : List S4} (h : l.Pairwise fun x y => lessS x y = true) (s : S4) : (insS l s).Pairwise (fun x y => lessS x y = true) ∧ ∀ x, x ∈ insS l s ↔ (x ∈ l ∨ x = s) := by
  unfold insS
  by_cases hc : atTo l s < l.length ∧ segAt l (atTo l s) = s
  · rw [if_pos hc]
    refine ⟨h, fun x => ⟨.inl, ?_⟩⟩
    rintro (hx | hx)
    · exact hx
    · rw [hx, ← hc.2, segAt_get l _ hc.1]; exact List.getElem_mem _
  · rw [if_neg hc]
    have hta : ∀ x, x ∈ l.take (atTo l s) → lessS x s = true := fun x hx => by
      rw [atTo_take] at hx
      exact List.all_eq_true.1 List.all_takeWhile x hx
    have hdr : ∀ x, x ∈ l.drop (atTo l s) → lessS s x = true := fun x hx => by
      by_cases hlt : atTo l s < l.length
      · have hd : l.drop (atTo l s) = l[atTo l s] :: l.drop (atTo l s + 1) := by rw [List.drop_eq_getElem_cons hlt]
        have hh : lessS (l[atTo l s]) s = false := by
          have e := atTo_drop l s
          rw [hd] at e
          have := List.head?_dropWhile_not (fun x => lessS x s) l
          rw [← e] at this
          simp only [List.head?_cons] at this
          simpa using this
        have hne : l[atTo l s] ≠ s := fun e => hc ⟨hlt, by rw [segAt_get l _ hlt, e]⟩
        have hs0 : lessS s (l[atTo l s]) = true := Classical.byContradiction fun h' => hne (lessS_tot (by rw [hh]; simp) h')
        rw [hd, List.mem_cons] at hx
        rcases hx with hx | hx
        · rw [hx]; exact hs0
        · have hp := h.sublist (List.drop_sublist (atTo l s) l)
          rw [hd, List.pairwise_cons] at hp
          exact lessS_tr hs0 (hp.1 x hx)
      · rw [List.drop_eq_nil_of_le (by omega)] at hx; simp at hx
    refine ⟨?_, fun x => ?_⟩
    · rw [List.pairwise_append, List.pairwise_append]
      refine ⟨⟨h.sublist (List.take_sublist _ _), by simp, fun a ha b hb => ?_⟩, h.sublist (List.drop_sublist _ _), fun a ha b hb => ?_⟩
      · simp at hb; rw [hb]; exact hta a ha
      · rw [List.mem_append, List.mem_singleton] at ha
        rcases ha with ha | ha
        · exact lessS_tr (hta a ha) (hdr b hb)
        · rw [ha]; exact hdr b hb
    · have : x ∈ l ↔ x ∈ l.take (atTo l s) ∨ x ∈ l.drop (atTo l s) := by rw [← List.mem_append, List.take_append_drop]
      rw [this, List.mem_append, List.mem_append, List.mem_singleton]
      constructor
      · rintro ((h | h) | h)
        · exact .inl (.inl h)
        · exact .inr h
        · exact .inl (.inr h)
      · rintro ((h | h) | h)
        · exact .inl (.inl h)
        · exact .inr h
        · exact .inl (.inr h)
def insAll (l : List S4) : List S4 := l.foldl insS []
theorem insAll_spec (l : List S4) : (insAll l).Pairwise (fun x y => lessS x y = true) ∧ ∀ x, x ∈ insAll l ↔ x ∈ l := by
  unfold insAll
  have gen : ∀ (m o : List S4), o.Pairwise (fun x y => lessS x y = true) → (m.foldl insS o).Pairwise (fun x y => lessS x y = true) ∧ ∀ x, x ∈ m.foldl insS o ↔ (x ∈ o ∨ x ∈ m) := by
    intro m
    induction m with
    | nil => intro o ho; exact ⟨ho, by simp⟩
    | cons s m ih =>
      intro o ho
      obtain ⟨a1, a2⟩ := insS_spec ho s
      obtain ⟨b1, b2⟩ := ih _ a1
      refine ⟨b1, fun x => ?_⟩
      rw [List.foldl_cons, b2, a2, List.mem_cons]
      constructor
      · rintro ((h | h) | h)
        · exact .inl h
        · exact .inr (.inl h)
        · exact .inr (.inr h)
      · rintro (h | h | h)
        · exact .inl (.inl h)
        · exact .inl (.inr h)
        · exact .inr h
  have := gen l [] List.Pairwise.nil
  refine ⟨this.1, fun x => ?_⟩
  rw [this.2]; simp
theorem sorted_unique : ∀ {a b : List S4}, a.Pairwise (fun x y => lessS x y = true) → b.Pairwise (fun x y => lessS x y = true) → (∀ x, x ∈ a ↔ x ∈ b) → a = b
  | [], [], _, _, _ => rfl
  | [], y :: b, _, _, h => absurd ((h y).2 (by simp)) (by simp)
  | x :: a, [], _, _, h => absurd ((h x).1 (by simp)) (by simp)
  | x :: a, y :: b, h1, h2, h => by
    have asy : ∀ {x y : S4}, lessS x y = true → ¬ lessS y x = true := fun h h' => lessS_irr _ (lessS_tr h h')
    rw [List.pairwise_cons] at h1 h2
    have hxy : x = y := by
      have m1 := (h x).1 (by simp)
      have m2 := (h y).2 (by simp)
      rw [List.mem_cons] at m1 m2
      rcases m1 with e | e
      · exact e
      · rcases m2 with e2 | e2
        · exact e2.symm
        · exact absurd (h1.1 y e2) (asy (h2.1 x e))
    subst hxy
    congr 1
    refine sorted_unique h1.2 h2.2 fun z => ?_
    have := h z
    rw [List.mem_cons, List.mem_cons] at this
    constructor
    · intro hz
      rcases this.1 (.inr hz) with e | e
      · exact absurd (h1.1 z hz) (by rw [e]; exact lessS_irr _)
      · exact e
    · intro hz
      rcases this.2 (.inr hz) with e | e
      · exact absurd (h2.1 z hz) (by rw [e]; exact lessS_irr _)
      · exact e
theorem split_ref {l : List S4} (hok : okSegs l = true) (hf : RowsFree l l.length l.length) : insAll (partsTo l (endsTo l l.length) l.length) = splitL l := by
  obtain ⟨a1, a2⟩ := insAll_spec (partsTo l (endsTo l l.length) l.length)
  refine sorted_unique a1 (split_lt hok hf) fun x => ?_
  rw [a2, split_mem hok hf, parts_mem]
  constructor
  · rintro ⟨k, hk, h⟩; exact ⟨k, hk, (part_iff hok hk).1 h⟩
  · rintro ⟨k, hk, h⟩; exact ⟨k, hk, (part_iff hok hk).2 h⟩

end Go.Proofs.YtpdfbboagaflhaaGreat

set_option linter.unusedSimpArgs false
set_option linter.unusedVariables false
set_option linter.constructorNameAsVariable false
set_option maxRecDepth 100000
namespace Go.Proofs.YtpdfbboagaflhaaGreat
open Go.ChangeShapes Go.WideShapes Go.ChangeAt Go.RowKit Go.Joins Go.Deep

section
variable {H : Type} {enc : TypeId × Value → H} {W : World} {base b0 fuel : Nat} {spare : Nat → Bool} {held : Bool} {v : Value} {d : DataW H} {p : List MemPlace}
theorem sg_trod {cs : List Value} {x : DataW H × List MemPlace} (h : DataW.trod enc Tryz.prog W base spare held fuel 30 cs = some x) :
    ∃ q : S4, cs = [.int .i64 q.1, .int .i64 q.2.1, .int .i64 q.2.2.1, .int .i64 q.2.2.2] := by
  obtain ⟨y0, y1, n, hx, hl, h0, h1⟩ := trod_struct2 Tryz.underlying30 h
  rw [cells_30] at hl
  obtain ⟨c0, c1, c2, c3, rfl⟩ := list_4 hl
  simp only [cells_23, List.drop, List.take] at h0 h1
  obtain ⟨a, b, e0, _, _, _⟩ := pt_trod h0
  obtain ⟨a', b', e1, _, _, _⟩ := pt_trod h1
  simp only [List.cons.injEq, and_true] at e0 e1
  obtain ⟨rfl, rfl⟩ := e0
  obtain ⟨rfl, rfl⟩ := e1
  exact ⟨(a, b, a', b'), rfl⟩
theorem open_segs (hv : Value.okWide Tryz.prog W .any b0 58 v) (h : DataW.Trod enc Tryz.prog W base spare held 58 v d p) :
    ∃ av n cap l, v = .slice av n cap ∧ l.length = n ∧ (0 < n → ∃ b off, av = some ⟨b, off, none⟩ ∧ Segs W b off n l) := by
  obtain ⟨av, n, cap, rfl⟩ := okWide_slice Tryz.underlying58 hv
  obtain ⟨fuel, hf⟩ := h
  rcases open_slice Tryz.underlying58 hf with ⟨hcs, _⟩ | ⟨a, len, cap', m, n', D, Pl, hcs, _, hlc, _, hm, _, hi⟩
  · simp only [Value.cells, List.cons.injEq, Value.slice.injEq, and_true] at hcs
    obtain ⟨rfl, rfl, rfl⟩ := hcs
    exact ⟨none, 0, 0, [], rfl, rfl, fun h => absurd h (by omega)⟩
  · simp only [Value.cells, List.cons.injEq, Value.slice.injEq, and_true] at hcs
    obtain ⟨rfl, rfl, rfl⟩ := hcs
    have hnm : n ≤ m := by rw [hm]; split <;> omega
    have hx : ∀ i, i < n → ∃ q : S4, W.cell? (a.add (i * 4)) = some (.int .i64 q.1) ∧ W.cell? (a.add (i * 4 + 1)) = some (.int .i64 q.2.1) ∧ W.cell? (a.add (i * 4 + 2)) = some (.int .i64 q.2.2.1) ∧ W.cell? (a.add (i * 4 + 3)) = some (.int .i64 q.2.2.2) := fun i hi' => by
      obtain ⟨cs', hc, ht⟩ := hi i (by omega)
      rw [cells_30] at hc
      obtain ⟨q, rfl⟩ := sg_trod ht
      obtain ⟨_, _, hat⟩ := World.cells?_some hc
      have g0 := hat 0 (by omega)
      have g1 := hat 1 (by omega)
      have g2 := hat 2 (by omega)
      have g3 := hat 3 (by omega)
      rw [add_add] at g0 g1 g2 g3
      exact ⟨q, by simpa using g0, by simpa using g1, by simpa using g2, by simpa using g3⟩
    obtain ⟨q, hq⟩ := choose_lt hx
    refine ⟨some a, n, cap, (List.range n).map q, rfl, by simp, fun h0 => ?_⟩
    obtain ⟨b, off, spot⟩ := a
    have hspot : spot = none := by simpa [Addr.add] using World.cell?_spot (hq 0 h0).1
    subst hspot
    have hcell : ∀ i, i < n → W.cell? ⟨b, off + i * 4, none⟩ = some (.int .i64 (q i).1) ∧ W.cell? ⟨b, off + i * 4 + 1, none⟩ = some (.int .i64 (q i).2.1) ∧ W.cell? ⟨b, off + i * 4 + 2, none⟩ = some (.int .i64 (q i).2.2.1) ∧ W.cell? ⟨b, off + i * 4 + 3, none⟩ = some (.int .i64 (q i).2.2.2) := fun i hi' => by
      obtain ⟨k0, k1, k2, k3⟩ := hq i hi'
      rw [add_plain] at k0 k1 k2 k3
      exact ⟨k0, k1, k2, k3⟩
    refine ⟨b, off, rfl, by simp, cell_lt (hcell 0 h0).1, fun i hi' => ?_⟩
    have e1 : q1 ((List.range n).map q) i = (q i).1 := by simp [q1, List.getD_eq_getElem?_getD, hi']
    have e2 : q2 ((List.range n).map q) i = (q i).2.1 := by simp [q2, List.getD_eq_getElem?_getD, hi']
    have e3 : q3 ((List.range n).map q) i = (q i).2.2.1 := by simp [q3, List.getD_eq_getElem?_getD, hi']
    have e4 : q4 ((List.range n).map q) i = (q i).2.2.2 := by simp [q4, List.getD_eq_getElem?_getD, hi']
    rw [e1, e2, e3, e4]
    exact hcell i hi'
end
end Go.Proofs.YtpdfbboagaflhaaGreat

set_option linter.unusedSimpArgs false
set_option linter.unusedVariables false
set_option maxRecDepth 100000
namespace Go.Proofs.YtpdfbboagaflhaaGreat
open Go.RowKit

set_option maxHeartbeats 4000000 in
theorem ref_checkSegs (b off n c : Nat) (l : List S4) (w : World) (hl : n ≤ 1000000000) (hw : Segs w b off n l) :
    Calls Tryz.prog 136 #[.slice (some ⟨b, off, none⟩) n c] w fun en w' => en = .returned (.int .i64 (ckSegs l)) ∧ New w w' := by
  obtain ⟨hn, hb, hcell⟩ := hw
  have HN := Lib.hid hn
  clear hn
  by_cases hm : 400 < (n : Int)
  · rw [show ckSegs l = 2 from if_pos (by rw [HN.out]; exact hm)]
    go_enter Tryz.func136, Tryz.ntmps136
    go_wp2_with fail
    all_goals (go_ret; refine ⟨rfl, ?_⟩; (repeat (first | exact New.refl _ | apply New.alloc | apply New.aft | apply New.drew | refine New.setCell ?_ ?_ _)); all_goals (first | done | (simp [size_aft]; done) | (simp [size_aft]; omega)))
  · go_enter Tryz.func136, Tryz.ntmps136
    go_wp2_with fail
    go_loopw [3] (fun i wr => ∃ k : Nat, k ≤ n ∧ i = .int .i64 k ∧ okSegs (l.take k) = true ∧ New w wr) (fun i _ => n - (intOf i).toNat)
    case atStart => exact ⟨0, Nat.zero_le _, rfl, by simp [okSegs], New.refl w⟩
    case round =>
      obtain ⟨k, hk, rfl, hok, pr, rfl⟩ := hrel
      have HOK := Lib.hid hok
      clear hok
      by_cases hlt : k < n
      · obtain ⟨c1, c2, c3, c4⟩ := hcell k hlt
        have HV := Lib.hid (ref_validSeg (q1 l k) (q2 l k) (q3 l k) (q4 l k))
        by_cases hv : okS (q1 l k) (q2 l k) (q3 l k) (q4 l k) = true
        · rw [hv] at HV
          have HVV := Lib.hid hv
          clear hv
          go_wp2_with (go_at_call 90; refine (HV.out _).mono ?_; rintro e w1 ⟨rfl, pw, rfl⟩)
          go_roundw
          case rel => exact ⟨k + 1, by omega, by go_num, by rw [okSegs_snoc l k (by rw [HN.out]; exact hlt), HOK.out, HVV.out]; rfl, by (repeat (first | exact New.refl _ | apply New.alloc | apply New.aft | apply New.drew | refine New.setCell ?_ ?_ _)); all_goals (first | done | (simp [size_aft]; done) | (simp [size_aft]; omega))⟩
          case measure => simp [intOf]; omega
        · have hv' : okS (q1 l k) (q2 l k) (q3 l k) (q4 l k) = false := by simpa using hv
          rw [hv'] at HV
          have HF := Lib.hid (okSegs_not l k (by rw [HN.out]; exact hlt) hv')
          clear hv hv'
          go_wp2_with (go_at_call 90; refine (HV.out _).mono ?_; rintro e w1 ⟨rfl, pw, rfl⟩)
          go_ret
          refine ⟨ret_int ?_, ?_⟩
          · rw [ckSegs, if_neg (by rw [HN.out]; omega), HF.out]; rfl
          · (repeat (first | exact New.refl _ | apply New.alloc | apply New.aft | apply New.drew | refine New.setCell ?_ ?_ _)); all_goals (first | done | (simp [size_aft]; done) | (simp [size_aft]; omega))
      · go_wp2_with fail
        go_ret
        refine ⟨ret_int ?_, ?_⟩
        · have h1 : okSegs l = true := by
            have := HOK.out
            rwa [List.take_of_length_le (by rw [HN.out]; omega)] at this
          rw [ckSegs, if_neg (by rw [HN.out]; omega), h1]; rfl
        · (repeat (first | exact New.refl _ | apply New.alloc | apply New.aft | apply New.drew | refine New.setCell ?_ ?_ _)); all_goals (first | done | (simp [size_aft]; done) | (simp [size_aft]; omega))

theorem ckSegs_okS {l : List S4} (h : ckSegs l = 0) (i : Nat) (hi : i < l.length) : okS (q1 l i) (q2 l i) (q3 l i) (q4 l i) = true := by
  have h2 : okSegs l = true := by
    unfold ckSegs at h
    split at h
    · cases h
    · split at h
      · assumption
      · cases h
  exact okSegs_at l i hi h2

set_option maxHeartbeats 8000000 in
theorem ref_Crossing (b off n c : Nat) (l : List S4) (w : World) (hl : n ≤ 1000000) (hw : Segs w b off n l) :
    Calls Tryz.prog 65 #[.slice (some ⟨b, off, none⟩) n c] w fun en w' => CrossIs l en ∧ New w w' := by
  have HCK := Lib.hid (ref_checkSegs b off n c l w (by omega) hw)
  have HN := Lib.hid hw.1
  have hb := hw.2.1
  have HSC := Lib.hid hw.2.2
  clear hw
  by_cases he : ckSegs l = 0
  · rw [he] at HCK
    have HE := Lib.hid he
    have HB := Lib.hid (ckSegs_okS he)
    clear he
    go_enter Tryz.func65, Tryz.ntmps65
    go_wp2_with (go_at_call 136; refine (HCK.out).mono ?_; rintro e w2 ⟨rfl, pw, rfl⟩)
    go_loopw [7] (fun i wr => ∃ k : Nat, k ≤ n ∧ i = .int .i64 k ∧ RowsFree l n k ∧ New w wr) (fun i _ => n - (intOf i).toNat)
    case atStart => exact ⟨0, Nat.zero_le _, rfl, fun i hi => absurd hi (Nat.not_lt_zero _), by (repeat (first | exact New.refl _ | apply New.alloc | apply New.aft | apply New.drew | refine New.setCell ?_ ?_ _)); all_goals (first | done | (simp [size_aft]; done) | (simp [size_aft]; omega))⟩
    case round =>
      obtain ⟨k, hk, rfl, hrows, pr, rfl⟩ := hrel
      have HR := Lib.hid hrows
      clear hrows
      by_cases hlt : k < n
      · obtain ⟨c1, c2, c3, c4⟩ := HSC.out k hlt
        have k1 := HB.out k (by rw [HN.out]; exact hlt)
        have hkn : (k : Int) < (n : Int) := by omega
        go_wp2_with fail
        go_loopw [8] (fun j wr => ∃ m : Nat, k + 1 ≤ m ∧ m ≤ n ∧ j = .int .i64 m ∧ RowFree l k m ∧ New w wr) (fun j _ => n - (intOf j).toNat)
        case atStart => exact ⟨k + 1, Nat.le_refl _, by omega, by go_num, rowFree_start _ _, by (repeat (first | exact New.refl _ | apply New.alloc | apply New.aft | apply New.drew | refine New.setCell ?_ ?_ _)); all_goals (first | done | (simp [size_aft]; done) | (simp [size_aft]; omega))⟩
        case round =>
          obtain ⟨m, hm1, hm2, rfl, hrow, po, rfl⟩ := hrel
          have HM := Lib.hid hrow
          clear hrow
          by_cases hmn : m < n
          · obtain ⟨d1, d2, d3, d4⟩ := HSC.out m hmn
            have k2 := HB.out m (by rw [HN.out]; exact hmn)
            have hmn2 : (m : Int) < (n : Int) := by omega
            obtain ⟨⟨a1, a2⟩, ⟨a3, a4⟩, _⟩ := okS_iff.1 k1
            obtain ⟨⟨e1, e2⟩, ⟨e3, e4⟩, _⟩ := okS_iff.1 k2
            have HMT := Lib.hid (fun w3 : World => ref_meet (q1 l k) (q2 l k) (q3 l k) (q4 l k) (q1 l m) (q2 l m) (q3 l m) (q4 l m) w3 a1 a2 a3 a4 e1 e2 e3 e4)
            rw [meet_eq k1 k2] at HMT
            clear a1 a2 a3 a4 e1 e2 e3 e4 k2
            by_cases h3 : meetQ l k m = 3
            · have HC := Lib.hid (show crB l k m = true by simp [crB, h3])
              rw [show meetI (q1 l k) (q2 l k) (q3 l k) (q4 l k) (q1 l m) (q2 l m) (q3 l m) (q4 l m) = 3 from h3] at HMT
              clear h3
              go_wp2_with fail
              first | refine wp_region_at2 (by kernel_rfl) (by kernel_rfl) ?_ | refine wp_region_at (by kernel_rfl) (by kernel_rfl) ?_
              repeat (go_big_quiet_step ((go_at_call 97; exact calls_new (HMT.out _))))
              refine wpQuiet_nil ?_
              rintro _ ⟨q, rfl⟩
              go_wp2_with fail
              refine bodyPost_ret (v := .tuple #[.int .i64 k, .int .i64 m, .bool true, .int .i64 0]) (by simp [results, Tryz.results65, go_sem]) rfl ⟨crossIs_yes HN.out HE.out (by omega) hmn HR.out HM.out HC.out, ?_⟩; (repeat (first | exact New.refl _ | apply New.alloc | apply New.aft | apply New.drew | refine New.setCell ?_ ?_ _)); all_goals (first | done | (simp [size_aft]; done) | (simp [size_aft]; omega))
            · by_cases h4 : meetQ l k m = 4
              · have HC := Lib.hid (show crB l k m = true by simp [crB, h4])
                rw [show meetI (q1 l k) (q2 l k) (q3 l k) (q4 l k) (q1 l m) (q2 l m) (q3 l m) (q4 l m) = 4 from h4] at HMT
                clear h3 h4
                go_wp2_with fail
                first | refine wp_region_at2 (by kernel_rfl) (by kernel_rfl) ?_ | refine wp_region_at (by kernel_rfl) (by kernel_rfl) ?_
                repeat (go_big_quiet_step ((go_at_call 97; exact calls_new (HMT.out _))))
                refine wpQuiet_nil ?_
                rintro _ ⟨q, rfl⟩
                go_wp2_with fail
                refine bodyPost_ret (v := .tuple #[.int .i64 k, .int .i64 m, .bool true, .int .i64 0]) (by simp [results, Tryz.results65, go_sem]) rfl ⟨crossIs_yes HN.out HE.out (by omega) hmn HR.out HM.out HC.out, ?_⟩; (repeat (first | exact New.refl _ | apply New.alloc | apply New.aft | apply New.drew | refine New.setCell ?_ ?_ _)); all_goals (first | done | (simp [size_aft]; done) | (simp [size_aft]; omega))
              · have HC := Lib.hid (show crB l k m = false by simp [crB, h3, h4])
                obtain ⟨M, hM⟩ : ∃ M, M = meetQ l k m := ⟨_, rfl⟩
                rw [show meetI (q1 l k) (q2 l k) (q3 l k) (q4 l k) (q1 l m) (q2 l m) (q3 l m) (q4 l m) = M from hM.symm] at HMT
                have t3 : (M == 3) = false := by rw [hM]; simpa using h3
                have t4 : (M == 4) = false := by rw [hM]; simpa using h4
                clear h3 h4 hM
                go_wp2_with fail
                first | refine wp_region_at2 (by kernel_rfl) (by kernel_rfl) ?_ | refine wp_region_at (by kernel_rfl) (by kernel_rfl) ?_
                repeat (go_big_quiet_step ((go_at_call 97; exact calls_new (HMT.out _))))
                refine wpQuiet_nil ?_
                rintro _ ⟨q, rfl⟩
                go_wp2_with fail
                go_roundw
                case rel => exact ⟨m + 1, by omega, by omega, by go_num, rowFree_succ HM.out HC.out, by (repeat (first | exact New.refl _ | apply New.alloc | apply New.aft | apply New.drew | refine New.setCell ?_ ?_ _)); all_goals (first | done | (simp [size_aft]; done) | (simp [size_aft]; omega))⟩
                case measure => simp [intOf]; omega
          · have HMN := Lib.hid (show m = n by omega)
            go_wp2_with fail
            go_roundw
            case rel => exact ⟨k + 1, by omega, by go_num, rowsFree_succ HR.out (by have := HM.out; rwa [HMN.out] at this), by (repeat (first | exact New.refl _ | apply New.alloc | apply New.aft | apply New.drew | refine New.setCell ?_ ?_ _)); all_goals (first | done | (simp [size_aft]; done) | (simp [size_aft]; omega))⟩
            case measure => simp [intOf]; omega
      · have HKN := Lib.hid (show k = n by omega)
        go_wp2_with fail
        refine bodyPost_ret (v := .tuple #[.int .i64 0, .int .i64 0, .bool false, .int .i64 0]) (by simp [results, Tryz.results65, go_sem]) rfl ⟨crossIs_no HN.out HE.out (by have := HR.out; rwa [HKN.out] at this), ?_⟩; (repeat (first | exact New.refl _ | apply New.alloc | apply New.aft | apply New.drew | refine New.setCell ?_ ?_ _)); all_goals (first | done | (simp [size_aft]; done) | (simp [size_aft]; omega))
  · have he1 : (ckSegs l == 0) = false := by simpa using he
    have he2 : (ckSegs l != 0) = true := by simpa using he
    have HER := Lib.hid (crossIs_err rfl he)
    clear he
    go_enter Tryz.func65, Tryz.ntmps65
    go_wp2_with (go_at_call 136; refine (HCK.out).mono ?_; rintro e w2 ⟨rfl, pw, rfl⟩)
    refine bodyPost_ret (v := .tuple #[.int .i64 0, .int .i64 0, .bool false, .int .i64 (ckSegs l)]) (by simp [results, Tryz.results65, go_sem]) rfl ⟨HER.out, ?_⟩; (repeat (first | exact New.refl _ | apply New.alloc | apply New.aft | apply New.drew | refine New.setCell ?_ ?_ _)); all_goals (first | done | (simp [size_aft]; done) | (simp [size_aft]; omega))

/-- there is one answer alone -/
theorem CrossIs.val {l : List S4} : ∃ i j f e, ∀ en, CrossIs l en → en = .returned (.tuple #[.int .i64 i, .int .i64 j, .bool f, .int .i64 e]) := by
  by_cases he : ckSegs l = 0
  · by_cases hr : RowsFree l l.length l.length
    · refine ⟨0, 0, false, 0, fun en h => ?_⟩
      rcases h with ⟨h1, h2⟩ | ⟨_, _, h2⟩ | ⟨_, i, j, h1, h2, h3, h4, h5, h6⟩
      · exact absurd he h1
      · exact h2
      · have := hr i (by omega) j h1 h2
        rw [this] at h5; cases h5
    · by_cases hx : ∃ i j : Nat, i < j ∧ j < l.length ∧ RowsFree l l.length i ∧ RowFree l i j ∧ crB l i j = true
      · obtain ⟨i, j, h1, h2, h3, h4, h5⟩ := hx
        refine ⟨(i : Int), (j : Int), true, 0, fun en h => ?_⟩
        rcases h with ⟨k1, k2⟩ | ⟨_, k1, k2⟩ | ⟨_, i', j', k1, k2, k3, k4, k5, k6⟩
        · exact absurd he k1
        · exact absurd k1 hr
        · have hi : i' = i := by
            rcases Nat.lt_trichotomy i' i with hh | hh | hh
            · have := h3 i' hh j' k1 k2; rw [this] at k5; cases k5
            · exact hh
            · have := k3 i hh j h1 h2; rw [this] at h5; cases h5
          subst hi
          have hj : j' = j := by
            rcases Nat.lt_trichotomy j' j with hh | hh | hh
            · have := h4 j' k1 hh; rw [this] at k5; cases k5
            · exact hh
            · have := k4 j h1 hh; rw [this] at h5; cases h5
          subst hj
          exact k6
      · refine ⟨0, 0, false, 0, fun en h => ?_⟩
        rcases h with ⟨k1, k2⟩ | ⟨_, k1, k2⟩ | ⟨_, i', j', k1, k2, k3, k4, k5, k6⟩
        · exact absurd he k1
        · exact k2
        · exact absurd ⟨i', j', k1, k2, k3, k4, k5⟩ hx
  · refine ⟨0, 0, false, ckSegs l, fun en h => ?_⟩
    rcases h with ⟨k1, k2⟩ | ⟨k0, k1, k2⟩ | ⟨k0, i', j', k1, k2, k3, k4, k5, k6⟩
    · exact k2
    · exact absurd k0 he
    · exact absurd k0 he

set_option maxHeartbeats 1000000 in
theorem crossing_nil (v : Option Addr) (c : Nat) (w : World) : Calls Tryz.prog 64 #[.slice v 0 c] w fun en w' => en = .returned (.tuple #[.int .i64 0, .int .i64 0, .bool false, .int .i64 0]) ∧ New w w' := by
  have HC := Lib.hid (show ∀ w1 : World, Calls Tryz.prog 135 #[.slice v 0 c] w1 fun en w' => en = .returned (.int .i64 0) ∧ New w1 w' from fun w1 => by
    go_enter Tryz.func135, Tryz.ntmps135
    go_wp2_with fail
    refine wp_loop_rounds 1 ?_
    repeat any_goals (rw [rounds_succ]; go_wp2)
    go_ret; exact ⟨rfl, New.refl _⟩)
  go_enter Tryz.func64, Tryz.ntmps64
  go_wp2_with (go_at_call 135; refine (HC.out _).mono ?_; rintro e w1 ⟨rfl, pw, rfl⟩)
  refine wp_loop_rounds 1 ?_
  repeat any_goals (rw [rounds_succ]; go_wp2)
  refine bodyPost_ret (v := .tuple #[.int .i64 0, .int .i64 0, .bool false, .int .i64 0]) (by simp [results, Tryz.results64, go_sem]) rfl ⟨rfl, ?_⟩; (repeat (first | exact New.refl _ | apply New.alloc | apply New.aft | apply New.drew | refine New.setCell ?_ ?_ _)); all_goals (first | done | (simp [size_aft]; done) | (simp [size_aft]; omega))
set_option maxHeartbeats 1000000 in
theorem ref_crossing_nil (v : Option Addr) (c : Nat) (w : World) : Calls Tryz.prog 65 #[.slice v 0 c] w fun en w' => en = .returned (.tuple #[.int .i64 0, .int .i64 0, .bool false, .int .i64 0]) ∧ New w w' := by
  have HC := Lib.hid (show ∀ w1 : World, Calls Tryz.prog 136 #[.slice v 0 c] w1 fun en w' => en = .returned (.int .i64 0) ∧ New w1 w' from fun w1 => by
    go_enter Tryz.func136, Tryz.ntmps136
    go_wp2_with fail
    refine wp_loop_rounds 1 ?_
    repeat any_goals (rw [rounds_succ]; go_wp2)
    go_ret; exact ⟨rfl, New.refl _⟩)
  go_enter Tryz.func65, Tryz.ntmps65
  go_wp2_with (go_at_call 136; refine (HC.out _).mono ?_; rintro e w1 ⟨rfl, pw, rfl⟩)
  refine wp_loop_rounds 1 ?_
  repeat any_goals (rw [rounds_succ]; go_wp2)
  refine bodyPost_ret (v := .tuple #[.int .i64 0, .int .i64 0, .bool false, .int .i64 0]) (by simp [results, Tryz.results65, go_sem]) rfl ⟨rfl, ?_⟩; (repeat (first | exact New.refl _ | apply New.alloc | apply New.aft | apply New.drew | refine New.setCell ?_ ?_ _)); all_goals (first | done | (simp [size_aft]; done) | (simp [size_aft]; omega))

set_option maxHeartbeats 4000000 in
theorem crossing_of (v : Option Addr) (n c : Nat) (I J E : Int) (O : Bool) (w : World)
    (HA : Hid (∀ w1 : World, New w w1 → Calls Tryz.prog 64 #[.slice v n c] w1 fun en w' => en = .returned (.tuple #[.int .i64 I, .int .i64 J, .bool O, .int .i64 E]) ∧ New w1 w'))
    (HB : Hid (∀ w1 : World, New w w1 → Calls Tryz.prog 65 #[.slice v n c] w1 fun en w' => en = .returned (.tuple #[.int .i64 I, .int .i64 J, .bool O, .int .i64 E]) ∧ New w1 w')) :
    Calls Tryz.prog 15 #[.slice v n c] w fun e w' => e = .returned (.bool true) ∧ New w w' := by
  have HL := Lib.hid alive_c
  have t1 : (I == I) = true := by simp
  have t2 : (J == J) = true := by simp
  have t3 : (E == E) = true := by simp
  have t4 : (O == O) = true := by simp
  have hcase : (n ≤ 60) ∨ (60 < n ∧ n ≤ 400) ∨ (400 < n ∧ n ≤ 500) ∨ 500 < n := by omega
  rcases hcase with h | ⟨h, h'⟩ | ⟨h, h'⟩ | h
  all_goals
    have d1 : ((60 : Int) < (n : Int)) ↔ (60 < n) := by omega
    go_enter Tryz.func15, Tryz.ntmps15
    go_wp2_with (first | (go_at_call 31; refine (HL.out _).mono ?_; rintro e w1 ⟨rfl, pw, rfl⟩) | (go_at_call 64; refine (HA.out _ (by (repeat (first | exact New.refl _ | apply New.alloc | apply New.aft | apply New.drew | refine New.setCell ?_ ?_ _)); all_goals (first | done | (simp [size_aft]; done) | (simp [size_aft]; omega)))).mono ?_; rintro e w1 ⟨rfl, pw, rfl⟩) | (go_at_call 65; refine (HB.out _ (by (repeat (first | exact New.refl _ | apply New.alloc | apply New.aft | apply New.drew | refine New.setCell ?_ ?_ _)); all_goals (first | done | (simp [size_aft]; done) | (simp [size_aft]; omega)))).mono ?_; rintro e w1 ⟨rfl, pw, rfl⟩))
    all_goals (try (exfalso; omega))
    all_goals (go_ret; refine ⟨ret_bool (by simp), ?_⟩; (repeat (first | exact New.refl _ | apply New.alloc | apply New.aft | apply New.drew | refine New.setCell ?_ ?_ _)); all_goals (first | done | (simp [size_aft]; done) | (simp [size_aft]; omega)))

theorem planeCrossing_all (w : World) (av : Option Addr) (n c : Nat) (l : List S4) (hl : l.length = n) (hp : 0 < n → ∃ b off, av = some ⟨b, off, none⟩ ∧ Segs w b off n l) : Calls Tryz.prog 15 #[.slice av n c] w fun e w' => e = .returned (.bool true) ∧ New w w' := by
  by_cases h0 : 0 < n
  · obtain ⟨b, off, rfl, hw⟩ := hp h0
    by_cases hm : n ≤ 1000000
    · obtain ⟨i, j, f, e, hv⟩ := CrossIs.val (l := l)
      exact crossing_of _ n c i j e f w (Lib.hid (fun w1 h1 => (Crossing_c b off n c l w1 hm (hw.new h1)).mono fun en w' ⟨h2, h3⟩ => ⟨hv en h2, h3⟩)) (Lib.hid (fun w1 h1 => (ref_Crossing b off n c l w1 hm (hw.new h1)).mono fun en w' ⟨h2, h3⟩ => ⟨hv en h2, h3⟩))
    · have HL := Lib.hid alive_c
      have hn2 : (500 : Int) < (n : Int) := by omega
      have hn3 : (60 : Int) < (n : Int) := by omega
      have hn4 : ¬ (n : Int) ≤ 400 := by omega
      go_enter Tryz.func15, Tryz.ntmps15
      go_wp2_with (go_at_call 31; refine (HL.out _).mono ?_; rintro e w1 ⟨rfl, pw, rfl⟩)
      all_goals (go_ret; refine ⟨ret_bool (by simp), ?_⟩; (repeat (first | exact New.refl _ | apply New.alloc | apply New.aft | apply New.drew | refine New.setCell ?_ ?_ _)); all_goals (first | done | (simp [size_aft]; done) | (simp [size_aft]; omega)))
  · obtain rfl : n = 0 := by omega
    exact crossing_of av 0 c 0 0 0 false w (Lib.hid (fun w1 _ => crossing_nil av c w1)) (Lib.hid (fun w1 _ => ref_crossing_nil av c w1))

end Go.Proofs.YtpdfbboagaflhaaGreat

set_option linter.unusedSimpArgs false
set_option linter.unusedVariables false
set_option maxRecDepth 100000
namespace Go.Proofs.YtpdfbboagaflhaaGreat
open Go.RowKit

/-- a result that is a list of segments -/
def SegsR (w : World) (v : Value) (R : List S4) : Prop := ∃ av cap, v = .slice av R.length cap ∧ R.length ≤ cap ∧ (0 < R.length → ∃ g, av = some ⟨g, 0, none⟩ ∧ Segs w g 0 R.length R)
theorem SegsR.new {w w' : World} {v : Value} {R : List S4} (h : SegsR w v R) (hn : New w w') : SegsR w' v R := by
  obtain ⟨av, cap, h1, hc, h2⟩ := h
  exact ⟨av, cap, h1, hc, fun h0 => by obtain ⟨g, h3, h4⟩ := h2 h0; exact ⟨g, h3, h4.new hn⟩⟩
/-- every list of segments -/
def SegsA (w : World) (av : Option Addr) (n : Nat) (l : List S4) : Prop := l.length = n ∧ (0 < n → ∃ b off, av = some ⟨b, off, none⟩ ∧ Segs w b off n l)
theorem SegsA.new {w w' : World} {av : Option Addr} {n : Nat} {l : List S4} (h : SegsA w av n l) (hn : New w w') : SegsA w' av n l :=
  ⟨h.1, fun h0 => by obtain ⟨b, off, h1, h2⟩ := h.2 h0; exact ⟨b, off, h1, h2.new hn⟩⟩
set_option maxHeartbeats 2000000 in
theorem insortS_nil (v : Option Addr) (c : Nat) (f : Value) (w : World) : Calls Tryz.prog 203 #[.slice v 0 c, .int .i64 0, .int .i64 0, f] w fun en w' => en = .returned (.tuple #[]) ∧ New w w' := by
  go_enter Tryz.func203, Tryz.ntmps203
  go_wp2_with fail
  go_loopw [8] (fun i wr => i = .int .i64 1 ∧ New w wr) (fun _ _ => 0)
  case atStart => exact ⟨by go_num, New.refl _⟩
  case round =>
    obtain ⟨rfl, hn⟩ := hrel
    have HN := Lib.hid hn
    clear hn
    go_wp2_with fail
    exact bodyPost_end (results_none rfl _ _ _) rfl ⟨rfl, HN.out⟩
set_option maxHeartbeats 2000000 in
theorem pdqS_nil (v : Option Addr) (c : Nat) (k : Int) (f : Value) (w : World) : Calls Tryz.prog 177 #[.slice v 0 c, .int .i64 0, .int .i64 0, .int .i64 k, f] w fun en w' => en = .returned (.tuple #[]) ∧ New w w' := by
  have HI := Lib.hid (insortS_nil v c f)
  go_enter Tryz.func177, Tryz.ntmps177
  go_wp2_with fail
  go_loopw [1, 2] (fun i j wr => (i = .int .i64 0 ∧ j = .int .i64 0) ∧ New w wr) (fun _ _ _ => 0)
  case atStart => exact ⟨⟨rfl, rfl⟩, New.refl _⟩
  case round =>
    obtain ⟨⟨rfl, rfl⟩, hn⟩ := hrel
    have HN := Lib.hid hn
    clear hn
    go_wp2_with (go_at_call 203; refine (HI.out _).mono ?_; rintro e w1 ⟨rfl, hn⟩; have HN1 := Lib.hid (HN.out.trans hn); clear hn)
    exact bodyPost_ret (results_none rfl _ _ _) rfl ⟨rfl, HN1.out⟩
set_option maxHeartbeats 2000000 in
theorem sortS_nil (v : Option Addr) (c : Nat) (w : World) : Calls Tryz.prog 138 #[.slice v 0 c, .func (.func 139) #[] #[]] w fun en w' => en = .returned (.tuple #[]) ∧ New w w' := by
  have HI := Lib.hid (fun k => pdqS_nil v c k (.func (.func 139) #[] #[]))
  have HL := Lib.hid (fun w1 : World => hlenH 0 w1 (by omega))
  go_enter Tryz.func138, Tryz.ntmps138
  go_wp2_with (first | (go_at_call 172; refine (HL.out _).mono ?_; rintro e w1 ⟨⟨k, rfl⟩, rfl⟩) | (go_at_call 177; refine (HI.out _ _).mono ?_; rintro e w1 ⟨rfl, hn⟩; have HN1 := Lib.hid hn; clear hn))
  exact bodyPost_end (results_none rfl _ _ _) rfl ⟨rfl, HN1.out⟩
set_option maxHeartbeats 2000000 in
theorem compactS_nil (v : Option Addr) (c : Nat) (w : World) : Calls Tryz.prog 140 #[.slice v 0 c] w fun en w' => en = .returned (.slice v 0 c) ∧ New w w' := by
  go_enter Tryz.func140, Tryz.ntmps140
  go_wp2_with fail
  go_ret; exact ⟨rfl, New.refl _⟩
set_option maxHeartbeats 1000000 in
theorem crossing_nil1 (v : Option Addr) (c : Nat) (w : World) : Calls Tryz.prog 64 #[.slice v 0 c] w fun en w' => en = .returned (.tuple #[.int .i64 0, .int .i64 0, .bool false, .int .i64 0]) ∧ New w w' := by
  have HC := Lib.hid (show ∀ w1 : World, Calls Tryz.prog 135 #[.slice v 0 c] w1 fun en w' => en = .returned (.int .i64 0) ∧ New w1 w' from fun w1 => by
    go_enter Tryz.func135, Tryz.ntmps135
    go_wp2_with fail
    refine wp_loop_rounds 1 ?_
    repeat any_goals (rw [rounds_succ]; go_wp2)
    go_ret; exact ⟨rfl, New.refl _⟩)
  go_enter Tryz.func64, Tryz.ntmps64
  go_wp2_with (go_at_call 135; refine (HC.out _).mono ?_; rintro e w1 ⟨rfl, pw, rfl⟩)
  refine wp_loop_rounds 1 ?_
  repeat any_goals (rw [rounds_succ]; go_wp2)
  refine bodyPost_ret (v := .tuple #[.int .i64 0, .int .i64 0, .bool false, .int .i64 0]) (by simp [results, Tryz.results64, go_sem]) rfl ⟨rfl, ?_⟩; (repeat (first | exact New.refl _ | apply New.alloc | apply New.aft | apply New.drew | refine New.setCell ?_ ?_ _)); all_goals (first | done | (simp [size_aft]; done) | (simp [size_aft]; omega))
set_option maxHeartbeats 2000000 in
theorem apart_nil (v : Option Addr) (c : Nat) (w : World) : Calls Tryz.prog 137 #[.slice v 0 c] w fun en w' => en = .returned (.int .i64 0) ∧ New w w' := by
  have HC := Lib.hid (crossing_nil1 v c)
  go_enter Tryz.func137, Tryz.ntmps137
  go_wp2_with (go_at_call 64; refine (HC.out _).mono ?_; rintro e w1 ⟨rfl, hn⟩; have HN1 := Lib.hid hn; clear hn)
  go_ret; exact ⟨rfl, HN1.out⟩
set_option maxHeartbeats 4000000 in
theorem split_nil (v : Option Addr) (c : Nat) (w : World) : Calls Tryz.prog 66 #[.slice v 0 c] w fun en w' => en = .returned (.tuple #[.slice none 0 0, .int .i64 0]) ∧ New w w' := by
  obtain ⟨i0, hi, hz0, hz1, hz2⟩ := info_parts info23
  have HA := Lib.hid (fun w1 : World => apart_nil v c w1)
  have HS := Lib.hid (fun w1 : World => sortS_nil none 0 w1)
  have HP := Lib.hid (fun w1 : World => compactS_nil none 0 w1)
  have hmk : ∀ w : World, (Instr.makeSlice 40 (.int .i64 0) (.int .i64 0)).run Tryz.prog w = .ok (.slice (some ⟨w.heap.size, 0, none⟩) 0 0) (w.alloc (.cells (madeCells (.agg #[.int .i64 0, .int .i64 0] : Value).cells (0 * 2)) 23)) := by
    intro w
    have := run_make (P := Tryz.prog) w 40 23 i0 _ Tryz.underlying40 hi hz0 .i64 .i64 0 0 (by omega) (by omega) (by rw [hz2]; omega) (by omega)
    rw [hz1] at this
    simpa using this
  go_enter Tryz.func66, Tryz.ntmps66
  go_wp2_with (go_at_call 137; refine (HA.out _).mono ?_; rintro e w1 ⟨rfl, hn⟩; have HN1 := Lib.hid hn; clear hn)
  go_loopw [22] (fun i wr => i = .int .i64 0 ∧ New w1 wr) (fun _ _ => 0)
  case atStart => exact ⟨rfl, (New.refl _).alloc _⟩
  case round =>
    obtain ⟨rfl, hn⟩ := hrel
    have HN2 := Lib.hid (HN1.out.trans hn)
    clear hn
    obtain ⟨wl, rfl⟩ : ∃ wl : World, wl = wr := ⟨_, rfl⟩
    go_wp2_with fail
    go_loopw [8, 36] (fun v i wr => (v = .slice none 0 0 ∧ i = .int .i64 0) ∧ New wl wr) (fun _ _ _ => 0)
    case atStart => exact ⟨⟨rfl, rfl⟩, New.refl _⟩
    case round =>
      obtain ⟨⟨rfl, rfl⟩, hn⟩ := hrel
      have HN3 := Lib.hid (HN2.out.trans hn)
      clear hn
      go_wp2_with (first | (go_at_call 138; refine (HS.out _).mono ?_; rintro e w3 ⟨rfl, hn⟩; have HN4 := Lib.hid (HN3.out.trans hn); clear hn) | (go_at_call 140; refine (HP.out _).mono ?_; rintro e w4 ⟨rfl, hn⟩; have HN5 := Lib.hid (HN4.out.trans hn); clear hn))
      go_ret2
      exact ⟨rfl, HN5.out⟩
set_option maxHeartbeats 4000000 in
theorem split_err (b off n c : Nat) (l : List S4) (E : Int) (w : World) (hl : n ≤ 1000000) (hw : Segs w b off n l) (hE : E ≠ 0) (hA : ∀ en, ApartIs l en → en = .returned (.int .i64 E)) : Calls Tryz.prog 66 #[.slice (some ⟨b, off, none⟩) n c] w fun en w' => en = .returned (.tuple #[.slice none 0 0, .int .i64 E]) ∧ New w w' := by
  have HCK := Lib.hid ((checkApart_c b off n c l w (by omega) hw).mono fun e w' h => (⟨hA e h.1, h.2⟩ : e = .returned (.int .i64 E) ∧ New w w'))
  have hq1 : (E == 0) = false := by simpa using hE
  have hq2 : (E != 0) = true := by simpa using hE
  clear hw hA hE
  go_enter Tryz.func66, Tryz.ntmps66
  go_wp2_with (first | (go_at_call 137; refine HCK.out.mono ?_; rintro e w1 ⟨rfl, hn1⟩; have HN1 := Lib.hid hn1; clear hn1))
  go_ret2
  exact ⟨rfl, HN1.out⟩
theorem okSegs_ck {l : List S4} (hk : ckSegs l = 0) : okSegs l = true := by
  unfold ckSegs at hk
  split at hk
  · cases hk
  · split at hk
    · assumption
    · cases hk
theorem split_good (b off n c : Nat) (l : List S4) (w : World) (h0 : 0 < n) (hl : n ≤ 400) (hw : Segs w b off n l) (hk : ckSegs l = 0) (hf : RowsFree l l.length l.length) : Calls Tryz.prog 66 #[.slice (some ⟨b, off, none⟩) n c] w fun en w' => ∃ r, en = .returned (.tuple #[r, .int .i64 0]) ∧ SegsR w' r (splitL l) ∧ New w w' := by
  have hok := okSegs_ck hk
  refine (split_yes b off n c l w h0 hl hw (fun i => ?_) (fun en h => ?_) (fun k hk => ?_)).mono ?_
  · by_cases hi : i < l.length
    · have := ckSegs_bd hk i hi; exact ⟨⟨this.1, this.2.1⟩, this.2.2.1, this.2.2.2⟩
    · simp [q1, q2, q3, q4, List.getD_eq_getElem?_getD, List.getElem?_eq_none (Nat.le_of_not_lt hi)]
  · rcases h with ⟨h1, _⟩ | ⟨_, _, h3⟩ | ⟨_, ⟨i, j, h3, h4, h5⟩, _⟩
    · exact absurd hk h1
    · exact h3
    · rw [hf i (by omega) j h3 h4] at h5; cases h5
  · have := pieces_pos hok (show k < l.length by rw [hw.1]; exact hk)
    rw [hw.1] at this; exact this
  · rintro en w' ⟨g, cap, rfl, ho, hn⟩
    exact ⟨_, rfl, ⟨_, cap, rfl, (own_cap ho).1, fun _ => ⟨g, rfl, segs_own ho rfl⟩⟩, hn⟩
theorem split_bad (b off n c : Nat) (l : List S4) (hl : n ≤ 1000000) (h : ¬ (ckSegs l = 0 ∧ RowsFree l l.length l.length)) : ∃ E : Int, E ≠ 0 ∧ ∀ w : World, Segs w b off n l → Calls Tryz.prog 66 #[.slice (some ⟨b, off, none⟩) n c] w fun en w' => en = .returned (.tuple #[.slice none 0 0, .int .i64 E]) ∧ New w w' := by
  by_cases hk : ckSegs l = 0
  · have hf : ¬ RowsFree l l.length l.length := fun hf => h ⟨hk, hf⟩
    refine ⟨10, by decide, fun w hw => split_err b off n c l 10 w hl hw (by decide) (fun en h => ?_)⟩
    rcases h with ⟨h1, _⟩ | ⟨_, h2, _⟩ | ⟨_, _, h3⟩
    · exact absurd hk h1
    · exact absurd h2 hf
    · exact h3
  · refine ⟨ckSegs l, hk, fun w hw => split_err b off n c l (ckSegs l) w hl hw hk (fun en h => ?_)⟩
    rcases h with ⟨_, h2⟩ | ⟨h1, _⟩ | ⟨h1, _⟩
    · exact h2
    · exact absurd h1 hk
    · exact absurd h1 hk

end Go.Proofs.YtpdfbboagaflhaaGreat
