/- What the law PigmentGives wants of recipes, prices and one tint more. -/
import Derived.Test.YtpjekinmcdglbaaEg
import Derived.Test.YtpjekinmcdglbaaEe
set_option linter.unusedSimpArgs false
set_option linter.unusedVariables false
set_option maxRecDepth 100000
namespace Go.Proofs.Ytpjekinmcdglbaa
open Go.RowKit

theorem price_ro (tv : Option Addr) (m tc : Nat) (T : List T5) (x : List (Int × Int)) (v : Value) (w : World) (hm : m ≤ 1000) (hTl : T.length = m) (hT : 0 < m → ∃ b off, tv = some ⟨b, off, none⟩ ∧ Tnts w b off m T) (hx : x.length ≤ 1000) (h : RO w v x) :
    Calls Try.prog 13 #[.slice tv m tc, v] w fun en w' => en = .returned (.tuple #[fv (priA T x m x.length) (priB T x m x.length), .int .i64 (rcpE T x m)]) ∧ New w w' := by
  obtain ⟨sv, cap, rfl, hp⟩ := h
  exact Price_c tv sv m tc x.length cap T x w (by omega) (by omega) hTl hT rfl hp
theorem shade_ro (tv : Option Addr) (m tc : Nat) (T : List T5) (x : List (Int × Int)) (v : Value) (a b c : Int) (w : World) (hm : m ≤ 1000) (hTl : T.length = m) (hT : 0 < m → ∃ b off, tv = some ⟨b, off, none⟩ ∧ Tnts w b off m T) (hx : x.length ≤ 1000) (h : RO w v x)
    (hE : rcpE T x m = 0) (hM : mixV T x m x.length = .agg (arr6 a 1 b 1 c 1)) :
    Calls Try.prog 26 #[.slice tv m tc, v, vv a b c] w fun en w' => en = .returned (.bool true) ∧ New w w' := by
  obtain ⟨sv, cap, rfl, hp⟩ := h
  exact shade_c tv sv m tc x.length cap T x a b c w hm hx hTl hT rfl hp hE hM

/-- what is known of a recipe of the list -/
structure Gv (T : List T5) (m : Nat) (a b c : Int) (x : List (Int × Int)) : Prop where
  len : 1 ≤ x.length ∧ x.length ≤ 4
  rcp : rcpE T x m = 0
  mix : mixV T x m x.length = .agg (arr6 a 1 b 1 c 1)
  pa : priA T x m x.length = pxA T x
  pb : priB T x m x.length = pxB T x
  ba : 0 ≤ pxA T x ∧ pxA T x ≤ 4000000000000000000
  bb : 0 < pxB T x ∧ pxB T x ≤ 4000000000000000000
theorem gv_of {T : List T5} {m : Nat} {a b c : Int} {x : List (Int × Int)} (hTl : T.length = m) (hz : wntE T a b c m = 0) (h : x ∈ rcpL T m a b c) : Gv T m a b c x := by
  obtain ⟨htn, ha, hb, hc⟩ := wntE_zero hTl hz
  have hs := (rcp_small (tn_sh htn) ha hb hc h).1
  obtain ⟨k1, k2, k3, k4⟩ := rcp_mix hTl hz h
  obtain ⟨k5, k6, k7⟩ := px_bd htn hs
  have hp := posR_of htn hs
  exact ⟨hs.1, k1, k2, k3, k4, k5, (low_cross _ _ hp.1 hp.2).2.2, k7⟩
theorem ltB_lessB {a b c d : Int} (ha : 0 ≤ a) (hb : 0 ≤ b) (hc : 0 ≤ c) (hd : 0 ≤ d) : ltB false a b c d = lessB a.toNat b.toNat c.toNat d.toNat := by
  obtain ⟨a, rfl⟩ := Int.eq_ofNat_of_zero_le ha
  obtain ⟨b, rfl⟩ := Int.eq_ofNat_of_zero_le hb
  obtain ⟨c, rfl⟩ := Int.eq_ofNat_of_zero_le hc
  obtain ⟨d, rfl⟩ := Int.eq_ofNat_of_zero_le hd
  unfold ltB lessB
  simp only [Int.toNat_natCast, Bool.false_eq_true, if_false]
  rw [decide_eq_decide]
  rw [← Int.natCast_mul, ← Int.natCast_mul]; omega
theorem isOf_true {T : List T5} {m : Nat} {a b c : Int} (h : isOf T m a b c = true) : wntE T a b c m = 0 ∧ rcpL T m a b c ≠ [] := by
  unfold isOf at h
  simp only [Bool.and_eq_true, decide_eq_true_eq, Bool.not_eq_true'] at h
  exact ⟨h.1, fun e => by rw [e] at h; cases h.2⟩
theorem rOf_nil {T : List T5} {m : Nat} {a b c : Int} (h : isOf T m a b c = false) : rOf T m a b c = [] := by
  unfold isOf at h
  unfold rOf
  by_cases hz : wntE T a b c m = 0
  · rw [if_pos hz]
    rw [decide_eq_true hz] at h
    cases hL : rcpL T m a b c with
    | nil => rfl
    | cons x l => rw [hL] at h; cases h
  · rw [if_neg hz]
theorem isOf_err {T : List T5} {m : Nat} {a b c : Int} (h : wntE T a b c m ≠ 0) : isOf T m a b c = false := by
  unfold isOf; rw [decide_eq_false h]; rfl
/-- the first recipe and the cheapest one -/
theorem gives_first {T : List T5} {m : Nat} {a b c : Int} (hTl : T.length = m) (h : isOf T m a b c = true) :
    (ceOf T m a b c = 0 ∧ Gv T m a b c (rOf T m a b c) ∧ Gv T m a b c (cOf T m a b c)) ∧ cOf T m a b c ∈ rcpL T m a b c ∧ ltB false (pxA T (rOf T m a b c)) (pxB T (rOf T m a b c)) (pxA T (cOf T m a b c)) (pxB T (cOf T m a b c)) = false := by
  obtain ⟨hz, hL⟩ := isOf_true h
  obtain ⟨htn, ha, hb, hc⟩ := wntE_zero hTl hz
  obtain ⟨y, hy, hym, hyp, hmin⟩ := (best_of (n := m) htn ha hb hc).2 hL
  have e1 : cOf T m a b c = y := by unfold cOf; rw [if_pos hz, hy]; rfl
  obtain ⟨x, l, hxl⟩ := List.exists_cons_of_ne_nil hL
  have e2 : rOf T m a b c = x := by unfold rOf; rw [if_pos hz, hxl]; rfl
  have hxm : x ∈ rcpL T m a b c := by rw [hxl]; simp
  have e3 : ceOf T m a b c = 0 := by unfold ceOf; rw [if_pos hz, hxl]; rfl
  rw [e1, e2, e3]
  have gx := gv_of hTl hz hxm
  have gy := gv_of hTl hz hym
  refine ⟨⟨rfl, gx, gy⟩, hym, ?_⟩
  rw [ltB_lessB gx.ba.1 (by have := gx.bb; omega) gy.ba.1 (by have := gy.bb; omega)]
  have := hmin x hxm
  rw [← lt_iff (posR_of htn (rcp_small (tn_sh htn) ha hb hc hxm).1) hyp] at this
  simpa using this
/-- with one tint more there is a recipe, and none that is dearer -/
theorem gives_more {T : List T5} {m : Nat} {a b c : Int} (q : T5) (hTl : T.length = m) (h : isOf T m a b c = true) (hz : wntE (T ++ [q]) a b c (m + 1) = 0) :
    isOf (T ++ [q]) (m + 1) a b c = true ∧ ltB false (pxA T (cOf T m a b c)) (pxB T (cOf T m a b c)) (pxA (T ++ [q]) (cOf (T ++ [q]) (m + 1) a b c)) (pxB (T ++ [q]) (cOf (T ++ [q]) (m + 1) a b c)) = false := by
  obtain ⟨⟨_, _, gy⟩, hym, _⟩ := gives_first hTl h
  subst hTl
  obtain ⟨hz0, _⟩ := isOf_true h
  have hl2 : (T ++ [q]).length = T.length + 1 := by simp
  obtain ⟨htn0, _⟩ := wntE_zero rfl hz0
  obtain ⟨htn, ha, hb, hc⟩ := wntE_zero hl2 hz
  have hsm := (rcp_small (tn_sh htn0) ha hb hc hym).1
  have hym2 := rcpL_more (q := q) hym
  have hi : isOf (T ++ [q]) (T.length + 1) a b c = true := by
    unfold isOf
    rw [decide_eq_true hz]
    cases hL : rcpL (T ++ [q]) (T.length + 1) a b c with
    | nil => rw [hL] at hym2; cases hym2
    | cons x l => rfl
  refine ⟨hi, ?_⟩
  obtain ⟨z, hzb, hzm, hzp, hmin⟩ := (best_of (n := T.length + 1) htn ha hb hc).2 (isOf_true hi).2
  have e1 : cOf (T ++ [q]) (T.length + 1) a b c = z := by unfold cOf; rw [if_pos hz, hzb]; rfl
  rw [e1]
  have gz := gv_of hl2 hz hzm
  have ep := pP_more (q := q) hsm
  have ea : pxA (T ++ [q]) (cOf T T.length a b c) = pxA T (cOf T T.length a b c) := by unfold pxA; unfold pP at ep; rw [ep]
  have eb : pxB (T ++ [q]) (cOf T T.length a b c) = pxB T (cOf T T.length a b c) := by unfold pxB; unfold pP at ep; rw [ep]
  have := hmin _ hym2
  rw [← lt_iff (posR_of htn (rcp_small (tn_sh htn) ha hb hc hym2).1) hzp, ea, eb] at this
  rw [ltB_lessB gy.ba.1 (by have := gy.bb; omega) gz.ba.1 (by have := gz.bb; omega)]
  simpa using this

end Go.Proofs.Ytpjekinmcdglbaa
