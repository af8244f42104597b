/- The search for a circle finds the shortest ones: what circleFrom and Circle return is a circle, and no circle has fewer places. Plain lemmas. -/
import Derived.Test.YtiejefehcpfkaaaDoorVb
import Derived.Test.YtiejefehcpfkaaaDoorUe
set_option linter.unusedSimpArgs false
set_option linter.unusedVariables false
set_option maxRecDepth 100000
namespace Go.Proofs.YtiejefehcpfkaaaDoor
open Go.RowKit Go.Shelf

theorem bi_found {least : Nat} {l : List Nat} : ∀ (ps : List Nat) (r : Bool × List (List Nat) × Nat), (r.1 = true ∨ least ∈ ps) → (ps.foldl (biStep least l) r).1 = true
  | [], r, h => by
    rcases h with h | h
    · exact h
    · cases h
  | p :: ps, r, h => by
    rw [List.foldl_cons]
    refine bi_found ps _ ?_
    by_cases hr : r.1 = true
    · left; unfold biStep; rw [if_pos hr]; exact hr
    · by_cases e : p = least
      · left; unfold biStep; rw [if_neg hr, if_pos e]
      · right
        rcases h with h | h
        · exact absurd h hr
        · rcases List.mem_cons.1 h with h | h
          · exact absurd h.symm e
          · exact h
/-- where the place itself is not met, what is new goes to the queue's end -/
theorem bi_none {least : Nat} {l : List Nat} : ∀ (ps : List Nat) (q : List (List Nat)) (seen : Nat), ps.Nodup → least ∉ ps →
    ∃ s', ps.foldl (biStep least l) (false, q, seen) = (false, q ++ (ps.filter fun y => !seen.testBit y).map (fun y => l ++ [y]), s') ∧ ∀ y, s'.testBit y = true ↔ (seen.testBit y = true ∨ y ∈ ps)
  | [], q, seen, _, _ => ⟨seen, by simp, fun y => by simp⟩
  | p :: ps, q, seen, hn, hl => by
    rw [List.nodup_cons] at hn
    simp only [List.mem_cons, not_or] at hl
    rw [List.foldl_cons]
    by_cases hs : seen.testBit p = true
    · have e : biStep least l (false, q, seen) p = (false, q, seen) := by
        unfold biStep
        rw [if_neg (by simp), if_neg (fun h => hl.1 h.symm), if_pos hs]
      rw [e]
      obtain ⟨s', h1, h2⟩ := bi_none ps q seen hn.2 hl.2
      refine ⟨s', by rw [h1, List.filter_cons_of_neg (by simp [hs])], fun y => ?_⟩
      rw [h2, List.mem_cons]
      constructor
      · rintro (h | h)
        · exact .inl h
        · exact .inr (.inr h)
      · rintro (h | rfl | h)
        · exact .inl h
        · exact .inl hs
        · exact .inr h
    · have e : biStep least l (false, q, seen) p = (false, q ++ [l ++ [p]], seen ||| 2 ^ p) := by
        unfold biStep
        rw [if_neg (by simp), if_neg (fun h => hl.1 h.symm), if_neg hs]
      rw [e]
      obtain ⟨s', h1, h2⟩ := bi_none ps (q ++ [l ++ [p]]) (seen ||| 2 ^ p) hn.2 hl.2
      have hf : (ps.filter fun y => !(seen ||| 2 ^ p).testBit y) = ps.filter fun y => !seen.testBit y := by
        refine List.filter_congr fun y hy => ?_
        have : p ≠ y := fun e => hn.1 (e ▸ hy)
        rw [Nat.testBit_or, Nat.testBit_two_pow, decide_eq_false this, Bool.or_false]
      refine ⟨s', by rw [h1, hf, List.filter_cons_of_pos (by simpa using hs)]; simp, fun y => ?_⟩
      rw [h2, List.mem_cons, Nat.testBit_or, Nat.testBit_two_pow, Bool.or_eq_true, decide_eq_true_eq]
      constructor
      · rintro ((h | h) | h)
        · exact .inl h
        · exact .inr (.inl h.symm)
        · exact .inr (.inr h)
      · rintro (h | h | h)
        · exact .inl (.inl h)
        · exact .inl (.inr h.symm)
        · exact .inr h
/-- a way from p: no place twice, none less than p -/
structure WayP (af : Nat → Nat) (p : Nat) (l : List Nat) : Prop where
  pos : 0 < l.length
  fst : l.getD 0 0 = p
  arc : ∀ i, i + 1 < l.length → (af (l.getD i 0)).testBit (l.getD (i + 1) 0) = true
  nd : l.Nodup
  ge : ∀ x ∈ l, p ≤ x
theorem WayP.snoc {af : Nat → Nat} {p y : Nat} {l : List Nat} (h : WayP af p l) (ha : (af (lastN l)).testBit y = true) (hy : y ∉ l) (hp : p ≤ y) : WayP af p (l ++ [y]) := by
  have hp0 := h.pos
  refine ⟨by simp, ?_, fun i hi => ?_, ?_, fun x hx => ?_⟩
  · rw [List.getD_eq_getElem?_getD, List.getElem?_append_left hp0, ← List.getD_eq_getElem?_getD]; exact h.fst
  · simp only [List.length_append, List.length_cons, List.length_nil] at hi
    rw [List.getD_eq_getElem?_getD, List.getD_eq_getElem?_getD, List.getElem?_append_left (by omega), ← List.getD_eq_getElem?_getD]
    by_cases e : i + 1 < l.length
    · rw [List.getElem?_append_left e, ← List.getD_eq_getElem?_getD]; exact h.arc i e
    · rw [show i + 1 = l.length by omega]
      rw [lastN_at (by intro e; rw [e] at hp0; cases hp0), show l.length - 1 = i by omega] at ha
      simpa using ha
  · rw [List.nodup_append]
    refine ⟨h.nd, by simp, fun a hA b hb => ?_⟩
    have : b = y := by simpa using hb
    subst this
    intro e; subst e; exact hy hA
  · rcases List.mem_append.1 hx with hx | hx
    · exact h.ge x hx
    · have : x = y := by simpa using hx
      omega
structure CiS (af : Nat → Nat) (p : Nat) (q : List (List Nat)) (seen : Nat) (D : Nat → Prop) : Prop where
  way : ∀ l ∈ q, WayP af p l ∧ ∀ x ∈ l, seen.testBit x = true
  srt : q.Pairwise fun a b => a.length ≤ b.length
  lim : ∀ a ∈ q, ∀ b ∈ q, b.length ≤ a.length + 1
  low : ∀ x, x ≤ p → seen.testBit x = true
  don : ∀ x, D x → ∀ y, (af x).testBit y = true → y ≠ p ∧ seen.testBit y = true
  all : ∀ x, seen.testBit x = true → x < p ∨ D x ∨ ∃ l ∈ q, lastN l = x
/-- a closed way from p of m steps, over places greater than p -/
structure Tour (af : Nat → Nat) (p m : Nat) (xs : Nat → Nat) : Prop where
  m0 : 0 < m
  st : xs 0 = p
  en : xs m = p
  arc : ∀ i, i < m → (af (xs i)).testBit (xs (i + 1)) = true
  gt : ∀ i, 0 < i → i < m → p < xs i
theorem ci_main {af : Nat → Nat} {p : Nat} (haf : ∀ x, af x < 2 ^ 24) : ∀ (f : Nat) (q : List (List Nat)) (seen : Nat) (D : Nat → Prop), BiOk q seen f → CiS af p q seen D →
    (∀ c, ciN af p f q seen = some c → WayP af p c ∧ (af (lastN c)).testBit p = true) ∧
    (∀ xs m, Tour af p m xs → (∃ j, j < m ∧ ∃ l ∈ q, lastN l = xs j ∧ l.length ≤ j + 1) → ∃ c, ciN af p f q seen = some c ∧ c.length ≤ m)
  | 0, q, seen, D, hb, hs => by
    have hq : q = [] := List.length_eq_zero_iff.1 (by have := hb.ql; omega)
    subst hq
    refine ⟨fun c h => by simp [ciN] at h, ?_⟩
    rintro xs m _ ⟨j, _, l, hl, _⟩
    cases hl
  | f + 1, [], seen, D, hb, hs => by
    refine ⟨fun c h => by simp [ciN] at h, ?_⟩
    rintro xs m _ ⟨j, _, l, hl, _⟩
    cases hl
  | f + 1, l :: q, seen, D, hb, hs => by
    obtain ⟨hw, hwl⟩ := hs.way l (by simp)
    have h24 : ∀ x ∈ bitsOf (af (lastN l)), x < 24 := fun x hx => by
      have := (bitsOf_mem.1 hx).2
      rcases Nat.lt_or_ge x 24 with h' | h'
      · exact h'
      · rw [Nat.testBit_lt_two_pow (Nat.lt_of_lt_of_le (haf _) (Nat.pow_le_pow_right (by omega) h'))] at this; cases this
    have hbit : ∀ y, (af (lastN l)).testBit y = true → y ∈ bitsOf (af (lastN l)) := fun y hy => by
      refine bitsOf_mem.2 ⟨?_, hy⟩
      rcases Nat.lt_or_ge y 24 with h' | h'
      · omega
      · rw [Nat.testBit_lt_two_pow (Nat.lt_of_lt_of_le (haf _) (Nat.pow_le_pow_right (by omega) h'))] at hy; cases hy
    simp only [ciN]
    by_cases hf : (biTo p l q seen (bitsOf (af (lastN l)))).1 = true
    · rw [if_pos hf]
      have hp : p ∈ bitsOf (af (lastN l)) := by
        apply Classical.byContradiction
        intro hno
        obtain ⟨s', e, _⟩ := bi_none (least := p) (l := l) (bitsOf (af (lastN l))) q seen ((bitsOf_asc _).imp (fun h e => by omega)) hno
        unfold biTo at hf
        rw [e] at hf; cases hf
      refine ⟨fun c h => ?_, ?_⟩
      · obtain rfl : l = c := by simpa using h
        exact ⟨hw, (bitsOf_mem.1 hp).2⟩
      · rintro xs m ht ⟨j, hj, l', hl', e, hle⟩
        refine ⟨l, rfl, ?_⟩
        rcases List.mem_cons.1 hl' with rfl | hl'
        · omega
        · have := (List.pairwise_cons.1 hs.srt).1 l' hl'
          omega
    · rw [if_neg hf]
      have hno : p ∉ bitsOf (af (lastN l)) := fun h => hf (bi_found _ _ (.inr h))
      have hbo := (biTo_ok (least := p) hb _ h24).1
      obtain ⟨s', eB, hs'⟩ := bi_none (least := p) (l := l) (bitsOf (af (lastN l))) q seen ((bitsOf_asc _).imp (fun h e => by omega)) hno
      have e' : biTo p l q seen (bitsOf (af (lastN l))) = _ := eB
      rw [e'] at hbo ⊢
      dsimp only at hbo ⊢
      generalize hN : ((bitsOf (af (lastN l))).filter fun y => !seen.testBit y) = N at *
      have hNm : ∀ y, y ∈ N ↔ y ∈ bitsOf (af (lastN l)) ∧ seen.testBit y = false := fun y => by rw [← hN]; simp
      have hmem : ∀ a, a ∈ q ++ N.map (fun y => l ++ [y]) ↔ a ∈ q ∨ ∃ y ∈ N, a = l ++ [y] := fun a => by
        rw [List.mem_append, List.mem_map]
        constructor
        · rintro (h | ⟨y, h, rfl⟩)
          · exact .inl h
          · exact .inr ⟨y, h, rfl⟩
        · rintro (h | ⟨y, h, rfl⟩)
          · exact .inl h
          · exact .inr ⟨y, h, rfl⟩
      have hlast : ∀ y, lastN (l ++ [y]) = y := fun y => by simp [lastN]
      have hq2 := List.pairwise_cons.1 hs.srt
      have hS : CiS af p (q ++ N.map (fun y => l ++ [y])) s' (fun x => D x ∨ x = lastN l) := by
        refine ⟨fun a ha => ?_, ?_, fun a ha b hb => ?_, fun x hx => (hs' x).2 (.inl (hs.low x hx)), fun x hx y hy => ?_, fun x hx => ?_⟩
        · rcases (hmem a).1 ha with ha | ⟨y, hy, rfl⟩
          · obtain ⟨h1, h2⟩ := hs.way a (List.mem_cons_of_mem _ ha)
            exact ⟨h1, fun x hx => (hs' x).2 (.inl (h2 x hx))⟩
          · obtain ⟨h1, h2⟩ := (hNm y).1 hy
            refine ⟨hw.snoc (bitsOf_mem.1 h1).2 (fun hm => by rw [hwl y hm] at h2; cases h2) ?_, fun x hx => ?_⟩
            · rcases Nat.lt_or_ge y p with h' | h'
              · rw [hs.low y (by omega)] at h2; cases h2
              · exact h'
            · rcases List.mem_append.1 hx with hx | hx
              · exact (hs' x).2 (.inl (hwl x hx))
              · have : x = y := by simpa using hx
                subst this
                exact (hs' x).2 (.inr h1)
        · rw [List.pairwise_append]
          refine ⟨hq2.2, ?_, fun a ha b hb => ?_⟩
          · rw [List.pairwise_map]
            refine List.pairwise_of_forall fun a b => ?_
            simp
          · obtain ⟨y, _, rfl⟩ := List.mem_map.1 hb
            have := hs.lim l (by simp) a (List.mem_cons_of_mem _ ha)
            simpa using this
        · rcases (hmem a).1 ha with ha | ⟨y, hy, rfl⟩ <;> rcases (hmem b).1 hb with hb | ⟨z, hz, rfl⟩
          · exact hs.lim a (List.mem_cons_of_mem _ ha) b (List.mem_cons_of_mem _ hb)
          · have := hq2.1 a ha
            simp; omega
          · have := hs.lim l (by simp) b (List.mem_cons_of_mem _ hb)
            simp; omega
          · simp
        · rcases hx with hx | rfl
          · obtain ⟨h1, h2⟩ := hs.don x hx y hy
            exact ⟨h1, (hs' y).2 (.inl h2)⟩
          · exact ⟨fun e => hno (e ▸ hbit y hy), (hs' y).2 (.inr (hbit y hy))⟩
        · rcases (hs' x).1 hx with h | h
          · rcases hs.all x h with h | h | ⟨a, ha, e⟩
            · exact .inl h
            · exact .inr (.inl (.inl h))
            · rcases List.mem_cons.1 ha with rfl | ha
              · exact .inr (.inl (.inr e.symm))
              · exact .inr (.inr ⟨a, (hmem a).2 (.inl ha), e⟩)
          · cases hsx : seen.testBit x
            · exact .inr (.inr ⟨l ++ [x], (hmem _).2 (.inr ⟨x, (hNm x).2 ⟨h, hsx⟩, rfl⟩), hlast x⟩)
            · rcases hs.all x hsx with h | h | ⟨a, ha, e⟩
              · exact .inl h
              · exact .inr (.inl (.inl h))
              · rcases List.mem_cons.1 ha with rfl | ha
                · exact .inr (.inl (.inr e.symm))
                · exact .inr (.inr ⟨a, (hmem a).2 (.inl ha), e⟩)
      have ih := ci_main haf f _ s' _ hbo hS
      refine ⟨ih.1, fun xs m ht hC => ih.2 xs m ht ?_⟩
      obtain ⟨j, hj, l', hl', e1, hle⟩ := hC
      rcases List.mem_cons.1 hl' with rfl | hl'
      · -- from place j on, some place of the tour waits
        have key : ∀ d i, i + d + 1 = m → j < i → s'.testBit (xs i) = true → ∃ i', j < i' ∧ i' < m ∧ ∃ a ∈ q ++ N.map (fun y => l' ++ [y]), lastN a = xs i' := by
          intro d
          induction d with
          | zero =>
            intro i hi hji hsx
            have hgt := ht.gt i (by omega) (by omega)
            rcases hS.all (xs i) hsx with h | h | ⟨a, ha, ea⟩
            · omega
            · have harc := ht.arc i (by omega)
              rw [show i + 1 = m by omega, ht.en] at harc
              exact absurd rfl (hS.don (xs i) h _ harc).1
            · exact ⟨i, hji, by omega, a, ha, ea⟩
          | succ d ihd =>
            intro i hi hji hsx
            have hgt := ht.gt i (by omega) (by omega)
            rcases hS.all (xs i) hsx with h | h | ⟨a, ha, ea⟩
            · omega
            · have harc := ht.arc i (by omega)
              exact ihd (i + 1) (by omega) (by omega) (hS.don (xs i) h _ harc).2
            · exact ⟨i, hji, by omega, a, ha, ea⟩
        have harc := ht.arc j hj
        rw [← e1] at harc
        have hjm : j + 1 < m := by
          apply Classical.byContradiction
          intro hge
          rw [show j + 1 = m by omega, ht.en] at harc
          exact hno (hbit p harc)
        obtain ⟨i', h1, h2, a, ha, ea⟩ := key (m - j - 2) (j + 1) (by omega) (by omega) ((hs' _).2 (.inr (hbit _ harc)))
        refine ⟨i', h2, a, ha, ea, ?_⟩
        rcases (hmem a).1 ha with ha | ⟨y, _, rfl⟩
        · have := hs.lim l' (by simp) a (List.mem_cons_of_mem _ ha); omega
        · simp; omega
      · exact ⟨j, hj, l', (hmem l').2 (.inl hl'), e1, hle⟩
/-- THE SEARCH FINDS a circle whose least place is given, and none that has more places than another one -/
theorem ci_from {af : Nat → Nat} {p : Nat} (haf : ∀ x, af x < 2 ^ 24) (hp : p < 24) (h0 : BiOk [[p]] (fst (p + 1)) 49) :
    (∀ c, ciN af p 49 [[p]] (fst (p + 1)) = some c → WayP af p c ∧ (af (lastN c)).testBit p = true) ∧
    (∀ xs m, Tour af p m xs → ∃ c, ciN af p 49 [[p]] (fst (p + 1)) = some c ∧ c.length ≤ m) := by
  have hS : CiS af p [[p]] (fst (p + 1)) (fun _ => False) := by
    refine ⟨fun l hl => ?_, by simp, fun a ha b hb => ?_, fun x hx => by rw [fst_bit]; simp; omega, fun x h => h.elim, fun x hx => ?_⟩
    · have : l = [p] := by simpa using hl
      subst this
      exact ⟨⟨by simp, rfl, fun i hi => by simp at hi, by simp, fun x hx => by simp at hx; omega⟩, fun x hx => by rw [fst_bit]; simp at hx ⊢; omega⟩
    · have : a = [p] := by simpa using ha
      have : b = [p] := by simpa using hb
      subst a b; omega
    · rw [fst_bit] at hx
      have : x < p + 1 := by simpa using hx
      by_cases e : x = p
      · exact .inr (.inr ⟨[p], by simp, by simp [lastN, e]⟩)
      · exact .inl (by omega)
  have := ci_main haf 49 [[p]] (fst (p + 1)) _ h0 hS
  exact ⟨this.1, fun xs m ht => this.2 xs m ht ⟨0, ht.m0, [p], by simp, by simp [lastN, ht.st], by simp⟩⟩
/-- a way that comes back gives a tour from its least place -/
theorem tour_of {af : Nat → Nat} {m : Nat} {ys : Nat → Nat} (hm : 0 < m) (hp : ∀ i, ys (i + m) = ys i) (ha : ∀ i, (af (ys i)).testBit (ys (i + 1)) = true) : ∃ p m' xs, Tour af p m' xs ∧ m' ≤ m ∧ ∃ i, p = ys i := by
  have hmin : ∃ i0, ∀ i, i < m → ys i0 ≤ ys i := by
    have key : ∀ k, 0 < k → ∃ i0, ∀ i, i < k → ys i0 ≤ ys i := by
      intro k
      induction k with
      | zero => intro h; omega
      | succ k ih =>
        intro _
        by_cases h0 : k = 0
        · subst h0; exact ⟨0, fun i hi => by rw [show i = 0 by omega]; exact Nat.le_refl _⟩
        · obtain ⟨i0, h⟩ := ih (by omega)
          rcases Nat.lt_or_ge (ys k) (ys i0) with h' | h'
          · refine ⟨k, fun i hi => ?_⟩
            rcases Nat.lt_or_ge i k with h2 | h2
            · have := h i h2; omega
            · rw [show i = k by omega]; exact Nat.le_refl _
          · refine ⟨i0, fun i hi => ?_⟩
            rcases Nat.lt_or_ge i k with h2 | h2
            · exact h i h2
            · rw [show i = k by omega]; exact h'
    exact key m hm
  obtain ⟨i0, h0⟩ := hmin
  have hall : ∀ d i, i < m * (d + 1) → ys i0 ≤ ys i := by
    intro d
    induction d with
    | zero => intro i hi; exact h0 i (by simpa using hi)
    | succ d ih =>
      intro i hi
      rcases Nat.lt_or_ge i m with h | h
      · exact h0 i h
      · have : ys i = ys (i - m) := by rw [← hp (i - m)]; congr 1; omega
        rw [this]
        refine ih (i - m) ?_
        rw [Nat.mul_succ] at hi
        omega
  have hge : ∀ i, ys i0 ≤ ys i := fun i => hall i i (by
    have : i + 1 ≤ m * (i + 1) := Nat.le_mul_of_pos_left _ hm
    omega)
  -- the first way back
  have hback : ∃ m', 0 < m' ∧ m' ≤ m ∧ ys (i0 + m') = ys i0 ∧ ∀ j, 0 < j → j < m' → ys (i0 + j) ≠ ys i0 := by
    have key : ∀ k, (∀ j, 0 < j → j < k → ys (i0 + j) ≠ ys i0) ∨ ∃ m', 0 < m' ∧ m' < k ∧ ys (i0 + m') = ys i0 ∧ ∀ j, 0 < j → j < m' → ys (i0 + j) ≠ ys i0 := by
      intro k
      induction k with
      | zero => left; intro j _ h; omega
      | succ k ih =>
        rcases ih with h | ⟨m', h1, h2, h3, h4⟩
        · by_cases hk : 0 < k ∧ ys (i0 + k) = ys i0
          · exact .inr ⟨k, hk.1, by omega, hk.2, h⟩
          · left
            intro j h1 h2
            rcases Nat.lt_or_ge j k with h3 | h3
            · exact h j h1 h3
            · obtain rfl : j = k := by omega
              exact fun e => hk ⟨h1, e⟩
        · exact .inr ⟨m', h1, by omega, h3, h4⟩
    rcases key (m + 1) with h | ⟨m', h1, h2, h3, h4⟩
    · exact absurd (hp i0) (h m hm (by omega))
    · exact ⟨m', h1, by omega, h3, h4⟩
  obtain ⟨m', h1, h2, h3, h4⟩ := hback
  refine ⟨ys i0, m', fun j => ys (i0 + j), ⟨h1, rfl, h3, fun i hi => ha (i0 + i), fun i hi1 hi2 => ?_⟩, h2, i0, rfl⟩
  have := hge (i0 + i)
  have := h4 i hi1 hi2
  omega
theorem bi_init {p : Nat} (hp : p < 24) : BiOk [[p]] (fst (p + 1)) 49 := by
  have hlt : fst (p + 1) < 2 ^ 24 := by
    unfold fst
    have : 2 ^ (p + 1) ≤ 2 ^ 24 := Nat.pow_le_pow_right (by omega) (by omega)
    have : 0 < 2 ^ (p + 1) := Nat.pow_pos (by omega)
    omega
  have := nf24_le hlt
  exact ⟨hlt, fun l hl => by
    have : l = [p] := by simpa using hl
    subst this
    exact ⟨by simp, fun x hx => by simp at hx; omega, by simp; omega⟩, by simp; omega⟩
theorem clI_len {l m : List Int} : (clI l m < 0 → l.length ≤ m.length) ∧ (¬ clI l m < 0 → m.length ≤ l.length) := by
  unfold clI
  rcases Nat.lt_trichotomy l.length m.length with h | h | h
  · rw [cmp_lt (by omega)]
    exact ⟨fun _ => by omega, fun h' => absurd (by unfold orI; rw [if_neg (by decide)]; decide) h'⟩
  · rw [h]; exact ⟨fun _ => Nat.le_refl _, fun _ => Nat.le_refl _⟩
  · rw [cmp_gt (by omega)]
    exact ⟨fun h' => by unfold orI at h'; rw [if_neg (by decide)] at h'; exact absurd h' (by decide), fun _ => by omega⟩
theorem cir_some {G : Gph} : ∀ k c, cirF G k = some c → ∃ p, p < k ∧ ciN G.af p 49 [[p]] (fst (p + 1)) = some c
  | 0, c, h => by cases h
  | k + 1, c, h => by
    simp only [cirF] at h
    unfold betC at h
    split at h
    · obtain ⟨p, h1, h2⟩ := cir_some k c h; exact ⟨p, by omega, h2⟩
    · rename_i l h1 h2
      exact ⟨k, by omega, by rw [h1]; exact h⟩
    · rename_i l f h1 h2
      split at h
      · exact ⟨k, by omega, by rw [h1]; exact h⟩
      · obtain ⟨p, h3, h4⟩ := cir_some k c (by rw [h2]; exact h); exact ⟨p, by omega, h4⟩
theorem cir_best {G : Gph} : ∀ k p c, p < k → ciN G.af p 49 [[p]] (fst (p + 1)) = some c → ∃ c', cirF G k = some c' ∧ c'.length ≤ c.length
  | 0, p, c, h, _ => absurd h (Nat.not_lt_zero _)
  | k + 1, p, c, h, hc => by
    simp only [cirF]
    unfold betC
    by_cases e : p = k
    · subst e
      rw [hc]
      cases hr : cirF G p with
      | none => exact ⟨c, rfl, Nat.le_refl _⟩
      | some f =>
        dsimp only
        split
        · exact ⟨c, rfl, Nat.le_refl _⟩
        · rename_i hn
          have := (clI_len (l := ints c) (m := ints f)).2 hn
          rw [ints_len, ints_len] at this
          exact ⟨f, rfl, this⟩
    · obtain ⟨c', h1, h2⟩ := cir_best k p c (by omega) hc
      rw [h1]
      cases hr : ciN G.af k 49 [[k]] (fst (k + 1)) with
      | none => exact ⟨c', rfl, h2⟩
      | some l =>
        dsimp only
        split
        · rename_i hn
          have := (clI_len (l := ints l) (m := ints c')).1 hn
          rw [ints_len, ints_len] at this
          exact ⟨l, rfl, by omega⟩
        · exact ⟨c', rfl, h2⟩
/-- what Circle returns is a way that comes back -/
theorem circ_way {o : Prb} (av nv : Value) (hc : chkI o = 0) {c : List Nat} (h : circO (opG o av nv) = some c) : ∃ p, WayP (opG o av nv).af p c ∧ aR o (lastN c) p = true := by
  obtain ⟨p, hp, e⟩ := cir_some _ c h
  have h24 : (opG o av nv).n ≤ 24 := by have := (chkI_zero hc).1; show o.n.toNat ≤ 24; omega
  obtain ⟨h1, h2⟩ := (ci_from (opG_af av nv hc) (by omega) (bi_init (by omega))).1 c e
  rw [af_bit] at h2
  exact ⟨p, h1, h2⟩
/-- no way that comes back has fewer places -/
theorem circ_least {o : Prb} (av nv : Value) (hc : chkI o = 0) {m : Nat} {ys : Nat → Nat} (hm : 0 < m) (hp : ∀ i, ys (i + m) = ys i) (ha : ∀ i, aR o (ys i) (ys (i + 1)) = true) : ∃ c, circO (opG o av nv) = some c ∧ c.length ≤ m := by
  have h24 : (opG o av nv).n ≤ 24 := by have := (chkI_zero hc).1; show o.n.toNat ≤ 24; omega
  obtain ⟨p, m', xs, ht, hle, i, e⟩ := tour_of (af := (opG o av nv).af) hm hp (fun i => by rw [af_bit]; exact ha i)
  have hpn : p < (opG o av nv).n := by rw [e]; exact (aR_in av nv hc (ha i)).1
  obtain ⟨c, h1, h2⟩ := (ci_from (opG_af av nv hc) (by omega) (bi_init (by omega))).2 xs m' ht
  obtain ⟨c', h3, h4⟩ := cir_best _ p c hpn h1
  exact ⟨c', h3, by omega⟩
theorem pth_walk {r : Nat → Nat → Bool} {n a b : Nat} (h : Pth r n a b) : ∃ (m : Nat) (xs : Nat → Nat), 0 < m ∧ xs 0 = a ∧ xs m = b ∧ ∀ i, i < m → r (xs i) (xs (i + 1)) = true := by
  induction h with
  | @one a b h => exact ⟨1, fun i => if i = 0 then a else b, by omega, by simp, by simp, fun i hi => by rw [show i = 0 by omega]; simpa using h⟩
  | @step a c b h hc _ ih =>
    obtain ⟨m, xs, h1, h2, h3, h4⟩ := ih
    refine ⟨m + 1, fun i => if i = 0 then a else xs (i - 1), by omega, by simp, by simp [h3], fun i hi => ?_⟩
    by_cases e : i = 0
    · subst e; simp [h2, h]
    · have := h4 (i - 1) (by omega)
      rw [show i - 1 + 1 = i by omega] at this
      simpa [e] using this
/-- where a chain leads from a place to itself, Circle finds a circle -/
theorem circ_of_cir {o : Prb} (av nv : Value) (hc : chkI o = 0) (h : cirB (opG o av nv).re (opG o av nv).n = true) : (circO (opG o av nv)).isSome = true := by
  have : ∃ a, wsh (aR o) (opG o av nv).n a a = true := by
    apply Classical.byContradiction
    intro hno
    have := (cir_no (o := o) (av := av) (nv := nv)).2 fun a _ => by
      cases hw : wsh (aR o) (opG o av nv).n a a
      · rfl
      · exact absurd ⟨a, hw⟩ hno
    rw [this] at h; cases h
  obtain ⟨a, ha⟩ := this
  obtain ⟨m, xs, h1, h2, h3, h4⟩ := pth_walk (wsh_iff.1 ha)
  obtain ⟨c, e, _⟩ := circ_least av nv hc (m := m) (ys := fun i => xs (i % m)) h1 (fun i => by show xs ((i + m) % m) = xs (i % m); rw [Nat.add_mod_right]) (fun i => by
    show aR o (xs (i % m)) (xs ((i + 1) % m)) = true
    have hlt := Nat.mod_lt i h1
    have := h4 (i % m) hlt
    by_cases e : i % m + 1 = m
    · have e2 : (i + 1) % m = 0 := by rw [Nat.add_mod, ← Nat.add_mod_right (i % m + 1 % m) m]; by_cases hm1 : m = 1; subst hm1; exact Nat.mod_one _; rw [Nat.mod_eq_of_lt (show 1 < m by omega), Nat.add_mod_right, e, Nat.mod_self]
      rw [e2, h2]
      rw [e, h3] at this; exact this
    · have e2 : (i + 1) % m = i % m + 1 := by
        rw [Nat.add_mod]
        by_cases hm1 : m = 1
        · subst hm1; omega
        · rw [Nat.mod_eq_of_lt (show 1 < m by omega), Nat.mod_eq_of_lt (by omega)]
      rw [e2]; exact this)
  rw [e]; rfl
theorem way_pth {o : Prb} (av nv : Value) (hc : chkI o = 0) {p : Nat} {c : List Nat} (h : WayP (opG o av nv).af p c) : ∀ k, k + 1 < c.length → Pth (aR o) (opG o av nv).n p (c.getD (k + 1) 0)
  | 0, hk => by
    have := h.arc 0 hk
    rw [h.fst, af_bit] at this
    exact .one this
  | k + 1, hk => by
    have ih := way_pth av nv hc h k (by omega)
    have := h.arc (k + 1) hk
    rw [af_bit] at this
    exact ih.append (aR_in av nv hc this).1 (.one this)
/-- what Circle finds shows a chain from a place to itself -/
theorem cir_of_circ {o : Prb} (av nv : Value) (hc : chkI o = 0) (h : (circO (opG o av nv)).isSome = true) : cirB (opG o av nv).re (opG o av nv).n = true := by
  obtain ⟨c, e⟩ := Option.isSome_iff_exists.1 h
  obtain ⟨p, h1, h2⟩ := circ_way av nv hc e
  cases hb : cirB (opG o av nv).re (opG o av nv).n
  · exfalso
    have hno := cir_no.1 hb p (aR_in av nv hc h2).2.1
    have hpos := h1.pos
    rw [lastN_at (by intro e; rw [e] at hpos; cases hpos)] at h2
    have hp : Pth (aR o) (opG o av nv).n p p := by
      by_cases h1' : c.length = 1
      · rw [show c.length - 1 = 0 by omega, h1.fst] at h2
        exact .one h2
      · have := way_pth av nv hc h1 (c.length - 2) (by omega)
        rw [show c.length - 2 + 1 = c.length - 1 by omega] at this
        exact this.append (aR_in av nv hc h2).1 (.one h2)
    rw [wsh_iff.2 hp] at hno; cases hno
  · rfl
end Go.Proofs.YtiejefehcpfkaaaDoor
