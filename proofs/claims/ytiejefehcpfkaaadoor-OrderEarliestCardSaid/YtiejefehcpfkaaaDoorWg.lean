/- The mathematics of OrderEarliest, second part: the best of all orders, and the patches in the order of their days. Plain lemmas. -/
import Derived.Test.YtiejefehcpfkaaaDoorWf
import Derived.Test.YtiejefehcpfkaaaDoorTn
set_option linter.unusedSimpArgs false
set_option linter.unusedVariables false
set_option maxRecDepth 100000
namespace Go.Proofs.YtiejefehcpfkaaaDoor
open Go.RowKit Go.Shelf

theorem so_spec {G : Gph} {dry : Nat} : ∀ (xs : List (List Nat)) (st : Option (List Nat) × Int), (∀ x ∈ xs, (G.n : Int) - 1 ≤ lastO G dry x) → (soRun G dry st xs).2 ≤ st.2 ∧ (∀ x ∈ xs, (soRun G dry st xs).2 ≤ lastO G dry x) ∧ (soRun G dry st xs = st ∨ ∃ x ∈ xs, soRun G dry st xs = (some x, lastO G dry x))
  | [], st, _ => ⟨Int.le_refl _, ⟨fun x hx => absurd hx (by simp), .inl rfl⟩⟩
  | x :: xs, st, h => by
    have ih := so_spec xs (soStep G dry st x) (fun y hy => h y (List.mem_cons_of_mem _ hy))
    have h1 : (soStep G dry st x).2 ≤ st.2 ∧ (soStep G dry st x).2 ≤ lastO G dry x ∧ (soStep G dry st x = st ∨ soStep G dry st x = (some x, lastO G dry x)) := by
      unfold soStep; split
      · exact ⟨by dsimp only; omega, Int.le_refl _, .inr rfl⟩
      · exact ⟨Int.le_refl _, by omega, .inl rfl⟩
    simp only [soRun]
    split
    · rename_i e
      refine ⟨h1.1, fun y hy => ?_, ?_⟩
      · rw [e]; exact h y hy
      · rcases h1.2.2 with e | e
        · exact .inl e
        · exact .inr ⟨x, by simp, e⟩
    · refine ⟨Int.le_trans ih.1 h1.1, fun y hy => ?_, ?_⟩
      · rcases List.mem_cons.1 hy with rfl | hy
        · exact Int.le_trans ih.1 h1.2.1
        · exact ih.2.1 y hy
      · rcases ih.2.2 with e | ⟨y, hy, e⟩
        · rw [e]
          rcases h1.2.2 with e | e
          · exact .inl e
          · exact .inr ⟨x, by simp, e⟩
        · exact .inr ⟨y, List.mem_cons_of_mem _ hy, e⟩
theorem er_atleast {G : Gph} {dry : Int} {l : List Int} (h : ioB G l = true) : ∀ k, k < l.length → (k : Int) ≤ erF G dry l l.length (nI l k).toNat
  | 0, hk => by rw [er_first h hk]; simp
  | k + 1, hk => by
    have := er_atleast (dry := dry) h k (by omega)
    have := er_step (dry := dry) h hk
    omega
/-- the last day of an order, as both say it -/
theorem lastO_eq {G : Gph} {dry : Nat} {l : List Int} (h : ioB G l = true) : lastI l (erF G dry l G.n) = lastM (erF G dry l G.n) G.n := by
  have hf := (ioB_facts h).1
  rw [← hf]
  unfold lastI
  by_cases h0 : l.length = 0
  · rw [if_pos h0, h0]; rfl
  · rw [if_neg h0]
    have := last_er (dry := dry) h (by omega)
    rw [← hf] at this
    exact this.symm
theorem lastO_ge {G : Gph} {dry : Nat} {x : List Nat} (h : ioB G (ints x) = true) : (G.n : Int) - 1 ≤ lastO G dry x := by
  have hf := (ioB_facts h).1
  unfold lastO lastI
  rw [← hf]
  by_cases h0 : (ints x).length = 0
  · rw [if_pos h0, h0]; simp
  · rw [if_neg h0]
    have := er_atleast (dry := (dry : Int)) h ((ints x).length - 1) (by omega)
    omega
/-- ALL ORDERS ARE AMONG THE ORDERS -/
theorem ord_all {G : Gph} (h24 : G.n ≤ 24) (hbe : ∀ p, G.be p < 4294967296) {x : List Nat} (h : ioB G (ints x) = true) : ∀ m j s, j + m = x.length → s < 4294967296 → (∀ i, s.testBit i = true ↔ (i < G.n ∧ (laidF (ints x) j).testBit i = false)) → x.drop j ∈ ordS G.be m s
  | 0, j, s, hj, _, _ => by
    rw [List.drop_eq_nil_of_le (by omega)]; simp [ordS]
  | m + 1, j, s, hj, hs, hb => by
    have hf := ioB_facts h
    have hjl : j < x.length := by omega
    have hlen := ints_len x
    obtain ⟨p, hp⟩ : ∃ p, x[j] = p := ⟨_, rfl⟩
    have hnp : nI (ints x) j = (p : Int) := by rw [nI_ints, List.getD_eq_getElem?_getD, List.getElem?_eq_getElem hjl, hp]; rfl
    have hpn := hf.2 j (by omega)
    rw [hnp] at hpn
    have hall := ioB_all h (k := j + 1) (by omega)
    rw [all_snoc, Bool.and_eq_true] at hall
    have h2 := hall.2
    unfold okO at h2
    rw [hnp, Int.toNat_natCast] at h2
    simp only [Bool.and_eq_true, Bool.not_eq_true'] at h2
    have hlt := laidF_lt h24 hall.1
    have hz := (wo_zero (hbe _) hlt).1 h2.2
    have hps : p ∈ bitsOf s := bitsOf_mem.2 ⟨by omega, (hb p).2 ⟨by omega, h2.1.2⟩⟩
    have hrd : p ∈ bitsOf (rdN G.be s) := bitsOf_mem.2 ⟨by omega, rdN_bit.2 ⟨hps, by
      apply Nat.eq_of_testBit_eq
      intro i
      rw [Nat.zero_testBit, Nat.testBit_and]
      cases hbi : (G.be p).testBit i
      · rfl
      · cases hsi : s.testBit i
        · rfl
        · have := ((hb i).1 hsi).2
          rw [hz i hbi] at this; cases this⟩⟩
    rw [List.drop_eq_getElem_cons hjl, hp]
    simp only [ordS, List.mem_flatMap, List.mem_map]
    refine ⟨p, hrd, _, ord_all h24 hbe h m (j + 1) (wo s (2 ^ p)) (by omega) (Nat.lt_of_le_of_lt (wo_le _ _) hs) (fun i => ?_), rfl⟩
    rw [wo_bit s _ i hs (pow_lt p (by omega)), Nat.testBit_two_pow, Bool.and_eq_true, hb i]
    simp only [laidF]
    rw [hnp, Int.toNat_natCast, Nat.testBit_or, Nat.testBit_two_pow, Bool.or_eq_false_iff, Bool.not_eq_true']
    constructor
    · rintro ⟨⟨a, b⟩, c⟩; exact ⟨a, b, c⟩
    · rintro ⟨a, b, c⟩; exact ⟨⟨a, b⟩, c⟩
theorem ord_has {o : Prb} {av nv : Value} (hc : chkI o = 0) {x : List Nat} (h : ioB (opG o av nv) (ints x) = true) : x ∈ ordG (opG o av nv) := by
  have h24 := n24z (o := o) av nv hc
  have hf := (ioB_facts h).1
  rw [ints_len] at hf
  have := ord_all h24 (opG_ok_be hc) h (opG o av nv).n 0 (fst (opG o av nv).n) (by omega) (fst_lt _ (by omega)) (fun i => by rw [fst_bit]; simp [laidF])
  rw [List.drop_zero] at this
  exact this
/-- THE BEST OF ALL ORDERS -/
theorem soon_ok {o : Prb} {av nv : Value} (hc : chkI o = 0) (ha : ∃ a ac b bc, av = .slice a o.A.length ac ∧ nv = .slice b o.B.length bc) {dry : Nat} (hd : dry ≤ 30) {y : List Nat} (h : ioB (opG o av nv) (ints y) = true) :
    ∃ x, (soRun (opG o av nv) dry (none, 2001) (ordG (opG o av nv))).1 = some x ∧ ioB (opG o av nv) (ints x) = true ∧ lastM (erF (opG o av nv) dry (ints x) (opG o av nv).n) (opG o av nv).n ≤ lastM (erF (opG o av nv) dry (ints y) (opG o av nv).n) (opG o av nv).n := by
  have h24 := n24z (o := o) av nv hc
  have hio : ∀ x ∈ ordG (opG o av nv), ioB (opG o av nv) (ints x) = true := fun x hx => ordG_io (opG_ok hc ha) (opG_low av nv hc) hx
  obtain ⟨s1, s2, s3⟩ := so_spec (G := opG o av nv) (dry := dry) (ordG (opG o av nv)) (none, 2001) (fun x hx => lastO_ge (hio x hx))
  have hy := s2 y (ord_has hc h)
  have hle : lastO (opG o av nv) dry y ≤ 744 := by
    unfold lastO
    rw [lastO_eq h]
    refine lastM_le _ (by omega) fun q hq => ?_
    have hf := (ioB_facts h).1
    have := (erF_bd hd h (opG o av nv).n (by omega) q).2
    omega
  rcases s3 with e | ⟨x, hx, e⟩
  · exfalso
    rw [e] at hy
    simp only at hy
    omega
  · refine ⟨x, by rw [e], hio x hx, ?_⟩
    rw [e] at hy
    rw [← lastO_eq (hio x hx), ← lastO_eq h]
    exact hy
/-- the patch of the least day that is not in the list, among the first k -/
def pkF (D : Nat → Int) (l : List Int) : Nat → Int
  | 0 => -1
  | k + 1 => if !hasR l (k : Int) && (decide (pkF D l k < 0) || decide (D k < D (pkF D l k).toNat)) then (k : Int) else pkF D l k
theorem pk_spec {D : Nat → Int} {l : List Int} : ∀ k, (pkF D l k = -1 ∧ ∀ p, p < k → hasR l (p : Int) = true) ∨ ∃ a : Nat, pkF D l k = a ∧ a < k ∧ hasR l (a : Int) = false ∧ ∀ p, p < k → hasR l (p : Int) = false → D a ≤ D p
  | 0 => .inl ⟨rfl, fun p hp => absurd hp (Nat.not_lt_zero _)⟩
  | k + 1 => by
    have ih := pk_spec (D := D) (l := l) k
    simp only [pkF]
    cases hk : hasR l (k : Int)
    · rw [Bool.not_false, Bool.true_and]
      rcases ih with ⟨e, h⟩ | ⟨a, e, h1, h2, h3⟩
      · rw [e, decide_eq_true (show (-1 : Int) < 0 by omega), Bool.true_or, if_pos rfl]
        refine .inr ⟨k, rfl, by omega, hk, fun p hp hpf => ?_⟩
        rcases Nat.lt_or_ge p k with h' | h'
        · rw [h p h'] at hpf; cases hpf
        · rw [show p = k by omega]; exact Int.le_refl _
      · rw [e, decide_eq_false (show ¬ ((a : Int) < 0) by omega), Bool.false_or, Int.toNat_natCast]
        by_cases hlt : D k < D a
        · rw [decide_eq_true hlt, if_pos rfl]
          refine .inr ⟨k, rfl, by omega, hk, fun p hp hpf => ?_⟩
          rcases Nat.lt_or_ge p k with h' | h'
          · have := h3 p h' hpf; omega
          · rw [show p = k by omega]; exact Int.le_refl _
        · rw [decide_eq_false hlt, if_neg (by simp)]
          refine .inr ⟨a, rfl, by omega, h2, fun p hp hpf => ?_⟩
          rcases Nat.lt_or_ge p k with h' | h'
          · exact h3 p h' hpf
          · rw [show p = k by omega]; omega
    · rw [Bool.not_true, Bool.false_and, if_neg (by simp)]
      rcases ih with ⟨e, h⟩ | ⟨a, e, h1, h2, h3⟩
      · refine .inl ⟨e, fun p hp => ?_⟩
        rcases Nat.lt_or_ge p k with h' | h'
        · exact h p h'
        · rw [show p = k by omega]; exact hk
      · refine .inr ⟨a, e, by omega, h2, fun p hp hpf => ?_⟩
        rcases Nat.lt_or_ge p k with h' | h'
        · exact h3 p h' hpf
        · rw [show p = k by omega, hk] at hpf; cases hpf
/-- a list of patches in the order of their days, without a gap -/
structure Srt (n : Nat) (D : Nat → Int) (x : List Nat) : Prop where
  lt : ∀ k, k < x.length → 0 ≤ nI (ints x) k ∧ nI (ints x) k < (n : Int)
  so : ∀ j k, j < k → k < x.length → D (nI (ints x) j).toNat < D (nI (ints x) k).toNat
  out : ∀ p, p < n → hasR (ints x) (p : Int) = false → ∀ j, j < x.length → D (nI (ints x) j).toNat < D p
theorem Srt.nil (n : Nat) (D : Nat → Int) : Srt n D [] := ⟨fun k hk => absurd hk (by simp), fun j k _ hk => absurd hk (by simp), fun p _ _ j hj => absurd hj (by simp)⟩
theorem nI_snoc {x : List Nat} {a k : Nat} : nI (ints (x ++ [a])) k = if k < x.length then nI (ints x) k else if k = x.length then (a : Int) else 0 := by
  rw [nI_ints, nI_ints, List.getD_eq_getElem?_getD, List.getD_eq_getElem?_getD]
  by_cases h : k < x.length
  · rw [if_pos h, List.getElem?_append_left h]
  · rw [if_neg h, List.getElem?_append_right (by omega)]
    by_cases e : k = x.length
    · rw [if_pos e, e]; simp
    · rw [if_neg e]
      obtain ⟨m, hm⟩ : ∃ m, k - x.length = m + 1 := ⟨k - x.length - 1, by omega⟩
      rw [hm]; simp
theorem has_snocn {x : List Nat} {a : Nat} {p : Int} : hasR (ints (x ++ [a])) p = (hasR (ints x) p || decide ((a : Int) = p)) := by
  rw [Bool.eq_iff_iff, Bool.or_eq_true, hasR_iff, hasR_iff, decide_eq_true_eq]
  constructor
  · rintro ⟨j, hj, e⟩
    rw [ints_len, List.length_append, List.length_singleton] at hj
    rw [nI_snoc] at e
    by_cases h : j < x.length
    · rw [if_pos h] at e; exact .inl ⟨j, by rw [ints_len]; exact h, e⟩
    · rw [if_neg h, if_pos (by omega)] at e; exact .inr e
  · rintro (⟨j, hj, e⟩ | e)
    · rw [ints_len] at hj
      exact ⟨j, by rw [ints_len, List.length_append, List.length_singleton]; omega, by rw [nI_snoc, if_pos hj]; exact e⟩
    · exact ⟨x.length, by rw [ints_len, List.length_append, List.length_singleton]; omega, by rw [nI_snoc, if_neg (by omega), if_pos rfl]; exact e⟩
theorem srt_step {n : Nat} {D : Nat → Int} {x : List Nat} (hD : ∀ j k, j < k → k < n → D j ≠ D k) (h : Srt n D x) (hl : x.length < n) : ∃ a : Nat, pkF D (ints x) n = a ∧ a < n ∧ Srt n D (x ++ [a]) := by
  rcases pk_spec (D := D) (l := ints x) n with ⟨_, hall⟩ | ⟨a, e, h1, h2, h3⟩
  · exfalso
    -- more patches than places
    have hidx : ∀ p, p < n → ∃ j, j < x.length ∧ nI (ints x) j = (p : Int) := fun p hp => by
      obtain ⟨j, hj, e⟩ := hasR_iff.1 (hall p hp)
      exact ⟨j, by rw [ints_len] at hj; exact hj, e⟩
    obtain ⟨f, hf⟩ : ∃ f : Nat → Nat, ∀ p, p < n → f p < x.length ∧ nI (ints x) (f p) = (p : Int) := by
      refine ⟨fun p => if hp : p < n then (hidx p hp).choose else 0, fun p hp => ?_⟩
      simp only [dif_pos hp]
      exact (hidx p hp).choose_spec
    obtain ⟨p, hp, e⟩ := inj_onto n f (fun j hj => by have := (hf j hj).1; omega) (fun i j hij hj e => by
      have e1 := (hf i (by omega)).2
      have e2 := (hf j hj).2
      rw [e, e2] at e1; omega) (n - 1) (by omega)
    have := (hf p hp).1
    omega
  · refine ⟨a, e, h1, ?_, ?_, ?_⟩
    · intro k hk
      rw [List.length_append, List.length_singleton] at hk
      rw [nI_snoc]
      by_cases hk2 : k < x.length
      · rw [if_pos hk2]; exact h.lt k hk2
      · rw [if_neg hk2, if_pos (by omega)]; omega
    · intro j k hj hk
      rw [List.length_append, List.length_singleton] at hk
      rw [nI_snoc, nI_snoc, if_pos (show j < x.length by omega)]
      by_cases hk2 : k < x.length
      · rw [if_pos hk2]; exact h.so j k hj hk2
      · rw [if_neg hk2, if_pos (by omega), Int.toNat_natCast]
        exact h.out a h1 h2 j (by omega)
    · intro p hp hpf j hj
      rw [has_snocn, Bool.or_eq_false_iff, decide_eq_false_iff_not] at hpf
      rw [List.length_append, List.length_singleton] at hj
      rw [nI_snoc]
      by_cases hj2 : j < x.length
      · rw [if_pos hj2]; exact h.out p hp hpf.1 j hj2
      · rw [if_neg hj2, if_pos (by omega), Int.toNat_natCast]
        have h4 := h3 p hp hpf.1
        have h5 : a ≠ p := fun e => hpf.2 (by rw [e])
        rcases Nat.lt_or_ge a p with h' | h'
        · have := hD a p h' hp; omega
        · have := hD p a (by omega) h1; omega
/-- THE PATCHES IN THE ORDER OF KEPT DAYS ARE AN ORDER -/
theorem srt_io {o : Prb} {av nv : Value} (hc : chkI o = 0) {dry : Int} {D : Nat → Int} (hkp : Kept o (opG o av nv).n dry D) {x : List Nat} (h : Srt (opG o av nv).n D x) (hl : x.length = (opG o av nv).n) : ioB (opG o av nv) (ints x) = true := by
  have hlen := ints_len x
  have hne : ∀ j k, j < k → k < x.length → nI (ints x) j ≠ nI (ints x) k := fun j k hj hk e => by
    have := h.so j k hj hk
    rw [e] at this; omega
  refine io_of hc (by rw [hlen]; exact hl) (fun k hk => h.lt k (by omega)) (fun j k hj hk => hne j k hj (by omega)) (fun k hk q hq => ?_)
  have hq1 := (aR_in av nv hc hq).1
  have hd := hkp.arc hq
  obtain ⟨j, hj, e⟩ := inj_onto x.length (fun j => (nI (ints x) j).toNat) (fun j hj => by have := h.lt j hj; show (nI (ints x) j).toNat < _; omega) (fun i j hij hj e => by
    have h1 := h.lt i (by omega)
    have h2 := h.lt j hj
    exact hne i j hij hj (by omega)) q (by omega)
  refine ⟨j, ?_, e⟩
  have e' : (nI (ints x) j).toNat = q := e
  rcases Nat.lt_trichotomy j k with h' | h' | h'
  · exact h'
  · exfalso; subst h'; rw [e'] at hd; omega
  · exfalso
    have := h.so k j h' hj
    rw [e'] at this; omega
end Go.Proofs.YtiejefehcpfkaaaDoor
