/- The mathematics of OrderEarliest: days that are kept, the order by days, and the best of all orders. Plain lemmas. -/
import Derived.Test.YtiejefehcpfkaaaDoorVz
import Derived.Test.YtiejefehcpfkaaaDoorVx
import Derived.Test.YtiejefehcpfkaaaDoorTa
set_option linter.unusedSimpArgs false
set_option linter.unusedVariables false
set_option maxRecDepth 100000
namespace Go.Proofs.YtiejefehcpfkaaaDoor
open Go.RowKit Go.Shelf

/-- what is an order -/
theorem io_of {o : Prb} {av nv : Value} (hc : chkI o = 0) {l : List Int} (hlen : l.length = (opG o av nv).n) (hin : ∀ k, k < l.length → 0 ≤ nI l k ∧ nI l k < ((opG o av nv).n : Int)) (hne : ∀ j k, j < k → k < l.length → nI l j ≠ nI l k)
    (hb : ∀ k, k < l.length → ∀ q, aR o q (nI l k).toNat = true → ∃ j, j < k ∧ (nI l j).toNat = q) : ioB (opG o av nv) l = true := by
  have h24 := n24z (o := o) av nv hc
  have key : ∀ k, k ≤ l.length → (List.range k).all (okO (opG o av nv) l) = true := fun k => by
    induction k with
    | zero => intro _; rfl
    | succ k ih =>
      intro hk
      have ih := ih (by omega)
      rw [all_snoc, ih, Bool.true_and]
      unfold okO
      rw [decide_eq_true (hin k (by omega)).1, decide_eq_true (hin k (by omega)).2, Bool.true_and]
      have h1 : (laidF l k).testBit (nI l k).toNat = false := by
        rw [← Bool.not_eq_true]
        intro h
        obtain ⟨j, hj, e⟩ := laid_bit h
        have := hin k (by omega); have := hin j (by omega)
        exact hne j k hj (by omega) (by omega)
      rw [h1]
      simp only [Bool.not_false, Bool.true_and]
      rw [wo_zero (opG_ok_be hc _) (laidF_lt h24 ih)]
      intro q hq
      rw [be_bit] at hq
      obtain ⟨j, hj, e⟩ := hb k (by omega) q hq
      rw [← e]; exact laid_has hj
  unfold ioB
  rw [Bool.and_eq_true, decide_eq_true_eq]
  exact ⟨by omega, key _ (Nat.le_refl _)⟩
/-- what days that are kept say -/
structure Kept (o : Prb) (n : Nat) (dry : Int) (D : Nat → Int) : Prop where
  rg : ∀ k, k < n → 0 ≤ D k ∧ D k ≤ 2000
  ne : ∀ j k, j < k → k < n → D j ≠ D k
  ar : ∀ i, i < o.A.length → D (pA o.A i).toNat < D (pB o.A i).toNat
  we : ∀ i, i < o.B.length → dry < max (D (pA o.B i).toNat - D (pB o.B i).toNat) (D (pB o.B i).toNat - D (pA o.B i).toNat)
theorem kp_iff {o : Prb} {n : Nat} {dry : Int} {l : List Int} : kpB o n dry l = true ↔ l.length = n ∧ Kept o n dry (nI l) := by
  unfold kpB
  rw [Bool.and_eq_true, Bool.and_eq_true, Bool.and_eq_true, Bool.not_eq_true', Bool.not_eq_true', List.any_eq_false, List.any_eq_false, decide_eq_true_eq, List.all_eq_true]
  constructor
  · rintro ⟨⟨⟨h0, h1⟩, h2⟩, h3⟩
    have hn : l.length = n := by omega
    have hd : ∀ k, k < n → (0 ≤ nI l k ∧ nI l k ≤ 2000) ∧ ¬ hasR (l.take k) (nI l k) = true := fun k hk => by
      have := h1 k (List.mem_range.2 (by omega))
      unfold dayB at this
      rw [Bool.and_eq_true, Bool.and_eq_true, decide_eq_true_eq, decide_eq_true_eq, Bool.not_eq_true', ← Bool.not_eq_true] at this
      exact this
    refine ⟨hn, fun k hk => (hd k hk).1, fun j k hj hk e => ?_, fun i hi => ?_, fun i hi => ?_⟩
    · exact (hd k hk).2 (hasR_iff.2 ⟨j, by rw [List.length_take]; omega, by rw [nI_take hj]; exact e⟩)
    · have := h2 i (List.mem_range.2 hi)
      unfold earB at this
      simp only [decide_eq_true_eq] at this
      omega
    · have := h3 i (List.mem_range.2 hi)
      unfold weaB at this
      simp only [decide_eq_true_eq] at this
      omega
  · rintro ⟨hn, h⟩
    refine ⟨⟨⟨by omega, fun k hk => ?_⟩, fun i hi => ?_⟩, fun i hi => ?_⟩
    · have hk := List.mem_range.1 hk
      have h1 := h.rg k (by omega)
      unfold dayB
      rw [decide_eq_true h1.1, decide_eq_true h1.2, Bool.true_and, Bool.true_and, Bool.not_eq_true', ← Bool.not_eq_true, hasR_iff]
      rintro ⟨j, hj, e⟩
      rw [List.length_take] at hj
      rw [nI_take (by omega)] at e
      exact h.ne j k (by omega) (by omega) e
    · have := h.ar i (List.mem_range.1 hi)
      unfold earB
      simp only [decide_eq_true_eq]; omega
    · have := h.we i (List.mem_range.1 hi)
      unfold weaB
      simp only [decide_eq_true_eq]; omega
theorem Kept.arc {o : Prb} {n : Nat} {dry : Int} {D : Nat → Int} (h : Kept o n dry D) {a b : Nat} (hab : aR o a b = true) : D a < D b := by
  obtain ⟨i, hi, e1, e2⟩ := aR_iff.1 hab
  have := h.ar i hi
  unfold aN at e1
  unfold bN at e2
  rw [e1, e2] at this; exact this
theorem Kept.near {o : Prb} {av nv : Value} {n : Nat} {dry : Int} {D : Nat → Int} (h : Kept o n dry D) {p q : Nat} (hpq : ((opG o av nv).ne p).testBit q = true) : dry < max (D p - D q) (D q - D p) := by
  obtain ⟨i, hi, e⟩ := (ne_iff (L := o.B) (k := o.B.length)).1 (show (neF o.B o.B.length p).testBit q = true from hpq)
  have := h.we i hi
  unfold aN bN at e
  rcases e with ⟨e1, e2⟩ | ⟨e1, e2⟩
  · rw [e1, e2] at this; exact this
  · rw [e1, e2] at this; omega
/-- the days of an order are kept -/
theorem er_kept {o : Prb} {av nv : Value} (hc : chkI o = 0) {dry : Nat} (hd : dry ≤ 30) {l : List Int} (h : ioB (opG o av nv) l = true) : Kept o (opG o av nv).n dry (erF (opG o av nv) dry l l.length) := by
  have h24 := n24z (o := o) av nv hc
  have hf := ioB_facts h
  have hbd := erF_bd hd h l.length (Nat.le_refl _)
  obtain ⟨c1, c2, c3, c4⟩ := chkI_zero hc
  have hon : ((opG o av nv).n : Int) = o.n := by show ((o.n.toNat : Nat) : Int) = o.n; omega
  have hpl : ∀ q, q < (opG o av nv).n → ∃ j, j < l.length ∧ (nI l j).toNat = q := fun q hq => by
    obtain ⟨j, hj, e⟩ := io_onto h hq
    exact ⟨j, hj, by rw [e]; simp⟩
  have hmono : ∀ i j, i < j → j < l.length → erF (opG o av nv) dry l l.length (nI l i).toNat < erF (opG o av nv) dry l l.length (nI l j).toNat := fun i j hi hj => er_mono h hi hj
  have hfar : ∀ i j, j < i → i < l.length → ((opG o av nv).ne (nI l i).toNat).testBit (nI l j).toNat = true → erF (opG o av nv) dry l l.length (nI l j).toNat + dry + 1 ≤ erF (opG o av nv) dry l l.length (nI l i).toNat := fun i j hj hi hb => by
    have hin := hf.2 j (by omega)
    rw [er_keep h hi (Nat.le_refl _)]
    have e1 : erF (opG o av nv) dry l l.length (nI l j).toNat = erF (opG o av nv) dry l i (nI l j).toNat := by rw [er_keep h (show j < l.length by omega) (Nat.le_refl _), er_keep h hj (by omega)]
    rw [e1]
    have hm : (nI l j).toNat ∈ bitsOf ((opG o av nv).ne (nI l i).toNat &&& laidF l i) := bitsOf_mem.2 ⟨by omega, by rw [Nat.testBit_and, hb, laid_has hj]; rfl⟩
    have hne := io_ne h hj hi
    have := fold_far (dry := (dry : Int)) (p := (nI l i).toNat) _ (if i = 0 then erF (opG o av nv) dry l i else updI (erF (opG o av nv) dry l i) (nI l i).toNat (erF (opG o av nv) dry l i (nI l (i - 1)).toNat + 1)) (er_not h hi) _ hm
    simp only [erF]
    refine Int.le_trans ?_ this
    rw [if_neg (show i ≠ 0 by omega)]
    unfold updI; rw [if_neg hne]; exact Int.le_refl _
  refine ⟨fun k hk => ?_, fun j k hj hk => ?_, fun i hi => ?_, fun i hi => ?_⟩
  · have := hbd k; omega
  · obtain ⟨a, ha, ea⟩ := hpl j (by omega)
    obtain ⟨b, hb, eb⟩ := hpl k hk
    rw [← ea, ← eb]
    rcases Nat.lt_trichotomy a b with h' | h' | h'
    · have := hmono a b h' hb; omega
    · subst h'; omega
    · have := hmono b a h' ha; omega
  · have h1 := arB_in c2 i hi
    obtain ⟨b, hb, eb⟩ := hpl (pB o.A i).toNat (by omega)
    obtain ⟨a, ha, ea⟩ := io_before hc h hb (q := (pA o.A i).toNat) (by rw [eb]; exact aR_iff.2 ⟨i, hi, rfl, rfl⟩)
    rw [← eb, ← ea]
    exact hmono a b ha hb
  · have h1 := arB_in c3 i hi
    obtain ⟨a, ha, ea⟩ := hpl (pA o.B i).toNat (by omega)
    obtain ⟨b, hb, eb⟩ := hpl (pB o.B i).toNat (by omega)
    have n1 : ((opG o av nv).ne (pA o.B i).toNat).testBit (pB o.B i).toNat = true := (ne_iff (L := o.B) (k := o.B.length)).2 ⟨i, hi, .inl ⟨rfl, rfl⟩⟩
    have n2 : ((opG o av nv).ne (pB o.B i).toNat).testBit (pA o.B i).toNat = true := (ne_iff (L := o.B) (k := o.B.length)).2 ⟨i, hi, .inr ⟨rfl, rfl⟩⟩
    rw [← ea, ← eb] at n1 n2 ⊢
    rcases Nat.lt_trichotomy a b with h' | h' | h'
    · have := hfar b a h' hb n2; omega
    · exfalso
      subst h'
      omega
    · have := hfar a b h' ha n1; omega
/-- the days of an order are the least of all that are kept in its order -/
theorem er_least {o : Prb} {av nv : Value} {dry : Nat} {l : List Int} (h : ioB (opG o av nv) l = true) (hN : ∀ p i, ((opG o av nv).ne p).testBit i = true → i < (opG o av nv).n) {D : Nat → Int} (hk : Kept o (opG o av nv).n dry D) (hs : ∀ j k, j < k → k < l.length → D (nI l j).toNat < D (nI l k).toNat) :
    ∀ m k, k < m → k < l.length → erF (opG o av nv) dry l l.length (nI l k).toNat ≤ D (nI l k).toNat
  | 0, k, hm, _ => absurd hm (Nat.not_lt_zero _)
  | m + 1, k, hm, hl => by
    have ih := er_least (dry := dry) h hN hk hs m
    have hf := ioB_facts h
    by_cases hn : ∃ q, q ∈ bitsOf ((opG o av nv).ne (nI l k).toNat) ∧ erF (opG o av nv) dry l l.length q + dry + 1 = erF (opG o av nv) dry l l.length (nI l k).toNat
    · obtain ⟨q, hq, e⟩ := hn
      have hb := (bitsOf_mem.1 hq).2
      have hnear := hk.near hb
      have hqn := hN _ _ hb
      obtain ⟨j, hj, ej⟩ := io_onto h hqn
      have eq : (nI l j).toNat = q := by rw [ej]; simp
      have hjk : j < k := by
        rcases Nat.lt_trichotomy j k with h' | h' | h'
        · exact h'
        · exfalso; subst h'; rw [eq] at e; omega
        · exfalso
          have := er_mono (dry := (dry : Int)) h h' hj
          rw [eq] at this; omega
      have h1 := ih j (by omega) hj
      have h2 := hs j k hjk hl
      rw [eq] at h1 h2
      omega
    · rcases Nat.eq_zero_or_pos k with h0 | h0
      · subst h0
        rw [er_first h hl]
        have := hf.2 0 hl
        exact (hk.rg _ (by omega)).1
      · have e := er_day (dry := (dry : Int)) h hl (by omega) (fun q hq e => hn ⟨q, hq, e⟩)
        have h1 := ih (k - 1) (by omega) (by omega)
        have h2 := hs (k - 1) k (by omega) hl
        omega
end Go.Proofs.YtiejefehcpfkaaaDoor
