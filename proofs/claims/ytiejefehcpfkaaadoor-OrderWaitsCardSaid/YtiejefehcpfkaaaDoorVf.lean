/- The first order is found by taking the least patch that can come next, as the reference does. Plain lemmas. -/
import Derived.Test.YtiejefehcpfkaaaDoorVb
import Derived.Test.YtiejefehcpfkaaaDoorSy
set_option linter.unusedSimpArgs false
set_option linter.unusedVariables false
set_option maxRecDepth 100000
namespace Go.Proofs.YtiejefehcpfkaaaDoor
open Go.RowKit Go.Shelf

/-- always the least that can come next, as far as there is one -/
def gS (be : Nat → Nat) : Nat → Nat → List Nat
  | 0, _ => []
  | k + 1, s => match bitsOf (rdN be s) with
    | [] => []
    | p :: _ => p :: gS be k (wo s (2 ^ p))
theorem gS_mem (be : Nat → Nat) : ∀ k s, (gS be k s).length = k → gS be k s ∈ ordS be k s
  | 0, s, _ => by simp [gS, ordS]
  | k + 1, s, h => by
    simp only [gS] at h ⊢
    cases hb : bitsOf (rdN be s) with
    | nil => rw [hb] at h; simp at h
    | cons p ps =>
      rw [hb] at h
      simp only [List.length_cons] at h
      have ih := gS_mem be k (wo s (2 ^ p)) (by omega)
      simp only [ordS, List.mem_flatMap, List.mem_map]
      exact ⟨p, by rw [hb]; simp, _, ih, rfl⟩
theorem gS_first {o : Prb} (av nv : Value) (hc : chkI o = 0) (hn : cirB (opG o av nv).re (opG o av nv).n = false) : ∀ k s, s < 4294967296 → (bitsOf s).length = k → (∀ i, s.testBit i = true → i < (opG o av nv).n) → ∃ rest, ordS (opG o av nv).be k s = gS (opG o av nv).be k s :: rest
  | 0, _, _, _, _ => ⟨[], rfl⟩
  | k + 1, s, hs, hl, hb => by
    have h0 : s ≠ 0 := fun e => by rw [(bits_none hs).2 e] at hl; cases hl
    obtain ⟨a, ha⟩ := rdN_some av nv hc hn hs h0 hb
    have ham := rdN_sub ha
    have ha2 := bitsOf_mem.1 ham
    have hab : a ∈ bitsOf (rdN (opG o av nv).be s) := bitsOf_mem.2 ⟨ha2.1, ha⟩
    simp only [ordS, gS]
    cases hR : bitsOf (rdN (opG o av nv).be s) with
    | nil => rw [hR] at hab; cases hab
    | cons p ps =>
      have hp : p ∈ bitsOf s := rdN_sub (bitsOf_mem.1 (show p ∈ bitsOf (rdN (opG o av nv).be s) by rw [hR]; simp)).2
      obtain ⟨rest, ih⟩ := gS_first av nv hc hn k (wo s (2 ^ p)) (Nat.lt_of_le_of_lt (wo_le _ _) hs) (by have := wo_bits hs hp; omega) (fun i hi => by
        rw [wo_bit s _ i hs (pow_lt p (bitsOf_mem.1 hp).1), Bool.and_eq_true] at hi
        exact hb i hi.1)
      simp only [List.flatMap_cons, ih, List.map_cons, List.cons_append]
      exact ⟨_, rfl⟩
/-- the greedy order of a problem -/
def gF (o : Prb) (av nv : Value) : List Nat := gS (opG o av nv).be (opG o av nv).n (fst (opG o av nv).n)
theorem fst_ok {o : Prb} (av nv : Value) (hc : chkI o = 0) : fst (opG o av nv).n < 4294967296 ∧ (bitsOf (fst (opG o av nv).n)).length = (opG o av nv).n ∧ ∀ i, (fst (opG o av nv).n).testBit i = true → i < (opG o av nv).n := by
  have h24 : (opG o av nv).n ≤ 24 := by have := (chkI_zero hc).1; show o.n.toNat ≤ 24; omega
  exact ⟨fst_lt _ (by omega), by rw [bits_fst h24]; simp, fun i hi => by rw [fst_bit] at hi; simpa using hi⟩
theorem gF_first {o : Prb} (av nv : Value) (hc : chkI o = 0) (hn : cirB (opG o av nv).re (opG o av nv).n = false) : gF o av nv = firstO (opG o av nv) ∧ (gF o av nv).length = (opG o av nv).n := by
  obtain ⟨h1, h2, h3⟩ := fst_ok av nv hc
  obtain ⟨rest, e⟩ := gS_first av nv hc hn _ _ h1 h2 h3
  have e1 : gF o av nv = firstO (opG o av nv) := by unfold firstO ordG; rw [e]; rfl
  refine ⟨e1, ?_⟩
  rw [e1]
  exact ordS_len _ _ _ _ (first_mem av nv hc hn)
theorem gF_stuck {o : Prb} {av nv : Value} (hc : chkI o = 0) (ha : ∃ a ac b bc, av = .slice a o.A.length ac ∧ nv = .slice b o.B.length bc) (hn : cirB (opG o av nv).re (opG o av nv).n = true) : (gF o av nv).length ≠ (opG o av nv).n := fun h => by
  have := io_no av nv hc (ordG_io (opG_ok hc ha) (opG_low av nv hc) (gS_mem _ _ _ h))
  rw [this] at hn; cases hn
theorem gS_le (be : Nat → Nat) : ∀ k s, (gS be k s).length ≤ k
  | 0, _ => Nat.le_refl _
  | k + 1, s => by
    simp only [gS]
    split
    · simp
    · have := gS_le be k; simp [this]
/-- the search for the least patch that is ready, from the greatest one down -/
def rfA (o : Prb) (l : List Int) (n : Nat) : Nat → Int
  | 0 => -1
  | d + 1 => if rdyR o l ((n - (d + 1) : Nat) : Int) then ((n - (d + 1) : Nat) : Int) else rfA o l n d
theorem rfA_spec {o : Prb} {l : List Int} {n : Nat} : ∀ d, d ≤ n → (rfA o l n d = -1 ∧ ∀ a, n - d ≤ a → a < n → rdyR o l (a : Int) = false) ∨ ∃ a : Nat, rfA o l n d = a ∧ n - d ≤ a ∧ a < n ∧ rdyR o l (a : Int) = true ∧ ∀ b, n - d ≤ b → b < a → rdyR o l (b : Int) = false
  | 0, _ => .inl ⟨rfl, fun a h1 h2 => by omega⟩
  | d + 1, hd => by
    have ih := rfA_spec (o := o) (l := l) (n := n) d (by omega)
    simp only [rfA]
    by_cases h : rdyR o l ((n - (d + 1) : Nat) : Int) = true
    · rw [if_pos h]
      exact .inr ⟨n - (d + 1), rfl, Nat.le_refl _, by omega, h, fun b h1 h2 => by omega⟩
    · rw [if_neg h]
      have hf : rdyR o l ((n - (d + 1) : Nat) : Int) = false := by simpa using h
      rcases ih with ⟨e, ih⟩ | ⟨a, e, h1, h2, h3, h4⟩
      · exact .inl ⟨e, fun a h1 h2 => by
          by_cases e2 : a = n - (d + 1)
          · rw [e2]; exact hf
          · exact ih a (by omega) h2⟩
      · exact .inr ⟨a, e, by omega, h2, h3, fun b h5 h6 => by
          by_cases e2 : b = n - (d + 1)
          · rw [e2]; exact hf
          · exact h4 b (by omega) h6⟩
/-- the patches that are left after a list -/
structure LeftS (o : Prb) (av nv : Value) (x : List Nat) (s : Nat) : Prop where
  lt : s < 4294967296
  bit : ∀ i, s.testBit i = true ↔ i < (opG o av nv).n ∧ i ∉ x
theorem rdy_bit {o : Prb} {av nv : Value} (hc : chkI o = 0) {x : List Nat} {s : Nat} (h : LeftS o av nv x s) {a : Nat} (ha : a < (opG o av nv).n) : rdyR o (ints x) (a : Int) = (rdN (opG o av nv).be s).testBit a := by
  have h24 : (opG o av nv).n ≤ 24 := by have := (chkI_zero hc).1; show o.n.toNat ≤ 24; omega
  have hhas : ∀ y : Nat, hasR (ints x) (y : Int) = true ↔ y ∈ x := fun y => by
    rw [hasR_iff]
    constructor
    · rintro ⟨j, hj, e⟩
      rw [ints_len] at hj
      rw [nI_ints, List.getD_eq_getElem?_getD, List.getElem?_eq_getElem hj] at e
      have : x[j] = y := by simp only [Option.getD_some] at e; omega
      rw [← this]; exact List.getElem_mem hj
    · intro hm
      obtain ⟨j, hj, e⟩ := List.getElem_of_mem hm
      refine ⟨j, by rw [ints_len]; exact hj, ?_⟩
      rw [nI_ints, List.getD_eq_getElem?_getD, List.getElem?_eq_getElem hj]
      simp [e]
  rw [Bool.eq_iff_iff, rdN_bit, bitsOf_mem, h.bit]
  unfold rdyR
  rw [Bool.and_eq_true, Bool.not_eq_true', ← Bool.not_eq_true, hhas, List.all_eq_true]
  obtain ⟨c1, c2, c3, c4⟩ := chkI_zero hc
  constructor
  · rintro ⟨h1, h2⟩
    refine ⟨⟨by omega, ha, h1⟩, ?_⟩
    apply Nat.eq_of_testBit_eq
    intro i
    rw [Nat.zero_testBit, Nat.testBit_and, be_bit]
    cases hr : aR o i a
    · rfl
    · obtain ⟨k, hk, e1, e2⟩ := aR_iff.1 hr
      have h3 := h2 k (List.mem_range.2 hk)
      have h4 := arB_in c2 k hk
      unfold rdOne at h3
      unfold aN at e1
      unfold bN at e2
      rw [show pB o.A k = (a : Int) by omega, show pA o.A k = (i : Int) by omega] at h3
      simp only [decide_true, Bool.true_and, Bool.not_not] at h3
      rw [Bool.true_and, ← Bool.not_eq_true, h.bit]
      exact fun h5 => h5.2 ((hhas i).1 h3)
  · rintro ⟨⟨_, _, h1⟩, h2⟩
    refine ⟨h1, fun k hk => ?_⟩
    have hk := List.mem_range.1 hk
    have h4 := arB_in c2 k hk
    unfold rdOne
    by_cases e : pB o.A k = (a : Int)
    · have hr : aR o (aN o.A k) a = true := aR_iff.2 ⟨k, hk, rfl, by unfold bN; rw [e]; simp⟩
      have h5 := congrArg (fun z => z.testBit (aN o.A k)) h2
      simp only [Nat.testBit_and, be_bit, hr, Nat.zero_testBit, Bool.true_and] at h5
      have h6 : aN o.A k ∈ x := by
        apply Classical.byContradiction
        intro hno
        have : s.testBit (aN o.A k) = true := (h.bit _).2 ⟨(aR_in av nv hc hr).1, hno⟩
        rw [this] at h5; cases h5
      have : hasR (ints x) (pA o.A k) = true := by
        rw [show pA o.A k = ((aN o.A k : Nat) : Int) by unfold aN; omega]
        exact (hhas _).2 h6
      simp [this]
    · simp [e]
theorem bits_head {t p : Nat} {ps : List Nat} (h : bitsOf t = p :: ps) : p < 32 ∧ t.testBit p = true ∧ ∀ i, i < p → t.testBit i = false := by
  have hm := bitsOf_mem.1 (show p ∈ bitsOf t by rw [h]; simp)
  refine ⟨hm.1, hm.2, fun i hi => ?_⟩
  cases hb : t.testBit i
  · rfl
  · have hi2 : i ∈ bitsOf t := bitsOf_mem.2 ⟨by omega, hb⟩
    have ha := bitsOf_asc t
    rw [h] at hi2 ha
    rcases List.mem_cons.1 hi2 with e | e
    · omega
    · have := (List.pairwise_cons.1 ha).1 i e; omega
/-- what the reference takes next -/
theorem rfA_next {o : Prb} {av nv : Value} (hc : chkI o = 0) {x : List Nat} {s : Nat} (h : LeftS o av nv x s) : rfA o (ints x) (opG o av nv).n (opG o av nv).n = match bitsOf (rdN (opG o av nv).be s) with
    | [] => -1
    | p :: _ => (p : Int) := by
  have h24 : (opG o av nv).n ≤ 24 := by have := (chkI_zero hc).1; show o.n.toNat ≤ 24; omega
  have hin : ∀ i, (rdN (opG o av nv).be s).testBit i = true → i < (opG o av nv).n := fun i hi => ((h.bit i).1 (bitsOf_mem.1 (rdN_sub hi)).2).1
  rcases rfA_spec (o := o) (l := ints x) (n := (opG o av nv).n) (opG o av nv).n (Nat.le_refl _) with ⟨e, h1⟩ | ⟨a, e, h1, h2, h3, h4⟩
  · rw [e]
    cases hb : bitsOf (rdN (opG o av nv).be s) with
    | nil => rfl
    | cons p ps =>
      obtain ⟨_, hp, _⟩ := bits_head hb
      have := h1 p (by omega) (hin p hp)
      rw [rdy_bit hc h (hin p hp), hp] at this; cases this
  · rw [e]
    rw [rdy_bit hc h h2] at h3
    cases hb : bitsOf (rdN (opG o av nv).be s) with
    | nil =>
      have : a ∈ bitsOf (rdN (opG o av nv).be s) := bitsOf_mem.2 ⟨by omega, h3⟩
      rw [hb] at this; cases this
    | cons p ps =>
      obtain ⟨_, hp, hl⟩ := bits_head hb
      rcases Nat.lt_trichotomy a p with h' | h' | h'
      · rw [hl a h'] at h3; cases h3
      · show (a : Int) = (p : Int); omega
      · have := h4 p (by omega) h'
        rw [rdy_bit hc h (hin p hp), hp] at this; cases this
theorem LeftS.next {o : Prb} {av nv : Value} (hc : chkI o = 0) {x : List Nat} {s p : Nat} (h : LeftS o av nv x s) (hp : p < 32) : LeftS o av nv (x ++ [p]) (wo s (2 ^ p)) :=
  ⟨Nat.lt_of_le_of_lt (wo_le _ _) h.lt, fun i => by
    rw [wo_bit s _ i h.lt (pow_lt p hp), Bool.and_eq_true, h.bit, Nat.testBit_two_pow, List.mem_append, not_or]
    simp only [Bool.not_eq_true', decide_eq_false_iff_not, List.mem_singleton]
    constructor
    · rintro ⟨⟨h1, h2⟩, h3⟩; exact ⟨h1, h2, fun e => h3 e.symm⟩
    · rintro ⟨h1, h2, h3⟩; exact ⟨⟨h1, h2⟩, fun e => h3 e.symm⟩⟩
theorem LeftS.none {o : Prb} (av nv : Value) (hc : chkI o = 0) : LeftS o av nv [] (fst (opG o av nv).n) :=
  ⟨(fst_ok av nv hc).1, fun i => by rw [fst_bit]; simp⟩
end Go.Proofs.YtiejefehcpfkaaaDoor
