/- The days and levels of an order, as the reference reckons them, are the program's. Plain lemmas. -/
import Derived.Test.YtiejefehcpfkaaaDoorVb
set_option linter.unusedSimpArgs false
set_option linter.unusedVariables false
set_option maxRecDepth 100000
namespace Go.Proofs.YtiejefehcpfkaaaDoor
open Go.RowKit Go.Shelf

/-- a row of greatest numbers depends on which places are looked at alone -/
theorem fold_same {dry : Int} {p : Nat} {qs qs' : List Nat} (d : Nat → Int) (h : ∀ q, q ∈ qs ↔ q ∈ qs') (hp : p ∉ qs) : qs.foldl (stepQ dry p) d = qs'.foldl (stepQ dry p) d := by
  have hp' : p ∉ qs' := fun h' => hp ((h p).2 h')
  funext q
  by_cases e : q = p
  · subst e
    have key : ∀ (us vs : List Nat), q ∉ us → q ∉ vs → (∀ x, x ∈ us → x ∈ vs) → (us.foldl (stepQ dry q) d) q ≤ (vs.foldl (stepQ dry q) d) q := fun us vs ha hb hs => by
      rcases fold_hit (dry := dry) us d ha with h1 | ⟨x, hx, h1⟩
      · rw [h1]; exact fold_ge vs d
      · rw [h1]; exact fold_far vs d hb x (hs x hx)
    exact Int.le_antisymm (key qs qs' hp hp' fun x hx => (h x).1 hx) (key qs' qs hp' hp fun x hx => (h x).2 hx)
  · rw [fold_other e, fold_other e]
/-- whether the reference calls two patches neighbours -/
def neR (o : Prb) (a b : Int) : Bool := (List.range o.B.length).any fun i => decide (pA o.B i = min a b) && decide (pB o.B i = max a b)
theorem ne_iff {L : List (Int × Int)} : ∀ {k p q : Nat}, (neF L k p).testBit q = true ↔ ∃ i, i < k ∧ ((aN L i = p ∧ bN L i = q) ∨ (bN L i = p ∧ aN L i = q))
  | 0, p, q => by simp [neF]
  | k + 1, p, q => by
    have ih := ne_iff (L := L) (k := k) (p := p) (q := q)
    have step : ∀ (f : Nat → Nat) (a b : Nat), (addL f a b p).testBit q = true ↔ ((f p).testBit q = true ∨ (a = p ∧ b = q)) := fun f a b => by
      unfold addL upd
      by_cases e : p = a
      · rw [if_pos e, ← e, Nat.testBit_or, Nat.testBit_two_pow, Bool.or_eq_true, decide_eq_true_eq]
        exact or_congr Iff.rfl ⟨fun h => ⟨rfl, h⟩, fun h => h.2⟩
      · rw [if_neg e]
        exact ⟨.inl, fun h => h.elim id fun h => absurd h.1.symm e⟩
    show (addL (addL (neF L k) (aN L k) (bN L k)) (bN L k) (aN L k) p).testBit q = true ↔ _
    rw [step, step, ih]
    constructor
    · rintro ((⟨i, h1, h2⟩ | h) | h)
      · exact ⟨i, by omega, h2⟩
      · exact ⟨k, by omega, .inl h⟩
      · exact ⟨k, by omega, .inr h⟩
    · rintro ⟨i, h1, h2⟩
      by_cases e : i = k
      · subst e
        rcases h2 with h2 | h2
        · exact .inl (.inr h2)
        · exact .inr h2
      · exact .inl (.inl ⟨i, by omega, h2⟩)
theorem neR_bit {o : Prb} {av nv : Value} (hc : chkI o = 0) {a b : Int} (ha : 0 ≤ a) (hb : 0 ≤ b) : neR o a b = ((opG o av nv).ne b.toNat).testBit a.toNat := by
  obtain ⟨c1, c2, c3, c4⟩ := chkI_zero hc
  rw [Bool.eq_iff_iff]
  show _ ↔ (neF o.B o.B.length b.toNat).testBit a.toNat = true
  rw [ne_iff]
  unfold neR
  rw [List.any_eq_true]
  have hlt : ∀ i, i < o.B.length → pA o.B i < pB o.B i := fun i hi => by
    have h1 := arB_in c3 i hi
    have h2 := (List.any_eq_false.1 c4) i (List.mem_range.2 hi)
    unfold fal at h2
    simp at h2
    omega
  constructor
  · rintro ⟨i, hi, h⟩
    have hi := List.mem_range.1 hi
    simp only [Bool.and_eq_true, decide_eq_true_eq] at h
    refine ⟨i, hi, ?_⟩
    unfold aN bN
    rw [h.1, h.2]
    rcases Int.le_total a b with h' | h'
    · right; omega
    · left; omega
  · rintro ⟨i, hi, h⟩
    refine ⟨i, List.mem_range.2 hi, ?_⟩
    have h1 := arB_in c3 i hi
    have h2 := hlt i hi
    unfold aN bN at h
    simp only [Bool.and_eq_true, decide_eq_true_eq]
    rcases h with h | h <;> omega
/-- the reference's inner loop: the first k patches of the order before place i -/
def rdIn (o : Prb) (dry : Int) (l : List Int) (i : Nat) (d : Nat → Int) : Nat → (Nat → Int)
  | 0 => d
  | k + 1 => if neR o (nI l k) (nI l i) then stepQ dry (nI l i).toNat (rdIn o dry l i d k) (nI l k).toNat else rdIn o dry l i d k
/-- the reference's days after i places -/
def rdD (o : Prb) (dry : Int) (l : List Int) : Nat → (Nat → Int)
  | 0 => fun _ => 0
  | i + 1 => rdIn o dry l i (if i = 0 then rdD o dry l i else updI (rdD o dry l i) (nI l i).toNat (rdD o dry l i (nI l (i - 1)).toNat + 1)) i
theorem rdIn_fold {o : Prb} {dry : Int} {l : List Int} {i : Nat} (d : Nat → Int) : ∀ k, rdIn o dry l i d k = (((List.range k).filter fun j => neR o (nI l j) (nI l i)).map fun j => (nI l j).toNat).foldl (stepQ dry (nI l i).toNat) d
  | 0 => rfl
  | k + 1 => by
    simp only [rdIn]
    rw [rdIn_fold d k, List.range_succ, List.filter_append, List.map_append, List.foldl_append]
    by_cases h : neR o (nI l k) (nI l i) = true
    · rw [if_pos h]; simp [h]
    · rw [if_neg h]; simp [h]
/-- BOTH SIDES' DAYS -/
theorem rdD_eq {o : Prb} {av nv : Value} (hc : chkI o = 0) {dry : Int} {l : List Int} (h : ioB (opG o av nv) l = true) : ∀ i, i ≤ l.length → rdD o dry l i = erF (opG o av nv) dry l i
  | 0, _ => rfl
  | i + 1, hi => by
    have ih := rdD_eq hc (dry := dry) h i (by omega)
    simp only [rdD, erF]
    rw [ih, rdIn_fold]
    refine fold_same _ (fun q => ?_) (fun hm => ?_)
    · rw [List.mem_map, bitsOf_mem, Nat.testBit_and, Bool.and_eq_true, laid_iff]
      constructor
      · rintro ⟨j, hj, rfl⟩
        obtain ⟨h1, h2⟩ := List.mem_filter.1 hj
        have h1 := List.mem_range.1 h1
        have hj0 := (ioB_facts h).2 j (by omega)
        have hi0 := (ioB_facts h).2 i (by omega)
        rw [neR_bit hc hj0.1 hi0.1] at h2
        have h24 : (opG o av nv).n ≤ 24 := by have := (chkI_zero hc).1; show o.n.toNat ≤ 24; omega
        exact ⟨by omega, h2, j, h1, rfl⟩
      · rintro ⟨_, h2, j, hj, rfl⟩
        have hj0 := (ioB_facts h).2 j (by omega)
        have hi0 := (ioB_facts h).2 i (by omega)
        refine ⟨j, List.mem_filter.2 ⟨List.mem_range.2 hj, ?_⟩, rfl⟩
        rw [neR_bit hc hj0.1 hi0.1]; exact h2
    · obtain ⟨j, hj, e⟩ := List.mem_map.1 hm
      have := List.mem_range.1 (List.mem_filter.1 hj).1
      exact io_ne h this (by omega) e
/-- the program's levels after k places of the order -/
def lvF (G : Gph) (l : List Int) : Nat → (Nat → Int)
  | 0 => fun _ => 0
  | k + 1 => (bitsOf (G.be (nI l k).toNat)).foldl (stepQ 0 (nI l k).toNat) (lvF G l k)
/-- the reference's -/
def rlIn (o : Prb) (l : List Int) (i : Nat) (d : Nat → Int) : Nat → (Nat → Int)
  | 0 => d
  | k + 1 => if arcR o (nI l k) (nI l i) then stepQ 0 (nI l i).toNat (rlIn o l i d k) (nI l k).toNat else rlIn o l i d k
def rlF (o : Prb) (l : List Int) : Nat → (Nat → Int)
  | 0 => fun _ => 0
  | i + 1 => rlIn o l i (rlF o l i) i
theorem rlIn_fold {o : Prb} {l : List Int} {i : Nat} (d : Nat → Int) : ∀ k, rlIn o l i d k = (((List.range k).filter fun j => arcR o (nI l j) (nI l i)).map fun j => (nI l j).toNat).foldl (stepQ 0 (nI l i).toNat) d
  | 0 => rfl
  | k + 1 => by
    simp only [rlIn]
    rw [rlIn_fold d k, List.range_succ, List.filter_append, List.map_append, List.foldl_append]
    by_cases h : arcR o (nI l k) (nI l i) = true
    · rw [if_pos h]; simp [h]
    · rw [if_neg h]; simp [h]
theorem arcR_bit {o : Prb} (hc : chkI o = 0) {a b : Int} (ha : 0 ≤ a) (hb : 0 ≤ b) : arcR o a b = aR o a.toNat b.toNat := by
  obtain ⟨c1, c2, c3, c4⟩ := chkI_zero hc
  rw [Bool.eq_iff_iff, aR_iff]
  unfold arcR
  rw [List.any_eq_true]
  constructor
  · rintro ⟨i, hi, h⟩
    have hi := List.mem_range.1 hi
    simp only [Bool.and_eq_true, decide_eq_true_eq] at h
    exact ⟨i, hi, by unfold aN; rw [h.1], by unfold bN; rw [h.2]⟩
  · rintro ⟨i, hi, h1, h2⟩
    have h3 := arB_in c2 i hi
    unfold aN at h1
    unfold bN at h2
    refine ⟨i, List.mem_range.2 hi, ?_⟩
    simp only [Bool.and_eq_true, decide_eq_true_eq]
    omega
/-- what comes before a patch comes before it in an order -/
theorem io_before {o : Prb} {av nv : Value} (hc : chkI o = 0) {l : List Int} (h : ioB (opG o av nv) l = true) {k : Nat} (hk : k < l.length) {q : Nat} (hq : aR o q (nI l k).toNat = true) : ∃ j, j < k ∧ (nI l j).toNat = q := by
  have hall := ioB_all h (k := k + 1) hk
  rw [all_snoc, Bool.and_eq_true] at hall
  have h2 := hall.2
  unfold okO at h2
  simp only [Bool.and_eq_true] at h2
  have hlt := laidF_lt (show (opG o av nv).n ≤ 24 by have := (chkI_zero hc).1; show o.n.toNat ≤ 24; omega) hall.1
  exact laid_bit ((wo_zero (opG_ok_be hc _) hlt).1 h2.2 q (by rw [be_bit]; exact hq))
/-- BOTH SIDES' LEVELS -/
theorem rlF_eq {o : Prb} {av nv : Value} (hc : chkI o = 0) {l : List Int} (h : ioB (opG o av nv) l = true) : ∀ i, i ≤ l.length → rlF o l i = lvF (opG o av nv) l i
  | 0, _ => rfl
  | i + 1, hi => by
    have ih := rlF_eq hc h i (by omega)
    simp only [rlF, lvF]
    rw [ih, rlIn_fold]
    have hi0 := (ioB_facts h).2 i (by omega)
    have h24 : (opG o av nv).n ≤ 24 := by have := (chkI_zero hc).1; show o.n.toNat ≤ 24; omega
    refine fold_same _ (fun q => ?_) (fun hm => ?_)
    · rw [List.mem_map, bitsOf_mem, be_bit]
      constructor
      · rintro ⟨j, hj, rfl⟩
        obtain ⟨h1, h2⟩ := List.mem_filter.1 hj
        have h1 := List.mem_range.1 h1
        have hj0 := (ioB_facts h).2 j (by omega)
        rw [arcR_bit hc hj0.1 hi0.1] at h2
        exact ⟨by omega, h2⟩
      · rintro ⟨_, h2⟩
        obtain ⟨j, hj, rfl⟩ := io_before hc h (by omega) h2
        have hj0 := (ioB_facts h).2 j (by omega)
        refine ⟨j, List.mem_filter.2 ⟨List.mem_range.2 hj, ?_⟩, rfl⟩
        rw [arcR_bit hc hj0.1 hi0.1]; exact h2
    · obtain ⟨j, hj, e⟩ := List.mem_map.1 hm
      have := List.mem_range.1 (List.mem_filter.1 hj).1
      exact io_ne h this (by omega) e
end Go.Proofs.YtiejefehcpfkaaaDoor
