/- Lists that are circles: what CheckCircle accepts, and what follows from it. Plain lemmas. -/
import Derived.Test.YtiejefehcpfkaaaDoorVc
set_option linter.unusedSimpArgs false
set_option linter.unusedVariables false
set_option maxRecDepth 100000
namespace Go.Proofs.YtiejefehcpfkaaaDoor
open Go.RowKit Go.Shelf

/-- the place k of the list l is a patch that is not there before -/
def okS (G : Gph) (l : List Int) (k : Nat) : Bool := (decide (0 ≤ nI l k) && decide (nI l k < (G.n : Int))) && !((laidF l k).testBit (nI l k).toNat)
/-- all are different patches -/
def setB (G : Gph) (l : List Int) : Bool := (List.range l.length).all (okS G l)
def prevN (m i : Nat) : Nat := if i = 0 then m - 1 else i - 1
def stepB (G : Gph) (l : List Int) (i : Nat) : Bool := (G.af (nI l (prevN l.length i)).toNat).testBit (nI l i).toNat
/-- the list is a circle -/
def chcB (G : Gph) (l : List Int) : Bool := (decide (2 ≤ l.length) && setB G l) && (List.range l.length).all (stepB G l)
theorem setB_at {G : Gph} {l : List Int} (h : setB G l = true) {k : Nat} (hk : k < l.length) : 0 ≤ nI l k ∧ nI l k < (G.n : Int) ∧ ∀ j, j < k → nI l j ≠ nI l k := by
  have := List.all_eq_true.1 h k (List.mem_range.2 hk)
  unfold okS at this
  simp only [Bool.and_eq_true, decide_eq_true_eq, Bool.not_eq_true'] at this
  refine ⟨this.1.1, this.1.2, fun j hj e => ?_⟩
  have := laid_has (l := l) hj
  rw [e] at this
  simp_all
theorem setB_of {G : Gph} {l : List Int} (h : ∀ k, k < l.length → 0 ≤ nI l k ∧ nI l k < (G.n : Int) ∧ ∀ j, j < k → nI l j ≠ nI l k) : setB G l = true := by
  refine List.all_eq_true.2 fun k hk => ?_
  have hk := List.mem_range.1 hk
  obtain ⟨h1, h2, h3⟩ := h k hk
  unfold okS
  simp only [Bool.and_eq_true, decide_eq_true_eq, Bool.not_eq_true']
  refine ⟨⟨h1, h2⟩, ?_⟩
  cases hb : (laidF l k).testBit (nI l k).toNat
  · rfl
  · obtain ⟨j, hj, e⟩ := laid_bit hb
    have := h j (by omega)
    exact absurd (by omega) (h3 j hj)
theorem circ_ok {o : Prb} (av nv : Value) (hc : chkI o = 0) {c : List Nat} (h : circO (opG o av nv) = some c) : chcB (opG o av nv) (ints c) = true := by
  obtain ⟨p, hw, hl⟩ := circ_way av nv hc h
  have hpos := hw.pos
  have hne : c ≠ [] := fun e => by rw [e] at hpos; cases hpos
  rw [lastN_at hne] at hl
  have hlen : 2 ≤ c.length := by
    rcases Nat.lt_or_ge 1 c.length with h' | h'
    · exact h'
    · rw [show c.length - 1 = 0 by omega, hw.fst] at hl
      exact absurd rfl (aR_in av nv hc hl).2.2
  have hin : ∀ k, k < c.length → c.getD k 0 < (opG o av nv).n := fun k hk => by
    rcases k with _ | k
    · rw [hw.fst]; exact (aR_in av nv hc hl).2.1
    · have := hw.arc k hk
      rw [af_bit] at this
      exact (aR_in av nv hc this).2.1
  unfold chcB
  simp only [Bool.and_eq_true, decide_eq_true_eq, ints_len]
  refine ⟨⟨hlen, setB_of fun k hk => ?_⟩, List.all_eq_true.2 fun i hi => ?_⟩
  · rw [ints_len] at hk
    rw [nI_ints]
    have := hin k hk
    refine ⟨by omega, by omega, fun j hj e => ?_⟩
    rw [nI_ints] at e
    have e2 : c.getD j 0 = c.getD k 0 := by omega
    rw [List.getD_eq_getElem?_getD, List.getD_eq_getElem?_getD, List.getElem?_eq_getElem (show j < c.length by omega), List.getElem?_eq_getElem hk] at e2
    simp only [Option.getD_some] at e2
    have := (List.pairwise_iff_getElem.1 hw.nd) j k (by omega) hk hj
    exact this e2
  · have hi := List.mem_range.1 hi
    unfold stepB prevN
    rw [nI_ints, nI_ints, Int.toNat_natCast, Int.toNat_natCast, af_bit, ints_len]
    split
    · rename_i e; rw [e, hw.fst]; exact hl
    · have := hw.arc (i - 1) (by omega)
      rw [show i - 1 + 1 = i by omega, af_bit] at this
      exact this
theorem chc_arcs {o : Prb} {av nv : Value} {l : List Int} (h : chcB (opG o av nv) l = true) : 2 ≤ l.length ∧ ∀ i, aR o (nI l (i % l.length)).toNat (nI l ((i + 1) % l.length)).toNat = true := by
  unfold chcB at h
  simp only [Bool.and_eq_true, decide_eq_true_eq] at h
  refine ⟨h.1.1, fun i => ?_⟩
  have hm : 0 < l.length := by omega
  have h1 := List.all_eq_true.1 h.2 ((i + 1) % l.length) (List.mem_range.2 (Nat.mod_lt _ hm))
  unfold stepB prevN at h1
  rw [af_bit] at h1
  have hlt := Nat.mod_lt i hm
  have e : (i + 1) % l.length = if i % l.length + 1 = l.length then 0 else i % l.length + 1 := by
    rw [Nat.add_mod, Nat.mod_eq_of_lt (show 1 < l.length by omega)]
    split
    · rename_i e; rw [e, Nat.mod_self]
    · exact Nat.mod_eq_of_lt (by omega)
  have e2 : (if (i + 1) % l.length = 0 then l.length - 1 else (i + 1) % l.length - 1) = i % l.length := by
    rw [e]
    split <;> split <;> omega
  rw [e2] at h1
  exact h1
theorem chc_least {o : Prb} (av nv : Value) (hc : chkI o = 0) {l : List Int} (h : chcB (opG o av nv) l = true) : ∃ c, circO (opG o av nv) = some c ∧ c.length ≤ l.length := by
  obtain ⟨h2, ha⟩ := chc_arcs h
  exact circ_least av nv hc (m := l.length) (ys := fun i => (nI l (i % l.length)).toNat) (by omega) (fun i => by show (nI l ((i + l.length) % l.length)).toNat = _; rw [Nat.add_mod_right]) ha
theorem chc_stand {o : Prb} (av nv : Value) (hc : chkI o = 0) {l : List Int} (h : chcB (opG o av nv) l = true) : stI o av nv (nI l 0) (nI l 1) = 3 := by
  obtain ⟨h2, ha⟩ := chc_arcs h
  have hs : setB (opG o av nv) l = true := by
    unfold chcB at h
    simp only [Bool.and_eq_true] at h
    exact h.1.2
  obtain ⟨a1, a2, _⟩ := setB_at hs (show 0 < l.length by omega)
  obtain ⟨b1, b2, b3⟩ := setB_at hs (show 1 < l.length by omega)
  have hne := b3 0 (by omega)
  have hgn : ((opG o av nv).n : Int) = o.n := by have := (chkI_zero hc).1; show ((o.n.toNat : Nat) : Int) = o.n; omega
  have h01 := ha 0
  rw [Nat.zero_mod, Nat.mod_eq_of_lt (show 0 + 1 < l.length by omega)] at h01
  have hback : ∀ k, Pth (aR o) (opG o av nv).n (nI l 1).toNat (nI l ((k + 2) % l.length)).toNat := by
    intro k
    induction k with
    | zero =>
      have := ha 1
      rw [Nat.mod_eq_of_lt (show 1 < l.length by omega)] at this
      exact .one this
    | succ k ih =>
      have := ha (k + 2)
      exact ih.append (aR_in av nv hc this).1 (.one this)
  have h10 := hback (l.length - 2)
  rw [show l.length - 2 + 2 = l.length by omega, Nat.mod_self] at h10
  unfold stI
  rw [if_neg (by rw [hc]; simp), decide_eq_true a1, decide_eq_true b1, decide_eq_true (show nI l 0 < o.n by omega), decide_eq_true (show nI l 1 < o.n by omega), decide_eq_false hne]
  rw [re_bit (show (nI l 0).toNat < (opG o av nv).n by omega), re_bit (show (nI l 1).toNat < (opG o av nv).n by omega), wsh_iff.2 (.one h01), wsh_iff.2 h10]
  rfl
theorem io_circ {o : Prb} (av nv : Value) (hc : chkI o = 0) {l : List Int} (h : ioB (opG o av nv) l = true) : circO (opG o av nv) = none := by
  cases he : circO (opG o av nv) with
  | none => rfl
  | some c =>
    have := cir_of_circ av nv hc (by rw [he]; rfl)
    rw [io_no av nv hc h] at this; cases this
end Go.Proofs.YtiejefehcpfkaaaDoor
