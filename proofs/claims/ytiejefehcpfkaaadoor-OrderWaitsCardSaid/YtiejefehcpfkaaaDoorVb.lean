/- Orders and circles: where there is no circle there is an order, and where there is an order there is no circle. Plain lemmas. -/
import Derived.Test.YtiejefehcpfkaaaDoorVa
import Derived.Test.YtiejefehcpfkaaaDoorTr
import Derived.Test.YtiejefehcpfkaaaDoorUh
set_option linter.unusedSimpArgs false
set_option linter.unusedVariables false
set_option maxRecDepth 100000
namespace Go.Proofs.YtiejefehcpfkaaaDoor
open Go.RowKit Go.Shelf

theorem countP_lt {p q : Nat → Bool} (h : ∀ x, p x = true → q x = true) {x0 : Nat} (hq : q x0 = true) (hp : p x0 = false) : ∀ l : List Nat, x0 ∈ l → l.countP p < l.countP q
  | [] => fun h => by cases h
  | y :: l => fun hm => by
    have hle : l.countP p ≤ l.countP q := List.countP_mono_left fun x _ hx => h x hx
    rw [List.countP_cons, List.countP_cons]
    by_cases e : y = x0
    · subst e; simp [hp, hq]; omega
    · have hm' : x0 ∈ l := by
        rcases List.mem_cons.1 hm with h | h
        · exact absurd h.symm e
        · exact h
      have ih := countP_lt h hq hp l hm'
      have : (if p y = true then 1 else 0) ≤ (if q y = true then 1 else 0) := by
        by_cases hy : p y = true
        · simp [hy, h y hy]
        · simp [hy]
      omega
/-- where no circle is, some place outside a set of places has all that lead to it inside -/
theorem some_ready {r : Nat → Nat → Bool} {n : Nat} (hr : ∀ a b, r a b = true → a < n ∧ b < n) (hc : ∀ a, a < n → wsh r n a a = false) (S : Nat → Bool) (hS : ∃ a, a < n ∧ S a = false) :
    ∃ a, a < n ∧ S a = false ∧ ∀ x, r x a = true → S x = true := by
  obtain ⟨a, ha, hSa⟩ := hS
  have key : ∀ m a, a < n → S a = false → (List.range n).countP (fun x => wsh r n x a) < m → ∃ a, a < n ∧ S a = false ∧ ∀ x, r x a = true → S x = true := by
    intro m
    induction m with
    | zero => intro a _ _ h; omega
    | succ m ih =>
      intro a ha hSa hm
      by_cases hall : ∀ x, r x a = true → S x = true
      · exact ⟨a, ha, hSa, hall⟩
      · have : ∃ x, r x a = true ∧ S x = false := by
          apply Classical.byContradiction
          intro hn
          refine hall fun x hx => ?_
          cases hs : S x
          · exact absurd ⟨x, hx, hs⟩ hn
          · rfl
        obtain ⟨x, hx, hSx⟩ := this
        have hxn := (hr x a hx).1
        refine ih x hxn hSx ?_
        have hlt := countP_lt (p := fun z => wsh r n z x) (q := fun z => wsh r n z a) (fun z hz => wsh_trans n x z a hxn hz (wsh_mono n _ _ hx)) (x0 := x) (wsh_mono n _ _ hx) (hc x hxn) (List.range n) (List.mem_range.2 hxn)
        omega
  exact key _ a ha hSa (Nat.lt_succ_self _)
theorem pth_pos {r : Nat → Nat → Bool} {n : Nat} {pos : Nat → Nat} (h : ∀ a b, r a b = true → pos a < pos b) {a b : Nat} (hp : Pth r n a b) : pos a < pos b := by
  induction hp with
  | one h1 => exact h _ _ h1
  | step h1 _ _ ih => exact Nat.lt_trans (h _ _ h1) ih

/-- whether an arc leads from a to b -/
def aR (o : Prb) : Nat → Nat → Bool := rA o.A o.A.length
theorem rA_iff {L : List (Int × Int)} : ∀ {k a b : Nat}, rA L k a b = true ↔ ∃ i, i < k ∧ aN L i = a ∧ bN L i = b
  | 0, a, b => by simp [rA]
  | k + 1, a, b => by
    have ih := rA_iff (L := L) (k := k) (a := a) (b := b)
    simp only [rA, upd2, updB]
    constructor
    · intro h
      by_cases e : a = aN L k
      · rw [if_pos e] at h
        by_cases f : b = bN L k
        · exact ⟨k, by omega, e.symm, f.symm⟩
        · simp only [updB] at h
          rw [if_neg f, ← e] at h
          obtain ⟨i, h1, h2⟩ := ih.1 h
          exact ⟨i, by omega, h2⟩
      · rw [if_neg e] at h
        obtain ⟨i, h1, h2⟩ := ih.1 h
        exact ⟨i, by omega, h2⟩
    · rintro ⟨i, h1, h2, h3⟩
      by_cases hi : i = k
      · subst hi
        rw [if_pos h2.symm]
        simp only [updB]
        rw [if_pos h3.symm]
      · have := ih.2 ⟨i, by omega, h2, h3⟩
        by_cases e : a = aN L k
        · rw [if_pos e]
          simp only [updB]
          split
          · rfl
          · rw [← e]; exact this
        · rw [if_neg e]; exact this
theorem aR_iff {o : Prb} {a b : Nat} : aR o a b = true ↔ ∃ i, i < o.A.length ∧ aN o.A i = a ∧ bN o.A i = b := rA_iff
theorem af_bit {o : Prb} {av nv : Value} (a b : Nat) : ((opG o av nv).af a).testBit b = aR o a b := afF_bit _ _ a b
theorem be_bit {o : Prb} {av nv : Value} (a b : Nat) : ((opG o av nv).be b).testBit a = aR o a b := by
  rw [Bool.eq_iff_iff, aR_iff]
  show (beF o.A o.A.length b).testBit a = true ↔ _
  rw [be_iff]
  constructor
  · rintro ⟨i, h1, h2, h3⟩; exact ⟨i, h1, h3, h2⟩
  · rintro ⟨i, h1, h2, h3⟩; exact ⟨i, h1, h3, h2⟩
theorem re_bit {o : Prb} {av nv : Value} {a b : Nat} (ha : a < (opG o av nv).n) : ((opG o av nv).re a).testBit b = wsh (aR o) (opG o av nv).n a b := by
  show (chM (afF o.A o.A.length) o.n.toNat o.n.toNat a).testBit b = _
  rw [chM_bit _ o.n.toNat o.n.toNat (Nat.le_refl _) a b ha]
  show wsh (fun a b => (afF o.A o.A.length a).testBit b) _ a b = _
  have : (fun a b => (afF o.A o.A.length a).testBit b) = aR o := by funext x y; exact afF_bit _ _ x y
  rw [this]; rfl
theorem aR_in {o : Prb} (av nv : Value) (hc : chkI o = 0) {a b : Nat} (h : aR o a b = true) : a < (opG o av nv).n ∧ b < (opG o av nv).n ∧ a ≠ b := by
  obtain ⟨i, h1, h2, h3⟩ := aR_iff.1 h
  obtain ⟨c1, c2, _⟩ := chkI_zero hc
  have := arB_in c2 i h1
  unfold aN at h2
  unfold bN at h3
  show a < o.n.toNat ∧ b < o.n.toNat ∧ a ≠ b
  omega
theorem cir_no {o : Prb} {av nv : Value} : cirB (opG o av nv).re (opG o av nv).n = false ↔ ∀ a, a < (opG o av nv).n → wsh (aR o) (opG o av nv).n a a = false := by
  unfold cirB
  rw [List.any_eq_false]
  constructor
  · intro h a ha
    have := h a (List.mem_range.2 ha)
    rw [re_bit ha] at this
    simpa using this
  · intro h a ha
    rw [re_bit (List.mem_range.1 ha), h a (List.mem_range.1 ha)]
    simp
theorem rdF_in (be : Nat → Nat) (s : Nat) : ∀ (ps : List Nat) (acc i : Nat), acc.testBit i = true ∨ (i ∈ ps ∧ be i &&& s = 0) → (ps.foldl (rdStep be s) acc).testBit i = true
  | [], acc, i, h => by
    rcases h with h | ⟨h, _⟩
    · exact h
    · cases h
  | p :: ps, acc, i, h => by
    refine rdF_in be s ps _ i ?_
    rcases h with h | ⟨h, hb⟩
    · left
      unfold rdStep
      split
      · rw [Nat.testBit_or, h]; rfl
      · exact h
    · rcases List.mem_cons.1 h with rfl | h
      · left
        unfold rdStep
        rw [if_pos (by simpa using hb), Nat.testBit_or, Nat.testBit_two_pow]
        simp
      · exact .inr ⟨h, hb⟩
theorem rdN_bit {be : Nat → Nat} {s i : Nat} : (rdN be s).testBit i = true ↔ i ∈ bitsOf s ∧ be i &&& s = 0 :=
  ⟨fun h => ⟨rdN_sub h, rdN_be h⟩, fun h => rdF_in be s _ _ _ (.inr h)⟩
/-- where there is no circle, something of what is left may come next -/
theorem rdN_some {o : Prb} (av nv : Value) (hc : chkI o = 0) (hn : cirB (opG o av nv).re (opG o av nv).n = false) {s : Nat} (hs : s < 4294967296) (h0 : s ≠ 0) (hl : ∀ i, s.testBit i = true → i < (opG o av nv).n) : ∃ a, (rdN (opG o av nv).be s).testBit a = true := by
  have hne : ∃ a, s.testBit a = true := by
    apply Classical.byContradiction
    intro hno
    exact h0 (Nat.eq_of_testBit_eq fun i => by
      rw [Nat.zero_testBit]
      cases hb : s.testBit i
      · rfl
      · exact absurd ⟨i, hb⟩ hno)
  obtain ⟨a0, ha0⟩ := hne
  obtain ⟨a, ha, hS, hx⟩ := some_ready (r := aR o) (n := (opG o av nv).n) (fun a b h => ⟨(aR_in av nv hc h).1, (aR_in av nv hc h).2.1⟩) (cir_no.1 hn) (fun a => !s.testBit a) ⟨a0, hl a0 ha0, by simp [ha0]⟩
  have hS' : s.testBit a = true := by simpa using hS
  have h24 : (opG o av nv).n ≤ 24 := by have := (chkI_zero hc).1; show o.n.toNat ≤ 24; omega
  refine ⟨a, rdN_bit.2 ⟨bitsOf_mem.2 ⟨by omega, hS'⟩, ?_⟩⟩
  apply Nat.eq_of_testBit_eq
  intro i
  rw [Nat.zero_testBit, Nat.testBit_and, be_bit]
  cases hr : aR o i a
  · rfl
  · have := hx i hr
    simp at this
    rw [this]; rfl
theorem ordS_some {o : Prb} (av nv : Value) (hc : chkI o = 0) (hn : cirB (opG o av nv).re (opG o av nv).n = false) : ∀ k s, s < 4294967296 → (bitsOf s).length = k → (∀ i, s.testBit i = true → i < (opG o av nv).n) → ordS (opG o av nv).be k s ≠ []
  | 0, _, _, _, _ => by simp [ordS]
  | k + 1, s, hs, hl, hb => by
    have h0 : s ≠ 0 := fun e => by rw [(bits_none hs).2 e] at hl; cases hl
    obtain ⟨a, ha⟩ := rdN_some av nv hc hn hs h0 hb
    have h24 : (opG o av nv).n ≤ 24 := by have := (chkI_zero hc).1; show o.n.toNat ≤ 24; omega
    have ham := rdN_sub ha
    have ha2 := bitsOf_mem.1 ham
    have hab : a ∈ bitsOf (rdN (opG o av nv).be s) := bitsOf_mem.2 ⟨ha2.1, ha⟩
    have ih := ordS_some av nv hc hn k (wo s (2 ^ a)) (Nat.lt_of_le_of_lt (wo_le _ _) hs) (by have := wo_bits hs ham; omega) (fun i hi => by
      rw [wo_bit s _ i hs (pow_lt a ha2.1), Bool.and_eq_true] at hi
      exact hb i hi.1)
    obtain ⟨y, hy⟩ := List.exists_mem_of_ne_nil _ ih
    intro he
    have : a :: y ∈ ordS (opG o av nv).be (k + 1) s := by
      simp only [ordS, List.mem_flatMap, List.mem_map]
      exact ⟨a, hab, y, hy, rfl⟩
    rw [he] at this; cases this
/-- THERE IS AN ORDER where there is no circle -/
theorem first_mem {o : Prb} (av nv : Value) (hc : chkI o = 0) (hn : cirB (opG o av nv).re (opG o av nv).n = false) : firstO (opG o av nv) ∈ ordG (opG o av nv) := by
  have h24 : (opG o av nv).n ≤ 24 := by have := (chkI_zero hc).1; show o.n.toNat ≤ 24; omega
  have := ordS_some av nv hc hn (opG o av nv).n (fst (opG o av nv).n) (fst_lt _ (by omega)) (by rw [bits_fst h24]; simp) (fun i hi => by rw [fst_bit] at hi; simpa using hi)
  unfold firstO
  unfold ordG at this ⊢
  cases hL : ordS (opG o av nv).be (opG o av nv).n (fst (opG o av nv).n) with
  | nil => exact absurd hL this
  | cons x xs => simp
/-- THERE IS NO CIRCLE where there is an order -/
theorem io_no {o : Prb} (av nv : Value) (hc : chkI o = 0) {l : List Int} (h : ioB (opG o av nv) l = true) : cirB (opG o av nv).re (opG o av nv).n = false := by
  rw [cir_no]
  intro a ha
  cases hw : wsh (aR o) (opG o av nv).n a a
  · rfl
  · exfalso
    have hpos : ∀ a b, aR o a b = true → (idxF l (a : Int)).toNat < (idxF l (b : Int)).toNat := fun a b hab => by
      have hin := aR_in av nv hc hab
      obtain ⟨k, hk, ek⟩ := io_onto h hin.2.1
      have hall := ioB_all h (k := k + 1) hk
      rw [all_snoc, Bool.and_eq_true] at hall
      have h2 := hall.2
      unfold okO at h2
      simp only [Bool.and_eq_true] at h2
      have hlt := laidF_lt (show (opG o av nv).n ≤ 24 by have := (chkI_zero hc).1; show o.n.toNat ≤ 24; omega) hall.1
      have hz := (wo_zero (opG_ok_be hc _) hlt).1 h2.2 a (by rw [ek, Int.toNat_natCast, be_bit]; exact hab)
      obtain ⟨j, hj, ej⟩ := laid_bit hz
      have hf := (ioB_facts h).2 j (by omega)
      have e1 : idxF l (a : Int) = j := by rw [show (a : Int) = nI l j by omega]; exact idx_at h (by omega)
      have e2 : idxF l (b : Int) = k := by rw [← ek]; exact idx_at h hk
      rw [e1, e2]; omega
    exact absurd (pth_pos hpos (wsh_iff.1 hw)) (Nat.lt_irrefl _)
theorem first_io {o : Prb} {av nv : Value} (hc : chkI o = 0) (ha : ∃ a ac b bc, av = .slice a o.A.length ac ∧ nv = .slice b o.B.length bc) (hn : cirB (opG o av nv).re (opG o av nv).n = false) : ioB (opG o av nv) (ints (firstO (opG o av nv))) = true :=
  ordG_io (opG_ok hc ha) (opG_low av nv hc) (first_mem av nv hc hn)
end Go.Proofs.YtiejefehcpfkaaaDoor
