/- What the reasons of an order say: they begin with its last patch, each one names the patch of the next one, the last one lies at day 0, and the days between add up. Plain lemmas. -/
import Derived.Test.YtiejefehcpfkaaaDoorTh
set_option linter.unusedSimpArgs false
set_option linter.unusedVariables false
set_option maxRecDepth 100000
namespace Go.Proofs.YtiejefehcpfkaaaDoor
open Go.RowKit Go.Shelf

/-- a function that takes n numbers below n to different ones meets them all -/
theorem inj_onto : ∀ (n : Nat) (f : Nat → Nat), (∀ j, j < n → f j < n) → (∀ i j, i < j → j < n → f i ≠ f j) → ∀ q, q < n → ∃ j, j < n ∧ f j = q
  | 0, _, _, _, q, h => absurd h (Nat.not_lt_zero q)
  | n + 1, f, hf, hi, q, hq => by
    have ih := inj_onto n (fun j => if f j = n then f n else f j) (fun j hj => by
      have h1 := hf j (by omega)
      have h2 := hf n (by omega)
      have h3 := hi j n hj (by omega)
      show (if f j = n then f n else f j) < n
      split <;> omega) (fun i j hij hj => by
      have h1 := hi i j hij (by omega)
      have h2 := hi i n (by omega) (by omega)
      have h3 := hi j n hj (by omega)
      show (if f i = n then f n else f i) ≠ (if f j = n then f n else f j)
      split <;> split <;> omega)
    by_cases e : q = f n
    · exact ⟨n, by omega, e.symm⟩
    · by_cases hn : ∃ j, j < n ∧ f j = n
      · obtain ⟨j0, hj0, e0⟩ := hn
        by_cases e2 : q = n
        · exact ⟨j0, by omega, by omega⟩
        · obtain ⟨j, hj, ej⟩ := ih q (by omega)
          split at ej
          · exact absurd ej.symm e
          · exact ⟨j, by omega, ej⟩
      · have hfn : f n = n := by
          apply Classical.byContradiction
          intro hne
          have hlt : f n < n := by have := hf n (by omega); omega
          obtain ⟨j, hj, ej⟩ := ih (f n) hlt
          split at ej
          · rename_i h; exact hn ⟨j, hj, h⟩
          · exact hi j n hj (by omega) ej
        obtain ⟨j, hj, ej⟩ := ih q (by omega)
        split at ej
        · rename_i h; exact absurd ⟨j, hj, h⟩ hn
        · exact ⟨j, by omega, ej⟩
theorem io_onto {G : Gph} {l : List Int} (h : ioB G l = true) {q : Nat} (hq : q < G.n) : ∃ j, j < l.length ∧ nI l j = (q : Int) := by
  have hf := ioB_facts h
  obtain ⟨j, hj, e⟩ := inj_onto l.length (fun j => (nI l j).toNat) (fun j hj => by have := hf.2 j hj; have := hf.1; show (nI l j).toNat < _; omega) (fun i j hij hj => io_ne h hij hj) q (by rw [hf.1]; exact hq)
  exact ⟨j, hj, by have := hf.2 j hj; omega⟩
theorem fold_hit {dry : Int} {p : Nat} : ∀ (qs : List Nat) (d : Nat → Int), p ∉ qs → (qs.foldl (stepQ dry p) d) p = d p ∨ ∃ q ∈ qs, (qs.foldl (stepQ dry p) d) p = d q + dry + 1
  | [], d, _ => .inl rfl
  | x :: qs, d, hp => by
    simp only [List.mem_cons, not_or] at hp
    have e : ∀ q, q ≠ p → stepQ dry p d x q = d q := fun q hq => by unfold stepQ updI; rw [if_neg hq]
    have e2 : stepQ dry p d x p = max (d p) (d x + dry + 1) := by unfold stepQ updI; rw [if_pos rfl]
    show (qs.foldl (stepQ dry p) (stepQ dry p d x)) p = d p ∨ _
    rcases fold_hit qs (stepQ dry p d x) hp.2 with h | ⟨q, hq, h⟩
    · rw [h, e2]
      rcases Int.le_total (d x + dry + 1) (d p) with h' | h'
      · left; omega
      · right; exact ⟨x, by simp, by show (qs.foldl (stepQ dry p) (stepQ dry p d x)) p = _; rw [h, e2]; omega⟩
    · right
      refine ⟨q, List.mem_cons_of_mem _ hq, ?_⟩
      show (qs.foldl (stepQ dry p) (stepQ dry p d x)) p = _
      rw [h, e q (fun h' => hp.2 (h' ▸ hq))]
theorem er_not {G : Gph} {l : List Int} (h : ioB G l = true) {k : Nat} (hk : k < l.length) : (nI l k).toNat ∉ bitsOf (G.ne (nI l k).toNat &&& laidF l k) := by
  intro hm
  have hb := (bitsOf_mem.1 hm).2
  rw [Nat.testBit_and, Bool.and_eq_true] at hb
  have hall := ioB_all h (k := k + 1) hk
  rw [all_snoc, Bool.and_eq_true] at hall
  have h2 := hall.2
  unfold okO at h2
  simp only [Bool.and_eq_true, Bool.not_eq_true'] at h2
  rw [h2.1.2] at hb; cases hb.2
/-- where no neighbour is the cause, the patch before is -/
theorem er_day {G : Gph} {dry : Int} {l : List Int} (h : ioB G l = true) {k : Nat} (hk : k < l.length) (h0 : k ≠ 0)
    (hn : ∀ q ∈ bitsOf (G.ne (nI l k).toNat), erF G dry l l.length q + dry + 1 ≠ erF G dry l l.length (nI l k).toNat) :
    erF G dry l l.length (nI l k).toNat = erF G dry l l.length (nI l (k - 1)).toNat + 1 := by
  have e1 : erF G dry l l.length (nI l (k - 1)).toNat = erF G dry l k (nI l (k - 1)).toNat := by
    rw [er_keep h (show k - 1 < l.length by omega) (Nat.le_refl _), er_keep h (show k - 1 < k by omega) (by omega)]
  have e2 : erF G dry l l.length (nI l k).toNat = erF G dry l (k + 1) (nI l k).toNat := er_keep h hk (Nat.le_refl _)
  rw [e1]
  rw [e2] at hn ⊢
  have key := fold_hit (dry := dry) (p := (nI l k).toNat) (bitsOf (G.ne (nI l k).toNat &&& laidF l k)) (if k = 0 then erF G dry l k else updI (erF G dry l k) (nI l k).toNat (erF G dry l k (nI l (k - 1)).toNat + 1)) (er_not h hk)
  rcases key with key | ⟨q, hq, key⟩
  · simp only [erF]
    rw [key, if_neg h0]
    unfold updI; rw [if_pos rfl]
  · exfalso
    have hb := bitsOf_mem.1 hq
    rw [Nat.testBit_and, Bool.and_eq_true] at hb
    obtain ⟨j, hj, e⟩ := laid_bit hb.2.2
    have hqp : q ≠ (nI l k).toNat := fun e' => er_not h hk (e' ▸ hq)
    refine hn q (bitsOf_mem.2 ⟨hb.1, hb.2.1⟩) ?_
    have e3 : erF G dry l l.length q = erF G dry l k q := by
      rw [← e, er_keep h (show j < l.length by omega) (Nat.le_refl _), er_keep h hj (by omega)]
    rw [e3]
    simp only [erF]
    rw [key, if_neg h0]
    unfold updI; rw [if_neg hqp]
/-- the same in the other direction: a neighbour that was laid before lies far enough before -/
theorem fold_far {dry : Int} {p : Nat} : ∀ (qs : List Nat) (d : Nat → Int), p ∉ qs → ∀ q ∈ qs, d q + dry + 1 ≤ (qs.foldl (stepQ dry p) d) p
  | x :: qs, d, hp, q, hq => by
    simp only [List.mem_cons, not_or] at hp
    show _ ≤ (qs.foldl (stepQ dry p) (stepQ dry p d x)) p
    rcases List.mem_cons.1 hq with rfl | hq
    · refine Int.le_trans ?_ (fold_ge qs _)
      unfold stepQ updI; rw [if_pos rfl]; omega
    · have := fold_far (dry := dry) qs (stepQ dry p d x) hp.2 q hq
      have e : stepQ dry p d x q = d q := by unfold stepQ updI; rw [if_neg (by intro h'; subst h'; exact hp.2 hq)]
      rw [e] at this; exact this
/-- what one reason says of place i of the order l -/
structure ReaOk (G : Gph) (dry : Nat) (l : List Int) (D : Nat → Int) (i : Nat) (r : Int × Int × Int) : Prop where
  pt : r.1 = nI l i
  cs : (r.2.2 = 0 ∧ r.2.1 = -1 ∧ D (nI l i).toNat = 0) ∨ (∃ j, j < i ∧ r.2.1 = nI l j ∧ idxF l r.2.1 = j ∧ ((r.2.2 = 2 ∧ D (nI l i).toNat = D (nI l j).toNat + dry + 1) ∨ (r.2.2 = 1 ∧ D (nI l i).toNat = D (nI l j).toNat + 1)))
theorem idx_at {G : Gph} {l : List Int} (h : ioB G l = true) {j : Nat} (hj : j < l.length) : idxF l (nI l j) = j := by
  unfold idxF
  rcases idx_spec l (nI l j) l.length 0 with e | ⟨i, e, h1, h2, h3, h4⟩
  · exfalso
    have key : ∀ f k, k ≤ j → j < k + f → idxG l (nI l j) f k ≠ -1 := fun f => by
      induction f with
      | zero => intro k h1 h2; omega
      | succ f ih =>
        intro k h1 h2
        unfold idxG
        split
        · omega
        · rename_i hne
          exact ih (k + 1) (by rcases Nat.lt_or_ge k j with h | h; omega; exfalso; exact hne (by rw [show k = j by omega])) (by omega)
    exact key l.length 0 (by omega) (by omega) e
  · rw [e]
    rcases Nat.lt_or_ge i j with h' | h'
    · exact absurd (by rw [h3]) (io_ne h h' hj)
    · rcases Nat.lt_or_ge j i with h'' | h''
      · exact absurd rfl (h4 j (by omega) h'')
      · congr 1; omega
theorem idx_none {G : Gph} {l : List Int} (h : ioB G l = true) : idxF l (-1) = -1 := by
  unfold idxF
  rcases idx_spec l (-1) l.length 0 with e | ⟨i, e, h1, h2, h3, h4⟩
  · exact e
  · have := (ioB_facts h).2 i (by omega); omega
theorem rea_ok {G : Gph} {dry : Nat} {l : List Int} (h : ioB G l = true) (hN : ∀ p i, (G.ne p).testBit i = true → i < G.n) {i : Nat} (hi : i < l.length) :
    ReaOk G dry l (erF G dry l l.length) i (reaI G dry (l.take (i + 1)) (erF G dry l l.length)) := by
  have hf := ioB_facts h
  have hlen : (l.take (i + 1)).length = i + 1 := by rw [List.length_take]; omega
  have e1 : nI (l.take (i + 1)) ((l.take (i + 1)).length - 1) = nI l i := by rw [hlen]; exact nI_take (by omega)
  obtain ⟨p, hp⟩ : ∃ p : Nat, nI l i = p := ⟨(nI l i).toNat, by have := hf.2 i hi; omega⟩
  unfold reaI
  simp only [e1, hp, Int.toNat_natCast]
  split
  · rename_i h0
    exact ⟨hp.symm, .inl ⟨rfl, rfl, by rw [hp]; simpa using h0⟩⟩
  · rename_i hne
    split
    · rename_i q hq
      have hqq := List.find?_some hq
      simp only [decide_eq_true_eq] at hqq
      have hm := bitsOf_mem.1 (List.mem_of_find?_eq_some hq)
      obtain ⟨j, hj, ej⟩ := io_onto h (hN p q hm.2)
      have hlt : j < i := by
        rcases Nat.lt_or_ge j i with h' | h'
        · exact h'
        · exfalso
          have hj2 : (nI l j).toNat = q := by rw [ej]; simp
          have hi2 : (nI l i).toNat = p := by rw [hp]; simp
          rcases Nat.lt_or_ge i j with h'' | h''
          · have := er_mono (dry := (dry : Int)) h h'' hj
            rw [hj2, hi2] at this; omega
          · obtain rfl : j = i := by omega
            have : q = p := by rw [← hj2, hi2]
            rw [this] at hqq; omega
      refine ⟨hp.symm, .inr ⟨j, hlt, ej.symm, by show idxF l (q : Int) = j; rw [← ej]; exact idx_at h hj, .inl ⟨rfl, ?_⟩⟩⟩
      rw [hp, ej, Int.toNat_natCast, Int.toNat_natCast]; omega
    · rename_i hnone
      have hi0 : i ≠ 0 := fun e => by
        subst e
        apply hne
        have := er_first (dry := (dry : Int)) h hi
        rw [hp] at this; simpa using this
      rw [hlen, nI_take (by omega), show i + 1 - 2 = i - 1 by omega]
      refine ⟨hp.symm, .inr ⟨i - 1, by omega, rfl, idx_at h (by omega), .inr ⟨rfl, ?_⟩⟩⟩
      refine er_day h hi hi0 fun q hq => ?_
      have := List.find?_eq_none.1 hnone q (by rw [hp, Int.toNat_natCast] at hq; exact hq)
      rw [hp, Int.toNat_natCast]
      simpa using this
/-- what the list of reasons says -/
structure RsOk (dry : Nat) (l : List Int) (D : Nat → Int) (i : Nat) (rs : List (Int × Int × Int)) : Prop where
  pos : 0 < rs.length
  fst : (rs.getD 0 (0, 0, 0)).1 = nI l i
  at' : ∀ k, k < rs.length → ∃ a, a < l.length ∧ (rs.getD k (0, 0, 0)).1 = nI l a ∧
    (if k + 1 = rs.length then (rs.getD k (0, 0, 0)).2.2 = 0 ∧ (rs.getD k (0, 0, 0)).2.1 = -1 ∧ D (nI l a).toNat = 0
     else ∃ b, b < l.length ∧ (rs.getD k (0, 0, 0)).2.1 = nI l b ∧ (rs.getD (k + 1) (0, 0, 0)).1 = nI l b ∧
      (((rs.getD k (0, 0, 0)).2.2 = 2 ∧ D (nI l a).toNat = D (nI l b).toNat + dry + 1) ∨ ((rs.getD k (0, 0, 0)).2.2 = 1 ∧ D (nI l a).toNat = D (nI l b).toNat + 1)))
theorem rs_ok {G : Gph} {dry : Nat} {l : List Int} (h : ioB G l = true) (hN : ∀ p i, (G.ne p).testBit i = true → i < G.n) : ∀ f i, i < f → i < l.length → RsOk dry l (erF G dry l l.length) i (rsL G dry l (erF G dry l l.length) f i)
  | 0, _, h, _ => absurd h (Nat.not_lt_zero _)
  | f + 1, i, hi, hl => by
    have hr := rea_ok (dry := dry) h hN hl
    simp only [rsL]
    rw [if_neg (by omega), Int.toNat_natCast]
    generalize reaI G dry (l.take (i + 1)) (erF G dry l l.length) = r at *
    rcases hr with ⟨hp, ⟨h0, h1, h2⟩ | ⟨j, hj, h1, h2, h3⟩⟩
    · have e : rsL G dry l (erF G dry l l.length) f (idxF l r.2.1) = [] := by
        rw [h1, idx_none h]
        cases f with
        | zero => rfl
        | succ f => simp only [rsL]; rw [if_pos (by omega)]
      rw [e]
      refine ⟨by simp, hp, fun k hk => ?_⟩
      have hk0 : k = 0 := by simp at hk; exact hk
      subst hk0
      exact ⟨i, hl, hp, by rw [if_pos (show 0 + 1 = [r].length from rfl)]; exact ⟨h0, h1, h2⟩⟩
    · rw [h2]
      have ih := rs_ok (dry := dry) h hN f j (by omega) (by omega)
      generalize rsL G dry l (erF G dry l l.length) f (j : Int) = rs at ih ⊢
      refine ⟨by simp, hp, fun k hk => ?_⟩
      rcases k with _ | k
      · refine ⟨i, hl, hp, ?_⟩
        rw [if_neg (by have := ih.pos; rw [List.length_cons]; omega)]
        refine ⟨j, by omega, h1, ?_, h3⟩
        have := ih.fst
        simpa using this
      · obtain ⟨a, ha, h4, h5⟩ := ih.at' k (by simp at hk; omega)
        refine ⟨a, ha, by simpa using h4, ?_⟩
        by_cases hc : k + 1 = rs.length
        · rw [if_pos hc] at h5
          rw [if_pos (by simp; exact hc)]
          simpa using h5
        · rw [if_neg hc] at h5
          rw [if_neg (by simp; exact hc)]
          simpa using h5
theorem rsL_len {G : Gph} {dry : Int} {l : List Int} {D : Nat → Int} : ∀ f i, (rsL G dry l D f i).length ≤ f
  | 0, _ => Nat.le_refl _
  | f + 1, i => by
    simp only [rsL]
    split
    · simp
    · have := rsL_len (G := G) (dry := dry) (l := l) (D := D) f
      simp [this]
theorem reasons_ok {G : Gph} {dry : Nat} {l : List Int} (h : ioB G l = true) (hN : ∀ p i, (G.ne p).testBit i = true → i < G.n) (h0 : 0 < l.length) : RsOk dry l (erF G dry l l.length) (l.length - 1) (reasonsL G dry l) := by
  unfold reasonsL
  rw [show ((l.length : Int) - 1) = ((l.length - 1 : Nat) : Int) by omega]
  exact rs_ok h hN _ _ (by omega) (by omega)
/-- the days between the first k reasons -/
def sumR (dry : Int) (rs : List (Int × Int × Int)) : Nat → Int
  | 0 => 0
  | k + 1 => sumR dry rs k + (if (rs.getD k (0, 0, 0)).2.2 = 2 then dry + 1 else if (rs.getD k (0, 0, 0)).2.2 = 1 then 1 else 0)
theorem sum_ok {dry : Nat} {l : List Int} {D : Nat → Int} {i : Nat} {rs : List (Int × Int × Int)} (h : RsOk dry l D i rs) : ∀ k, k < rs.length → sumR dry rs k + D ((rs.getD k (0, 0, 0)).1).toNat = D (nI l i).toNat
  | 0, _ => by rw [h.fst]; simp [sumR]
  | k + 1, hk => by
    have ih := sum_ok h k (by omega)
    obtain ⟨a, ha, h4, h5⟩ := h.at' k (by omega)
    rw [if_neg (by omega)] at h5
    obtain ⟨b, hb, h6, h7, h8⟩ := h5
    rw [h4] at ih
    rw [h7]
    simp only [sumR]
    rcases h8 with ⟨e, h8⟩ | ⟨e, h8⟩
    · rw [e]; simp only [if_true]; omega
    · rw [e]; simp; omega
theorem sum_all {dry : Nat} {l : List Int} {D : Nat → Int} {i : Nat} {rs : List (Int × Int × Int)} (h : RsOk dry l D i rs) : sumR dry rs rs.length = D (nI l i).toNat := by
  obtain ⟨n, hn⟩ : ∃ n, rs.length = n + 1 := ⟨rs.length - 1, by have := h.pos; omega⟩
  have h1 := sum_ok h n (by omega)
  obtain ⟨a, ha, h4, h5⟩ := h.at' n (by omega)
  rw [if_pos (by omega)] at h5
  rw [h4, h5.2.2] at h1
  rw [hn]
  simp only [sumR]
  rw [h5.1]
  simpa using h1
/-- the greatest of the first k numbers; -1 for none -/
def lastM (d : Nat → Int) : Nat → Int
  | 0 => -1
  | k + 1 => max (lastM d k) (d k)
theorem lastM_le {d : Nat → Int} {M : Int} : ∀ k, -1 ≤ M → (∀ i, i < k → d i ≤ M) → lastM d k ≤ M
  | 0, h, _ => h
  | k + 1, h, hd => by
    have := lastM_le k h (fun i hi => hd i (by omega))
    have := hd k (by omega)
    simp only [lastM]; omega
theorem lastM_ge {d : Nat → Int} : ∀ k, (∀ i, i < k → d i ≤ lastM d k) ∧ -1 ≤ lastM d k
  | 0 => ⟨fun i h => absurd h (Nat.not_lt_zero i), by simp [lastM]⟩
  | k + 1 => by
    have ih := lastM_ge (d := d) k
    refine ⟨fun i hi => ?_, by have := ih.2; simp only [lastM]; omega⟩
    simp only [lastM]
    rcases Nat.lt_or_ge i k with h | h
    · have := ih.1 i h; omega
    · rw [show i = k by omega]; omega
theorem last_er {G : Gph} {dry : Nat} {l : List Int} (h : ioB G l = true) (h0 : 0 < l.length) : lastM (erF G dry l l.length) G.n = erF G dry l l.length (nI l (l.length - 1)).toNat := by
  have hf := ioB_facts h
  have hlast := hf.2 (l.length - 1) (by omega)
  have hge := (lastM_ge (d := erF G dry l l.length) G.n).1 (nI l (l.length - 1)).toNat (by omega)
  have h00 := er_first (dry := (dry : Int)) h h0
  have hle : lastM (erF G dry l l.length) G.n ≤ erF G dry l l.length (nI l (l.length - 1)).toNat := by
    refine lastM_le _ ?_ fun q hq => ?_
    · by_cases e : l.length = 1
      · rw [show l.length - 1 = 0 by omega, h00]; omega
      · have := er_mono (dry := (dry : Int)) h (show 0 < l.length - 1 by omega) (by omega); omega
    · obtain ⟨j, hj, e⟩ := io_onto h hq
      rw [show q = (nI l j).toNat by omega]
      by_cases e : j = l.length - 1
      · rw [e]; omega
      · have := er_mono (dry := (dry : Int)) h (show j < l.length - 1 by omega) (by omega); omega
  omega
theorem sum_bd {G : Gph} {dry : Nat} {l : List Int} (h : ioB G l = true) (hd : dry ≤ 30) (hn : G.n ≤ 24) {i : Nat} {rs : List (Int × Int × Int)} (hr : RsOk dry l (erF G dry l l.length) i rs) : ∀ k, k ≤ rs.length → 0 ≤ sumR dry rs k ∧ sumR dry rs k ≤ 744 := by
  have hb := erF_bd hd h l.length (Nat.le_refl _)
  have hl := (ioB_facts h).1
  have hbd : ∀ q, erF G dry l l.length q ≤ 744 := fun q => by have := (hb q).2; omega
  have h0 : ∀ k, 0 ≤ sumR dry rs k := fun k => by
    induction k with
    | zero => simp [sumR]
    | succ k ih => simp only [sumR]; split; omega; split <;> omega
  intro k hk
  refine ⟨h0 k, ?_⟩
  rcases Nat.lt_or_ge k rs.length with h' | h'
  · have := sum_ok hr k h'
    have h1 := (hb ((rs.getD k (0, 0, 0)).1).toNat).1
    have h2 := hbd (nI l i).toNat
    omega
  · rw [show k = rs.length by omega, sum_all hr]; exact hbd _
end Go.Proofs.YtiejefehcpfkaaaDoor
