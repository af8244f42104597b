/- Rows of lists that wait: slices that begin within a block, appended to and cut at their beginning; the mathematics of the search for a circle. · The search for a circle, as numbers alone; what stands in memory while it goes on. -/
import Derived.Test.YtiejefehcpfkaaaDoorTz
import Derived.Scope

section
set_option linter.unusedSimpArgs false
set_option linter.unusedVariables false
set_option maxRecDepth 100000
namespace Go.Proofs.YtiejefehcpfkaaaDoor
open Go.RowKit Go.Shelf

attribute [local go_sem] Oper.semAt_some

theorem G_two {P : Program} {md : Region.Mode} {ops : Array Oper} {Q : Exit → Act → World → Prop} {S : World → Prop} {z : Nat} {i j : Nat} {x y : Oper} {m : Nat} {l : Array Bool} {a : Act} {w : World} (hr : Region.ready md ops l = [i, j]) (hx : ops[i]? = some x) (hy : ops[j]? = some y)
    (hw : Region.wanted x (yielded ops a.tmps) = true) (hv : Region.wanted y (yielded ops a.tmps) = true)
    (h : ∀ K : Act → World → Prop, (∀ b v, (i = z ∨ S v) → wpAnyG P md ops Q S z m (l.setIfInBounds i true) b v → K b v) → Oper.wp P x a w K Q)
    (h2 : ∀ K : Act → World → Prop, (∀ b v, (j = z ∨ S v) → wpAnyG P md ops Q S z m (l.setIfInBounds j true) b v → K b v) → Oper.wp P y a w K Q) : wpAnyG P md ops Q S z (m + 1) l a w := by
  refine ⟨fun e => (by rw [hr] at e; cases e), fun k hk => ?_⟩
  rw [hr] at hk
  simp only [List.mem_cons, List.not_mem_nil, or_false] at hk
  rcases hk with rfl | rfl
  · unfold wpOp
    rw [hx]
    simp only [hw, if_true]
    exact .inl (h _ fun b v h1 h2 => ⟨h1, h2⟩)
  · unfold wpOp
    rw [hy]
    simp only [hv, if_true]
    exact .inl (h2 _ fun b v h1 h2 => ⟨h1, h2⟩)

/-- v is a slice of the values vs, of a block g of slices that begins anywhere -/
def Qs (V : World) (B : Nat) (v : Value) (g : Nat) (vs : List Value) : Prop := ∃ off cap cur, v = .slice (some ⟨g, off, none⟩) vs.length cap ∧ B ≤ g ∧ V.heap[g]? = some (.cells cur 31 (0, 0)) ∧ off + cap ≤ cur.size ∧ vs.length ≤ cap ∧ cap ≤ maxLen ∧ (cur.toList.drop off).take vs.length = vs
theorem Qs.lt {V : World} {B : Nat} {v : Value} {g : Nat} {vs : List Value} (h : Qs V B v g vs) : B ≤ g ∧ g < V.heap.size := by
  obtain ⟨off, cap, cur, _, h1, h2, _⟩ := h
  exact ⟨h1, (Array.getElem?_eq_some_iff.1 h2).1⟩
theorem Qs.keep {V V' : World} {B : Nat} {v : Value} {g : Nat} {vs : List Value} (h : Qs V B v g vs) (he : V'.heap[g]? = V.heap[g]?) : Qs V' B v g vs := by
  obtain ⟨off, cap, cur, h0, h1, h2, h3⟩ := h
  exact ⟨off, cap, cur, h0, h1, he.trans h2, h3⟩
theorem Qs.head {V : World} {B : Nat} {v : Value} {g : Nat} {u : Value} {vs : List Value} (h : Qs V B v g (u :: vs)) : ∃ off cap, v = .slice (some ⟨g, off, none⟩) (vs.length + 1) (cap + 1) ∧ V.cell? ⟨g, off, none⟩ = some u ∧
    ∀ off2, off2 = (if cap = 0 then off else off + 1) → Qs V B (.slice (some ⟨g, off2, none⟩) vs.length cap) g vs := by
  obtain ⟨off, cap, cur, h0, h1, h2, h3, h4, h5, h6⟩ := h
  simp only [List.length_cons] at h0 h4 h6
  obtain ⟨cap', rfl⟩ : ∃ c, cap = c + 1 := ⟨cap - 1, by omega⟩
  have hc : off < cur.toList.length := by simp; omega
  have hu : cur.toList[off]? = some u := by
    have e := congrArg (fun l => l[0]?) h6
    simp only [List.getElem?_take, List.getElem?_drop, List.getElem?_cons_zero] at e
    simpa using e
  refine ⟨off, cap', h0, ?_, fun off2 ho => ?_⟩
  · rw [cell_of_row V g off cur _ (0, 0) h2]
    simpa using hu
  · by_cases hz : cap' = 0
    · rw [if_pos hz] at ho
      have hv : vs = [] := List.length_eq_zero_iff.1 (by omega)
      subst hv
      exact ⟨off2, cap', cur, rfl, h1, h2, by omega, by simp, by omega, by simp⟩
    · rw [if_neg hz] at ho
      refine ⟨off2, cap', cur, rfl, h1, h2, by omega, by omega, by omega, ?_⟩
      have e := congrArg List.tail h6
      rw [List.tail_cons, ← List.drop_one, List.drop_take, List.drop_drop] at e
      rw [ho]
      simpa using e
theorem sl_slices : Tryd.prog.underlying 48 = some (.slice 31) := Tryd.underlying48
theorem sl_info : (Tryd.prog.info? 31).map (fun i => (i.zero, i.size, i.bytes)) = some (some (.slice none 0 0), 1, 24) := by kernel_rfl
/-- one more at the end: in the block's room, or in a new block -/
theorem Qs.append {V : World} {B : Nat} {v : Value} {g : Nat} {vs : List Value} (h : Qs V B v g vs) (hB : B ≤ V.heap.size) (hl : vs.length ≤ 1000) (ty : TypeId) (nb c : Nat) (u : Value) (hu : V.cell? ⟨nb, 0, none⟩ = some u) (h1 : u.oneCell' = true) :
    ∃ v' g' V', (Builtin.append_ #[48, 48] ty #[v, .slice (some ⟨nb, 0, none⟩) 1 c]).run Tryd.prog V = .ok v' V' ∧ Qs V' B v' g' (vs ++ [u]) ∧ Mod (fun q => q = g) V V' ∧ (g' = g ∨ g' = V.heap.size) := by
  obtain ⟨i, hi, hz, hs, hby⟩ := info_parts sl_info
  obtain ⟨off, cap, cur, rfl, hg1, hg, h3, h4, h5, h6⟩ := h
  have hn1 : ∀ j w, [u][j]? = some w → V.cell? ((⟨nb, 0, none⟩ : Addr).add j) = some w := by
    intro j w hw
    cases j with
    | zero => simp at hw; subst hw; simpa [Addr.add] using hu
    | succ j => simp at hw
  by_cases hroom : vs.length + 1 ≤ cap
  · have hf := run_firstCells_some (P := Tryd.prog) V i.size 1 ⟨nb, 0, none⟩ 1 c [u] (by simp [hs]) hn1
    have hst := run_storeCells_at Tryd.prog g (off + vs.length) 31 [u] 0 cur V hg (by simp; omega) (by simpa using h1)
    simp only [Nat.add_zero] at hst
    rw [hs] at hf
    refine ⟨.slice (some ⟨g, off, none⟩) (vs.length + 1) cap, g, V.setRow g (cur.toList.take (off + vs.length) ++ [u] ++ cur.toList.drop (off + vs.length + 1)).toArray, ?_, ⟨off, cap, _, by simp, hg1, setRow_heap V g cur _ _ _ hg, ?_, ?_, h5, ?_⟩, ?_, .inl rfl⟩
    · simp [Builtin.append_, run_underlying sl_slices, sizeOf, typeInfo, hi, Builtin.lenOf, hroom, hf, hs, Addr.add_lit, hst]
    · simp; omega
    · simp; omega
    · simp only [List.length_append, List.length_cons, List.length_nil]
      have hlen : (cur.toList.take (off + vs.length)).length = off + vs.length := by rw [List.length_take]; simp; omega
      rw [List.append_assoc, List.drop_append_of_le_length (by omega)]
      have e2 : (List.take (off + vs.length) cur.toList).drop off = vs := by
        rw [List.drop_take, Nat.add_sub_cancel_left]; exact h6
      rw [e2]
      rw [List.take_append]
      simp [List.take_of_length_le (Nat.le_succ vs.length)]
    · exact ⟨⟨rfl, rfl, rfl, by simp, fun k hk => by omega⟩, fun k _ hk => setRow_other V g k _ hk⟩
  · have holds : ∀ j w, vs[j]? = some w → V.cell? ((⟨g, off, none⟩ : Addr).add j) = some w := by
      intro j w hw
      have hadd : (⟨g, off, none⟩ : Addr).add j = ⟨g, off + j, none⟩ := by unfold Addr.add; split <;> simp_all
      rw [hadd, cell_of_row V g (off + j) cur _ (0, 0) hg]
      have hj : j < vs.length := (List.getElem?_eq_some_iff.1 hw).1
      rw [← h6] at hw
      rw [List.getElem?_take, List.getElem?_drop] at hw
      simpa [hj] using hw
    have hr := run_append_grow (P := Tryd.prog) V 48 ty 31 i _ sl_slices hi hz ⟨g, off, none⟩ vs.length cap vs (by simp [hs]) holds ⟨nb, 0, none⟩ 1 c [u] (by simp [hs]) hn1 (by omega) (by omega) (growslice_fits (by omega) (by rw [hby]; omega))
    have hge := grownCap_ge V (vs.length + 1) cap 31
    have hcm := grownCap_le_maxLen V (vs.length + 1) cap 31 (by unfold maxLen; omega)
    refine ⟨_, _, _, hr, ⟨0, _, _, by simp, hB, heap_alloc_new V.drew _, ?_, by simpa using hge, hcm, ?_⟩, ⟨⟨rfl, rfl, rfl, by simp, fun k hk => by omega⟩, fun k hk _ => Below.heap_alloc V.drew _ _ hk⟩, .inr rfl⟩
    · simp [size_zeroCells, Value.cells]; omega
    · simp only [List.drop_zero, Array.toList_append, List.append_assoc]
      rw [← List.append_assoc]
      exact List.take_left
end Go.Proofs.YtiejefehcpfkaaaDoor
end

section
set_option linter.unusedSimpArgs false
set_option linter.unusedVariables false
set_option maxRecDepth 100000
namespace Go.Proofs.YtiejefehcpfkaaaDoor
open Go.RowKit Go.Shelf

attribute [local go_sem] Oper.semAt_some

/-- one round of the search: what was found, what waits, what was seen -/
def biStep (least : Nat) (l : List Nat) (r : Bool × List (List Nat) × Nat) (p : Nat) : Bool × List (List Nat) × Nat :=
  if r.1 then r else if p = least then (true, r.2) else if r.2.2.testBit p then r else (false, r.2.1 ++ [l ++ [p]], r.2.2 ||| 2 ^ p)
def biTo (least : Nat) (l : List Nat) (q : List (List Nat)) (seen : Nat) (done : List Nat) : Bool × List (List Nat) × Nat := done.foldl (biStep least l) (false, q, seen)
theorem biTo_snoc (least : Nat) (l : List Nat) (q : List (List Nat)) (seen : Nat) (done : List Nat) (p : Nat) : biTo least l q seen (done ++ [p]) = biStep least l (biTo least l q seen done) p := by simp [biTo]
theorem biTo_stop (least : Nat) (l : List Nat) (q : List (List Nat)) (seen : Nat) (done : List Nat) (h : (biTo least l q seen done).1 = true) : ∀ rest, biTo least l q seen (done ++ rest) = biTo least l q seen done := by
  intro rest
  have : ∀ (rest : List Nat) (r : Bool × List (List Nat) × Nat), r.1 = true → rest.foldl (biStep least l) r = r := by
    intro rest
    induction rest with
    | nil => intro r _; rfl
    | cons x xs ih =>
      intro r hr
      rw [List.foldl_cons]
      have : biStep least l r x = r := by simp [biStep, hr]
      rw [this]; exact ih r hr
  unfold biTo at h ⊢
  rw [List.foldl_append]; exact this rest _ h
def lastN (l : List Nat) : Nat := l.getLast?.getD 0
/-- the first circle whose least place is given, if there is one: f rounds at most -/
def ciN (af : Nat → Nat) (least : Nat) : Nat → List (List Nat) → Nat → Option (List Nat)
  | 0, _, _ => none
  | _ + 1, [], _ => none
  | f + 1, l :: q, seen => if (biTo least l q seen (bitsOf (af (lastN l)))).1 then some l else ciN af least f (biTo least l q seen (bitsOf (af (lastN l)))).2.1 (biTo least l q seen (bitsOf (af (lastN l)))).2.2
def nf24 (seen : Nat) : Nat := nf 16777215 seen
theorem nf24_less {a p : Nat} (ha : a < 2 ^ 24) (hp : p < 24) (hn : a.testBit p = false) : nf24 (a ||| 2 ^ p) + 1 ≤ nf24 a := by
  have e : (16777215 : Nat) = fst 24 := rfl
  exact nf_less (by omega) ha (by rw [e, bits_fst (by omega)]; exact List.mem_range.2 hp) hn
theorem nf24_le {a : Nat} (ha : a < 2 ^ 24) : nf24 a ≤ 24 := nf_le (by omega) ha
/-- what waits is in order -/
structure BiOk (q : List (List Nat)) (seen f : Nat) : Prop where
  s24 : seen < 2 ^ 24
  ne : ∀ l ∈ q, l ≠ [] ∧ (∀ x ∈ l, x < 24) ∧ l.length + nf24 seen ≤ 25
  ql : q.length + nf24 seen ≤ f
theorem biStep_ok {least p f : Nat} {l : List Nat} {r : Bool × List (List Nat) × Nat} (hl : l ≠ [] ∧ (∀ x ∈ l, x < 24) ∧ l.length + nf24 r.2.2 ≤ 25) (hp : p < 24) (h : BiOk r.2.1 r.2.2 f) :
    BiOk (biStep least l r p).2.1 (biStep least l r p).2.2 f ∧ nf24 (biStep least l r p).2.2 ≤ nf24 r.2.2 := by
  unfold biStep
  split
  · exact ⟨h, Nat.le_refl _⟩
  split
  · exact ⟨h, Nat.le_refl _⟩
  split
  · exact ⟨h, Nat.le_refl _⟩
  · rename_i hs
    have hn := nf24_less h.s24 hp (by simpa using hs)
    refine ⟨⟨or24 h.s24 hp, fun x hx => ?_, ?_⟩, by show nf24 (r.2.2 ||| 2 ^ p) ≤ nf24 r.2.2; omega⟩
    · rcases List.mem_append.1 hx with hx | hx
      · have := h.ne x hx
        exact ⟨this.1, this.2.1, by have := this.2.2; show x.length + nf24 (r.2.2 ||| 2 ^ p) ≤ 25; omega⟩
      · have e : x = l ++ [p] := by simpa using hx
        subst e
        refine ⟨by simp, fun y hy => ?_, ?_⟩
        · rcases List.mem_append.1 hy with hy | hy
          · exact hl.2.1 y hy
          · have : y = p := by simpa using hy
            omega
        · have := hl.2.2
          simp only [List.length_append, List.length_cons, List.length_nil]
          show l.length + 1 + nf24 (r.2.2 ||| 2 ^ p) ≤ 25
          omega
    · have := h.ql
      simp only [List.length_append, List.length_cons, List.length_nil]
      show r.2.1.length + 1 + nf24 (r.2.2 ||| 2 ^ p) ≤ f
      omega
theorem biF_ok {least f : Nat} {l : List Nat} : ∀ (ps : List Nat) (r : Bool × List (List Nat) × Nat), (∀ p ∈ ps, p < 24) → (l ≠ [] ∧ (∀ x ∈ l, x < 24) ∧ l.length + nf24 r.2.2 ≤ 25) → BiOk r.2.1 r.2.2 f →
    BiOk (ps.foldl (biStep least l) r).2.1 (ps.foldl (biStep least l) r).2.2 f ∧ nf24 (ps.foldl (biStep least l) r).2.2 ≤ nf24 r.2.2
  | [], r, _, _, h => ⟨h, Nat.le_refl _⟩
  | p :: ps, r, hp, hl, h => by
    have h1 := biStep_ok (least := least) hl (hp p (by simp)) h
    have h2 := biF_ok (least := least) ps (biStep least l r p) (fun x hx => hp x (by simp [hx])) ⟨hl.1, hl.2.1, by have := hl.2.2; have := h1.2; omega⟩ h1.1
    exact ⟨h2.1, Nat.le_trans h2.2 h1.2⟩
theorem biTo_ok {least f : Nat} {l : List Nat} {q : List (List Nat)} {seen : Nat} (h : BiOk (l :: q) seen (f + 1)) (done : List Nat) (hd : ∀ p ∈ done, p < 24) :
    BiOk (biTo least l q seen done).2.1 (biTo least l q seen done).2.2 f ∧ nf24 (biTo least l q seen done).2.2 ≤ nf24 seen :=
  biF_ok (least := least) done (false, q, seen) hd (h.ne l (by simp)) ⟨h.s24, fun x hx => h.ne x (by simp [hx]), by have := h.ql; simp at this; show q.length + nf24 seen ≤ f; omega⟩
theorem lastN_at {l : List Nat} (h : l ≠ []) : lastN l = l.getD (l.length - 1) 0 := by
  unfold lastN
  rw [List.getLast?_eq_getElem?, List.getD_eq_getElem?_getD]
theorem lastN_24 {l : List Nat} (h : l ≠ []) (hl : ∀ x ∈ l, x < 24) : lastN l < 24 := by
  unfold lastN
  rw [List.getLast?_eq_some_getLast h]
  exact hl _ (List.getLast_mem h)

/-- the values vs are slices of the lists ls, each in a block of its own -/
def Els (V : World) (B : Nat) : List Value → List (List Nat) → Prop
  | [], [] => True
  | v :: vs, l :: ls => V.ownsRow B 3 1 v l.length (natCells l) ∧ Els V B vs ls
  | _, _ => False
theorem Els.len {V : World} {B : Nat} : ∀ {vs : List Value} {ls : List (List Nat)}, Els V B vs ls → vs.length = ls.length
  | [], [], _ => rfl
  | v :: vs, l :: ls, h => by simp [Els.len h.2]
  | [], _ :: _, h => h.elim
  | _ :: _, [], h => h.elim
theorem Els.snoc {V : World} {B : Nat} {v : Value} {l : List Nat} (hv : V.ownsRow B 3 1 v l.length (natCells l)) : ∀ {vs : List Value} {ls : List (List Nat)}, Els V B vs ls → Els V B (vs ++ [v]) (ls ++ [l])
  | [], [], _ => ⟨hv, trivial⟩
  | u :: vs, k :: ls, h => ⟨h.1, Els.snoc hv h.2⟩
  | [], _ :: _, h => h.elim
  | _ :: _, [], h => h.elim
theorem Els.keep {V V' : World} {B : Nat} : ∀ {vs : List Value} {ls : List (List Nat)}, Els V B vs ls → (∀ v ∈ vs, ∀ b, v.ownBlock = some b → b < V.heap.size → V'.heap[b]? = V.heap[b]?) → Els V' B vs ls
  | [], [], _, _ => trivial
  | u :: vs, k :: ls, h, he => ⟨own_keep h.1 (fun b hb => he u (by simp) b hb (h.1.lt b hb).2), Els.keep h.2 (fun v hv => he v (by simp [hv]))⟩
  | [], _ :: _, h, _ => h.elim
  | _ :: _, [], h, _ => h.elim
theorem Els.lt {V : World} {B : Nat} : ∀ {vs : List Value} {ls : List (List Nat)}, Els V B vs ls → ∀ v ∈ vs, ∀ b, v.ownBlock = some b → B ≤ b ∧ b < V.heap.size
  | [], [], _ => fun v hv => by cases hv
  | u :: vs, k :: ls, h => fun v hv b hb => by
    rcases List.mem_cons.1 hv with e | hv
    · subst e; exact h.1.lt b hb
    · exact Els.lt h.2 v hv b hb
  | [], _ :: _, h => h.elim
  | _ :: _, [], h => h.elim
/-- what stands in memory in the search; P: blocks that none of the lists is in, X: blocks that the row of lists is not in -/
structure CiL (w : World) (H sb wb B : Nat) (G : Gph) (least : Nat) (q : List (List Nat)) (seen f : Nat) (P X : Nat → Prop) (V : World) : Prop where
  nw : New w V
  gr : Gr V H G
  ps : V.heap[H + 1]? = some (.cells #[.int .i64 (least : Int)] 3 (0, 0))
  cr : V.heap[H + 2]? = some (.cells #[.slice none 0 0] 31 (0, 0))
  ss : V.heap[sb]? = some (.cells #[sv seen] 79 (0, 0))
  ok : BiOk q seen f
  qs : ∃ qv g vs, V.heap[wb]? = some (.cells #[qv] 48 (0, 0)) ∧ Qs V B qv g vs ∧ Els V B vs q ∧ ¬ P g ∧ ¬ X g ∧ ∀ v ∈ vs, ∀ b, v.ownBlock = some b → ¬ P b ∧ b ≠ g
theorem CiL.mod {w : World} {H sb wb B : Nat} {G : Gph} {least : Nat} {q : List (List Nat)} {seen f : Nat} {P P' X X' O : Nat → Prop} {V V' : World} (h : CiL w H sb wb B G least q seen f P X V) (hm : Mod O V V') (ho : ∀ k, O k → P k ∧ k ≠ H ∧ k ≠ H + 1 ∧ k ≠ H + 2 ∧ k ≠ sb ∧ k ≠ wb ∧ w.heap.size ≤ k)
    (hp : ∀ k, P' k → P k ∨ V.heap.size ≤ k) (hx : ∀ k, X' k → X k ∨ V.heap.size ≤ k) : CiL w H sb wb B G least q seen f P' X' V' := by
  have key : ∀ k o, ¬ O k → V.heap[k]? = some o → V'.heap[k]? = some o := fun k o hk e => (hm.2 k (Array.getElem?_eq_some_iff.1 e).1 hk).trans e
  obtain ⟨qv, g, vs, g1, g2, g3, g4, g5, g6⟩ := h.qs
  refine ⟨Mod.new h.nw hm (fun k hk => (ho k hk).2.2.2.2.2.2), key _ _ (fun h' => (ho _ h').2.1 rfl) h.gr, key _ _ (fun h' => (ho _ h').2.2.1 rfl) h.ps, key _ _ (fun h' => (ho _ h').2.2.2.1 rfl) h.cr, key _ _ (fun h' => (ho _ h').2.2.2.2.1 rfl) h.ss, h.ok, qv, g, vs, key _ _ (fun h' => (ho _ h').2.2.2.2.2.1 rfl) g1, ?_, ?_, ?_, ?_, ?_⟩
  · exact g2.keep (hm.2 g g2.lt.2 (fun h' => g4 (ho _ h').1))
  · exact g3.keep (fun v hv b hb hl => hm.2 b hl (fun h' => (g6 v hv b hb).1 (ho _ h').1))
  · intro h'
    rcases hp _ h' with h' | h'
    · exact g4 h'
    · have := g2.lt.2; omega
  · intro h'
    rcases hx _ h' with h' | h'
    · exact g5 h'
    · have := g2.lt.2; omega
  · intro v hv b hb
    refine ⟨fun h' => ?_, (g6 v hv b hb).2⟩
    rcases hp _ h' with h' | h'
    · exact (g6 v hv b hb).1 h'
    · have := (g3.lt v hv b hb).2; omega
theorem CiL.new {w : World} {H sb wb B : Nat} {G : Gph} {least : Nat} {q : List (List Nat)} {seen f : Nat} {P X : Nat → Prop} {V V' : World} (h : CiL w H sb wb B G least q seen f P X V) (hn : New V V') : CiL w H sb wb B G least q seen f P X V' :=
  h.mod (O := fun _ => False) (Mod.of_new hn) (fun _ h => h.elim) (fun k h => .inl h) (fun k h => .inl h)
/-- .. between two rounds of the loop over the places that a list leads to -/
structure CiI (w : World) (H sb wb B lb : Nat) (G : Gph) (least : Nat) (l : List Nat) (q : List (List Nat)) (seen f : Nat) (v0 : Value) (Ds : List Nat) (D : Nat) (O : Nat → Prop) (done : List Nat) (pc : Option Code) (V : World) : Prop where
  hi : ∀ k, O k → D ≤ k
  sz : D ≤ V.heap.size
  tb : Tab V
  lx : V.heap[lb]? = some (.cells #[v0] 31 (0, 0))
  lo : V.ownsRow B 3 1 v0 l.length (natCells l)
  dm : ∀ D' ∈ Ds, V.heap[D']? = some (.deferred (some []))
  st : (pc = none ∧ (biTo least l q seen done).1 = false ∧ CiL w H sb wb B G least (biTo least l q seen done).2.1 (biTo least l q seen done).2.2 f (fun k => O k ∨ k ∈ Ds ∨ k = lb) (fun k => v0.ownBlock = some k) V) ∨
    (pc = some (.exit 0) ∧ (biTo least l q seen done).1 = true ∧ New w V ∧ V.heap[H + 2]? = some (.cells #[v0] 31 (0, 0)))
theorem CiI.stable {w : World} {H sb wb B lb : Nat} {G : Gph} {least : Nat} {l : List Nat} {q : List (List Nat)} {seen f : Nat} {v0 : Value} {Ds : List Nat} {D : Nat} {O O' : Nat → Prop} {done : List Nat} {pc : Option Code} {V V' : World} (h : CiI w H sb wb B lb G least l q seen f v0 Ds D O done pc V)
    (hD : w.heap.size ≤ D ∧ H + 2 < D ∧ sb < D ∧ wb < D ∧ lb < D ∧ 0 < D) (hDs : ∀ k ∈ Ds, k < D) (hv : ∀ b, v0.ownBlock = some b → b < D) (hm : Mod O V V') (ho : ∀ k, O' k → O k ∨ V.heap.size ≤ k) : CiI w H sb wb B lb G least l q seen f v0 Ds D O' done pc V' := by
  have hno : ∀ k, k < D → ¬ O k := fun k hk h' => by have := h.hi k h'; omega
  have key : ∀ k o, k < D → V.heap[k]? = some o → V'.heap[k]? = some o := fun k o hk e => (hm.2 k (Array.getElem?_eq_some_iff.1 e).1 (hno k hk)).trans e
  refine ⟨fun k hk => (ho k hk).elim (h.hi k) (fun h' => Nat.le_trans h.sz h'), Nat.le_trans h.sz hm.size, h.tb.keep (Keep.of_mod (O' := tabE) hm fun k hk h' => by have := h.hi k h'; unfold tabE at hk; omega) rfl, key _ _ hD.2.2.2.2.1 h.lx, own_keep h.lo (fun b hb => hm.2 b (h.lo.lt b hb).2 (hno b (hv b hb))), fun D' hD' => key _ _ (hDs D' hD') (h.dm D' hD'), ?_⟩
  rcases h.st with ⟨e, g1, g2⟩ | ⟨e, g1, g2, g3⟩
  · refine .inl ⟨e, g1, g2.mod hm (fun k hk => ⟨.inl hk, ?_⟩) (fun k hk => ?_) (fun k hk => .inl hk)⟩
    · have := h.hi k hk; omega
    · rcases hk with hk | hk
      · exact (ho k hk).imp .inl id
      · exact .inl (.inr hk)
  · exact .inr ⟨e, g1, Mod.new g2 hm (fun k hk => Nat.le_trans hD.1 (h.hi k hk)), key _ _ hD.2.1 g3⟩
theorem wp_append_qs {o : Oper} {a : Act} {K : Act → World → Prop} {Q : Exit → Act → World → Prop} (V : World) (s x : Operand) (ho : o.op = .call { callee := .builtin .append, args := #[s, x], argTypes := #[48, 48] })
    {B : Nat} {v : Value} {g : Nat} {vs : List Value} (hs : a.eval s = v) (h : Qs V B v g vs) (hB : B ≤ V.heap.size) (hl : vs.length ≤ 1000) (nb c : Nat) (u : Value) (hx : a.eval x = .slice (some ⟨nb, 0, none⟩) 1 c) (hu : V.cell? ⟨nb, 0, none⟩ = some u) (h1 : u.oneCell' = true)
    (hK : ∀ v' g' V', Qs V' B v' g' (vs ++ [u]) → Mod (fun q => q = g) V V' → (g' = g ∨ g' = V.heap.size) → K (a.put o.dst v') V') : o.wp Tryd.prog a V K Q := by
  obtain ⟨v', g', V', hr, h2, h3, h4⟩ := h.append hB hl o.type nb c u hu h1
  unfold Oper.wp execOp
  simp only [ho, resolve, invoke, builtin, Sem.run_bind, Sem.run_pure, Result.andThen_ok, List.map_toArray, List.map_cons, List.map_nil, hs, hx, hr]
  exact hK v' g' V' h2 h3 h4
theorem own_type {V : World} {B n b k : Nat} {v : Value} {xs : List Value} {cs : Array Value} {t : TypeId} (h : V.ownsRow B 3 1 v n xs) (hb : v.ownBlock = some b) (hk : V.heap[k]? = some (.cells cs t (0, 0))) (ht : t ≠ 3) : b ≠ k := by
  intro e
  subst e
  rcases h.2 with ⟨rfl, _⟩ | ⟨g, cap, cur, rfl, _, hg, _⟩
  · simp [Value.ownBlock] at hb
  · simp [Value.ownBlock] at hb
    subst hb
    rw [hg] at hk
    simp at hk
    exact ht hk.2.symm
theorem own_mark {V : World} {B n b k : Nat} {v : Value} {xs : List Value} {o : Option (List Deferred)} (h : V.ownsRow B 3 1 v n xs) (hb : v.ownBlock = some b) (hk : V.heap[k]? = some (.deferred o)) : b ≠ k := by
  intro e
  subst e
  rcases h.2 with ⟨rfl, _⟩ | ⟨g, cap, cur, rfl, _, hg, _⟩
  · simp [Value.ownBlock] at hb
  · simp [Value.ownBlock] at hb
    subst hb
    rw [hg] at hk
    simp at hk
theorem Els.own {V : World} {B : Nat} : ∀ {vs : List Value} {ls : List (List Nat)}, Els V B vs ls → ∀ v ∈ vs, ∃ l : List Nat, V.ownsRow B 3 1 v l.length (natCells l)
  | [], [], _ => fun v hv => by cases hv
  | u :: vs, k :: ls, h => fun v hv => by
    rcases List.mem_cons.1 hv with e | hv
    · subst e; exact ⟨k, h.1⟩
    · exact Els.own h.2 v hv
  | [], _ :: _, h => h.elim
  | _ :: _, [], h => h.elim
/-- one more list waits -/
theorem CiL.push {w : World} {H sb wb B : Nat} {G : Gph} {least : Nat} {q1 : List (List Nat)} {seen1 seen2 f : Nat} {P X : Nat → Prop} {V2 W5 W8 V10 : World} {qv v' ne : Value} {g g' : Nat} {vs : List Value} {l2 : List Nat} (h : CiL w H sb wb B G least q1 seen1 f P X V2)
    (hH : w.heap.size = H) (hB : H + 2 < B ∧ B ≤ sb ∧ B ≤ wb) (hq1 : V2.heap[wb]? = some (.cells #[qv] 48 (0, 0))) (hq2 : Qs V2 B qv g vs) (hq3 : Els V2 B vs q1) (hq4 : ¬ P g) (hq5 : ¬ X g) (hq6 : ∀ v ∈ vs, ∀ b, v.ownBlock = some b → ¬ P b ∧ b ≠ g)
    (hm5 : Mod (fun k => k = sb) V2 W5) (hss : W5.heap[sb]? = some (.cells #[sv seen2] 79 (0, 0))) (hn8 : New W5 W8) (hne : W8.ownsRow W5.heap.size 3 1 ne l2.length (natCells l2))
    (hv1 : Qs V10 B v' g' (vs ++ [ne])) (hv2 : Mod (fun k => k = g) W8 V10) (hv3 : g' = g ∨ g' = W8.heap.size) (hok : BiOk (q1 ++ [l2]) seen2 f) (hP : ∀ k, P k → k < V2.heap.size) (hX : ∀ k, X k → k < V2.heap.size) (hsw : sb ≠ wb) :
    CiL w H sb wb B G least (q1 ++ [l2]) seen2 f P X (V10.setCell ⟨wb, 0, none⟩ v') ∧ Mod (fun k => k = sb ∨ k = g ∨ k = wb) V2 (V10.setCell ⟨wb, 0, none⟩ v') := by
  obtain ⟨W11, hW11⟩ : ∃ W11, W11 = V10.setCell ⟨wb, 0, none⟩ v' := ⟨_, rfl⟩
  rw [← hW11]
  have hgs : g ≠ sb ∧ g ≠ wb := by
    obtain ⟨off, cap, cur, _, _, c1, _⟩ := hq2
    refine ⟨fun e => ?_, fun e => ?_⟩
    · rw [e, h.ss] at c1; simp at c1
    · rw [e, hq1] at c1; simp at c1
  have hgB := hq2.lt
  have hz5 := hm5.size
  have hz8 := hn8.size
  have hz10 := hv2.size
  have m11 : Mod (fun k => k = wb) V10 W11 := by rw [hW11]; exact Mod.setCell _ _ _ _ rfl
  have hm : Mod (fun k => k = sb ∨ k = g ∨ k = wb) V2 W11 := (hm5.mono fun k hk => .inl hk).trans ((Mod.of_new hn8).trans ((hv2.mono fun k hk => .inr (.inl hk)).trans (m11.mono fun k hk => .inr (.inr hk))))
  have key : ∀ k o, k ≠ sb → k ≠ g → k ≠ wb → V2.heap[k]? = some o → W11.heap[k]? = some o := fun k o h1 h2 h3 e => (hm.2 k (Array.getElem?_eq_some_iff.1 e).1 (fun h' => h'.elim h1 (fun h' => h'.elim h2 h3))).trans e
  have hss8 := row_new hss hn8
  have hss10 := (hv2.2 sb (Array.getElem?_eq_some_iff.1 hss8).1 (fun e => hgs.1 e.symm)).trans hss8
  have hwb5 := (hm5.2 wb (Array.getElem?_eq_some_iff.1 hq1).1 (fun e => hsw e.symm)).trans hq1
  have hwb8 := row_new hwb5 hn8
  have hwb10 := (hv2.2 wb (Array.getElem?_eq_some_iff.1 hwb8).1 (fun e => hgs.2 e.symm)).trans hwb8
  have hnew : New w W11 := Mod.new h.nw hm (fun k hk => by rw [hH]; omega)
  have hg'B := hv1.lt
  have hnb : ∀ b, ne.ownBlock = some b → W5.heap.size ≤ b ∧ b < W8.heap.size := fun b hb => hne.lt b hb
  have hwlt := (Array.getElem?_eq_some_iff.1 hq1).1
  have hslt := (Array.getElem?_eq_some_iff.1 h.ss).1
  refine ⟨⟨hnew, key _ _ (by omega) (by omega) (by omega) h.gr, key _ _ (by omega) (by omega) (by omega) h.ps, key _ _ (by omega) (by omega) (by omega) h.cr, by rw [hW11]; exact (heap_setCell_other _ _ _ _ _ hsw).trans hss10, hok, v', g', vs ++ [ne], by rw [hW11]; exact heap_setCell_same _ _ 0 _ hwb10, ?_, ?_, ?_, ?_, ?_⟩, hm⟩
  · refine hv1.keep ?_
    rw [hW11]
    exact heap_setCell_other _ _ _ _ _ (by omega)
  · refine Els.snoc ?_ (hq3.keep fun v hv b hb hl => ?_)
    · have e : W11.ownsRow W5.heap.size 3 1 ne l2.length (natCells l2) := own_keep hne (fun b hb => by
        have := hnb b hb
        rw [hW11]
        exact (heap_setCell_other _ _ _ _ _ (by omega)).trans (hv2.2 b this.2 (by omega)))
      exact own_base e (by omega)
    · obtain ⟨l3, ho⟩ := hq3.own v hv
      have t1 := own_type ho hb h.ss (by decide)
      have t2 := own_type ho hb hq1 (by decide)
      exact hm.2 b hl (fun h' => h'.elim t1 (fun h' => h'.elim (hq6 v hv b hb).2 t2))
  · intro h'
    rcases hv3 with e | e
    · exact hq4 (e ▸ h')
    · have := hP _ h'; omega
  · intro h'
    rcases hv3 with e | e
    · exact hq5 (e ▸ h')
    · have := hX _ h'; omega
  · intro v hv b hb
    rcases List.mem_append.1 hv with hv | hv
    · have h6 := hq6 v hv b hb
      have hlb := (hq3.lt v hv b hb).2
      exact ⟨h6.1, fun e => by rcases hv3 with e2 | e2 <;> omega⟩
    · have e : v = ne := by simpa using hv
      subst e
      have h7 := hnb b hb
      exact ⟨fun h' => by have := hP _ h'; omega, fun e => by rcases hv3 with e2 | e2 <;> omega⟩
theorem wpListIn_slice_run {F : Fence} {n : Nat} {P : Program} {ops : Array Oper} {rest : List Oper} {o : Oper} {a : Act} {w : World} {Q : Exit → Act → World → Prop} (hg : o.guard = none) (ty : TypeId) (x lo : Operand) (ho : o.op = .slice ty x (some lo) none none) {v : Value} (hrun : (Instr.sliceAt ty (a.eval x) (some (a.eval lo)) none none).run P w = .ok v w)
    (h : wpListIn F n P ops Q rest (a.put o.dst v) w) : wpListIn F n P ops Q (o :: rest) a w := by
  refine wpListIn_plain hg fun K hK' => ?_
  unfold Oper.wpIn
  refine ⟨by simp [Oper.about, ho], ?_⟩
  rw [Oper.semAt_plain F _ _ (by rw [ho]; intro c hc'; cases hc')]
  simp [execOp, ho, hrun, Result.andThen]
  exact hK' _ _ h
theorem sl_elem : Tryd.prog.elem 48 = 31 := by kernel_rfl
theorem run_tail (g off n cap : Nat) (W : World) : (Instr.sliceAt 48 (.slice (some ⟨g, off, none⟩) (n + 1) (cap + 1)) (some (.int .i64 1)) none none).run Tryd.prog W = .ok (.slice (some ⟨g, if cap = 0 then off else off + 1, none⟩) n cap) W := by
  obtain ⟨i, hi, hz, hs, hby⟩ := info_parts sl_info
  unfold Instr.sliceAt Instr.slice
  by_cases h0 : cap = 0
  · subst h0
    simp [go_sem, run_underlying sl_slices, sizeOf, typeInfo, hi, hs, Instr.sliceBounds, Instr.sliceBound, Addr.add]
    intro hh; omega
  · have h1 : ¬ (cap + 1 = 1) := by omega
    simp [go_sem, run_underlying sl_slices, sizeOf, typeInfo, hi, hs, Instr.sliceBounds, Instr.sliceBound, Addr.add, h0]
    intro hh; omega
theorem stepR_scope {P : Program} {b : Frame} {a : Act} {k : List Item} {cs : List Frame} {w : World} {c : Code} : step P (lone (b.atR a (.code (.scope c) :: k)) cs w) = .next (lone (b.atR a (.code c :: .inScope c :: k)) cs w) :=
  step_lone_go (by simp [stepG, stepG.exec, Frame.atR])
theorem stepR_inScope {P : Program} {b : Frame} {a : Act} {k : List Item} {cs : List Frame} {w : World} {c : Code} : step P (lone (b.atR a (.inScope c :: k)) cs w) = .next (lone (b.atR a k) cs w) :=
  step_lone_go (by simp [stepG, stepG.exec, Frame.atR])
/-- a scope through which the run goes without a goto -/
theorem wpIn_scope {F : Fence} {n : Nat} {P : Program} {Q : Exit → Act → World → Prop} {a : Act} {w : World} {c : Code} (h : c.wpIn F n P (Exit.noGoto Q) a w) : (Code.scope c).wpIn F n P Q a w := by
  intro b k cs hro hb hr
  have h0 : (lone (b.atR a (.code (.scope c) :: k)) cs w).fenced P F := fenced_calm hb hr rfl
  obtain ⟨e, a₁, w₁, hq, harr⟩ := h b (.inScope c :: k) cs hro hb hr
  cases e with
  | normal => exact ⟨.normal, a₁, w₁, hq, .head h0 stepR_scope (StepsIn.trans harr (.one (fenced_calm hb hr rfl) stepR_inScope))⟩
  | exit id =>
    have hx : exitTo id (.inScope c :: k) = exitTo id k := by simp [exitTo]
    exact ⟨.exit id, a₁, w₁, hq, fun k' hk => .head h0 stepR_scope (harr.1 k' (by rw [hx]; exact hk)),
      fun hr' hk => let ⟨k₁, h1, h2⟩ := harr.2 hr' (by rw [hx]; exact hk); ⟨k₁, h1, .head h0 stepR_scope h2⟩⟩
  | goto l => exact hq.elim
  | ret => exact ⟨_, a₁, w₁, hq, .of_steps (.one h0 stepR_scope) harr⟩
  | panic ch => exact ⟨_, a₁, w₁, hq, .of_steps (.one h0 stepR_scope) harr⟩
  | outgrown => exact ⟨_, a₁, w₁, hq, .of_steps (.one h0 stepR_scope) harr⟩
end Go.Proofs.YtiejefehcpfkaaaDoor
end
