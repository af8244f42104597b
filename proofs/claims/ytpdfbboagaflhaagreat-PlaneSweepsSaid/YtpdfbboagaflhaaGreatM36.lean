/- Words for what Sweep makes: the segments of a strip by their heights. -/
import Derived.Test.YtpdfbboagaflhaaGreatM30
import Derived.Test.YtpdfbboagaflhaaGreatM32
import Derived.Test.YtpdfbboagaflhaaGreatM35

namespace Go.Proofs.YtpdfbboagaflhaaGreat
open Go.RowKit

instance (h : H3) : Decidable (hOk h) := by unfold hOk; infer_instance
def toHB (h : H3) : HB := if p : hOk h then ⟨h, p⟩ else default
theorem toHB_val {h : H3} (p : hOk h) : (toHB h).1 = h := by unfold toHB; rw [dif_pos p]
/-- the numbers of the segments of strip k, ascending -/
def spanI (l : List S4) (k : Nat) : List Int := spanTo l (xAt l k) (xAt l (k + 1)) l.length
def spanN (l : List S4) (k : Nat) : List Nat := (spanI l k).map Int.toNat
/-- their heights in the middle of the strip -/
def pileL (l : List S4) (k : Nat) : List H3 := heightsTo l (spanN l k) (xAt l k + xAt l (k + 1)) (spanI l k).length
def pileS (l : List S4) (k : Nat) : List HB := sortH ((pileL l k).map toHB)
/-- the numbers of the segments of strip k by their heights -/
def segsL (l : List S4) (k : Nat) : List Int := (pileS l k).map fun h => h.1.2.2
theorem spanTo_mem (l : List S4) (f t : Int) : ∀ (n : Nat) (x : Int), x ∈ spanTo l f t n → 0 ≤ x ∧ x < n
  | 0, x, h => by simp [spanTo] at h
  | n + 1, x, h => by
    simp only [spanTo] at h
    split at h
    · rcases List.mem_append.1 h with h | h
      · have := spanTo_mem l f t n x h; omega
      · simp at h; omega
    · have := spanTo_mem l f t n x h; omega
theorem spanN_length (l : List S4) (k : Nat) : (spanN l k).length = (spanI l k).length := by simp [spanN]
theorem spanN_at (l : List S4) (k i : Nat) (h : i < (spanI l k).length) : (nat (spanN l k) i : Int) = (spanI l k).getD i 0 ∧ nat (spanN l k) i < l.length := by
  have hm := spanTo_mem l _ _ _ _ (List.getElem_mem h)
  have e : nat (spanN l k) i = ((spanI l k)[i]).toNat := by
    simp [nat, spanN, List.getD_eq_getElem?_getD, List.getElem?_map, List.getElem?_eq_getElem h]
  rw [e]
  rw [List.getD_eq_getElem?_getD, List.getElem?_eq_getElem h, Option.getD_some]
  unfold spanI at hm ⊢
  omega
theorem nats_own {w : World} {base g n cap : Nat} {l : List S4} {k : Nat} (h : w.ownsRow base 3 1 (.slice (some ⟨g, 0, none⟩) n cap) n (inCells (spanI l k))) (hn : (spanI l k).length = n) : Nats w g 0 n (spanN l k) := by
  refine ⟨by rw [spanN_length, hn], (h.lt g rfl).2, fun i hi => ?_⟩
  have h1 := (own_cell h (inCells_at (spanI l k) i (by omega))).1
  rw [Nat.zero_add, h1, (spanN_at l k i (by omega)).1]
theorem pileL_length (l : List S4) (k : Nat) : (pileL l k).length = (spanI l k).length := heightsTo_length _ _ _ _
theorem size_sortH (l : List HB) : (sortH l).length = l.length := by
  unfold sortH Go.Sort.insertionSort
  rw [Array.length_toList, size_insOuter _ 0 _ l.length _ _ (by omega), List.size_toArray]
theorem pileS_length (l : List S4) (k : Nat) : (pileS l k).length = (spanI l k).length := by unfold pileS; rw [size_sortH, List.length_map, pileL_length]
theorem segsL_length (l : List S4) (k : Nat) : (segsL l k).length = (spanI l k).length := by unfold segsL; rw [List.length_map, pileS_length]
theorem map_toHB {l : List H3} (h : ∀ x ∈ l, hOk x) : (l.map toHB).map Subtype.val = l := by
  induction l with
  | nil => rfl
  | cons s l ih =>
    rw [List.map_cons, List.map_cons, toHB_val (h s (List.mem_cons_self ..)), ih (fun x hx => h x (List.mem_cons_of_mem _ hx))]

theorem info84 : (Tryz.prog.info? 84).map (fun i => (i.zero, i.size, i.bytes)) = some (some (.agg #[.int .i64 0, .int .i64 0, .slice none 0 0]), 3, 40) := by kernel_rfl
/-- the cells of the first k strips, whose slices are vs -/
def stripCells (l : List S4) (vs : List Value) : Nat → List Value
  | 0 => []
  | k + 1 => stripCells l vs k ++ [.int .i64 (xAt l k), .int .i64 (xAt l (k + 1)), vs.getD k undef]
theorem stripCells_ext (l : List S4) (vs : List Value) (v : Value) : ∀ k, k ≤ vs.length → stripCells l (vs ++ [v]) k = stripCells l vs k
  | 0, _ => rfl
  | k + 1, h => by
    simp only [stripCells]
    rw [stripCells_ext l vs v k (by omega)]
    simp [List.getD_eq_getElem?_getD, List.getElem?_append, show k < vs.length by omega]

theorem endXsL_le (l : List S4) : (endXsL l).length ≤ 2 * l.length := by
  have h1 := compact_le (sortI (xsTo l l.length))
  rw [sortI_length, xsTo_length] at h1
  exact h1
def h1 (l : List H3) (i : Nat) : Int := (l.getD i (0, 0, 0)).1
def h2 (l : List H3) (i : Nat) : Int := (l.getD i (0, 0, 0)).2.1
def h3 (l : List H3) (i : Nat) : Int := (l.getD i (0, 0, 0)).2.2
theorem htCells_at (l : List H3) : ∀ (i : Nat), i < l.length → (htCells l)[i * 3]? = some (.int .i64 (h1 l i)) ∧ (htCells l)[i * 3 + 1]? = some (.int .i64 (h2 l i)) ∧ (htCells l)[i * 3 + 2]? = some (.int .i64 (h3 l i)) := by
  induction l with
  | nil => intro i h; simp at h
  | cons s l ih =>
    intro i h
    have e : htCells (s :: l) = [.int .i64 s.1, .int .i64 s.2.1, .int .i64 s.2.2] ++ htCells l := by simp [htCells]
    cases i with
    | zero => rw [e]; exact ⟨rfl, rfl, rfl⟩
    | succ i =>
      have hh := ih i (by simpa using h)
      rw [e, show (i + 1) * 3 = i * 3 + 3 by omega]
      have f : ∀ j, ([Value.int .i64 s.1, .int .i64 s.2.1, .int .i64 s.2.2] ++ htCells l)[i * 3 + 3 + j]? = (htCells l)[i * 3 + j]? := by
        intro j
        rw [List.getElem?_append_right (by simp; omega)]
        congr 1; simp; omega
      have g1 := f 0; have g2 := f 1; have g3 := f 2
      simp only [Nat.add_zero] at g1
      rw [g1, g2, g3]
      simpa [h1, h2, h3] using hh
/-- the first j numbers of one list, and the others of another -/
def mixI (s0 s1 : List Int) (j : Nat) : List Int := s1.take j ++ s0.drop j
theorem mixI_zero (s0 s1 : List Int) : mixI s0 s1 0 = s0 := by simp [mixI]
theorem mixI_all {s0 s1 : List Int} {q : Nat} (h0 : s0.length = q) (h1 : s1.length = q) : mixI s0 s1 q = s1 := by simp [mixI, List.take_of_length_le (Nat.le_of_eq h1), List.drop_of_length_le (Nat.le_of_eq h0)]
theorem mixI_set {s0 s1 : List Int} {q j : Nat} (h0 : s0.length = q) (h1 : s1.length = q) (hj : j < q) : (inCells (mixI s0 s1 j)).set j (.int .i64 (s1.getD j 0)) = inCells (mixI s0 s1 (j + 1)) := by
  have hl : (s1.take j).length = j := by rw [List.length_take]; omega
  have e0 : s0.drop j = s0.getD j 0 :: s0.drop (j + 1) := by
    rw [List.drop_eq_getElem_cons (by omega)]; simp [List.getD_eq_getElem?_getD, show j < s0.length by omega]
  have e1 : s1.take (j + 1) = s1.take j ++ [s1.getD j 0] := by
    rw [List.take_succ_eq_append_getElem (by omega)]; simp [List.getD_eq_getElem?_getD, show j < s1.length by omega]
  unfold mixI inCells
  rw [e1, e0, List.map_append, List.map_append, List.map_append, List.set_append_right _ _ (by rw [List.length_map, hl]; exact Nat.le_refl _), List.length_map, hl, Nat.sub_self]
  simp
theorem segsL_at (l : List S4) (k j : Nat) (h : j < (spanI l k).length) : h3 ((pileS l k).map Subtype.val) j = (segsL l k).getD j 0 := by
  have hl := pileS_length l k
  simp [h3, segsL, List.getD_eq_getElem?_getD, show j < (pileS l k).length by omega]

end Go.Proofs.YtpdfbboagaflhaaGreat

/- A range over a function value whose body never leaves early, at the wide fence: one round, and the whole. Plain lemmas over any program. -/
namespace Go.Proofs.YtpdfbboagaflhaaGreat
open Go.RowKit Go.Shelf

section
variable {P : Program} {n : Nat} {F : Fence}

/-- the loop's record -/
def recOf (a : Act) (D : Nat) (fn : FuncId) (p1 : Tmp) (assign body : Code) (st : LoopState) : Loop := { state := st, pending := none, fn := fn, tmps := a.tmps, params := #[p1], assign := assign, body := body, defers := D }

theorem yield_round (hFn : ∀ f, F.fn f) {a : Act} {D lp : Nat} {fn : FuncId} {p1 : Tmp} {assign body : Code} {W : World} {x : Value} {R : Ending → World → Prop}
    (hrec : W.heap[lp]? = some (.loop (recOf a D fn p1 assign body .ready)))
    (hwalk : assign.wpIn (F.inRound lp) n P (Exit.then (fun a1 W1 => W1.heap[lp]? = some (.loop (recOf a D fn p1 assign body .ready)) ∧
      body.wpIn (F.inRound lp) n P (fun e _ W3 => e = .normal ∧ W3.heap[lp]? = some (.loop (recOf a D fn p1 assign body .busy)) ∧ R (.returned (.bool true)) (W3.putObj lp (.loop (recOf a D fn p1 assign body .ready)))) a1 (W1.putObj lp (.loop (recOf a D fn p1 assign body .busy)))) (fun _ _ _ => False))
      { tmps := a.tmps.setIfInBounds p1 x, defers := [] } W) : YieldAt F n P lp #[x] W R := by
  refine ⟨fn, a.tmps.setIfInBounds p1 x, assign, body, ?_, roundIn_of_wpIn (hFn _) (wpIn_mono hwalk ?_)⟩
  · have := run_yield (P := P) (args := #[x]) hrec rfl
    simpa [recOf] using this
  · intro e a1 W1 h
    cases e with
    | normal =>
      obtain ⟨hl, hb⟩ := h
      refine ⟨_, run_beginRound hl rfl, wpIn_mono hb ?_⟩
      rintro e a3 W3 ⟨rfl, hl3, hR⟩
      have h3 := run_endRound (P := P) none hl3
      exact ⟨_, _, h3, hR⟩
    | _ => exact h

theorem range_whole (hro : F.round = none) (hFn : ∀ f, F.fn f) {g : Operand} {p1 : Tmp} {assign body : Code} {Q : Exit → Act → World → Prop} {a : Act} {w : World} {gf : Nat} {lb : Array Value} (h1 : 1 ≤ n) (hg : a.eval g = .func (.func gf) #[] lb) (eg : ∀ args w, (callFunc gf args).run P w = .ok (.enter gf args) w)
    (Fin : World → Prop)
    (hit : ∀ fn W1, W1 = (w.alloc (.deferred (some []))).alloc (.loop (recOf a w.heap.size fn p1 assign body .ready)) →
      CallsIn F (n - 1) P gf (#[.func (.yield (w.heap.size + 1)) #[] #[]] ++ lb) W1 fun e W' => (∃ v, e = .returned v) ∧ Fin W' ∧ W'.heap[w.heap.size + 1]? = some (.loop (recOf a w.heap.size fn p1 assign body .ready)))
    (hdone : ∀ (W : World) (o : Obj), Fin W → Q .normal { a with defers := { target := .collected w.heap.size, args := #[] } :: a.defers } (W.putObj (w.heap.size + 1) o)) :
    (Code.rangeFunc g #[p1] assign body).wpIn F n P Q a w := by
  refine wpIn_rangeFunc ?_
  intro fn _
  rw [hro]
  obtain ⟨W1, hW1⟩ : ∃ W1, W1 = (w.alloc (.deferred (some []))).alloc (.loop (recOf a w.heap.size fn p1 assign body .ready)) := ⟨_, rfl⟩
  refine ⟨w.heap.size + 1, [{ target := .collected w.heap.size, args := #[] }], W1, { target := .fn (.func gf) lb, args := #[.func (.yield (w.heap.size + 1)) #[] #[]] }, W1, gf,
    #[.func (.yield (w.heap.size + 1)) #[] #[]] ++ lb, W1, ?_, ?_, ?_, ?_, fun _ => h1, ?_⟩
  · rw [hW1]; exact run_enterLoop_outer _ _ _ _ _
  · simp only [resolve, hg]
    simp [go_sem]
  · exact fun f' _ => hFn f'
  · simp [invoke, go_sem, eg]
  · refine (hit fn W1 hW1).mono ?_
    rintro e W' ⟨⟨v, rfl⟩, hF, hl⟩
    exact ⟨none, _, run_endLoop (P := P) hl (by simp [recOf]), hdone _ _ hF⟩
end

theorem name_putObj {P : Program} {n : Nat} {F : Fence} {c : Code} {Q : Exit → Act → World → Prop} {a : Act} {W : World} {l : Nat} {o : Obj} (h : ∀ Wb, Wb = W.putObj l o → c.wpIn F n P Q a Wb) : c.wpIn F n P Q a (W.putObj l o) := h _ rfl
theorem putObj_at {W Wb : World} {l : Nat} {o : Obj} (h : Wb = W.putObj l o) (hl : l < W.heap.size) : Wb.heap[l]? = some o := by rw [h]; exact World.putObj_heap_same hl
theorem own_ne {w : World} {base : Nat} {e : TypeId} {size n : Nat} {v : Value} {xs : List Value} (h : w.ownsRow base e size v n xs) {s : Nat} {o : Obj} (hs : w.heap[s]? = some o) (ho : ∀ cur, o ≠ .cells cur e (0, 0)) : v.ownBlock ≠ some s := by
  rcases h.2 with ⟨rfl, _⟩ | ⟨g, cap, cur, rfl, _, h2, _⟩
  · simp [Value.ownBlock]
  · simp only [Value.ownBlock, ne_eq, Option.some.injEq]
    intro e
    rw [e, hs] at h2
    injection h2 with h3
    exact ho cur h3
theorem own_keep {w w' : World} {base : Nat} {e : TypeId} {size n : Nat} {v : Value} {xs : List Value} (h : w.ownsRow base e size v n xs) (hk : ∀ g, v.ownBlock = some g → w'.heap[g]? = w.heap[g]?) : w'.ownsRow base e size v n xs :=
  ⟨h.1, h.2.imp (fun h => h) fun ⟨x1, x2, x3, x4, x5, x6, x7⟩ => ⟨x1, x2, x3, x4, x5, by rw [hk x1 (by rw [x4]; rfl)]; exact x6, x7⟩⟩
theorem box_cell {w : World} {B : Nat} {t : TypeId} {v : Value} (h : w.heap[B]? = some (.cells #[v] t (0, 0))) : w.cell? ⟨B, 0, none⟩ = some v ∧ w.frozen? ⟨B, 0, none⟩ = false := by
  constructor
  · rw [cell_of_row w B 0 #[v] t (0, 0) h]; rfl
  · simp [World.frozen?, h]
theorem alloc2_new {w W1 : World} {o1 o2 : Obj} (h : W1 = (w.alloc o1).alloc o2) : W1.heap[w.heap.size + 1]? = some o2 := by
  rw [h]; have := World.alloc_heap_new (w.alloc o1) o2; rwa [World.size_alloc] at this
theorem new_putObj {w W : World} (h : New w W) {l : Nat} (o : Obj) (hl : w.heap.size ≤ l) : New w (W.putObj l o) := by
  obtain ⟨h1, h2, h3, h4, h5⟩ := h.below
  exact New.of_below ⟨h1, h2, h3, by rw [World.putObj_size]; exact h4, fun k hk => (World.putObj_heap_other (by omega)).trans (h5 k hk)⟩
theorem putObj_heap (W : World) (l k : Nat) (o : Obj) (h : k ≠ l) : (W.putObj l o).heap[k]? = W.heap[k]? := World.putObj_heap_other h

end Go.Proofs.YtpdfbboagaflhaaGreat
