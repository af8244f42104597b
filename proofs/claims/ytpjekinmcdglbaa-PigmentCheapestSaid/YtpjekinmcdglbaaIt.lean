/- Functions that are ranged over: an iterator that calls yield for each element of a list, whatever the body of the loop keeps; the loop over it, which its body may leave by a return. Plain lemmas over any program. -/
import Derived.Test.YtpjekinmcdglbaaOw
set_option linter.unusedSimpArgs false
set_option linter.unusedVariables false
namespace Go.Proofs.Ytpjekinmcdglbaa
open Go.RowKit

/-- W' is W but for the blocks O, and new ones -/
def Mod (O : Nat → Prop) (W W' : World) : Prop := Below 0 W W' ∧ ∀ k, k < W.heap.size → ¬ O k → W'.heap[k]? = W.heap[k]?
/-- the blocks O lie in W' as in W -/
def Keep (O : Nat → Prop) (W W' : World) : Prop := Below 0 W W' ∧ ∀ k, O k → k < W.heap.size → W'.heap[k]? = W.heap[k]?
theorem Mod.refl (O : Nat → Prop) (W : World) : Mod O W W := ⟨Below.refl _ _, fun _ _ _ => rfl⟩
theorem Mod.trans {O : Nat → Prop} {A B C : World} (h : Mod O A B) (k : Mod O B C) : Mod O A C :=
  ⟨h.1.trans k.1, fun i hi ho => (k.2 i (Nat.lt_of_lt_of_le hi h.1.size) ho).trans (h.2 i hi ho)⟩
theorem Mod.size {O : Nat → Prop} {A B : World} (h : Mod O A B) : A.heap.size ≤ B.heap.size := h.1.size
theorem Mod.mono {O O' : Nat → Prop} {A B : World} (h : Mod O A B) (ho : ∀ k, O k → O' k) : Mod O' A B := ⟨h.1, fun k hk hn => h.2 k hk (fun h' => hn (ho k h'))⟩
theorem Mod.of_new {O : Nat → Prop} {A B : World} (h : New A B) : Mod O A B :=
  ⟨⟨h.below.os, h.below.tape, h.below.output, h.size, fun k hk => by omega⟩, fun k hk _ => h.below.block k hk⟩
theorem Mod.new {O : Nat → Prop} {w A B : World} (h : New w A) (k : Mod O A B) (ho : ∀ k, O k → w.heap.size ≤ k) : New w B :=
  New.of_below ⟨k.1.os.trans h.below.os, k.1.tape.trans h.below.tape, k.1.output.trans h.below.output, Nat.le_trans h.size k.size, fun i hi => (k.2 i (Nat.lt_of_lt_of_le hi h.size) (fun h' => by have := ho i h'; omega)).trans (h.below.block i hi)⟩
theorem Mod.setCell {O : Nat → Prop} (A : World) (g j : Nat) (v : Value) (hg : O g) : Mod O A (A.setCell ⟨g, j, none⟩ v) :=
  ⟨⟨rfl, rfl, rfl, by show _ ≤ (A.heap.modify _ _).size; simp, fun k hk => by omega⟩, fun k hk hn => heap_setCell_other A g j k v (fun e => hn (e ▸ hg))⟩
theorem Mod.putObj {O : Nat → Prop} (A : World) (g : Nat) (o : Obj) (hg : O g) : Mod O A (A.putObj g o) :=
  ⟨⟨rfl, rfl, rfl, by rw [World.putObj_size]; exact Nat.le_refl _, fun k hk => by omega⟩, fun k hk hn => World.putObj_heap_other (fun e => hn (e ▸ hg))⟩
theorem Mod.grown {O : Nat → Prop} {A B : World} {row : Option Nat} (h : A.grownBy B row) (hr : ∀ g, row = some g → O g) : Mod O A B :=
  ⟨⟨h.os, h.tape, h.output, h.size, fun k hk => by omega⟩, fun k hk hn => h.block k hk (fun e => hn (hr k e.symm))⟩
theorem Keep.refl (O : Nat → Prop) (W : World) : Keep O W W := ⟨Below.refl _ _, fun _ _ _ => rfl⟩
theorem Keep.trans {O : Nat → Prop} {A B C : World} (h : Keep O A B) (k : Keep O B C) : Keep O A C :=
  ⟨h.1.trans k.1, fun i ho hi => (k.2 i ho (Nat.lt_of_lt_of_le hi h.1.size)).trans (h.2 i ho hi)⟩
theorem Keep.size {O : Nat → Prop} {A B : World} (h : Keep O A B) : A.heap.size ≤ B.heap.size := h.1.size
theorem Keep.mono {O O' : Nat → Prop} {A B : World} (h : Keep O A B) (ho : ∀ k, O' k → O k) : Keep O' A B := ⟨h.1, fun k hk hn => h.2 k (ho k hk) hn⟩
theorem Keep.of_new {O : Nat → Prop} {A B : World} (h : New A B) : Keep O A B :=
  ⟨⟨h.below.os, h.below.tape, h.below.output, h.size, fun k hk => by omega⟩, fun k _ hk => h.below.block k hk⟩
theorem Keep.of_mod {O O' : Nat → Prop} {A B : World} (h : Mod O A B) (ho : ∀ k, O' k → ¬ O k) : Keep O' A B := ⟨h.1, fun k hk hl => h.2 k hl (ho k hk)⟩
theorem Keep.at {O : Nat → Prop} {A B : World} (h : Keep O A B) {k : Nat} {o : Obj} (hk : A.heap[k]? = some o) (ho : O k) : B.heap[k]? = some o :=
  (h.2 k ho (Array.getElem?_eq_some_iff.1 hk).1).trans hk

/-- the block k, which is none of O, holds o -/
def Has (O : Nat → Prop) (W : World) (k : Nat) (o : Obj) : Prop := ¬ O k ∧ W.heap[k]? = some o
theorem Has.lt {O : Nat → Prop} {W : World} {k : Nat} {o : Obj} (h : Has O W k o) : k < W.heap.size := (Array.getElem?_eq_some_iff.1 h.2).1
theorem Has.stable {O O' : Nat → Prop} {W W' : World} {k : Nat} {o : Obj} (h : Has O W k o) (hm : Mod O W W') (ho : ∀ k, O' k → O k ∨ W.heap.size ≤ k) : Has O' W' k o :=
  ⟨fun h' => (ho k h').elim h.1 (fun h2 => by have := h.lt; omega), (hm.2 k h.lt h.1).trans h.2⟩

/-- what a loop's body keeps abides what an iterator does to its own blocks -/
def StableJ {α : Type} (J : (Nat → Prop) → List α → Bool → World → Prop) : Prop :=
  ∀ O O' done b W W', J O done b W → Mod O W W' → (∀ k, O' k → O k ∨ W.heap.size ≤ k) → J O' done b W'

/-- one call of yield, at any depth -/
def YieldsAt (P : Program) (lp : Nat) (args : Array Value) (W : World) (R : Ending → World → Prop) : Prop := ∀ m, YieldAt Fence.wide m P lp args W R

/-- the function gf with what it has captured yields the elements xs, one after the other, as long as yield returns true -/
def IterAt (P : Program) (gf : Nat) (lb : Array Value) {α : Type} (Elem : α → Array Value → (Nat → Prop) → World → Prop) (xs : List α) (E : Nat → Prop) (W : World) : Prop :=
  ∀ (lp : Nat) (J : (Nat → Prop) → List α → Bool → World → Prop), StableJ J → J (fun _ => False) [] false W →
    (∀ O done x args W0, J O done false W0 → done ++ [x] <+: xs → Elem x args O W0 → (∀ k, O k → k < W0.heap.size) →
      YieldsAt P lp args W0 fun e W' => ∃ b, e = .returned (.bool b) ∧ J O (done ++ [x]) (!b) W' ∧ Keep (fun k => O k ∨ E k) W0 W') →
    Calls P gf (#[.func (.yield lp) #[] #[]] ++ lb) W fun e W' => (∃ v, e = .returned v) ∧ ∃ O done b, J O done b W' ∧ (b = false → done = xs) ∧ done <+: xs

def plus (D : Nat) (O : Nat → Prop) : Nat → Prop := fun k => O k ∨ k = D ∨ k = D + 1
def recL (a : Act) (D : Nat) (fn : FuncId) (ps : Array Tmp) (assign body : Code) (st : LoopState) (pe : Option Code) : Loop := { state := st, pending := pe, fn := fn, tmps := a.tmps, params := ps, assign := assign, body := body, defers := D }

/-- what a round of the loop's body has to leave -/
def RoundP {α : Type} (D : Nat) (O E : Nat → Prop) (I : (Nat → Prop) → List α → Bool → World → Prop) (done : List α) (W2 : World) (e : Exit) (W3 : World) : Prop :=
  Keep (fun k => plus D O k ∨ E k) W2 W3 ∧ ∃ b, I (plus D O) done b W3 ∧ (b = false ∧ e = .normal ∨ b = true ∧ e = .ret)

theorem range_iter {P : Program} {n : Nat} {g : Operand} {ps : Array Tmp} {assign body : Code} {Q : Exit → Act → World → Prop} {a : Act} {w : World} {gf : Nat} {lb : Array Value} (h1 : 1 ≤ n) (hg : a.eval g = .func (.func gf) #[] lb) (eg : ∀ args w, (callFunc gf args).run P w = .ok (.enter gf args) w)
    {α : Type} {Elem : α → Array Value → (Nat → Prop) → World → Prop} {xs : List α} {E : Nat → Prop} (hit : ∀ W1, New w W1 → w.heap.size + 2 ≤ W1.heap.size → IterAt P gf lb Elem xs E W1) (hO0 : ∀ k, E k → k < w.heap.size)
    (hps : ∀ x args O W, Elem x args O W → args.size = ps.size)
    (I : (Nat → Prop) → List α → Bool → World → Prop) (hI : StableJ I) (h0 : I (plus w.heap.size fun _ => False) [] false w)
    (hbody : ∀ m O done x args W, I (plus w.heap.size O) done false W → Elem x args O W → done ++ [x] <+: xs → ¬ O (w.heap.size + 1) → ¬ O w.heap.size → (∃ r, W.heap[w.heap.size + 1]? = some (.loop r)) → (∀ k, O k → k < W.heap.size) →
      assign.wpIn (Fence.wide.inRound (w.heap.size + 1)) m P (Exit.then (fun a1 W1 => Keep (fun k => plus w.heap.size O k ∨ E k) W W1 ∧ ∀ W2, Below 0 W1 W2 → W2.heap.size ≤ W1.heap.size → (∀ k, k ≠ w.heap.size + 1 → W2.heap[k]? = W1.heap[k]?) → (∃ r, W2.heap[w.heap.size + 1]? = some (.loop r)) →
          body.wpIn (Fence.wide.inRound (w.heap.size + 1)) m P (fun e _ W3 => RoundP w.heap.size O E I (done ++ [x]) W2 e W3) a1 W2) (fun _ _ _ => False))
        { tmps := (ps.zip args).foldl (fun t (p, v) => t.setIfInBounds p v) a.tmps, defers := [] } W)
    (hdone : ∀ O W, I (plus w.heap.size O) xs false W → W.heap[w.heap.size]? = some (.deferred (some [])) → Q .normal { a with defers := { target := .collected w.heap.size, args := #[] } :: a.defers } W)
    (hstop : ∀ O done W, I (plus w.heap.size O) done true W → done <+: xs → W.heap[w.heap.size]? = some (.deferred (some [])) → Q .ret { a with defers := { target := .collected w.heap.size, args := #[] } :: a.defers } W) :
    (Code.rangeFunc g ps assign body).wpIn Fence.wide n P Q a w := by
  refine wpIn_rangeFunc ?_
  intro fn _
  generalize hD : w.heap.size = D at *
  obtain ⟨W1, hW1⟩ : ∃ W1, W1 = (w.alloc (.deferred (some []))).alloc (.loop (recL a D fn ps assign body .ready none)) := ⟨_, rfl⟩
  have hL1 : W1.heap[D + 1]? = some (.loop (recL a D fn ps assign body .ready none)) := by
    rw [hW1, ← hD]; have := World.alloc_heap_new (w.alloc (.deferred (some []))) (.loop (recL a D fn ps assign body .ready none)); rw [World.size_alloc] at this; rw [hD] at this ⊢; exact this
  have hK1 : W1.heap[D]? = some (.deferred (some [])) := by
    rw [hW1, ← hD]; exact (Below.heap_alloc _ _ _ (by simp)).trans (World.alloc_heap_new w _)
  have hN1 : New w W1 := by rw [hW1]; exact ((New.refl _).alloc _).alloc _
  refine ⟨D + 1, [{ target := .collected D, args := #[] }], W1, { target := .fn (.func gf) lb, args := #[.func (.yield (D + 1)) #[] #[]] }, W1, gf,
    #[.func (.yield (D + 1)) #[] #[]] ++ lb, W1, ?_, ?_, fun _ _ => trivial, ?_, fun _ => h1, ?_⟩
  · rw [hW1, ← hD]; exact run_enterLoop_outer _ _ _ _ _
  · simp only [resolve, hg]
    simp [go_sem]
  · simp [invoke, go_sem, eg]
  · refine callsIn_wide.2 ((hit W1 hN1 (by rw [hW1, ← hD]; simp) (D + 1) (fun O done b W => I (plus D O) done b W ∧ Has O W (D + 1) (.loop (if b then recL a D fn ps assign body .done (some .ret) else recL a D fn ps assign body .ready none)) ∧ Has O W D (.deferred (some []))) ?_ ?_ ?_).mono ?_)
    · rintro O O' done b W W' ⟨i1, i2, i3⟩ hm ho
      refine ⟨hI _ _ _ _ _ _ i1 (hm.mono fun k hk => .inl hk) ?_, i2.stable hm ho, i3.stable hm ho⟩
      rintro k (hk | hk)
      · exact (ho k hk).imp .inl id
      · exact .inl (.inr hk)
    · refine ⟨hI _ _ _ _ _ _ h0 (Mod.of_new hN1) (fun k hk => .inl hk), ⟨(fun h => h), hL1⟩, ⟨(fun h => h), hK1⟩⟩
    · rintro O done x args W0 ⟨i1, ⟨l1, l2⟩, ⟨d1, d2⟩⟩ hpre hel hbnd m
      simp only [Bool.false_eq_true, if_false] at l2
      have hy := run_yield (P := P) (args := args) l2 (hps _ _ _ _ hel)
      refine ⟨fn, _, assign, body, hy, roundIn_of_wpIn trivial (wpIn_mono (hbody m O done x args W0 i1 hel hpre l1 d1 ⟨_, l2⟩ hbnd) ?_)⟩
      intro e a1 Wa h
      cases e with
      | normal =>
        obtain ⟨hk1, hb⟩ := h
        have l3 := hk1.at l2 (.inl (.inr (.inr rfl)))
        have hla := (Array.getElem?_eq_some_iff.1 l3).1
        refine ⟨_, run_beginRound l3 rfl, wpIn_mono (hb _ ⟨rfl, rfl, rfl, by rw [World.putObj_size]; exact Nat.le_refl _, fun k hk => by omega⟩ (by rw [World.putObj_size]; exact Nat.le_refl _) (fun k hk => World.putObj_heap_other hk) ⟨_, World.putObj_heap_same hla⟩) ?_⟩
        rintro e a3 W3 ⟨hk3, b, hi, he⟩
        have l5 := hk3.at (World.putObj_heap_same hla) (.inl (.inr (.inr rfl)))
        have hl5 := (Array.getElem?_eq_some_iff.1 l5).1
        have hk1' : Keep (fun k => O k ∨ E k) W0 Wa := hk1.mono fun k hk => hk.imp .inl id
        have hk2' : Keep (fun k => O k ∨ E k) Wa (Wa.putObj (D + 1) (.loop (recL a D fn ps assign body .busy none))) := Keep.of_mod (Mod.putObj (O := fun k => k = D + 1) _ _ _ rfl) (fun k hk e => hk.elim (fun h => l1 (e ▸ h)) (fun h => by have := hO0 _ h; omega))
        have hk3' : Keep (fun k => O k ∨ E k) (Wa.putObj (D + 1) (.loop (recL a D fn ps assign body .busy none))) W3 := hk3.mono fun k hk => hk.imp .inl id
        have l6 : ∀ o, Keep (fun k => O k ∨ E k) W3 (W3.putObj (D + 1) o) := fun o => Keep.of_mod (Mod.putObj (O := fun k => k = D + 1) _ _ _ rfl) (fun k hk e => hk.elim (fun h => l1 (e ▸ h)) (fun h => by have := hO0 _ h; omega))
        have dk : W3.heap[D]? = some (.deferred (some [])) := by
          refine hk3.at ?_ (.inl (.inr (.inl rfl)))
          rw [World.putObj_heap_other (by omega)]
          exact hk1.at d2 (.inl (.inr (.inl rfl)))
        rcases he with ⟨rfl, rfl⟩ | ⟨rfl, rfl⟩
        · have h3 := run_endRound (P := P) none l5
          refine ⟨_, _, h3, true, rfl, ⟨hI _ _ _ _ _ _ hi (Mod.putObj _ _ _ (.inr (.inr rfl))) (fun k hk => .inl hk), ⟨l1, ?_⟩, ⟨d1, ?_⟩⟩, hk1'.trans (hk2'.trans (hk3'.trans (l6 _)))⟩
          · exact World.putObj_heap_same hl5
          · rw [World.putObj_heap_other (by omega)]; exact dk
        · have h3 := run_endRound (P := P) (some .ret) l5
          refine ⟨_, _, h3, false, rfl, ⟨hI _ _ _ _ _ _ hi (Mod.putObj _ _ _ (.inr (.inr rfl))) (fun k hk => .inl hk), ⟨l1, ?_⟩, ⟨d1, ?_⟩⟩, hk1'.trans (hk2'.trans (hk3'.trans (l6 _)))⟩
          · exact World.putObj_heap_same hl5
          · rw [World.putObj_heap_other (by omega)]; exact dk
      | _ => exact h
    · rintro e W' ⟨⟨v, rfl⟩, O, done, b, ⟨hi, ⟨l1, l2⟩, ⟨d1, d2⟩⟩, hfin, hpre⟩
      have hst : ∀ o, I (plus D O) done b (W'.putObj (D + 1) o) := fun o => hI _ _ _ _ _ _ hi (Mod.putObj _ _ _ (.inr (.inr rfl))) (fun k hk => .inl hk)
      have hdk : ∀ o, (W'.putObj (D + 1) o).heap[D]? = some (.deferred (some [])) := fun o => by rw [World.putObj_heap_other (by omega)]; exact d2
      cases b with
      | false =>
        obtain rfl := hfin rfl
        exact ⟨none, _, run_endLoop (P := P) l2 (by simp [recL]), hdone O _ (hst _) (hdk _)⟩
      | true =>
        exact ⟨some .ret, _, run_endLoop (P := P) l2 (by simp [recL]), wpIn_ret (hstop O _ _ (hst _) hpre (hdk _))⟩

end Go.Proofs.Ytpjekinmcdglbaa
