/- Functions with first arguments that are ranged over: as IterAt and range_gen. Plain lemmas. · All orders of what is left, as the closure of orders yields them one after the other: the lesser ones first. Graphs of at most 24 places. -/
import Derived.Test.YtiejefehcpfkaaaDoorSm
import Derived.Test.YtiejefehcpfkaaaDoorSn

section
set_option linter.unusedSimpArgs false
set_option linter.unusedVariables false
set_option maxRecDepth 100000
namespace Go.Proofs.YtiejefehcpfkaaaDoor
open Go.RowKit

/-- as IterAt, with arguments ahead of yield -/
def IterF (P : Program) (gf : Nat) (fb lb : Array Value) {α : Type} (Elem : α → Array Value → (Nat → Prop) → World → Prop) (xs : List α) (E : Nat → Prop) (W : World) : Prop :=
  ∀ (lp : Nat) (J : (Nat → Prop) → List α → Bool → World → Prop), StableJ J → J (fun _ => False) [] false W →
    (∀ O done x args W0, J O done false W0 → done ++ [x] <+: xs → Elem x args O W0 → (∀ k, O k → k < W0.heap.size) →
      YieldsAt P lp args W0 fun e W' => ∃ b, e = .returned (.bool b) ∧ J O (done ++ [x]) (!b) W' ∧ Keep (fun k => O k ∨ E k) W0 W') →
    Calls P gf (fb ++ #[.func (.yield lp) #[] #[]] ++ lb) W fun e W' => (∃ v, e = .returned v) ∧ ∃ O done b, J O done b W' ∧ (b = false → done = xs) ∧ done <+: xs

theorem range_first {P : Program} {n : Nat} {g : Operand} {ps : Array Tmp} {assign body : Code} {Q : Exit → Act → World → Prop} {a : Act} {w : World} {gf : Nat} {fb lb : Array Value} (h1 : 1 ≤ n) (hg : a.eval g = .func (.func gf) fb lb) (eg : ∀ args w, (callFunc gf args).run P w = .ok (.enter gf args) w)
    {α : Type} {Elem : α → Array Value → (Nat → Prop) → World → Prop} {xs : List α} {E : Nat → Prop} (hit : ∀ W1, New w W1 → w.heap.size + 2 ≤ W1.heap.size → IterF P gf fb lb Elem xs E W1) (hO0 : ∀ k, E k → k < w.heap.size)
    (hps : ∀ x args O W, Elem x args O W → args.size = ps.size)
    (I : (Nat → Prop) → List α → Option Code → World → Prop) (hI : ∀ O O' done pc W W', I O done pc W → Mod O W W' → (∀ k, O' k → O k ∨ W.heap.size ≤ k) → I O' done pc W') (h0 : I (plus w.heap.size fun _ => False) [] none w)
    (hbody : ∀ m O done x args W, I (plus w.heap.size O) done none W → Elem x args O W → done ++ [x] <+: xs → ¬ O (w.heap.size + 1) → ¬ O w.heap.size → (∃ r, W.heap[w.heap.size + 1]? = some (.loop r)) → (∀ k, O k → k < W.heap.size) →
      assign.wpIn (Fence.wide.inRound (w.heap.size + 1)) m P (Exit.then (fun a1 W1 => Keep (fun k => plus w.heap.size O k ∨ E k) W W1 ∧ ∀ W2, Below 0 W1 W2 → W2.heap.size ≤ W1.heap.size → (∀ k, k ≠ w.heap.size + 1 → W2.heap[k]? = W1.heap[k]?) → (∃ r, W2.heap[w.heap.size + 1]? = some (.loop r)) →
          body.wpIn (Fence.wide.inRound (w.heap.size + 1)) m P (fun e _ W3 => RoundG w.heap.size O E I (done ++ [x]) W2 e W3) a1 W2) (fun _ _ _ => False))
        { tmps := (ps.zip args).foldl (fun t (p, v) => t.setIfInBounds p v) a.tmps, defers := [] } W)
    (hdone : ∀ O W, I (plus w.heap.size O) xs none W → W.heap[w.heap.size]? = some (.deferred (some [])) → Q .normal { a with defers := { target := .collected w.heap.size, args := #[] } :: a.defers } W)
    (hstop : ∀ O done c W, I (plus w.heap.size O) done (some c) W → done <+: xs → W.heap[w.heap.size]? = some (.deferred (some [])) → c.wpIn Fence.wide n P Q { a with defers := { target := .collected w.heap.size, args := #[] } :: a.defers } W) :
    (Code.rangeFunc g ps assign body).wpIn Fence.wide n P Q a w := by
  refine wpIn_rangeFunc ?_
  intro fn _
  generalize hD : w.heap.size = D at *
  have recEq : ∀ st pe, (recL a D fn ps assign body st pe).pending = pe ∧ (recL a D fn ps assign body st pe).state = st := fun _ _ => ⟨rfl, rfl⟩
  obtain ⟨W1, hW1⟩ : ∃ W1, W1 = (w.alloc (.deferred (some []))).alloc (.loop (recL a D fn ps assign body .ready none)) := ⟨_, rfl⟩
  have hL1 : W1.heap[D + 1]? = some (.loop (recL a D fn ps assign body .ready none)) := by
    rw [hW1, ← hD]; have := World.alloc_heap_new (w.alloc (.deferred (some []))) (.loop (recL a D fn ps assign body .ready none)); rw [World.size_alloc] at this; rw [hD] at this ⊢; exact this
  have hK1 : W1.heap[D]? = some (.deferred (some [])) := by
    rw [hW1, ← hD]; exact (Below.heap_alloc _ _ _ (by simp)).trans (World.alloc_heap_new w _)
  have hN1 : New w W1 := by rw [hW1]; exact ((New.refl _).alloc _).alloc _
  refine ⟨D + 1, [{ target := .collected D, args := #[] }], W1, { target := .fn (.func gf) lb, args := fb ++ #[.func (.yield (D + 1)) #[] #[]] }, W1, gf,
    fb ++ #[.func (.yield (D + 1)) #[] #[]] ++ lb, W1, ?_, ?_, fun _ _ => trivial, ?_, fun _ => h1, ?_⟩
  · rw [hW1, ← hD]; exact run_enterLoop_outer _ _ _ _ _
  · simp only [resolve, hg]
    simp [go_sem]
  · simp [invoke, go_sem, eg]
  · refine callsIn_wide.2 ((hit W1 hN1 (by rw [hW1, ← hD]; simp) (D + 1) (fun O done b W => ∃ pc : Option Code, pc.isSome = b ∧ I (plus D O) done pc W ∧ Has O W (D + 1) (.loop (recL a D fn ps assign body (if b then .done else .ready) pc)) ∧ Has O W D (.deferred (some []))) ?_ ?_ ?_).mono ?_)
    · rintro O O' done b W W' ⟨pc, i0, i1, i2, i3⟩ hm ho
      refine ⟨pc, i0, hI _ _ _ _ _ _ i1 (hm.mono fun k hk => .inl hk) ?_, i2.stable hm ho, i3.stable hm ho⟩
      rintro k (hk | hk)
      · exact (ho k hk).imp .inl id
      · exact .inl (.inr hk)
    · refine ⟨none, rfl, hI _ _ _ _ _ _ h0 (Mod.of_new hN1) (fun k hk => .inl hk), ⟨(fun h => h), hL1⟩, ⟨(fun h => h), hK1⟩⟩
    · rintro O done x args W0 ⟨pc, hpc, i1, ⟨l1, l2⟩, ⟨d1, d2⟩⟩ hpre hel hbnd m
      obtain rfl : pc = none := by cases pc with | none => rfl | some c => cases hpc
      simp only [Bool.false_eq_true, if_false] at l2
      have hy := run_yield (P := P) (args := args) l2 (hps _ _ _ _ hel)
      refine ⟨fn, _, assign, body, hy, roundIn_of_wpIn trivial (wpIn_mono (hbody m O done x args W0 i1 hel hpre l1 d1 ⟨_, l2⟩ hbnd) ?_)⟩
      intro e a1 Wa h
      cases e with
      | normal =>
        obtain ⟨hk1, hb⟩ := h
        have l3 := hk1.at l2 (.inl (.inr (.inr rfl)))
        have hla := (Array.getElem?_eq_some_iff.1 l3).1
        refine ⟨_, run_beginRound l3 rfl, wpIn_mono (hb _ ⟨rfl, rfl, rfl, by rw [World.putObj_size]; exact Nat.le_refl _, fun k hk => by omega⟩ (by rw [World.putObj_size]; exact Nat.le_refl _) (fun k hk => World.putObj_heap_other hk) ⟨_, World.putObj_heap_same hla⟩) ?_⟩
        rintro e a3 W3 ⟨hk3, pc, hi, he⟩
        have l5 := hk3.at (World.putObj_heap_same hla) (.inl (.inr (.inr rfl)))
        have hl5 := (Array.getElem?_eq_some_iff.1 l5).1
        have hk1' : Keep (fun k => O k ∨ E k) W0 Wa := hk1.mono fun k hk => hk.imp .inl id
        have hk2' : Keep (fun k => O k ∨ E k) Wa (Wa.putObj (D + 1) (.loop (recL a D fn ps assign body .busy none))) := Keep.of_mod (Mod.putObj (O := fun k => k = D + 1) _ _ _ rfl) (fun k hk e => hk.elim (fun h => l1 (e ▸ h)) (fun h => by have := hO0 _ h; omega))
        have hk3' : Keep (fun k => O k ∨ E k) (Wa.putObj (D + 1) (.loop (recL a D fn ps assign body .busy none))) W3 := hk3.mono fun k hk => hk.imp .inl id
        have l6 : ∀ o, Keep (fun k => O k ∨ E k) W3 (W3.putObj (D + 1) o) := fun o => Keep.of_mod (Mod.putObj (O := fun k => k = D + 1) _ _ _ rfl) (fun k hk e => hk.elim (fun h => l1 (e ▸ h)) (fun h => by have := hO0 _ h; omega))
        have dk : W3.heap[D]? = some (.deferred (some [])) := by
          refine hk3.at ?_ (.inl (.inr (.inl rfl)))
          rw [World.putObj_heap_other (by omega)]
          exact hk1.at d2 (.inl (.inr (.inl rfl)))
        rcases he with ⟨rfl, rfl⟩ | ⟨rfl, rfl⟩ | ⟨id, rfl, rfl⟩
        · have h3 := run_endRound (P := P) none l5
          refine ⟨_, _, h3, true, rfl, ⟨none, rfl, hI _ _ _ _ _ _ hi (Mod.putObj _ _ _ (.inr (.inr rfl))) (fun k hk => .inl hk), ⟨l1, ?_⟩, ⟨d1, ?_⟩⟩, hk1'.trans (hk2'.trans (hk3'.trans (l6 _)))⟩
          · exact World.putObj_heap_same hl5
          · rw [World.putObj_heap_other (by omega)]; exact dk
        · have h3 := run_endRound (P := P) (some .ret) l5
          refine ⟨_, _, h3, false, rfl, ⟨some .ret, rfl, hI _ _ _ _ _ _ hi (Mod.putObj _ _ _ (.inr (.inr rfl))) (fun k hk => .inl hk), ⟨l1, ?_⟩, ⟨d1, ?_⟩⟩, hk1'.trans (hk2'.trans (hk3'.trans (l6 _)))⟩
          · exact World.putObj_heap_same hl5
          · rw [World.putObj_heap_other (by omega)]; exact dk
        · have h3 := run_endRound (P := P) (some (.exit id)) l5
          refine ⟨_, _, h3, false, rfl, ⟨some (.exit id), rfl, hI _ _ _ _ _ _ hi (Mod.putObj _ _ _ (.inr (.inr rfl))) (fun k hk => .inl hk), ⟨l1, ?_⟩, ⟨d1, ?_⟩⟩, hk1'.trans (hk2'.trans (hk3'.trans (l6 _)))⟩
          · exact World.putObj_heap_same hl5
          · rw [World.putObj_heap_other (by omega)]; exact dk
      | _ => exact h
    · rintro e W' ⟨⟨v, rfl⟩, O, done, b, ⟨pc, hpc, hi, ⟨l1, l2⟩, ⟨d1, d2⟩⟩, hfin, hpre⟩
      have hst : ∀ o, I (plus D O) done pc (W'.putObj (D + 1) o) := fun o => hI _ _ _ _ _ _ hi (Mod.putObj _ _ _ (.inr (.inr rfl))) (fun k hk => .inl hk)
      have hdk : ∀ o, (W'.putObj (D + 1) o).heap[D]? = some (.deferred (some [])) := fun o => by rw [World.putObj_heap_other (by omega)]; exact d2
      cases pc with
      | none =>
        obtain rfl : false = b := hpc
        obtain rfl := hfin rfl
        exact ⟨none, _, run_endLoop (P := P) l2 (by simp [recL]), hdone O _ (hst _) (hdk _)⟩
      | some c =>
        obtain rfl : true = b := hpc
        exact ⟨some c, _, run_endLoop (P := P) l2 (by simp [recL]), hstop O _ _ _ (hst _) hpre (hdk _)⟩

end Go.Proofs.YtiejefehcpfkaaaDoor
end

section
set_option linter.unusedSimpArgs false
set_option linter.unusedVariables false
set_option maxRecDepth 100000
namespace Go.Proofs.YtiejefehcpfkaaaDoor
open Go.RowKit Go.Shelf

attribute [local go_sem] Oper.semAt_some

theorem int_infoO : (Tryd.prog.info? 3).map (fun i => (i.zero, i.size, i.bytes)) = some (some (.int .i64 0), 1, 8) := by kernel_rfl
def natCells (x : List Nat) : List Value := x.map fun (i : Nat) => Value.int .i64 (i : Int)
theorem natCells_len (x : List Nat) : (natCells x).length = x.length := by simp [natCells]
theorem natCells_snoc (x : List Nat) (p : Nat) : natCells (x ++ [p]) = natCells x ++ [.int .i64 (p : Int)] := by simp [natCells]
theorem natCells_take (x : List Nat) (k : Nat) : natCells (x.take k) = (natCells x).take k := by simp [natCells, List.map_take]
theorem natCells_at (x : List Nat) (k : Nat) (h : k < x.length) : (natCells x)[k]? = some (.int .i64 ((x.getD k 0 : Nat) : Int)) := by
  simp [natCells, List.getElem?_map, List.getElem?_eq_getElem h, List.getD_eq_getElem?_getD]

/-- all orders of k places that are left, the lesser ones first -/
def ordS (be : Nat → Nat) : Nat → Nat → List (List Nat)
  | 0, _ => [[]]
  | k + 1, s => (bitsOf (rdN be s)).flatMap fun p => (ordS be k (wo s (2 ^ p))).map (p :: ·)
/-- the same behind a beginning -/
def ordP (be : Nat → Nat) (k s : Nat) (pre : List Nat) : List (List Nat) := (ordS be k s).map (pre ++ ·)
def ordTo (be : Nat → Nat) (k s : Nat) (pre ps : List Nat) : List (List Nat) := ps.flatMap fun p => ordP be k (wo s (2 ^ p)) (pre ++ [p])
theorem ordP_zero (be : Nat → Nat) (s : Nat) (pre : List Nat) : ordP be 0 s pre = [pre] := by simp [ordP, ordS]
theorem ordP_succ (be : Nat → Nat) (k s : Nat) (pre : List Nat) : ordP be (k + 1) s pre = ordTo be k s pre (bitsOf (rdN be s)) := by
  simp [ordP, ordS, ordTo, List.map_flatMap, Function.comp_def]
theorem ordTo_snoc (be : Nat → Nat) (k s : Nat) (pre ps : List Nat) (p : Nat) : ordTo be k s pre (ps ++ [p]) = ordTo be k s pre ps ++ ordP be k (wo s (2 ^ p)) (pre ++ [p]) := by
  simp [ordTo]
theorem ordTo_prefix (be : Nat → Nat) (k s : Nat) (pre ps qs : List Nat) : ordTo be k s pre ps <+: ordTo be k s pre (ps ++ qs) := by
  simp [ordTo]
theorem rdF_sub (be : Nat → Nat) (s : Nat) : ∀ (ps : List Nat) (acc i : Nat), (ps.foldl (rdStep be s) acc).testBit i = true → acc.testBit i = true ∨ i ∈ ps
  | [], _, _, h => .inl h
  | p :: ps, acc, i, h => by
    rcases rdF_sub be s ps _ i h with h | h
    · unfold rdStep at h
      split at h
      · rw [Nat.testBit_or, Bool.or_eq_true] at h
        rcases h with h | h
        · exact .inl h
        · rw [Nat.testBit_two_pow] at h
          exact .inr (by have : p = i := by simpa using h
                         rw [this]; exact List.mem_cons_self)
      · exact .inl h
    · exact .inr (List.mem_cons_of_mem _ h)
theorem rdN_sub {be : Nat → Nat} {s i : Nat} (h : (rdN be s).testBit i = true) : i ∈ bitsOf s := by
  rcases rdF_sub be s (bitsOf s) 0 i h with h | h
  · simp at h
  · exact h
theorem wo_bits {s p : Nat} (hs : s < 4294967296) (hp : p ∈ bitsOf s) : (bitsOf (wo s (2 ^ p))).length + 1 = (bitsOf s).length := by
  have hp2 := bitsOf_mem.1 hp
  have e : bitsOf (wo s (2 ^ p)) = (bitsOf s).filter (fun i => decide (i ≠ p)) := by
    unfold bitsOf
    rw [List.filter_filter]
    refine List.filter_congr fun i hi => ?_
    rw [wo_bit s _ i hs (pow_lt p hp2.1), Nat.testBit_two_pow, Bool.and_comm]
    congr 1
    by_cases e : i = p
    · simp [e]
    · have : p ≠ i := fun h => e h.symm
      simp [e, this]
  have hn : (bitsOf s).Nodup := (bitsOf_asc s).imp (fun h e => by omega)
  have h2 := List.length_erase_of_mem hp
  have h3 := List.length_pos_of_mem hp
  rw [hn.erase_eq_filter] at h2
  have e2 : (fun i : Nat => decide (i ≠ p)) = (fun i => i != p) := by
    funext i
    by_cases h : i = p <;> simp [h]
  rw [e, e2]; omega
theorem bits_none {s : Nat} (hs : s < 4294967296) : (bitsOf s).length = 0 ↔ s = 0 := by
  rw [List.length_eq_zero_iff]; exact bitsOf_nil hs

theorem alloc3_heap2 (W : World) (A B : Obj) : ((W.alloc A).alloc B).heap[W.heap.size]? = some A ∧ ((W.alloc A).alloc B).heap[W.heap.size + 1]? = some B := by
  have e1 := World.alloc_heap_new W A
  have e2 := World.alloc_heap_new (W.alloc A) B
  simp only [World.size_alloc] at e2
  exact ⟨(Below.heap_alloc _ _ _ (by simp)).trans e1, e2⟩
/-- the boxes of orders -/
structure OrB where
  lp : Nat
  yb : Nat
  pb : Nat
  gb : Nat
  eb : Nat
  base : Nat
  G : Gph
def OrB.fv (c : OrB) : Value := .func (.func 154) #[] #[.pointer (some ⟨c.yb, 0, none⟩), .pointer (some ⟨c.pb, 0, none⟩), .pointer (some ⟨c.gb, 0, none⟩), .pointer (some ⟨c.eb, 0, none⟩)]
structure OrB.ok (c : OrB) : Prop where
  lt : c.yb < c.base ∧ c.pb < c.base ∧ c.gb < c.base ∧ c.eb < c.base
  ne : c.pb ≠ c.yb ∧ c.pb ≠ c.gb ∧ c.pb ≠ c.eb
  tb : 0 < c.base ∧ 0 ≠ c.pb
  gok : c.G.ok
/-- v is a slice of the places x, in a block of O that is none of F -/
def PlO (base : Nat) (F O : Nat → Prop) (W : World) (v : Value) (x : List Nat) : Prop := W.ownsRow base 3 1 v x.length (natCells x) ∧ ∀ g, v.ownBlock = some g → O g ∧ ¬ F g
structure OrSt (c : OrB) (F O : Nat → Prop) (W : World) (pre : List Nat) : Prop where
  pa : ∃ v, W.heap[c.pb]? = some (.cells #[v] 31 (0, 0)) ∧ PlO c.base F O W v pre
  ys : W.heap[c.yb]? = some (.cells #[.func (.yield c.lp) #[] #[]] 103 (0, 0))
  gs : Gr W c.gb c.G
  es : W.heap[c.eb]? = some (.cells #[c.fv] 118 (0, 0))
  ob : O c.pb
  fb : F c.yb ∧ F c.gb ∧ F c.eb
  fp : ¬ F c.pb
  fo : ∀ k, F k → O k
  bs : c.base ≤ W.heap.size
  tb : Tab W
def ElemO (x : List Nat) (args : Array Value) (O : Nat → Prop) (W : World) : Prop := ∃ base v, args = #[v] ∧ PlO base (fun _ => False) O W v x
theorem PlO.keep {base : Nat} {F O : Nat → Prop} {W W' : World} {v : Value} {x : List Nat} (h : PlO base F O W v x) (hk : Keep O W W') : PlO base F O W' v x :=
  ⟨own_keep h.1 fun g hg => hk.2 g (h.2 g hg).1 (h.1.lt g hg).2, h.2⟩
theorem Tab.keep {O : Nat → Prop} {W W' : World} (h : Tab W) (hk : Keep O W W') (ho : O 0) : Tab W' :=
  ⟨Nat.lt_of_lt_of_le h.1 hk.size, fun j hj => by
    have h2 := h.2 j hj
    have := hk.2 _ ho h.1
    simp only [World.cell?, this] at h2 ⊢; exact h2⟩
def tabE : Nat → Prop := fun k => k = 0
theorem OrSt.keep {c : OrB} {F O : Nat → Prop} {W W' : World} {pre : List Nat} (h : OrSt c F O W pre) (hk : Keep (fun k => O k ∨ tabE k) W W') : OrSt c F O W' pre := by
  obtain ⟨⟨v, h1, h2⟩, h3, h4, h5, h6, h7, h8, h9, h10, h11⟩ := h
  exact ⟨⟨v, hk.at h1 (.inl h6), h2.keep (hk.mono fun k h => .inl h)⟩, hk.at h3 (.inl (h9 _ h7.1)), hk.at h4 (.inl (h9 _ h7.2.1)), hk.at h5 (.inl (h9 _ h7.2.2)), h6, h7, h8, h9, Nat.le_trans h10 hk.size, h11.keep hk (.inr rfl)⟩
/-- with fewer blocks to be kept -/
theorem OrSt.less {c : OrB} {F F' O : Nat → Prop} {W : World} {pre : List Nat} (h : OrSt c F' O W pre) (hf : ∀ k, F k → F' k) (hb : F c.yb ∧ F c.gb ∧ F c.eb) : OrSt c F O W pre := by
  obtain ⟨⟨v, h1, h2⟩, h3, h4, h5, h6, h7, h8, h9, h10, h11⟩ := h
  exact ⟨⟨v, h1, h2.1, fun g hg => ⟨(h2.2 g hg).1, fun h => (h2.2 g hg).2 (hf g h)⟩⟩, h3, h4, h5, h6, hb, fun h => h8 (hf _ h), fun k h => h9 k (hf k h), h10, h11⟩
/-- with more blocks to be kept, and more blocks of its own -/
theorem OrSt.more {c : OrB} {F F' O O' : Nat → Prop} {W W' : World} {pre : List Nat} (h : OrSt c F O W pre) (hf : ∀ k, F k → F' k) (ho : ∀ k, O k → O' k) (hfo : ∀ k, F' k → O' k) (hn : ∀ k, F' k → F k ∨ W.heap.size ≤ k) (hk : Keep (fun k => O k ∨ tabE k) W W') : OrSt c F' O' W' pre := by
  have h' := h.keep hk
  obtain ⟨⟨v, h1, h2⟩, h3, h4, h5, h6, h7, h8, h9, h10, h11⟩ := h'
  have hp := (Array.getElem?_eq_some_iff.1 h.pa.choose_spec.1).1
  refine ⟨⟨v, h1, h2.1, fun g hg => ⟨ho _ (h2.2 g hg).1, fun hx => ?_⟩⟩, h3, h4, h5, ho _ h6, ⟨hf _ h7.1, hf _ h7.2.1, hf _ h7.2.2⟩, fun hx => ?_, hfo, h10, h11⟩
  · rcases hn g hx with hx | hx
    · exact (h2.2 g hg).2 hx
    · obtain ⟨v0, e0, p0⟩ := h.pa
      have e1 := hk.at e0 (.inl h.ob)
      rw [h1] at e1
      have ev : v = v0 := by simpa using e1
      subst ev
      have := (p0.1.lt g hg).2
      omega
  · rcases hn _ hx with hx | hx
    · exact h8 hx
    · omega
/-- what a call of the closure has done when it is over -/
def ExtR (c : OrB) (F : Nat → Prop) (J : (Nat → Prop) → List (List Nat) → Bool → World → Prop) (pre : List Nat) (all xs : List (List Nat)) (W : World) (e : Ending) (W' : World) : Prop :=
  ∃ O b, e = .returned (.bool b) ∧ Keep (fun k => F k ∨ tabE k) W W' ∧ ((b = true ∧ J O all false W' ∧ OrSt c F O W' pre) ∨ (b = false ∧ ∃ done, J O done true W' ∧ done <+: xs ∧ ∀ k, F k → O k))
/-- what the loop's body does at each order -/
def YieldsO (lp : Nat) (J : (Nat → Prop) → List (List Nat) → Bool → World → Prop) (xs : List (List Nat)) : Prop :=
  ∀ O done x args W0, J O done false W0 → done ++ [x] <+: xs → ElemO x args O W0 → (∀ k, O k → k < W0.heap.size) → YieldsAt Tryd.prog lp args W0 fun e W' => ∃ b, e = .returned (.bool b) ∧ J O (done ++ [x]) (!b) W' ∧ Keep (fun k => O k ∨ tabE k) W0 W'

theorem results_cell_one {fn : Func} {p g : Nat} {b : Bool} (h : fn.results = #[.cell p 4]) (tmps : Array Value) (w : World) (hp : tmps.getD p undef = .pointer (some ⟨g, 0, none⟩)) (hc : w.cell? ⟨g, 0, none⟩ = some (.bool b)) : (results fn tmps).run Tryd.prog w = .ok (.bool b) w := by
  have hp' : tmps[p]?.getD undef = .pointer (some ⟨g, 0, none⟩) := by simpa using hp
  simp [results, h, hp', asAddr, go_sem, hc, Tryd.underlying4]

def orArgs (c : OrB) (s : Nat) : Array Value := #[sv s, .pointer (some ⟨c.yb, 0, none⟩), .pointer (some ⟨c.pb, 0, none⟩), .pointer (some ⟨c.gb, 0, none⟩), .pointer (some ⟨c.eb, 0, none⟩)]
set_option maxHeartbeats 8000000 in
theorem orders_zero (c : OrB) (hc : c.ok) (J : (Nat → Prop) → List (List Nat) → Bool → World → Prop) (hJs : StableJ J) (xs : List (List Nat)) (hY : YieldsO c.lp J xs)
    (pre : List Nat) (F O : Nat → Prop) (done : List (List Nat)) (W : World) (hF : ∀ k, F k → k < W.heap.size) (hst : OrSt c F O W pre) (hJ : J O done false W) (hpre : done ++ [pre] <+: xs) :
    Calls Tryd.prog 154 #[sv 0, .pointer (some ⟨c.yb, 0, none⟩), .pointer (some ⟨c.pb, 0, none⟩), .pointer (some ⟨c.gb, 0, none⟩), .pointer (some ⟨c.eb, 0, none⟩)] W (ExtR c F J pre (done ++ [pre]) xs W) := by
  obtain ⟨⟨v, h1, h2⟩, h3, h4, h5, h6⟩ := id hst
  obtain ⟨H, hH⟩ : ∃ H, W.heap.size = H := ⟨_, rfl⟩
  obtain ⟨W2, hW2⟩ : ∃ W2 : World, Hid (W2 = (W.alloc (.cells #[sv 0] 79)).alloc (.cells #[.bool false] 4)) := ⟨_, Lib.hid rfl⟩
  have hn2 : New W W2 := by rw [hW2.out]; exact ((New.refl _).alloc _).alloc _
  have hz2 : W2.heap.size = H + 2 := by rw [hW2.out, ← hH]; simp
  have hb2 : W2.heap[H + 1]? = some (.cells #[.bool false] 4 (0, 0)) := by rw [hW2.out, ← hH]; exact (alloc3_heap2 W _ _).2
  have hk2 : Keep (fun k => (O k ∧ k < H) ∨ k = H ∨ k = H + 1 ∨ tabE k) W W2 := Keep.of_new hn2
  have hJ2 : J (fun k => (O k ∧ k < H) ∨ k = H ∨ k = H + 1) done false W2 := hJs _ _ _ _ _ _ hJ (Mod.of_new hn2) (fun k hk => by
    rcases hk with hk | hk | hk
    · exact .inl hk.1
    · exact .inr (by omega)
    · exact .inr (by omega))
  have hst2 : OrSt c F (fun k => O k ∧ k < H) W2 pre := by
    have hs := hst.keep (Keep.of_new hn2)
    obtain ⟨⟨v', g1, g2⟩, g3, g4, g5, g6, g7, g8, g9, g10, g11⟩ := hs
    have hpl := (Array.getElem?_eq_some_iff.1 h1).1
    have e1 : v' = v := by
      have := (hn2.below.block _ hpl).trans h1
      rw [this] at g1; simpa using g1.symm
    subst e1
    exact ⟨⟨v', g1, g2.1, fun g hg => ⟨⟨(g2.2 g hg).1, by rw [← hH]; exact (h2.1.lt g hg).2⟩, (g2.2 g hg).2⟩⟩, g3, g4, g5, ⟨g6, by rw [← hH]; exact hpl⟩, g7, g8, fun k hk => ⟨g9 k hk, by rw [← hH]; exact hF k hk⟩, g10, g11⟩
  have HST := Lib.hid hst2
  obtain ⟨⟨v', g1, g2⟩, g3, _⟩ := id hst2
  have hpl := (Array.getElem?_eq_some_iff.1 h1).1
  have e1 : v' = v := by
    have := (hn2.below.block _ hpl).trans h1
    rw [this] at g1; simpa using g1.symm
  subst e1
  have HY := Lib.hid (hY (fun k => (O k ∧ k < H) ∨ k = H ∨ k = H + 1) done pre #[v'] W2 hJ2 hpre ⟨_, v', rfl, g2.1, fun g hg => ⟨.inl (g2.2 g hg).1, fun h => h⟩⟩ (fun k hk => by omega) 4)
  have HPRE := Lib.hid hpre
  have HHB := Lib.hid hb2
  have HN2 := Lib.hid hn2
  have HF := Lib.hid hF
  have HO := Lib.hid hst.fo
  have HTB := Lib.hid (show 0 < H from by have := hc.tb.1; have := hst.bs; omega)
  have HHH := Lib.hid hH
  have HJS := Lib.hid hJs
  obtain ⟨av, cv, rfl⟩ := own_slice h2.1
  have c1 := (box_cell g1).1
  have c3 := (box_cell g3).1
  rw [hW2.out] at c1 c3
  obtain ⟨fn, tmps, assign, body, hy, hR⟩ := HY.out
  have HR := Lib.hid hR
  rw [hW2.out] at hy
  clear hY hst h1 h2 h3 h4 h5 h6 hJ hR hpre HY hn2 hz2 hb2 hk2 hJ2 hst2 g1 g2 g3 hpl hF hJs
  refine (callsIn_wide (n := 5)).1 ?_
  refine callsIn_of_wp Tryd.func154 rfl trivial ?_ rfl
  simp only [Tryd.ntmps154, List.size_toArray, List.length_cons, List.length_nil, Nat.reduceAdd, Nat.reduceSub, Array.replicate_succ, Array.replicate_zero, List.push_toArray, List.append_toArray, List.nil_append, List.cons_append]
  gi_wp2
  rw [← hW2.out]
  refine HR.out.mono ?_
  rintro e W3 ⟨b, rfl, hJ3, hk3⟩
  have h3b := hk3.at HHB.out (.inl (.inr (.inr rfl)))
  have c7 := box_cell h3b
  have HP := Lib.hid (show ExtR c F J pre (done ++ [pre]) xs W (.returned (.bool b)) (W3.setCell ⟨H + 1, 0, none⟩ (.bool b)) from by
    have hsc : ∀ P : Nat → Prop, (∀ k, P k → k ≠ H + 1) → Keep P W3 (W3.setCell ⟨H + 1, 0, none⟩ (.bool b)) := fun P hP => Keep.of_mod (Mod.setCell (O := fun k => k = H + 1) _ _ _ _ rfl) (fun k hk e => hP k hk e)
    refine ⟨fun k => O k ∧ k < H, b, rfl, (Keep.of_new HN2.out).trans ((hk3.mono fun k hk => hk.elim (fun h => .inl (.inl ⟨HO.out k h, by rw [← HHH.out]; exact HF.out k h⟩)) .inr).trans (hsc _ fun k hk => hk.elim (fun h => by have := HF.out k h; rw [HHH.out] at this; omega) (fun h => by have := HTB.out; unfold tabE at h; omega))), ?_⟩
    have hJ4 : J (fun k => O k ∧ k < H) (done ++ [pre]) (!b) (W3.setCell ⟨H + 1, 0, none⟩ (.bool b)) := HJS.out _ _ _ _ _ _ hJ3 (Mod.setCell _ _ _ _ (.inr (.inr rfl))) (fun k hk => .inl (.inl hk))
    have hs4 := HST.out.keep ((hk3.mono (O' := fun k => (O k ∧ k < H) ∨ tabE k) fun k hk => hk.elim (fun h => .inl (.inl h)) .inr).trans (hsc _ fun k hk => hk.elim (fun h => by omega) (fun h => by have := HTB.out; unfold tabE at h; omega)))
    cases b
    · exact .inr ⟨rfl, _, hJ4, HPRE.out, fun k hk => ⟨HO.out k hk, by rw [← HHH.out]; exact HF.out k hk⟩⟩
    · exact .inl ⟨rfl, hJ4, hs4⟩)
  have H3B := Lib.hid h3b
  clear hJ3 hk3 h3b c1 c3
  gi_wp2
  refine bodyPost_ret (results_cell_one (b := b) rfl _ _ rfl ?_) rfl ?_
  · exact (box_cell (v := .bool b) (heap_setCell_same _ _ 0 _ H3B.out)).1
  · exact HP.out
end Go.Proofs.YtiejefehcpfkaaaDoor
end
