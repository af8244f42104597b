/- The order of a number, as Nth returns it: the beginning of its walk. Problems of at most 12 patches. -/
import Derived.Test.YtiejefehcpfkaaaDoorTy
set_option linter.unusedSimpArgs false
set_option linter.unusedVariables false
set_option maxRecDepth 100000
namespace Go.Proofs.YtiejefehcpfkaaaDoor
open Go.RowKit Go.Shelf Go.Maps

attribute [local go_sem] Oper.semAt_some

theorem cnt_put {base b : Nat} {G : Gph} {fv z u : Value} {t : TypeId} {W : World} (h : IsCnt base G fv W) (hb : W.heap[b]? = some (.cells #[z] t (0, 0))) (hT : 0 ≠ b)
    (hz : (z = .nilFunc ∧ t = 111) ∨ (t = 79) ∨ (t = 3) ∨ (t = 31)) : IsCnt base G fv (W.setCell ⟨b, 0, none⟩ u) := by
  obtain ⟨c, D, n, a1, a2, a3, a4, a5⟩ := h
  refine ⟨c, D, n, a1, a2, a3, a4.mod (O := fun q => q = b) (Mod.setCell _ _ _ _ rfl) (fun k hk => ?_), a5⟩
  subst hk
  have h1 := a4.ms; have h2 := a4.gs; have h3 := a4.cs
  obtain ⟨es, clock, h4, _⟩ := a4.ow
  have h2' : W.heap[c.gb]? = some (.cells c.G.cells.toArray 83 (0, 0)) := h2
  refine ⟨fun e => ?_, fun e => ?_, fun e => ?_, fun e => ?_, hT⟩
  · rw [e, hb] at h1; rcases hz with ⟨rfl, rfl⟩ | rfl | rfl | rfl <;> simp at h1
  · rw [e, hb] at h2'; rcases hz with ⟨rfl, rfl⟩ | rfl | rfl | rfl <;> simp at h2'
  · rw [e, hb] at h3; rcases hz with ⟨rfl, rfl⟩ | rfl | rfl | rfl <;> simp [CB.fv, Value.nilFunc] at h3
  · rw [e, hb] at h4; simp at h4
theorem gr_put {b g : Nat} {G : Gph} {z u : Value} {t : TypeId} {W : World} (h : Gr W g G) (hb : W.heap[b]? = some (.cells #[z] t (0, 0))) (ht : t ≠ 83) : Gr (W.setCell ⟨b, 0, none⟩ u) g G := by
  refine (heap_setCell_other _ _ _ _ _ (fun e => ?_)).trans h
  have h' : W.heap[g]? = some (.cells G.cells.toArray 83 (0, 0)) := h
  rw [e, hb] at h'
  simp at h'
  exact ht h'.2
/-- a drawn region outside of rounds, behind loops over functions: T tells what it leaves -/
theorem region_rel0 {P : Program} {n : Nat} {ops : Array Oper} {id : Nat} {a : Act} {w : World} {Q : Exit → Act → World → Prop} (S : World → Prop) (T : Act → World → Prop) (hm : P.follows .mixedOrders = true) (hS : S w.drew)
    (h : S w.drew → wpAnyH P .any ops (QN T) S ops.size (Array.replicate ops.size false) a w.drew) (hq : ∀ a' w', T a' w' → Q .normal a' w') : (Code.region id ops true).wpIn Fence.wide n P Q a w :=
  wpIn_mono (wpIn_wide.2 (wp_region_any hm (wpAny_of_held _ _ _ _ (h hS)))) (fun e a' w' h => by
    cases e with
    | normal => exact hq _ _ h
    | _ => exact h.elim)
theorem IsCnt.base {base base' : Nat} {G : Gph} {v : Value} {W : World} (h : IsCnt base G v W) (hb : base' ≤ base) : IsCnt base' G v W := by
  obtain ⟨c, D, n, a1, a2, a3, a4, b1, b2, b3, b4⟩ := h
  exact ⟨c, D, n, a1, a2, a3, a4, Nat.le_trans hb b1, Nat.le_trans hb b2, Nat.le_trans hb b3, Nat.le_trans hb b4⟩
theorem IsCnt.shape {base : Nat} {G : Gph} {v : Value} {W : World} (h : IsCnt base G v W) : ∃ mb gb cb, v = .func (.func 142) #[] #[.pointer (some ⟨mb, 0, none⟩), .pointer (some ⟨gb, 0, none⟩), .pointer (some ⟨cb, 0, none⟩)] := by
  obtain ⟨c, D, n, a1, _⟩ := h
  exact ⟨_, _, _, a1⟩
/-- the order that kk others come before -/
def nthG (G : Gph) (kk : Nat) : List Nat := nthS G.be (bitsOf (fst G.n)).length (fst G.n) kk
/-- what stands in memory in Nth's loop -/
structure NtL (w : World) (g kb xb b8 b9 B : Nat) (c : CB) (x : List Nat) (left kk : Nat) (v : Value) (Ds : List Nat) (wr : World) : Prop where
  nw : New w wr
  gr : Gr wr g c.G
  cs : ∃ D n, CSt c D n wr
  cv : wr.heap[b8]? = some (.cells #[c.fv] 111 (0, 0))
  lf : wr.heap[b9]? = some (.cells #[sv left] 79 (0, 0))
  kf : wr.heap[kb]? = some (.cells #[.int .i64 (kk : Int)] 3 (0, 0))
  fr : wr.heap[xb]? = some (.cells #[v] 31 (0, 0))
  ow : wr.ownsRow B 3 1 v x.length (natCells x)
  l24 : left < 2 ^ 24
  nd : Ds.Nodup
  mks : ∀ D ∈ Ds, wr.heap[D]? = some (.deferred (some [])) ∧ B ≤ D ∧ v.ownBlock ≠ some D
theorem NtL.mod {w : World} {g kb xb b8 b9 B : Nat} {c : CB} {x : List Nat} {left kk : Nat} {v : Value} {Ds : List Nat} {V V' : World} {O : Nat → Prop} (h : NtL w g kb xb b8 b9 B c x left kk v Ds V) (hm : Mod O V V') (hw : ∀ q, O q → w.heap.size ≤ q)
    (h1 : ∀ q, O q → g ≠ q ∧ kb ≠ q ∧ xb ≠ q ∧ b8 ≠ q ∧ b9 ≠ q) (hc : ∀ q, O q → c.mb ≠ q ∧ c.gb ≠ q ∧ c.cb ≠ q ∧ c.M ≠ q ∧ 0 ≠ q) (h2 : ∀ D ∈ Ds, ¬ O D) (h3 : ∀ b, v.ownBlock = some b → ¬ O b) : NtL w g kb xb b8 b9 B c x left kk v Ds V' := by
  have key : ∀ k o, ¬ O k → V.heap[k]? = some o → V'.heap[k]? = some o := fun k o hk e => (hm.2 k (Array.getElem?_eq_some_iff.1 e).1 hk).trans e
  obtain ⟨D, n, hcs⟩ := h.cs
  exact ⟨Mod.new h.nw hm hw, key _ _ (fun h' => (h1 _ h').1 rfl) h.gr, ⟨D, n, hcs.mod hm hc⟩, key _ _ (fun h' => (h1 _ h').2.2.2.1 rfl) h.cv, key _ _ (fun h' => (h1 _ h').2.2.2.2 rfl) h.lf, key _ _ (fun h' => (h1 _ h').2.1 rfl) h.kf, key _ _ (fun h' => (h1 _ h').2.2.1 rfl) h.fr,
    own_keep h.ow (fun b hb => hm.2 b (h.ow.lt b hb).2 (h3 b hb)), h.l24, h.nd, fun D hD => ⟨key _ _ (h2 D hD) (h.mks D hD).1, (h.mks D hD).2⟩⟩
theorem NtL.new {w : World} {g kb xb b8 b9 B : Nat} {c : CB} {x : List Nat} {left kk : Nat} {v : Value} {Ds : List Nat} {V V' : World} (h : NtL w g kb xb b8 b9 B c x left kk v Ds V) (hn : New V V') : NtL w g kb xb b8 b9 B c x left kk v Ds V' :=
  h.mod (O := fun _ => False) (Mod.of_new hn) (fun _ h => h.elim) (fun _ h => h.elim) (fun _ h => h.elim) (fun _ _ => id) (fun _ _ => id)
/-- where the blocks lie -/
structure NtB (w0 g kb xb b8 b9 B : Nat) (c : CB) : Prop where
  lo : w0 ≤ kb ∧ kb < g
  h1 : g < b8 ∧ g < b9 ∧ g < c.mb ∧ g < c.gb ∧ g < c.cb ∧ g < c.M
  h2 : b8 < xb ∧ b9 < xb ∧ c.mb < xb ∧ c.gb < xb ∧ c.cb < xb ∧ c.M < xb ∧ xb < B
  h3 : b9 ≠ b8 ∧ b9 ≠ c.mb ∧ b9 ≠ c.gb ∧ b9 ≠ c.cb ∧ b9 ≠ c.M ∧ b8 ≠ c.M
  h4 : c.mb ≠ c.M ∧ c.gb ≠ c.M ∧ c.cb ≠ c.M
  tb : 0 < w0
theorem NtL.call {w : World} {g kb xb b8 b9 B : Nat} {c : CB} {x : List Nat} {left kk : Nat} {v : Value} {Ds : List Nat} {V V' : World} (h : NtL w g kb xb b8 b9 B c x left kk v Ds V) (hB : NtB w.heap.size g kb xb b8 b9 B c) (hm : Mod (fun q => q = c.M) V V') (cs : ∃ D n, CSt c D n V') : NtL w g kb xb b8 b9 B c x left kk v Ds V' := by
  have key : ∀ k o, k ≠ c.M → V.heap[k]? = some o → V'.heap[k]? = some o := fun k o hk e => (hm.2 k (Array.getElem?_eq_some_iff.1 e).1 hk).trans e
  obtain ⟨⟨l1, l2⟩, ⟨a1, a2, a3, a4, a5, a6⟩, ⟨c1, c2, c3, c4, c5, c6, c7⟩, h3, _, t⟩ := hB
  exact ⟨Mod.new h.nw hm (fun q hq => by rw [hq]; omega), key _ _ (by omega) h.gr, cs, key _ _ h3.2.2.2.2.2 h.cv, key _ _ h3.2.2.2.2.1 h.lf, key _ _ (by omega) h.kf, key _ _ (by omega) h.fr, own_keep h.ow (fun b hb => hm.2 b (h.ow.lt b hb).2 (fun e => by have := (h.ow.lt b hb).1; omega)), h.l24, h.nd, fun D hD => ⟨key _ _ (by have := (h.mks D hD).2.1; omega) (h.mks D hD).1, (h.mks D hD).2⟩⟩
theorem NtL.setk {w : World} {g kb xb b8 b9 B : Nat} {c : CB} {x : List Nat} {left kk : Nat} {v : Value} {Ds : List Nat} {V : World} (h : NtL w g kb xb b8 b9 B c x left kk v Ds V) (hB : NtB w.heap.size g kb xb b8 b9 B c) (k2 : Nat) : NtL w g kb xb b8 b9 B c x left k2 v Ds (V.setCell ⟨kb, 0, none⟩ (.int .i64 (k2 : Int))) := by
  have hm : Mod (fun q => q = kb) V (V.setCell ⟨kb, 0, none⟩ (.int .i64 (k2 : Int))) := Mod.setCell _ _ _ _ rfl
  have key : ∀ k o, k ≠ kb → V.heap[k]? = some o → (V.setCell ⟨kb, 0, none⟩ (.int .i64 (k2 : Int))).heap[k]? = some o := fun k o hk e => (hm.2 k (Array.getElem?_eq_some_iff.1 e).1 hk).trans e
  obtain ⟨⟨l1, l2⟩, ⟨a1, a2, a3, a4, a5, a6⟩, ⟨c1, c2, c3, c4, c5, c6, c7⟩, h3, _, t⟩ := hB
  obtain ⟨D, n, hcs⟩ := h.cs
  exact ⟨Mod.new h.nw hm (fun q hq => by rw [hq]; omega), key _ _ (by omega) h.gr, ⟨D, n, hcs.mod hm (fun q hq => by omega)⟩, key _ _ (by omega) h.cv, key _ _ (by omega) h.lf, heap_setCell_same _ _ 0 _ h.kf, key _ _ (by omega) h.fr, own_keep h.ow (fun b hb => hm.2 b (h.ow.lt b hb).2 (fun e => by have := (h.ow.lt b hb).1; omega)), h.l24, h.nd, fun D hD => ⟨key _ _ (by have := (h.mks D hD).2.1; omega) (h.mks D hD).1, (h.mks D hD).2⟩⟩
theorem NtL.push {w : World} {g kb xb b8 b9 B : Nat} {c : CB} {x : List Nat} {left kk : Nat} {av : Option Addr} {cv : Nat} {Ds : List Nat} {V w4 : World} (h : NtL w g kb xb b8 b9 B c x left kk (.slice av x.length cv) Ds V) (hB : NtB w.heap.size g kb xb b8 b9 B c) {g4 cap4 p t : Nat}
    (hM4 : Mod (fun q => (Value.slice av x.length cv).ownBlock = some q) V w4) (hown4 : w4.ownsRow B 3 1 (.slice (some ⟨g4, 0, none⟩) (x.length + 1) cap4) (x.length + 1) (natCells x ++ [.int .i64 (p : Int)])) (hg4 : (Value.slice av x.length cv).ownBlock = some g4 ∨ V.heap.size ≤ g4) (ht : t < 2 ^ 24) :
    NtL w g kb xb b8 b9 B c (x ++ [p]) t kk (.slice (some ⟨g4, 0, none⟩) (x.length + 1) cap4) Ds ((w4.setCell ⟨xb, 0, none⟩ (.slice (some ⟨g4, 0, none⟩) (x.length + 1) cap4)).setCell ⟨b9, 0, none⟩ (sv t)) := by
  obtain ⟨w5, hw5⟩ : ∃ w5, w5 = (w4.setCell ⟨xb, 0, none⟩ (.slice (some ⟨g4, 0, none⟩) (x.length + 1) cap4)).setCell ⟨b9, 0, none⟩ (sv t) := ⟨_, rfl⟩
  rw [← hw5]
  have hvb : ∀ b, (Value.slice av x.length cv).ownBlock = some b → B ≤ b := fun b hb => (h.ow.lt b hb).1
  have hm : Mod (fun q => (Value.slice av x.length cv).ownBlock = some q ∨ q = xb ∨ q = b9) V w5 := by
    rw [hw5]
    exact (hM4.mono fun q hq => .inl hq).trans ((Mod.setCell _ _ _ _ (.inr (.inl rfl))).trans (Mod.setCell _ _ _ _ (.inr (.inr rfl))))
  obtain ⟨⟨l1, l2⟩, ⟨a1, a2, a3, a4, a5, a6⟩, ⟨c1, c2, c3, c4, c5, c6, c7⟩, h3, _, t0⟩ := hB
  have key : ∀ k o, k ≠ xb → k ≠ b9 → (k < B ∨ (Value.slice av x.length cv).ownBlock ≠ some k) → V.heap[k]? = some o → w5.heap[k]? = some o := fun k o h1 h2 h3 e => (hm.2 k (Array.getElem?_eq_some_iff.1 e).1 (fun h' => by
    rcases h' with h' | h' | h'
    · rcases h3 with h3 | h3
      · have := hvb _ h'; omega
      · exact h3 h'
    · exact h1 h'
    · exact h2 h')).trans e
  have hg4b : B ≤ g4 := (own_parts hown4).choose_spec.1
  obtain ⟨D, n, hcs⟩ := h.cs
  have hxb4 : w4.heap[xb]? = some (.cells #[.slice av x.length cv] 31 (0, 0)) := (hM4.2 xb (Array.getElem?_eq_some_iff.1 h.fr).1 (fun e => by have := hvb _ e; omega)).trans h.fr
  have hlb4 : w4.heap[b9]? = some (.cells #[sv left] 79 (0, 0)) := (hM4.2 b9 (Array.getElem?_eq_some_iff.1 h.lf).1 (fun e => by have := hvb _ e; omega)).trans h.lf
  refine ⟨Mod.new h.nw hm (fun q hq => ?_), key _ _ (by omega) (by omega) (.inl (by omega)) h.gr, ⟨D, n, hcs.mod hm (fun q hq => ?_)⟩, key _ _ (by omega) (by omega) (.inl (by omega)) h.cv, ?_, key _ _ (by omega) (by omega) (.inl (by omega)) h.kf, ?_, ?_, ht, h.nd, fun D' hD' => ⟨key _ _ (by have := (h.mks D' hD').2.1; omega) (by have := (h.mks D' hD').2.1; omega) (.inr (h.mks D' hD').2.2) (h.mks D' hD').1, (h.mks D' hD').2.1, fun e => ?_⟩⟩
  · rcases hq with hq | hq | hq
    · have := hvb _ hq; omega
    · omega
    · omega
  · rcases hq with hq | hq | hq
    · have := hvb _ hq; omega
    · omega
    · subst hq; omega
  · rw [hw5]
    exact heap_setCell_same _ _ 0 _ ((heap_setCell_other _ _ _ _ _ (by omega)).trans hlb4)
  · rw [hw5]
    exact (heap_setCell_other _ _ _ _ _ (by omega)).trans (heap_setCell_same _ _ 0 _ hxb4)
  · have := own_keep (w' := w5) hown4 (fun b hb => by
      simp [Value.ownBlock] at hb
      rw [hw5]
      exact (heap_setCell_other _ _ _ _ _ (by omega)).trans (heap_setCell_other _ _ _ _ _ (by omega)))
    rw [natCells_snoc, List.length_append]
    simpa using this
  · simp [Value.ownBlock] at e
    have h6 := (Array.getElem?_eq_some_iff.1 (h.mks D' hD').1).1
    rcases hg4 with h7 | h7
    · rw [e] at h7; exact (h.mks D' hD').2.2 h7
    · omega
/-- .. between two rounds of the loop over the places that are ready -/
structure NtI (w : World) (g kb xb b8 b9 B : Nat) (c : CB) (x : List Nat) (left kk m : Nat) (v : Value) (Ds : List Nat) (D : Nat) (O : Nat → Prop) (done : List Nat) (pc : Option Code) (V : World) : Prop where
  hi : ∀ q, O q → D ≤ q
  sz : D ≤ V.heap.size
  st : (pc = none ∧ cntTo c.G.be m left done ≤ kk ∧ NtL w g kb xb b8 b9 B c x left (kk - cntTo c.G.be m left done) v Ds V) ∨
    (pc = some (.exit 2) ∧ ∃ p d0 v', done = d0 ++ [p] ∧ cntTo c.G.be m left d0 ≤ kk ∧ kk - cntTo c.G.be m left d0 < cntS c.G.be m (wo left (2 ^ p)) ∧ NtL w g kb xb b8 b9 B c (x ++ [p]) (wo left (2 ^ p)) (kk - cntTo c.G.be m left d0) v' Ds V ∧ ∀ b, v'.ownBlock = some b → ¬ O b)
theorem NtI.stable {w : World} {g kb xb b8 b9 B : Nat} {c : CB} {x : List Nat} {left kk m : Nat} {v : Value} {Ds : List Nat} {D : Nat} {O O' : Nat → Prop} {done : List Nat} {pc : Option Code} {V V' : World} (h : NtI w g kb xb b8 b9 B c x left kk m v Ds D O done pc V)
    (hB : NtB w.heap.size g kb xb b8 b9 B c) (hD : B ≤ D) (hDs : ∀ q ∈ Ds, q < D) (hv : ∀ b, v.ownBlock = some b → b < D) (hm : Mod O V V') (ho : ∀ q, O' q → O q ∨ V.heap.size ≤ q) : NtI w g kb xb b8 b9 B c x left kk m v Ds D O' done pc V' := by
  obtain ⟨⟨l1, l2⟩, ⟨a1, a2, a3, a4, a5, a6⟩, ⟨c1, c2, c3, c4, c5, c6, c7⟩, _, _, t⟩ := hB
  have hw : ∀ q, O q → w.heap.size ≤ q := fun q hq => by have := h.hi q hq; omega
  have h1 : ∀ q, O q → g ≠ q ∧ kb ≠ q ∧ xb ≠ q ∧ b8 ≠ q ∧ b9 ≠ q := fun q hq => by have := h.hi q hq; omega
  have h2 : ∀ q, O q → c.mb ≠ q ∧ c.gb ≠ q ∧ c.cb ≠ q ∧ c.M ≠ q ∧ 0 ≠ q := fun q hq => by have := h.hi q hq; omega
  have hno : ∀ q, q < D → ¬ O q := fun q hq h' => by have := h.hi q h'; omega
  refine ⟨fun q hq => (ho q hq).elim (h.hi q) (fun h' => Nat.le_trans h.sz h'), Nat.le_trans h.sz hm.size, ?_⟩
  rcases h.st with ⟨e, g1, g2⟩ | ⟨e, p, d0, v', e2, g1, g2, g3, g4⟩
  · exact .inl ⟨e, g1, g2.mod hm hw h1 h2 (fun D' hD' => hno _ (hDs D' hD')) (fun b hb => hno _ (hv b hb))⟩
  · exact .inr ⟨e, p, d0, v', e2, g1, g2, g3.mod hm hw h1 h2 (fun D' hD' => hno _ (hDs D' hD')) (fun b hb => g4 b hb), fun b hb h' => (ho b h').elim (g4 b hb) (fun h'' => by have := (g3.ow.lt b hb).2; omega)⟩
theorem nthTo_skip {be : Nat → Nat} {rec : Nat → Nat → List Nat} {k s : Nat} : ∀ (d0 rest : List Nat) (i : Nat), cntTo be k s d0 ≤ i → nthTo be rec k s (d0 ++ rest) i = nthTo be rec k s rest (i - cntTo be k s d0)
  | [], rest, i, _ => by simp [cntTo]
  | q :: d0, rest, i, h => by
    have h' : cntS be k (wo s (2 ^ q)) + cntTo be k s d0 ≤ i := by simpa [cntTo] using h
    have e : cntTo be k s (q :: d0) = cntS be k (wo s (2 ^ q)) + cntTo be k s d0 := by simp [cntTo]
    rw [List.cons_append]
    show (if i < cntS be k (wo s (2 ^ q)) then _ else _) = _
    rw [if_neg (by omega), nthTo_skip d0 rest _ (by omega), e]
    congr 1; omega
theorem nthTo_here {be : Nat → Nat} {rec : Nat → Nat → List Nat} {k s p i : Nat} {rest : List Nat} (h : i < cntS be k (wo s (2 ^ p))) : nthTo be rec k s (p :: rest) i = p :: rec (wo s (2 ^ p)) i := by
  show (if i < cntS be k (wo s (2 ^ p)) then _ else _) = _
  rw [if_pos h]

set_option maxHeartbeats 32000000 in
theorem Nth_good {w : World} {v : Value} {o : Prb} {av nv : Value} (h : PrbA w v o av nv) (hT : Tab w) (hc : fewI o = 0) (kk : Nat) (hkk : kk < cntG (opG o av nv)) :
    Calls Tryd.prog 46 #[v, .int .i64 (kk : Int)] w fun en w' => ∃ u, en = .returned (.tuple #[u, .int .i64 0]) ∧ New w w' ∧ w'.ownsRow w.heap.size 3 1 u (nthG (opG o av nv) kk).length (natCells (nthG (opG o av nv) kk)) := by
  have HO := Lib.hid (fun (w1 : World) (hn : New w w1) => (callsIn_wide (n := 4)).2 (openFew_c (h.new hn)))
  have hOK := opR_ok h.sh
  have hv := h.eq
  obtain ⟨x1, x2, x3, x4, e1, e2⟩ := h.sh
  clear h
  have hk := (fewI_zero hc).1
  rw [opR_good hk] at hOK
  have HB12 := Lib.hid (few_bits hc hOK)
  rw [hc, ofG_good hk] at HO
  have HOK := Lib.hid hOK
  have HT := Lib.hid hT
  clear hT hk hc
  generalize opG o av nv = RG at *
  have HA24 := Lib.hid (fst24 hOK.n24)
  have HAL := Lib.hid (fun (w1 : World) => all_c RG w1 hOK)
  have HCO := Lib.hid (fun (w1 : World) (hn : New w w1) => counter_c RG w1 hOK (HT.out.new hn))
  clear hOK
  obtain ⟨FO, hFO⟩ : ∃ FO, nthG RG kk = FO := ⟨_, rfl⟩
  have HFO := Lib.hid hFO
  rw [hFO]
  have HKK := Lib.hid hkk
  obtain ⟨AL, hAL⟩ : ∃ AL, fst RG.n = AL := ⟨_, rfl⟩
  rw [hAL] at HAL HA24 HB12
  have HALE := Lib.hid hAL
  have HT0 := HT.out.1
  clear hAL hFO hkk
  subst hv
  subst e1 e2
  obtain ⟨H, hH⟩ : ∃ H, w.heap.size = H := ⟨_, rfl⟩
  have HH := Lib.hid hH
  refine (callsIn_wide (n := 5)).1 ?_
  refine callsIn_of_wp_marks Tryd.func46 rfl trivial ?_ rfl
  simp only [Tryd.ntmps46, List.size_toArray, List.length_cons, List.length_nil, Nat.reduceAdd, Nat.reduceSub, Array.replicate_succ, Array.replicate_zero, List.push_toArray, List.append_toArray, List.nil_append, List.cons_append]
  obtain ⟨q1, q2⟩ := alloc3_heap2 w (.cells #[.int .i64 o.n, .slice x1 o.A.length x2, .slice x3 o.B.length x4] 24) (.cells #[.int .i64 (kk : Int)] 3)
  rw [hH] at q1 q2
  have HQ2 := Lib.hid q2
  clear q1 q2
  gi_wp2
  refine ⟨trivial, ?_⟩
  gi_at_call 96
  refine (HO.out _ (((New.refl _).alloc _).alloc _)).mono ?_
  rintro e w6 ⟨rfl, n6⟩
  have HN := Lib.hid ((((New.refl w).alloc _).alloc _).trans n6)
  have HK6 := Lib.hid (row_new HQ2.out n6)
  clear n6
  gi_wp2_with (refine wpListIn_store_graph rfl (.tmp 6) (.tmp 16) rfl rfl rfl HOK.out ?_; intro w7 n7 g7; obtain ⟨g, hg⟩ : ∃ g, w6.heap.size = g := ⟨_, rfl⟩; simp only [hg] at g7 ⊢; have N7 := Lib.hid (HN.out.trans n7); have G7 := Lib.hid g7; have HGg := Lib.hid hg; have HK7 := Lib.hid (row_new HK6.out n7); clear n7 g7)
  apply region_rel0 (fun w' => Gr w' g RG) (fun a' w' => ∃ (b8 b9 : Nat) (fv : Value), a' = { tmps := #[.agg #[.int .i64 o.n, .slice x1 o.A.length x2, .slice x3 o.B.length x4], .int .i64 (kk : Int), .pointer (some ⟨H, 0, none⟩), .pointer (some ⟨H + 1, 0, none⟩), .slice none 0 0, .int .i64 0, .pointer (some ⟨g, 0, none⟩), .int .i64 0, .pointer (some ⟨b8, 0, none⟩), .pointer (some ⟨b9, 0, none⟩), undef, undef, undef, .tuple #[.agg RG.cells.toArray, .int .i64 0], .agg #[.int .i64 o.n, .slice x1 o.A.length x2, .slice x3 o.B.length x4], .tuple #[.agg RG.cells.toArray, .int .i64 0], .agg RG.cells.toArray, .int .i64 0, .int .i64 0, .bool false, undef, .agg RG.cells.toArray, fv, .agg RG.cells.toArray, sv AL, undef, undef, undef, undef, undef, undef, undef, undef, undef, undef, undef, undef, undef, undef, undef, undef, undef, undef, undef, undef, undef, undef, undef, undef, undef, undef, undef, undef, undef, undef, undef, undef, undef, undef, undef, undef], defers := [] } ∧ New w7 w' ∧ Gr w' g RG ∧ w'.heap[b8]? = some (.cells #[fv] 111 (0, 0)) ∧ w'.heap[b9]? = some (.cells #[sv AL] 79 (0, 0)) ∧ IsCnt w7.heap.size RG fv w' ∧ w7.heap.size ≤ b8 ∧ w7.heap.size ≤ b9) (by kernel_rfl) (show Gr w7.drew g RG from G7.out)
  case h =>
    intro hHeld
    refine wpAnyH_take (i := 0) rfl (by kernel_rfl) (by kernel_rfl) (by kernel_rfl) (fun _ _ _ h => h) (yieldsIf_load_mid (by rfl) 83 (.tmp 6) rfl g 0 rfl RG.cells _ (fun w hw => Gr.whole hw) Tryd.underlying83 rfl (by rw [Gph.len]; exact graph_size)) (by assumption) ?_
    (try simp only [Act.put, List.setIfInBounds_toArray, List.set_cons_zero, List.set_cons_succ])
    refine wpAnyH_take (i := 2) rfl (by kernel_rfl) (by kernel_rfl) (by kernel_rfl) (fun _ _ _ h => h) (yieldsIf_load_mid (by rfl) 83 (.tmp 6) rfl g 0 rfl RG.cells _ (fun w hw => Gr.whole hw) Tryd.underlying83 rfl (by rw [Gph.len]; exact graph_size)) (by assumption) ?_
    (try simp only [Act.put, List.setIfInBounds_toArray, List.set_cons_zero, List.set_cons_succ])
    obtain ⟨v0, hv0⟩ : ∃ v0, v0 = w7.drew := ⟨_, rfl⟩
    have Nv0 := Lib.hid (show New w7 v0 from by rw [hv0]; exact (New.refl w7).drew)
    have Gv0 := Lib.hid (show Gr v0 g RG from by rw [hv0]; exact G7.out)
    rw [← hv0]
    clear hv0 hHeld
    have hHeld := Gv0.out
    refine wpAnyH_ready (rs := [1, 4, 5]) (by kernel_rfl) (by simp) ?_
    refine AllReadyH.cons rfl (fun K hK => ?_) (AllReadyH.cons rfl (fun K hK => ?_) (AllReadyH.cons rfl (fun K hK => ?_) AllReadyH.nil))
    · go_simp
      go_at_call 97
      refine (HCO.out _ (N7.out.trans Nv0.out)).mono ?_
      rintro e v1 ⟨fv, rfl, n8, cI⟩
      obtain ⟨mb, gb, cb, rfl⟩ := cI.shape
      have Nv1 := Lib.hid (Nv0.out.trans n8)
      have Gv1 := Lib.hid (Gv0.out.new n8)
      have Cv1 := Lib.hid (IsCnt.base cI (show w7.heap.size ≤ _ from Nv0.out.size))
      refine hK.out _ _ Gv1.out (fun hHeld => ?_)
      clear hK K n8 cI
      (try simp only [Act.put, List.setIfInBounds_toArray, List.set_cons_zero, List.set_cons_succ])
      refine wpAnyH_ready (rs := [3, 4, 5]) (by kernel_rfl) (by simp) ?_
      refine AllReadyH.cons rfl (fun K hK => ?_) (AllReadyH.cons rfl (fun K hK => ?_) (AllReadyH.cons rfl (fun K hK => ?_) AllReadyH.nil))
      · go_simp
        go_at_call 98
        refine (HAL.out _).mono ?_
        rintro e v2 ⟨rfl, n8⟩
        have Nv2 := Lib.hid (Nv1.out.trans n8)
        have Gv2 := Lib.hid (Gv1.out.new n8)
        have Cv2 := Lib.hid (Cv1.out.new n8)
        refine hK.out _ _ Gv2.out (fun hHeld => ?_)
        clear hK K n8
        (try simp only [Act.put, List.setIfInBounds_toArray, List.set_cons_zero, List.set_cons_succ])
        refine wpAnyH_ready (rs := [4, 5]) (by kernel_rfl) (by simp) ?_
        refine AllReadyH.cons rfl (fun K hK => ?_) (AllReadyH.cons rfl (fun K hK => ?_) AllReadyH.nil)
        · go_simp
          obtain ⟨b8, hb8⟩ : ∃ b, v2.heap.size = b := ⟨_, rfl⟩
          simp only [hb8]
          obtain ⟨v3, hW⟩ : ∃ W' : World, W' = v2.alloc (.cells #[.nilFunc] 111) := ⟨_, rfl⟩
          rw [← hW]
          have n8 : New v2 v3 := by rw [hW]; exact (New.refl _).alloc _
          have P8v3 := Lib.hid (show v3.heap[b8]? = some (.cells #[.nilFunc] 111 (0, 0)) from by rw [hW, ← hb8]; exact World.alloc_heap_new v2 _)
          have Lb8 := Lib.hid (show w7.heap.size ≤ b8 from by rw [← hb8]; exact Nv2.out.size)
          have Nv3 := Lib.hid (Nv2.out.trans n8)
          have Gv3 := Lib.hid (Gv2.out.new n8)
          have Cv3 := Lib.hid (Cv2.out.new n8)
          refine hK.out _ _ Gv3.out (fun hHeld => ?_)
          clear hK K n8 hW hb8
          (try simp only [Act.put, List.setIfInBounds_toArray, List.set_cons_zero, List.set_cons_succ])
          refine wpAnyH_ready (rs := [5]) (by kernel_rfl) (by simp) ?_
          refine AllReadyH.cons rfl (fun K hK => ?_) AllReadyH.nil
          · go_simp
            obtain ⟨b9, hb9⟩ : ∃ b, v3.heap.size = b := ⟨_, rfl⟩
            simp only [hb9]
            obtain ⟨v4, hW⟩ : ∃ W' : World, W' = v3.alloc (.cells #[.int .u32 0] 79) := ⟨_, rfl⟩
            rw [← hW]
            have n8 : New v3 v4 := by rw [hW]; exact (New.refl _).alloc _
            have P9v4 := Lib.hid (show v4.heap[b9]? = some (.cells #[.int .u32 0] 79 (0, 0)) from by rw [hW, ← hb9]; exact World.alloc_heap_new v3 _)
            have Lb9 := Lib.hid (show w7.heap.size ≤ b9 from by rw [← hb9]; exact Nv3.out.size)
            have Nv4 := Lib.hid (Nv3.out.trans n8)
            have Gv4 := Lib.hid (Gv3.out.new n8)
            have P8v4 := Lib.hid (row_new P8v3.out n8)
            have Cv4 := Lib.hid (Cv3.out.new n8)
            refine hK.out _ _ Gv4.out (fun hHeld => ?_)
            clear hK K n8 hW hb9
            (try simp only [Act.put, List.setIfInBounds_toArray, List.set_cons_zero, List.set_cons_succ])
            have c8 := box_cell P8v4.out
            refine wpAnyH_ready (rs := [6]) (by kernel_rfl) (by simp) ?_
            refine AllReadyH.cons rfl (fun K hK => ?_) AllReadyH.nil
            go_simp
            have g8 := gr_put (u := (Value.func (.func 142) #[] #[.pointer (some ⟨mb, 0, none⟩), .pointer (some ⟨gb, 0, none⟩), .pointer (some ⟨cb, 0, none⟩)])) Gv4.out P8v4.out (by decide)
            have hne : b9 ≠ b8 := fun e => by have h1 := P8v4.out; have h2 := P9v4.out; rw [e, h1] at h2; simp at h2
            have p9 := (heap_setCell_other v4 b8 0 b9 (Value.func (.func 142) #[] #[.pointer (some ⟨mb, 0, none⟩), .pointer (some ⟨gb, 0, none⟩), .pointer (some ⟨cb, 0, none⟩)]) hne).trans P9v4.out
            have c9 := box_cell p9
            have ci := cnt_put (u := (Value.func (.func 142) #[] #[.pointer (some ⟨mb, 0, none⟩), .pointer (some ⟨gb, 0, none⟩), .pointer (some ⟨cb, 0, none⟩)])) Cv4.out P8v4.out (by have := HT.out.1; have := N7.out.size; have := Lb8.out; omega) (.inl ⟨rfl, rfl⟩)
            have p8 := heap_setCell_same v4 b8 0 (Value.func (.func 142) #[] #[.pointer (some ⟨mb, 0, none⟩), .pointer (some ⟨gb, 0, none⟩), .pointer (some ⟨cb, 0, none⟩)]) P8v4.out
            have l8 := (Mod.new (O := fun q => q = b8) Nv4.out (Mod.setCell v4 b8 0 (Value.func (.func 142) #[] #[.pointer (some ⟨mb, 0, none⟩), .pointer (some ⟨gb, 0, none⟩), .pointer (some ⟨cb, 0, none⟩)]) rfl) (fun k hk => by rw [hk]; exact Lb8.out))
            refine hK.out _ _ g8 (fun hHeld => ?_)
            clear hK K
            (try simp only [Act.put, List.setIfInBounds_toArray, List.set_cons_zero, List.set_cons_succ])
            refine wpAnyH_ready (rs := [7]) (by kernel_rfl) (by simp) ?_
            refine AllReadyH.cons rfl (fun K hK => ?_) AllReadyH.nil
            go_simp
            have g9 := gr_put (u := sv AL) g8 p9 (by decide)
            have ci9 := cnt_put (u := sv AL) ci p9 (by have := HT.out.1; have := N7.out.size; have := Lb9.out; omega) (.inr (.inl rfl))
            refine hK.out _ _ g9 (fun hHeld => ?_)
            clear hK K
            (try simp only [Act.put, List.setIfInBounds_toArray, List.set_cons_zero, List.set_cons_succ])
            refine wpAnyH_done (by kernel_rfl) ?_ _
            exact ⟨b8, b9, _, rfl, (Mod.new (O := fun q => q = b9) l8 (Mod.setCell _ b9 0 (sv AL) rfl) (fun k hk => by rw [hk]; exact Lb9.out)), g9, (heap_setCell_other _ b9 0 b8 _ (fun e => hne e.symm)).trans p8, heap_setCell_same _ b9 0 (sv AL) p9, ci9, Lb8.out, Lb9.out⟩
        · go_simp
          obtain ⟨b9, hb9⟩ : ∃ b, v2.heap.size = b := ⟨_, rfl⟩
          simp only [hb9]
          obtain ⟨v5, hW⟩ : ∃ W' : World, W' = v2.alloc (.cells #[.int .u32 0] 79) := ⟨_, rfl⟩
          rw [← hW]
          have n8 : New v2 v5 := by rw [hW]; exact (New.refl _).alloc _
          have P9v5 := Lib.hid (show v5.heap[b9]? = some (.cells #[.int .u32 0] 79 (0, 0)) from by rw [hW, ← hb9]; exact World.alloc_heap_new v2 _)
          have Lb9 := Lib.hid (show w7.heap.size ≤ b9 from by rw [← hb9]; exact Nv2.out.size)
          have Nv5 := Lib.hid (Nv2.out.trans n8)
          have Gv5 := Lib.hid (Gv2.out.new n8)
          have Cv5 := Lib.hid (Cv2.out.new n8)
          refine hK.out _ _ Gv5.out (fun hHeld => ?_)
          clear hK K n8 hW hb9
          (try simp only [Act.put, List.setIfInBounds_toArray, List.set_cons_zero, List.set_cons_succ])
          refine wpAnyH_ready (rs := [4]) (by kernel_rfl) (by simp) ?_
          refine AllReadyH.cons rfl (fun K hK => ?_) AllReadyH.nil
          · go_simp
            obtain ⟨b8, hb8⟩ : ∃ b, v5.heap.size = b := ⟨_, rfl⟩
            simp only [hb8]
            obtain ⟨v6, hW⟩ : ∃ W' : World, W' = v5.alloc (.cells #[.nilFunc] 111) := ⟨_, rfl⟩
            rw [← hW]
            have n8 : New v5 v6 := by rw [hW]; exact (New.refl _).alloc _
            have P8v6 := Lib.hid (show v6.heap[b8]? = some (.cells #[.nilFunc] 111 (0, 0)) from by rw [hW, ← hb8]; exact World.alloc_heap_new v5 _)
            have Lb8 := Lib.hid (show w7.heap.size ≤ b8 from by rw [← hb8]; exact Nv5.out.size)
            have Nv6 := Lib.hid (Nv5.out.trans n8)
            have Gv6 := Lib.hid (Gv5.out.new n8)
            have P9v6 := Lib.hid (row_new P9v5.out n8)
            have Cv6 := Lib.hid (Cv5.out.new n8)
            refine hK.out _ _ Gv6.out (fun hHeld => ?_)
            clear hK K n8 hW hb8
            (try simp only [Act.put, List.setIfInBounds_toArray, List.set_cons_zero, List.set_cons_succ])
            have c8 := box_cell P8v6.out
            refine wpAnyH_ready (rs := [6]) (by kernel_rfl) (by simp) ?_
            refine AllReadyH.cons rfl (fun K hK => ?_) AllReadyH.nil
            go_simp
            have g8 := gr_put (u := (Value.func (.func 142) #[] #[.pointer (some ⟨mb, 0, none⟩), .pointer (some ⟨gb, 0, none⟩), .pointer (some ⟨cb, 0, none⟩)])) Gv6.out P8v6.out (by decide)
            have hne : b9 ≠ b8 := fun e => by have h1 := P8v6.out; have h2 := P9v6.out; rw [e, h1] at h2; simp at h2
            have p9 := (heap_setCell_other v6 b8 0 b9 (Value.func (.func 142) #[] #[.pointer (some ⟨mb, 0, none⟩), .pointer (some ⟨gb, 0, none⟩), .pointer (some ⟨cb, 0, none⟩)]) hne).trans P9v6.out
            have c9 := box_cell p9
            have ci := cnt_put (u := (Value.func (.func 142) #[] #[.pointer (some ⟨mb, 0, none⟩), .pointer (some ⟨gb, 0, none⟩), .pointer (some ⟨cb, 0, none⟩)])) Cv6.out P8v6.out (by have := HT.out.1; have := N7.out.size; have := Lb8.out; omega) (.inl ⟨rfl, rfl⟩)
            have p8 := heap_setCell_same v6 b8 0 (Value.func (.func 142) #[] #[.pointer (some ⟨mb, 0, none⟩), .pointer (some ⟨gb, 0, none⟩), .pointer (some ⟨cb, 0, none⟩)]) P8v6.out
            have l8 := (Mod.new (O := fun q => q = b8) Nv6.out (Mod.setCell v6 b8 0 (Value.func (.func 142) #[] #[.pointer (some ⟨mb, 0, none⟩), .pointer (some ⟨gb, 0, none⟩), .pointer (some ⟨cb, 0, none⟩)]) rfl) (fun k hk => by rw [hk]; exact Lb8.out))
            refine hK.out _ _ g8 (fun hHeld => ?_)
            clear hK K
            (try simp only [Act.put, List.setIfInBounds_toArray, List.set_cons_zero, List.set_cons_succ])
            refine wpAnyH_ready (rs := [7]) (by kernel_rfl) (by simp) ?_
            refine AllReadyH.cons rfl (fun K hK => ?_) AllReadyH.nil
            go_simp
            have g9 := gr_put (u := sv AL) g8 p9 (by decide)
            have ci9 := cnt_put (u := sv AL) ci p9 (by have := HT.out.1; have := N7.out.size; have := Lb9.out; omega) (.inr (.inl rfl))
            refine hK.out _ _ g9 (fun hHeld => ?_)
            clear hK K
            (try simp only [Act.put, List.setIfInBounds_toArray, List.set_cons_zero, List.set_cons_succ])
            refine wpAnyH_done (by kernel_rfl) ?_ _
            exact ⟨b8, b9, _, rfl, (Mod.new (O := fun q => q = b9) l8 (Mod.setCell _ b9 0 (sv AL) rfl) (fun k hk => by rw [hk]; exact Lb9.out)), g9, (heap_setCell_other _ b9 0 b8 _ (fun e => hne e.symm)).trans p8, heap_setCell_same _ b9 0 (sv AL) p9, ci9, Lb8.out, Lb9.out⟩
      · go_simp
        obtain ⟨b8, hb8⟩ : ∃ b, v1.heap.size = b := ⟨_, rfl⟩
        simp only [hb8]
        obtain ⟨v7, hW⟩ : ∃ W' : World, W' = v1.alloc (.cells #[.nilFunc] 111) := ⟨_, rfl⟩
        rw [← hW]
        have n8 : New v1 v7 := by rw [hW]; exact (New.refl _).alloc _
        have P8v7 := Lib.hid (show v7.heap[b8]? = some (.cells #[.nilFunc] 111 (0, 0)) from by rw [hW, ← hb8]; exact World.alloc_heap_new v1 _)
        have Lb8 := Lib.hid (show w7.heap.size ≤ b8 from by rw [← hb8]; exact Nv1.out.size)
        have Nv7 := Lib.hid (Nv1.out.trans n8)
        have Gv7 := Lib.hid (Gv1.out.new n8)
        have Cv7 := Lib.hid (Cv1.out.new n8)
        refine hK.out _ _ Gv7.out (fun hHeld => ?_)
        clear hK K n8 hW hb8
        (try simp only [Act.put, List.setIfInBounds_toArray, List.set_cons_zero, List.set_cons_succ])
        refine wpAnyH_ready (rs := [3, 5]) (by kernel_rfl) (by simp) ?_
        refine AllReadyH.cons rfl (fun K hK => ?_) (AllReadyH.cons rfl (fun K hK => ?_) AllReadyH.nil)
        · go_simp
          go_at_call 98
          refine (HAL.out _).mono ?_
          rintro e v8 ⟨rfl, n8⟩
          have Nv8 := Lib.hid (Nv7.out.trans n8)
          have Gv8 := Lib.hid (Gv7.out.new n8)
          have P8v8 := Lib.hid (row_new P8v7.out n8)
          have Cv8 := Lib.hid (Cv7.out.new n8)
          refine hK.out _ _ Gv8.out (fun hHeld => ?_)
          clear hK K n8
          (try simp only [Act.put, List.setIfInBounds_toArray, List.set_cons_zero, List.set_cons_succ])
          refine wpAnyH_ready (rs := [5]) (by kernel_rfl) (by simp) ?_
          refine AllReadyH.cons rfl (fun K hK => ?_) AllReadyH.nil
          · go_simp
            obtain ⟨b9, hb9⟩ : ∃ b, v8.heap.size = b := ⟨_, rfl⟩
            simp only [hb9]
            obtain ⟨v9, hW⟩ : ∃ W' : World, W' = v8.alloc (.cells #[.int .u32 0] 79) := ⟨_, rfl⟩
            rw [← hW]
            have n8 : New v8 v9 := by rw [hW]; exact (New.refl _).alloc _
            have P9v9 := Lib.hid (show v9.heap[b9]? = some (.cells #[.int .u32 0] 79 (0, 0)) from by rw [hW, ← hb9]; exact World.alloc_heap_new v8 _)
            have Lb9 := Lib.hid (show w7.heap.size ≤ b9 from by rw [← hb9]; exact Nv8.out.size)
            have Nv9 := Lib.hid (Nv8.out.trans n8)
            have Gv9 := Lib.hid (Gv8.out.new n8)
            have P8v9 := Lib.hid (row_new P8v8.out n8)
            have Cv9 := Lib.hid (Cv8.out.new n8)
            refine hK.out _ _ Gv9.out (fun hHeld => ?_)
            clear hK K n8 hW hb9
            (try simp only [Act.put, List.setIfInBounds_toArray, List.set_cons_zero, List.set_cons_succ])
            have c8 := box_cell P8v9.out
            refine wpAnyH_ready (rs := [6]) (by kernel_rfl) (by simp) ?_
            refine AllReadyH.cons rfl (fun K hK => ?_) AllReadyH.nil
            go_simp
            have g8 := gr_put (u := (Value.func (.func 142) #[] #[.pointer (some ⟨mb, 0, none⟩), .pointer (some ⟨gb, 0, none⟩), .pointer (some ⟨cb, 0, none⟩)])) Gv9.out P8v9.out (by decide)
            have hne : b9 ≠ b8 := fun e => by have h1 := P8v9.out; have h2 := P9v9.out; rw [e, h1] at h2; simp at h2
            have p9 := (heap_setCell_other v9 b8 0 b9 (Value.func (.func 142) #[] #[.pointer (some ⟨mb, 0, none⟩), .pointer (some ⟨gb, 0, none⟩), .pointer (some ⟨cb, 0, none⟩)]) hne).trans P9v9.out
            have c9 := box_cell p9
            have ci := cnt_put (u := (Value.func (.func 142) #[] #[.pointer (some ⟨mb, 0, none⟩), .pointer (some ⟨gb, 0, none⟩), .pointer (some ⟨cb, 0, none⟩)])) Cv9.out P8v9.out (by have := HT.out.1; have := N7.out.size; have := Lb8.out; omega) (.inl ⟨rfl, rfl⟩)
            have p8 := heap_setCell_same v9 b8 0 (Value.func (.func 142) #[] #[.pointer (some ⟨mb, 0, none⟩), .pointer (some ⟨gb, 0, none⟩), .pointer (some ⟨cb, 0, none⟩)]) P8v9.out
            have l8 := (Mod.new (O := fun q => q = b8) Nv9.out (Mod.setCell v9 b8 0 (Value.func (.func 142) #[] #[.pointer (some ⟨mb, 0, none⟩), .pointer (some ⟨gb, 0, none⟩), .pointer (some ⟨cb, 0, none⟩)]) rfl) (fun k hk => by rw [hk]; exact Lb8.out))
            refine hK.out _ _ g8 (fun hHeld => ?_)
            clear hK K
            (try simp only [Act.put, List.setIfInBounds_toArray, List.set_cons_zero, List.set_cons_succ])
            refine wpAnyH_ready (rs := [7]) (by kernel_rfl) (by simp) ?_
            refine AllReadyH.cons rfl (fun K hK => ?_) AllReadyH.nil
            go_simp
            have g9 := gr_put (u := sv AL) g8 p9 (by decide)
            have ci9 := cnt_put (u := sv AL) ci p9 (by have := HT.out.1; have := N7.out.size; have := Lb9.out; omega) (.inr (.inl rfl))
            refine hK.out _ _ g9 (fun hHeld => ?_)
            clear hK K
            (try simp only [Act.put, List.setIfInBounds_toArray, List.set_cons_zero, List.set_cons_succ])
            refine wpAnyH_done (by kernel_rfl) ?_ _
            exact ⟨b8, b9, _, rfl, (Mod.new (O := fun q => q = b9) l8 (Mod.setCell _ b9 0 (sv AL) rfl) (fun k hk => by rw [hk]; exact Lb9.out)), g9, (heap_setCell_other _ b9 0 b8 _ (fun e => hne e.symm)).trans p8, heap_setCell_same _ b9 0 (sv AL) p9, ci9, Lb8.out, Lb9.out⟩
        · go_simp
          obtain ⟨b9, hb9⟩ : ∃ b, v7.heap.size = b := ⟨_, rfl⟩
          simp only [hb9]
          obtain ⟨v10, hW⟩ : ∃ W' : World, W' = v7.alloc (.cells #[.int .u32 0] 79) := ⟨_, rfl⟩
          rw [← hW]
          have n8 : New v7 v10 := by rw [hW]; exact (New.refl _).alloc _
          have P9v10 := Lib.hid (show v10.heap[b9]? = some (.cells #[.int .u32 0] 79 (0, 0)) from by rw [hW, ← hb9]; exact World.alloc_heap_new v7 _)
          have Lb9 := Lib.hid (show w7.heap.size ≤ b9 from by rw [← hb9]; exact Nv7.out.size)
          have Nv10 := Lib.hid (Nv7.out.trans n8)
          have Gv10 := Lib.hid (Gv7.out.new n8)
          have P8v10 := Lib.hid (row_new P8v7.out n8)
          have Cv10 := Lib.hid (Cv7.out.new n8)
          refine hK.out _ _ Gv10.out (fun hHeld => ?_)
          clear hK K n8 hW hb9
          (try simp only [Act.put, List.setIfInBounds_toArray, List.set_cons_zero, List.set_cons_succ])
          refine wpAnyH_ready (rs := [3]) (by kernel_rfl) (by simp) ?_
          refine AllReadyH.cons rfl (fun K hK => ?_) AllReadyH.nil
          · go_simp
            go_at_call 98
            refine (HAL.out _).mono ?_
            rintro e v11 ⟨rfl, n8⟩
            have Nv11 := Lib.hid (Nv10.out.trans n8)
            have Gv11 := Lib.hid (Gv10.out.new n8)
            have P8v11 := Lib.hid (row_new P8v10.out n8)
            have P9v11 := Lib.hid (row_new P9v10.out n8)
            have Cv11 := Lib.hid (Cv10.out.new n8)
            refine hK.out _ _ Gv11.out (fun hHeld => ?_)
            clear hK K n8
            (try simp only [Act.put, List.setIfInBounds_toArray, List.set_cons_zero, List.set_cons_succ])
            have c8 := box_cell P8v11.out
            refine wpAnyH_ready (rs := [6]) (by kernel_rfl) (by simp) ?_
            refine AllReadyH.cons rfl (fun K hK => ?_) AllReadyH.nil
            go_simp
            have g8 := gr_put (u := (Value.func (.func 142) #[] #[.pointer (some ⟨mb, 0, none⟩), .pointer (some ⟨gb, 0, none⟩), .pointer (some ⟨cb, 0, none⟩)])) Gv11.out P8v11.out (by decide)
            have hne : b9 ≠ b8 := fun e => by have h1 := P8v11.out; have h2 := P9v11.out; rw [e, h1] at h2; simp at h2
            have p9 := (heap_setCell_other v11 b8 0 b9 (Value.func (.func 142) #[] #[.pointer (some ⟨mb, 0, none⟩), .pointer (some ⟨gb, 0, none⟩), .pointer (some ⟨cb, 0, none⟩)]) hne).trans P9v11.out
            have c9 := box_cell p9
            have ci := cnt_put (u := (Value.func (.func 142) #[] #[.pointer (some ⟨mb, 0, none⟩), .pointer (some ⟨gb, 0, none⟩), .pointer (some ⟨cb, 0, none⟩)])) Cv11.out P8v11.out (by have := HT.out.1; have := N7.out.size; have := Lb8.out; omega) (.inl ⟨rfl, rfl⟩)
            have p8 := heap_setCell_same v11 b8 0 (Value.func (.func 142) #[] #[.pointer (some ⟨mb, 0, none⟩), .pointer (some ⟨gb, 0, none⟩), .pointer (some ⟨cb, 0, none⟩)]) P8v11.out
            have l8 := (Mod.new (O := fun q => q = b8) Nv11.out (Mod.setCell v11 b8 0 (Value.func (.func 142) #[] #[.pointer (some ⟨mb, 0, none⟩), .pointer (some ⟨gb, 0, none⟩), .pointer (some ⟨cb, 0, none⟩)]) rfl) (fun k hk => by rw [hk]; exact Lb8.out))
            refine hK.out _ _ g8 (fun hHeld => ?_)
            clear hK K
            (try simp only [Act.put, List.setIfInBounds_toArray, List.set_cons_zero, List.set_cons_succ])
            refine wpAnyH_ready (rs := [7]) (by kernel_rfl) (by simp) ?_
            refine AllReadyH.cons rfl (fun K hK => ?_) AllReadyH.nil
            go_simp
            have g9 := gr_put (u := sv AL) g8 p9 (by decide)
            have ci9 := cnt_put (u := sv AL) ci p9 (by have := HT.out.1; have := N7.out.size; have := Lb9.out; omega) (.inr (.inl rfl))
            refine hK.out _ _ g9 (fun hHeld => ?_)
            clear hK K
            (try simp only [Act.put, List.setIfInBounds_toArray, List.set_cons_zero, List.set_cons_succ])
            refine wpAnyH_done (by kernel_rfl) ?_ _
            exact ⟨b8, b9, _, rfl, (Mod.new (O := fun q => q = b9) l8 (Mod.setCell _ b9 0 (sv AL) rfl) (fun k hk => by rw [hk]; exact Lb9.out)), g9, (heap_setCell_other _ b9 0 b8 _ (fun e => hne e.symm)).trans p8, heap_setCell_same _ b9 0 (sv AL) p9, ci9, Lb8.out, Lb9.out⟩
      · go_simp
        obtain ⟨b9, hb9⟩ : ∃ b, v1.heap.size = b := ⟨_, rfl⟩
        simp only [hb9]
        obtain ⟨v12, hW⟩ : ∃ W' : World, W' = v1.alloc (.cells #[.int .u32 0] 79) := ⟨_, rfl⟩
        rw [← hW]
        have n8 : New v1 v12 := by rw [hW]; exact (New.refl _).alloc _
        have P9v12 := Lib.hid (show v12.heap[b9]? = some (.cells #[.int .u32 0] 79 (0, 0)) from by rw [hW, ← hb9]; exact World.alloc_heap_new v1 _)
        have Lb9 := Lib.hid (show w7.heap.size ≤ b9 from by rw [← hb9]; exact Nv1.out.size)
        have Nv12 := Lib.hid (Nv1.out.trans n8)
        have Gv12 := Lib.hid (Gv1.out.new n8)
        have Cv12 := Lib.hid (Cv1.out.new n8)
        refine hK.out _ _ Gv12.out (fun hHeld => ?_)
        clear hK K n8 hW hb9
        (try simp only [Act.put, List.setIfInBounds_toArray, List.set_cons_zero, List.set_cons_succ])
        refine wpAnyH_ready (rs := [3, 4]) (by kernel_rfl) (by simp) ?_
        refine AllReadyH.cons rfl (fun K hK => ?_) (AllReadyH.cons rfl (fun K hK => ?_) AllReadyH.nil)
        · go_simp
          go_at_call 98
          refine (HAL.out _).mono ?_
          rintro e v13 ⟨rfl, n8⟩
          have Nv13 := Lib.hid (Nv12.out.trans n8)
          have Gv13 := Lib.hid (Gv12.out.new n8)
          have P9v13 := Lib.hid (row_new P9v12.out n8)
          have Cv13 := Lib.hid (Cv12.out.new n8)
          refine hK.out _ _ Gv13.out (fun hHeld => ?_)
          clear hK K n8
          (try simp only [Act.put, List.setIfInBounds_toArray, List.set_cons_zero, List.set_cons_succ])
          refine wpAnyH_ready (rs := [4]) (by kernel_rfl) (by simp) ?_
          refine AllReadyH.cons rfl (fun K hK => ?_) AllReadyH.nil
          · go_simp
            obtain ⟨b8, hb8⟩ : ∃ b, v13.heap.size = b := ⟨_, rfl⟩
            simp only [hb8]
            obtain ⟨v14, hW⟩ : ∃ W' : World, W' = v13.alloc (.cells #[.nilFunc] 111) := ⟨_, rfl⟩
            rw [← hW]
            have n8 : New v13 v14 := by rw [hW]; exact (New.refl _).alloc _
            have P8v14 := Lib.hid (show v14.heap[b8]? = some (.cells #[.nilFunc] 111 (0, 0)) from by rw [hW, ← hb8]; exact World.alloc_heap_new v13 _)
            have Lb8 := Lib.hid (show w7.heap.size ≤ b8 from by rw [← hb8]; exact Nv13.out.size)
            have Nv14 := Lib.hid (Nv13.out.trans n8)
            have Gv14 := Lib.hid (Gv13.out.new n8)
            have P9v14 := Lib.hid (row_new P9v13.out n8)
            have Cv14 := Lib.hid (Cv13.out.new n8)
            refine hK.out _ _ Gv14.out (fun hHeld => ?_)
            clear hK K n8 hW hb8
            (try simp only [Act.put, List.setIfInBounds_toArray, List.set_cons_zero, List.set_cons_succ])
            have c8 := box_cell P8v14.out
            refine wpAnyH_ready (rs := [6]) (by kernel_rfl) (by simp) ?_
            refine AllReadyH.cons rfl (fun K hK => ?_) AllReadyH.nil
            go_simp
            have g8 := gr_put (u := (Value.func (.func 142) #[] #[.pointer (some ⟨mb, 0, none⟩), .pointer (some ⟨gb, 0, none⟩), .pointer (some ⟨cb, 0, none⟩)])) Gv14.out P8v14.out (by decide)
            have hne : b9 ≠ b8 := fun e => by have h1 := P8v14.out; have h2 := P9v14.out; rw [e, h1] at h2; simp at h2
            have p9 := (heap_setCell_other v14 b8 0 b9 (Value.func (.func 142) #[] #[.pointer (some ⟨mb, 0, none⟩), .pointer (some ⟨gb, 0, none⟩), .pointer (some ⟨cb, 0, none⟩)]) hne).trans P9v14.out
            have c9 := box_cell p9
            have ci := cnt_put (u := (Value.func (.func 142) #[] #[.pointer (some ⟨mb, 0, none⟩), .pointer (some ⟨gb, 0, none⟩), .pointer (some ⟨cb, 0, none⟩)])) Cv14.out P8v14.out (by have := HT.out.1; have := N7.out.size; have := Lb8.out; omega) (.inl ⟨rfl, rfl⟩)
            have p8 := heap_setCell_same v14 b8 0 (Value.func (.func 142) #[] #[.pointer (some ⟨mb, 0, none⟩), .pointer (some ⟨gb, 0, none⟩), .pointer (some ⟨cb, 0, none⟩)]) P8v14.out
            have l8 := (Mod.new (O := fun q => q = b8) Nv14.out (Mod.setCell v14 b8 0 (Value.func (.func 142) #[] #[.pointer (some ⟨mb, 0, none⟩), .pointer (some ⟨gb, 0, none⟩), .pointer (some ⟨cb, 0, none⟩)]) rfl) (fun k hk => by rw [hk]; exact Lb8.out))
            refine hK.out _ _ g8 (fun hHeld => ?_)
            clear hK K
            (try simp only [Act.put, List.setIfInBounds_toArray, List.set_cons_zero, List.set_cons_succ])
            refine wpAnyH_ready (rs := [7]) (by kernel_rfl) (by simp) ?_
            refine AllReadyH.cons rfl (fun K hK => ?_) AllReadyH.nil
            go_simp
            have g9 := gr_put (u := sv AL) g8 p9 (by decide)
            have ci9 := cnt_put (u := sv AL) ci p9 (by have := HT.out.1; have := N7.out.size; have := Lb9.out; omega) (.inr (.inl rfl))
            refine hK.out _ _ g9 (fun hHeld => ?_)
            clear hK K
            (try simp only [Act.put, List.setIfInBounds_toArray, List.set_cons_zero, List.set_cons_succ])
            refine wpAnyH_done (by kernel_rfl) ?_ _
            exact ⟨b8, b9, _, rfl, (Mod.new (O := fun q => q = b9) l8 (Mod.setCell _ b9 0 (sv AL) rfl) (fun k hk => by rw [hk]; exact Lb9.out)), g9, (heap_setCell_other _ b9 0 b8 _ (fun e => hne e.symm)).trans p8, heap_setCell_same _ b9 0 (sv AL) p9, ci9, Lb8.out, Lb9.out⟩
        · go_simp
          obtain ⟨b8, hb8⟩ : ∃ b, v12.heap.size = b := ⟨_, rfl⟩
          simp only [hb8]
          obtain ⟨v15, hW⟩ : ∃ W' : World, W' = v12.alloc (.cells #[.nilFunc] 111) := ⟨_, rfl⟩
          rw [← hW]
          have n8 : New v12 v15 := by rw [hW]; exact (New.refl _).alloc _
          have P8v15 := Lib.hid (show v15.heap[b8]? = some (.cells #[.nilFunc] 111 (0, 0)) from by rw [hW, ← hb8]; exact World.alloc_heap_new v12 _)
          have Lb8 := Lib.hid (show w7.heap.size ≤ b8 from by rw [← hb8]; exact Nv12.out.size)
          have Nv15 := Lib.hid (Nv12.out.trans n8)
          have Gv15 := Lib.hid (Gv12.out.new n8)
          have P9v15 := Lib.hid (row_new P9v12.out n8)
          have Cv15 := Lib.hid (Cv12.out.new n8)
          refine hK.out _ _ Gv15.out (fun hHeld => ?_)
          clear hK K n8 hW hb8
          (try simp only [Act.put, List.setIfInBounds_toArray, List.set_cons_zero, List.set_cons_succ])
          refine wpAnyH_ready (rs := [3]) (by kernel_rfl) (by simp) ?_
          refine AllReadyH.cons rfl (fun K hK => ?_) AllReadyH.nil
          · go_simp
            go_at_call 98
            refine (HAL.out _).mono ?_
            rintro e v16 ⟨rfl, n8⟩
            have Nv16 := Lib.hid (Nv15.out.trans n8)
            have Gv16 := Lib.hid (Gv15.out.new n8)
            have P8v16 := Lib.hid (row_new P8v15.out n8)
            have P9v16 := Lib.hid (row_new P9v15.out n8)
            have Cv16 := Lib.hid (Cv15.out.new n8)
            refine hK.out _ _ Gv16.out (fun hHeld => ?_)
            clear hK K n8
            (try simp only [Act.put, List.setIfInBounds_toArray, List.set_cons_zero, List.set_cons_succ])
            have c8 := box_cell P8v16.out
            refine wpAnyH_ready (rs := [6]) (by kernel_rfl) (by simp) ?_
            refine AllReadyH.cons rfl (fun K hK => ?_) AllReadyH.nil
            go_simp
            have g8 := gr_put (u := (Value.func (.func 142) #[] #[.pointer (some ⟨mb, 0, none⟩), .pointer (some ⟨gb, 0, none⟩), .pointer (some ⟨cb, 0, none⟩)])) Gv16.out P8v16.out (by decide)
            have hne : b9 ≠ b8 := fun e => by have h1 := P8v16.out; have h2 := P9v16.out; rw [e, h1] at h2; simp at h2
            have p9 := (heap_setCell_other v16 b8 0 b9 (Value.func (.func 142) #[] #[.pointer (some ⟨mb, 0, none⟩), .pointer (some ⟨gb, 0, none⟩), .pointer (some ⟨cb, 0, none⟩)]) hne).trans P9v16.out
            have c9 := box_cell p9
            have ci := cnt_put (u := (Value.func (.func 142) #[] #[.pointer (some ⟨mb, 0, none⟩), .pointer (some ⟨gb, 0, none⟩), .pointer (some ⟨cb, 0, none⟩)])) Cv16.out P8v16.out (by have := HT.out.1; have := N7.out.size; have := Lb8.out; omega) (.inl ⟨rfl, rfl⟩)
            have p8 := heap_setCell_same v16 b8 0 (Value.func (.func 142) #[] #[.pointer (some ⟨mb, 0, none⟩), .pointer (some ⟨gb, 0, none⟩), .pointer (some ⟨cb, 0, none⟩)]) P8v16.out
            have l8 := (Mod.new (O := fun q => q = b8) Nv16.out (Mod.setCell v16 b8 0 (Value.func (.func 142) #[] #[.pointer (some ⟨mb, 0, none⟩), .pointer (some ⟨gb, 0, none⟩), .pointer (some ⟨cb, 0, none⟩)]) rfl) (fun k hk => by rw [hk]; exact Lb8.out))
            refine hK.out _ _ g8 (fun hHeld => ?_)
            clear hK K
            (try simp only [Act.put, List.setIfInBounds_toArray, List.set_cons_zero, List.set_cons_succ])
            refine wpAnyH_ready (rs := [7]) (by kernel_rfl) (by simp) ?_
            refine AllReadyH.cons rfl (fun K hK => ?_) AllReadyH.nil
            go_simp
            have g9 := gr_put (u := sv AL) g8 p9 (by decide)
            have ci9 := cnt_put (u := sv AL) ci p9 (by have := HT.out.1; have := N7.out.size; have := Lb9.out; omega) (.inr (.inl rfl))
            refine hK.out _ _ g9 (fun hHeld => ?_)
            clear hK K
            (try simp only [Act.put, List.setIfInBounds_toArray, List.set_cons_zero, List.set_cons_succ])
            refine wpAnyH_done (by kernel_rfl) ?_ _
            exact ⟨b8, b9, _, rfl, (Mod.new (O := fun q => q = b9) l8 (Mod.setCell _ b9 0 (sv AL) rfl) (fun k hk => by rw [hk]; exact Lb9.out)), g9, (heap_setCell_other _ b9 0 b8 _ (fun e => hne e.symm)).trans p8, heap_setCell_same _ b9 0 (sv AL) p9, ci9, Lb8.out, Lb9.out⟩
    · go_simp
      obtain ⟨b8, hb8⟩ : ∃ b, v0.heap.size = b := ⟨_, rfl⟩
      simp only [hb8]
      obtain ⟨v17, hW⟩ : ∃ W' : World, W' = v0.alloc (.cells #[.nilFunc] 111) := ⟨_, rfl⟩
      rw [← hW]
      have n8 : New v0 v17 := by rw [hW]; exact (New.refl _).alloc _
      have P8v17 := Lib.hid (show v17.heap[b8]? = some (.cells #[.nilFunc] 111 (0, 0)) from by rw [hW, ← hb8]; exact World.alloc_heap_new v0 _)
      have Lb8 := Lib.hid (show w7.heap.size ≤ b8 from by rw [← hb8]; exact Nv0.out.size)
      have Nv17 := Lib.hid (Nv0.out.trans n8)
      have Gv17 := Lib.hid (Gv0.out.new n8)
      refine hK.out _ _ Gv17.out (fun hHeld => ?_)
      clear hK K n8 hW hb8
      (try simp only [Act.put, List.setIfInBounds_toArray, List.set_cons_zero, List.set_cons_succ])
      refine wpAnyH_ready (rs := [1, 5]) (by kernel_rfl) (by simp) ?_
      refine AllReadyH.cons rfl (fun K hK => ?_) (AllReadyH.cons rfl (fun K hK => ?_) AllReadyH.nil)
      · go_simp
        go_at_call 97
        refine (HCO.out _ (N7.out.trans Nv17.out)).mono ?_
        rintro e v18 ⟨fv, rfl, n8, cI⟩
        obtain ⟨mb, gb, cb, rfl⟩ := cI.shape
        have Nv18 := Lib.hid (Nv17.out.trans n8)
        have Gv18 := Lib.hid (Gv17.out.new n8)
        have P8v18 := Lib.hid (row_new P8v17.out n8)
        have Cv18 := Lib.hid (IsCnt.base cI (show w7.heap.size ≤ _ from Nv17.out.size))
        refine hK.out _ _ Gv18.out (fun hHeld => ?_)
        clear hK K n8 cI
        (try simp only [Act.put, List.setIfInBounds_toArray, List.set_cons_zero, List.set_cons_succ])
        refine wpAnyH_ready (rs := [3, 5]) (by kernel_rfl) (by simp) ?_
        refine AllReadyH.cons rfl (fun K hK => ?_) (AllReadyH.cons rfl (fun K hK => ?_) AllReadyH.nil)
        · go_simp
          go_at_call 98
          refine (HAL.out _).mono ?_
          rintro e v19 ⟨rfl, n8⟩
          have Nv19 := Lib.hid (Nv18.out.trans n8)
          have Gv19 := Lib.hid (Gv18.out.new n8)
          have P8v19 := Lib.hid (row_new P8v18.out n8)
          have Cv19 := Lib.hid (Cv18.out.new n8)
          refine hK.out _ _ Gv19.out (fun hHeld => ?_)
          clear hK K n8
          (try simp only [Act.put, List.setIfInBounds_toArray, List.set_cons_zero, List.set_cons_succ])
          refine wpAnyH_ready (rs := [5]) (by kernel_rfl) (by simp) ?_
          refine AllReadyH.cons rfl (fun K hK => ?_) AllReadyH.nil
          · go_simp
            obtain ⟨b9, hb9⟩ : ∃ b, v19.heap.size = b := ⟨_, rfl⟩
            simp only [hb9]
            obtain ⟨v20, hW⟩ : ∃ W' : World, W' = v19.alloc (.cells #[.int .u32 0] 79) := ⟨_, rfl⟩
            rw [← hW]
            have n8 : New v19 v20 := by rw [hW]; exact (New.refl _).alloc _
            have P9v20 := Lib.hid (show v20.heap[b9]? = some (.cells #[.int .u32 0] 79 (0, 0)) from by rw [hW, ← hb9]; exact World.alloc_heap_new v19 _)
            have Lb9 := Lib.hid (show w7.heap.size ≤ b9 from by rw [← hb9]; exact Nv19.out.size)
            have Nv20 := Lib.hid (Nv19.out.trans n8)
            have Gv20 := Lib.hid (Gv19.out.new n8)
            have P8v20 := Lib.hid (row_new P8v19.out n8)
            have Cv20 := Lib.hid (Cv19.out.new n8)
            refine hK.out _ _ Gv20.out (fun hHeld => ?_)
            clear hK K n8 hW hb9
            (try simp only [Act.put, List.setIfInBounds_toArray, List.set_cons_zero, List.set_cons_succ])
            have c8 := box_cell P8v20.out
            refine wpAnyH_ready (rs := [6]) (by kernel_rfl) (by simp) ?_
            refine AllReadyH.cons rfl (fun K hK => ?_) AllReadyH.nil
            go_simp
            have g8 := gr_put (u := (Value.func (.func 142) #[] #[.pointer (some ⟨mb, 0, none⟩), .pointer (some ⟨gb, 0, none⟩), .pointer (some ⟨cb, 0, none⟩)])) Gv20.out P8v20.out (by decide)
            have hne : b9 ≠ b8 := fun e => by have h1 := P8v20.out; have h2 := P9v20.out; rw [e, h1] at h2; simp at h2
            have p9 := (heap_setCell_other v20 b8 0 b9 (Value.func (.func 142) #[] #[.pointer (some ⟨mb, 0, none⟩), .pointer (some ⟨gb, 0, none⟩), .pointer (some ⟨cb, 0, none⟩)]) hne).trans P9v20.out
            have c9 := box_cell p9
            have ci := cnt_put (u := (Value.func (.func 142) #[] #[.pointer (some ⟨mb, 0, none⟩), .pointer (some ⟨gb, 0, none⟩), .pointer (some ⟨cb, 0, none⟩)])) Cv20.out P8v20.out (by have := HT.out.1; have := N7.out.size; have := Lb8.out; omega) (.inl ⟨rfl, rfl⟩)
            have p8 := heap_setCell_same v20 b8 0 (Value.func (.func 142) #[] #[.pointer (some ⟨mb, 0, none⟩), .pointer (some ⟨gb, 0, none⟩), .pointer (some ⟨cb, 0, none⟩)]) P8v20.out
            have l8 := (Mod.new (O := fun q => q = b8) Nv20.out (Mod.setCell v20 b8 0 (Value.func (.func 142) #[] #[.pointer (some ⟨mb, 0, none⟩), .pointer (some ⟨gb, 0, none⟩), .pointer (some ⟨cb, 0, none⟩)]) rfl) (fun k hk => by rw [hk]; exact Lb8.out))
            refine hK.out _ _ g8 (fun hHeld => ?_)
            clear hK K
            (try simp only [Act.put, List.setIfInBounds_toArray, List.set_cons_zero, List.set_cons_succ])
            refine wpAnyH_ready (rs := [7]) (by kernel_rfl) (by simp) ?_
            refine AllReadyH.cons rfl (fun K hK => ?_) AllReadyH.nil
            go_simp
            have g9 := gr_put (u := sv AL) g8 p9 (by decide)
            have ci9 := cnt_put (u := sv AL) ci p9 (by have := HT.out.1; have := N7.out.size; have := Lb9.out; omega) (.inr (.inl rfl))
            refine hK.out _ _ g9 (fun hHeld => ?_)
            clear hK K
            (try simp only [Act.put, List.setIfInBounds_toArray, List.set_cons_zero, List.set_cons_succ])
            refine wpAnyH_done (by kernel_rfl) ?_ _
            exact ⟨b8, b9, _, rfl, (Mod.new (O := fun q => q = b9) l8 (Mod.setCell _ b9 0 (sv AL) rfl) (fun k hk => by rw [hk]; exact Lb9.out)), g9, (heap_setCell_other _ b9 0 b8 _ (fun e => hne e.symm)).trans p8, heap_setCell_same _ b9 0 (sv AL) p9, ci9, Lb8.out, Lb9.out⟩
        · go_simp
          obtain ⟨b9, hb9⟩ : ∃ b, v18.heap.size = b := ⟨_, rfl⟩
          simp only [hb9]
          obtain ⟨v21, hW⟩ : ∃ W' : World, W' = v18.alloc (.cells #[.int .u32 0] 79) := ⟨_, rfl⟩
          rw [← hW]
          have n8 : New v18 v21 := by rw [hW]; exact (New.refl _).alloc _
          have P9v21 := Lib.hid (show v21.heap[b9]? = some (.cells #[.int .u32 0] 79 (0, 0)) from by rw [hW, ← hb9]; exact World.alloc_heap_new v18 _)
          have Lb9 := Lib.hid (show w7.heap.size ≤ b9 from by rw [← hb9]; exact Nv18.out.size)
          have Nv21 := Lib.hid (Nv18.out.trans n8)
          have Gv21 := Lib.hid (Gv18.out.new n8)
          have P8v21 := Lib.hid (row_new P8v18.out n8)
          have Cv21 := Lib.hid (Cv18.out.new n8)
          refine hK.out _ _ Gv21.out (fun hHeld => ?_)
          clear hK K n8 hW hb9
          (try simp only [Act.put, List.setIfInBounds_toArray, List.set_cons_zero, List.set_cons_succ])
          refine wpAnyH_ready (rs := [3]) (by kernel_rfl) (by simp) ?_
          refine AllReadyH.cons rfl (fun K hK => ?_) AllReadyH.nil
          · go_simp
            go_at_call 98
            refine (HAL.out _).mono ?_
            rintro e v22 ⟨rfl, n8⟩
            have Nv22 := Lib.hid (Nv21.out.trans n8)
            have Gv22 := Lib.hid (Gv21.out.new n8)
            have P8v22 := Lib.hid (row_new P8v21.out n8)
            have P9v22 := Lib.hid (row_new P9v21.out n8)
            have Cv22 := Lib.hid (Cv21.out.new n8)
            refine hK.out _ _ Gv22.out (fun hHeld => ?_)
            clear hK K n8
            (try simp only [Act.put, List.setIfInBounds_toArray, List.set_cons_zero, List.set_cons_succ])
            have c8 := box_cell P8v22.out
            refine wpAnyH_ready (rs := [6]) (by kernel_rfl) (by simp) ?_
            refine AllReadyH.cons rfl (fun K hK => ?_) AllReadyH.nil
            go_simp
            have g8 := gr_put (u := (Value.func (.func 142) #[] #[.pointer (some ⟨mb, 0, none⟩), .pointer (some ⟨gb, 0, none⟩), .pointer (some ⟨cb, 0, none⟩)])) Gv22.out P8v22.out (by decide)
            have hne : b9 ≠ b8 := fun e => by have h1 := P8v22.out; have h2 := P9v22.out; rw [e, h1] at h2; simp at h2
            have p9 := (heap_setCell_other v22 b8 0 b9 (Value.func (.func 142) #[] #[.pointer (some ⟨mb, 0, none⟩), .pointer (some ⟨gb, 0, none⟩), .pointer (some ⟨cb, 0, none⟩)]) hne).trans P9v22.out
            have c9 := box_cell p9
            have ci := cnt_put (u := (Value.func (.func 142) #[] #[.pointer (some ⟨mb, 0, none⟩), .pointer (some ⟨gb, 0, none⟩), .pointer (some ⟨cb, 0, none⟩)])) Cv22.out P8v22.out (by have := HT.out.1; have := N7.out.size; have := Lb8.out; omega) (.inl ⟨rfl, rfl⟩)
            have p8 := heap_setCell_same v22 b8 0 (Value.func (.func 142) #[] #[.pointer (some ⟨mb, 0, none⟩), .pointer (some ⟨gb, 0, none⟩), .pointer (some ⟨cb, 0, none⟩)]) P8v22.out
            have l8 := (Mod.new (O := fun q => q = b8) Nv22.out (Mod.setCell v22 b8 0 (Value.func (.func 142) #[] #[.pointer (some ⟨mb, 0, none⟩), .pointer (some ⟨gb, 0, none⟩), .pointer (some ⟨cb, 0, none⟩)]) rfl) (fun k hk => by rw [hk]; exact Lb8.out))
            refine hK.out _ _ g8 (fun hHeld => ?_)
            clear hK K
            (try simp only [Act.put, List.setIfInBounds_toArray, List.set_cons_zero, List.set_cons_succ])
            refine wpAnyH_ready (rs := [7]) (by kernel_rfl) (by simp) ?_
            refine AllReadyH.cons rfl (fun K hK => ?_) AllReadyH.nil
            go_simp
            have g9 := gr_put (u := sv AL) g8 p9 (by decide)
            have ci9 := cnt_put (u := sv AL) ci p9 (by have := HT.out.1; have := N7.out.size; have := Lb9.out; omega) (.inr (.inl rfl))
            refine hK.out _ _ g9 (fun hHeld => ?_)
            clear hK K
            (try simp only [Act.put, List.setIfInBounds_toArray, List.set_cons_zero, List.set_cons_succ])
            refine wpAnyH_done (by kernel_rfl) ?_ _
            exact ⟨b8, b9, _, rfl, (Mod.new (O := fun q => q = b9) l8 (Mod.setCell _ b9 0 (sv AL) rfl) (fun k hk => by rw [hk]; exact Lb9.out)), g9, (heap_setCell_other _ b9 0 b8 _ (fun e => hne e.symm)).trans p8, heap_setCell_same _ b9 0 (sv AL) p9, ci9, Lb8.out, Lb9.out⟩
      · go_simp
        obtain ⟨b9, hb9⟩ : ∃ b, v17.heap.size = b := ⟨_, rfl⟩
        simp only [hb9]
        obtain ⟨v23, hW⟩ : ∃ W' : World, W' = v17.alloc (.cells #[.int .u32 0] 79) := ⟨_, rfl⟩
        rw [← hW]
        have n8 : New v17 v23 := by rw [hW]; exact (New.refl _).alloc _
        have P9v23 := Lib.hid (show v23.heap[b9]? = some (.cells #[.int .u32 0] 79 (0, 0)) from by rw [hW, ← hb9]; exact World.alloc_heap_new v17 _)
        have Lb9 := Lib.hid (show w7.heap.size ≤ b9 from by rw [← hb9]; exact Nv17.out.size)
        have Nv23 := Lib.hid (Nv17.out.trans n8)
        have Gv23 := Lib.hid (Gv17.out.new n8)
        have P8v23 := Lib.hid (row_new P8v17.out n8)
        refine hK.out _ _ Gv23.out (fun hHeld => ?_)
        clear hK K n8 hW hb9
        (try simp only [Act.put, List.setIfInBounds_toArray, List.set_cons_zero, List.set_cons_succ])
        refine wpAnyH_ready (rs := [1]) (by kernel_rfl) (by simp) ?_
        refine AllReadyH.cons rfl (fun K hK => ?_) AllReadyH.nil
        · go_simp
          go_at_call 97
          refine (HCO.out _ (N7.out.trans Nv23.out)).mono ?_
          rintro e v24 ⟨fv, rfl, n8, cI⟩
          obtain ⟨mb, gb, cb, rfl⟩ := cI.shape
          have Nv24 := Lib.hid (Nv23.out.trans n8)
          have Gv24 := Lib.hid (Gv23.out.new n8)
          have P8v24 := Lib.hid (row_new P8v23.out n8)
          have P9v24 := Lib.hid (row_new P9v23.out n8)
          have Cv24 := Lib.hid (IsCnt.base cI (show w7.heap.size ≤ _ from Nv23.out.size))
          refine hK.out _ _ Gv24.out (fun hHeld => ?_)
          clear hK K n8 cI
          (try simp only [Act.put, List.setIfInBounds_toArray, List.set_cons_zero, List.set_cons_succ])
          refine wpAnyH_ready (rs := [3]) (by kernel_rfl) (by simp) ?_
          refine AllReadyH.cons rfl (fun K hK => ?_) AllReadyH.nil
          · go_simp
            go_at_call 98
            refine (HAL.out _).mono ?_
            rintro e v25 ⟨rfl, n8⟩
            have Nv25 := Lib.hid (Nv24.out.trans n8)
            have Gv25 := Lib.hid (Gv24.out.new n8)
            have P8v25 := Lib.hid (row_new P8v24.out n8)
            have P9v25 := Lib.hid (row_new P9v24.out n8)
            have Cv25 := Lib.hid (Cv24.out.new n8)
            refine hK.out _ _ Gv25.out (fun hHeld => ?_)
            clear hK K n8
            (try simp only [Act.put, List.setIfInBounds_toArray, List.set_cons_zero, List.set_cons_succ])
            have c8 := box_cell P8v25.out
            refine wpAnyH_ready (rs := [6]) (by kernel_rfl) (by simp) ?_
            refine AllReadyH.cons rfl (fun K hK => ?_) AllReadyH.nil
            go_simp
            have g8 := gr_put (u := (Value.func (.func 142) #[] #[.pointer (some ⟨mb, 0, none⟩), .pointer (some ⟨gb, 0, none⟩), .pointer (some ⟨cb, 0, none⟩)])) Gv25.out P8v25.out (by decide)
            have hne : b9 ≠ b8 := fun e => by have h1 := P8v25.out; have h2 := P9v25.out; rw [e, h1] at h2; simp at h2
            have p9 := (heap_setCell_other v25 b8 0 b9 (Value.func (.func 142) #[] #[.pointer (some ⟨mb, 0, none⟩), .pointer (some ⟨gb, 0, none⟩), .pointer (some ⟨cb, 0, none⟩)]) hne).trans P9v25.out
            have c9 := box_cell p9
            have ci := cnt_put (u := (Value.func (.func 142) #[] #[.pointer (some ⟨mb, 0, none⟩), .pointer (some ⟨gb, 0, none⟩), .pointer (some ⟨cb, 0, none⟩)])) Cv25.out P8v25.out (by have := HT.out.1; have := N7.out.size; have := Lb8.out; omega) (.inl ⟨rfl, rfl⟩)
            have p8 := heap_setCell_same v25 b8 0 (Value.func (.func 142) #[] #[.pointer (some ⟨mb, 0, none⟩), .pointer (some ⟨gb, 0, none⟩), .pointer (some ⟨cb, 0, none⟩)]) P8v25.out
            have l8 := (Mod.new (O := fun q => q = b8) Nv25.out (Mod.setCell v25 b8 0 (Value.func (.func 142) #[] #[.pointer (some ⟨mb, 0, none⟩), .pointer (some ⟨gb, 0, none⟩), .pointer (some ⟨cb, 0, none⟩)]) rfl) (fun k hk => by rw [hk]; exact Lb8.out))
            refine hK.out _ _ g8 (fun hHeld => ?_)
            clear hK K
            (try simp only [Act.put, List.setIfInBounds_toArray, List.set_cons_zero, List.set_cons_succ])
            refine wpAnyH_ready (rs := [7]) (by kernel_rfl) (by simp) ?_
            refine AllReadyH.cons rfl (fun K hK => ?_) AllReadyH.nil
            go_simp
            have g9 := gr_put (u := sv AL) g8 p9 (by decide)
            have ci9 := cnt_put (u := sv AL) ci p9 (by have := HT.out.1; have := N7.out.size; have := Lb9.out; omega) (.inr (.inl rfl))
            refine hK.out _ _ g9 (fun hHeld => ?_)
            clear hK K
            (try simp only [Act.put, List.setIfInBounds_toArray, List.set_cons_zero, List.set_cons_succ])
            refine wpAnyH_done (by kernel_rfl) ?_ _
            exact ⟨b8, b9, _, rfl, (Mod.new (O := fun q => q = b9) l8 (Mod.setCell _ b9 0 (sv AL) rfl) (fun k hk => by rw [hk]; exact Lb9.out)), g9, (heap_setCell_other _ b9 0 b8 _ (fun e => hne e.symm)).trans p8, heap_setCell_same _ b9 0 (sv AL) p9, ci9, Lb8.out, Lb9.out⟩
    · go_simp
      obtain ⟨b9, hb9⟩ : ∃ b, v0.heap.size = b := ⟨_, rfl⟩
      simp only [hb9]
      obtain ⟨v26, hW⟩ : ∃ W' : World, W' = v0.alloc (.cells #[.int .u32 0] 79) := ⟨_, rfl⟩
      rw [← hW]
      have n8 : New v0 v26 := by rw [hW]; exact (New.refl _).alloc _
      have P9v26 := Lib.hid (show v26.heap[b9]? = some (.cells #[.int .u32 0] 79 (0, 0)) from by rw [hW, ← hb9]; exact World.alloc_heap_new v0 _)
      have Lb9 := Lib.hid (show w7.heap.size ≤ b9 from by rw [← hb9]; exact Nv0.out.size)
      have Nv26 := Lib.hid (Nv0.out.trans n8)
      have Gv26 := Lib.hid (Gv0.out.new n8)
      refine hK.out _ _ Gv26.out (fun hHeld => ?_)
      clear hK K n8 hW hb9
      (try simp only [Act.put, List.setIfInBounds_toArray, List.set_cons_zero, List.set_cons_succ])
      refine wpAnyH_ready (rs := [1, 4]) (by kernel_rfl) (by simp) ?_
      refine AllReadyH.cons rfl (fun K hK => ?_) (AllReadyH.cons rfl (fun K hK => ?_) AllReadyH.nil)
      · go_simp
        go_at_call 97
        refine (HCO.out _ (N7.out.trans Nv26.out)).mono ?_
        rintro e v27 ⟨fv, rfl, n8, cI⟩
        obtain ⟨mb, gb, cb, rfl⟩ := cI.shape
        have Nv27 := Lib.hid (Nv26.out.trans n8)
        have Gv27 := Lib.hid (Gv26.out.new n8)
        have P9v27 := Lib.hid (row_new P9v26.out n8)
        have Cv27 := Lib.hid (IsCnt.base cI (show w7.heap.size ≤ _ from Nv26.out.size))
        refine hK.out _ _ Gv27.out (fun hHeld => ?_)
        clear hK K n8 cI
        (try simp only [Act.put, List.setIfInBounds_toArray, List.set_cons_zero, List.set_cons_succ])
        refine wpAnyH_ready (rs := [3, 4]) (by kernel_rfl) (by simp) ?_
        refine AllReadyH.cons rfl (fun K hK => ?_) (AllReadyH.cons rfl (fun K hK => ?_) AllReadyH.nil)
        · go_simp
          go_at_call 98
          refine (HAL.out _).mono ?_
          rintro e v28 ⟨rfl, n8⟩
          have Nv28 := Lib.hid (Nv27.out.trans n8)
          have Gv28 := Lib.hid (Gv27.out.new n8)
          have P9v28 := Lib.hid (row_new P9v27.out n8)
          have Cv28 := Lib.hid (Cv27.out.new n8)
          refine hK.out _ _ Gv28.out (fun hHeld => ?_)
          clear hK K n8
          (try simp only [Act.put, List.setIfInBounds_toArray, List.set_cons_zero, List.set_cons_succ])
          refine wpAnyH_ready (rs := [4]) (by kernel_rfl) (by simp) ?_
          refine AllReadyH.cons rfl (fun K hK => ?_) AllReadyH.nil
          · go_simp
            obtain ⟨b8, hb8⟩ : ∃ b, v28.heap.size = b := ⟨_, rfl⟩
            simp only [hb8]
            obtain ⟨v29, hW⟩ : ∃ W' : World, W' = v28.alloc (.cells #[.nilFunc] 111) := ⟨_, rfl⟩
            rw [← hW]
            have n8 : New v28 v29 := by rw [hW]; exact (New.refl _).alloc _
            have P8v29 := Lib.hid (show v29.heap[b8]? = some (.cells #[.nilFunc] 111 (0, 0)) from by rw [hW, ← hb8]; exact World.alloc_heap_new v28 _)
            have Lb8 := Lib.hid (show w7.heap.size ≤ b8 from by rw [← hb8]; exact Nv28.out.size)
            have Nv29 := Lib.hid (Nv28.out.trans n8)
            have Gv29 := Lib.hid (Gv28.out.new n8)
            have P9v29 := Lib.hid (row_new P9v28.out n8)
            have Cv29 := Lib.hid (Cv28.out.new n8)
            refine hK.out _ _ Gv29.out (fun hHeld => ?_)
            clear hK K n8 hW hb8
            (try simp only [Act.put, List.setIfInBounds_toArray, List.set_cons_zero, List.set_cons_succ])
            have c8 := box_cell P8v29.out
            refine wpAnyH_ready (rs := [6]) (by kernel_rfl) (by simp) ?_
            refine AllReadyH.cons rfl (fun K hK => ?_) AllReadyH.nil
            go_simp
            have g8 := gr_put (u := (Value.func (.func 142) #[] #[.pointer (some ⟨mb, 0, none⟩), .pointer (some ⟨gb, 0, none⟩), .pointer (some ⟨cb, 0, none⟩)])) Gv29.out P8v29.out (by decide)
            have hne : b9 ≠ b8 := fun e => by have h1 := P8v29.out; have h2 := P9v29.out; rw [e, h1] at h2; simp at h2
            have p9 := (heap_setCell_other v29 b8 0 b9 (Value.func (.func 142) #[] #[.pointer (some ⟨mb, 0, none⟩), .pointer (some ⟨gb, 0, none⟩), .pointer (some ⟨cb, 0, none⟩)]) hne).trans P9v29.out
            have c9 := box_cell p9
            have ci := cnt_put (u := (Value.func (.func 142) #[] #[.pointer (some ⟨mb, 0, none⟩), .pointer (some ⟨gb, 0, none⟩), .pointer (some ⟨cb, 0, none⟩)])) Cv29.out P8v29.out (by have := HT.out.1; have := N7.out.size; have := Lb8.out; omega) (.inl ⟨rfl, rfl⟩)
            have p8 := heap_setCell_same v29 b8 0 (Value.func (.func 142) #[] #[.pointer (some ⟨mb, 0, none⟩), .pointer (some ⟨gb, 0, none⟩), .pointer (some ⟨cb, 0, none⟩)]) P8v29.out
            have l8 := (Mod.new (O := fun q => q = b8) Nv29.out (Mod.setCell v29 b8 0 (Value.func (.func 142) #[] #[.pointer (some ⟨mb, 0, none⟩), .pointer (some ⟨gb, 0, none⟩), .pointer (some ⟨cb, 0, none⟩)]) rfl) (fun k hk => by rw [hk]; exact Lb8.out))
            refine hK.out _ _ g8 (fun hHeld => ?_)
            clear hK K
            (try simp only [Act.put, List.setIfInBounds_toArray, List.set_cons_zero, List.set_cons_succ])
            refine wpAnyH_ready (rs := [7]) (by kernel_rfl) (by simp) ?_
            refine AllReadyH.cons rfl (fun K hK => ?_) AllReadyH.nil
            go_simp
            have g9 := gr_put (u := sv AL) g8 p9 (by decide)
            have ci9 := cnt_put (u := sv AL) ci p9 (by have := HT.out.1; have := N7.out.size; have := Lb9.out; omega) (.inr (.inl rfl))
            refine hK.out _ _ g9 (fun hHeld => ?_)
            clear hK K
            (try simp only [Act.put, List.setIfInBounds_toArray, List.set_cons_zero, List.set_cons_succ])
            refine wpAnyH_done (by kernel_rfl) ?_ _
            exact ⟨b8, b9, _, rfl, (Mod.new (O := fun q => q = b9) l8 (Mod.setCell _ b9 0 (sv AL) rfl) (fun k hk => by rw [hk]; exact Lb9.out)), g9, (heap_setCell_other _ b9 0 b8 _ (fun e => hne e.symm)).trans p8, heap_setCell_same _ b9 0 (sv AL) p9, ci9, Lb8.out, Lb9.out⟩
        · go_simp
          obtain ⟨b8, hb8⟩ : ∃ b, v27.heap.size = b := ⟨_, rfl⟩
          simp only [hb8]
          obtain ⟨v30, hW⟩ : ∃ W' : World, W' = v27.alloc (.cells #[.nilFunc] 111) := ⟨_, rfl⟩
          rw [← hW]
          have n8 : New v27 v30 := by rw [hW]; exact (New.refl _).alloc _
          have P8v30 := Lib.hid (show v30.heap[b8]? = some (.cells #[.nilFunc] 111 (0, 0)) from by rw [hW, ← hb8]; exact World.alloc_heap_new v27 _)
          have Lb8 := Lib.hid (show w7.heap.size ≤ b8 from by rw [← hb8]; exact Nv27.out.size)
          have Nv30 := Lib.hid (Nv27.out.trans n8)
          have Gv30 := Lib.hid (Gv27.out.new n8)
          have P9v30 := Lib.hid (row_new P9v27.out n8)
          have Cv30 := Lib.hid (Cv27.out.new n8)
          refine hK.out _ _ Gv30.out (fun hHeld => ?_)
          clear hK K n8 hW hb8
          (try simp only [Act.put, List.setIfInBounds_toArray, List.set_cons_zero, List.set_cons_succ])
          refine wpAnyH_ready (rs := [3]) (by kernel_rfl) (by simp) ?_
          refine AllReadyH.cons rfl (fun K hK => ?_) AllReadyH.nil
          · go_simp
            go_at_call 98
            refine (HAL.out _).mono ?_
            rintro e v31 ⟨rfl, n8⟩
            have Nv31 := Lib.hid (Nv30.out.trans n8)
            have Gv31 := Lib.hid (Gv30.out.new n8)
            have P8v31 := Lib.hid (row_new P8v30.out n8)
            have P9v31 := Lib.hid (row_new P9v30.out n8)
            have Cv31 := Lib.hid (Cv30.out.new n8)
            refine hK.out _ _ Gv31.out (fun hHeld => ?_)
            clear hK K n8
            (try simp only [Act.put, List.setIfInBounds_toArray, List.set_cons_zero, List.set_cons_succ])
            have c8 := box_cell P8v31.out
            refine wpAnyH_ready (rs := [6]) (by kernel_rfl) (by simp) ?_
            refine AllReadyH.cons rfl (fun K hK => ?_) AllReadyH.nil
            go_simp
            have g8 := gr_put (u := (Value.func (.func 142) #[] #[.pointer (some ⟨mb, 0, none⟩), .pointer (some ⟨gb, 0, none⟩), .pointer (some ⟨cb, 0, none⟩)])) Gv31.out P8v31.out (by decide)
            have hne : b9 ≠ b8 := fun e => by have h1 := P8v31.out; have h2 := P9v31.out; rw [e, h1] at h2; simp at h2
            have p9 := (heap_setCell_other v31 b8 0 b9 (Value.func (.func 142) #[] #[.pointer (some ⟨mb, 0, none⟩), .pointer (some ⟨gb, 0, none⟩), .pointer (some ⟨cb, 0, none⟩)]) hne).trans P9v31.out
            have c9 := box_cell p9
            have ci := cnt_put (u := (Value.func (.func 142) #[] #[.pointer (some ⟨mb, 0, none⟩), .pointer (some ⟨gb, 0, none⟩), .pointer (some ⟨cb, 0, none⟩)])) Cv31.out P8v31.out (by have := HT.out.1; have := N7.out.size; have := Lb8.out; omega) (.inl ⟨rfl, rfl⟩)
            have p8 := heap_setCell_same v31 b8 0 (Value.func (.func 142) #[] #[.pointer (some ⟨mb, 0, none⟩), .pointer (some ⟨gb, 0, none⟩), .pointer (some ⟨cb, 0, none⟩)]) P8v31.out
            have l8 := (Mod.new (O := fun q => q = b8) Nv31.out (Mod.setCell v31 b8 0 (Value.func (.func 142) #[] #[.pointer (some ⟨mb, 0, none⟩), .pointer (some ⟨gb, 0, none⟩), .pointer (some ⟨cb, 0, none⟩)]) rfl) (fun k hk => by rw [hk]; exact Lb8.out))
            refine hK.out _ _ g8 (fun hHeld => ?_)
            clear hK K
            (try simp only [Act.put, List.setIfInBounds_toArray, List.set_cons_zero, List.set_cons_succ])
            refine wpAnyH_ready (rs := [7]) (by kernel_rfl) (by simp) ?_
            refine AllReadyH.cons rfl (fun K hK => ?_) AllReadyH.nil
            go_simp
            have g9 := gr_put (u := sv AL) g8 p9 (by decide)
            have ci9 := cnt_put (u := sv AL) ci p9 (by have := HT.out.1; have := N7.out.size; have := Lb9.out; omega) (.inr (.inl rfl))
            refine hK.out _ _ g9 (fun hHeld => ?_)
            clear hK K
            (try simp only [Act.put, List.setIfInBounds_toArray, List.set_cons_zero, List.set_cons_succ])
            refine wpAnyH_done (by kernel_rfl) ?_ _
            exact ⟨b8, b9, _, rfl, (Mod.new (O := fun q => q = b9) l8 (Mod.setCell _ b9 0 (sv AL) rfl) (fun k hk => by rw [hk]; exact Lb9.out)), g9, (heap_setCell_other _ b9 0 b8 _ (fun e => hne e.symm)).trans p8, heap_setCell_same _ b9 0 (sv AL) p9, ci9, Lb8.out, Lb9.out⟩
      · go_simp
        obtain ⟨b8, hb8⟩ : ∃ b, v26.heap.size = b := ⟨_, rfl⟩
        simp only [hb8]
        obtain ⟨v32, hW⟩ : ∃ W' : World, W' = v26.alloc (.cells #[.nilFunc] 111) := ⟨_, rfl⟩
        rw [← hW]
        have n8 : New v26 v32 := by rw [hW]; exact (New.refl _).alloc _
        have P8v32 := Lib.hid (show v32.heap[b8]? = some (.cells #[.nilFunc] 111 (0, 0)) from by rw [hW, ← hb8]; exact World.alloc_heap_new v26 _)
        have Lb8 := Lib.hid (show w7.heap.size ≤ b8 from by rw [← hb8]; exact Nv26.out.size)
        have Nv32 := Lib.hid (Nv26.out.trans n8)
        have Gv32 := Lib.hid (Gv26.out.new n8)
        have P9v32 := Lib.hid (row_new P9v26.out n8)
        refine hK.out _ _ Gv32.out (fun hHeld => ?_)
        clear hK K n8 hW hb8
        (try simp only [Act.put, List.setIfInBounds_toArray, List.set_cons_zero, List.set_cons_succ])
        refine wpAnyH_ready (rs := [1]) (by kernel_rfl) (by simp) ?_
        refine AllReadyH.cons rfl (fun K hK => ?_) AllReadyH.nil
        · go_simp
          go_at_call 97
          refine (HCO.out _ (N7.out.trans Nv32.out)).mono ?_
          rintro e v33 ⟨fv, rfl, n8, cI⟩
          obtain ⟨mb, gb, cb, rfl⟩ := cI.shape
          have Nv33 := Lib.hid (Nv32.out.trans n8)
          have Gv33 := Lib.hid (Gv32.out.new n8)
          have P8v33 := Lib.hid (row_new P8v32.out n8)
          have P9v33 := Lib.hid (row_new P9v32.out n8)
          have Cv33 := Lib.hid (IsCnt.base cI (show w7.heap.size ≤ _ from Nv32.out.size))
          refine hK.out _ _ Gv33.out (fun hHeld => ?_)
          clear hK K n8 cI
          (try simp only [Act.put, List.setIfInBounds_toArray, List.set_cons_zero, List.set_cons_succ])
          refine wpAnyH_ready (rs := [3]) (by kernel_rfl) (by simp) ?_
          refine AllReadyH.cons rfl (fun K hK => ?_) AllReadyH.nil
          · go_simp
            go_at_call 98
            refine (HAL.out _).mono ?_
            rintro e v34 ⟨rfl, n8⟩
            have Nv34 := Lib.hid (Nv33.out.trans n8)
            have Gv34 := Lib.hid (Gv33.out.new n8)
            have P8v34 := Lib.hid (row_new P8v33.out n8)
            have P9v34 := Lib.hid (row_new P9v33.out n8)
            have Cv34 := Lib.hid (Cv33.out.new n8)
            refine hK.out _ _ Gv34.out (fun hHeld => ?_)
            clear hK K n8
            (try simp only [Act.put, List.setIfInBounds_toArray, List.set_cons_zero, List.set_cons_succ])
            have c8 := box_cell P8v34.out
            refine wpAnyH_ready (rs := [6]) (by kernel_rfl) (by simp) ?_
            refine AllReadyH.cons rfl (fun K hK => ?_) AllReadyH.nil
            go_simp
            have g8 := gr_put (u := (Value.func (.func 142) #[] #[.pointer (some ⟨mb, 0, none⟩), .pointer (some ⟨gb, 0, none⟩), .pointer (some ⟨cb, 0, none⟩)])) Gv34.out P8v34.out (by decide)
            have hne : b9 ≠ b8 := fun e => by have h1 := P8v34.out; have h2 := P9v34.out; rw [e, h1] at h2; simp at h2
            have p9 := (heap_setCell_other v34 b8 0 b9 (Value.func (.func 142) #[] #[.pointer (some ⟨mb, 0, none⟩), .pointer (some ⟨gb, 0, none⟩), .pointer (some ⟨cb, 0, none⟩)]) hne).trans P9v34.out
            have c9 := box_cell p9
            have ci := cnt_put (u := (Value.func (.func 142) #[] #[.pointer (some ⟨mb, 0, none⟩), .pointer (some ⟨gb, 0, none⟩), .pointer (some ⟨cb, 0, none⟩)])) Cv34.out P8v34.out (by have := HT.out.1; have := N7.out.size; have := Lb8.out; omega) (.inl ⟨rfl, rfl⟩)
            have p8 := heap_setCell_same v34 b8 0 (Value.func (.func 142) #[] #[.pointer (some ⟨mb, 0, none⟩), .pointer (some ⟨gb, 0, none⟩), .pointer (some ⟨cb, 0, none⟩)]) P8v34.out
            have l8 := (Mod.new (O := fun q => q = b8) Nv34.out (Mod.setCell v34 b8 0 (Value.func (.func 142) #[] #[.pointer (some ⟨mb, 0, none⟩), .pointer (some ⟨gb, 0, none⟩), .pointer (some ⟨cb, 0, none⟩)]) rfl) (fun k hk => by rw [hk]; exact Lb8.out))
            refine hK.out _ _ g8 (fun hHeld => ?_)
            clear hK K
            (try simp only [Act.put, List.setIfInBounds_toArray, List.set_cons_zero, List.set_cons_succ])
            refine wpAnyH_ready (rs := [7]) (by kernel_rfl) (by simp) ?_
            refine AllReadyH.cons rfl (fun K hK => ?_) AllReadyH.nil
            go_simp
            have g9 := gr_put (u := sv AL) g8 p9 (by decide)
            have ci9 := cnt_put (u := sv AL) ci p9 (by have := HT.out.1; have := N7.out.size; have := Lb9.out; omega) (.inr (.inl rfl))
            refine hK.out _ _ g9 (fun hHeld => ?_)
            clear hK K
            (try simp only [Act.put, List.setIfInBounds_toArray, List.set_cons_zero, List.set_cons_succ])
            refine wpAnyH_done (by kernel_rfl) ?_ _
            exact ⟨b8, b9, _, rfl, (Mod.new (O := fun q => q = b9) l8 (Mod.setCell _ b9 0 (sv AL) rfl) (fun k hk => by rw [hk]; exact Lb9.out)), g9, (heap_setCell_other _ b9 0 b8 _ (fun e => hne e.symm)).trans p8, heap_setCell_same _ b9 0 (sv AL) p9, ci9, Lb8.out, Lb9.out⟩
  case hq =>
    rintro a' w9 ⟨b8, b9, fv, rfl, n9, g9, p8, p9, ci, le8, le9⟩
    obtain ⟨c, D0, n0, rfl, cok, cG, cst, b1, b2, b3, b4⟩ := ci
    have HCO2 := Lib.hid cok
    have HCG := Lib.hid cG
    have HK9 := Lib.hid (row_new HK7.out n9)
    have HL9 := Lib.hid p9
    have HV9 := Lib.hid p8
    have HG9 := Lib.hid g9
    have HN9 := Lib.hid (N7.out.trans n9)
    have HCST := Lib.hid cst
    have HSZ9 := Lib.hid (show g < w7.heap.size ∧ H + 1 < g from ⟨G7.out.lt, by have h1 := HN.out.size; have h2 := HGg.out; have h3 := (Array.getElem?_eq_some_iff.1 HK6.out).1; omega⟩)
    have HNE := Lib.hid (show b9 ≠ b8 ∧ b9 ≠ c.mb ∧ b9 ≠ c.gb ∧ b9 ≠ c.cb ∧ b9 ≠ c.M ∧ b8 ≠ c.M from by
      have h1 := cst.ms; have h2 := cst.gs; have h3 := cst.cs
      obtain ⟨es, clock, h4, _⟩ := cst.ow
      have h2' : w9.heap[c.gb]? = some (.cells c.G.cells.toArray 83 (0, 0)) := h2
      refine ⟨fun e => ?_, fun e => ?_, fun e => ?_, fun e => ?_, fun e => ?_, fun e => ?_⟩
      · rw [e, p8] at p9; simp at p9
      · rw [e, h1] at p9; simp at p9
      · rw [e, h2'] at p9; simp at p9
      · rw [e, h3] at p9; simp at p9
      · rw [e, h4] at p9; simp at p9
      · rw [e, h4] at p8; simp at p8)
    have HLE := Lib.hid (show w7.heap.size ≤ b8 ∧ w7.heap.size ≤ b9 ∧ w7.heap.size ≤ c.mb ∧ w7.heap.size ≤ c.gb ∧ w7.heap.size ≤ c.cb ∧ w7.heap.size ≤ c.M from ⟨le8, le9, b1, b2, b3, b4⟩)
    obtain ⟨cn, hcn⟩ : ∃ cn, cntG RG = cn := ⟨_, rfl⟩
    have hkk : kk < cn := by rw [← hcn]; exact HKK.out
    have HCNT := Lib.hid (show ∀ (s : Nat) (w1 : World), s < 2 ^ 24 → (bitsOf s).length ≤ 12 → (∃ D n, CSt c D n w1) → Calls Tryd.prog 142 #[sv s, .pointer (some ⟨c.mb, 0, none⟩), .pointer (some ⟨c.gb, 0, none⟩), .pointer (some ⟨c.cb, 0, none⟩)] w1 (fun e W' => e = .returned (.int .i64 (cnS c.G.be s : Int)) ∧ Mod (fun q => q = c.M) w1 W' ∧ ∃ D n, CSt c D n W') from fun s w1 a1 a2 ⟨D, n, a3⟩ => by
      refine (count_in c cok _ s D n w1 a2 a1 rfl a3).mono ?_
      rintro e W' ⟨d1, d2, D', n', d3, _⟩
      exact ⟨d1, d2, D', n', d3⟩)
    have HCA := Lib.hid (show ∀ w1, New w9 w1 → Calls Tryd.prog 142 #[sv AL, .pointer (some ⟨c.mb, 0, none⟩), .pointer (some ⟨c.gb, 0, none⟩), .pointer (some ⟨c.cb, 0, none⟩)] w1 (fun e W' => e = .returned (.int .i64 (cn : Int)) ∧ Mod (fun q => q = c.M) w1 W' ∧ ∃ D n, CSt c D n W') from fun w1 hn => by
      have := HCNT.out AL w1 HA24.out HB12.out ⟨_, _, cst.new hn⟩
      have e : cnS c.G.be AL = cn := by rw [cG, ← HALE.out]; exact hcn
      rw [e] at this; exact this)
    have hkn : ((kk : Int) < 0) = False := eq_false (by omega)
    have hkc : ((cn : Int) ≤ (kk : Int)) = False := eq_false (by omega)
    have hkc2 : ((kk : Int) < (cn : Int)) = True := eq_true (by omega)
    have hS : w9.cell? ⟨H + 1, 0, none⟩ = some (.int .i64 (kk : Int)) ∧ w9.cell? ⟨b8, 0, none⟩ = some c.fv ∧ w9.cell? ⟨b9, 0, none⟩ = some (sv AL) := ⟨(box_cell HK9.out).1, (box_cell p8).1, (box_cell p9).1⟩
    have HLT := Lib.hid (show H + 1 < w9.heap.size ∧ b8 < w9.heap.size ∧ b9 < w9.heap.size from ⟨(Array.getElem?_eq_some_iff.1 HK9.out).1, (Array.getElem?_eq_some_iff.1 p8).1, (Array.getElem?_eq_some_iff.1 p9).1⟩)
    unfold CB.fv at hS
    have HKC := Lib.hid (show kk < cnS RG.be AL from by rw [← HALE.out]; exact HKK.out)
    clear n9 g9 p8 p9 cok cG cst b1 b2 b3 b4 le8 le9 hkk hcn
    dsimp only
    gi_wp2
    apply region_act0 (fun w' => w'.cell? ⟨H + 1, 0, none⟩ = some (.int .i64 (kk : Int)) ∧ w'.cell? ⟨b8, 0, none⟩ = some (.func (.func 142) #[] #[.pointer (some ⟨c.mb, 0, none⟩), .pointer (some ⟨c.gb, 0, none⟩), .pointer (some ⟨c.cb, 0, none⟩)]) ∧ w'.cell? ⟨b9, 0, none⟩ = some (sv AL)) (fun w' => Mod (fun q => q = c.M) w9 w' ∧ ∃ D n, CSt c D n w') (by kernel_rfl) hS
    case h =>
      intro hHeld
      refine wpAnyH_take (i := 0) (oi := { dst := some 25, op := _, type := _, pos := _, after := _, guard := _ }) (v := ?_) rfl (by kernel_rfl) (by kernel_rfl) (by kernel_rfl) (fun _ _ _ h => h) (Or.inl ⟨by rfl, (by intro w hSw; (try dsimp only at hSw); obtain ⟨hSa, hSb, hSc⟩ := hSw; go_simp; try with_reducible rfl)⟩) (by assumption) ?_
      (try simp only [Act.put, List.setIfInBounds_toArray, List.set_cons_zero, List.set_cons_succ])
      refine wpAnyH_take (i := 1) (oi := { dst := some 26, op := _, type := _, pos := _, after := _, guard := _ }) (v := ?_) rfl (by kernel_rfl) (by kernel_rfl) (by kernel_rfl) (fun _ _ _ h => h) (Or.inl ⟨by rfl, (by intro w hSw; (try dsimp only at hSw); obtain ⟨hSa, hSb, hSc⟩ := hSw; go_simp; try with_reducible rfl)⟩) (by assumption) ?_
      (try simp only [Act.put, List.setIfInBounds_toArray, List.set_cons_zero, List.set_cons_succ])
      refine wpAnyH_take (i := 2) (oi := { dst := some 27, op := _, type := _, pos := _, after := _, guard := _ }) (v := ?_) rfl (by kernel_rfl) (by kernel_rfl) (by kernel_rfl) (fun _ _ _ h => h) (Or.inl ⟨by rfl, (by intro w hSw; (try dsimp only at hSw); obtain ⟨hSa, hSb, hSc⟩ := hSw; go_simp; try with_reducible rfl)⟩) (by assumption) ?_
      (try simp only [Act.put, List.setIfInBounds_toArray, List.set_cons_zero, List.set_cons_succ])
      refine wpAnyH_take (i := 3) (oi := { dst := some 28, op := _, type := _, pos := _, after := _, guard := _ }) (v := ?_) rfl (by kernel_rfl) (by kernel_rfl) (by kernel_rfl) (fun _ _ _ h => h) (Or.inl ⟨by rfl, (by intro w hSw; (try dsimp only at hSw); obtain ⟨hSa, hSb, hSc⟩ := hSw; go_simp; try with_reducible rfl)⟩) (by assumption) ?_
      (try simp only [Act.put, List.setIfInBounds_toArray, List.set_cons_zero, List.set_cons_succ])
      refine wpAnyH_take (i := 4) (oi := { dst := some 29, op := _, type := _, pos := _, after := _, guard := _ }) (v := ?_) rfl (by kernel_rfl) (by kernel_rfl) (by kernel_rfl) (fun _ _ _ h => h) (Or.inl ⟨by rfl, (by intro w hSw; (try dsimp only at hSw); obtain ⟨hSa, hSb, hSc⟩ := hSw; go_simp; try with_reducible rfl)⟩) (by assumption) ?_
      (try simp only [Act.put, List.setIfInBounds_toArray, List.set_cons_zero, List.set_cons_succ])
      refine wpAnyH_take (i := 5) (oi := { dst := some 30, op := _, type := _, pos := _, after := _, guard := _ }) (v := ?_) rfl (by kernel_rfl) (by kernel_rfl) (by kernel_rfl) (fun _ _ _ h => h) (Or.inl ⟨by rfl, (by intro w hSw; (try dsimp only at hSw); obtain ⟨hSa, hSb, hSc⟩ := hSw; go_simp; try with_reducible rfl)⟩) (by assumption) ?_
      (try simp only [Act.put, List.setIfInBounds_toArray, List.set_cons_zero, List.set_cons_succ])
      refine wpAnyH_ready (rs := [6]) (by kernel_rfl) (by simp) ?_
      refine AllReadyH.cons rfl (fun K hK => ?_) AllReadyH.nil
      go_simp
      go_at_call 142
      refine (HCA.out _ (New.refl w9).drew).mono ?_
      rintro e w10 ⟨rfl, m10, cs10⟩
      have m9 : Mod (fun q => q = c.M) w9 w10 := (Mod.of_new (New.refl w9).drew).trans m10
      have r1 := (m9.2 (H + 1) HLT.out.1 (by have h1 := HLE.out; have h2 := HSZ9.out; omega)).trans HK9.out
      have r2 := (m9.2 b8 HLT.out.2.1 HNE.out.2.2.2.2.2).trans HV9.out
      have r3 := (m9.2 b9 HLT.out.2.2 HNE.out.2.2.2.2.1).trans HL9.out
      refine hK.out _ _ ?_ (fun hHeld => ?_)
      · exact ⟨(box_cell r1).1, (by have := (box_cell r2).1; unfold CB.fv at this; exact this), (box_cell r3).1⟩
      clear hK K
      (try simp only [Act.put, List.setIfInBounds_toArray, List.set_cons_zero, List.set_cons_succ])
      refine wpAnyH_take (i := 7) (oi := { dst := some 32, op := _, type := _, pos := _, after := _, guard := _ }) (v := ?_) rfl (by kernel_rfl) (by kernel_rfl) (by kernel_rfl) (fun _ _ _ h => h) (Or.inl ⟨by rfl, (by intro w hSw; (try dsimp only at hSw); obtain ⟨hSa, hSb, hSc⟩ := hSw; go_simp; try with_reducible rfl)⟩) (by assumption) ?_
      (try simp only [Act.put, List.setIfInBounds_toArray, List.set_cons_zero, List.set_cons_succ])
      refine wpAnyH_take (i := 8) (oi := { dst := some 33, op := _, type := _, pos := _, after := _, guard := _ }) (v := ?_) rfl (by kernel_rfl) (by kernel_rfl) (by kernel_rfl) (fun _ _ _ h => h) (Or.inl ⟨by rfl, (by intro w hSw; (try dsimp only at hSw); obtain ⟨hSa, hSb, hSc⟩ := hSw; go_simp; try with_reducible rfl)⟩) (by assumption) ?_
      (try simp only [Act.put, List.setIfInBounds_toArray, List.set_cons_zero, List.set_cons_succ])
      refine wpAnyH_done (by kernel_rfl) ?_ _
      exact ⟨rfl, m9, cs10⟩
    case hq =>
      rintro w10 ⟨m10, cs10⟩
      have HM10 := Lib.hid m10
      have HC10 := Lib.hid cs10
      clear hS hkn hkc hkc2 m10 cs10
      gi_wp2
      obtain ⟨xb, hxb⟩ : ∃ xb, w10.heap.size = xb := ⟨_, rfl⟩
      simp only [hxb]
      have HBB := Lib.hid (show NtB w.heap.size g (H + 1) xb b8 b9 (xb + 1) c from by
        have h1 := HH.out; have h2 := HSZ9.out; have h3 := HLE.out; have h4 := HLT.out; have h5 := HM10.out.size; have h6 := HCST.out.lt; have h7 := HNE.out; have h8 := HCO2.out.ne; have h9 := HT.out.1
        exact ⟨by omega, by omega, by omega, h7, h8, h9⟩)
      have HL0 := Lib.hid (show NtL w g (H + 1) xb b8 b9 (xb + 1) c [] AL kk (.slice none 0 0) [] (w10.alloc (.cells #[.slice none 0 0] 31)) from by
        have hn := (New.refl w10).alloc (.cells #[.slice none 0 0] 31)
        have h1 := HBB.out; have h8 := HCO2.out.ne
        have kp : ∀ q o, q ≠ c.M → w9.heap[q]? = some o → w10.heap[q]? = some o := fun q o hq e => (HM10.out.2 q (Array.getElem?_eq_some_iff.1 e).1 hq).trans e
        obtain ⟨D, n, hcs⟩ := HC10.out
        exact ⟨(Mod.new HN9.out HM10.out (fun q hq => by have h2 := h1.h1; have h3 := h1.lo; rw [hq]; omega)).trans hn, by rw [HCG.out]; exact Gr.new (show Gr w10 g RG from kp _ _ (by have h2 := h1.h1; omega) HG9.out) hn, ⟨D, n, hcs.new hn⟩, row_new (kp _ _ h1.h3.2.2.2.2.2 HV9.out) hn, row_new (kp _ _ h1.h3.2.2.2.2.1 HL9.out) hn, row_new (kp _ _ (by have h2 := h1.h1; have h3 := h1.lo; omega) HK9.out) hn, by rw [← hxb]; exact World.alloc_heap_new w10 _, World.ownsRow_nil _ _ _ _, HA24.out, List.nodup_nil, fun D hD => by cases hD⟩)
      have HTOT := Lib.hid (show FO = [] ++ nthS c.G.be (bitsOf AL).length AL kk from by rw [← HFO.out, List.nil_append, HCG.out, ← HALE.out]; rfl)
      have HKC2 := Lib.hid (show kk < cnS c.G.be AL from by rw [HCG.out]; exact HKC.out)
      obtain ⟨W0, hW0⟩ : ∃ W0, w10.alloc (.cells #[.slice none 0 0] 31) = W0 := ⟨_, rfl⟩
      simp only [hW0] at HL0 ⊢
      clear hW0
      refine wpIn_loop (fun a' w' => ∃ (left kq : Nat) (x : List Nat) (v : Value) (Ds : List Nat) (u11 u12 u25 u26 u27 u28 u29 u30 u31 u32 u33 u34 u35 u36 u37 u38 u39 u40 u41 u42 u43 u44 u45 u46 u47 u48 u49 u50 u51 u52 u53 u54 u55 u56 u57 u58 u59 u60 : Value), (NtL w g (H + 1) xb b8 b9 (xb + 1) c x left kq v Ds w' ∧ FO = x ++ nthS c.G.be (bitsOf left).length left kq ∧ kq < cnS c.G.be left ∧ (bitsOf left).length ≤ 12 ∧ x.length + (bitsOf left).length ≤ 1000) ∧ a' = { tmps := #[.agg #[.int .i64 o.n, .slice x1 o.A.length x2, .slice x3 o.B.length x4], .int .i64 (kk : Int), .pointer (some ⟨H, 0, none⟩), .pointer (some ⟨H + 1, 0, none⟩), .slice none 0 0, .int .i64 0, .pointer (some ⟨g, 0, none⟩), .int .i64 0, .pointer (some ⟨b8, 0, none⟩), .pointer (some ⟨b9, 0, none⟩), .pointer (some ⟨xb, 0, none⟩), u11, u12, .tuple #[.agg RG.cells.toArray, .int .i64 0], .agg #[.int .i64 o.n, .slice x1 o.A.length x2, .slice x3 o.B.length x4], .tuple #[.agg RG.cells.toArray, .int .i64 0], .agg RG.cells.toArray, .int .i64 0, .int .i64 0, .bool false, undef, .agg RG.cells.toArray, c.fv, .agg RG.cells.toArray, sv AL, u25, u26, u27, u28, u29, u30, u31, u32, u33, u34, u35, u36, u37, u38, u39, u40, u41, u42, u43, u44, u45, u46, u47, u48, u49, u50, u51, u52, u53, u54, u55, u56, u57, u58, u59, u60], defers := marks Ds }) (fun _ w' => (bitsOf (intOf ((w'.cell? ⟨b9, 0, none⟩).getD undef)).toNat).length) ?_ ?_
      · exact ⟨AL, kk, [], .slice none 0 0, [], _, _, _, _, _, _, _, _, _, _, _, _, _, _, _, _, _, _, _, _, _, _, _, _, _, _, _, _, _, _, _, _, _, _, _, _, _, _, ⟨HL0.out, HTOT.out, HKC2.out, HB12.out, by have := HB12.out; simp; omega⟩, rfl⟩
      · rintro a' wr ⟨left, kq, x, v, Ds, u11, u12, u25, u26, u27, u28, u29, u30, u31, u32, u33, u34, u35, u36, u37, u38, u39, u40, u41, u42, u43, u44, u45, u46, u47, u48, u49, u50, u51, u52, u53, u54, u55, u56, u57, u58, u59, u60, ⟨hL, htot, hkq, hl12, hlen⟩, rfl⟩
        have HL := Lib.hid hL
        have HTOT := Lib.hid htot
        have HKQ := Lib.hid hkq
        have HL12 := Lib.hid hl12
        have HLEN := Lib.hid hlen
        have hl24 := hL.l24
        have hl32 : left < 4294967296 := by omega
        have c9 := (box_cell hL.lf).1
        clear hL htot hkq hl12 hlen
        dsimp only
        by_cases h0 : left = 0
        · have hz : ((left : Int) != 0) = false := by simp [h0]
          have HE := Lib.hid (show FO = x from by
            have := HTOT.out
            rw [h0, show bitsOf 0 = [] from (bitsOf_nil (by omega)).2 rfl] at this
            simpa [nthS] using this)
          have c6 := (box_cell HL.out.fr).1
          clear h0
          gi_wp2
          refine leaves_marks Ds _ HL.out.nd (fun q hq => (HL.out.mks q hq).1) (fun W9 hm => ?_)
          refine ⟨_, results_tmp2 rfl _ _ _, ?_⟩
          have h1 := HBB.out
          have hL9 := own_keep HL.out.ow (fun b hb => hm.2 b (HL.out.ow.lt b hb).2 (fun h => (HL.out.mks b h).2.2 hb))
          refine ⟨_, rfl, Mod.new HL.out.nw hm (fun q hq => by have := (HL.out.mks q hq).2.1; have h2 := h1.h1; have h3 := h1.lo; have h4 := h1.h2; omega), ?_⟩
          rw [HE.out]
          exact own_base hL9 (by have h2 := h1.h1; have h3 := h1.lo; have h4 := h1.h2; omega)
        · have hz : ((left : Int) != 0) = true := by simpa using h0
          obtain ⟨m, hm⟩ : ∃ m, (bitsOf left).length = m + 1 := ⟨(bitsOf left).length - 1, by have hne : (bitsOf left).length ≠ 0 := fun h => h0 ((bits_none hl32).1 h); omega⟩
          have HM := Lib.hid hm
          have hm12 : m + 1 ≤ 12 := by rw [← hm]; exact HL12.out
          have HM12 := Lib.hid hm12
          obtain ⟨av', cv', rfl⟩ := own_slice HL.out.ow
          obtain ⟨i0, hi, hz0, hz1, hz2⟩ := info_parts int_infoO
          have HGR := Lib.hid (show Gr wr g RG from by rw [← HCG.out]; exact HL.out.gr)
          have HRD := Lib.hid (fun (w1 : World) (h1 : Tab w1) => (callsIn_wide (n := 4)).2 (ready_c RG left w1 HOK.out hl24 h1))
          have HGT := Lib.hid (show kq < cntTo c.G.be m left (bitsOf (rdN RG.be left)) from by
            have := HKQ.out
            unfold cnS at this
            rw [hm] at this
            rw [← HCG.out]; exact this)
          have HNT := Lib.hid (show nthS c.G.be (bitsOf left).length left kq = nthTo c.G.be (nthS c.G.be m) m left (bitsOf (rdN RG.be left)) kq from by rw [hm, ← HCG.out]; rfl)
          obtain ⟨R, hR⟩ : ∃ R, rdN RG.be left = R := ⟨_, rfl⟩
          rw [hR] at HRD HGT HNT
          have hR32 : R < 4294967296 := by rw [← hR]; exact rdTo_lt RG.be left (bitsOf left) 0 (by omega) (fun p hp => bitsOf_lt hp)
          have HR := Lib.hid (show ∀ x, x ∈ bitsOf R → x ∈ bitsOf left from fun x hx => rdN_sub (be := RG.be) (by rw [hR]; exact (bitsOf_mem.1 hx).2))
          have HPC := Lib.hid (fun (w1 : World) => (callsIn_wide (n := 4)).2 (patches_c R w1))
          clear hm hR h0 hm12
          gi_wp2_with (refine wpListIn_get_graph rfl (.tmp 6) rfl g rfl HGR.out ?_)
          refine ⟨trivial, ?_⟩
          gi_at_call 101
          refine (HRD.out _ (HT.out.new HL.out.nw)).mono ?_
          rintro e w3 ⟨rfl, n3⟩
          have N3 := Lib.hid n3
          clear n3 c9
          gi_wp2
          refine ⟨trivial, ?_⟩
          gi_at_call 89
          refine (HPC.out _).mono ?_
          rintro e w4 ⟨rfl, rfl⟩
          gi_wp2
          obtain ⟨WQ, HWQ⟩ : ∃ WQ : World, Hid (WQ = w3.alloc (.cells #[sv R] 79)) := ⟨_, Lib.hid rfl⟩
          rw [← HWQ.out]
          obtain ⟨qs, qz⟩ : WQ.heap[w3.heap.size]? = some (.cells #[sv R] 79 (0, 0)) ∧ WQ.heap.size = w3.heap.size + 1 := by rw [HWQ.out]; exact ⟨World.alloc_heap_new w3 _, by simp⟩
          have hnQ : New wr WQ := N3.out.trans (by rw [HWQ.out]; exact (New.refl w3).alloc _)
          obtain ⟨D, hD⟩ : ∃ D, WQ.heap.size = D := ⟨_, rfl⟩
          have HDB := Lib.hid (show xb + 1 ≤ D from by have h1 := (Array.getElem?_eq_some_iff.1 HL.out.fr).1; have h2 := hnQ.size; omega)
          have HDD := Lib.hid (show ∀ q ∈ Ds, q < D from fun q hq => by have h1 := (Array.getElem?_eq_some_iff.1 (HL.out.mks q hq).1).1; have h2 := hnQ.size; omega)
          have HDV := Lib.hid (show ∀ b, (Value.slice av' x.length cv').ownBlock = some b → b < D from fun b hb => by have h1 := (HL.out.ow.lt b hb).2; have h2 := hnQ.size; omega)
          have HTQ := Lib.hid (HT.out.new (HL.out.nw.trans hnQ))
          have HI0 := Lib.hid (show NtI w g (H + 1) xb b8 b9 (xb + 1) c x left kq m (.slice av' x.length cv') Ds D (plus D fun _ => False) [] none WQ from by
            refine ⟨fun q hq => ?_, by omega, .inl ⟨rfl, Nat.zero_le _, HL.out.new hnQ⟩⟩
            rcases hq with hq | hq | hq
            · cases hq
            · omega
            · omega)
          have hsb : w3.heap.size < WQ.heap.size := by omega
          have HST := Lib.hid (show ∀ P P' ps pc V V', NtI w g (H + 1) xb b8 b9 (xb + 1) c x left kq m (.slice av' x.length cv') Ds D P ps pc V → Mod P V V' → (∀ q, P' q → P q ∨ V.heap.size ≤ q) → NtI w g (H + 1) xb b8 b9 (xb + 1) c x left kq m (.slice av' x.length cv') Ds D P' ps pc V' from fun P P' ps pc V V' h hm ho => h.stable HBB.out HDB.out HDD.out HDV.out hm ho)
          have HTD := Lib.hid (show 0 < D from by have h1 := HBB.out.tb; have h2 := HBB.out.lo; have h3 := HBB.out.h1; have h4 := HBB.out.h2; have := HDB.out; omega)
          clear hnQ
          refine range_gen (n := 5) (by omega) rfl (enters_of Tryd.func140 (by kernel_rfl) rfl) (Elem := ElemP) (xs := bitsOf R) (E := tabE)
            (fun W1 hn1 _ => patches_it R w3.heap.size hR32 W1 ((hn1.below.block _ hsb).trans qs) (HTQ.out.new hn1)) (fun q hq => by have := HTD.out; unfold tabE at hq; omega) (by rintro x args O W rfl; rfl)
            (NtI w g (H + 1) xb b8 b9 (xb + 1) c x left kq m (.slice av' x.length cv') Ds D) (fun P P' ps pc V V' h hm ho => HST.out P P' ps pc V V' h hm ho) ?h0 ?hbody ?hdone ?hstop
          case h0 => rw [hD]; exact HI0.out
          case hbody =>
            rw [hD]
            rintro m9 O9 ps p args V hI rfl hpx hD1 hD0 ⟨r, hr⟩ hbnd
            have HI := Lib.hid hI
            have HBN := Lib.hid hbnd
            have hdl := (Array.getElem?_eq_some_iff.1 hr).1
            have HDL := Lib.hid hdl
            have hpm : p ∈ bitsOf left := HR.out p (by obtain ⟨rest, hrest⟩ := hpx; rw [← hrest]; simp)
            have hp24 := low24 hl24 hpm
            clear hI hD1 hD0 hr hbnd hdl hpx qs qz hsb
            gi_wp2
            refine ⟨Keep.refl _ _, ?_⟩
            intro V2 hb2 hs2 ho2 hr2
            have HSV := Lib.hid (show V.heap.size ≤ V2.heap.size from hb2.size)
            have HI2 := Lib.hid (HST.out (plus D O9) (plus D O9) ps none V V2 HI.out ⟨hb2, fun q hq h' => ho2 q (fun e => h' (.inr (.inr e)))⟩ (fun q hq => .inl hq))
            clear hb2 hs2 ho2 hr2
            rcases HI2.out.st with ⟨_, hacc0, hL2⟩ | ⟨e, _⟩
            case inr => cases e
            obtain ⟨X, hX⟩ : ∃ X, 2 ^ p = X := ⟨_, rfl⟩
            have hX32 : X < 4294967296 := by rw [← hX]; exact pow_lt p (by omega)
            have HSI := Lib.hid (fun (w1 : World) => single_c p w1 (by omega))
            have HWO := Lib.hid (fun (w1 : World) => without_c left X w1 hl32 hX32)
            rw [hX] at HSI
            obtain ⟨t, ht⟩ : ∃ t, wo left X = t := ⟨_, rfl⟩
            rw [ht] at HWO
            have htl : (bitsOf t).length = m := by have := wo_bits hl32 hpm; rw [hX, ht, HM.out] at this; omega
            have ht24 : t < 2 ^ 24 := by rw [← ht]; exact Nat.lt_of_le_of_lt (wo_le _ _) hl24
            obtain ⟨y, hy⟩ : ∃ y, cntS c.G.be m t = y := ⟨_, rfl⟩
            obtain ⟨acc, hacc⟩ : ∃ acc, cntTo c.G.be m left ps = acc := ⟨_, rfl⟩
            obtain ⟨kc, hkc⟩ : ∃ kc, kq - acc = kc := ⟨_, rfl⟩
            rw [hacc] at hacc0
            rw [hacc, hkc] at hL2
            have hyb : y ≤ 479001600 := by
              rw [← hy]
              exact Nat.le_trans (cntS_le _ _ _ (by omega) htl) (facN_12 _ (by have := HM12.out; omega))
            have hkb : kc ≤ 479001600 := by
              have h1 := HKQ.out
              have h2 := cntS_le c.G.be (bitsOf left).length left hl32 rfl
              have h3 := facN_12 _ HL12.out
              unfold cnS at h1
              omega
            have HL2 := Lib.hid hL2
            have HCALL := Lib.hid (show ∀ w1, (∃ D n, CSt c D n w1) → Calls Tryd.prog 142 #[sv t, .pointer (some ⟨c.mb, 0, none⟩), .pointer (some ⟨c.gb, 0, none⟩), .pointer (some ⟨c.cb, 0, none⟩)] w1 (fun e W' => e = .returned (.int .i64 (y : Int)) ∧ Mod (fun q => q = c.M) w1 W' ∧ ∃ D n, CSt c D n W') from fun w1 h => by
              have := HCNT.out t w1 ht24 (by have := HM12.out; omega) h
              have e : cnS c.G.be t = y := by unfold cnS; rw [htl]; exact hy
              rw [e] at this; exact this)
            have HT1 := Lib.hid (show wo left (2 ^ p) = t from by rw [hX]; exact ht)
            have HTL := Lib.hid htl
            have HY := Lib.hid hy
            have HACC := Lib.hid hacc
            have HAC0 := Lib.hid hacc0
            have HKCE := Lib.hid hkc
            have HT24 := Lib.hid ht24
            have HBN2 := Lib.hid (show ∀ q, plus D O9 q → q < V2.heap.size from fun q hq => by
              have := HSV.out
              have h2 := HDL.out
              rcases hq with hq | hq | hq
              · have := HBN.out q hq; omega
              · omega
              · omega)
            have hS : V2.cell? ⟨b9, 0, none⟩ = some (sv left) := (box_cell hL2.lf).1
            have HLT2 := Lib.hid (show b9 < V2.heap.size from (Array.getElem?_eq_some_iff.1 hL2.lf).1)
            clear hL2 hX ht htl hy hacc hacc0 hkc ht24 hpm
            gi_wp2
            apply region_act (fun w' => w'.cell? ⟨b9, 0, none⟩ = some (sv left)) (fun w' => New V2 w') (by kernel_rfl) (by kernel_rfl) hS
            case h =>
              intro hHeld
              refine wpAnyH_take (i := 0) (oi := { dst := some 41, op := _, type := _, pos := _, after := _, guard := _ }) (v := ?_) rfl (by kernel_rfl) (by kernel_rfl) (by kernel_rfl) (fun _ _ _ h => h) (Or.inl ⟨by rfl, (by intro w hSw; (try dsimp only at hSw); go_simp; try with_reducible rfl)⟩) (by assumption) ?_
              (try simp only [Act.put, List.setIfInBounds_toArray, List.set_cons_zero, List.set_cons_succ])
              refine wpAnyH_take (i := 1) (oi := { dst := some 42, op := _, type := _, pos := _, after := _, guard := _ }) (v := ?_) rfl (by kernel_rfl) (by kernel_rfl) (by kernel_rfl) (fun _ _ _ h => h) (Or.inl ⟨by rfl, (by intro w hSw; (try dsimp only at hSw); go_simp; try with_reducible rfl)⟩) (by assumption) ?_
              (try simp only [Act.put, List.setIfInBounds_toArray, List.set_cons_zero, List.set_cons_succ])
              refine wpAnyH_ready (rs := [2]) (by kernel_rfl) (by simp) ?_
              refine AllReadyH.cons rfl (fun K hK => ?_) AllReadyH.nil
              go_simp
              go_at_call 91
              refine (HSI.out _).mono ?_
              rintro e w6 ⟨rfl, n6⟩
              have N6 := Lib.hid (show New V2 w6 from (New.refl V2).drew.trans n6)
              clear n6
              refine hK.out _ _ ?_ (fun hHeld => ?_)
              · exact (N6.out.cell HLT2.out).trans hS
              clear hK K
              (try simp only [Act.put, List.setIfInBounds_toArray, List.set_cons_zero, List.set_cons_succ])
              refine wpAnyH_ready (rs := [3]) (by kernel_rfl) (by simp) ?_
              refine AllReadyH.cons rfl (fun K hK => ?_) AllReadyH.nil
              go_simp
              go_at_call 90
              refine (HWO.out _).mono ?_
              rintro e w7' ⟨rfl, n6⟩
              have N6 := Lib.hid (show New V2 w7' from N6.out.trans n6)
              clear n6
              refine hK.out _ _ ?_ (fun hHeld => ?_)
              · exact (N6.out.cell HLT2.out).trans hS
              clear hK K
              (try simp only [Act.put, List.setIfInBounds_toArray, List.set_cons_zero, List.set_cons_succ])
              refine wpAnyH_take (i := 4) (oi := { dst := some 12, op := _, type := _, pos := _, after := _, guard := _ }) (v := ?_) rfl (by kernel_rfl) (by kernel_rfl) (by kernel_rfl) (fun _ _ _ h => h) (Or.inl ⟨by rfl, (by intro w hSw; (try dsimp only at hSw); go_simp; try with_reducible rfl)⟩) (by assumption) ?_
              (try simp only [Act.put, List.setIfInBounds_toArray, List.set_cons_zero, List.set_cons_succ])
              refine wpAnyH_done (by kernel_rfl) ?_ _
              exact ⟨rfl, N6.out⟩
            case hq =>
              rintro W3 hn3
              have HL3 := Lib.hid (HL2.out.new hn3)
              have HN3 := Lib.hid hn3
              have hS : W3.cell? ⟨H + 1, 0, none⟩ = some (.int .i64 (kc : Int)) ∧ W3.cell? ⟨b8, 0, none⟩ = some c.fv := ⟨(box_cell HL3.out.kf).1, (box_cell HL3.out.cv).1⟩
              unfold CB.fv at hS
              have HLT3 := Lib.hid (show H + 1 < W3.heap.size ∧ b8 < W3.heap.size from ⟨(Array.getElem?_eq_some_iff.1 HL3.out.kf).1, (Array.getElem?_eq_some_iff.1 HL3.out.cv).1⟩)
              clear hn3
              by_cases hb : kc < y
              · have hlt : ((kc : Int) < (y : Int)) = True := eq_true (by omega)
                have HB := Lib.hid hb
                clear hb
                gi_wp2
                apply region_act (fun w' => w'.cell? ⟨H + 1, 0, none⟩ = some (.int .i64 (kc : Int)) ∧ w'.cell? ⟨b8, 0, none⟩ = some (.func (.func 142) #[] #[.pointer (some ⟨c.mb, 0, none⟩), .pointer (some ⟨c.gb, 0, none⟩), .pointer (some ⟨c.cb, 0, none⟩)])) (fun w' => Mod (fun q => q = c.M) W3 w' ∧ ∃ D n, CSt c D n w') (by kernel_rfl) (by kernel_rfl) hS
                case h =>
                  intro hHeld
                  refine wpAnyH_take (i := 0) (oi := { dst := some 45, op := _, type := _, pos := _, after := _, guard := _ }) (v := ?_) rfl (by kernel_rfl) (by kernel_rfl) (by kernel_rfl) (fun _ _ _ h => h) (Or.inl ⟨by rfl, (by intro w hSw; (try dsimp only at hSw); obtain ⟨hSa, hSb⟩ := hSw; go_simp; try with_reducible rfl)⟩) (by assumption) ?_
                  (try simp only [Act.put, List.setIfInBounds_toArray, List.set_cons_zero, List.set_cons_succ])
                  refine wpAnyH_take (i := 1) (oi := { dst := some 46, op := _, type := _, pos := _, after := _, guard := _ }) (v := ?_) rfl (by kernel_rfl) (by kernel_rfl) (by kernel_rfl) (fun _ _ _ h => h) (Or.inl ⟨by rfl, (by intro w hSw; (try dsimp only at hSw); obtain ⟨hSa, hSb⟩ := hSw; go_simp; try with_reducible rfl)⟩) (by assumption) ?_
                  (try simp only [Act.put, List.setIfInBounds_toArray, List.set_cons_zero, List.set_cons_succ])
                  refine wpAnyH_take (i := 2) (oi := { dst := some 47, op := _, type := _, pos := _, after := _, guard := _ }) (v := ?_) rfl (by kernel_rfl) (by kernel_rfl) (by kernel_rfl) (fun _ _ _ h => h) (Or.inl ⟨by rfl, (by intro w hSw; (try dsimp only at hSw); obtain ⟨hSa, hSb⟩ := hSw; go_simp; try with_reducible rfl)⟩) (by assumption) ?_
                  (try simp only [Act.put, List.setIfInBounds_toArray, List.set_cons_zero, List.set_cons_succ])
                  refine wpAnyH_ready (rs := [3]) (by kernel_rfl) (by simp) ?_
                  refine AllReadyH.cons rfl (fun K hK => ?_) AllReadyH.nil
                  go_simp
                  go_at_call 142
                  refine (HCALL.out _ (by obtain ⟨D', n', h⟩ := HL3.out.cs; exact ⟨D', n', h.new (New.refl W3).drew⟩)).mono ?_
                  rintro e w6 ⟨rfl, m6, cs6⟩
                  have m6' : Mod (fun q => q = c.M) W3 w6 := (Mod.of_new (New.refl W3).drew).trans m6
                  have r1 := (m6'.2 (H + 1) HLT3.out.1 (by have h1 := HBB.out.lo; have h2 := HBB.out.h1; omega)).trans HL3.out.kf
                  have r2 := (m6'.2 b8 HLT3.out.2 HBB.out.h3.2.2.2.2.2).trans HL3.out.cv
                  refine hK.out _ _ ?_ (fun hHeld => ?_)
                  · exact ⟨(box_cell r1).1, (by have := (box_cell r2).1; unfold CB.fv at this; exact this)⟩
                  clear hK K
                  (try simp only [Act.put, List.setIfInBounds_toArray, List.set_cons_zero, List.set_cons_succ])
                  refine wpAnyH_take (i := 4) (oi := { dst := some 49, op := _, type := _, pos := _, after := _, guard := _ }) (v := ?_) rfl (by kernel_rfl) (by kernel_rfl) (by kernel_rfl) (fun _ _ _ h => h) (Or.inl ⟨by rfl, (by intro w hSw; (try dsimp only at hSw); obtain ⟨hSa, hSb⟩ := hSw; go_simp; try with_reducible rfl)⟩) (by assumption) ?_
                  (try simp only [Act.put, List.setIfInBounds_toArray, List.set_cons_zero, List.set_cons_succ])
                  refine wpAnyH_done (by kernel_rfl) ?_ _
                  exact ⟨rfl, m6', cs6⟩
                case hq =>
                  rintro W4 ⟨m4, cs4⟩
                  have HL4 := Lib.hid (HL3.out.call HBB.out m4 cs4)
                  have HM4 := Lib.hid m4
                  have hS4 := HL4.out
                  have c6 := box_cell hS4.fr
                  have hxl : x.length + (bitsOf left).length ≤ 1000 := HLEN.out
                  clear m4 cs4 hS hlt hS4
                  gi_wp2_with (gi_at_builtin; refine wpListIn_append_lies _ rfl _ _ 31 rfl (xb + 1) 3 i0 _ 1 8 Tryd.underlying31 hi hz0 hz1 hz2 rfl (by decide) (.slice av' x.length cv') x.length (natCells x) rfl ?o1 _ 1 1 [.int .i64 (p : Int)] rfl rfl ?o2 ?o3 (by omega) ?o4 ?o5 ?o6 _ rfl ?o7)
                  case o1 => exact own_new HL4.out.ow ((New.refl _).alloc _)
                  case o2 =>
                    intro j u hj
                    cases j with
                    | zero => simp at hj; subst hj; exact (box_cell (World.alloc_heap_new W4 _)).1
                    | succ j => simp at hj
                  case o3 => intro u hu; simp at hu; rw [hu]; rfl
                  case o4 => unfold maxLen; omega
                  case o5 => omega
                  case o6 => have := (Array.getElem?_eq_some_iff.1 HL4.out.fr).1; simp; omega
                  case o7 =>
                    intro g4 cap4 w4 hown4 hgrow4 hor4 hlt4
                    have hvb : ∀ b, (Value.slice av' x.length cv').ownBlock = some b → xb + 1 ≤ b ∧ b < D := fun b hb => ⟨(HL4.out.ow.lt b hb).1, HDV.out b hb⟩
                    have hM4 : Mod (fun q => (Value.slice av' x.length cv').ownBlock = some q) W4 w4 := (Mod.of_new ((New.refl W4).alloc (.cells #[.int .i64 (p : Int)] 3))).trans (Mod.grown hgrow4 fun b hb => hb)
                    have hg4 : (Value.slice av' x.length cv').ownBlock = some g4 ∨ W4.heap.size ≤ g4 := hor4.imp id (fun e => by rw [e]; simp)
                    have hfb4 : w4.heap[xb]? = some (.cells #[.slice av' x.length cv'] 31 (0, 0)) := (hM4.2 xb (Array.getElem?_eq_some_iff.1 HL4.out.fr).1 (fun e => by have := hvb _ e; omega)).trans HL4.out.fr
                    have hlb4 : w4.heap[b9]? = some (.cells #[sv left] 79 (0, 0)) := (hM4.2 b9 (Array.getElem?_eq_some_iff.1 HL4.out.lf).1 (fun e => by have := hvb _ e; have h2 := HBB.out.h2; omega)).trans HL4.out.lf
                    have d1 := box_cell hfb4
                    have d2 := box_cell (show (w4.setCell ⟨xb, 0, none⟩ (.slice (some ⟨g4, 0, none⟩) (x.length + 1) cap4)).heap[b9]? = some (.cells #[sv left] 79 (0, 0)) from (heap_setCell_other _ _ _ _ _ (by have h2 := HBB.out.h2; omega)).trans hlb4)
                    have hL5 := HL4.out.push HBB.out hM4 hown4 hg4 HT24.out
                    obtain ⟨w5, hw5⟩ : ∃ w5 : World, Hid (w5 = (w4.setCell ⟨xb, 0, none⟩ (.slice (some ⟨g4, 0, none⟩) (x.length + 1) cap4)).setCell ⟨b9, 0, none⟩ (sv t)) := ⟨_, Lib.hid rfl⟩
                    rw [← hw5.out] at hL5
                    have HL5 := Lib.hid hL5
                    have HP := Lib.hid (show RoundG D O9 tabE (NtI w g (H + 1) xb b8 b9 (xb + 1) c x left kq m (.slice av' x.length cv') Ds D) (ps ++ [p]) V2 (.exit 2) w5 from by
                      have hm : Mod (fun q => (Value.slice av' x.length cv').ownBlock = some q ∨ q = xb ∨ q = b9) W4 w5 := by
                        rw [hw5.out]
                        exact (hM4.mono fun q hq => .inl hq).trans ((Mod.setCell _ _ _ _ (.inr (.inl rfl))).trans (Mod.setCell _ _ _ _ (.inr (.inr rfl))))
                      have hk2 := HBB.out.h2; have hk1 := HBB.out.h1; have hlo := HBB.out.lo; have hD1 := HDB.out; have htb := HBB.out.tb
                      have hsz4 := HN3.out.size; have hsz5 := HM4.out.size; have hsz6 := hm.size
                      refine ⟨(Keep.of_new HN3.out).trans ((Keep.of_mod HM4.out fun q hq h' => ?_).trans (Keep.of_mod hm fun q hq h' => ?_)), some (.exit 2), ⟨HI2.out.hi, by have := HI2.out.sz; omega, .inr ⟨rfl, p, ps, _, rfl, by rw [HACC.out]; exact HAC0.out, by rw [HACC.out, HKCE.out, HT1.out, HY.out]; exact HB.out, by rw [HACC.out, HKCE.out, HT1.out]; exact HL5.out, fun b hb h' => ?_⟩⟩, .inr (.inr ⟨2, rfl, rfl⟩)⟩
                      · have h1 : D ≤ q ∨ tabE q := hq.imp (fun h => HI2.out.hi q h) id
                        unfold tabE at h1
                        omega
                      · have h1 : D ≤ q ∨ tabE q := hq.imp (fun h => HI2.out.hi q h) id
                        unfold tabE at h1
                        rcases h' with h' | h' | h'
                        · have := hvb _ h'; omega
                        · omega
                        · omega
                      · simp [Value.ownBlock] at hb
                        subst hb
                        have h8 := HBN2.out _ h'
                        have h9 := HI2.out.hi _ h'
                        rcases hg4 with h | h
                        · have h7 := hvb _ h; omega
                        · omega)
                    clear hown4 hgrow4 hor4 hlt4 hM4 hfb4 hlb4 hg4 hvb hL5
                    gi_wp2
                    rw [← hw5.out]
                    exact HP.out
              · have hlt : ((kc : Int) < (y : Int)) = False := eq_false (by omega)
                have HB := Lib.hid hb
                clear hb
                gi_wp2
                apply region_act (fun w' => w'.cell? ⟨H + 1, 0, none⟩ = some (.int .i64 (kc : Int)) ∧ w'.cell? ⟨b8, 0, none⟩ = some (.func (.func 142) #[] #[.pointer (some ⟨c.mb, 0, none⟩), .pointer (some ⟨c.gb, 0, none⟩), .pointer (some ⟨c.cb, 0, none⟩)])) (fun w' => Mod (fun q => q = c.M) W3 w' ∧ ∃ D n, CSt c D n w') (by kernel_rfl) (by kernel_rfl) hS
                case h =>
                  intro hHeld
                  refine wpAnyH_take (i := 0) (oi := { dst := some 45, op := _, type := _, pos := _, after := _, guard := _ }) (v := ?_) rfl (by kernel_rfl) (by kernel_rfl) (by kernel_rfl) (fun _ _ _ h => h) (Or.inl ⟨by rfl, (by intro w hSw; (try dsimp only at hSw); obtain ⟨hSa, hSb⟩ := hSw; go_simp; try with_reducible rfl)⟩) (by assumption) ?_
                  (try simp only [Act.put, List.setIfInBounds_toArray, List.set_cons_zero, List.set_cons_succ])
                  refine wpAnyH_take (i := 1) (oi := { dst := some 46, op := _, type := _, pos := _, after := _, guard := _ }) (v := ?_) rfl (by kernel_rfl) (by kernel_rfl) (by kernel_rfl) (fun _ _ _ h => h) (Or.inl ⟨by rfl, (by intro w hSw; (try dsimp only at hSw); obtain ⟨hSa, hSb⟩ := hSw; go_simp; try with_reducible rfl)⟩) (by assumption) ?_
                  (try simp only [Act.put, List.setIfInBounds_toArray, List.set_cons_zero, List.set_cons_succ])
                  refine wpAnyH_take (i := 2) (oi := { dst := some 47, op := _, type := _, pos := _, after := _, guard := _ }) (v := ?_) rfl (by kernel_rfl) (by kernel_rfl) (by kernel_rfl) (fun _ _ _ h => h) (Or.inl ⟨by rfl, (by intro w hSw; (try dsimp only at hSw); obtain ⟨hSa, hSb⟩ := hSw; go_simp; try with_reducible rfl)⟩) (by assumption) ?_
                  (try simp only [Act.put, List.setIfInBounds_toArray, List.set_cons_zero, List.set_cons_succ])
                  refine wpAnyH_ready (rs := [3]) (by kernel_rfl) (by simp) ?_
                  refine AllReadyH.cons rfl (fun K hK => ?_) AllReadyH.nil
                  go_simp
                  go_at_call 142
                  refine (HCALL.out _ (by obtain ⟨D', n', h⟩ := HL3.out.cs; exact ⟨D', n', h.new (New.refl W3).drew⟩)).mono ?_
                  rintro e w6 ⟨rfl, m6, cs6⟩
                  have m6' : Mod (fun q => q = c.M) W3 w6 := (Mod.of_new (New.refl W3).drew).trans m6
                  have r1 := (m6'.2 (H + 1) HLT3.out.1 (by have h1 := HBB.out.lo; have h2 := HBB.out.h1; omega)).trans HL3.out.kf
                  have r2 := (m6'.2 b8 HLT3.out.2 HBB.out.h3.2.2.2.2.2).trans HL3.out.cv
                  refine hK.out _ _ ?_ (fun hHeld => ?_)
                  · exact ⟨(box_cell r1).1, (by have := (box_cell r2).1; unfold CB.fv at this; exact this)⟩
                  clear hK K
                  (try simp only [Act.put, List.setIfInBounds_toArray, List.set_cons_zero, List.set_cons_succ])
                  refine wpAnyH_take (i := 4) (oi := { dst := some 49, op := _, type := _, pos := _, after := _, guard := _ }) (v := ?_) rfl (by kernel_rfl) (by kernel_rfl) (by kernel_rfl) (fun _ _ _ h => h) (Or.inl ⟨by rfl, (by intro w hSw; (try dsimp only at hSw); obtain ⟨hSa, hSb⟩ := hSw; go_simp; try with_reducible rfl)⟩) (by assumption) ?_
                  (try simp only [Act.put, List.setIfInBounds_toArray, List.set_cons_zero, List.set_cons_succ])
                  refine wpAnyH_done (by kernel_rfl) ?_ _
                  exact ⟨rfl, m6', cs6⟩
                case hq =>
                  rintro W4 ⟨m4, cs4⟩
                  have HL4 := Lib.hid (HL3.out.call HBB.out m4 cs4)
                  have HM4 := Lib.hid m4
                  have hsub := IntWalk.i64_in ((kc : Int) - (y : Int)) (by omega)
                  have HSUB := Lib.hid (show IntKind.i64.wrap ((kc : Int) - (y : Int)) = ((kc - y : Nat) : Int) from by rw [hsub]; have := HB.out; omega)
                  have hS : W4.cell? ⟨H + 1, 0, none⟩ = some (.int .i64 (kc : Int)) ∧ W4.cell? ⟨b8, 0, none⟩ = some c.fv := ⟨(box_cell HL4.out.kf).1, (box_cell HL4.out.cv).1⟩
                  unfold CB.fv at hS
                  have HLT4 := Lib.hid (show H + 1 < W4.heap.size ∧ b8 < W4.heap.size from ⟨(Array.getElem?_eq_some_iff.1 HL4.out.kf).1, (Array.getElem?_eq_some_iff.1 HL4.out.cv).1⟩)
                  clear m4 cs4 hlt hsub
                  gi_wp2
                  apply region_last 5 (fun w' => w'.cell? ⟨H + 1, 0, none⟩ = some (.int .i64 (kc : Int)) ∧ w'.cell? ⟨b8, 0, none⟩ = some (.func (.func 142) #[] #[.pointer (some ⟨c.mb, 0, none⟩), .pointer (some ⟨c.gb, 0, none⟩), .pointer (some ⟨c.cb, 0, none⟩)])) (fun w' => ∃ W5, Mod (fun q => q = c.M) W4 W5 ∧ (∃ D n, CSt c D n W5) ∧ w' = W5.setCell ⟨H + 1, 0, none⟩ (.int .i64 ((kc - y : Nat) : Int))) (by kernel_rfl) (by kernel_rfl)
                  case h =>
                    have hHeld := (show W4.drew.cell? ⟨H + 1, 0, none⟩ = some (.int .i64 (kc : Int)) ∧ W4.drew.cell? ⟨b8, 0, none⟩ = some (.func (.func 142) #[] #[.pointer (some ⟨c.mb, 0, none⟩), .pointer (some ⟨c.gb, 0, none⟩), .pointer (some ⟨c.cb, 0, none⟩)]) from hS)
                    refine G_take (i := 0) (x := { dst := some 55, op := _, type := _, pos := _, after := _, guard := _ }) (v := ?_) rfl (by kernel_rfl) (by kernel_rfl) (by kernel_rfl) (by kernel_rfl) (fun _ _ _ h => h) (Or.inl ⟨by rfl, (by intro w hSw; (try dsimp only at hSw); obtain ⟨hSa, hSb⟩ := hSw; go_simp; try with_reducible rfl)⟩) hHeld ?_
                    (try simp only [Act.put, List.setIfInBounds_toArray, List.set_cons_zero, List.set_cons_succ])
                    refine G_take (i := 1) (x := { dst := some 56, op := _, type := _, pos := _, after := _, guard := _ }) (v := ?_) rfl (by kernel_rfl) (by kernel_rfl) (by kernel_rfl) (by kernel_rfl) (fun _ _ _ h => h) (Or.inl ⟨by rfl, (by intro w hSw; (try dsimp only at hSw); obtain ⟨hSa, hSb⟩ := hSw; go_simp; try with_reducible rfl)⟩) hHeld ?_
                    (try simp only [Act.put, List.setIfInBounds_toArray, List.set_cons_zero, List.set_cons_succ])
                    refine G_take (i := 2) (x := { dst := some 57, op := _, type := _, pos := _, after := _, guard := _ }) (v := ?_) rfl (by kernel_rfl) (by kernel_rfl) (by kernel_rfl) (by kernel_rfl) (fun _ _ _ h => h) (Or.inl ⟨by rfl, (by intro w hSw; (try dsimp only at hSw); obtain ⟨hSa, hSb⟩ := hSw; go_simp; try with_reducible rfl)⟩) hHeld ?_
                    (try simp only [Act.put, List.setIfInBounds_toArray, List.set_cons_zero, List.set_cons_succ])
                    refine G_one (i := 3) (x := { dst := some 58, op := _, type := _, pos := _, after := _, guard := _ }) (by kernel_rfl) rfl (by rfl) (fun K hK => ?_)
                    go_simp
                    go_at_call 142
                    refine (HCALL.out _ (by obtain ⟨D', n', h⟩ := HL4.out.cs; exact ⟨D', n', h.new (New.refl W4).drew⟩)).mono ?_
                    rintro e w6 ⟨rfl, m6, cs6⟩
                    have m6' : Mod (fun q => q = c.M) W4 w6 := (Mod.of_new (New.refl W4).drew).trans m6
                    have r1 := (m6'.2 (H + 1) HLT4.out.1 (by have h1 := HBB.out.lo; have h2 := HBB.out.h1; omega)).trans HL4.out.kf
                    have r2 := (m6'.2 b8 HLT4.out.2 HBB.out.h3.2.2.2.2.2).trans HL4.out.cv
                    have c6 := (box_cell r1).1
                    have f6 := (box_cell r1).2
                    have hHeld := (show w6.cell? ⟨H + 1, 0, none⟩ = some (.int .i64 (kc : Int)) ∧ w6.cell? ⟨b8, 0, none⟩ = some (.func (.func 142) #[] #[.pointer (some ⟨c.mb, 0, none⟩), .pointer (some ⟨c.gb, 0, none⟩), .pointer (some ⟨c.cb, 0, none⟩)]) from ⟨(box_cell r1).1, (by have := (box_cell r2).1; unfold CB.fv at this; exact this)⟩)
                    refine hK _ _ (.inr hHeld) ?_
                    clear hK K
                    (try simp only [Act.put, List.setIfInBounds_toArray, List.set_cons_zero, List.set_cons_succ])
                    refine G_take (i := 4) (x := { dst := some 59, op := _, type := _, pos := _, after := _, guard := _ }) (v := ?_) rfl (by kernel_rfl) (by kernel_rfl) (by kernel_rfl) (by kernel_rfl) (fun _ _ _ h => h) (Or.inl ⟨by rfl, (by intro w hSw; (try dsimp only at hSw); obtain ⟨hSa, hSb⟩ := hSw; go_simp; try with_reducible rfl)⟩) hHeld ?_
                    (try simp only [Act.put, List.setIfInBounds_toArray, List.set_cons_zero, List.set_cons_succ])
                    refine G_one (i := 5) (x := { dst := none, op := _, type := _, pos := _, after := _, guard := _ }) (by kernel_rfl) rfl (by rfl) (fun K hK => ?_)
                    go_simp
                    refine hK _ _ (.inl rfl) ?_
                    clear hK K
                    (try simp only [Act.put, List.setIfInBounds_toArray, List.set_cons_zero, List.set_cons_succ])
                    refine G_done (by kernel_rfl) ?_ _
                    exact ⟨rfl, w6, m6', cs6, congrArg (fun v => World.setCell w6 ⟨H + 1, 0, none⟩ (Value.int .i64 v)) HSUB.out⟩
                  case hq =>
                    rintro _ ⟨W5, m5, cs5, rfl⟩
                    have hL5 := (HL4.out.call HBB.out m5 cs5).setk HBB.out (kc - y)
                    have HP := Lib.hid (show RoundG D O9 tabE (NtI w g (H + 1) xb b8 b9 (xb + 1) c x left kq m (.slice av' x.length cv') Ds D) (ps ++ [p]) V2 .normal (W5.setCell ⟨H + 1, 0, none⟩ (.int .i64 ((kc - y : Nat) : Int))) from by
                      have hm : Mod (fun q => q = c.M ∨ q = H + 1) W4 (W5.setCell ⟨H + 1, 0, none⟩ (.int .i64 ((kc - y : Nat) : Int))) := (m5.mono fun q hq => .inl hq).trans (Mod.setCell _ _ _ _ (.inr rfl))
                      have hk2 := HBB.out.h2; have hk1 := HBB.out.h1; have hlo := HBB.out.lo; have hD1 := HDB.out; have htb := HBB.out.tb
                      have hsz4 := HN3.out.size; have hsz5 := HM4.out.size; have hsz6 := hm.size
                      have hac : cntTo c.G.be m left (ps ++ [p]) = acc + y := by rw [cntTo_snoc, HACC.out, HT1.out, HY.out]
                      have hke := HKCE.out
                      have hle := HAC0.out
                      have hby := HB.out
                      refine ⟨(Keep.of_new HN3.out).trans ((Keep.of_mod HM4.out fun q hq h' => ?_).trans (Keep.of_mod hm fun q hq h' => ?_)), none, ⟨HI2.out.hi, by have := HI2.out.sz; omega, .inl ⟨rfl, by rw [hac]; omega, ?_⟩⟩, .inl ⟨rfl, rfl⟩⟩
                      · have h1 : D ≤ q ∨ tabE q := hq.imp (fun h => HI2.out.hi q h) id
                        unfold tabE at h1
                        omega
                      · have h1 : D ≤ q ∨ tabE q := hq.imp (fun h => HI2.out.hi q h) id
                        unfold tabE at h1
                        omega
                      · rw [hac, show kq - (acc + y) = kc - y by omega]
                        exact hL5)
                    clear m5 cs5 hL5 hS
                    gi_wp2
                    exact HP.out
          case hdone =>
            rw [hD]
            rintro O9 V hI hmk
            rcases hI.st with ⟨_, h1, _⟩ | ⟨e, _⟩
            · have := HGT.out; omega
            · cases e
          case hstop =>
            rw [hD]
            rintro O9 done pc V hI hpx hmk
            rcases hI.st with ⟨e, _⟩ | ⟨e, p, d0, v', rfl, h1, h2, hLX, h4⟩
            case inl => cases e
            obtain rfl : pc = .exit 2 := by simpa using e
            obtain ⟨t, ht⟩ : ∃ t, wo left (2 ^ p) = t := ⟨_, rfl⟩
            obtain ⟨kc, hkc⟩ : ∃ kc, kq - cntTo c.G.be m left d0 = kc := ⟨_, rfl⟩
            have hpm : p ∈ bitsOf left := HR.out p (by obtain ⟨rest, hrest⟩ := hpx; rw [← hrest]; simp)
            have htl : (bitsOf t).length = m := by have := wo_bits hl32 hpm; rw [ht, HM.out] at this; omega
            have HALL := Lib.hid (show nthS c.G.be (bitsOf left).length left kq = p :: nthS c.G.be (bitsOf t).length t kc from by
              obtain ⟨rest, hrest⟩ := hpx
              rw [HNT.out, ← hrest, List.append_assoc, List.singleton_append, nthTo_skip _ _ _ h1, nthTo_here h2, ht, hkc, htl])
            rw [ht, hkc] at hLX h2
            have HLX := Lib.hid hLX
            have HMK := Lib.hid hmk
            have HVD := Lib.hid (show v'.ownBlock ≠ some D from fun e => h4 D e (.inr (.inl rfl)))
            have H2 := Lib.hid h2
            have HTL := Lib.hid htl
            clear hLX h1 h2 h4 hpx e hmk hI hpm ht hkc htl
            gi_wp2
            have hL9 := HLX.out
            have hDV := (Array.getElem?_eq_some_iff.1 HMK.out).1
            have hDB := HDB.out
            first | (refine ⟨⟨t, kc, x ++ [p], v', D :: Ds, ⟨⟨hL9.nw, hL9.gr, hL9.cs, hL9.cv, hL9.lf, hL9.kf, hL9.fr, hL9.ow, hL9.l24, List.nodup_cons.2 ⟨fun h => by have := HDD.out D h; omega, hL9.nd⟩, fun D' hD' => ?_⟩, ?_, ?_, ?_, ?_⟩, rfl⟩, ?_⟩) | (refine ⟨⟨t, kc, x ++ [p], v', D :: Ds, _, _, _, _, _, _, _, _, _, _, _, _, _, _, _, _, _, _, _, _, _, _, _, _, _, _, _, _, _, _, _, _, _, _, _, _, _, _, ⟨⟨hL9.nw, hL9.gr, hL9.cs, hL9.cv, hL9.lf, hL9.kf, hL9.fr, hL9.ow, hL9.l24, List.nodup_cons.2 ⟨fun h => by have := HDD.out D h; omega, hL9.nd⟩, fun D' hD' => ?_⟩, ?_, ?_, ?_, ?_⟩, rfl⟩, ?_⟩)
            · rcases List.mem_cons.1 hD' with e | hD'
              · rw [e]; exact ⟨HMK.out, hDB, HVD.out⟩
              · exact hL9.mks D' hD'
            · rw [HTOT.out, HALL.out, List.append_assoc]; rfl
            · show kc < cntS c.G.be (bitsOf t).length t
              rw [HTL.out]; exact H2.out
            · have := HM12.out; rw [HTL.out]; omega
            · have h1 := HLEN.out; have h2 := HM.out; have h3 := HTL.out; simp; omega
            · show (bitsOf (intOf ((V.cell? ⟨b9, 0, none⟩).getD undef)).toNat).length < (bitsOf (intOf ((wr.cell? ⟨b9, 0, none⟩).getD undef)).toNat).length
              rw [(box_cell hL9.lf).1, (box_cell HL.out.lf).1]
              show (bitsOf (Int.toNat (t : Int))).length < (bitsOf (Int.toNat (left : Int))).length
              rw [Int.toNat_natCast, Int.toNat_natCast, HTL.out, HM.out]; omega
end Go.Proofs.YtiejefehcpfkaaaDoor
