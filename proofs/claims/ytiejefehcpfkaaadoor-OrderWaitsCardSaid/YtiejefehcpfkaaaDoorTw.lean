/- The first of the greatest free sets, as Free returns it. Graphs of at most 24 places. -/
import Derived.Test.YtiejefehcpfkaaaDoorTv
set_option linter.unusedSimpArgs false
set_option linter.unusedVariables false
set_option maxRecDepth 100000
namespace Go.Proofs.YtiejefehcpfkaaaDoor
open Go.RowKit Go.Shelf

attribute [local go_sem] Oper.semAt_some

theorem uncN_le (re : Nat → Nat) (p s : Nat) : uncN re p s ≤ s := unTo_le re p s _
/-- what is left to choose from behind a place -/
def resN (re : Nat → Nat) (s p : Nat) : Nat := uncN re p (wo s (fst (p + 1)))
theorem resN_le (re : Nat → Nat) (s p : Nat) : resN re s p ≤ s := Nat.le_trans (uncN_le _ _ _) (wo_le _ _)
/-- the places chosen, w at most -/
def frN (re : Nat → Nat) : Nat → Nat → List Nat
  | 0, _ => []
  | w + 1, s => match (bitsOf s).find? fun p => widN re (resN re s p) == w with
    | some p => p :: frN re w (resN re s p)
    | none => frN re w s
def freeO (G : Gph) : List Nat := frN G.re (widN G.re (fst G.n)) (fst G.n)
theorem find_none {f : Nat → Bool} : ∀ {l : List Nat}, (∀ p ∈ l, f p = false) → l.find? f = none
  | [], _ => rfl
  | p :: l, h => by rw [List.find?_cons_of_neg (by rw [h p (by simp)]; simp)]; exact find_none fun q hq => h q (by simp [hq])
theorem find_at {f : Nat → Bool} : ∀ {l : List Nat} {p : Nat} {r : List Nat}, (∀ q ∈ l, f q = false) → f p = true → (l ++ p :: r).find? f = some p
  | [], p, r, _, hp => by simp [hp]
  | q :: l, p, r, h, hp => by rw [List.cons_append, List.find?_cons_of_neg (by rw [h q (by simp)]; simp)]; exact find_at (fun x hx => h x (by simp [hx])) hp
theorem wpListIn_store_row {F : Fence} {n : Nat} {P : Program} {ops : Array Oper} {rest : List Oper} {o : Oper} {a : Act} {w : World} {Q : Exit → Act → World → Prop} (hgd : o.guard = none) (ty : TypeId) (x y : Operand) (ho : o.op = .store ty x y)
    (g : Nat) (cells : Array Value) (hx : a.eval x = .pointer (some ⟨g, 0, none⟩)) (hy : a.eval y = .agg cells)
    (t : TypeId) (old : Array Value) (hg : w.heap[g]? = some (.cells old t (0, 0))) (hi : (P.info? ty).map (·.size) = some cells.size)
    (hold : old.size = cells.size) (h1 : cells.all (·.oneCell') = true)
    (h : wpListIn F n P ops Q rest (a.put o.dst undef) (w.setRow g cells)) : wpListIn F n P ops Q (o :: rest) a w := by
  refine wpListIn_plain hgd fun K hK => ?_
  unfold Oper.wpIn
  refine ⟨by simp [Oper.about, ho], ?_⟩
  rw [Oper.semAt_plain F _ _ (by rw [ho]; intro c hc'; cases hc')]
  simp only [execOp, ho, hx, hy, Instr.storeAt, Instr.sureAddr, Sem.run_bind, Sem.run_pure, Result.andThen_ok, run_storeVar_row w g t ty old cells hg hi hold h1]
  exact hK _ _ h
theorem wpListIn_store_graph {F : Fence} {n : Nat} {ops : Array Oper} {rest : List Oper} {o : Oper} {a : Act} {w : World} {Q : Exit → Act → World → Prop} (hgd : o.guard = none) (x y : Operand) (ho : o.op = .store 83 x y) {G : Gph} (hx : a.eval x = .pointer (some ⟨w.heap.size, 0, none⟩)) (hy : a.eval y = .agg G.cells.toArray) (hok : G.ok)
    (h : ∀ w', New w w' → Gr w' w.heap.size G → wpListIn F n Tryd.prog ops Q rest (a.put o.dst undef) w') : wpListIn F n Tryd.prog ops Q (o :: rest) a (w.alloc (.cells Tryd.zeroCells83 83)) := by
  obtain ⟨h1, h2⟩ := made_graph (w := w) G.cells.toArray G Tryd.zeroCells83 rfl
  exact wpListIn_store_row hgd _ x y ho w.heap.size _ hx hy _ _ (World.alloc_heap_new w _) (graph_sizeG _) (by rw [zc_graph]; simp [Gph.len]) (Gph.all hok) (h _ h1 h2)
theorem wpListIn_get_graph {F : Fence} {n : Nat} {ops : Array Oper} {rest : List Oper} {o : Oper} {a : Act} {w : World} {Q : Exit → Act → World → Prop} (hgd : o.guard = none) (x : Operand) (ho : o.op = .load 83 x) {G : Gph} (g : Nat) (hx : a.eval x = .pointer (some ⟨g, 0, none⟩)) (hg : Gr w g G)
    (h : wpListIn F n Tryd.prog ops Q rest (a.put o.dst (.agg G.cells.toArray)) w) : wpListIn F n Tryd.prog ops Q (o :: rest) a w :=
  wpListIn_load_run hgd _ x ho (by rw [hx]; exact hg.get) h
def frM (a : Act) (w : World) : Nat := match a.tmps.getD 8 undef with
  | .pointer (some q) => (intOf ((w.cell? q).getD undef)).toNat
  | _ => 0
/-- what stands in memory in Free's loop -/
structure FrL (w : World) (g fb lb B : Nat) (G : Gph) (x : List Nat) (left : Nat) (v : Value) (Ds : List Nat) (wr : World) : Prop where
  nw : New w wr
  gr : Gr wr g G
  fr : wr.heap[fb]? = some (.cells #[v] 31 (0, 0))
  ow : wr.ownsRow B 3 1 v x.length (natCells x)
  lf : wr.heap[lb]? = some (.cells #[sv left] 79 (0, 0))
  l24 : left < 2 ^ 24
  nd : Ds.Nodup
  mks : ∀ D ∈ Ds, wr.heap[D]? = some (.deferred (some [])) ∧ B ≤ D ∧ v.ownBlock ≠ some D
structure FrB (w : World) (g fb lb B : Nat) : Prop where
  h1 : w.heap.size ≤ g ∧ w.heap.size ≤ fb ∧ w.heap.size ≤ lb
  h2 : g < B ∧ fb < B ∧ lb < B
  h3 : g ≠ fb ∧ g ≠ lb ∧ fb ≠ lb

theorem FrL.mod {w : World} {g fb lb B : Nat} {G : Gph} {x : List Nat} {left : Nat} {v : Value} {Ds : List Nat} {V V' : World} {O : Nat → Prop} (h : FrL w g fb lb B G x left v Ds V) (hm : Mod O V V') (hw : ∀ q, O q → w.heap.size ≤ q) (h1 : ¬ O g ∧ ¬ O fb ∧ ¬ O lb) (h2 : ∀ D ∈ Ds, ¬ O D) (h3 : ∀ b, v.ownBlock = some b → ¬ O b) : FrL w g fb lb B G x left v Ds V' := by
  have key : ∀ k o, ¬ O k → V.heap[k]? = some o → V'.heap[k]? = some o := fun k o hk e => (hm.2 k (Array.getElem?_eq_some_iff.1 e).1 hk).trans e
  exact ⟨Mod.new h.nw hm hw, key _ _ h1.1 h.gr, key _ _ h1.2.1 h.fr, own_keep h.ow (fun b hb => hm.2 b (h.ow.lt b hb).2 (h3 b hb)), key _ _ h1.2.2 h.lf, h.l24, h.nd, fun D hD => ⟨key _ _ (h2 D hD) (h.mks D hD).1, (h.mks D hD).2⟩⟩
theorem FrL.new {w : World} {g fb lb B : Nat} {G : Gph} {x : List Nat} {left : Nat} {v : Value} {Ds : List Nat} {V V' : World} (h : FrL w g fb lb B G x left v Ds V) (hn : New V V') : FrL w g fb lb B G x left v Ds V' :=
  h.mod (O := fun _ => False) (Mod.of_new hn) (fun _ h => h.elim) ⟨id, id, id⟩ (fun _ _ => id) (fun _ _ => id)
/-- .. between two rounds of the loop over the places that are left -/
structure FrI (w : World) (g fb lb B wb : Nat) (G : Gph) (x : List Nat) (left : Nat) (v : Value) (Ds : List Nat) (k D : Nat) (O : Nat → Prop) (done : List Nat) (pc : Option Code) (V : World) : Prop where
  hi : ∀ q, O q → D ≤ q
  sz : D ≤ V.heap.size
  wx : V.heap[wb]? = some (.cells #[.int .i64 ((k : Int) + 1)] 3 (0, 0))
  tb : Tab V
  st : (pc = none ∧ FrL w g fb lb B G x left v Ds V ∧ ∀ p ∈ done, (widN G.re (resN G.re left p) == k) = false) ∨
    (pc = some (.exit 2) ∧ ∃ p d0 v', done = d0 ++ [p] ∧ (∀ q ∈ d0, (widN G.re (resN G.re left q) == k) = false) ∧ (widN G.re (resN G.re left p) == k) = true ∧ FrL w g fb lb B G (x ++ [p]) (resN G.re left p) v' Ds V ∧ ∀ b, v'.ownBlock = some b → ¬ O b ∧ b ≠ wb)
theorem FrI.stable {w : World} {g fb lb B wb : Nat} {G : Gph} {x : List Nat} {left : Nat} {v : Value} {Ds : List Nat} {k D : Nat} {O O' : Nat → Prop} {done : List Nat} {pc : Option Code} {V V' : World} (h : FrI w g fb lb B wb G x left v Ds k D O done pc V)
    (hD : w.heap.size ≤ D ∧ g < D ∧ fb < D ∧ lb < D ∧ wb < D) (hT : 0 < D) (hDs : ∀ q ∈ Ds, q < D) (hv : ∀ b, v.ownBlock = some b → b < D) (hm : Mod O V V') (ho : ∀ q, O' q → O q ∨ V.heap.size ≤ q) : FrI w g fb lb B wb G x left v Ds k D O' done pc V' := by
  have hno : ∀ q, q < D → ¬ O q := fun q hq h' => by have := h.hi q h'; omega
  have hwO : ∀ q, O q → w.heap.size ≤ q := fun q hq => Nat.le_trans hD.1 (h.hi q hq)
  refine ⟨fun q hq => (ho q hq).elim (h.hi q) (fun h' => Nat.le_trans h.sz h'), Nat.le_trans h.sz hm.size, (hm.2 wb (Array.getElem?_eq_some_iff.1 h.wx).1 (hno _ hD.2.2.2.2)).trans h.wx, h.tb.keep (Keep.of_mod (O' := tabE) hm fun q hq h' => by have := h.hi q h'; unfold tabE at hq; omega) rfl, ?_⟩
  rcases h.st with ⟨e, h1, h2⟩ | ⟨e, p, d0, v', e2, h1, h2, h3, h4⟩
  · exact .inl ⟨e, h1.mod hm hwO ⟨hno _ hD.2.1, hno _ hD.2.2.1, hno _ hD.2.2.2.1⟩ (fun D' hD' => hno _ (hDs D' hD')) (fun b hb => hno _ (hv b hb)), h2⟩
  · exact .inr ⟨e, p, d0, v', e2, h1, h2, h3.mod hm hwO ⟨hno _ hD.2.1, hno _ hD.2.2.1, hno _ hD.2.2.2.1⟩ (fun D' hD' => hno _ (hDs D' hD')) (fun b hb => (h4 b hb).1), fun b hb => ⟨fun h' => (ho b h').elim (h4 b hb).1 (fun h'' => by have := (h3.ow.lt b hb).2; omega), (h4 b hb).2⟩⟩

set_option maxHeartbeats 16000000 in
theorem Free_good {w : World} {v : Value} {o : Prb} {av nv : Value} (h : PrbA w v o av nv) (hT : Tab w) (hc : ordI o av nv = 0) :
    Calls Tryd.prog 48 #[v] w fun en w' => ∃ u, en = .returned (.tuple #[u, .int .i64 0]) ∧ New w w' ∧ w'.ownsRow w.heap.size 3 1 u (freeO (opG o av nv)).length (natCells (freeO (opG o av nv))) := by
  have HO := Lib.hid (fun (w1 : World) (hn : New w w1) => (callsIn_wide (n := 4)).2 (openOrdered_c (h.new hn)))
  have hOK := opR_ok h.sh
  have hv := h.eq
  obtain ⟨x1, x2, x3, x4, e1, e2⟩ := h.sh
  clear h
  have hk := (ordI_good hc).1
  rw [opR_good hk] at hOK
  rw [hc, opR_good hk] at HO
  have HOK := Lib.hid hOK
  have HT := Lib.hid hT
  clear hT hk hc
  generalize opG o av nv = RG at *
  obtain ⟨FO, hFO⟩ : ∃ FO, freeO RG = FO := ⟨_, rfl⟩
  have HFO := Lib.hid hFO
  rw [hFO]
  have HAL := Lib.hid (fun (w1 : World) => (callsIn_wide (n := 4)).2 (all_c RG w1 hOK))
  have HWD := Lib.hid (fun (s : Nat) (w1 : World) (hs : s < 2 ^ 24) (hn : New w w1) => width_c RG s w1 hOK hs (HT.out.new hn))
  have HA24 := Lib.hid (fst24 hOK.n24)
  clear hOK hFO
  obtain ⟨AL, hAL⟩ : ∃ AL, fst RG.n = AL := ⟨_, rfl⟩
  rw [hAL] at HAL HA24
  have HALE := Lib.hid hAL
  have HT0 := HT.out.1
  clear hAL
  subst hv
  subst e1 e2
  obtain ⟨H, hH⟩ : ∃ H, w.heap.size = H := ⟨_, rfl⟩
  have HH := Lib.hid hH
  refine (callsIn_wide (n := 5)).1 ?_
  refine callsIn_of_wp_marks Tryd.func48 rfl trivial ?_ rfl
  simp only [Tryd.ntmps48, List.size_toArray, List.length_cons, List.length_nil, Nat.reduceAdd, Nat.reduceSub, Array.replicate_succ, Array.replicate_zero, List.push_toArray, List.append_toArray, List.nil_append, List.cons_append]
  gi_wp2
  refine ⟨trivial, ?_⟩
  gi_at_call 84
  refine (HO.out _ ((New.refl _).alloc _)).mono ?_
  rintro e w6 ⟨rfl, n6⟩
  have HN := Lib.hid (((New.refl w).alloc _).trans n6)
  clear n6
  gi_wp2_with (first | (refine wpListIn_store_graph rfl (.tmp 4) (.tmp 14) rfl rfl rfl HOK.out ?_; intro w7 n7 g7; obtain ⟨g, hg⟩ : ∃ g, w6.heap.size = g := ⟨_, rfl⟩; simp only [hg] at g7 ⊢; have N7 := Lib.hid (HN.out.trans n7); have G7 := Lib.hid g7; have HGg := Lib.hid hg; have G7a := Lib.hid (g7.new ((New.refl w7).alloc (.cells #[.slice none 0 0] 31))); obtain ⟨fb, hfb⟩ : ∃ fb, w7.heap.size = fb := ⟨_, rfl⟩; clear n7 g7) | (refine wpListIn_get_graph rfl (.tmp 4) rfl g rfl G7a.out ?_))
  refine ⟨trivial, ?_⟩
  gi_at_call 98
  refine (HAL.out _).mono ?_
  rintro e w8 ⟨rfl, n8⟩
  have HFB := Lib.hid hfb
  have hf8 := row_new (show (w7.alloc (.cells #[.slice none 0 0] 31)).heap[fb]? = _ from by rw [← hfb]; exact World.alloc_heap_new w7 _) n8
  have HF8 := Lib.hid hf8
  have G8 := Lib.hid (G7a.out.new n8)
  have N8 := Lib.hid (((New.refl w7).alloc _).trans n8)
  obtain ⟨lb, hlb⟩ : ∃ lb, w8.heap.size = lb := ⟨_, rfl⟩
  have hn9 : New w8 (w8.alloc (.cells #[sv AL] 79)) := (New.refl w8).alloc _
  have hl9 : (w8.alloc (.cells #[sv AL] 79)).heap[lb]? = some (.cells #[sv AL] 79 (0, 0)) := by rw [← hlb]; exact World.alloc_heap_new w8 _
  have e9 := (box_cell hl9).1
  have HL9 := Lib.hid hl9
  have G9 := Lib.hid (G8.out.new hn9)
  have HLB := Lib.hid hlb
  clear n8 hf8 hn9 hl9 hfb
  gi_wp2_with (refine wpListIn_get_graph rfl (.tmp 4) rfl g rfl G9.out ?_)
  refine ⟨trivial, ?_⟩
  gi_at_call 103
  refine ((callsIn_wide (n := 4)).2 (HWD.out AL _ HA24.out (N7.out.trans (N8.out.trans ((New.refl w8).alloc _))))).mono ?_
  rintro e w10 ⟨rfl, n10⟩
  obtain ⟨k0, hk0⟩ : ∃ k0, widN RG.re AL = k0 := ⟨_, rfl⟩
  simp only [hk0]
  have HK0 := Lib.hid hk0
  have N10 := Lib.hid n10
  clear n10 e9 hk0
  gi_wp2
  obtain ⟨wb0, hwb0⟩ : ∃ wb0, w10.heap.size = wb0 := ⟨_, rfl⟩
  have HSz := Lib.hid (show H ≤ g ∧ g < fb ∧ fb < lb ∧ lb < wb0 from by
    have h1 := HN.out.size
    have h2 := (G7.out).lt
    have h3 := (Array.getElem?_eq_some_iff.1 HF8.out).1
    have h4 := N10.out.size
    have h5 := HFB.out; have h6 := HLB.out; have h7 := HGg.out; have h8 := HH.out
    rw [World.size_alloc] at h4
    omega)
  have HFB0 := Lib.hid (show FrL w g fb lb (lb + 1) RG [] AL (.slice none 0 0) [] (w10.alloc (.cells #[.int .i64 (k0 : Int)] 3)) from by
    have hn := ((New.refl w8).alloc (.cells #[sv AL] 79)).trans (N10.out.trans ((New.refl w10).alloc (.cells #[.int .i64 (k0 : Int)] 3)))
    have hn2 := N10.out.trans ((New.refl w10).alloc (.cells #[.int .i64 (k0 : Int)] 3))
    exact ⟨N7.out.trans (N8.out.trans hn), G8.out.new hn, row_new HF8.out hn, World.ownsRow_nil _ _ _ _, row_new HL9.out hn2, HA24.out, List.nodup_nil, fun D hD => by cases hD⟩)
  have HWX0 := Lib.hid (show (w10.alloc (.cells #[.int .i64 (k0 : Int)] 3)).heap[wb0]? = some (.cells #[.int .i64 (k0 : Int)] 3 (0, 0)) from by rw [← hwb0]; exact World.alloc_heap_new w10 _)
  have HTOT := Lib.hid (show FO = [] ++ frN RG.re k0 AL from by rw [← HFO.out, List.nil_append]; unfold freeO; rw [HALE.out, HK0.out])
  have HK24 := Lib.hid (show k0 ≤ 32 from by rw [← HK0.out]; unfold widN bitsOf; exact Nat.le_trans (List.length_filter_le _ _) (by simp))
  simp only [hwb0]
  obtain ⟨W0, hW0⟩ : ∃ W0, w10.alloc (.cells #[.int .i64 (k0 : Int)] 3) = W0 := ⟨_, rfl⟩
  simp only [hW0] at HFB0 HWX0 ⊢
  clear hW0
  refine wpIn_loop (fun a' w' => ∃ (k left wb : Nat) (x : List Nat) (v : Value) (Ds : List Nat) (u9 u10 u24 u25 u26 u27 u28 u29 u30 u31 u32 u33 u34 u35 u36 u37 u38 u39 u40 u41 u42 u43 u44 u45 u46 u47 u48 u49 u50 u51 : Value), (FrL w g fb lb (lb + 1) RG x left v Ds w' ∧ w'.heap[wb]? = some (.cells #[.int .i64 (k : Int)] 3 (0, 0)) ∧ lb < wb ∧ wb ∉ Ds ∧ v.ownBlock ≠ some wb ∧ FO = x ++ frN RG.re k left ∧ x.length + k ≤ 1000) ∧ a' = { tmps := #[.agg #[.int .i64 o.n, .slice x1 o.A.length x2, .slice x3 o.B.length x4], .pointer (some ⟨H, 0, none⟩), .slice none 0 0, .int .i64 0, .pointer (some ⟨g, 0, none⟩), .int .i64 0, .pointer (some ⟨fb, 0, none⟩), .pointer (some ⟨lb, 0, none⟩), .pointer (some ⟨wb, 0, none⟩), u9, u10, .tuple #[.agg RG.cells.toArray, .int .i64 0], .agg #[.int .i64 o.n, .slice x1 o.A.length x2, .slice x3 o.B.length x4], .tuple #[.agg RG.cells.toArray, .int .i64 0], .agg RG.cells.toArray, .int .i64 0, .int .i64 0, .bool false, undef, .agg RG.cells.toArray, sv AL, .agg RG.cells.toArray, sv AL, .int .i64 (k0 : Int), u24, u25, u26, u27, u28, u29, u30, u31, u32, u33, u34, u35, u36, u37, u38, u39, u40, u41, u42, u43, u44, u45, u46, u47, u48, u49, u50, u51], defers := marks Ds }) frM ?_ ?_
  · exact ⟨k0, AL, wb0, [], .slice none 0 0, [], _, _, _, _, _, _, _, _, _, _, _, _, _, _, _, _, _, _, _, _, _, _, _, _, _, _, _, _, _, _, ⟨HFB0.out, HWX0.out, HSz.out.2.2.2, by simp, by simp [Value.ownBlock], HTOT.out, by have := HK24.out; simp; omega⟩, rfl⟩
  · rintro a' wr ⟨k, left, wb, x, v, Ds, u9, u10, u24, u25, u26, u27, u28, u29, u30, u31, u32, u33, u34, u35, u36, u37, u38, u39, u40, u41, u42, u43, u44, u45, u46, u47, u48, u49, u50, u51, ⟨hL, hwx, hlw, hwD, hvw, htot, hlen⟩, rfl⟩
    have HL := Lib.hid hL
    have HWX := Lib.hid hwx
    have HTOT := Lib.hid htot
    have HLW := Lib.hid hlw
    have HWDs := Lib.hid hwD
    have HVW := Lib.hid hvw
    have HLEN := Lib.hid hlen
    have c8 := (box_cell hwx).1
    clear hL hwx htot hlw hwD hvw hlen
    dsimp only
    cases k with
    | zero =>
      have c6 := (box_cell HL.out.fr).1
      have HE := Lib.hid (show FO = x from by have := HTOT.out; unfold frN at this; simpa using this)
      gi_wp2
      refine leaves_marks Ds _ HL.out.nd (fun q hq => (HL.out.mks q hq).1) (fun W9 hm => ?_)
      refine ⟨_, results_tmp2 rfl _ _ _, ?_⟩
      have hS := HSz.out; have hHH := HH.out
      have hL9 := own_keep HL.out.ow (fun b hb => hm.2 b (HL.out.ow.lt b hb).2 (fun h => (HL.out.mks b h).2.2 hb))
      refine ⟨_, rfl, Mod.new HL.out.nw hm (fun q hq => by have := (HL.out.mks q hq).2.1; omega), ?_⟩
      rw [HE.out]
      exact own_base hL9 (by omega)
    | succ k =>
      obtain ⟨av', cv', rfl⟩ := own_slice HL.out.ow
      obtain ⟨i0, hi, hz0, hz1, hz2⟩ := info_parts int_infoO
      have hk1 : (0 : Int) < (k : Int) + 1 := by omega
      have hkb : k ≤ 1000 := by have := HLEN.out; omega
      rw [show ((k + 1 : Nat) : Int) = (k : Int) + 1 from by omega] at c8
      have HWX1 := Lib.hid (show wr.heap[wb]? = some (.cells #[.int .i64 ((k : Int) + 1)] 3 (0, 0)) from by have := HWX.out; rw [show ((k + 1 : Nat) : Int) = (k : Int) + 1 from by omega] at this; exact this)
      have c7 := (box_cell HL.out.lf).1
      have hl24 := HL.out.l24
      have hl32 : left < 4294967296 := by omega
      have HPC := Lib.hid (fun (w1 : World) => (callsIn_wide (n := 4)).2 (patches_c left w1))
      gi_wp2
      refine ⟨trivial, ?_⟩
      gi_at_call 89
      refine (HPC.out _).mono ?_
      rintro e w3 ⟨rfl, rfl⟩
      clear c7 c8
      gi_wp2
      obtain ⟨WQ, HWQ⟩ : ∃ WQ : World, Hid (WQ = wr.alloc (.cells #[sv left] 79)) := ⟨_, Lib.hid rfl⟩
      rw [← HWQ.out]
      obtain ⟨qs, qz⟩ : WQ.heap[wr.heap.size]? = some (.cells #[sv left] 79 (0, 0)) ∧ WQ.heap.size = wr.heap.size + 1 := by rw [HWQ.out]; exact ⟨World.alloc_heap_new wr _, by simp⟩
      have hnQ : New wr WQ := by rw [HWQ.out]; exact (New.refl wr).alloc _
      obtain ⟨D, hD⟩ : ∃ D, WQ.heap.size = D := ⟨_, rfl⟩
      have HDB := Lib.hid (show w.heap.size ≤ D ∧ g < D ∧ fb < D ∧ lb < D ∧ wb < D from by
        have h1 := HSz.out; have h2 := HH.out
        have h3 := (Array.getElem?_eq_some_iff.1 HWX1.out).1
        have h4 := HLW.out
        omega)
      have HDT := Lib.hid (show 0 < D from by have := HT.out.1; have := HDB.out.1; omega)
      have HDD := Lib.hid (show ∀ q ∈ Ds, q < D from fun q hq => by have := (Array.getElem?_eq_some_iff.1 (HL.out.mks q hq).1).1; omega)
      have HDV := Lib.hid (show ∀ b, (Value.slice av' x.length cv').ownBlock = some b → b < D from fun b hb => by have := (HL.out.ow.lt b hb).2; omega)
      have HI0 := Lib.hid (show FrI w g fb lb (lb + 1) wb RG x left (.slice av' x.length cv') Ds k D (plus D fun _ => False) [] none WQ from by
        refine ⟨fun q hq => ?_, by omega, row_new HWX1.out hnQ, HT.out.new (HL.out.nw.trans hnQ), .inl ⟨rfl, HL.out.new hnQ, fun p hp => by cases hp⟩⟩
        rcases hq with hq | hq | hq
        · cases hq
        · omega
        · omega)
      have HTQ := Lib.hid HI0.out.tb
      have hsb : wr.heap.size < WQ.heap.size := by omega
      have HST := Lib.hid (show ∀ P P' ps pc V V', FrI w g fb lb (lb + 1) wb RG x left (.slice av' x.length cv') Ds k D P ps pc V → Mod P V V' → (∀ q, P' q → P q ∨ V.heap.size ≤ q) → FrI w g fb lb (lb + 1) wb RG x left (.slice av' x.length cv') Ds k D P' ps pc V' from fun P P' ps pc V V' h hm ho => h.stable HDB.out HDT.out HDD.out HDV.out hm ho)
      clear hnQ
      refine range_gen (n := 5) (by omega) rfl (enters_of Tryd.func140 (by kernel_rfl) rfl) (Elem := ElemP) (xs := bitsOf left) (E := tabE)
        (fun W1 hn1 _ => patches_it left wr.heap.size hl32 W1 ((hn1.below.block _ hsb).trans qs) (HTQ.out.new hn1)) (fun q hq => by have := HDT.out; unfold tabE at hq; omega) (by rintro x args O W rfl; rfl)
        (FrI w g fb lb (lb + 1) wb RG x left (.slice av' x.length cv') Ds k D) (fun P P' ps pc V V' h hm ho => HST.out P P' ps pc V V' h hm ho) ?h0 ?hbody ?hdone ?hstop
      case h0 => rw [hD]; exact HI0.out
      case hbody =>
        rw [hD]
        rintro m O9 ps p args V hI rfl hpx hD1 hD0 ⟨r, hr⟩ hbnd
        have HI := Lib.hid hI
        have HBN := Lib.hid hbnd
        have hdl := (Array.getElem?_eq_some_iff.1 hr).1
        have HDL := Lib.hid hdl
        have hpm : p ∈ bitsOf left := by obtain ⟨rest, hrest⟩ := hpx; rw [← hrest]; simp
        have hp24 := low24 hl24 hpm
        have hp24' : (p : Int) < 24 := by omega
        have HWP := Lib.hid (IntWalk.i64_in ((p : Int) + 1) (by omega))
        have HWK := Lib.hid (IntWalk.i64_in (k : Int) (by omega))
        clear hI hD1 hD0 hr hbnd hdl hpx qs qz hsb
        gi_wp2
        refine ⟨Keep.refl _ _, ?_⟩
        intro V2 hb2 hs2 ho2 hr2
        have HSV := Lib.hid (show V.heap.size ≤ V2.heap.size from hb2.size)
        have HI2 := Lib.hid (HST.out (plus D O9) (plus D O9) ps none V V2 HI.out ⟨hb2, fun q hq h' => ho2 q (fun e => h' (.inr (.inr e)))⟩ (fun q hq => .inl hq))
        clear hb2 hs2 ho2 hr2
        rcases HI2.out.st with ⟨_, hL2, hps⟩ | ⟨e, _⟩
        case inr => cases e
        have HL2 := Lib.hid hL2
        have HPS := Lib.hid hps
        have HG2 := Lib.hid hL2.gr
        have HF2 := Lib.hid hL2.lf
        have HW2 := Lib.hid HI2.out.wx
        have HNW2 := Lib.hid hL2.nw
        have hS : Gr V2 g RG ∧ V2.cell? ⟨lb, 0, none⟩ = some (sv left) := ⟨hL2.gr, (box_cell hL2.lf).1⟩
        obtain ⟨F1, hF1⟩ : ∃ F1, fst (p + 1) = F1 := ⟨_, rfl⟩
        obtain ⟨R, hR⟩ : ∃ R, resN RG.re left p = R := ⟨_, rfl⟩
        have HFP := Lib.hid (show ∀ w1, Calls Tryd.prog 102 #[.int .i64 ((p : Int) + 1)] w1 fun e w' => e = .returned (sv F1) ∧ New w1 w' from fun w1 => by
          have := firstPatches_c (p + 1) w1 (by omega)
          rw [hF1, show ((p + 1 : Nat) : Int) = (p : Int) + 1 from by omega] at this
          exact this)
        have hF32 : F1 < 4294967296 := by rw [← hF1]; have := fst24 (n := p + 1) (by omega); omega
        have HWO := Lib.hid (fun (w1 : World) => without_c left F1 w1 hl32 hF32)
        have HUN := Lib.hid (show ∀ w1, New w w1 → Calls Tryd.prog 104 #[.agg RG.cells.toArray, .int .i64 (p : Int), sv (wo left F1)] w1 fun e w' => e = .returned (sv R) ∧ New w1 w' from fun w1 hn => by
          have := unconnected_c RG p (wo left F1) w1 HOK.out hp24 (Nat.lt_of_le_of_lt (wo_le _ _) hl24) (HT.out.new hn)
          rw [← hF1] at this ⊢
          rw [← hR]; exact this)
        have hR24 : R < 2 ^ 24 := by rw [← hR]; exact Nat.lt_of_le_of_lt (resN_le _ _ _) hl24
        obtain ⟨wd, hwd⟩ : ∃ wd, widN RG.re R = wd := ⟨_, rfl⟩
        have HWI := Lib.hid (show ∀ w1, New w w1 → Calls Tryd.prog 103 #[.agg RG.cells.toArray, sv R] w1 fun e w' => e = .returned (.int .i64 (wd : Int)) ∧ New w1 w' from fun w1 hn => by
          have := HWD.out R w1 hR24 hn
          rw [hwd] at this; exact this)
        have HRE := Lib.hid (show widN RG.re (resN RG.re left p) = wd from by rw [hR]; exact hwd)
        have HRR := Lib.hid hR
        have HR24 := Lib.hid hR24
        have HLT := Lib.hid (show lb < V2.heap.size ∧ wb < V2.heap.size from ⟨(Array.getElem?_eq_some_iff.1 hL2.lf).1, (Array.getElem?_eq_some_iff.1 HI2.out.wx).1⟩)
        clear hL2 hps hF1 hR hwd hF32 hR24 hpm
        gi_wp2
        apply region_act (fun w' => Gr w' g RG ∧ w'.cell? ⟨lb, 0, none⟩ = some (sv left)) (fun w' => New V2 w') (by kernel_rfl) (by kernel_rfl) hS
        case h =>
          intro hHeld
          refine wpAnyH_take (i := 0) rfl (by kernel_rfl) (by kernel_rfl) (by kernel_rfl) (fun _ _ _ h => h) (yieldsIf_load_mid (by rfl) 83 (.tmp 4) rfl g 0 rfl RG.cells _ (fun w hw => hw.1.whole) Tryd.underlying83 rfl (by rw [Gph.len]; exact graph_size)) (by assumption) ?_
          (try simp only [Act.put, List.setIfInBounds_toArray, List.set_cons_zero, List.set_cons_succ])
          refine wpAnyH_take (i := 1) (oi := { dst := some 32, op := _, type := _, pos := _, after := _, guard := _ }) (v := ?_) rfl (by kernel_rfl) (by kernel_rfl) (by kernel_rfl) (fun _ _ _ h => h) (Or.inl ⟨by rfl, (by intro w hSw; (try dsimp only at hSw); obtain ⟨hSa, hSb⟩ := hSw; go_simp; try with_reducible rfl)⟩) (by assumption) ?_
          (try simp only [Act.put, List.setIfInBounds_toArray, List.set_cons_zero, List.set_cons_succ])
          refine wpAnyH_take (i := 2) (oi := { dst := some 33, op := _, type := _, pos := _, after := _, guard := _ }) (v := ?_) rfl (by kernel_rfl) (by kernel_rfl) (by kernel_rfl) (fun _ _ _ h => h) (Or.inl ⟨by rfl, (by intro w hSw; (try dsimp only at hSw); obtain ⟨hSa, hSb⟩ := hSw; go_simp; try with_reducible rfl)⟩) (by assumption) ?_
          (try simp only [Act.put, List.setIfInBounds_toArray, List.set_cons_zero, List.set_cons_succ])
          refine wpAnyH_take (i := 3) (oi := { dst := some 34, op := _, type := _, pos := _, after := _, guard := _ }) (v := ?_) rfl (by kernel_rfl) (by kernel_rfl) (by kernel_rfl) (fun _ _ _ h => h) (Or.inl ⟨by rfl, (by intro w hSw; (try dsimp only at hSw); obtain ⟨hSa, hSb⟩ := hSw; go_simp; try with_reducible rfl)⟩) (by assumption) ?_
          (try simp only [Act.put, List.setIfInBounds_toArray, List.set_cons_zero, List.set_cons_succ])
          refine wpAnyH_take (i := 4) (oi := { dst := some 35, op := _, type := _, pos := _, after := _, guard := _ }) (v := ?_) rfl (by kernel_rfl) (by kernel_rfl) (by kernel_rfl) (fun _ _ _ h => h) (Or.inl ⟨by rfl, (by intro w hSw; (try dsimp only at hSw); obtain ⟨hSa, hSb⟩ := hSw; go_simp; try with_reducible rfl)⟩) (by assumption) ?_
          (try simp only [Act.put, List.setIfInBounds_toArray, List.set_cons_zero, List.set_cons_succ])
          refine wpAnyH_ready (rs := [5]) (by kernel_rfl) (by simp) ?_
          refine AllReadyH.cons rfl (fun K hK => ?_) AllReadyH.nil
          go_simp
          (try simp only [HWP.out])
          go_at_call 102
          refine (HFP.out _).mono ?_
          rintro e w6 ⟨rfl, n6⟩
          have N6 := Lib.hid (show New V2 w6 from (New.refl V2).drew.trans n6)
          clear n6
          refine hK.out _ _ ?_ (fun hHeld => ?_)
          · exact ⟨HG2.out.new N6.out, (N6.out.cell HLT.out.1).trans hS.2⟩
          clear hK K
          (try simp only [Act.put, List.setIfInBounds_toArray, List.set_cons_zero, List.set_cons_succ])
          refine wpAnyH_ready (rs := [6]) (by kernel_rfl) (by simp) ?_
          refine AllReadyH.cons rfl (fun K hK => ?_) AllReadyH.nil
          go_simp
          go_at_call 90
          refine (HWO.out _).mono ?_
          rintro e w7 ⟨rfl, n6⟩
          have N6 := Lib.hid (show New V2 w7 from N6.out.trans n6)
          clear n6
          refine hK.out _ _ ?_ (fun hHeld => ?_)
          · exact ⟨HG2.out.new N6.out, (N6.out.cell HLT.out.1).trans hS.2⟩
          clear hK K
          (try simp only [Act.put, List.setIfInBounds_toArray, List.set_cons_zero, List.set_cons_succ])
          refine wpAnyH_ready (rs := [7]) (by kernel_rfl) (by simp) ?_
          refine AllReadyH.cons rfl (fun K hK => ?_) AllReadyH.nil
          go_simp
          go_at_call 104
          refine (HUN.out _ (HNW2.out.trans N6.out)).mono ?_
          rintro e w8' ⟨rfl, n6⟩
          have N6 := Lib.hid (show New V2 w8' from N6.out.trans n6)
          clear n6
          refine hK.out _ _ ?_ (fun hHeld => ?_)
          · exact ⟨HG2.out.new N6.out, (N6.out.cell HLT.out.1).trans hS.2⟩
          clear hK K
          (try simp only [Act.put, List.setIfInBounds_toArray, List.set_cons_zero, List.set_cons_succ])
          refine wpAnyH_take (i := 8) (oi := { dst := some 10, op := _, type := _, pos := _, after := _, guard := _ }) (v := ?_) rfl (by kernel_rfl) (by kernel_rfl) (by kernel_rfl) (fun _ _ _ h => h) (Or.inl ⟨by rfl, (by intro w hSw; (try dsimp only at hSw); obtain ⟨hSa, hSb⟩ := hSw; go_simp; try with_reducible rfl)⟩) (by assumption) ?_
          (try simp only [Act.put, List.setIfInBounds_toArray, List.set_cons_zero, List.set_cons_succ])
          refine wpAnyH_done (by kernel_rfl) ?_ _
          exact ⟨rfl, N6.out⟩
        case hq =>
          rintro W3 hn3
          have N3 := Lib.hid hn3
          have hS : Gr W3 g RG ∧ W3.cell? ⟨wb, 0, none⟩ = some (.int .i64 ((k : Int) + 1)) := ⟨HG2.out.new hn3, (box_cell (row_new HW2.out hn3)).1⟩
          have HNW3 := Lib.hid (HNW2.out.trans hn3)
          have HLT3 := Lib.hid (show wb < W3.heap.size from Nat.lt_of_lt_of_le HLT.out.2 hn3.size)
          have HG3 := Lib.hid (HG2.out.new hn3)
          clear hn3
          gi_wp2
          apply region_act (fun w' => Gr w' g RG ∧ w'.cell? ⟨wb, 0, none⟩ = some (.int .i64 ((k : Int) + 1))) (fun w' => New W3 w') (by kernel_rfl) (by kernel_rfl) hS
          case h =>
            intro hHeld
            refine wpAnyH_take (i := 0) rfl (by kernel_rfl) (by kernel_rfl) (by kernel_rfl) (fun _ _ _ h => h) (yieldsIf_load_mid (by rfl) 83 (.tmp 4) rfl g 0 rfl RG.cells _ (fun w hw => hw.1.whole) Tryd.underlying83 rfl (by rw [Gph.len]; exact graph_size)) (by assumption) ?_
            (try simp only [Act.put, List.setIfInBounds_toArray, List.set_cons_zero, List.set_cons_succ])
            refine wpAnyH_take (i := 1) (oi := { dst := some 40, op := _, type := _, pos := _, after := _, guard := _ }) (v := ?_) rfl (by kernel_rfl) (by kernel_rfl) (by kernel_rfl) (fun _ _ _ h => h) (Or.inl ⟨by rfl, (by intro w hSw; (try dsimp only at hSw); obtain ⟨hSa, hSb⟩ := hSw; go_simp; try with_reducible rfl)⟩) (by assumption) ?_
            (try simp only [Act.put, List.setIfInBounds_toArray, List.set_cons_zero, List.set_cons_succ])
            refine wpAnyH_take (i := 3) (oi := { dst := some 42, op := _, type := _, pos := _, after := _, guard := _ }) (v := ?_) rfl (by kernel_rfl) (by kernel_rfl) (by kernel_rfl) (fun _ _ _ h => h) (Or.inl ⟨by rfl, (by intro w hSw; (try dsimp only at hSw); obtain ⟨hSa, hSb⟩ := hSw; go_simp; try with_reducible rfl)⟩) (by assumption) ?_
            (try simp only [Act.put, List.setIfInBounds_toArray, List.set_cons_zero, List.set_cons_succ])
            refine wpAnyH_take (i := 4) (oi := { dst := some 43, op := _, type := _, pos := _, after := _, guard := _ }) (v := ?_) rfl (by kernel_rfl) (by kernel_rfl) (by kernel_rfl) (fun _ _ _ h => h) (Or.inl ⟨by rfl, (by intro w hSw; (try dsimp only at hSw); obtain ⟨hSa, hSb⟩ := hSw; go_simp; try with_reducible rfl)⟩) (by assumption) ?_
            (try simp only [Act.put, List.setIfInBounds_toArray, List.set_cons_zero, List.set_cons_succ])
            refine wpAnyH_ready (rs := [2]) (by kernel_rfl) (by simp) ?_
            refine AllReadyH.cons rfl (fun K hK => ?_) AllReadyH.nil
            go_simp
            go_at_call 103
            refine (HWI.out _ HNW3.out.drew).mono ?_
            rintro e w6 ⟨rfl, n6⟩
            have N6 := Lib.hid (show New W3 w6 from (New.refl W3).drew.trans n6)
            clear n6
            refine hK.out _ _ ?_ (fun hHeld => ?_)
            · exact ⟨HG3.out.new N6.out, (N6.out.cell HLT3.out).trans hS.2⟩
            clear hK K
            (try simp only [Act.put, List.setIfInBounds_toArray, List.set_cons_zero, List.set_cons_succ])
            refine wpAnyH_take (i := 5) (oi := { dst := some 44, op := _, type := _, pos := _, after := _, guard := _ }) (v := ?_) rfl (by kernel_rfl) (by kernel_rfl) (by kernel_rfl) (fun _ _ _ h => h) (Or.inl ⟨by rfl, (by intro w hSw; (try dsimp only at hSw); obtain ⟨hSa, hSb⟩ := hSw; go_simp; try with_reducible rfl)⟩) (by assumption) ?_
            (try simp only [Act.put, List.setIfInBounds_toArray, List.set_cons_zero, List.set_cons_succ])
            refine wpAnyH_done (by kernel_rfl) ?_ _
            exact ⟨rfl, N6.out⟩
          case hq =>
            rintro W4 hn4
            have hEQ : ((wd : Int) == (k : Int)) = (wd == k) := by rw [Bool.eq_iff_iff]; simp only [beq_iff_eq]; omega
            rw [HWK.out, hEQ]
            clear hEQ
            have hn24 := N3.out.trans hn4
            have HN24 := Lib.hid hn24
            have HL4 := Lib.hid (HL2.out.new hn24)
            have HFK := Lib.hid (show (widN RG.re (resN RG.re left p) == k) = (wd == k) from by rw [HRE.out])
            have HI4 := Lib.hid (HST.out _ (plus D O9) ps none V2 W4 HI2.out (Mod.of_new hn24) (fun q hq => .inl hq))
            have HBN4 := Lib.hid (show ∀ q, plus D O9 q → q < V2.heap.size from fun q hq => by
              have := HSV.out
              have h2 := HDL.out
              rcases hq with hq | hq | hq
              · have := HBN.out q hq; omega
              · omega
              · omega)
            clear hn4 hn24 hS
            cases hb : (wd == k)
            case false =>
              rw [hb] at HFK
              clear hb
              gi_wp2
              refine ⟨Keep.of_new HN24.out, none, ⟨HI4.out.hi, HI4.out.sz, HI4.out.wx, HI4.out.tb, .inl ⟨rfl, HL4.out, fun q hq => ?_⟩⟩, .inl ⟨rfl, rfl⟩⟩
              rcases List.mem_append.1 hq with hq | hq
              · exact HPS.out q hq
              · simp at hq; rw [hq]; exact HFK.out
            case true =>
              rw [hb] at HFK
              clear hb
              have c6 := box_cell HL4.out.fr
              have hxl : x.length + (k + 1) ≤ 1000 := HLEN.out
              gi_wp2_with (gi_at_builtin; refine wpListIn_append_lies _ rfl _ _ 31 rfl (lb + 1) 3 i0 _ 1 8 Tryd.underlying31 hi hz0 hz1 hz2 rfl (by decide) (.slice av' x.length cv') x.length (natCells x) rfl ?o1 _ 1 1 [.int .i64 (p : Int)] rfl rfl ?o2 ?o3 (by omega) ?o4 ?o5 ?o6 _ rfl ?o7)
              case o1 => exact own_new HL4.out.ow ((New.refl _).alloc _)
              case o2 =>
                intro j u hj
                cases j with
                | zero => simp at hj; subst hj; exact (box_cell (World.alloc_heap_new W4 _)).1
                | succ j => simp at hj
              case o3 => intro u hu; simp at hu; rw [hu]; rfl
              case o4 => unfold maxLen; omega
              case o5 => omega
              case o6 => have := (Array.getElem?_eq_some_iff.1 HL4.out.lf).1; simp; omega
              case o7 =>
                intro g4 cap4 w4 hown4 hgrow4 hor4 hlt4
                have hvb : ∀ b, (Value.slice av' x.length cv').ownBlock = some b → lb + 1 ≤ b ∧ b < D ∧ b ≠ wb := fun b hb => ⟨(HL4.out.ow.lt b hb).1, HDV.out b hb, fun e => HVW.out (by rw [hb, e])⟩
                have hM4 : Mod (fun q => (Value.slice av' x.length cv').ownBlock = some q) W4 w4 := (Mod.of_new ((New.refl W4).alloc (.cells #[.int .i64 (p : Int)] 3))).trans (Mod.grown hgrow4 fun b hb => hb)
                have hS := HSz.out
                have hfb4 : w4.heap[fb]? = some (.cells #[.slice av' x.length cv'] 31 (0, 0)) := (hM4.2 fb (Array.getElem?_eq_some_iff.1 HL4.out.fr).1 (fun e => by have := hvb _ e; omega)).trans HL4.out.fr
                have hlb4 : w4.heap[lb]? = some (.cells #[sv left] 79 (0, 0)) := (hM4.2 lb (Array.getElem?_eq_some_iff.1 HL4.out.lf).1 (fun e => by have := hvb _ e; omega)).trans HL4.out.lf
                have hg4 : (Value.slice av' x.length cv').ownBlock = some g4 ∨ W4.heap.size ≤ g4 := hor4.imp id (fun e => by rw [e]; simp)
                have hg4b : lb + 1 ≤ g4 := (own_parts hown4).choose_spec.1
                obtain ⟨NV, hNV⟩ : ∃ NV, NV = Value.slice (some ⟨g4, 0, none⟩) (x.length + 1) cap4 := ⟨_, rfl⟩
                have d1 := box_cell hfb4
                have d2 := box_cell (show (w4.setCell ⟨fb, 0, none⟩ (.slice (some ⟨g4, 0, none⟩) (x.length + 1) cap4)).heap[lb]? = some (.cells #[sv left] 79 (0, 0)) from (heap_setCell_other _ _ _ _ _ (by omega)).trans hlb4)
                obtain ⟨w5, hw5⟩ : ∃ w5 : World, Hid (w5 = (w4.setCell ⟨fb, 0, none⟩ (.slice (some ⟨g4, 0, none⟩) (x.length + 1) cap4)).setCell ⟨lb, 0, none⟩ (sv R)) := ⟨_, Lib.hid rfl⟩
                have hM5 : Mod (fun q => (Value.slice av' x.length cv').ownBlock = some q ∨ q = fb ∨ q = lb) W4 w5 := by
                  rw [hw5.out]
                  exact (hM4.mono fun q hq => .inl hq).trans ((Mod.setCell _ _ _ _ (.inr (.inl rfl))).trans (Mod.setCell _ _ _ _ (.inr (.inr rfl))))
                have HP := Lib.hid (show RoundG D O9 tabE (FrI w g fb lb (lb + 1) wb RG x left (.slice av' x.length cv') Ds k D) (ps ++ [p]) V2 (.exit 2) w5 from by
                  have hDB := HDB.out
                  have hk5 : ∀ q o, q ≠ fb → q ≠ lb → (Value.slice av' x.length cv').ownBlock ≠ some q → W4.heap[q]? = some o → w5.heap[q]? = some o := fun q o a1 a2 a3 e => (hM5.2 q (Array.getElem?_eq_some_iff.1 e).1 (fun h' => h'.elim a3 (fun h' => h'.elim a1 a2))).trans e
                  refine ⟨(Keep.of_new HN24.out).trans (Keep.of_mod hM5 fun q hq h' => ?_), some (.exit 2), ⟨HI4.out.hi, Nat.le_trans HI4.out.sz hM5.size, hk5 _ _ (by have := HLW.out; omega) (by have := HLW.out; omega) (fun e => (hvb _ e).2.2 rfl) HI4.out.wx, HI4.out.tb.keep (Keep.of_mod (O' := tabE) hM5 fun q hq h' => ?_) rfl, .inr ⟨rfl, p, ps, .slice (some ⟨g4, 0, none⟩) (x.length + 1) cap4, rfl, HPS.out, HFK.out, ⟨?_, hk5 _ _ (by omega) (by omega) (fun e => by have := hvb _ e; omega) HL4.out.gr, ?_, ?_, ?_, by rw [HRR.out]; exact HR24.out, HL4.out.nd, fun D' hD' => ⟨hk5 _ _ (by have := (HL4.out.mks D' hD').2.1; omega) (by have := (HL4.out.mks D' hD').2.1; omega) (fun e => (HL4.out.mks D' hD').2.2 e) (HL4.out.mks D' hD').1, (HL4.out.mks D' hD').2.1, fun e => ?_⟩⟩, fun b hb => ?_⟩⟩, .inr (.inr ⟨2, rfl, rfl⟩)⟩
                  · have h1 : D ≤ q ∨ tabE q := hq.imp (fun h => HI4.out.hi q h) id
                    have h2 := HT.out.1; have h3 := HH.out
                    unfold tabE at h1
                    rcases h' with h' | h' | h'
                    · have := hvb _ h'; omega
                    · omega
                    · omega
                  · have h2 := HT.out.1; have h3 := HH.out
                    unfold tabE at hq
                    rcases h' with h' | h' | h'
                    · have := hvb _ h'; omega
                    · omega
                    · omega
                  · have h3 := HH.out
                    refine Mod.new HL4.out.nw hM5 (fun q h' => ?_)
                    rcases h' with h' | h' | h'
                    · have := hvb _ h'; omega
                    · omega
                    · omega
                  · rw [hw5.out]
                    exact (heap_setCell_other _ _ _ _ _ (by omega)).trans (heap_setCell_same _ _ 0 _ hfb4)
                  · have := own_keep (w' := w5) hown4 (fun b hb => by
                      simp [Value.ownBlock] at hb
                      rw [hw5.out]
                      exact (heap_setCell_other _ _ _ _ _ (by omega)).trans (heap_setCell_other _ _ _ _ _ (by omega)))
                    rw [natCells_snoc, List.length_append]
                    simpa using this
                  · rw [hw5.out, HRR.out]
                    exact heap_setCell_same _ _ 0 _ ((heap_setCell_other _ _ _ _ _ (by omega)).trans hlb4)
                  · simp [Value.ownBlock] at e
                    have h6 := (Array.getElem?_eq_some_iff.1 (HL4.out.mks D' hD').1).1
                    rcases hg4 with h | h
                    · rw [e] at h; exact (HL4.out.mks D' hD').2.2 h
                    · omega
                  · simp [Value.ownBlock] at hb
                    subst hb
                    rcases hg4 with h | h
                    · have h7 := hvb _ h
                      exact ⟨fun h' => by have := HI4.out.hi _ h'; omega, h7.2.2⟩
                    · have h8 := HN24.out.size
                      refine ⟨fun h' => by have := HBN4.out _ h'; omega, fun e => ?_⟩
                      have := (Array.getElem?_eq_some_iff.1 HI4.out.wx).1
                      omega)
                clear hown4 hgrow4 hor4 hlt4 hM4 hS hfb4 hlb4 hg4 hg4b hNV hvb hM5
                gi_wp2
                rw [← hw5.out]
                exact HP.out
      case hdone =>
        rw [hD]
        rintro O9 V hI hmk
        rcases hI.st with ⟨_, hLX, hall⟩ | ⟨e, _⟩
        case inr => cases e
        have HLX := Lib.hid hLX
        have HALL := Lib.hid (show frN RG.re (k + 1) left = frN RG.re k left from by
          show (match (bitsOf left).find? fun p => widN RG.re (resN RG.re left p) == k with | some p => _ | none => _) = _
          rw [find_none hall])
        have HVD := Lib.hid (show (Value.slice av' x.length cv').ownBlock ≠ some D from fun e => by have := HDV.out D e; omega)
        clear hLX hall
        have HMK := Lib.hid hmk
        have c8 := (box_cell hI.wx).1
        have HWV := Lib.hid hI.wx
        obtain ⟨nb, hnb⟩ : ∃ nb, V.heap.size = nb := ⟨_, rfl⟩
        have HNB := Lib.hid hnb
        have HWK := Lib.hid (IntWalk.i64_in (k : Int) (by omega))
        clear hI hmk hnb
        gi_wp2
        simp only [HWK.out, HNB.out]
        have hn9 : New V (V.alloc (.cells #[.int .i64 (k : Int)] 3)) := (New.refl V).alloc _
        have hx9 : (V.alloc (.cells #[.int .i64 (k : Int)] 3)).heap[nb]? = some (.cells #[.int .i64 (k : Int)] 3 (0, 0)) := by rw [← HNB.out]; exact World.alloc_heap_new V _
        have hL9 := HLX.out.new hn9
        have hDV := (Array.getElem?_eq_some_iff.1 HMK.out).1
        have hDB := HDB.out
        first | (refine ⟨⟨k, left, nb, x, _, D :: Ds, ⟨⟨hL9.nw, hL9.gr, hL9.fr, hL9.ow, hL9.lf, hL9.l24, List.nodup_cons.2 ⟨fun h => by have := HDD.out D h; omega, hL9.nd⟩, fun D' hD' => ?_⟩, hx9, ?_, fun h => ?_, fun e => ?_, ?_, ?_⟩, rfl, rfl⟩, ?_⟩) | (refine ⟨⟨k, left, nb, x, _, D :: Ds, _, _, _, _, _, _, _, _, _, _, _, _, _, _, _, _, _, _, _, _, _, _, _, _, _, _, _, _, _, _, ⟨⟨hL9.nw, hL9.gr, hL9.fr, hL9.ow, hL9.lf, hL9.l24, List.nodup_cons.2 ⟨fun h => by have := HDD.out D h; omega, hL9.nd⟩, fun D' hD' => ?_⟩, hx9, ?_, fun h => ?_, fun e => ?_, ?_, ?_⟩, rfl⟩, ?_⟩)
        · rcases List.mem_cons.1 hD' with e | hD'
          · rw [e]; exact ⟨row_new HMK.out hn9, by omega, HVD.out⟩
          · exact hL9.mks D' hD'
        · have := HSz.out; have h4 := hDV; have h5 := HNB.out; omega
        · rcases List.mem_cons.1 h with e | h
          · have h5 := HNB.out; omega
          · have := HDD.out _ h; have h5 := HNB.out; omega
        · have := (HLX.out.ow.lt _ e).2; have h5 := HNB.out; omega
        · rw [HTOT.out, HALL.out]
        · have := HLEN.out; omega
        · show (intOf (((V.alloc (.cells #[.int .i64 (k : Int)] 3)).cell? ⟨nb, 0, none⟩).getD undef)).toNat < (intOf ((wr.cell? ⟨wb, 0, none⟩).getD undef)).toNat
          rw [(box_cell hx9).1, (box_cell HWX1.out).1]
          simp [intOf] <;> omega
      case hstop =>
        rw [hD]
        rintro O9 done pc V hI hpx hmk
        rcases hI.st with ⟨e, _⟩ | ⟨e, p, d0, v', rfl, h1, h2, hLX, h4⟩
        case inl => cases e
        obtain rfl : pc = .exit 2 := by simpa using e
        have HLX := Lib.hid hLX
        have HALL := Lib.hid (show x ++ frN RG.re (k + 1) left = (x ++ [p]) ++ frN RG.re k (resN RG.re left p) from by
          have e1 : frN RG.re (k + 1) left = p :: frN RG.re k (resN RG.re left p) := by
            show (match (bitsOf left).find? fun p => widN RG.re (resN RG.re left p) == k with | some p => _ | none => _) = _
            obtain ⟨rest, hrest⟩ := hpx
            rw [← hrest, List.append_assoc]
            simp only [List.singleton_append]
            rw [find_at h1 h2]
          rw [e1]; simp)
        have HVD := Lib.hid (show v'.ownBlock ≠ some D from fun e => (h4 D e).1 (.inr (.inl rfl)))
        clear hLX h1 h2 h4 hpx e
        have HMK := Lib.hid hmk
        have c8 := (box_cell hI.wx).1
        have HWV := Lib.hid hI.wx
        obtain ⟨nb, hnb⟩ : ∃ nb, V.heap.size = nb := ⟨_, rfl⟩
        have HNB := Lib.hid hnb
        have HWK := Lib.hid (IntWalk.i64_in (k : Int) (by omega))
        clear hI hmk hnb
        gi_wp2
        simp only [HWK.out, HNB.out]
        have hn9 : New V (V.alloc (.cells #[.int .i64 (k : Int)] 3)) := (New.refl V).alloc _
        have hx9 : (V.alloc (.cells #[.int .i64 (k : Int)] 3)).heap[nb]? = some (.cells #[.int .i64 (k : Int)] 3 (0, 0)) := by rw [← HNB.out]; exact World.alloc_heap_new V _
        have hL9 := HLX.out.new hn9
        have hDV := (Array.getElem?_eq_some_iff.1 HMK.out).1
        have hDB := HDB.out
        first | (refine ⟨⟨k, resN RG.re left p, nb, (x ++ [p]), _, D :: Ds, ⟨⟨hL9.nw, hL9.gr, hL9.fr, hL9.ow, hL9.lf, hL9.l24, List.nodup_cons.2 ⟨fun h => by have := HDD.out D h; omega, hL9.nd⟩, fun D' hD' => ?_⟩, hx9, ?_, fun h => ?_, fun e => ?_, ?_, ?_⟩, rfl, rfl⟩, ?_⟩) | (refine ⟨⟨k, resN RG.re left p, nb, (x ++ [p]), _, D :: Ds, _, _, _, _, _, _, _, _, _, _, _, _, _, _, _, _, _, _, _, _, _, _, _, _, _, _, _, _, _, _, ⟨⟨hL9.nw, hL9.gr, hL9.fr, hL9.ow, hL9.lf, hL9.l24, List.nodup_cons.2 ⟨fun h => by have := HDD.out D h; omega, hL9.nd⟩, fun D' hD' => ?_⟩, hx9, ?_, fun h => ?_, fun e => ?_, ?_, ?_⟩, rfl⟩, ?_⟩)
        · rcases List.mem_cons.1 hD' with e | hD'
          · rw [e]; exact ⟨row_new HMK.out hn9, by omega, HVD.out⟩
          · exact hL9.mks D' hD'
        · have := HSz.out; have h4 := hDV; have h5 := HNB.out; omega
        · rcases List.mem_cons.1 h with e | h
          · have h5 := HNB.out; omega
          · have := HDD.out _ h; have h5 := HNB.out; omega
        · have := (HLX.out.ow.lt _ e).2; have h5 := HNB.out; omega
        · rw [HTOT.out, HALL.out]
        · have := HLEN.out; simp; omega
        · show (intOf (((V.alloc (.cells #[.int .i64 (k : Int)] 3)).cell? ⟨nb, 0, none⟩).getD undef)).toNat < (intOf ((wr.cell? ⟨wb, 0, none⟩).getD undef)).toNat
          rw [(box_cell hx9).1, (box_cell HWX1.out).1]
          simp [intOf] <;> omega

set_option maxHeartbeats 8000000 in
theorem Free_bad {w : World} {v : Value} {o : Prb} {av nv : Value} (h : PrbA w v o av nv) (hc : ordI o av nv ≠ 0) :
    Calls Tryd.prog 48 #[v] w fun en w' => en = .returned (.tuple #[.slice none 0 0, .int .i64 (ordI o av nv)]) ∧ New w w' := by
  have HO := Lib.hid (fun (w1 : World) (hn : New w w1) => (callsIn_wide (n := 4)).2 (openOrdered_c (h.new hn)))
  have HOK := Lib.hid (opR_ok h.sh)
  have hv := h.eq
  obtain ⟨x1, x2, x3, x4, e1, e2⟩ := h.sh
  clear h
  have he : (ordI o av nv != 0) = true := by simpa using hc
  clear hc
  generalize ordI o av nv = E at *
  generalize opR o av nv = RG at *
  subst hv
  subst e1 e2
  refine (callsIn_wide (n := 5)).1 ?_
  refine callsIn_of_wp_marks Tryd.func48 rfl trivial ?_ rfl
  simp only [Tryd.ntmps48, List.size_toArray, List.length_cons, List.length_nil, Nat.reduceAdd, Nat.reduceSub, Array.replicate_succ, Array.replicate_zero, List.push_toArray, List.append_toArray, List.nil_append, List.cons_append]
  gi_wp2
  refine ⟨trivial, ?_⟩
  gi_at_call 84
  refine (HO.out _ ((New.refl _).alloc _)).mono ?_
  rintro e w6 ⟨rfl, n6⟩
  have HN := Lib.hid (((New.refl w).alloc _).trans n6)
  clear n6
  gi_wp2_with (refine wpListIn_store_graph rfl (.tmp 4) (.tmp 14) rfl rfl rfl HOK.out ?_; intro w7 n7 g7; have N7 := Lib.hid (HN.out.trans n7); clear n7 g7)
  refine leaves_marks [] _ (by simp) (fun q hq => by cases hq) (fun W9 hm => ?_)
  exact ⟨_, results_tmp2 rfl _ _ _, rfl, Mod.new N7.out hm (fun k hk => by cases hk)⟩
end Go.Proofs.YtiejefehcpfkaaaDoor
