/- A copy of a list of numbers, the first of all orders. · The first of all orders. Graphs of at most 24 places. · The first order of a problem, as First returns it; two lists of numbers beside each other. Lists of any length that memory takes. · Every one of all orders is an order in the sense of isOrder; the last day of an order. -/
import Derived.Test.YtiejefehcpfkaaaDoorSu
import Derived.Lib.LazyBuf
import Derived.Test.YtiejefehcpfkaaaDoorSp

section
set_option linter.unusedSimpArgs false
set_option linter.unusedVariables false
set_option maxRecDepth 100000
namespace Go.Proofs.YtiejefehcpfkaaaDoor
open Go.RowKit Go.Shelf

attribute [local go_sem] Oper.semAt_some

theorem eql_nil (w : World) (a : Option Addr) (l c : Nat) : (binOp .eql 31 (.slice a l c) (.slice none 0 0)).run Tryd.prog w = .ok (.bool a.isNone) w := run_eql_slice_nil w _ _ a l c Tryd.underlying31

set_option maxHeartbeats 8000000 in
theorem clone_c {base : Nat} {v : Value} {x : List Nat} (w : World) (hn : x.length ≤ 1000) (h : w.ownsRow base 3 1 v x.length (natCells x)) :
    Calls Tryd.prog 134 #[v] w fun en w' => ∃ v', en = .returned v' ∧ New w w' ∧ w'.ownsRow w.heap.size 3 1 v' x.length (natCells x) := by
  have q22 := eql_nil
  rcases h.2 with ⟨rfl, h0⟩ | ⟨g, cap, cur, rfl, hb, hg, h1, h2, h3, h4⟩
  · have hx : x = [] := List.length_eq_zero_iff.1 h0
    subst hx
    clear h
    go_enter Tryd.func134, Tryd.ntmps134
    go_wp2_with fail
    go_ret
    exact ⟨_, rfl, New.refl _, World.ownsRow_nil _ _ _ _⟩
  · obtain ⟨i0, hi, hz0, hz1, hz2⟩ := info_parts int_infoO
    have HO := Lib.hid h
    have HGL := Lib.hid (h.lt g rfl).2
    have h1' := h1
    clear h hg h1 h2 h3 h4 hb
    have hxl := natCells_len x
    go_enter Tryd.func134, Tryd.ntmps134
    go_wp2_with (at_builtin; refine wpList_append_own _ rfl _ _ 31 rfl w.heap.size 3 i0 (.int .i64 0) 1 8 Tryd.underlying31 hi hz0 hz1 hz2 rfl (by decide) _ _ _ rfl (World.ownsRow_made w #[] 0 (Nat.le_refl _) (Nat.zero_le _) rfl) ⟨g, 0, none⟩ x.length cap (natCells x) rfl ?qc1 ?qc2 ?qc3 ?qc4 ?qc5 ?qc6 ?_)
    case qc1 => simp [natCells_len]
    case qc2 =>
      intro j u hj
      have := (own_cell (own_new HO.out ((New.refl w).alloc (.cells #[] 3))) hj).1
      rw [Addr.add_lit, Nat.zero_add]; exact this
    case qc3 => intro u hu; unfold natCells at hu; obtain ⟨y, _, rfl⟩ := List.mem_map.1 hu; rfl
    case qc4 => unfold maxLen; omega
    case qc5 => omega
    case qc6 => simp
    intro v' w1 hown hgrow hnil
    go_wp2_with fail
    go_ret
    refine ⟨v', rfl, ?_, by simpa using hown⟩
    exact New.of_below (((Below.refl _ w).alloc (Nat.le_refl _) _).grown hgrow (by simp) (by intro k hk; simp [Value.ownBlock] at hk; omega))
end Go.Proofs.YtiejefehcpfkaaaDoor
end

section
set_option linter.unusedSimpArgs false
set_option linter.unusedVariables false
set_option maxRecDepth 100000
namespace Go.Proofs.YtiejefehcpfkaaaDoor
open Go.RowKit Go.Shelf

attribute [local go_sem] Oper.semAt_some

theorem ordS_len (be : Nat → Nat) : ∀ (k s : Nat) (x : List Nat), x ∈ ordS be k s → x.length = k
  | 0, s, x, h => by simp [ordS] at h; simp [h]
  | k + 1, s, x, h => by
    simp only [ordS, List.mem_flatMap, List.mem_map] at h
    obtain ⟨p, _, y, hy, rfl⟩ := h
    simp [ordS_len be k _ y hy]
theorem ordG_len {G : Gph} {x : List Nat} {done : List (List Nat)} (h : done ++ [x] <+: ordG G) : x.length = G.n := by
  obtain ⟨r, hr⟩ := h
  exact ordS_len _ _ _ x (by show x ∈ ordG G; rw [← hr]; simp)
/-- the first of all orders -/
def firstO (G : Gph) : List Nat := (ordG G).headD []
/-- what stands in memory in the loop over the orders -/
structure FiI (w : World) (H id : Nat) (O : Nat → Prop) (done : List (List Nat)) (pc : Option Code) (V : World) : Prop where
  hi : ∀ q, O q → H + 2 ≤ q
  nw : New w V
  sz : H + 2 ≤ V.heap.size
  st : (pc = none ∧ done = [] ∧ V.heap[H + 1]? = some (.cells #[.slice none 0 0] 31 (0, 0))) ∨
    (pc = some (.exit id) ∧ ∃ x v, done = [x] ∧ V.heap[H + 1]? = some (.cells #[v] 31 (0, 0)) ∧ V.ownsRow H 3 1 v x.length (natCells x) ∧ ∀ g, v.ownBlock = some g → ¬ O g)
theorem FiI.stable {w : World} {H id : Nat} (hH : w.heap.size = H) {O O' : Nat → Prop} {done : List (List Nat)} {pc : Option Code} {V V' : World} (h : FiI w H id O done pc V) (hm : Mod O V V') (ho : ∀ q, O' q → O q ∨ V.heap.size ≤ q) : FiI w H id O' done pc V' := by
  obtain ⟨h1, h2, h3, h4⟩ := h
  have hlow : ∀ o, V.heap[H + 1]? = some o → V'.heap[H + 1]? = some o := fun o hv => (hm.2 _ (by omega) (fun h' => by have := h1 _ h'; omega)).trans hv
  refine ⟨fun q hq => (ho q hq).elim (h1 q) (fun h => by omega), Mod.new h2 hm (fun k hk => by have := h1 k hk; omega), Nat.le_trans h3 hm.size, ?_⟩
  rcases h4 with ⟨e, e2, h4⟩ | ⟨e, x, v, e2, h4, h5, h6⟩
  · exact .inl ⟨e, e2, hlow _ h4⟩
  · exact .inr ⟨e, x, v, e2, hlow _ h4, own_keep h5 (fun g hg => hm.2 g (h5.lt g hg).2 (h6 g hg)), fun g hg h' => (ho g h').elim (h6 g hg) (fun h => by have := (h5.lt g hg).2; omega)⟩

set_option maxHeartbeats 8000000 in
theorem first_c (G : Gph) (w : World) (hG : G.ok) (hT : Tab w) : Calls Tryd.prog 85 #[.agg G.cells.toArray] w fun en w' => ∃ v, en = .returned v ∧ New w w' ∧ w'.ownsRow w.heap.size 3 1 v (firstO G).length (natCells (firstO G)) := by
  obtain ⟨H, hH⟩ : ∃ H, w.heap.size = H := ⟨_, rfl⟩
  have HG0 := Lib.hid (Gr.box w G)
  obtain ⟨GC, hGC⟩ : ∃ GC, GC = G.cells.toArray := ⟨_, rfl⟩
  have HGET := Lib.hid (show (Instr.loadAt 83 (.pointer (some ⟨H, 0, none⟩))).run Tryd.prog ((w.alloc (.cells GC 83)).alloc (.cells #[.slice none 0 0] 31)) = .ok (.agg GC) ((w.alloc (.cells GC 83)).alloc (.cells #[.slice none 0 0] 31)) from by
    rw [hGC, ← hH]; exact Gr.get (HG0.out.new ((New.refl _).alloc _)))
  have HIT := Lib.hid (fun (W1 : World) (hn : New w W1) => orders_it G hG W1 (hT.new hn))
  rw [← hGC] at HIT ⊢
  have HT := Lib.hid hT
  have HG := Lib.hid hG
  have HH := Lib.hid hH
  have hn24 := hG.n24
  clear hT hG hGC HG0
  refine (callsIn_wide (n := 5)).1 ?_
  refine callsIn_of_wp_marks Tryd.func85 rfl trivial ?_ rfl
  simp only [Tryd.ntmps85, List.size_toArray, List.length_cons, List.length_nil, Nat.reduceAdd, Nat.reduceSub, Array.replicate_succ, Array.replicate_zero, List.push_toArray, List.append_toArray, List.nil_append, List.cons_append]
  gi_wp2_with (refine wpListIn_load_run rfl _ (.tmp 1) rfl HGET.out ?_)
  obtain ⟨WS, HWS⟩ : ∃ WS : World, Hid (WS = (w.alloc (.cells GC 83)).alloc (.cells #[.slice none 0 0] 31)) := ⟨_, Lib.hid rfl⟩
  rw [← HWS.out]
  obtain ⟨q1, q2⟩ := alloc3_heap2 w (.cells GC 83) (.cells #[.slice none 0 0] 31)
  rw [← HWS.out, HH.out] at q1 q2
  have hnS : New w WS := by rw [HWS.out]; exact ((New.refl _).alloc _).alloc _
  have hzS : WS.heap.size = H + 2 := by rw [HWS.out, ← HH.out]; simp
  have HNS := Lib.hid hnS
  have HTS := Lib.hid (HT.out.new hnS)
  refine range_first (n := 5) (by omega) rfl (enters_of Tryd.func138 (by kernel_rfl) rfl) (fb := #[.agg GC]) (lb := #[]) (Elem := ElemO) (xs := ordG G) (E := tabE)
    (fun W1 hn1 _ => HIT.out W1 (HNS.out.trans hn1)) (fun q hq => by have := HTS.out.1; unfold tabE at hq; omega) (by rintro x args O W ⟨b, v, rfl, _⟩; rfl)
    (FiI w H 0) (fun O O' done pc W W' h hm ho => h.stable HH.out hm ho) ?h0 ?hbody ?hdone ?hstop
  case h0 =>
    refine ⟨fun q hq => ?_, hnS, by omega, .inl ⟨rfl, rfl, q2⟩⟩
    rcases hq with hq | hq | hq
    · cases hq
    · omega
    · omega
  case hbody =>
    rw [hzS]
    rintro m O done x args V hI ⟨base, v, rfl, hv⟩ hpx hD1 hD0 ⟨r, hr⟩ hbnd
    have hxl : x.length ≤ 1000 := by rw [ordG_len hpx]; omega
    have HI := Lib.hid hI
    have HV := Lib.hid hv
    have HD1 := Lib.hid hD1
    have HPX := Lib.hid hpx
    have hdl := (Array.getElem?_eq_some_iff.1 hr).1
    have HBV := Lib.hid (show ∀ q, plus (H + 2) O q → q < V.heap.size from fun q hq => by
      rcases hq with hq | hq | hq
      · exact hbnd q hq
      · omega
      · omega)
    clear hI hv hpx hD1 hD0 hr hbnd hdl
    gi_wp2
    refine ⟨Keep.refl _ _, ?_⟩
    intro V2 hb2 hs2 ho2 hr2
    have HI2 := Lib.hid (HI.out.stable (O' := plus (H + 2) O) HH.out (V' := V2) ⟨hb2, fun q hq h' => ho2 q (fun e => h' (.inr (.inr e)))⟩ (fun q hq => .inl hq))
    have hv2 : V2.ownsRow base 3 1 v x.length (natCells x) := own_keep HV.out.1 (fun g hg => ho2 g (fun e => HD1.out (by rw [← e]; exact (HV.out.2 g hg).1)))
    have HCL := Lib.hid (CallsIn.inRound (H + 2 + 1) ((callsIn_wide (n := m - 1)).2 (clone_c V2 hxl hv2)))
    have HBV2 := Lib.hid (show ∀ q, plus (H + 2) O q → q < V2.heap.size from fun q hq => Nat.lt_of_lt_of_le (HBV.out q hq) hb2.size)
    clear hb2 hs2 ho2 hr2 hv2
    rcases HI2.out.st with ⟨_, rfl, hp⟩ | ⟨e, _⟩
    case inr => cases e
    have HP := Lib.hid hp
    have hpl : H + 1 < V2.heap.size := (Array.getElem?_eq_some_iff.1 hp).1
    have HPL := Lib.hid hpl
    clear hp hpl
    gi_wp2
    refine ⟨trivial, fun h => by simp [Fence.wide] at h, ?_⟩
    refine HCL.out.mono ?_
    rintro e w3 ⟨v', rfl, n3, own3⟩
    obtain ⟨av, cv, rfl⟩ := own_slice own3
    have hp3 := row_new HP.out n3
    have c3 := box_cell hp3
    have HP3 := Lib.hid hp3
    have N3 := Lib.hid n3
    have OW3 := Lib.hid own3
    clear hp3 n3 own3
    gi_wp2
    have hT0 := HT.out.1
    rw [HH.out] at hT0
    have hsz := HI2.out.sz
    refine ⟨(Keep.of_new N3.out).trans (Keep.of_mod (Mod.setCell (O := fun q => q = H + 1) _ _ _ _ rfl) (fun q hq h' => ?_)), some (.exit 0), ⟨HI2.out.hi, (HI2.out.nw.trans N3.out).setCell (by rw [HH.out]; show H ≤ H + 1; omega) _, ?_, .inr ⟨rfl, x, _, rfl, heap_setCell_same _ _ 0 _ HP3.out, own_keep (own_base OW3.out (by omega)) (fun g hg => heap_setCell_other _ _ _ _ _ ?_), fun g hg h' => ?_⟩⟩, .inr (.inr ⟨0, rfl, rfl⟩)⟩
    · rcases hq with hq | hq
      · have := HI2.out.hi q hq; omega
      · unfold tabE at hq; omega
    · have := N3.out.size
      have h3 : ∀ u, (w3.setCell ⟨H + 1, 0, none⟩ u).heap.size = w3.heap.size := fun u => by simp [go_sem]
      rw [h3]; omega
    · have := (OW3.out.lt g hg).1; omega
    · have := (OW3.out.lt g hg).1; have := HBV2.out g h'; omega
  case hdone =>
    rw [hzS]
    rintro O V hI hmk
    rcases hI.st with ⟨_, he, hp⟩ | ⟨e, _⟩
    case inr => cases e
    have HI := Lib.hid hI
    have HE := Lib.hid he
    have HMK := Lib.hid hmk
    have c3 := box_cell hp
    clear hI he hp hmk
    gi_wp2
    refine leaves_marks [H + 2] _ (by simp) (fun q hq => ?_) (fun W9 hm => ?_)
    · simp at hq; subst hq; exact HMK.out
    · refine ⟨_, results_tmp rfl _ _ _, ?_⟩
      refine ⟨_, rfl, Mod.new HI.out.nw hm (fun k hk => by simp at hk; rw [hk, HH.out]; omega), ?_⟩
      have e0 : firstO G = [] := by unfold firstO; rw [HE.out]; rfl
      rw [e0]; exact World.ownsRow_nil _ _ _ _
  case hstop =>
    rw [hzS]
    rintro O done c V hI hpx hmk
    rcases hI.st with ⟨e, _⟩ | ⟨e, x, v, rfl, hp, how, hno⟩
    case inl => cases e
    obtain rfl : c = .exit 0 := by simpa using e
    obtain ⟨av, cv, rfl⟩ := own_slice how
    have HI := Lib.hid hI
    have HMK := Lib.hid hmk
    have HOW := Lib.hid how
    have HPX := Lib.hid hpx
    have HNO := Lib.hid hno
    have c3 := box_cell hp
    clear hI hp hmk how hpx hno e
    gi_wp2
    refine leaves_marks [H + 2] _ (by simp) (fun q hq => ?_) (fun W9 hm => ?_)
    · simp at hq; subst hq; exact HMK.out
    · refine ⟨_, results_tmp rfl _ _ _, ?_⟩
      have e0 : firstO G = x := by
        obtain ⟨r, hr⟩ := HPX.out
        unfold firstO; rw [← hr]; rfl
      rw [e0]
      refine ⟨_, rfl, Mod.new HI.out.nw hm (fun k hk => by simp at hk; rw [hk, HH.out]; omega), ?_⟩
      rw [HH.out]
      exact own_keep HOW.out (fun g hg => hm.2 g (HOW.out.lt g hg).2 (fun h' => HNO.out g hg (by simp at h'; exact .inr (.inl h'))))
end Go.Proofs.YtiejefehcpfkaaaDoor
end

section
set_option linter.unusedSimpArgs false
set_option linter.unusedVariables false
set_option maxRecDepth 100000
namespace Go.Proofs.YtiejefehcpfkaaaDoor
open Go.RowKit Go.Shelf

attribute [local go_sem] Oper.semAt_some

theorem ordI_good {o : Prb} {av nv : Value} (h : ordI o av nv = 0) : chkI o = 0 ∧ cirB (opG o av nv).re (opG o av nv).n = false := by
  unfold ordI at h
  split at h
  · rename_i hc; exact absurd h hc
  · rename_i hc
    split at h
    · cases h
    · rename_i h2; exact ⟨by simpa using hc, by simpa using h2⟩
set_option maxHeartbeats 8000000 in
theorem First_good {w : World} {v : Value} {o : Prb} {av nv : Value} (h : PrbA w v o av nv) (hT : Tab w) (hc : ordI o av nv = 0) :
    Calls Tryd.prog 31 #[v] w fun en w' => ∃ u, en = .returned (.tuple #[u, .int .i64 0]) ∧ New w w' ∧ w'.ownsRow w.heap.size 3 1 u (firstO (opG o av nv)).length (natCells (firstO (opG o av nv))) := by
  have HO := Lib.hid (fun (w1 : World) (hn : New w w1) => openOrdered_c (h.new hn))
  have hOK := opR_ok h.sh
  have hv := h.eq
  obtain ⟨x1, x2, x3, x4, e1, e2⟩ := h.sh
  clear h
  have hk := (ordI_good hc).1
  rw [opR_good hk] at hOK
  rw [hc, opR_good hk] at HO
  have HOK := Lib.hid hOK
  have HFI := Lib.hid (fun (w1 : World) (hn : New w w1) => first_c (opG o av nv) w1 hOK (hT.new hn))
  clear hOK hT hk hc
  generalize opG o av nv = RG at *
  subst hv
  subst e1 e2
  go_enter Tryd.func31, Tryd.ntmps31
  go_wp2_with (first | (go_at_call 84; (with_reducible refine (HO.out _ ?_).mono ?_); (repeat (first | exact New.refl _ | apply New.alloc)); rintro e w6 ⟨rfl, n6⟩; have HN := Lib.hid (((New.refl w).alloc _).trans n6); clear n6) | (refine wpList_store_graph rfl (.tmp 4) (.tmp 9) rfl rfl rfl HOK.out ?_; intro w7 n7 g7; obtain ⟨g, hg⟩ : ∃ g, w6.heap.size = g := ⟨_, rfl⟩; simp only [hg] at g7 ⊢; have N7 := Lib.hid (HN.out.trans n7); have G7 := Lib.hid g7; clear n7 g7) | (refine wpList_get_graph rfl (.tmp 4) rfl g rfl G7.out ?_) | (go_at_call 85; (with_reducible refine (HFI.out _ ?_).mono ?_); (· exact N7.out); rintro e w8 ⟨v8, rfl, n8, own8⟩; have N8 := Lib.hid (N7.out.trans n8); have O8 := Lib.hid (own_base own8 N7.out.size); clear n8 own8))
  go_ret2
  exact ⟨v8, rfl, N8.out, O8.out⟩
set_option maxHeartbeats 8000000 in
theorem First_bad {w : World} {v : Value} {o : Prb} {av nv : Value} (h : PrbA w v o av nv) (hc : ordI o av nv ≠ 0) :
    Calls Tryd.prog 31 #[v] w fun en w' => en = .returned (.tuple #[.slice none 0 0, .int .i64 (ordI o av nv)]) ∧ New w w' := by
  have HO := Lib.hid (fun (w1 : World) (hn : New w w1) => openOrdered_c (h.new hn))
  have HOK := Lib.hid (opR_ok h.sh)
  have hv := h.eq
  obtain ⟨x1, x2, x3, x4, e1, e2⟩ := h.sh
  clear h
  have he : (ordI o av nv != 0) = true := by simpa using hc
  clear hc
  generalize ordI o av nv = E at *
  generalize opR o av nv = RG at *
  subst hv
  subst e1 e2
  go_enter Tryd.func31, Tryd.ntmps31
  go_wp2_with (first | (go_at_call 84; (with_reducible refine (HO.out _ ?_).mono ?_); (repeat (first | exact New.refl _ | apply New.alloc)); rintro e w6 ⟨rfl, n6⟩; have HN := Lib.hid (((New.refl w).alloc _).trans n6); clear n6) | (refine wpList_store_graph rfl (.tmp 4) (.tmp 9) rfl rfl rfl HOK.out ?_; intro w7 n7 g7; obtain ⟨g, hg⟩ : ∃ g, w6.heap.size = g := ⟨_, rfl⟩; simp only [hg] at g7 ⊢; have N7 := Lib.hid (HN.out.trans n7); have G7 := Lib.hid g7; clear n7 g7))
  go_ret2
  exact ⟨rfl, N7.out⟩

/-- v is a slice of the numbers l, wherever they lie -/
def SlI (w : World) (v : Value) (l : List Int) : Prop := ∃ av c, v = .slice av l.length c ∧ Ins w av l
theorem SlI.new {w w' : World} {v : Value} {l : List Int} (h : SlI w v l) (hn : New w w') : SlI w' v l := by
  obtain ⟨av, c, e, h⟩ := h; exact ⟨av, c, e, h.new hn⟩
def ints (x : List Nat) : List Int := x.map fun (i : Nat) => (i : Int)
theorem ints_len (x : List Nat) : (ints x).length = x.length := by simp [ints]
theorem SlI.of_own {w : World} {base : Nat} {v : Value} {x : List Nat} (h : w.ownsRow base 3 1 v x.length (natCells x)) : SlI w v (ints x) := by
  rcases h.2 with ⟨rfl, h0⟩ | ⟨g, cap, cur, rfl, hb, hg, h1, h2, h3, h4⟩
  · have hx : x = [] := List.length_eq_zero_iff.1 h0
    subst hx
    exact ⟨none, 0, rfl, fun h => by simp [ints] at h⟩
  · refine ⟨_, cap, by rw [ints_len], fun _ => ⟨g, 0, rfl, (h.lt g rfl).2, fun i hi => ?_⟩⟩
    rw [ints_len] at hi
    have hn : nI (ints x) i = ((x.getD i 0 : Nat) : Int) := by
      simp [ints, nI, List.getD_eq_getElem?_getD, List.getElem?_eq_getElem hi]
    rw [hn, Nat.zero_add]
    exact (own_cell h (natCells_at x i hi)).1
theorem SlI.of_iv {w : World} {b n c : Nat} {d : Nat → Int} (h : Iv w b n d) : SlI w (.slice (some ⟨b, 0, none⟩) n c) ((List.range n).map d) := by
  refine ⟨_, c, by simp, fun _ => ⟨b, 0, rfl, h.lt, fun i hi => ?_⟩⟩
  simp at hi
  have hn : nI ((List.range n).map d) i = d i := by simp [nI, List.getD_eq_getElem?_getD, hi]
  rw [hn, Nat.zero_add]; exact h.at i hi

theorem nI_ext {l m : List Int} (hl : l.length = m.length) (h : ∀ i, i < l.length → nI l i = nI m i) : l = m := by
  apply List.ext_getElem hl
  intro i h1 h2
  have := h i h1
  simpa [nI, List.getD_eq_getElem?_getD, List.getElem?_eq_getElem h1, List.getElem?_eq_getElem h2] using this
set_option maxHeartbeats 8000000 in
theorem SameInts_c {w : World} {u v : Value} {l m : List Int} (hu : SlI w u l) (hv : SlI w v m) (hl : l.length ≤ 17592186044415) (hm : m.length ≤ 17592186044415) :
    Calls Tryd.prog 28 #[u, v] w fun en w' => en = .returned (.bool (l == m)) ∧ New w w' := by
  obtain ⟨au, cu, rfl, hu⟩ := hu
  obtain ⟨av, cv, rfl, hv⟩ := hv
  have HU := Lib.hid hu
  have HV := Lib.hid hv
  clear hu hv
  by_cases hlen : l.length = m.length
  · obtain ⟨R, hR⟩ : ∃ R, (l == m) = R := ⟨_, rfl⟩
    have HR := Lib.hid hR
    rw [hR]
    have HNX := Lib.hid (fun (h : ∀ i, i < l.length → nI l i = nI m i) => (by rw [← hR, beq_iff_eq]; exact nI_ext hlen h : R = true))
    have HNE := Lib.hid (fun i (hi : i < l.length) (h : nI l i ≠ nI m i) => (by rw [← hR, beq_eq_false_iff_ne]; intro e; rw [e] at h; exact h rfl : R = false))
    have HM := Lib.hid hlen
    clear hR hm
    rw [← hlen]
    generalize hN : l.length = N at *
    have HN := Lib.hid hN
    clear hN hlen
    go_enter Tryd.func28, Tryd.ntmps28
    go_wp2_with fail
    go_loopw [5] (fun i wr => ∃ k : Nat, k ≤ N ∧ i = .int .i64 k ∧ New w wr ∧ ∀ j, j < k → nI l j = nI m j) (fun i _ => N - (intOf i).toNat)
    case atStart => exact ⟨0, Nat.zero_le _, rfl, New.refl _, fun j hj => by omega⟩
    case round =>
      obtain ⟨k, hk, rfl, hnew, hall⟩ := hrel
      have HNEW := Lib.hid hnew
      have HALL := Lib.hid hall
      clear hnew hall
      by_cases hlt : k < N
      · obtain ⟨b, off, rfl, gl, hcc⟩ := HU.out.new HNEW.out (by rw [HN.out]; omega)
        obtain ⟨b2, off2, rfl, gl2, hcc2⟩ := HV.out.new HNEW.out (by rw [← HM.out]; omega)
        have c1 := hcc k (by rw [HN.out]; omega)
        have c2 := hcc2 k (by rw [← HM.out]; omega)
        have hk1 : (k : Int) < (N : Int) := by omega
        have HNK := Lib.hid (HNE.out k hlt)
        have HLE := Lib.hid (fun (e : nI l k = nI m k) => (fun j hj => if h : j = k then h ▸ e else HALL.out j (by omega) : ∀ j, j < k + 1 → nI l j = nI m j))
        clear hcc hcc2
        generalize nI l k = x at *
        generalize nI m k = y at *
        by_cases he : x = y
        · have hxy : (x != y) = false := by simpa using he
          have HA := Lib.hid (HLE.out he)
          clear he
          go_upto_region 6 with fail
          refine wp_region_held_drew (S := fun w' => w'.cell? ⟨b, off + k, none⟩ = some (.int .i64 x) ∧ w'.cell? ⟨b2, off2 + k, none⟩ = some (.int .i64 y)) (by kernel_rfl) ⟨c1, c2⟩ (fun hHeld => ?_)
          refine wpAnyH_take (i := 0) (oi := { dst := some 17, op := _, type := _, pos := _, after := _, guard := _ }) (v := ?_) rfl (by kernel_rfl) (by kernel_rfl) (by kernel_rfl) (fun _ _ _ h => h) (Or.inl ⟨by rfl, (by intro w hSw; (try dsimp only at hSw); go_simp; try with_reducible rfl)⟩) (by assumption) ?_
          (try simp only [Act.put, List.setIfInBounds_toArray, List.set_cons_zero, List.set_cons_succ])
          refine wpAnyH_take (i := 1) (oi := { dst := some 18, op := _, type := _, pos := _, after := _, guard := _ }) (v := ?_) rfl (by kernel_rfl) (by kernel_rfl) (by kernel_rfl) (fun _ _ _ h => h) (Or.inl ⟨by rfl, (by intro w hSw; (try dsimp only at hSw); go_simp; try with_reducible rfl)⟩) (by assumption) ?_
          (try simp only [Act.put, List.setIfInBounds_toArray, List.set_cons_zero, List.set_cons_succ])
          refine wpAnyH_take (i := 2) (oi := { dst := some 19, op := _, type := _, pos := _, after := _, guard := _ }) (v := ?_) rfl (by kernel_rfl) (by kernel_rfl) (by kernel_rfl) (fun _ _ _ h => h) (Or.inl ⟨by rfl, (by intro w hSw; (try dsimp only at hSw); go_simp; try with_reducible rfl)⟩) (by assumption) ?_
          (try simp only [Act.put, List.setIfInBounds_toArray, List.set_cons_zero, List.set_cons_succ])
          refine wpAnyH_take (i := 3) (oi := { dst := some 20, op := _, type := _, pos := _, after := _, guard := _ }) (v := ?_) rfl (by kernel_rfl) (by kernel_rfl) (by kernel_rfl) (fun _ _ _ h => h) (Or.inl ⟨by rfl, (by intro w hSw; (try dsimp only at hSw); go_simp; try with_reducible rfl)⟩) (by assumption) ?_
          (try simp only [Act.put, List.setIfInBounds_toArray, List.set_cons_zero, List.set_cons_succ])
          refine wpAnyH_take (i := 4) (oi := { dst := some 21, op := _, type := _, pos := _, after := _, guard := _ }) (v := ?_) rfl (by kernel_rfl) (by kernel_rfl) (by kernel_rfl) (fun _ _ _ h => h) (Or.inl ⟨by rfl, (by intro w hSw; (try dsimp only at hSw); go_simp; try with_reducible rfl)⟩) (by assumption) ?_
          (try simp only [Act.put, List.setIfInBounds_toArray, List.set_cons_zero, List.set_cons_succ])
          refine wpAnyH_take (i := 5) (oi := { dst := some 22, op := _, type := _, pos := _, after := _, guard := _ }) (v := ?_) rfl (by kernel_rfl) (by kernel_rfl) (by kernel_rfl) (fun _ _ _ h => h) (Or.inl ⟨by rfl, (by intro w hSw; (try dsimp only at hSw); go_simp; try with_reducible rfl)⟩) (by assumption) ?_
          (try simp only [Act.put, List.setIfInBounds_toArray, List.set_cons_zero, List.set_cons_succ])
          refine wpAnyH_take (i := 6) (oi := { dst := some 23, op := _, type := _, pos := _, after := _, guard := _ }) (v := ?_) rfl (by kernel_rfl) (by kernel_rfl) (by kernel_rfl) (fun _ _ _ h => h) (Or.inl ⟨by rfl, (by intro w hSw; (try dsimp only at hSw); go_simp; try with_reducible rfl)⟩) (by assumption) ?_
          (try simp only [Act.put, List.setIfInBounds_toArray, List.set_cons_zero, List.set_cons_succ])
          refine wpAnyH_take (i := 7) (oi := { dst := some 24, op := _, type := _, pos := _, after := _, guard := _ }) (v := ?_) rfl (by kernel_rfl) (by kernel_rfl) (by kernel_rfl) (fun _ _ _ h => h) (Or.inl ⟨by rfl, (by intro w hSw; (try dsimp only at hSw); go_simp; try with_reducible rfl)⟩) (by assumption) ?_
          (try simp only [Act.put, List.setIfInBounds_toArray, List.set_cons_zero, List.set_cons_succ])
          refine wpAnyH_take (i := 8) (oi := { dst := some 25, op := _, type := _, pos := _, after := _, guard := _ }) (v := ?_) rfl (by kernel_rfl) (by kernel_rfl) (by kernel_rfl) (fun _ _ _ h => h) (Or.inl ⟨by rfl, (by intro w hSw; (try dsimp only at hSw); go_simp; try with_reducible rfl)⟩) (by assumption) ?_
          (try simp only [Act.put, List.setIfInBounds_toArray, List.set_cons_zero, List.set_cons_succ])
          refine wpAnyH_done (by kernel_rfl) ?_ _
          go_wp2_with fail
          go_roundw
          case rel => exact ⟨k + 1, by omega, by go_num, HNEW.out.drew, HA.out⟩
          case measure => simp [intOf]; omega
        · have hxy : (x != y) = true := by simpa using he
          have HA := Lib.hid (HNK.out he)
          clear he
          go_upto_region 6 with fail
          refine wp_region_held_drew (S := fun w' => w'.cell? ⟨b, off + k, none⟩ = some (.int .i64 x) ∧ w'.cell? ⟨b2, off2 + k, none⟩ = some (.int .i64 y)) (by kernel_rfl) ⟨c1, c2⟩ (fun hHeld => ?_)
          refine wpAnyH_take (i := 0) (oi := { dst := some 17, op := _, type := _, pos := _, after := _, guard := _ }) (v := ?_) rfl (by kernel_rfl) (by kernel_rfl) (by kernel_rfl) (fun _ _ _ h => h) (Or.inl ⟨by rfl, (by intro w hSw; (try dsimp only at hSw); go_simp; try with_reducible rfl)⟩) (by assumption) ?_
          (try simp only [Act.put, List.setIfInBounds_toArray, List.set_cons_zero, List.set_cons_succ])
          refine wpAnyH_take (i := 1) (oi := { dst := some 18, op := _, type := _, pos := _, after := _, guard := _ }) (v := ?_) rfl (by kernel_rfl) (by kernel_rfl) (by kernel_rfl) (fun _ _ _ h => h) (Or.inl ⟨by rfl, (by intro w hSw; (try dsimp only at hSw); go_simp; try with_reducible rfl)⟩) (by assumption) ?_
          (try simp only [Act.put, List.setIfInBounds_toArray, List.set_cons_zero, List.set_cons_succ])
          refine wpAnyH_take (i := 2) (oi := { dst := some 19, op := _, type := _, pos := _, after := _, guard := _ }) (v := ?_) rfl (by kernel_rfl) (by kernel_rfl) (by kernel_rfl) (fun _ _ _ h => h) (Or.inl ⟨by rfl, (by intro w hSw; (try dsimp only at hSw); go_simp; try with_reducible rfl)⟩) (by assumption) ?_
          (try simp only [Act.put, List.setIfInBounds_toArray, List.set_cons_zero, List.set_cons_succ])
          refine wpAnyH_take (i := 3) (oi := { dst := some 20, op := _, type := _, pos := _, after := _, guard := _ }) (v := ?_) rfl (by kernel_rfl) (by kernel_rfl) (by kernel_rfl) (fun _ _ _ h => h) (Or.inl ⟨by rfl, (by intro w hSw; (try dsimp only at hSw); go_simp; try with_reducible rfl)⟩) (by assumption) ?_
          (try simp only [Act.put, List.setIfInBounds_toArray, List.set_cons_zero, List.set_cons_succ])
          refine wpAnyH_take (i := 4) (oi := { dst := some 21, op := _, type := _, pos := _, after := _, guard := _ }) (v := ?_) rfl (by kernel_rfl) (by kernel_rfl) (by kernel_rfl) (fun _ _ _ h => h) (Or.inl ⟨by rfl, (by intro w hSw; (try dsimp only at hSw); go_simp; try with_reducible rfl)⟩) (by assumption) ?_
          (try simp only [Act.put, List.setIfInBounds_toArray, List.set_cons_zero, List.set_cons_succ])
          refine wpAnyH_take (i := 5) (oi := { dst := some 22, op := _, type := _, pos := _, after := _, guard := _ }) (v := ?_) rfl (by kernel_rfl) (by kernel_rfl) (by kernel_rfl) (fun _ _ _ h => h) (Or.inl ⟨by rfl, (by intro w hSw; (try dsimp only at hSw); go_simp; try with_reducible rfl)⟩) (by assumption) ?_
          (try simp only [Act.put, List.setIfInBounds_toArray, List.set_cons_zero, List.set_cons_succ])
          refine wpAnyH_take (i := 6) (oi := { dst := some 23, op := _, type := _, pos := _, after := _, guard := _ }) (v := ?_) rfl (by kernel_rfl) (by kernel_rfl) (by kernel_rfl) (fun _ _ _ h => h) (Or.inl ⟨by rfl, (by intro w hSw; (try dsimp only at hSw); go_simp; try with_reducible rfl)⟩) (by assumption) ?_
          (try simp only [Act.put, List.setIfInBounds_toArray, List.set_cons_zero, List.set_cons_succ])
          refine wpAnyH_take (i := 7) (oi := { dst := some 24, op := _, type := _, pos := _, after := _, guard := _ }) (v := ?_) rfl (by kernel_rfl) (by kernel_rfl) (by kernel_rfl) (fun _ _ _ h => h) (Or.inl ⟨by rfl, (by intro w hSw; (try dsimp only at hSw); go_simp; try with_reducible rfl)⟩) (by assumption) ?_
          (try simp only [Act.put, List.setIfInBounds_toArray, List.set_cons_zero, List.set_cons_succ])
          refine wpAnyH_take (i := 8) (oi := { dst := some 25, op := _, type := _, pos := _, after := _, guard := _ }) (v := ?_) rfl (by kernel_rfl) (by kernel_rfl) (by kernel_rfl) (fun _ _ _ h => h) (Or.inl ⟨by rfl, (by intro w hSw; (try dsimp only at hSw); go_simp; try with_reducible rfl)⟩) (by assumption) ?_
          (try simp only [Act.put, List.setIfInBounds_toArray, List.set_cons_zero, List.set_cons_succ])
          refine wpAnyH_done (by kernel_rfl) ?_ _
          go_wp2_with fail
          go_ret
          exact ⟨by rw [HA.out]; rfl, HNEW.out.drew⟩
      · obtain rfl : k = N := by omega
        have hk1 : ¬ (k : Int) < (k : Int) := by omega
        have HA := Lib.hid (HNX.out HALL.out)
        go_wp2_with fail
        go_ret
        exact ⟨by rw [HA.out]; rfl, HNEW.out⟩
  · have hne : (l == m) = false := by rw [beq_eq_false_iff_ne]; intro e; exact hlen (by rw [e])
    have hd : ((l.length : Int) != (m.length : Int)) = true := by simp; omega
    rw [hne]
    clear hne hlen
    go_enter Tryd.func28, Tryd.ntmps28
    go_wp2_with fail
    go_ret
    exact ⟨rfl, New.refl _⟩
end Go.Proofs.YtiejefehcpfkaaaDoor
end

section
set_option linter.unusedSimpArgs false
set_option linter.unusedVariables false
set_option maxRecDepth 100000
namespace Go.Proofs.YtiejefehcpfkaaaDoor
open Go.RowKit Go.Shelf

attribute [local go_sem] Oper.semAt_some

/-- what comes before a place is a place of the graph -/
def Gph.low (G : Gph) : Prop := ∀ p i, (G.be p).testBit i = true → i < G.n
theorem beF_low {n : Int} {L : List (Int × Int)} (h : arB n L = true) (hn : n ≤ 24) : ∀ k, k ≤ L.length → ∀ p i, (beF L k p).testBit i = true → i < n.toNat
  | 0, _, p, i, hb => by simp [beF] at hb
  | k + 1, hk, p, i, hb => by
    simp only [beF, addL, upd] at hb
    split at hb
    · rw [Nat.testBit_or, Bool.or_eq_true] at hb
      rcases hb with hb | hb
      · exact beF_low h hn k (by omega) _ i hb
      · rw [Nat.testBit_two_pow] at hb
        have e : aN L k = i := by simpa using hb
        have := arB_in h k (by omega)
        rw [← e]; unfold aN; omega
    · exact beF_low h hn k (by omega) _ i hb
theorem opG_low {o : Prb} (av nv : Value) (h : chkI o = 0) : (opG o av nv).low := fun p i hb => by
  obtain ⟨h1, h2, h3, _⟩ := chkI_zero h
  exact beF_low h2 (by omega) _ (Nat.le_refl _) p i hb

theorem nI_ints {x : List Nat} {j : Nat} : nI (ints x) j = ((x.getD j 0 : Nat) : Int) := by
  unfold nI ints
  rw [List.getD_eq_getElem?_getD, List.getD_eq_getElem?_getD, List.getElem?_map]
  cases x[j]? <;> simp
theorem nI_pre {a b : List Nat} {j : Nat} (h : j < a.length) : nI (ints (a ++ b)) j = nI (ints a) j := by
  rw [nI_ints, nI_ints, List.getD_eq_getElem?_getD, List.getElem?_append_left h, ← List.getD_eq_getElem?_getD]
theorem laid_pre {a b : List Nat} : ∀ k, k ≤ a.length → laidF (ints (a ++ b)) k = laidF (ints a) k
  | 0, _ => rfl
  | k + 1, h => by simp only [laidF]; rw [laid_pre k (by omega), nI_pre (by omega)]
theorem okO_pre {G : Gph} {a b : List Nat} {j : Nat} (h : j < a.length) : okO G (ints (a ++ b)) j = okO G (ints a) j := by
  unfold okO; rw [nI_pre h, laid_pre j (by omega)]
theorem nI_at {a b : List Nat} {p : Nat} : nI (ints (a ++ p :: b)) a.length = (p : Int) := by
  rw [nI_ints, List.getD_eq_getElem?_getD]; simp
theorem rdF_be (be : Nat → Nat) (s : Nat) : ∀ (ps : List Nat) (acc i : Nat), (ps.foldl (rdStep be s) acc).testBit i = true → acc.testBit i = true ∨ be i &&& s = 0
  | [], _, _, h => .inl h
  | p :: ps, acc, i, h => by
    rcases rdF_be be s ps _ i h with h | h
    · unfold rdStep at h
      split at h
      · rename_i hb
        rw [Nat.testBit_or, Bool.or_eq_true] at h
        rcases h with h | h
        · exact .inl h
        · rw [Nat.testBit_two_pow] at h
          exact .inr (by have e : p = i := by simpa using h
                         rw [← e]; simpa using hb)
      · exact .inl h
    · exact .inr h
theorem rdN_be {be : Nat → Nat} {s i : Nat} (h : (rdN be s).testBit i = true) : be i &&& s = 0 := by
  rcases rdF_be be s (bitsOf s) 0 i h with h | h
  · simp at h
  · exact h
theorem ord_ok (G : Gph) (hG : G.ok) (hl : G.low) : ∀ (k s : Nat) (pre y : List Nat), y ∈ ordS G.be k s → s < 4294967296 → laidF (ints pre) pre.length < 4294967296 → (∀ i, i < G.n ↔ (s.testBit i = true ∨ (laidF (ints pre) pre.length).testBit i = true)) → (∀ i, s.testBit i = true → (laidF (ints pre) pre.length).testBit i = false) →
    (∀ j, j < pre.length → okO G (ints pre) j = true) → ∀ j, j < (pre ++ y).length → okO G (ints (pre ++ y)) j = true
  | 0, s, pre, y, hy, _, _, _, _, hok => by
    simp [ordS] at hy
    subst hy
    simpa using hok
  | k + 1, s, pre, y, hy, hs, hlt, h1, h2, hok => by
    simp only [ordS, List.mem_flatMap, List.mem_map] at hy
    obtain ⟨p, hp, z, hz, rfl⟩ := hy
    have hpn := hG.n24
    have hps := rdN_sub (bitsOf_mem.1 hp).2
    have hps2 := bitsOf_mem.1 hps
    have hpl : p < G.n := (h1 p).2 (.inl hps2.2)
    have hno := h2 p hps2.2
    have hbe : G.be p &&& s = 0 := by
      have := (bitsOf_mem.1 hp).2
      exact rdN_be this
    have el : laidF (ints (pre ++ [p])) (pre ++ [p]).length = laidF (ints pre) pre.length ||| 2 ^ p := by
      rw [List.length_append, List.length_singleton]
      simp only [laidF]
      rw [laid_pre _ (Nat.le_refl _), nI_at]; simp
    have e : pre ++ p :: z = (pre ++ [p]) ++ z := by simp
    rw [e]
    refine ord_ok G hG hl k (wo s (2 ^ p)) (pre ++ [p]) z hz (Nat.lt_of_le_of_lt (wo_le _ _) hs) ?_ ?_ ?_ ?_
    · rw [el]; exact or_lt hlt (pow_lt p (by omega))
    · intro i
      rw [el, h1 i, Nat.testBit_or, Nat.testBit_two_pow, wo_bit s _ i hs (pow_lt p (by omega)), Nat.testBit_two_pow]
      by_cases e : p = i
      · subst e; simp [hps2.2]
      · simp [e]
    · intro i hi
      rw [wo_bit s _ i hs (pow_lt p (by omega)), Nat.testBit_two_pow, Bool.and_eq_true] at hi
      rw [el, Nat.testBit_or, Nat.testBit_two_pow, h2 i hi.1]
      simpa using hi.2
    · intro j hj
      by_cases e : j < pre.length
      · rw [okO_pre e]; exact hok j e
      · obtain rfl : j = pre.length := by simp at hj; omega
        unfold okO
        have ea : nI (ints (pre ++ [p])) pre.length = (p : Int) := nI_at
        rw [ea, laid_pre _ (Nat.le_refl _)]
        simp only [Int.toNat_natCast, Bool.and_eq_true, decide_eq_true_eq, Bool.not_eq_true', beq_iff_eq]
        refine ⟨⟨⟨by omega, by omega⟩, hno⟩, ?_⟩
        apply Nat.eq_of_testBit_eq
        intro i
        rw [Nat.zero_testBit, wo_bit _ _ i (hG.be p) hlt]
        cases hb : (G.be p).testBit i
        · rfl
        · have hi := (h1 i).1 (hl p i hb)
          have hns : s.testBit i = false := by
            have := congrArg (fun x => x.testBit i) hbe
            simp only [Nat.testBit_and, hb, Nat.zero_testBit, Bool.true_and] at this
            exact this
          rcases hi with hi | hi
          · rw [hns] at hi; cases hi
          · rw [hi]; rfl
theorem ordG_io {G : Gph} (hG : G.ok) (hl : G.low) {x : List Nat} (hx : x ∈ ordG G) : ioB G (ints x) = true := by
  have hlen : x.length = G.n := ordS_len _ _ _ x hx
  have := ord_ok G hG hl G.n (fst G.n) [] x hx (fst_lt _ (by have := hG.n24; omega)) (by show (0 : Nat) < _; decide) (fun i => by rw [fst_bit]; simp [laidF]) (fun i hi => by simp [laidF]) (fun j hj => by simp at hj)
  unfold ioB
  rw [ints_len, hlen]
  simp only [Bool.and_eq_true, decide_eq_true_eq]
  refine ⟨trivial, List.all_eq_true.2 fun j hj => ?_⟩
  exact this j (by have := List.mem_range.1 hj; simp; omega)
/-- the last day of an order -/
def lastI (l : List Int) (d : Nat → Int) : Int := if l.length = 0 then -1 else d (nI l (l.length - 1)).toNat
set_option maxHeartbeats 8000000 in
theorem lastDay_c (av : Option Addr) (cap : Nat) (l : List Int) (b n cD : Nat) (d : Nat → Int) (w : World) (hl : l.length ≤ 1000) (hP : Ins w av l) (hI : Iv w b n d) (hn : 0 < l.length → 0 ≤ nI l (l.length - 1) ∧ nI l (l.length - 1) < (n : Int)) :
    Calls Tryd.prog 149 #[.slice av l.length cap, .slice (some ⟨b, 0, none⟩) n cD] w fun en w' => en = .returned (.int .i64 (lastI l d)) ∧ w' = w := by
  have HE := Lib.hid (show lastI l d = if l.length = 0 then -1 else d (nI l (l.length - 1)).toNat from rfl)
  by_cases h0 : l.length = 0
  · rw [if_pos h0] at HE
    have h0' : ((l.length : Int) == 0) = true := by simp; exact List.length_eq_zero_iff.1 h0
    rw [HE.out]
    clear hP hI hn
    generalize l.length = N at *
    subst h0
    go_enter Tryd.func149, Tryd.ntmps149
    go_wp2_with fail
    go_ret
    exact ⟨rfl, rfl⟩
  · rw [if_neg h0] at HE
    obtain ⟨b0, off, rfl, gl, hcc⟩ := hP (by omega)
    have c1 := hcc (l.length - 1) (by omega)
    have hr := hn (by omega)
    obtain ⟨p, hp⟩ : ∃ p : Nat, nI l (l.length - 1) = p := ⟨(nI l (l.length - 1)).toNat, by omega⟩
    rw [hp] at c1 hr HE
    simp only [Int.toNat_natCast] at HE
    have hpn : p < n := by omega
    have hpn' : (p : Int) < (n : Int) := hr.2
    have c2 := hI.at p hpn
    rw [HE.out]
    have hz : ((l.length : Int) == 0) = false := by simp; intro e; rw [e] at h0; exact h0 rfl
    have hw1 : IntKind.i64.wrap ((l.length : Int) - 1) = ((l.length - 1 : Nat) : Int) := by rw [show (l.length : Int) - 1 = ((l.length - 1 : Nat) : Int) by omega]; exact IntWalk.i64_in _ (by omega)
    have hlt : ((l.length - 1 : Nat) : Int) < (l.length : Int) := by omega
    clear hcc hr hn hp HE hI hP
    generalize d p = dp at *
    generalize l.length = N at *
    go_enter Tryd.func149, Tryd.ntmps149
    go_wp2_with fail
    go_ret
    exact ⟨rfl, rfl⟩
end Go.Proofs.YtiejefehcpfkaaaDoor
end
