/- The graph of a problem, as open returns it. Lists of any length that memory takes. -/
import Derived.Test.YtiejefehcpfkaaaDoorSf
import Derived.Deep.RegionLaw
set_option linter.unusedSimpArgs false
set_option linter.unusedVariables false
set_option maxRecDepth 100000
namespace Go.Proofs.YtiejefehcpfkaaaDoor
open Go.RowKit

/-- the graph of a valid problem -/
def opG (o : Prb) (av nv : Value) : Gph := ⟨o.n.toNat, av, nv, afF o.A o.A.length, chM (afF o.A o.A.length) o.n.toNat o.n.toNat, beF o.A o.A.length, neF o.B o.B.length⟩
def opR (o : Prb) (av nv : Value) : Gph := if chkI o = 0 then opG o av nv else G0

theorem zc_graph : Tryd.zeroCells83 = G0.cells.toArray := by kernel_rfl
theorem two_new (w : World) (A B : Obj) (H : Nat) (hH : w.heap.size = H) : ((w.alloc A).alloc B).heap[H + 1]? = some B := by
  subst hH; have := World.alloc_heap_new (w.alloc A) B; rwa [World.size_alloc] at this

set_option maxHeartbeats 4000000 in
theorem open_bad (v : Value) (o : Prb) (w : World) (h : PrbV w v o) (hc : chkI o ≠ 0) : Calls Tryd.prog 68 #[v] w fun en w' => en = .returned (.tuple #[.agg G0.cells.toArray, .int .i64 (chkI o)]) ∧ New w w' := by
  have HC := Lib.hid (fun (w1 : World) (hn : New w w1) => check_c v o w1 (h.new hn))
  obtain ⟨⟨av, ac, nv, nc, rfl, h1, h2⟩, h3, h4⟩ := h
  have he : (chkI o != 0) = true := by simpa using hc
  obtain ⟨H, hH⟩ : ∃ H, w.heap.size = H := ⟨_, rfl⟩
  have HH := Lib.hid hH
  have HZ1 := Lib.hid built_zero
  have HZ2 := Lib.hid (graph_sizeG G0)
  have HZ3 := Lib.hid (Gph.all G0_ok)
  rw [← zc_graph] at HZ1 HZ2 HZ3
  rw [← zc_graph]
  clear h1 h2 h3 h4 hc
  generalize chkI o = R at *
  go_enter Tryd.func68, Tryd.ntmps68
  go_wp2_with (first | (go_at_call 23; (with_reducible refine (HC.out _ ?_).mono ?_); (repeat (first | exact New.refl _ | apply New.alloc)); rintro e w6 ⟨rfl, n6⟩; have HN := Lib.hid n6; have R6 := Lib.hid (row_new (two_new _ _ _ H HH.out) n6); clear n6) | (refine wpList_built rfl 83 _ rfl _ HZ1.out ?_) | (refine wpList_store_row rfl 83 (.tmp 2) (.tmp 14) rfl (H + 1) _ rfl rfl 83 _ R6.out HZ2.out rfl HZ3.out ?_))
  refine bodyPost_ret (results_row_tmp rfl _ _ (H + 1) _ _ _ _ rfl (setRow_heap _ _ _ _ _ _ R6.out) Tryd.underlying83 rfl HZ2.out) rfl ?_
  exact ⟨rfl, (((((New.refl _).alloc _).alloc _).trans HN.out).setRow (by rw [HH.out]; omega) _)⟩

theorem built3 (n : Nat) (av nv : Value) : ((Tryd.zeroCells83.setIfInBounds 0 (.int .i64 (n : Int))).setIfInBounds 1 av).setIfInBounds 2 nv = (Gph.cells ⟨n, av, nv, fun _ => 0, fun _ => 0, fun _ => 0, fun _ => 0⟩).toArray := by
  rw [zc_graph]
  simp [Gph.cells, G0]
/-- a graph's block that is made and filled at once -/
theorem made_graph {w : World} (C : Array Value) (G : Gph) (Z : Array Value) (hC : C = G.cells.toArray) : New w ((w.alloc (.cells Z 83)).setRow w.heap.size C) ∧ Gr ((w.alloc (.cells Z 83)).setRow w.heap.size C) w.heap.size G := by
  subst hC
  exact ⟨((New.refl w).alloc _).setRow (Nat.le_refl _) _, setRow_heap _ _ _ _ _ _ (World.alloc_heap_new w _)⟩

/-- what the building of a graph keeps: the problem's box at H, the result's box behind it, the graph at g -/
structure OpS (w wr : World) (H g N : Nat) (av nv : Value) (G : Gph) : Prop where
  nw : New w wr
  gr : Gr wr g G
  rs : wr.heap[H + 1]? = some (.cells Tryd.zeroCells83 83 (0, 0))
  o6 : wr.cell? ⟨H, 0, none⟩ = some (.int .i64 (N : Int))
  o7 : wr.cell? ⟨H, 1, none⟩ = some av
  o8 : wr.cell? ⟨H, 2, none⟩ = some nv
  hg : H + 1 < g
  hw : w.heap.size = H
theorem OpS.new {w wr W : World} {H g N : Nat} {av nv : Value} {G : Gph} (h : OpS w wr H g N av nv G) (hn : New wr W) : OpS w W H g N av nv G := by
  have hl := (Array.getElem?_eq_some_iff.1 h.rs).1
  exact ⟨h.nw.trans hn, h.gr.new hn, row_new h.rs hn, (hn.cell (by omega)).trans h.o6, (hn.cell (by omega)).trans h.o7, (hn.cell (by omega)).trans h.o8, h.hg, h.hw⟩
theorem OpS.set {w wr : World} {H g N : Nat} {av nv : Value} {G G' : Gph} (h : OpS w wr H g N av nv G) (i : Nat) (v : Value) (e : G.cells.set i v = G'.cells) : OpS w (wr.setCell ⟨g, i, none⟩ v) H g N av nv G' := by
  have hg := h.hg
  have ho : ∀ q, (wr.setCell ⟨g, i, none⟩ v).cell? ⟨H, q, none⟩ = wr.cell? ⟨H, q, none⟩ := fun q => by
    simp only [World.cell?, heap_setCell_other wr g i H v (show H ≠ g by omega)]
  exact ⟨h.nw.setCell (by rw [h.hw]; show H ≤ g; omega) _, h.gr.set i v G' e, (heap_setCell_other _ _ _ _ _ (by omega)).trans h.rs, (ho 0).trans h.o6, (ho 1).trans h.o7, (ho 2).trans h.o8, hg, h.hw⟩

/-- beside it the box of a pair at P -/
structure OpP (w wr : World) (H g N : Nat) (av nv : Value) (G : Gph) (P a b : Nat) : Prop where
  st : OpS w wr H g N av nv G
  p0 : wr.cell? ⟨P, 0, none⟩ = some (.int .i64 (a : Int))
  p1 : wr.cell? ⟨P, 1, none⟩ = some (.int .i64 (b : Int))
  pl : P < wr.heap.size
  gp : g < P
theorem OpP.new {w wr W : World} {H g N : Nat} {av nv : Value} {G : Gph} {P a b : Nat} (h : OpP w wr H g N av nv G P a b) (hn : New wr W) : OpP w W H g N av nv G P a b :=
  ⟨h.st.new hn, (hn.cell h.pl).trans h.p0, (hn.cell h.pl).trans h.p1, Nat.lt_of_lt_of_le h.pl hn.size, h.gp⟩
theorem OpP.set {w wr : World} {H g N : Nat} {av nv : Value} {G G' : Gph} {P a b : Nat} (h : OpP w wr H g N av nv G P a b) (i : Nat) (v : Value) (e : G.cells.set i v = G'.cells) : OpP w (wr.setCell ⟨g, i, none⟩ v) H g N av nv G' P a b := by
  have hg := h.gp
  have ho : ∀ q, (wr.setCell ⟨g, i, none⟩ v).cell? ⟨P, q, none⟩ = wr.cell? ⟨P, q, none⟩ := fun q => by
    simp only [World.cell?, heap_setCell_other wr g i P v (show P ≠ g by omega)]
  exact ⟨h.st.set i v e, (ho 0).trans h.p0, (ho 1).trans h.p1, by show P < (wr.heap.modify _ _).size; simp; exact h.pl, hg⟩

theorem heap_setCells : ∀ (vs : List Value) (w : World) (g o : Nat) (cur : List Value) (t : TypeId), w.heap[g]? = some (.cells cur.toArray t (0, 0)) → o + vs.length ≤ cur.length →
    (w.setCells g o vs).heap[g]? = some (.cells (splice cur o vs).toArray t (0, 0))
  | [], w, g, o, cur, t, h, _ => by simpa [World.setCells, splice] using h
  | v :: r, w, g, o, cur, t, h, hl => by
    simp only [List.length_cons] at hl
    rw [World.setCells]
    have h1 := heap_setCell_same w g o v h
    rw [show (cur.toArray.setIfInBounds o v) = (cur.set o v).toArray by simp] at h1
    rw [heap_setCells r (w.setCell ⟨g, o, none⟩ v) g (o + 1) (cur.set o v) t h1 (by simp; omega)]
    have e := list_seg_step cur o v r hl
    congr 3
    simp only [splice, List.length_cons]
    simpa [List.append_assoc] using e
theorem heap_setCells_other : ∀ (vs : List Value) (w : World) (g o k : Nat), k ≠ g → (w.setCells g o vs).heap[k]? = w.heap[k]?
  | [], w, g, o, k, _ => rfl
  | v :: r, w, g, o, k, h => by
    rw [World.setCells, heap_setCells_other r _ g (o + 1) k h, heap_setCell_other _ _ _ _ _ h]
theorem New.setCells {a : World} : ∀ (vs : List Value) {w : World} (h : New a w) {g o : Nat} (hg : a.heap.size ≤ g), New a (w.setCells g o vs)
  | [], w, h, g, o, hg => h
  | v :: r, w, h, g, o, hg => by
    rw [World.setCells]
    exact New.setCells r (h.setCell hg v) hg
theorem Gph.splice_re (G : Gph) (r : Nat → Nat) : splice G.cells 27 (lk r) = Gph.cells { G with re := r } := by
  have e1 : G.cells = (.int .i64 (G.n : Int) :: G.av :: G.nv :: lk G.af) ++ (lk G.re ++ (lk G.be ++ lk G.ne)) := by simp [Gph.cells]
  have l1 : (Value.int .i64 (G.n : Int) :: G.av :: G.nv :: lk G.af).length = 27 := by simp [lk_len]
  rw [e1]
  simp only [splice, lk_len]
  rw [List.take_append_of_le_length (by omega), List.take_of_length_le (by omega), List.drop_append, List.drop_eq_nil_of_le (by omega), List.nil_append, l1, List.drop_append, List.drop_eq_nil_of_le (by rw [lk_len]; omega), lk_len]
  simp [Gph.cells]
theorem Gr.there {w : World} {g : Nat} {G : Gph} (h : Gr w g G) (o n : Nat) (hn : o + n ≤ 99) : w.there g o n := fun j hj => by
  refine ⟨?_, h.froz _⟩
  rw [h.cell, List.getElem?_eq_getElem (by rw [Gph.len]; omega)]; rfl
theorem OpS.setRe {w wr : World} {H g N : Nat} {av nv : Value} {G : Gph} (h : OpS w wr H g N av nv G) (r : Nat → Nat) : OpS w (wr.setCells g 27 (lk r)) H g N av nv { G with re := r } := by
  have hg := h.hg
  have ho : ∀ q, (wr.setCells g 27 (lk r)).cell? ⟨H, q, none⟩ = wr.cell? ⟨H, q, none⟩ := fun q => by
    simp only [World.cell?, heap_setCells_other (lk r) wr g 27 H (show H ≠ g by omega)]
  refine ⟨New.setCells _ h.nw (by rw [h.hw]; omega), ?_, (heap_setCells_other _ _ _ _ _ (by omega)).trans h.rs, (ho 0).trans h.o6, (ho 1).trans h.o7, (ho 2).trans h.o8, hg, h.hw⟩
  unfold Gr
  rw [heap_setCells _ wr g 27 G.cells _ h.gr (by rw [Gph.len, lk_len]; omega), Gph.splice_re]

set_option maxHeartbeats 16000000 in
theorem open_good (v : Value) (o : Prb) (w : World) (av nv : Option Addr) (ac nc : Nat) (h : PrbV w v o) (hv : v = .agg #[.int .i64 o.n, .slice av o.A.length ac, .slice nv o.B.length nc]) (hc : chkI o = 0) : Calls Tryd.prog 68 #[v] w fun en w' => en = .returned (.tuple #[.agg (opG o (.slice av o.A.length ac) (.slice nv o.B.length nc)).cells.toArray, .int .i64 0]) ∧ New w w' := by
  have HC := Lib.hid (fun (w1 : World) (hn : New w w1) => check_c v o w1 (h.new hn))
  rw [hc] at HC
  obtain ⟨I1, I2⟩ := chk_in hc
  have HI1 := Lib.hid I1
  have HI2 := Lib.hid I2
  obtain ⟨⟨av', ac', nv', nc', e, h1, h2⟩, h3, h4⟩ := h
  have HP : Prs w av o.A ∧ Prs w nv o.B := by
    rw [hv] at e
    simp only [Value.agg.injEq, Array.mk.injEq, List.cons.injEq, Value.slice.injEq] at e
    obtain ⟨_, ⟨rfl, _, rfl⟩, ⟨rfl, _, rfl⟩, _⟩ := e
    exact ⟨h1, h2⟩
  have HPA := Lib.hid HP.1
  have HPB := Lib.hid HP.2
  have h5 := (chkI_zero hc).1
  obtain ⟨N, hN⟩ : ∃ N : Nat, o.n = N := ⟨o.n.toNat, by omega⟩
  have HN24 := Lib.hid (show N ≤ 24 by omega)
  rw [hN] at hv
  have HOP := Lib.hid (show opG o (.slice av o.A.length ac) (.slice nv o.B.length nc) = ⟨N, .slice av o.A.length ac, .slice nv o.B.length nc, afF o.A o.A.length, chM (afF o.A o.A.length) N N, beF o.A o.A.length, neF o.B o.B.length⟩ by unfold opG; rw [hN]; rfl)
  subst hv
  obtain ⟨H, hH⟩ : ∃ H, w.heap.size = H := ⟨_, rfl⟩
  have HH := Lib.hid hH
  have HZ1 := Lib.hid (built_graph N (.slice av o.A.length ac) (.slice nv o.B.length nc))
  have HZ2 := Lib.hid (fun G => graph_sizeG G)
  clear HP e h1 h2 h5 hc I1 I2 hN
  generalize opG o (.slice av o.A.length ac) (.slice nv o.B.length nc) = RG at *
  generalize hLA : o.A.length = LA at *
  generalize hLB : o.B.length = LB at *
  have HLA := Lib.hid hLA
  have HLB := Lib.hid hLB
  clear hLA hLB
  go_enter Tryd.func68, Tryd.ntmps68
  have HB4 := Lib.hid (show Tryd.zeroCells83.size = (((Tryd.zeroCells83.setIfInBounds 0 (.int .i64 (N : Int))).setIfInBounds 1 (.slice av LA ac)).setIfInBounds 2 (.slice nv LB nc)).size by simp)
  have HB3 := Lib.hid (built3 N (.slice av LA ac) (.slice nv LB nc))
  go_wp2_with (first | (go_at_call 23; (with_reducible refine (HC.out _ ?_).mono ?_); (repeat (first | exact New.refl _ | apply New.alloc)); rintro e w6 ⟨rfl, n6⟩; have HN := Lib.hid ((((New.refl w).alloc _).alloc _).trans n6); have R6 := Lib.hid (row_new (two_new _ _ _ H HH.out) n6); have o6 : w6.cell? ⟨H, 0, none⟩ = some (.int .i64 (N : Int)) := (n6.cell (b := H) (o := 0) (by simp; omega)).trans (by simp [go_sem, hH]); have o7 : w6.cell? ⟨H, 1, none⟩ = some (.slice av LA ac) := (n6.cell (b := H) (o := 1) (by simp; omega)).trans (by simp [go_sem, hH]); have o8 : w6.cell? ⟨H, 2, none⟩ = some (.slice nv LB nc) := (n6.cell (b := H) (o := 2) (by simp; omega)).trans (by simp [go_sem, hH]); clear n6) | (refine wpList_store_row rfl 83 (.tmp 5) (.tmp 17) rfl w6.heap.size _ rfl rfl 83 _ (World.alloc_heap_new w6 _) ?_ ?_ ?_ ?_; (rw [HB3.out]; exact HZ2.out _); (exact HB4.out); (rw [HB3.out]; exact all_oneCell_toArray (by intro v hv; simp only [Gph.cells, List.mem_cons, List.mem_append] at hv; rcases hv with rfl | rfl | rfl | hv | hv | hv | hv; rfl; rfl; rfl; all_goals exact lk_one _ v hv)); obtain ⟨g, hg⟩ : ∃ g, w6.heap.size = g := ⟨_, rfl⟩; obtain ⟨w7, e7, n7, g7⟩ : ∃ w7, w7 = (w6.alloc (.cells Tryd.zeroCells83 83)).setRow w6.heap.size _ ∧ New w6 w7 ∧ Gr w7 w6.heap.size _ := ⟨_, rfl, made_graph _ _ _ HB3.out⟩; rw [← e7]; simp only [hg] at g7 ⊢; have N7 := Lib.hid n7; have G7 := Lib.hid g7; have o6 := (n7.cell (by have := (Array.getElem?_eq_some_iff.1 R6.out).1; omega)).trans o6; have o7 := (n7.cell (by have := (Array.getElem?_eq_some_iff.1 R6.out).1; omega)).trans o7; have o8 := (n7.cell (by have := (Array.getElem?_eq_some_iff.1 R6.out).1; omega)).trans o8; clear e7 n7 g7))
  have hs6 := (Array.getElem?_eq_some_iff.1 R6.out).1
  have HS7 := Lib.hid (show OpS w w7 H g N (.slice av LA ac) (.slice nv LB nc) ⟨N, .slice av LA ac, .slice nv LB nc, fun _ => 0, fun _ => 0, fun _ => 0, fun _ => 0⟩ from
    ⟨HN.out.trans N7.out, G7.out, row_new R6.out N7.out, o6, o7, o8, by omega, HH.out⟩)
  clear o6 o7 o8 hs6 HN R6 N7 G7
  go_loopw [21] (fun i wr => ∃ k : Nat, k ≤ LA ∧ i = .int .i64 k ∧ OpS w wr H g N (.slice av LA ac) (.slice nv LB nc) ⟨N, .slice av LA ac, .slice nv LB nc, afF o.A k, fun _ => 0, beF o.A k, fun _ => 0⟩) (fun i _ => LA - (intOf i).toNat)
  case atStart => exact ⟨0, Nat.zero_le _, rfl, HS7.out⟩
  case round =>
    clear hH hg
    obtain ⟨k, hk, rfl, hst⟩ := hrel
    obtain ⟨U1, rfl⟩ : ∃ U1 : World, U1 = wr := ⟨_, rfl⟩
    have HST := Lib.hid hst
    clear hst
    by_cases hlt : k < LA
    · have hkl : k < o.A.length := by rw [HLA.out]; exact hlt
      obtain ⟨b0, off, hba, gl, hcc⟩ := HPA.out.new HST.out.nw (by omega)
      obtain ⟨c1, c2⟩ := hcc k hkl
      have hk1 : (k : Int) < (LA : Int) := by omega
      have hin := HI1.out k hkl
      obtain ⟨a, ha⟩ : ∃ a, a = aN o.A k := ⟨_, rfl⟩
      obtain ⟨b, hb⟩ : ∃ b, b = bN o.A k := ⟨_, rfl⟩
      have ha' : pA o.A k = (a : Int) := by rw [ha]; unfold aN; omega
      have hb' : pB o.A k = (b : Int) := by rw [hb]; unfold bN; omega
      have HAf := Lib.hid (show afF o.A (k + 1) = addL (afF o.A k) a b by rw [ha, hb]; rfl)
      have HBe := Lib.hid (show beF o.A (k + 1) = addL (beF o.A k) b a by rw [ha, hb]; rfl)
      have HL1 := Lib.hid (afF_lt HI1.out k (by omega))
      have HL2 := Lib.hid (beF_lt HI1.out k (by omega))
      rw [ha'] at c1 hin
      rw [hb'] at c2 hin
      have a24 : (a : Int) < 24 := hin.1.2
      have b24 : (b : Int) < 24 := hin.2.2
      have HS1 := Lib.hid (fun w1 : World => single_c b w1 (by omega))
      have HS2 := Lib.hid (fun w1 : World => single_c a w1 (by omega))
      clear hcc ha hb ha' hb' hin hkl
      subst hba
      go_upto_region 8 with fail
      obtain ⟨P, hP⟩ : ∃ P, U1.heap.size = P := ⟨_, rfl⟩
      have d0 : (U1.alloc (.cells #[.int .i64 (a : Int), .int .i64 (b : Int)] 67)).cell? ⟨P, 0, none⟩ = some (.int .i64 (a : Int)) := by rw [← hP]; simp [go_sem]
      have d1 : (U1.alloc (.cells #[.int .i64 (a : Int), .int .i64 (b : Int)] 67)).cell? ⟨P, 1, none⟩ = some (.int .i64 (b : Int)) := by rw [← hP]; simp [go_sem]
      have d2 : P < (U1.alloc (.cells #[.int .i64 (a : Int), .int .i64 (b : Int)] 67)).heap.size := by rw [← hP]; simp
      have gP : g < P := by rw [← hP]; exact HST.out.gr.lt
      have HOP2 := Lib.hid (OpP.mk (HST.out.new ((New.refl U1).alloc (.cells #[.int .i64 (a : Int), .int .i64 (b : Int)] 67))) d0 d1 d2 gP)
      simp only [hP]
      generalize U1.alloc (.cells #[.int .i64 (a : Int), .int .i64 (b : Int)] 67) = U2 at *
      clear hP d0 d1 d2 gP
      skip
      have d0 := HOP2.out.p0
      have d1 := HOP2.out.p1
      have d2 := HOP2.out.pl
      have e1 : U2.cell? ⟨g, 3 + a, none⟩ = some (sv (afF o.A k a)) := by rw [HOP2.out.st.gr.cell]; exact Gph.at_af _ a (by omega)
      have f1 := HOP2.out.st.gr.froz (3 + a)
      have g1 : g < U2.heap.size := HOP2.out.st.gr.lt
      have HOR := Lib.hid (or32 (afF o.A k a) (2 ^ b) (HL1.out a) (pow_lt b (by omega)))
      have HNX := Lib.hid (show ∀ w5, New U2.drew w5 → OpP w (w5.setCell ⟨g, 3 + a, none⟩ (sv (afF o.A k a ||| 2 ^ b))) H g N (.slice (some ⟨b0, off, none⟩) LA ac) (.slice nv LB nc) ⟨N, .slice (some ⟨b0, off, none⟩) LA ac, .slice nv LB nc, addL (afF o.A k) a b, fun _ => 0, beF o.A k, fun _ => 0⟩ P a b from fun w5 h5 => (HOP2.out.new ((New.refl _).drew.trans h5)).set _ _ (Gph.set_af _ _ _ (by omega)))
      obtain ⟨x1, hx1⟩ : ∃ x1, x1 = afF o.A k a := ⟨_, rfl⟩
      obtain ⟨x2, hx2⟩ : ∃ x2, x2 = 2 ^ b := ⟨_, rfl⟩
      have HSC := Lib.hid (show ∀ w1, Calls Tryd.prog 91 #[.int .i64 (b : Int)] w1 fun e w' => e = .returned (sv x2) ∧ New w1 w' by rw [hx2]; exact HS1.out)
      rw [← hx1, ← hx2] at HNX HOR
      rw [← hx1] at e1
      clear hx1 hx2
      go_cut [33] (fun s wz => OpP w wz H g N (.slice (some ⟨b0, off, none⟩) LA ac) (.slice nv LB nc) ⟨N, .slice (some ⟨b0, off, none⟩) LA ac, .slice nv LB nc, addL (afF o.A k) a b, fun _ => 0, beF o.A k, fun _ => 0⟩ P a b)
      case first =>
        go_region_law (go_simp; go_at_call 91; refine (HSC.out _).mono ?_; rintro e w5 ⟨rfl, n5⟩; have N5 := Lib.hid n5; have d0 : w5.cell? ⟨P, 0, none⟩ = some (.int .i64 (a : Int)) := (n5.cell d2).trans d0; have d1 : w5.cell? ⟨P, 1, none⟩ = some (.int .i64 (b : Int)) := (n5.cell d2).trans d1; have e1 : w5.cell? ⟨g, 3 + a, none⟩ = some (sv x1) := (n5.cell g1).trans e1; have f1 : w5.frozen? ⟨g, 3 + a, none⟩ = false := (n5.below.frozen (p := ⟨g, 3 + a, none⟩) g1).trans f1; clear n5)
        all_goals rw [HOR.out]
        all_goals (go_wp2_with fail; go_meet)
        all_goals first | exact HNX.out _ N5.out | exact (HNX.out _ N5.out).new (New.refl _).drew
      case rest =>
        have HOP2n := Lib.hid hcut
        clear hcut d0 d1 d2 e1 f1 g1 HOR HNX HSC
        go_upto_region 9 with fail
        have d0 := HOP2n.out.p0
        have d1 := HOP2n.out.p1
        have d2 := HOP2n.out.pl
        have e1 : wc.cell? ⟨g, 51 + b, none⟩ = some (sv (beF o.A k b)) := by rw [HOP2n.out.st.gr.cell]; exact Gph.at_be _ b (by omega)
        have f1 := HOP2n.out.st.gr.froz (51 + b)
        have g1 : g < wc.heap.size := HOP2n.out.st.gr.lt
        have HOR := Lib.hid (or32 (beF o.A k b) (2 ^ a) (HL2.out b) (pow_lt a (by omega)))
        have HNX := Lib.hid (show ∀ w5, New wc.drew w5 → OpP w (w5.setCell ⟨g, 51 + b, none⟩ (sv (beF o.A k b ||| 2 ^ a))) H g N (.slice (some ⟨b0, off, none⟩) LA ac) (.slice nv LB nc) ⟨N, .slice (some ⟨b0, off, none⟩) LA ac, .slice nv LB nc, addL (afF o.A k) a b, fun _ => 0, addL (beF o.A k) b a, fun _ => 0⟩ P a b from fun w5 h5 => (HOP2n.out.new ((New.refl _).drew.trans h5)).set _ _ (Gph.set_be _ _ _ (by omega)))
        obtain ⟨x1, hx1⟩ : ∃ x1, x1 = beF o.A k b := ⟨_, rfl⟩
        obtain ⟨x2, hx2⟩ : ∃ x2, x2 = 2 ^ a := ⟨_, rfl⟩
        have HSC := Lib.hid (show ∀ w1, Calls Tryd.prog 91 #[.int .i64 (a : Int)] w1 fun e w' => e = .returned (sv x2) ∧ New w1 w' by rw [hx2]; exact HS2.out)
        rw [← hx1, ← hx2] at HNX HOR
        rw [← hx1] at e1
        clear hx1 hx2
        go_region_law (go_simp; go_at_call 91; refine (HSC.out _).mono ?_; rintro e w5 ⟨rfl, n5⟩; have N5 := Lib.hid n5; have d0 : w5.cell? ⟨P, 0, none⟩ = some (.int .i64 (a : Int)) := (n5.cell d2).trans d0; have d1 : w5.cell? ⟨P, 1, none⟩ = some (.int .i64 (b : Int)) := (n5.cell d2).trans d1; have e1 : w5.cell? ⟨g, 51 + b, none⟩ = some (sv x1) := (n5.cell g1).trans e1; have f1 : w5.frozen? ⟨g, 51 + b, none⟩ = false := (n5.below.frozen (p := ⟨g, 51 + b, none⟩) g1).trans f1; clear n5)
        all_goals rw [HOR.out]
        all_goals go_wp2_with fail
        all_goals go_roundw
        all_goals first
          | exact ⟨k + 1, by omega, by go_num, by rw [HAf.out, HBe.out]; exact (HNX.out _ N5.out).st⟩
          | exact ⟨k + 1, by omega, by go_num, by rw [HAf.out, HBe.out]; exact ((HNX.out _ N5.out).new (New.refl _).drew).st⟩
          | (simp [intOf]; omega)
    · have ht : ¬ ((k : Int) < (LA : Int)) := by omega
      obtain rfl : LA = k := by omega
      have o8 := HST.out.o8
      go_wp2_with fail
      go_loopw [51] (fun i wr => ∃ k : Nat, k ≤ LB ∧ i = .int .i64 k ∧ OpS w wr H g N (.slice av LA ac) (.slice nv LB nc) ⟨N, .slice av LA ac, .slice nv LB nc, afF o.A LA, fun _ => 0, beF o.A LA, neF o.B k⟩) (fun i _ => LB - (intOf i).toNat)
      case atStart => exact ⟨0, Nat.zero_le _, rfl, HST.out⟩
      case round =>
        clear o8
        clear HST
        obtain ⟨k, hk, rfl, hst⟩ := hrel
        obtain ⟨U1, rfl⟩ : ∃ U1 : World, U1 = wr := ⟨_, rfl⟩
        have HST := Lib.hid hst
        clear hst
        by_cases hlt : k < LB
        · have hkl : k < o.B.length := by rw [HLB.out]; exact hlt
          obtain ⟨b0, off, hba, gl, hcc⟩ := HPB.out.new HST.out.nw (by omega)
          obtain ⟨c1, c2⟩ := hcc k hkl
          have hk1 : (k : Int) < (LB : Int) := by omega
          have hin := HI2.out k hkl
          obtain ⟨a, ha⟩ : ∃ a, a = aN o.B k := ⟨_, rfl⟩
          obtain ⟨b, hb⟩ : ∃ b, b = bN o.B k := ⟨_, rfl⟩
          have ha' : pA o.B k = (a : Int) := by rw [ha]; unfold aN; omega
          have hb' : pB o.B k = (b : Int) := by rw [hb]; unfold bN; omega
          have HNe := Lib.hid (show neF o.B (k + 1) = addL (addL (neF o.B k) a b) b a by rw [ha, hb]; rfl)
          have HL1 := Lib.hid (neF_lt HI2.out k (by omega))
          have HL2 := Lib.hid (fun q => addL_lt HL1.out (show b < 32 by have := hin.2.2; omega) (a := a) q)
          rw [ha'] at c1 hin
          rw [hb'] at c2 hin
          have a24 : (a : Int) < 24 := hin.1.2
          have b24 : (b : Int) < 24 := hin.2.2
          have HS1 := Lib.hid (fun w1 : World => single_c b w1 (by omega))
          have HS2 := Lib.hid (fun w1 : World => single_c a w1 (by omega))
          clear hcc ha hb ha' hb' hin hkl
          subst hba
          go_upto_region 14 with fail
          obtain ⟨P, hP⟩ : ∃ P, U1.heap.size = P := ⟨_, rfl⟩
          have d0 : (U1.alloc (.cells #[.int .i64 (a : Int), .int .i64 (b : Int)] 67)).cell? ⟨P, 0, none⟩ = some (.int .i64 (a : Int)) := by rw [← hP]; simp [go_sem]
          have d1 : (U1.alloc (.cells #[.int .i64 (a : Int), .int .i64 (b : Int)] 67)).cell? ⟨P, 1, none⟩ = some (.int .i64 (b : Int)) := by rw [← hP]; simp [go_sem]
          have d2 : P < (U1.alloc (.cells #[.int .i64 (a : Int), .int .i64 (b : Int)] 67)).heap.size := by rw [← hP]; simp
          have gP : g < P := by rw [← hP]; exact HST.out.gr.lt
          have HOP2 := Lib.hid (OpP.mk (HST.out.new ((New.refl U1).alloc (.cells #[.int .i64 (a : Int), .int .i64 (b : Int)] 67))) d0 d1 d2 gP)
          simp only [hP]
          generalize U1.alloc (.cells #[.int .i64 (a : Int), .int .i64 (b : Int)] 67) = U2 at *
          clear hP d0 d1 d2 gP
          skip
          have d0 := HOP2.out.p0
          have d1 := HOP2.out.p1
          have d2 := HOP2.out.pl
          have e1 : U2.cell? ⟨g, 75 + a, none⟩ = some (sv (neF o.B k a)) := by rw [HOP2.out.st.gr.cell]; exact Gph.at_ne _ a (by omega)
          have f1 := HOP2.out.st.gr.froz (75 + a)
          have g1 : g < U2.heap.size := HOP2.out.st.gr.lt
          have HOR := Lib.hid (or32 (neF o.B k a) (2 ^ b) (HL1.out a) (pow_lt b (by omega)))
          have HNX := Lib.hid (show ∀ w5, New U2.drew w5 → OpP w (w5.setCell ⟨g, 75 + a, none⟩ (sv (neF o.B k a ||| 2 ^ b))) H g N (.slice av LA ac) (.slice (some ⟨b0, off, none⟩) LB nc) ⟨N, .slice av LA ac, .slice (some ⟨b0, off, none⟩) LB nc, afF o.A LA, fun _ => 0, beF o.A LA, addL (neF o.B k) a b⟩ P a b from fun w5 h5 => (HOP2.out.new ((New.refl _).drew.trans h5)).set _ _ (Gph.set_ne _ _ _ (by omega)))
          obtain ⟨x1, hx1⟩ : ∃ x1, x1 = neF o.B k a := ⟨_, rfl⟩
          obtain ⟨x2, hx2⟩ : ∃ x2, x2 = 2 ^ b := ⟨_, rfl⟩
          have HSC := Lib.hid (show ∀ w1, Calls Tryd.prog 91 #[.int .i64 (b : Int)] w1 fun e w' => e = .returned (sv x2) ∧ New w1 w' by rw [hx2]; exact HS1.out)
          rw [← hx1, ← hx2] at HNX HOR
          rw [← hx1] at e1
          clear hx1 hx2
          go_cut [63] (fun s wz => OpP w wz H g N (.slice av LA ac) (.slice (some ⟨b0, off, none⟩) LB nc) ⟨N, .slice av LA ac, .slice (some ⟨b0, off, none⟩) LB nc, afF o.A LA, fun _ => 0, beF o.A LA, addL (neF o.B k) a b⟩ P a b)
          case first =>
            go_region_law (go_simp; go_at_call 91; refine (HSC.out _).mono ?_; rintro e w5 ⟨rfl, n5⟩; have N5 := Lib.hid n5; have d0 : w5.cell? ⟨P, 0, none⟩ = some (.int .i64 (a : Int)) := (n5.cell d2).trans d0; have d1 : w5.cell? ⟨P, 1, none⟩ = some (.int .i64 (b : Int)) := (n5.cell d2).trans d1; have e1 : w5.cell? ⟨g, 75 + a, none⟩ = some (sv x1) := (n5.cell g1).trans e1; have f1 : w5.frozen? ⟨g, 75 + a, none⟩ = false := (n5.below.frozen (p := ⟨g, 75 + a, none⟩) g1).trans f1; clear n5)
            all_goals rw [HOR.out]
            all_goals (go_wp2_with fail; go_meet)
            all_goals first | exact HNX.out _ N5.out | exact (HNX.out _ N5.out).new (New.refl _).drew
          case rest =>
            have HOP2n := Lib.hid hcut
            clear hcut d0 d1 d2 e1 f1 g1 HOR HNX HSC
            go_upto_region 15 with fail
            have d0 := HOP2n.out.p0
            have d1 := HOP2n.out.p1
            have d2 := HOP2n.out.pl
            have e1 : wc.cell? ⟨g, 75 + b, none⟩ = some (sv ((addL (neF o.B k) a b) b)) := by rw [HOP2n.out.st.gr.cell]; exact Gph.at_ne _ b (by omega)
            have f1 := HOP2n.out.st.gr.froz (75 + b)
            have g1 : g < wc.heap.size := HOP2n.out.st.gr.lt
            have HOR := Lib.hid (or32 ((addL (neF o.B k) a b) b) (2 ^ a) (HL2.out b) (pow_lt a (by omega)))
            have HNX := Lib.hid (show ∀ w5, New wc.drew w5 → OpP w (w5.setCell ⟨g, 75 + b, none⟩ (sv ((addL (neF o.B k) a b) b ||| 2 ^ a))) H g N (.slice av LA ac) (.slice (some ⟨b0, off, none⟩) LB nc) ⟨N, .slice av LA ac, .slice (some ⟨b0, off, none⟩) LB nc, afF o.A LA, fun _ => 0, beF o.A LA, addL (addL (neF o.B k) a b) b a⟩ P a b from fun w5 h5 => (HOP2n.out.new ((New.refl _).drew.trans h5)).set _ _ (Gph.set_ne _ _ _ (by omega)))
            obtain ⟨x1, hx1⟩ : ∃ x1, x1 = (addL (neF o.B k) a b) b := ⟨_, rfl⟩
            obtain ⟨x2, hx2⟩ : ∃ x2, x2 = 2 ^ a := ⟨_, rfl⟩
            have HSC := Lib.hid (show ∀ w1, Calls Tryd.prog 91 #[.int .i64 (a : Int)] w1 fun e w' => e = .returned (sv x2) ∧ New w1 w' by rw [hx2]; exact HS2.out)
            rw [← hx1, ← hx2] at HNX HOR
            rw [← hx1] at e1
            clear hx1 hx2
            go_region_law (go_simp; go_at_call 91; refine (HSC.out _).mono ?_; rintro e w5 ⟨rfl, n5⟩; have N5 := Lib.hid n5; have d0 : w5.cell? ⟨P, 0, none⟩ = some (.int .i64 (a : Int)) := (n5.cell d2).trans d0; have d1 : w5.cell? ⟨P, 1, none⟩ = some (.int .i64 (b : Int)) := (n5.cell d2).trans d1; have e1 : w5.cell? ⟨g, 75 + b, none⟩ = some (sv x1) := (n5.cell g1).trans e1; have f1 : w5.frozen? ⟨g, 75 + b, none⟩ = false := (n5.below.frozen (p := ⟨g, 75 + b, none⟩) g1).trans f1; clear n5)
            all_goals rw [HOR.out]
            all_goals go_wp2_with fail
            all_goals go_roundw
            all_goals first
              | exact ⟨k + 1, by omega, by go_num, by rw [HNe.out]; exact (HNX.out _ N5.out).st⟩
              | exact ⟨k + 1, by omega, by go_num, by rw [HNe.out]; exact ((HNX.out _ N5.out).new (New.refl _).drew).st⟩
              | (simp [intOf]; omega)
        · have ht2 : ¬ ((k : Int) < (LB : Int)) := by omega
          obtain rfl : LB = k := by omega
          have o6 := HST.out.o6
          have HCH := Lib.hid (fun w1 : World => chained_c (afF o.A LA) N w1 HN24.out (afF_lt HI1.out LA (by rw [HLA.out]; exact Nat.le_refl _)))
          go_wp2_with (first | (refine wpList_load_mid rfl 81 (.tmp 78) rfl g 3 rfl (lk (afF o.A LA)) _ HST.out.gr.af_range Tryd.underlying81 rfl (by rw [lk_len]; exact links_size) ?_) | (go_at_call 113; refine (HCH.out _).mono ?_; rintro e w8 ⟨rfl, n8⟩; have HS8 := Lib.hid (HST.out.new n8); clear n8) | (refine wpList_store_mid rfl 81 (.tmp 83) (.tmp 82) rfl g 27 (lk (chM (afF o.A LA) N N)).toArray rfl rfl (HS8.out.gr.there _ _ (by simp [lk_len])) (links_sizeL _) (lk_all _) ?_; obtain ⟨w9, e9, hs9⟩ : ∃ w9, w9 = w8.setCells g 27 (lk (chM (afF o.A LA) N N)) ∧ OpS w w9 H g N _ _ _ := ⟨_, rfl, HS8.out.setRe _⟩; simp only [← e9]; have HS9 := Lib.hid hs9; clear hs9 e9) | (refine wpList_load_row rfl 83 (.tmp 5) rfl g rfl 83 _ (0, 0) _ HS9.out.gr Tryd.underlying83 rfl (graph_sizeG _) ?_) | (refine wpList_store_row rfl 83 (.tmp 2) (.tmp 84) rfl (H + 1) _ rfl rfl 83 _ HS9.out.rs (graph_sizeG _) (by rw [zc_graph]; simp [Gph.len]) (all_oneCell_toArray (by intro v hv; simp only [Gph.cells, List.mem_cons, List.mem_append] at hv; rcases hv with rfl | rfl | rfl | hv | hv | hv | hv; rfl; rfl; rfl; all_goals exact lk_one _ v hv)) ?_))
          refine bodyPost_ret (results_row_tmp rfl _ _ (H + 1) _ _ _ _ rfl (setRow_heap _ _ _ _ _ _ HS9.out.rs) Tryd.underlying83 rfl (graph_sizeG _)) rfl ?_
          exact ⟨by rw [HOP.out]; rfl, HS9.out.nw.setRow (by rw [HH.out]; omega) _⟩
end Go.Proofs.YtiejefehcpfkaaaDoor
