/- The schedule that ends first, as soonest returns it. Graphs of at most 24 places. -/
import Derived.Test.YtiejefehcpfkaaaDoorSy
set_option linter.unusedSimpArgs false
set_option linter.unusedVariables false
set_option maxRecDepth 100000
namespace Go.Proofs.YtiejefehcpfkaaaDoor
open Go.RowKit Go.Shelf

attribute [local go_sem] Oper.semAt_some

theorem alloc5_heap (W : World) (A B C E K : Obj) (H : Nat) (hH : W.heap.size = H) : (((((W.alloc A).alloc B).alloc C).alloc E).alloc K).heap[H]? = some A ∧ (((((W.alloc A).alloc B).alloc C).alloc E).alloc K).heap[H + 1]? = some B ∧ (((((W.alloc A).alloc B).alloc C).alloc E).alloc K).heap[H + 2]? = some C ∧ (((((W.alloc A).alloc B).alloc C).alloc E).alloc K).heap[H + 3]? = some E ∧ (((((W.alloc A).alloc B).alloc C).alloc E).alloc K).heap[H + 4]? = some K ∧ (((((W.alloc A).alloc B).alloc C).alloc E).alloc K).heap.size = H + 5 := by
  obtain ⟨q1, q2, q3, q4, q5⟩ := alloc4_heap W A B C E H hH
  have hn := (New.refl ((((W.alloc A).alloc B).alloc C).alloc E)).alloc K
  refine ⟨row_new q1 hn, row_new q2 hn, row_new q3 hn, row_new q4 hn, ?_, by simp; omega⟩
  have := World.alloc_heap_new ((((W.alloc A).alloc B).alloc C).alloc E) K
  rw [q5] at this; exact this
def lastO (G : Gph) (dry : Nat) (x : List Nat) : Int := lastI (ints x) (erF G dry (ints x) G.n)
/-- a step of the search: the best order so far, and its last day -/
def soStep (G : Gph) (dry : Nat) (st : Option (List Nat) × Int) (x : List Nat) : Option (List Nat) × Int := if lastO G dry x < st.2 then (some x, lastO G dry x) else st
def soRun (G : Gph) (dry : Nat) : Option (List Nat) × Int → List (List Nat) → Option (List Nat) × Int
  | st, [] => st
  | st, x :: xs => if (soStep G dry st x).2 = (G.n : Int) - 1 then soStep G dry st x else soRun G dry (soStep G dry st x) xs
/-- what the best so far lies in -/
def BestV (G : Gph) (dry : Nat) (H : Nat) (O : Nat → Prop) (V : World) (best : Option (List Nat)) (sO sD : Value) : Prop := match best with
  | none => sO = .slice none 0 0 ∧ sD = .slice none 0 0
  | some x => (V.ownsRow H 3 1 sO x.length (natCells x) ∧ ∀ g, sO.ownBlock = some g → ¬ O g) ∧ ∃ b c, sD = .slice (some ⟨b, 0, none⟩) G.n c ∧ H ≤ b ∧ ¬ O b ∧ Iv V b G.n (erF G dry (ints x) G.n)
theorem three_set {w : World} {A B : Nat} {u0 u1 u2 : Value} {T T2 : TypeId} (x y z : Value) (hA : w.heap[A]? = some (.cells #[u0, u1] T (0, 0))) (hB : w.heap[B]? = some (.cells #[u2] T2 (0, 0))) (hne : A ≠ B) :
    (((w.setCell ⟨A, 0, none⟩ x).setCell ⟨A, 1, none⟩ y).setCell ⟨B, 0, none⟩ z).heap[A]? = some (.cells #[x, y] T (0, 0)) ∧ (((w.setCell ⟨A, 0, none⟩ x).setCell ⟨A, 1, none⟩ y).setCell ⟨B, 0, none⟩ z).heap[B]? = some (.cells #[z] T2 (0, 0)) ∧ Mod (fun q => q = A ∨ q = B) w (((w.setCell ⟨A, 0, none⟩ x).setCell ⟨A, 1, none⟩ y).setCell ⟨B, 0, none⟩ z) := by
  refine ⟨?_, ?_, ((Mod.setCell _ _ _ _ (.inl rfl)).trans (Mod.setCell _ _ _ _ (.inl rfl))).trans (Mod.setCell _ _ _ _ (.inr rfl))⟩
  · rw [heap_setCell_other _ _ _ _ _ hne]
    exact heap_setCell_same _ _ 1 _ (heap_setCell_same _ _ 0 _ hA)
  · have hB' : ((w.setCell ⟨A, 0, none⟩ x).setCell ⟨A, 1, none⟩ y).heap[B]? = some (.cells #[u2] T2 (0, 0)) := by
      rw [heap_setCell_other _ _ _ _ _ (Ne.symm hne), heap_setCell_other _ _ _ _ _ (Ne.symm hne)]; exact hB
    exact heap_setCell_same _ _ 0 _ hB'
structure SoI (G : Gph) (dry : Nat) (w : World) (H : Nat) (O : Nat → Prop) (done : List (List Nat)) (pc : Option Code) (V : World) : Prop where
  hi : ∀ q, O q → H + 5 ≤ q
  nw : New w V
  sz : H + 5 ≤ V.heap.size
  gr : Gr V H G
  dr : V.heap[H + 1]? = some (.cells #[.int .i64 (dry : Int)] 3 (0, 0))
  rs : V.heap[H + 2]? = some (.cells #[.slice none 0 0, .slice none 0 0] 61 (0, 0))
  st : ∃ best least sO sD, V.heap[H + 3]? = some (.cells #[sO, sD] 61 (0, 0)) ∧ V.heap[H + 4]? = some (.cells #[.int .i64 least] 3 (0, 0)) ∧ BestV G dry (H + 5) O V best sO sD ∧
    (pc = none ∧ (∀ rest, soRun G dry (none, 2001) (done ++ rest) = soRun G dry (best, least) rest) ∨ pc = some (.exit 0) ∧ ∀ rest, soRun G dry (none, 2001) (done ++ rest) = (best, least))
theorem BestV.stable {G : Gph} {dry H : Nat} {O O' : Nat → Prop} {V V' : World} {best : Option (List Nat)} {sO sD : Value} (h : BestV G dry H O V best sO sD) (hm : Mod O V V') (ho : ∀ q, O' q → O q ∨ V.heap.size ≤ q) : BestV G dry H O' V' best sO sD := by
  cases best with
  | none => exact h
  | some x =>
    obtain ⟨⟨h1, h2⟩, b, c, h3, h4, h5, h6⟩ := h
    refine ⟨⟨own_keep h1 fun g hg => hm.2 g (h1.lt g hg).2 (h2 g hg), fun g hg h' => (ho g h').elim (h2 g hg) (fun h => by have := (h1.lt g hg).2; omega)⟩, b, c, h3, h4, fun h' => (ho b h').elim h5 (fun h => by have := h6.lt; omega), (hm.2 b h6.lt h5).trans h6⟩
theorem BestV.more {G : Gph} {dry H B : Nat} {O O' : Nat → Prop} {V : World} {best : Option (List Nat)} {sO sD : Value} (h : BestV G dry H O V best sO sD) (hb : B ≤ H) (ho : ∀ q, O' q → O q ∨ q < H) : BestV G dry B O' V best sO sD := by
  cases best with
  | none => exact h
  | some x =>
    obtain ⟨⟨h1, h2⟩, b, c, h3, h4, h5, h6⟩ := h
    exact ⟨⟨own_base h1 hb, fun g hg h' => (ho g h').elim (h2 g hg) (fun h => by have := (h1.lt g hg).1; omega)⟩, b, c, h3, by omega, fun h' => (ho b h').elim h5 (fun h => by omega), h6⟩
theorem SoI.stable {G : Gph} {dry : Nat} {w : World} {H : Nat} (hH : w.heap.size = H) {O O' : Nat → Prop} {done : List (List Nat)} {pc : Option Code} {V V' : World} (h : SoI G dry w H O done pc V) (hm : Mod O V V') (ho : ∀ q, O' q → O q ∨ V.heap.size ≤ q) : SoI G dry w H O' done pc V' := by
  obtain ⟨h1, h2, h3, h4, h5, h6, best, least, sO, sD, k1, k2, k3, k4⟩ := h
  have hlow : ∀ q o, q < H + 5 → V.heap[q]? = some o → V'.heap[q]? = some o := fun q o hq hv => (hm.2 _ (by omega) (fun h' => by have := h1 _ h'; omega)).trans hv
  exact ⟨fun q hq => (ho q hq).elim (h1 q) (fun h => by omega), Mod.new h2 hm (fun k hk => by have := h1 k hk; omega), Nat.le_trans h3 hm.size, hlow _ _ (by omega) h4, hlow _ _ (by omega) h5, hlow _ _ (by omega) h6, best, least, sO, sD, hlow _ _ (by omega) k1, hlow _ _ (by omega) k2, k3.stable hm ho, k4⟩

theorem sched_size : (Tryd.prog.info? 61).map (·.size) = some 2 := by kernel_rfl
set_option maxHeartbeats 8000000 in
theorem soonest_c (G : Gph) (dry : Nat) (w : World) (hG : G.ok) (hL : G.low) (hd : dry ≤ 30) (hT : Tab w) : Calls Tryd.prog 128 #[.agg G.cells.toArray, .int .i64 (dry : Int)] w fun en w' =>
    ∃ sO sD, en = .returned (.agg #[sO, sD]) ∧ New w w' ∧ BestV G dry w.heap.size (fun _ => False) w' (soRun G dry (none, 2001) (ordG G)).1 sO sD := by
  obtain ⟨H, hH⟩ : ∃ H, w.heap.size = H := ⟨_, rfl⟩
  obtain ⟨GC, hGC⟩ : ∃ GC, GC = G.cells.toArray := ⟨_, rfl⟩
  have HGT := Lib.hid (show ∀ W1, Gr W1 H G → (Instr.loadAt 83 (.pointer (some ⟨H, 0, none⟩))).run Tryd.prog W1 = .ok (.agg GC) W1 from fun W1 h => by rw [hGC]; exact Gr.get h)
  have HIT := Lib.hid (fun (W1 : World) (hn : New w W1) => orders_it G hG W1 (hT.new hn))
  have HEA := Lib.hid (fun (W1 : World) (av : Option Addr) (cap : Nat) (x : List Nat) (hx : x ∈ ordG G) (hi : Ins W1 av (ints x)) (ht : Tab W1) => earliest_c G dry av cap (ints x) W1 hG (ordG_io hG hL hx) hd hi ht)
  have HIO := Lib.hid (fun (x : List Nat) (hx : x ∈ ordG G) => ordG_io hG hL hx)
  rw [← hGC] at HIT HEA ⊢
  have HGC := Lib.hid hGC
  have HT := Lib.hid hT
  have HH := Lib.hid hH
  have hn24 := hG.n24
  have HG := Lib.hid hG
  clear hT hG hGC hL
  refine (callsIn_wide (n := 5)).1 ?_
  refine callsIn_of_wp_marks Tryd.func128 rfl trivial ?_ rfl
  simp only [Tryd.ntmps128, List.size_toArray, List.length_cons, List.length_nil, Nat.reduceAdd, Nat.reduceSub, Array.replicate_succ, Array.replicate_zero, List.push_toArray, List.append_toArray, List.nil_append, List.cons_append]
  have HWF := Lib.hid (show Gr (((((w.alloc (.cells GC 83)).alloc (.cells #[.int .i64 (dry : Int)] 3)).alloc (.cells #[.slice none 0 0, .slice none 0 0] 61)).alloc (.cells #[.slice none 0 0, .slice none 0 0] 61)).alloc (.cells #[.int .i64 2001] 3)) H G from by
    have := (alloc5_heap w (.cells GC 83) (.cells #[.int .i64 (dry : Int)] 3) (.cells #[.slice none 0 0, .slice none 0 0] 61) (.cells #[.slice none 0 0, .slice none 0 0] 61) (.cells #[.int .i64 2001] 3) H HH.out).1
    rw [HGC.out] at this ⊢; exact this)
  gi_wp2_with (refine wpListIn_load_run rfl _ (.tmp 2) rfl (HGT.out _ HWF.out) ?_)
  obtain ⟨WS, HWS⟩ : ∃ WS : World, Hid (WS = (((((w.alloc (.cells GC 83)).alloc (.cells #[.int .i64 (dry : Int)] 3)).alloc (.cells #[.slice none 0 0, .slice none 0 0] 61)).alloc (.cells #[.slice none 0 0, .slice none 0 0] 61)).alloc (.cells #[.int .i64 2001] 3))) := ⟨_, Lib.hid rfl⟩
  obtain ⟨q1, q2, q3, q4, q5, q6⟩ := alloc5_heap w (.cells GC 83) (.cells #[.int .i64 (dry : Int)] 3) (.cells #[.slice none 0 0, .slice none 0 0] 61) (.cells #[.slice none 0 0, .slice none 0 0] 61) (.cells #[.int .i64 2001] 3) H HH.out
  rw [← HWS.out] at q1 q2 q3 q4 q5 q6
  rw [← HWS.out]
  have hnS : New w WS := by rw [HWS.out]; exact (((((New.refl _).alloc _).alloc _).alloc _).alloc _).alloc _
  have hgS : Gr WS H G := by rw [HGC.out] at q1; exact q1
  have HNS := Lib.hid hnS
  have HTS := Lib.hid (HT.out.new hnS)
  refine range_first (n := 5) (by omega) rfl (enters_of Tryd.func138 (by kernel_rfl) rfl) (fb := #[.agg GC]) (lb := #[]) (Elem := ElemO) (xs := ordG G) (E := tabE)
    (fun W1 hn1 _ => HIT.out W1 (HNS.out.trans hn1)) (fun q hq => by have := HTS.out.1; unfold tabE at hq; omega) (by rintro x args O W ⟨b, v, rfl, _⟩; rfl)
    (SoI G dry w H) (fun O O' done pc W W' h hm ho => h.stable HH.out hm ho) ?h0 ?hbody ?hdone ?hstop
  case h0 =>
    refine ⟨fun q hq => ?_, hnS, by omega, hgS, q2, q3, none, 2001, .slice none 0 0, .slice none 0 0, q4, q5, ⟨rfl, rfl⟩, .inl ⟨rfl, fun rest => rfl⟩⟩
    rcases hq with hq | hq | hq
    · cases hq
    · omega
    · omega
  case hbody =>
    rw [q6]
    rintro m O done x args V hI ⟨base, v, rfl, hv⟩ hpx hD1 hD0 ⟨r, hr⟩ hbnd
    have hxl : x.length = G.n := ordG_len hpx
    have hxm : x ∈ ordG G := by obtain ⟨r, hr⟩ := hpx; rw [← hr]; simp
    have HXM := Lib.hid hxm
    have HI := Lib.hid hI
    have HV := Lib.hid hv
    have HD1 := Lib.hid hD1
    have hdl := (Array.getElem?_eq_some_iff.1 hr).1
    have HBV := Lib.hid (show ∀ q, plus (H + 5) O q → q < V.heap.size from fun q hq => by
      rcases hq with hq | hq | hq
      · exact hbnd q hq
      · omega
      · omega)
    clear hI hv hpx hD1 hD0 hr hbnd hdl hxm q1 q2 q3 q4 q5
    gi_wp2
    refine ⟨Keep.refl _ _, ?_⟩
    intro V2 hb2 hs2 ho2 hr2
    have HI2 := Lib.hid (HI.out.stable (O' := plus (H + 5) O) HH.out (V' := V2) ⟨hb2, fun q hq h' => ho2 q (fun e => h' (.inr (.inr e)))⟩ (fun q hq => .inl hq))
    have hv2 : V2.ownsRow base 3 1 v x.length (natCells x) := own_keep HV.out.1 (fun g hg => ho2 g (fun e => HD1.out (by rw [← e]; exact (HV.out.2 g hg).1)))
    have HBV2 := Lib.hid (show ∀ q, plus (H + 5) O q → q < V2.heap.size from fun q hq => Nat.lt_of_lt_of_le (HBV.out q hq) hb2.size)
    have HV2 := Lib.hid hv2
    obtain ⟨av, cv, rfl, hins⟩ := SlI.of_own hv2
    clear hb2 hs2 ho2 hr2 hv2
    obtain ⟨best, least, sO, sD, k1, k2, k3, k4⟩ := HI2.out.st
    rcases k4 with ⟨_, k4⟩ | ⟨e, _⟩
    case inr => cases e
    have HK1 := Lib.hid k1
    have HK2 := Lib.hid k2
    have HK3 := Lib.hid k3
    have HK4 := Lib.hid k4
    have hTV := HT.out.new HI2.out.nw
    have HEAV := Lib.hid (CallsIn.inRound (H + 5 + 1) ((callsIn_wide (n := m - 1)).2 (HEA.out V2 av cv x HXM.out hins hTV)))
    have HINS := Lib.hid hins
    rw [ints_len, hxl] at HEAV ⊢
    have c2 : V2.cell? ⟨H + 1, 0, none⟩ = some (.int .i64 (dry : Int)) := (box_cell HI2.out.dr).1
    have HGV := Lib.hid (HGT.out V2 HI2.out.gr)
    clear k1 k2 k3 k4 hTV hins
    have HXL := Lib.hid hxl
    have hlr : 0 < (ints x).length → 0 ≤ nI (ints x) ((ints x).length - 1) ∧ nI (ints x) ((ints x).length - 1) < (G.n : Int) := fun h => (ioB_facts (HIO.out x HXM.out)).2 _ (by omega)
    have HLR := Lib.hid hlr
    clear hxl hlr
    gi_wp2_with (refine wpListIn_load_run rfl _ (.tmp 2) rfl HGV.out ?_)
    refine ⟨trivial, fun h => by simp [Fence.wide] at h, ?_⟩
    refine HEAV.out.mono ?_
    rintro e w3 ⟨bD, cD, rfl, n3, z3, iv3⟩
    have HLA := Lib.hid (CallsIn.inRound (H + 5 + 1) ((callsIn_wide (n := m - 1)).2 (lastDay_c av cv (ints x) bD G.n cD _ w3 (by rw [ints_len, HXL.out]; omega) (HINS.out.new n3) iv3 HLR.out)))
    rw [ints_len, HXL.out] at HLA
    have N3 := Lib.hid n3
    have Z3 := Lib.hid z3
    have I3 := Lib.hid iv3
    clear n3 z3 iv3 c2
    obtain ⟨L, hL⟩ : ∃ L, lastO G dry x = L := ⟨_, rfl⟩
    have hL' : lastI (ints x) (erF G (dry : Int) (ints x) G.n) = L := hL
    rw [hL'] at HLA
    have HS := Lib.hid (show soStep G dry (best, least) x = if L < least then (some x, L) else (best, least) from by rw [← hL]; rfl)
    have HRUN := Lib.hid (show ∀ rest, soRun G dry (best, least) (x :: rest) = if (soStep G dry (best, least) x).2 = (G.n : Int) - 1 then soStep G dry (best, least) x else soRun G dry (soStep G dry (best, least) x) rest from fun _ => rfl)
    have HK1' := Lib.hid (row_new HK1.out N3.out)
    have HK2' := Lib.hid (row_new HK2.out N3.out)
    have HN3 := Lib.hid (HI2.out.nw.trans N3.out)
    have hsz3 : H + 5 ≤ w3.heap.size := Nat.le_trans HI2.out.sz N3.out.size
    have HSZ3 := Lib.hid hsz3
    have HGR3 := Lib.hid (HI2.out.gr.new N3.out)
    have c4 := box_cell HK2'.out
    have c5 := (HGR3.out).n
    have hwn : IntKind.i64.wrap ((G.n : Int) - 1) = (G.n : Int) - 1 := IntWalk.i64_in _ (by omega)
    clear hL hL' hsz3
    by_cases hlt : L < least
    · rw [if_pos hlt] at HS
      have HCL := Lib.hid (CallsIn.inRound (H + 5 + 1) ((callsIn_wide (n := m - 1)).2 (clone_c w3 (by rw [HXL.out]; omega) (own_new HV2.out N3.out))))
      rw [ints_len, HXL.out] at HCL
      gi_wp2
      refine ⟨trivial, fun h => by simp [Fence.wide] at h, ?_⟩
      refine HLA.out.mono ?_
      rintro e w4 ⟨rfl, rfl⟩
      gi_wp2
      refine ⟨trivial, fun h => by simp [Fence.wide] at h, ?_⟩
      refine HCL.out.mono ?_
      rintro e w5 ⟨v5, rfl, n5, own5⟩
      obtain ⟨a5, p5, rfl⟩ := own_slice own5
      have HK15 := Lib.hid (row_new HK1'.out n5)
      have HK25 := Lib.hid (row_new HK2'.out n5)
      have c4 := box_cell HK25.out
      have c5 := (HGR3.out.new n5).n
      have N5 := Lib.hid n5
      have OW5 := Lib.hid own5
      have c8 : w5.cell? ⟨H + 1 + 1 + 1, 0, none⟩ = some sO := by
        have := cell_of_row w5 (H + 3) 0 _ _ _ HK15.out
        exact this.trans rfl
      have c9 : w5.cell? ⟨H + 1 + 1 + 1, 1, none⟩ = some sD := by
        have := cell_of_row w5 (H + 3) 1 _ _ _ HK15.out
        exact this.trans rfl
      have f8 : w5.frozen? ⟨H + 1 + 1 + 1, 0, none⟩ = false := by
        have h : w5.heap[H + 1 + 1 + 1]? = _ := HK15.out
        simp [World.frozen?, h]
      have f9 : w5.frozen? ⟨H + 1 + 1 + 1, 1, none⟩ = false := by
        have h : w5.heap[H + 1 + 1 + 1]? = _ := HK15.out
        simp [World.frozen?, h]
      obtain ⟨W9, HW9⟩ : ∃ W9 : World, Hid (W9 = ((w5.setCell ⟨H + 1 + 1 + 1, 0, none⟩ (.slice a5 G.n p5)).setCell ⟨H + 1 + 1 + 1, 1, none⟩ (.slice (some ⟨bD, 0, none⟩) G.n cD)).setCell ⟨H + 1 + 1 + 1 + 1, 0, none⟩ (.int .i64 L)) := ⟨_, Lib.hid rfl⟩
      have HR := Lib.hid (show ∀ (pc : Option Code) (e : Exit), (pc = none ∧ e = .normal ∧ L ≠ (G.n : Int) - 1 ∨ pc = some (.exit 0) ∧ e = .exit 0 ∧ L = (G.n : Int) - 1) → RoundG (H + 5) O tabE (SoI G dry w H) (done ++ [x]) V2 e W9 from fun pc e hpc => by
        obtain ⟨a1, a2, a3⟩ := three_set (w := w5) (A := H + 3) (B := H + 4) (.slice a5 G.n p5) (.slice (some ⟨bD, 0, none⟩) G.n cD) (.int .i64 L) HK15.out HK25.out (by omega)
        have ew : W9 = ((w5.setCell ⟨H + 3, 0, none⟩ (.slice a5 G.n p5)).setCell ⟨H + 3, 1, none⟩ (.slice (some ⟨bD, 0, none⟩) G.n cD)).setCell ⟨H + 4, 0, none⟩ (.int .i64 L) := HW9.out
        rw [← ew] at a1 a2 a3
        have hT0 := HT.out.1
        rw [HH.out] at hT0
        have hsz2 := HI2.out.sz
        have hn5 : New V2 w5 := N3.out.trans N5.out
        have hlow : ∀ q o, q < H + 3 → V2.heap[q]? = some o → W9.heap[q]? = some o := fun q o hq hv => (a3.2 q (by have := hn5.size; omega) (fun h' => by omega)).trans ((hn5.below.block q (by omega)).trans hv)
        have hbD := Z3.out
        have ho5 : W9.ownsRow (H + 5) 3 1 (.slice a5 x.length p5) x.length (natCells x) := by
          have := own_base (base' := H + 5) OW5.out (by have := N3.out.size; omega)
          rw [← HXL.out] at this
          exact own_keep this (fun g hg => a3.2 g (this.lt g hg).2 (fun h' => by have := (this.lt g hg).1; omega))
        refine ⟨(Keep.of_new hn5).trans (Keep.of_mod a3 fun q hq h' => ?_), pc, ⟨HI2.out.hi, Mod.new (HI2.out.nw.trans hn5) a3 (fun k hk => by rw [HH.out]; omega), by have := hn5.size; have := a3.size; omega, hlow _ _ (by omega) HI2.out.gr, hlow _ _ (by omega) HI2.out.dr, hlow _ _ (by omega) HI2.out.rs, some x, L, _, _, a1, a2, ⟨⟨HXL.out ▸ ho5, fun g hg h' => ?_⟩, bD, cD, rfl, by omega, fun h' => ?_, ?_⟩, ?_⟩, ?_⟩
        · rcases hq with hq | hq
          · have := HI2.out.hi q hq; omega
          · unfold tabE at hq; omega
        · have h3 := (OW5.out.lt g hg).1
          have := N3.out.size
          have := HBV2.out g h'; omega
        · have := HBV2.out bD h'; omega
        · exact (a3.2 bD (Nat.lt_of_lt_of_le I3.out.lt N5.out.size) (fun h' => by omega)).trans (row_new I3.out N5.out)
        · rcases hpc with ⟨rfl, _, hne⟩ | ⟨rfl, _, he⟩
          · refine .inl ⟨rfl, fun rest => ?_⟩
            have := HK4.out (x :: rest)
            rw [List.append_assoc, List.singleton_append, this, HRUN.out, HS.out, if_neg hne]
          · refine .inr ⟨rfl, fun rest => ?_⟩
            have := HK4.out (x :: rest)
            rw [List.append_assoc, List.singleton_append, this, HRUN.out, HS.out, if_pos he]
        · rcases hpc with ⟨rfl, rfl, _⟩ | ⟨rfl, rfl, _⟩
          · exact .inl ⟨rfl, rfl⟩
          · exact .inr (.inr ⟨0, rfl, rfl⟩))
      clear n5 own5
      by_cases hq : L = (G.n : Int) - 1
      · have hq' : (L == (G.n : Int) - 1) = true := by simpa using hq
        have HQ := Lib.hid hq
        clear hq
        gi_wp2
        rw [← HW9.out]
        exact HR.out _ _ (.inr ⟨rfl, rfl, HQ.out⟩)
      · have hq' : (L == (G.n : Int) - 1) = false := by simpa using hq
        have HQ := Lib.hid hq
        clear hq
        gi_wp2
        rw [← HW9.out]
        exact HR.out _ _ (.inl ⟨rfl, rfl, HQ.out⟩)
    · rw [if_neg hlt] at HS
      have HR := Lib.hid (show ∀ (pc : Option Code) (e : Exit), (pc = none ∧ e = .normal ∧ least ≠ (G.n : Int) - 1 ∨ pc = some (.exit 0) ∧ e = .exit 0 ∧ least = (G.n : Int) - 1) → RoundG (H + 5) O tabE (SoI G dry w H) (done ++ [x]) V2 e w3 from fun pc e hpc => by
        have hn3 : New V2 w3 := N3.out
        have hm3 : Mod (plus (H + 5) O) V2 w3 := Mod.of_new hn3
        refine ⟨Keep.of_new hn3, pc, ⟨HI2.out.hi, HI2.out.nw.trans hn3, HSZ3.out, HGR3.out, row_new HI2.out.dr hn3, row_new HI2.out.rs hn3, best, least, sO, sD, HK1'.out, HK2'.out, HK3.out.stable hm3 (fun q hq => .inl hq), ?_⟩, ?_⟩
        · rcases hpc with ⟨rfl, _, hne⟩ | ⟨rfl, _, he⟩
          · refine .inl ⟨rfl, fun rest => ?_⟩
            have := HK4.out (x :: rest)
            rw [List.append_assoc, List.singleton_append, this, HRUN.out, HS.out, if_neg hne]
          · refine .inr ⟨rfl, fun rest => ?_⟩
            have := HK4.out (x :: rest)
            rw [List.append_assoc, List.singleton_append, this, HRUN.out, HS.out, if_pos he]
        · rcases hpc with ⟨rfl, rfl, _⟩ | ⟨rfl, rfl, _⟩
          · exact .inl ⟨rfl, rfl⟩
          · exact .inr (.inr ⟨0, rfl, rfl⟩))
      by_cases hq : least = (G.n : Int) - 1
      · have hq' : (least == (G.n : Int) - 1) = true := by simpa using hq
        have HQ := Lib.hid hq
        clear hq
        gi_wp2
        refine ⟨trivial, fun h => by simp [Fence.wide] at h, ?_⟩
        refine HLA.out.mono ?_
        rintro e w4 ⟨rfl, rfl⟩
        gi_wp2
        exact HR.out _ _ (.inr ⟨rfl, rfl, HQ.out⟩)
      · have hq' : (least == (G.n : Int) - 1) = false := by simpa using hq
        have HQ := Lib.hid hq
        clear hq
        gi_wp2
        refine ⟨trivial, fun h => by simp [Fence.wide] at h, ?_⟩
        refine HLA.out.mono ?_
        rintro e w4 ⟨rfl, rfl⟩
        gi_wp2
        exact HR.out _ _ (.inl ⟨rfl, rfl, HQ.out⟩)
  case hdone =>
    rw [q6]
    rintro O V hI hmk
    have HI := Lib.hid hI
    have HMK := Lib.hid hmk
    obtain ⟨best, least, sO, sD, k1, k2, k3, k4⟩ := hI.st
    have HK1 := Lib.hid k1
    have HK3 := Lib.hid k3
    rcases k4 with ⟨_, k4⟩ | ⟨e, _⟩
    case inr => cases e
    have HB := Lib.hid (show (soRun G dry (none, 2001) (ordG G)).1 = best from by have := k4 []; rw [List.append_nil] at this; rw [this]; rfl)
    clear k4
    have c8 : V.cell? ⟨H + 1 + 1 + 1, 0, none⟩ = some sO := by
      have := cell_of_row V (H + 3) 0 _ _ _ HK1.out
      exact this.trans rfl
    have c9 : V.cell? ⟨H + 1 + 1 + 1, 1, none⟩ = some sD := by
      have := cell_of_row V (H + 3) 1 _ _ _ HK1.out
      exact this.trans rfl
    have c6 : V.cell? ⟨H + 1 + 1, 0, none⟩ = some (.slice none 0 0) := by
      have := cell_of_row V (H + 2) 0 _ _ _ HI.out.rs
      exact this.trans rfl
    have c7 : V.cell? ⟨H + 1 + 1, 1, none⟩ = some (.slice none 0 0) := by
      have := cell_of_row V (H + 2) 1 _ _ _ HI.out.rs
      exact this.trans rfl
    have f6 : V.frozen? ⟨H + 1 + 1, 0, none⟩ = false := by
      have h : V.heap[H + 1 + 1]? = _ := HI.out.rs
      simp [World.frozen?, h]
    have f7 : V.frozen? ⟨H + 1 + 1, 1, none⟩ = false := by
      have h : V.heap[H + 1 + 1]? = _ := HI.out.rs
      simp [World.frozen?, h]
    clear hI hmk k1 k2 k3 q1 q2 q3 q4 q5 q6 hnS hgS
    obtain ⟨aO, lO, pO, rfl⟩ : ∃ a l c, sO = .slice a l c := by
      cases best with
      | none => exact ⟨_, _, _, HK3.out.1⟩
      | some x => obtain ⟨a, c, e⟩ := own_slice HK3.out.1.1; exact ⟨_, _, _, e⟩
    obtain ⟨aD, lD, pD, rfl⟩ : ∃ a l c, sD = .slice a l c := by
      cases best with
      | none => exact ⟨_, _, _, HK3.out.2⟩
      | some x => obtain ⟨_, b, c, e, _⟩ := HK3.out; exact ⟨_, _, _, e⟩
    gi_wp2
    have a1 : ((V.setCell ⟨H + 2, 0, none⟩ (.slice aO lO pO)).setCell ⟨H + 2, 1, none⟩ (.slice aD lD pD)).heap[H + 2]? = some (.cells #[.slice aO lO pO, .slice aD lD pD] 61 (0, 0)) := heap_setCell_same _ _ 1 _ (heap_setCell_same _ _ 0 _ HI.out.rs)
    have a3 : Mod (fun q => q = H + 2) V ((V.setCell ⟨H + 2, 0, none⟩ (.slice aO lO pO)).setCell ⟨H + 2, 1, none⟩ (.slice aD lD pD)) := (Mod.setCell (O := fun q => q = H + 2) _ _ _ _ rfl).trans (Mod.setCell (O := fun q => q = H + 2) _ _ _ _ rfl)
    have hsz := HI.out.sz
    refine leaves_marks [H + 5] _ (by simp) (fun q hq => ?_) (fun W9 hm => ?_)
    · simp at hq; subst hq
      exact (a3.2 _ (Array.getElem?_eq_some_iff.1 HMK.out).1 (fun h => by omega)).trans HMK.out
    · have a2 := (hm.2 (H + 2) (Array.getElem?_eq_some_iff.1 a1).1 (fun h => by simp at h)).trans a1
      have hX : Mod (fun q => plus (H + 5) O q ∨ q < H + 5) V W9 := (a3.mono fun q hq => .inr (by omega)).trans (hm.mono fun q hq => .inl (.inr (.inl (by simpa using hq))))
      have hY : Mod (fun q => q = H + 2 ∨ q = H + 5) V W9 := (a3.mono fun q hq => .inl hq).trans (hm.mono fun q hq => .inr (by simpa using hq))
      refine ⟨_, results_cell_row rfl _ _ (H + 2) _ _ _ _ rfl a2 Tryd.underlying61 rfl sched_size, ?_⟩
      refine ⟨_, _, rfl, Mod.new HI.out.nw hY (fun k hk => by rw [HH.out]; omega), ?_⟩
      rw [HB.out]
      try rw [HH.out]
      exact ((HK3.out.more (O' := fun q => plus (H + 5) O q ∨ q < H + 5) (Nat.le_refl _) (fun q hq => hq)).stable hX (O' := fun _ => False) (fun q hq => hq.elim)).more (by omega) (fun q hq => hq.elim)
  case hstop =>
    rw [q6]
    rintro O done cc V hI hpx hmk
    have HI := Lib.hid hI
    have HMK := Lib.hid hmk
    obtain ⟨best, least, sO, sD, k1, k2, k3, k4⟩ := hI.st
    have HK1 := Lib.hid k1
    have HK3 := Lib.hid k3
    rcases k4 with ⟨e, _⟩ | ⟨e, k4⟩
    case inl => cases e
    obtain rfl : cc = .exit 0 := by simpa using e
    have HB := Lib.hid (show (soRun G dry (none, 2001) (ordG G)).1 = best from by obtain ⟨r, hr⟩ := hpx; rw [← hr, k4 r])
    clear k4 e hpx
    have c8 : V.cell? ⟨H + 1 + 1 + 1, 0, none⟩ = some sO := by
      have := cell_of_row V (H + 3) 0 _ _ _ HK1.out
      exact this.trans rfl
    have c9 : V.cell? ⟨H + 1 + 1 + 1, 1, none⟩ = some sD := by
      have := cell_of_row V (H + 3) 1 _ _ _ HK1.out
      exact this.trans rfl
    have c6 : V.cell? ⟨H + 1 + 1, 0, none⟩ = some (.slice none 0 0) := by
      have := cell_of_row V (H + 2) 0 _ _ _ HI.out.rs
      exact this.trans rfl
    have c7 : V.cell? ⟨H + 1 + 1, 1, none⟩ = some (.slice none 0 0) := by
      have := cell_of_row V (H + 2) 1 _ _ _ HI.out.rs
      exact this.trans rfl
    have f6 : V.frozen? ⟨H + 1 + 1, 0, none⟩ = false := by
      have h : V.heap[H + 1 + 1]? = _ := HI.out.rs
      simp [World.frozen?, h]
    have f7 : V.frozen? ⟨H + 1 + 1, 1, none⟩ = false := by
      have h : V.heap[H + 1 + 1]? = _ := HI.out.rs
      simp [World.frozen?, h]
    clear hI hmk k1 k2 k3 q1 q2 q3 q4 q5 q6 hnS hgS
    obtain ⟨aO, lO, pO, rfl⟩ : ∃ a l c, sO = .slice a l c := by
      cases best with
      | none => exact ⟨_, _, _, HK3.out.1⟩
      | some x => obtain ⟨a, c, e⟩ := own_slice HK3.out.1.1; exact ⟨_, _, _, e⟩
    obtain ⟨aD, lD, pD, rfl⟩ : ∃ a l c, sD = .slice a l c := by
      cases best with
      | none => exact ⟨_, _, _, HK3.out.2⟩
      | some x => obtain ⟨_, b, c, e, _⟩ := HK3.out; exact ⟨_, _, _, e⟩
    gi_wp2
    have a1 : ((V.setCell ⟨H + 2, 0, none⟩ (.slice aO lO pO)).setCell ⟨H + 2, 1, none⟩ (.slice aD lD pD)).heap[H + 2]? = some (.cells #[.slice aO lO pO, .slice aD lD pD] 61 (0, 0)) := heap_setCell_same _ _ 1 _ (heap_setCell_same _ _ 0 _ HI.out.rs)
    have a3 : Mod (fun q => q = H + 2) V ((V.setCell ⟨H + 2, 0, none⟩ (.slice aO lO pO)).setCell ⟨H + 2, 1, none⟩ (.slice aD lD pD)) := (Mod.setCell (O := fun q => q = H + 2) _ _ _ _ rfl).trans (Mod.setCell (O := fun q => q = H + 2) _ _ _ _ rfl)
    have hsz := HI.out.sz
    refine leaves_marks [H + 5] _ (by simp) (fun q hq => ?_) (fun W9 hm => ?_)
    · simp at hq; subst hq
      exact (a3.2 _ (Array.getElem?_eq_some_iff.1 HMK.out).1 (fun h => by omega)).trans HMK.out
    · have a2 := (hm.2 (H + 2) (Array.getElem?_eq_some_iff.1 a1).1 (fun h => by simp at h)).trans a1
      have hX : Mod (fun q => plus (H + 5) O q ∨ q < H + 5) V W9 := (a3.mono fun q hq => .inr (by omega)).trans (hm.mono fun q hq => .inl (.inr (.inl (by simpa using hq))))
      have hY : Mod (fun q => q = H + 2 ∨ q = H + 5) V W9 := (a3.mono fun q hq => .inl hq).trans (hm.mono fun q hq => .inr (by simpa using hq))
      refine ⟨_, results_cell_row rfl _ _ (H + 2) _ _ _ _ rfl a2 Tryd.underlying61 rfl sched_size, ?_⟩
      refine ⟨_, _, rfl, Mod.new HI.out.nw hY (fun k hk => by rw [HH.out]; omega), ?_⟩
      rw [HB.out]
      try rw [HH.out]
      exact ((HK3.out.more (O' := fun q => plus (H + 5) O q ∨ q < H + 5) (Nat.le_refl _) (fun q hq => hq)).stable hX (O' := fun _ => False) (fun q hq => hq.elim)).more (by omega) (fun q hq => hq.elim)
end Go.Proofs.YtiejefehcpfkaaaDoor
