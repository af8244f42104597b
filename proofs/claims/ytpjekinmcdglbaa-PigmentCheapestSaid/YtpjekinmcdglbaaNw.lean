import Derived.Test.YtpjekinmcdglbaaCw
import Derived.Test.YtpjekinmcdglbaaFj
import Derived.Test.YtpjekinmcdglbaaCv
import Derived.Stop.RegionWithIn
import Derived.Sort.CutIn

/- dualOf gives a dual that fits, where some free tints' dual does. -/
namespace Go.Proofs.Ytpjekinmcdglbaa
set_option linter.unusedSimpArgs false
set_option linter.unusedVariables false
open Go.RowKit Go.Shelf

attribute [local go_sem] Oper.semAt_some

/-- the dual that free tints give fits -/
def fitB (T : List T5) (n : Nat) (lx ly a1 a2 a3 : Int) (y : List Nat × (Nat → Int)) : Bool := duB T n (soI y.2 (prTo T y.1 y.1.length)) (sg1 (detI y.2) * detI y.2) lx ly a1 a2 a3
def DuJ (T : List T5) (n : Nat) (w : World) (sl : Value) (a1 a2 a3 lx ly : Int) (O : Nat → Prop) (done : List (List Nat × (Nat → Int))) (bb : Bool) (W : World) : Prop :=
  (∀ k, O k → w.heap.size + 4 ≤ k) ∧ New w W ∧ DuH w W sl a1 a2 a3 lx ly ∧ ∃ (N : Nat → Int) (den : Int), W.heap[w.heap.size + 3]? = some (.cells (arr5 (N 0) (N 1) (N 2) (N 3) den) 49 (0, 0)) ∧ (bb = false → ∀ y ∈ done, fitB T n lx ly a1 a2 a3 y = false) ∧ (bb = true → duB T n N den lx ly a1 a2 a3 = true)
theorem DuJ.stable (T : List T5) (n : Nat) (w : World) (sl : Value) (a1 a2 a3 lx ly : Int) : StableJ (DuJ T n w sl a1 a2 a3 lx ly) := by
  rintro O O' done b W W' ⟨h2, h1, h3, N, den, h4, h5, h6⟩ hm ho
  have hk : ∀ k o, k < w.heap.size + 4 → W.heap[k]? = some o → W'.heap[k]? = some o := fun k o hk h => (hm.2 k (Array.getElem?_eq_some_iff.1 h).1 (fun h' => by have := h2 k h'; omega)).trans h
  have hl := (Array.getElem?_eq_some_iff.1 h4).1
  refine ⟨fun k h => ?_, Mod.new h1 hm fun k h => by have := h2 k h; omega, h3.of fun k o hk' => hk k o (by omega), N, den, hk _ _ (by omega) h4, h5, h6⟩
  rcases ho k h with h' | h'
  · exact h2 k h'
  · omega
def DuS (T : List T5) (n : Nat) (lx ly a1 a2 a3 : Int) (w : World) (en : Ending) (w' : World) : Prop := ∃ (N : Nat → Int) (den : Int), en = .returned (.agg (arr5 (N 0) (N 1) (N 2) (N 3) den)) ∧ New w w' ∧ ((∃ y, y ∈ freeTo T n 4 ∧ fitB T n lx ly a1 a2 a3 y = true) → duB T n N den lx ly a1 a2 a3 = true)
set_option maxRecDepth 100000 in
set_option maxHeartbeats 8000000 in
theorem dualOf_v (b off n cp : Nat) (a1 a2 a3 lx ly : Int) (T : List T5) (w : World) (hT : Tnts w b off n T) (hS : shOk T) (htn : tnOk T) (hn : n ≤ 1000) (h1 : 0 ≤ a1 ∧ a1 ≤ 1000) (h2 : 0 ≤ a2 ∧ a2 ≤ 1000) (h3 : 0 ≤ a3 ∧ a3 ≤ 1000) :
    Calls Try.prog 47 #[.slice (some ⟨b, off, none⟩) n cp, vv a1 a2 a3, fv lx ly] w (DuS T n lx ly a1 a2 a3 w) := by
  have HT := Lib.hid hT
  have HFC := Lib.hid (fun (w1 : World) => (callsIn_wide (n := 4)).2 (free_c (some ⟨b, off, none⟩) n cp w1))
  have hbl := hT.2.1
  clear hT
  refine (callsIn_wide (n := 5)).1 ?_
  refine callsIn_of_wp_marks Try.func47 rfl trivial ?_ rfl
  simp only [Try.ntmps47, List.size_toArray, List.length_cons, List.length_nil, Nat.reduceAdd, Nat.reduceSub, Array.replicate_succ, Array.replicate_zero, List.push_toArray, List.append_toArray, List.nil_append, List.cons_append]
  gi_wp2
  obtain ⟨W1, hW1⟩ : ∃ W1, W1 = (((w.alloc (.cells #[.slice (some ⟨b, off, none⟩) n cp] 22)).alloc (.cells #[.int .i64 a1, .int .i64 a2, .int .i64 a3] 66)).alloc (.cells #[.int .i64 lx, .int .i64 ly] 29)).alloc (.cells (arr5 0 0 0 0 0) 49) := ⟨_, rfl⟩
  have HN1 := Lib.hid (show New w W1 by rw [hW1]; exact ((((New.refl _).alloc _).alloc _).alloc _).alloc _)
  have HA := Lib.hid (show DuH w W1 (.slice (some ⟨b, off, none⟩) n cp) a1 a2 a3 lx ly ∧ W1.heap[w.heap.size + 3]? = some (.cells (arr5 0 0 0 0 0) 49 (0, 0)) by
    have := alloc4_heap w (.cells #[.slice (some ⟨b, off, none⟩) n cp] 22) (.cells #[.int .i64 a1, .int .i64 a2, .int .i64 a3] 66) (.cells #[.int .i64 lx, .int .i64 ly] 29) (.cells (arr5 0 0 0 0 0) 49)
    rw [hW1]; exact ⟨⟨this.1, this.2.1, this.2.2.1⟩, this.2.2.2⟩)
  have hs1 : w.heap.size + 3 < W1.heap.size := (Array.getElem?_eq_some_iff.1 HA.out.2).1
  unfold arr5 at hW1
  rw [← hW1]
  clear hW1
  refine ⟨trivial, ?_⟩
  gi_at_call 62
  refine (HFC.out _).mono ?_
  rintro e w3 ⟨rfl, rfl⟩
  gi_wp2
  obtain ⟨WS, hWS⟩ : ∃ WS, WS = W1.alloc (.cells #[.slice (some ⟨b, off, none⟩) n cp] 22) := ⟨_, rfl⟩
  have HNS := Lib.hid (show New W1 WS by rw [hWS]; exact (New.refl _).alloc _)
  have HTB := Lib.hid (show WS.heap[W1.heap.size]? = some (.cells #[.slice (some ⟨b, off, none⟩) n cp] 22 (0, 0)) by rw [hWS]; exact World.alloc_heap_new _ _)
  have hs2 : W1.heap.size < WS.heap.size := (Array.getElem?_eq_some_iff.1 HTB.out).1
  rw [← hWS]
  clear hWS
  refine range_iter (n := 5) (by omega) (gf := 81) (lb := #[.pointer (some ⟨W1.heap.size, 0, none⟩)]) rfl (enters_of Try.func81 (by kernel_rfl) rfl)
    (Elem := ElemF) (xs := freeTo T n 4) (E := fun k => k = W1.heap.size ∨ k = b)
    (fun W9 hn9 _ => free_it b off n cp _ T W9 ((hn9.below.block _ hs2).trans HTB.out) (HT.out.new (HN1.out.trans (HNS.out.trans hn9))) hS hn)
    (by intro k hk; omega) (by rintro x args O W ⟨_, _, rfl, _⟩; rfl)
    (DuJ T n w (.slice (some ⟨b, off, none⟩) n cp) a1 a2 a3 lx ly) (DuJ.stable _ _ _ _ _ _ _ _ _) ?h0 ?hbody ?hdone ?hstop
  case h0 =>
    have hk : ∀ k o, W1.heap[k]? = some o → WS.heap[k]? = some o := fun k o h => (HNS.out.below.block k (Array.getElem?_eq_some_iff.1 h).1).trans h
    refine ⟨?_, HN1.out.trans HNS.out, HA.out.1.of (fun k o _ h => hk _ _ h), fun _ => 0, 0, hk _ _ HA.out.2, fun _ y hy => (by cases hy), fun h => (by cases h)⟩
    rintro k (h | h | h)
    · cases h
    · omega
    · omega
  case hstop =>
    rintro O done W' ⟨j1, j2, j3, N, den, j4, _, j6⟩ hpre hdf
    have HM := Lib.hid (And.intro j2 (And.intro j4 hdf))
    have HJ := Lib.hid (j6 rfl)
    clear j1 j2 j3 j4 j6 hdf hpre
    gi_wp2
    refine leaves_marks [WS.heap.size] W' (by simp) (fun D hD => by simp at hD; rw [hD]; exact HM.out.2.2) (fun W9 hm => ?_)
    have hk : ∀ k o, k < w.heap.size + 4 → W'.heap[k]? = some o → W9.heap[k]? = some o := fun k o hk h => (hm.2 k (Array.getElem?_eq_some_iff.1 h).1 (by simp; omega)).trans h
    exact ⟨_, du_results _ _ (w.heap.size + 1 + 1 + 1) (N 0) (N 1) (N 2) (N 3) den _ rfl (hk _ _ (by omega) HM.out.2.1), N, den, rfl, Mod.new HM.out.1 hm (fun k hk => by simp at hk; omega), fun _ => HJ.out⟩
  case hdone =>
    rintro O W' ⟨j1, j2, j3, N, den, j4, j5, _⟩ hdf
    have HM := Lib.hid (And.intro j2 (And.intro j4 hdf))
    have HJ := Lib.hid (j5 rfl)
    clear j5
    obtain ⟨⟨d0, d1, d2⟩, d3, d4⟩ := cell5 j4
    have fr2 := frozen_heap j4
    clear j1 j2 j3 j4 hdf
    gi_wp2
    obtain ⟨WF, hWF⟩ : ∃ WF, WF = ((((W'.setCell ⟨w.heap.size + 1 + 1 + 1, 0, none⟩ (.int .i64 0)).setCell ⟨w.heap.size + 1 + 1 + 1, 1, none⟩ (.int .i64 0)).setCell ⟨w.heap.size + 1 + 1 + 1, 2, none⟩ (.int .i64 0)).setCell ⟨w.heap.size + 1 + 1 + 1, 3, none⟩ (.int .i64 0)).setCell ⟨w.heap.size + 1 + 1 + 1, 4, none⟩ (.int .i64 0) := ⟨_, rfl⟩
    rw [← hWF]
    obtain ⟨z1, zm⟩ := du_puts hWF HM.out.2.1
    have z4 := Mod.new HM.out.1 zm (fun k hk => by omega)
    have z5 : WF.heap[WS.heap.size]? = some (.deferred (some [])) := (zm.2 _ (Array.getElem?_eq_some_iff.1 HM.out.2.2).1 (by omega)).trans HM.out.2.2
    clear hWF zm
    refine leaves_marks [WS.heap.size] WF (by simp) (fun D hD => by simp at hD; rw [hD]; exact z5) (fun W9 hm => ?_)
    have hk : ∀ k o, k < w.heap.size + 4 → WF.heap[k]? = some o → W9.heap[k]? = some o := fun k o hk h => (hm.2 k (Array.getElem?_eq_some_iff.1 h).1 (by simp; omega)).trans h
    exact ⟨_, du_results _ _ (w.heap.size + 1 + 1 + 1) 0 0 0 0 0 _ rfl (hk _ _ (by omega) z1), fun _ => 0, 0, rfl, Mod.new z4 hm (fun k hk => by simp at hk; omega), fun h => (by obtain ⟨y, hy, hf⟩ := h; rw [HJ.out y hy] at hf; cases hf)⟩
  case hbody =>
    intro mm O done x args Wb hI hE hpre hO1 hO2 hrec hbnd
    obtain ⟨base', v', rfl, hpl⟩ := hE
    obtain ⟨pl, F⟩ := x
    obtain ⟨hbd, ⟨hl1, hl4⟩, hlt⟩ := free_mem hS (by omega) (hpre.subset (by simp : (pl, F) ∈ done ++ [(pl, F)]))
    dsimp only at hbd hl1 hl4 hlt hpl ⊢
    obtain ⟨ax, cx, rfl⟩ := own_slice hpl.1
    obtain ⟨rr, hrr⟩ := hrec
    have hlpb := (Array.getElem?_eq_some_iff.1 hrr).1
    have HPL := Lib.hid hpl
    have HI := Lib.hid hI
    have HBND := Lib.hid hbnd
    have HHB := Lib.hid hbd
    have HLT := Lib.hid hlt
    clear hpl hpre hI hrr hbnd hbd hlt
    gi_wp2
    refine ⟨Keep.of_new ((New.refl _).alloc _), ?_⟩
    intro W2 hb2 hs2' ho2 hrec2
    have hmod : Mod (plus WS.heap.size O) Wb W2 := by
      refine ⟨(Below.mono ((New.refl Wb).alloc _).below (Nat.zero_le _)).trans hb2, fun k hk hne' => ?_⟩
      rw [ho2 k (fun e => hne' (.inr (.inr e)))]
      exact Below.heap_alloc _ _ _ hk
    have HI2 := Lib.hid (DuJ.stable T n w _ _ _ _ _ _ _ _ _ _ _ _ HI.out hmod (fun k hk => .inl hk))
    have HFB := Lib.hid (show W2.heap[Wb.heap.size]? = some (.cells (arr16 F) 107 (0, 0)) from (ho2 _ (by omega)).trans (World.alloc_heap_new _ _))
    have HOW := Lib.hid (show W2.ownsRow base' 3 1 (.slice ax pl.length cx) pl.length (natCells pl) from own_keep HPL.out.1 (fun g hg => by
      have hgb := HBND.out g (HPL.out.2 g hg)
      rw [ho2 g (fun e => hO1 (e ▸ HPL.out.2 g hg))]; exact Below.heap_alloc _ _ _ hgb))
    have hsz2 : Wb.heap.size < W2.heap.size := (Array.getElem?_eq_some_iff.1 HFB.out).1
    obtain ⟨gx, rfl⟩ : ∃ g, ax = some ⟨g, 0, none⟩ := own_someI HOW.out hl1
    clear hb2 hs2' ho2 hrec2 hO1 hO2 hmod
    -- what a round leaves
    have HFIN := Lib.hid (show ∀ V, New W2 V → fitB T n lx ly a1 a2 a3 (pl, F) = false → RoundP WS.heap.size O (fun k => k = W1.heap.size ∨ k = b) (DuJ T n w (.slice (some ⟨b, off, none⟩) n cp) a1 a2 a3 lx ly) (done ++ [(pl, F)]) W2 .normal V from fun V hV hff => by
      obtain ⟨j1, j2, j3, N, den, j4, j5, _⟩ := DuJ.stable T n w _ _ _ _ _ _ _ _ _ _ _ _ HI2.out (Mod.of_new hV) (fun k hk => .inl hk)
      refine ⟨Keep.of_new hV, false, ⟨j1, j2, j3, N, den, j4, fun _ y hy => ?_, fun h => (by cases h)⟩, .inl ⟨rfl, rfl⟩⟩
      rcases List.mem_append.1 hy with h | h
      · exact j5 rfl y h
      · rw [List.mem_singleton.1 h]; exact hff)
    gi_wp2
    obtain ⟨WP, hWP⟩ : ∃ WP, WP = W2.alloc (.cells (arr4 fun _ => 0) 47) := ⟨_, rfl⟩
    have HNP := Lib.hid (show New W2 WP by rw [hWP]; exact (New.refl _).alloc _)
    have HPB := Lib.hid (show WP.heap[W2.heap.size]? = some (.cells (arr4 fun _ => 0) 47 (0, 0)) by rw [hWP]; exact World.alloc_heap_new _ _)
    unfold arr4 at hWP
    rw [← hWP]
    clear hWP
    generalize hPB : W2.heap.size = PB at *
    gi_loopw [21] (fun i V => ∃ k : Nat, k ≤ pl.length ∧ i = .int .i64 (k : Int) ∧ New W2 V ∧ V.heap[PB]? = some (.cells (arr4 (prTo T pl k)) 47 (0, 0))) (fun i _ => pl.length - (intOf i).toNat)
    case atStart => exact ⟨0, Nat.zero_le _, rfl, HNP.out, HPB.out⟩
    case round =>
      obtain ⟨k, hk, rfl, hnv, hz⟩ := hrel
      have HNV := Lib.hid hnv
      have HZ := Lib.hid hz
      clear hnv hz
      by_cases hlk : k < pl.length
      · have hlk1 : (k : Int) < (pl.length : Int) := by omega
        have c1 := (own_cell (own_new HOW.out HNV.out) (natCells_at pl k hlk)).1
        have c0 := (box_cell ((HNV.out.below.block _ (Array.getElem?_eq_some_iff.1 HI2.out.2.2.1.1).1).trans HI2.out.2.2.1.1)).1
        have hpn : pl.getD k 0 < n := HLT.out _ (by rw [List.getD_eq_getElem?_getD, List.getElem?_eq_getElem hlk]; simp)
        obtain ⟨_, gl, hcc⟩ := HT.out.new (HI2.out.2.1.trans HNV.out)
        have c5 := (hcc _ hpn).2.2
        have hpn1 : ((pl.getD k 0 : Nat) : Int) < (n : Int) := by omega
        have hk4 : (k : Int) < 4 := by omega
        have c6 := cell4 HZ.out k (by omega)
        have c7 := frozen_heap HZ.out k
        have HPS := Lib.hid (show prTo T pl (k + 1) = put1 (prTo T pl k) k (tP T (pl.getD k 0)) from rfl)
        have hxl : gx < wr.heap.size := own_lt (own_new HOW.out HNV.out)
        have hPB2 : W2.heap.size ≤ PB := by omega
        clear hcc
        generalize pl.getD k 0 = p at *
        generalize tP T p = D at *
        generalize prTo T pl k k = Z at *
        gi_wp2
        go_roundw
        case rel => exact ⟨k + 1, by omega, by go_num, HNV.out.setCell (by show W2.heap.size ≤ PB; exact hPB2) _, by rw [HPS.out]; exact heap_put4q HZ.out k (by omega) _⟩
        case measure => simp [intOf]; omega
      · obtain rfl : k = pl.length := by omega
        have hlk1 : ¬ ((pl.length : Nat) : Int) < (pl.length : Int) := by omega
        have HSO := Lib.hid (fun (V : World) => CallsIn.inRound (WS.heap.size + 1) ((callsIn_wide (n := mm - 1)).2 (solve_c F (prTo T pl pl.length) V HHB.out (prTo_bd htn pl _))))
        have hFB := (HNV.out.below.block _ (Array.getElem?_eq_some_iff.1 HFB.out).1).trans HFB.out
        have e0 := cell16 hFB 0 (by omega)
        have e1 := cell16 hFB 1 (by omega)
        have e2 := cell16 hFB 2 (by omega)
        have e3 := cell16 hFB 3 (by omega)
        have e4 := cell16 hFB 4 (by omega)
        have e5 := cell16 hFB 5 (by omega)
        have e6 := cell16 hFB 6 (by omega)
        have e7 := cell16 hFB 7 (by omega)
        have e8 := cell16 hFB 8 (by omega)
        have e9 := cell16 hFB 9 (by omega)
        have e10 := cell16 hFB 10 (by omega)
        have e11 := cell16 hFB 11 (by omega)
        have e12 := cell16 hFB 12 (by omega)
        have e13 := cell16 hFB 13 (by omega)
        have e14 := cell16 hFB 14 (by omega)
        have e15 := cell16 hFB 15 (by omega)
        have f0 := cell4 HZ.out 0 (by omega)
        have f1 := cell4 HZ.out 1 (by omega)
        have f2 := cell4 HZ.out 2 (by omega)
        have f3 := cell4 HZ.out 3 (by omega)
        clear hFB
        have HFI := Lib.hid (show fitB T n lx ly a1 a2 a3 (pl, F) = duB T n (soI F (prTo T pl pl.length)) (sg1 (detI F) * detI F) lx ly a1 a2 a3 from rfl)
        generalize hPF : prTo T pl pl.length = PF at *
        generalize hSV : soI F PF = SV at *
        generalize hSD : sg1 (detI F) * detI F = SD at *
        clear hPF hSV hSD
        gi_wp2
        refine ⟨trivial, (fun h => by cases h), ?_⟩
        gi_at_call 76
        refine (HSO.out _).mono ?_
        rintro e w5 ⟨rfl, hn5⟩
        have HN5 := Lib.hid (HNV.out.trans hn5)
        clear hn5 e0 e1 e2 e3 e4 e5 e6 e7 e8 e9 e10 e11 e12 e13 e14 e15 f0 f1 f2 f3
        have n6 : New W2 ((w5.alloc (.cells #[.int .i64 (SV 0), .int .i64 (SV 1), .int .i64 (SV 2), .int .i64 (SV 3)] 47)).alloc (.cells #[.int .i64 (SV 0), .int .i64 (SV 1), .int .i64 (SV 2), .int .i64 (SV 3), .int .i64 SD] 49)) := (HN5.out.alloc _).alloc _
        have gt := (n6.cell (b := w.heap.size) (o := 0) (Array.getElem?_eq_some_iff.1 HI2.out.2.2.1.1).1).trans (box_cell HI2.out.2.2.1.1).1
        have cw := HI2.out.2.2.1.2.1
        have cl := HI2.out.2.2.1.2.2
        have gw0 := (n6.cell (b := w.heap.size + 1) (o := 0) (Array.getElem?_eq_some_iff.1 cw).1).trans (show W2.cell? ⟨w.heap.size + 1, 0, none⟩ = some (.int .i64 a1) by simp [World.cell?, cw])
        have gw1 := (n6.cell (b := w.heap.size + 1) (o := 1) (Array.getElem?_eq_some_iff.1 cw).1).trans (show W2.cell? ⟨w.heap.size + 1, 1, none⟩ = some (.int .i64 a2) by simp [World.cell?, cw])
        have gw2 := (n6.cell (b := w.heap.size + 1) (o := 2) (Array.getElem?_eq_some_iff.1 cw).1).trans (show W2.cell? ⟨w.heap.size + 1, 2, none⟩ = some (.int .i64 a3) by simp [World.cell?, cw])
        have gl0 := (n6.cell (b := w.heap.size + 1 + 1) (o := 0) (Array.getElem?_eq_some_iff.1 cl).1).trans (show W2.cell? ⟨w.heap.size + 2, 0, none⟩ = some (.int .i64 lx) by simp [World.cell?, cl])
        have gl1 := (n6.cell (b := w.heap.size + 1 + 1) (o := 1) (Array.getElem?_eq_some_iff.1 cl).1).trans (show W2.cell? ⟨w.heap.size + 2, 1, none⟩ = some (.int .i64 ly) by simp [World.cell?, cl])
        have HD6 := Lib.hid (show ((w5.alloc (.cells #[.int .i64 (SV 0), .int .i64 (SV 1), .int .i64 (SV 2), .int .i64 (SV 3)] 47)).alloc (.cells #[.int .i64 (SV 0), .int .i64 (SV 1), .int .i64 (SV 2), .int .i64 (SV 3), .int .i64 SD] 49)).heap[w5.heap.size + 1]? = some (.cells (arr5 (SV 0) (SV 1) (SV 2) (SV 3) SD) 49 (0, 0)) from alloc2_new rfl)
        have HN6 := Lib.hid n6
        have HIS := Lib.hid (fun (V : World) (hV : New W2 V) => CallsIn.inRound (WS.heap.size + 1) ((callsIn_wide (n := mm - 1)).2 (isDual_v b off n cp a1 a2 a3 lx ly SV SD T V (HT.out.new (HI2.out.2.1.trans hV)) htn hn h1 h2 h3)))
        clear n6 cw cl
        gi_wp2
        refine ⟨trivial, (fun h => by cases h), ?_⟩
        gi_at_call 50
        refine (HIS.out _ HN6.out).mono ?_
        rintro e w7 ⟨rfl, hn7⟩
        have HN7 := Lib.hid (HN6.out.trans hn7)
        have HD7 := Lib.hid ((hn7.below.block _ (Array.getElem?_eq_some_iff.1 HD6.out).1).trans HD6.out)
        clear hn7 gt gw0 gw1 gw2 gl0 gl1
        have HDZ := Lib.hid (fun (e : duB T n SV SD lx ly a1 a2 a3 = true) => e)
        generalize hz : duB T n SV SD lx ly a1 a2 a3 = z at HFI ⊢
        clear HDZ
        cases z
        · have HS := Lib.hid (HFIN.out _ HN7.out HFI.out)
          clear hz
          gi_wp2
          exact HS.out
        · have HZ2 := Lib.hid hz
          clear hz
          obtain ⟨m, md, hres, _⟩ := HI2.out.2.2.2
          have hres7 := (HN7.out.below.block _ (Array.getElem?_eq_some_iff.1 hres).1).trans hres
          have HRS := Lib.hid hres7
          obtain ⟨⟨e0, e1, e2⟩, e3, e4⟩ := cell5 HD7.out
          obtain ⟨⟨d0, d1, d2⟩, d3, d4⟩ := cell5 (show w7.heap[w.heap.size + 1 + 1 + 1]? = _ from hres7)
          have fr := frozen_heap (show w7.heap[w.heap.size + 1 + 1 + 1]? = _ from hres7)
          have hne : ¬ w5.heap.size + 1 = w.heap.size + 1 + 1 + 1 := by
            have x1 := HN5.out.size
            have x2 := (Array.getElem?_eq_some_iff.1 hres).1
            omega
          clear hres hres7
          gi_wp2
          obtain ⟨WF, hWF⟩ : ∃ WF, WF = ((((w7.setCell ⟨w.heap.size + 1 + 1 + 1, 0, none⟩ (.int .i64 (SV 0))).setCell ⟨w.heap.size + 1 + 1 + 1, 1, none⟩ (.int .i64 (SV 1))).setCell ⟨w.heap.size + 1 + 1 + 1, 2, none⟩ (.int .i64 (SV 2))).setCell ⟨w.heap.size + 1 + 1 + 1, 3, none⟩ (.int .i64 (SV 3))).setCell ⟨w.heap.size + 1 + 1 + 1, 4, none⟩ (.int .i64 SD) := ⟨_, rfl⟩
          rw [← hWF]
          obtain ⟨z1, zm⟩ := du_puts hWF HRS.out
          have hm : Mod (fun k => k = w.heap.size + 3) W2 WF := (Mod.of_new HN7.out).trans zm
          obtain ⟨j1, j2, j3, _⟩ := HI2.out
          refine ⟨Keep.of_mod hm (fun k hk e => ?_), true, ⟨j1, Mod.new j2 hm (fun k hk => by omega), j3.of (fun k o hk h => (hm.2 k (Array.getElem?_eq_some_iff.1 h).1 (by omega)).trans h), SV, SD, z1, fun h => (by cases h), fun _ => HZ2.out⟩, .inr ⟨rfl, rfl⟩⟩
          rcases hk with hk | hk
          · have := j1 k hk; omega
          · omega

end Go.Proofs.Ytpjekinmcdglbaa

/- Cheapest and the dual that it gives. -/
namespace Go.Proofs.Ytpjekinmcdglbaa
set_option linter.unusedSimpArgs false
set_option linter.unusedVariables false
open Go.RowKit Go.Shelf

attribute [local go_sem] Oper.semAt_some

/-- what Cheapest returns, and what its dual is -/
def ChV (D : Int → Int → Int → Int → Int → Int → Int → Prop) (T : List T5) (w : World) (o : Option (List (Int × Int))) (en : Ending) (w' : World) : Prop :=
  New w w' ∧ ((o = none ∧ en = .returned (.tuple #[.agg #[.slice none 0 0], .agg (arr5 0 0 0 0 0), .int .i64 61])) ∨
    ∃ y sv n0 n1 n2 n3 den, o = some y ∧ en = .returned (.tuple #[.agg #[sv], .agg (arr5 n0 n1 n2 n3 den), .int .i64 0]) ∧ w'.ownsRow w.heap.size 64 2 sv y.length (partCells y) ∧ D (pxA T y) (pxB T y) n0 n1 n2 n3 den)

set_option maxRecDepth 100000 in
set_option maxHeartbeats 8000000 in
theorem cheap_v (D : Int → Int → Int → Int → Int → Int → Int → Prop) (b off n cp : Nat) (a1 a2 a3 : Int) (T : List T5) (w : World) (hT : Tnts w b off n T) (hS : shOk T) (htn : tnOk T) (hn : n ≤ 1000) (ha1 : -10000 ≤ a1 ∧ a1 ≤ 10000) (ha2 : -10000 ≤ a2 ∧ a2 ≤ 10000) (ha3 : -10000 ≤ a3 ∧ a3 ≤ 10000)
    (hsm : ∀ x, x ∈ rcpL T n a1 a2 a3 → smallR x n)
    (hcw : ∀ w1, New w w1 → Calls Try.prog 36 #[.slice (some ⟨b, off, none⟩) n cp, vv a1 a2 a3] w1 fun e w' => e = .returned (.int .i64 0) ∧ New w1 w')
    (hdu : ∀ w1 lx ly, New w w1 → Calls Try.prog 47 #[.slice (some ⟨b, off, none⟩) n cp, vv a1 a2 a3, fv lx ly] w1 fun e w' => ∃ n0 n1 n2 n3 den, e = .returned (.agg (arr5 n0 n1 n2 n3 den)) ∧ New w1 w' ∧ D lx ly n0 n1 n2 n3 den) :
    Calls Try.prog 21 #[.slice (some ⟨b, off, none⟩) n cp, vv a1 a2 a3] w (ChV D T w (bestTo T (rcpL T n a1 a2 a3))) := by
  have HT := Lib.hid hT
  have HSM := Lib.hid hsm
  have HCW := Lib.hid (fun (w1 : World) h1 => (callsIn_wide (n := 4)).2 (hcw w1 h1))
  have HDU := Lib.hid (fun (w1 : World) lx ly h1 => (callsIn_wide (n := 4)).2 (show Calls Try.prog 47 #[.slice (some ⟨b, off, none⟩) n cp, vv a1 a2 a3, fv lx ly] w1 fun e w' => ∃ n0 n1 n2 n3 den, e = .returned (.agg #[.int .i64 n0, .int .i64 n1, .int .i64 n2,   .int .i64 n3, .int .i64 den]) ∧ New w1 w' ∧ D lx ly n0 n1 n2 n3 den from hdu w1 lx ly h1))
  have HRC := Lib.hid (fun (w1 : World) => (callsIn_wide (n := 4)).2 (recipes_c (some ⟨b, off, none⟩) n cp a1 a2 a3 w1))
  have hbl := hT.2.1
  clear hT hcw hsm hdu
  refine (callsIn_wide (n := 5)).1 ?_
  refine callsIn_of_wp_marks Try.func21 rfl trivial ?_ rfl
  simp only [Try.ntmps21, List.size_toArray, List.length_cons, List.length_nil, Nat.reduceAdd, Nat.reduceSub, Array.replicate_succ, Array.replicate_zero, List.push_toArray, List.append_toArray, List.nil_append, List.cons_append]
  gi_wp2
  obtain ⟨W1, hW1⟩ : ∃ W1, W1 = (((w.alloc (.cells #[.slice (some ⟨b, off, none⟩) n cp] 22)).alloc (.cells #[.int .i64 a1, .int .i64 a2, .int .i64 a3] 37)).alloc (.cells #[.slice none 0 0] 25)).alloc (.cells (arr5 0 0 0 0 0) 49) := ⟨_, rfl⟩
  have HN1 := Lib.hid (show New w W1 by rw [hW1]; exact ((((New.refl _).alloc _).alloc _).alloc _).alloc _)
  have HA := Lib.hid (show ChH w W1 (.slice (some ⟨b, off, none⟩) n cp) a1 a2 a3 by
    rw [hW1]; exact alloc4_heap _ _ _ _ _)
  unfold arr5 at hW1
  rw [← hW1]
  clear hW1
  refine ⟨trivial, ?_⟩
  gi_at_call 36
  refine (HCW.out _ HN1.out).mono ?_
  rintro e w2 ⟨rfl, hn2⟩
  have HN2 := Lib.hid hn2
  have HB := Lib.hid (HA.out.of (fun k o _ h => (hn2.below.block k (Array.getElem?_eq_some_iff.1 h).1).trans h))
  have ct := (box_cell HB.out.1).1
  have cw := HB.out.2.1
  have cw0 : w2.cell? ⟨w.heap.size + 1, 0, none⟩ = some (.int .i64 a1) := by simp [World.cell?, cw]
  have cw1 : w2.cell? ⟨w.heap.size + 1, 1, none⟩ = some (.int .i64 a2) := by simp [World.cell?, cw]
  have cw2 : w2.cell? ⟨w.heap.size + 1, 2, none⟩ = some (.int .i64 a3) := by simp [World.cell?, cw]
  have hs2 : w.heap.size + 3 < w2.heap.size := (Array.getElem?_eq_some_iff.1 HB.out.2.2.2).1
  have n3 : New w2 ((w2.alloc (.cells #[.slice none 0 0] 25)).alloc (.cells #[.int .i64 0, .int .i64 0] 29)) := ((New.refl _).alloc _).alloc _
  have gt := (n3.cell (b := w.heap.size) (o := 0) (by omega)).trans ct
  have gw0 := (n3.cell (b := w.heap.size + 1) (o := 0) (by omega)).trans cw0
  have gw1 := (n3.cell (b := w.heap.size + 1) (o := 1) (by omega)).trans cw1
  have gw2 := (n3.cell (b := w.heap.size + 1) (o := 2) (by omega)).trans cw2
  clear hn2 cw n3
  gi_wp2
  obtain ⟨W3, hW3⟩ : ∃ W3, W3 = (w2.alloc (.cells #[.slice none 0 0] 25)).alloc (.cells #[.int .i64 0, .int .i64 0] 29) := ⟨_, rfl⟩
  have HN3 := Lib.hid (show New w2 W3 by rw [hW3]; exact ((New.refl _).alloc _).alloc _)
  have HBB := Lib.hid (show W3.heap[w2.heap.size]? = some (.cells #[.slice none 0 0] 25 (0, 0)) ∧ W3.heap[w2.heap.size + 1]? = some (.cells #[.int .i64 0, .int .i64 0] 29 (0, 0)) by
    rw [hW3]; exact ⟨by rw [Below.heap_alloc _ _ _ (by simp)]; exact World.alloc_heap_new _ _, alloc2_new rfl⟩)
  rw [← hW3]
  clear hW3 ct cw0 cw1 cw2 gt gw0 gw1 gw2
  generalize hBB : w2.heap.size = BB at *
  refine ⟨trivial, ?_⟩
  gi_at_call 37
  refine (HRC.out _).mono ?_
  rintro e w3 ⟨rfl, rfl⟩
  gi_wp2
  obtain ⟨WS, hWS⟩ : ∃ WS, WS = (W3.alloc (.cells #[.slice (some ⟨b, off, none⟩) n cp] 22)).alloc (.cells #[.int .i64 a1, .int .i64 a2, .int .i64 a3] 66) := ⟨_, rfl⟩
  have HNS := Lib.hid (show New W3 WS by rw [hWS]; exact ((New.refl _).alloc _).alloc _)
  have HSB := Lib.hid (show WS.heap[W3.heap.size]? = some (.cells #[.slice (some ⟨b, off, none⟩) n cp] 22 (0, 0)) ∧ WS.heap[W3.heap.size + 1]? = some (.cells #[.int .i64 a1, .int .i64 a2, .int .i64 a3] 66 (0, 0)) by
    rw [hWS]; exact ⟨by rw [Below.heap_alloc _ _ _ (by simp)]; exact World.alloc_heap_new _ _, alloc2_new rfl⟩)
  have hss : W3.heap.size + 1 < WS.heap.size := (Array.getElem?_eq_some_iff.1 HSB.out.2).1
  have hs3 : BB + 1 < W3.heap.size := (Array.getElem?_eq_some_iff.1 HBB.out.2).1
  have hbw : b < w2.heap.size := Nat.lt_of_lt_of_le hbl (HN1.out.trans HN2.out).size
  rw [← hWS]
  clear hWS
  refine range_iter (n := 5) (by omega) (gf := 61) (lb := #[.pointer (some ⟨W3.heap.size, 0, none⟩), .pointer (some ⟨W3.heap.size + 1, 0, none⟩)]) rfl (enters_of Try.func61 (by kernel_rfl) rfl)
    (Elem := fun x args O W => ∃ B, WS.heap.size + 2 ≤ B ∧ ElemR B x args O W) (xs := rcpL T n a1 a2 a3) (E := fun k => k = W3.heap.size ∨ k = W3.heap.size + 1 ∨ k = b) ?hit
    (by intro k hk; omega) (by rintro x args O W ⟨_, _, _, rfl, _⟩; rfl)
    (ChI w BB (.slice (some ⟨b, off, none⟩) n cp) a1 a2 a3 T n) (ChI.stable _ _ (by omega) _ _ _ _ _ _) ?h0 ?hbody ?hdone ?hstop
  case hit =>
    intro W9 hn9 hz9 lp J hJs hJ hY
    have hz := hn9.size
    exact recipes_it b off n cp _ _ a1 a2 a3 T W9 ((hn9.below.block _ (by omega)).trans HSB.out.1) ((hn9.below.block _ (by omega)).trans HSB.out.2) (HT.out.new (HN1.out.trans (HN2.out.trans (HN3.out.trans (HNS.out.trans hn9))))) hS hn ha1 ha2 ha3 lp J hJs hJ (fun O done x args W0 q1 q2 q3 q4 => hY O done x args W0 q1 q2 ⟨_, by omega, q3⟩ q4)
  case h0 =>
    have hk : ∀ k o, W3.heap[k]? = some o → WS.heap[k]? = some o := fun k o h => (HNS.out.below.block k (Array.getElem?_eq_some_iff.1 h).1).trans h
    refine ⟨rfl, ?_, HN1.out.trans (HN2.out.trans (HN3.out.trans HNS.out)), HB.out.of (fun k o _ h => hk _ _ ((HN3.out.below.block k (Array.getElem?_eq_some_iff.1 h).1).trans h)), _, _, _, hk _ _ HBB.out.1, hk _ _ HBB.out.2, .inl ⟨rfl, rfl⟩⟩
    rintro k (h | h | h)
    · cases h
    · omega
    · omega
  case hstop =>
    rintro O done W' ⟨h, _⟩
    cases h
  case hdone =>
    rintro O W' ⟨_, j1, j2, j3, sv, px, py, j4, j5, jc⟩ hdf
    have HM := Lib.hid (And.intro j2 (And.intro j3 hdf))
    have ca := (box_cell j4)
    have fr1 := frozen_heap j3.2.2.1
    have fr2 := frozen_heap j3.2.2.2
    have cr := (box_cell j3.2.2.1)
    obtain ⟨⟨d0, d1, d2⟩, d3, d4⟩ := cell5 j3.2.2.2
    rcases jc with ⟨hL, rfl⟩ | ⟨y, hy, hys, rfl, rfl, hyo, hyg⟩
    · have HL := Lib.hid (show bestTo T (rcpL T n a1 a2 a3) = none by rw [hL]; rfl)
      clear hL j1 j2 j3 j4 j5 hdf
      gi_wp2
      clear d0 d1 d2 d3 d4 ca fr1 fr2 cr
      obtain ⟨WF, hWF⟩ : ∃ WF, WF = (((((W'.setCell ⟨w.heap.size + 1 + 1, 0, none⟩ (.slice none 0 0)).setCell ⟨w.heap.size + 1 + 1 + 1, 0, none⟩ (.int .i64 0)).setCell ⟨w.heap.size + 1 + 1 + 1, 1, none⟩ (.int .i64 0)).setCell ⟨w.heap.size + 1 + 1 + 1, 2, none⟩ (.int .i64 0)).setCell ⟨w.heap.size + 1 + 1 + 1, 3, none⟩ (.int .i64 0)).setCell ⟨w.heap.size + 1 + 1 + 1, 4, none⟩ (.int .i64 0) := ⟨_, rfl⟩
      rw [← hWF]
      obtain ⟨⟨z1, z2⟩, z4, z6⟩ := fin_puts hWF HM.out.1 HM.out.2.1.2.2.1 HM.out.2.1.2.2.2
      have z5 : WF.heap[WS.heap.size]? = some (.deferred (some [])) := (z6 _ (by omega) (by omega)).trans HM.out.2.2
      clear hWF z6
      refine leaves_marks [WS.heap.size] WF (by simp) (fun D hD => by simp at hD; rw [hD]; exact z5) (fun W9 hm => ?_)
      have hk : ∀ k o, k < w.heap.size + 4 → WF.heap[k]? = some o → W9.heap[k]? = some o := fun k o hk h => (hm.2 k (Array.getElem?_eq_some_iff.1 h).1 (by simp; omega)).trans h
      exact ⟨_, ch_results _ _ (w.heap.size + 1 + 1) (w.heap.size + 1 + 1 + 1) none 0 0 0 0 0 0 0 61 _ _ rfl rfl rfl (hk _ _ (by omega) z1) (hk _ _ (by omega) z2), Mod.new z4 hm (fun k hk => by simp at hk; omega), .inl ⟨HL.out, rfl⟩⟩
    · obtain ⟨sy, cy, rfl⟩ := own_slice hyo
      have HYO := Lib.hid hyo
      have HBY := Lib.hid hy
      obtain ⟨ny, hny⟩ : ∃ ny, ny = y.length := ⟨_, rfl⟩
      have hyl : ¬ (ny : Int) = 0 := by have := hys.1.1; omega
      rw [← hny] at ca j4
      have HNY := Lib.hid hny
      have e0 : W'.cell? ⟨BB + 1, 0, none⟩ = some (.int .i64 (pxA T y)) := by simp [World.cell?, j5]
      have e1 : W'.cell? ⟨BB + 1, 1, none⟩ = some (.int .i64 (pxB T y)) := by simp [World.cell?, j5]
      have g0 := (box_cell j3.1).1
      have cw := j3.2.1
      have cw0 : W'.cell? ⟨w.heap.size + 1, 0, none⟩ = some (.int .i64 a1) := by simp [World.cell?, cw]
      have cw1 : W'.cell? ⟨w.heap.size + 1, 1, none⟩ = some (.int .i64 a2) := by simp [World.cell?, cw]
      have cw2 : W'.cell? ⟨w.heap.size + 1, 2, none⟩ = some (.int .i64 a3) := by simp [World.cell?, cw]
      have HJ := Lib.hid (And.intro j4 j5)
      clear j1 j2 j3 j4 j5 hdf hy hys hyo hyg hny cw
      have HF8 := Lib.hid (show ∀ V, New W' V → ((V.cell? ⟨BB, 0, none⟩ = some (.slice sy ny cy) ∧ V.cell? ⟨w.heap.size + 1 + 1, 0, none⟩ = some (.slice none 0 0) ∧ V.frozen? ⟨w.heap.size + 1 + 1, 0, none⟩ = false) ∧ (V.cell? ⟨w.heap.size + 1 + 1 + 1, 0, none⟩ = some (.int .i64 0) ∧ V.cell? ⟨w.heap.size + 1 + 1 + 1, 1, none⟩ = some (.int .i64 0) ∧ V.cell? ⟨w.heap.size + 1 + 1 + 1, 2, none⟩ = some (.int .i64 0)) ∧ (V.cell? ⟨w.heap.size + 1 + 1 + 1, 3, none⟩ = some (.int .i64 0) ∧ V.cell? ⟨w.heap.size + 1 + 1 + 1, 4, none⟩ = some (.int .i64 0)) ∧ ∀ o, V.frozen? ⟨w.heap.size + 1 + 1 + 1, o, none⟩ = false) from fun V hV => by
        have hk8 : ∀ k o, W'.heap[k]? = some o → V.heap[k]? = some o := fun k o h => (hV.below.block k (Array.getElem?_eq_some_iff.1 h).1).trans h
        have q1 : V.heap[w.heap.size + 1 + 1]? = _ := hk8 _ _ HM.out.2.1.2.2.1
        have q2 : V.heap[w.heap.size + 1 + 1 + 1]? = _ := hk8 _ _ HM.out.2.1.2.2.2
        have q3 := box_cell (hk8 _ _ HJ.out.1)
        obtain ⟨⟨x0, x1, x2⟩, x3, x4⟩ := cell5 q2
        exact ⟨⟨q3.1, (box_cell q1).1, (box_cell q1).2⟩, ⟨x0, x1, x2⟩, ⟨x3, x4⟩, frozen_heap q2⟩)
      gi_upto_region 13 with (fail)
      refine wpIn_normal ?_
      gi_region_with (refine ⟨trivial, ?_⟩; gi_at_call 47; refine (HDU.out _ _ _ (HM.out.1.trans (by (repeat (first | exact New.refl _ | apply New.drew))))).mono ?_; rintro e w8 ⟨n0, n1, n2, n3, den, rfl, hn8, hdd⟩; have HDD := Lib.hid hdd; clear hdd; have HN8 := Lib.hid ((show New W' _ by (repeat (first | exact New.refl _ | apply New.drew))).trans hn8); obtain ⟨⟨ca, cr, fr1⟩, ⟨d0, d1, d2⟩, ⟨d3, d4⟩, fr2⟩ := HF8.out _ HN8.out; clear hn8)
      all_goals (gi_wp2)
      all_goals
        clear ca cr fr1 d0 d1 d2 d3 d4 fr2
        obtain ⟨WF, hWF⟩ : ∃ WF, WF = (((((w8.setCell ⟨w.heap.size + 1 + 1, 0, none⟩ (.slice sy ny cy)).setCell ⟨w.heap.size + 1 + 1 + 1, 0, none⟩ (.int .i64 n0)).setCell ⟨w.heap.size + 1 + 1 + 1, 1, none⟩ (.int .i64 n1)).setCell ⟨w.heap.size + 1 + 1 + 1, 2, none⟩ (.int .i64 n2)).setCell ⟨w.heap.size + 1 + 1 + 1, 3, none⟩ (.int .i64 n3)).setCell ⟨w.heap.size + 1 + 1 + 1, 4, none⟩ (.int .i64 den) := ⟨_, rfl⟩
        rw [← hWF]
        have hk8 : ∀ k o, W'.heap[k]? = some o → w8.heap[k]? = some o := fun k o h => (HN8.out.below.block k (Array.getElem?_eq_some_iff.1 h).1).trans h
        have b1 := hk8 _ _ HM.out.2.1.2.2.1
        have b2 := hk8 _ _ HM.out.2.1.2.2.2
        have b3 := hk8 _ _ HM.out.2.2
        obtain ⟨⟨z1, z2⟩, z4, z6⟩ := fin_puts hWF (HM.out.1.trans HN8.out) b1 b2
        have z5 : WF.heap[WS.heap.size]? = some (.deferred (some [])) := (z6 _ (by omega) (by omega)).trans b3
        have oy := own_new HYO.out HN8.out
        have zo := own_keep oy fun g hg => z6 g (fun e => own_ne oy b1 (fun cur h => by cases h) (by rw [hg, e])) (fun e => own_ne oy b2 (fun cur h => by cases h) (by rw [hg, e]))
        rw [← HNY.out] at zo
        clear hWF z6 b1 b2 b3 oy
        refine leaves_marks [WS.heap.size] WF (by simp) (fun D hD => by simp at hD; rw [hD]; exact z5) (fun W9 hm => ?_)
        have hk : ∀ k o, k < w.heap.size + 4 → WF.heap[k]? = some o → W9.heap[k]? = some o := fun k o hk h => (hm.2 k (Array.getElem?_eq_some_iff.1 h).1 (by simp; omega)).trans h
        exact ⟨_, ch_results _ _ (w.heap.size + 1 + 1) (w.heap.size + 1 + 1 + 1) sy ny cy n0 n1 n2 n3 den 0 _ _ rfl rfl rfl (hk _ _ (by omega) z1) (hk _ _ (by omega) z2), Mod.new z4 hm (fun k hk => by simp at hk; omega), .inr ⟨y, .slice sy ny cy, n0, n1, n2, n3, den, HBY.out, rfl, (by
          rw [← HNY.out]
          exact own_keep zo fun g hg => hm.2 g (zo.lt g hg).2 (by simp; exact fun e => own_ne zo z5 (fun cur h => by cases h) (by rw [hg, e]))), HDD.out⟩⟩
  case hbody =>
    intro mm O done x args Wb hI hE hpre hO1 hO2 hrec hbnd
    obtain ⟨B0, hB0, sv, rfl, hown, hgo⟩ := hE
    obtain ⟨sa, sc, rfl⟩ := own_slice hown
    obtain ⟨rr, hrr⟩ := hrec
    have hlpb := (Array.getElem?_eq_some_iff.1 hrr).1
    have HX := Lib.hid (HSM.out x (hpre.subset (by simp : x ∈ done ++ [x])))
    have HI := Lib.hid hI
    have HOWN := Lib.hid hown
    have HGO := Lib.hid hgo
    have HBND := Lib.hid hbnd
    have HGL := Lib.hid (own_ne hown hrr (fun cur h => by cases h))
    clear hown hgo hrr hI hbnd
    gi_wp2
    refine ⟨Keep.of_new ((New.refl _).alloc _), ?_⟩
    intro W5 hb5 hs5 ho5 hrec5
    have hmod : Mod (plus WS.heap.size O) Wb W5 := by
      refine ⟨(Below.mono ((New.refl Wb).alloc _).below (Nat.zero_le _)).trans hb5, fun k hk hne' => ?_⟩
      rw [ho5 k (fun e => hne' (.inr (.inr e)))]
      exact Below.heap_alloc _ _ _ hk
    have HI5 := Lib.hid (ChI.stable w BB (by omega) _ _ _ _ _ _ _ _ _ _ _ _ HI.out hmod (fun k hk => .inl hk))
    have HFB := Lib.hid (show W5.heap[Wb.heap.size]? = some (.cells #[.slice sa x.length sc] 25 (0, 0)) from (ho5 _ (by omega)).trans (World.alloc_heap_new _ _))
    have HOW5 := Lib.hid (show W5.ownsRow B0 64 2 (.slice sa x.length sc) x.length (partCells x) from own_keep HOWN.out (fun g hg => by
      have hgb := (HOWN.out.lt g hg).2
      have hgl : g ≠ WS.heap.size + 1 := fun e => HGL.out (by rw [hg, e])
      rw [ho5 g hgl]; exact Below.heap_alloc _ _ _ hgb))
    obtain ⟨g, rfl⟩ : ∃ g, sa = some ⟨g, 0, none⟩ := own_some HOW5.out (by have := HX.out.1.1; omega)
    have HPR := Lib.hid (CallsIn.inRound (WS.heap.size + 1) ((callsIn_wide (n := mm - 1)).2 (show Calls Try.prog 35 #[.slice (some ⟨b, off, none⟩) n cp, .agg #[.slice (some ⟨g, 0, none⟩) x.length sc]] W5 fun en w' => en = .returned (fv (pxA T x) (pxB T x)) ∧ New W5 w' from price_c b off n cp g 0 x.length sc T x W5 (HT.out.new HI5.out.2.2.1) (prts_of_own rfl HOW5.out) HX.out.2 htn (by have := HX.out.1.1; omega) HX.out.1.2 hn)))
    have ct := (box_cell HI5.out.2.2.2.1.1).1
    have c4 := (box_cell HFB.out).1
    have hsz : Wb.heap.size < W5.heap.size := (Array.getElem?_eq_some_iff.1 HFB.out).1
    clear hb5 hs5 ho5 hrec5 hO1 hO2 hmod
    have HFIN := Lib.hid (show ∀ V, Mod (fun k => k = BB ∨ k = BB + 1) W5 V → (∃ sv px py, V.heap[BB]? = some (.cells #[sv] 25 (0, 0)) ∧ V.heap[BB + 1]? = some (.cells #[.int .i64 px, .int .i64 py] 29 (0, 0)) ∧
        ∃ y, bestTo T (done ++ [x]) = some y ∧ smallR y n ∧ px = pxA T y ∧ py = pxB T y ∧ V.ownsRow w.heap.size 64 2 sv y.length (partCells y) ∧ ∀ g, sv.ownBlock = some g → ¬ plus WS.heap.size O g) →
        RoundP WS.heap.size O (fun k => k = W3.heap.size ∨ k = W3.heap.size + 1 ∨ k = b) (ChI w BB (.slice (some ⟨b, off, none⟩) n cp) a1 a2 a3 T n) (done ++ [x]) W5 .normal V from fun V hm ⟨sv, px, py, e1, e2, y, e3⟩ => by
      obtain ⟨i0, i1, i2, i3, _⟩ := HI5.out
      refine ⟨Keep.of_mod hm (fun k hk e => ?_), false, ⟨rfl, i1, Mod.new i2 hm (fun k hk => by omega), i3.of (fun k o hk h => (hm.2 k (Array.getElem?_eq_some_iff.1 h).1 (by omega)).trans h), sv, px, py, e1, e2, .inr ⟨y, e3⟩⟩, .inl ⟨rfl, rfl⟩⟩
      rcases hk with hk | hk
      · have := i1 k hk; omega
      · omega)
    gi_wp2
    refine ⟨trivial, (fun h => by cases h), ?_⟩
    gi_at_call 35
    refine HPR.out.mono ?_
    rintro e w6 ⟨rfl, hn6⟩
    have HN6 := Lib.hid hn6
    obtain ⟨W7, hW7⟩ : ∃ W7, W7 = w6.alloc (.cells #[.int .i64 (pxA T x), .int .i64 (pxB T x)] 29) := ⟨_, rfl⟩
    have HN7 := Lib.hid (show New W5 W7 by rw [hW7]; exact hn6.alloc _)
    have HPB := Lib.hid (show W7.heap[w6.heap.size]? = some (.cells #[.int .i64 (pxA T x), .int .i64 (pxB T x)] 29 (0, 0)) by rw [hW7]; exact World.alloc_heap_new _ _)
    have hk7 : ∀ k o, W5.heap[k]? = some o → W7.heap[k]? = some o := fun k o h => (HN7.out.below.block k (Array.getElem?_eq_some_iff.1 h).1).trans h
    obtain ⟨i0, i1, i2, i3, sv0, px0, py0, j1, j2, jc⟩ := HI5.out
    have HJ := Lib.hid (And.intro (hk7 _ _ j1) (And.intro (hk7 _ _ j2) (hk7 _ _ HFB.out)))
    have HXB := Lib.hid (px_bd htn HX.out)
    clear hn6 ct c4 i0 i1 i2 i3 j1 j2 hk7
    have HXA := Lib.hid (show pxA T x = (((pxA T x).toNat : Nat) : Int) by have := HXB.out; omega)
    have HXC := Lib.hid (show pxB T x = (((pxB T x).toNat : Nat) : Int) by have := HXB.out; omega)
    have HSET := Lib.hid (show ∀ W8, New W7 W8 → bestTo T (done ++ [x]) = some x → RoundP WS.heap.size O (fun k => k = W3.heap.size ∨ k = W3.heap.size + 1 ∨ k = b) (ChI w BB (.slice (some ⟨b, off, none⟩) n cp) a1 a2 a3 T n) (done ++ [x]) W5 .normal
        (((W8.setCell ⟨BB, 0, none⟩ (.slice (some ⟨g, 0, none⟩) x.length sc)).setCell ⟨BB + 1, 0, none⟩ (.int .i64 (pxA T x))).setCell ⟨BB + 1, 1, none⟩ (.int .i64 (pxB T x))).drew from fun W8 hn8 hbx => by
      have hk8 : ∀ k o, W7.heap[k]? = some o → W8.heap[k]? = some o := fun k o h => (hn8.below.block k (Array.getElem?_eq_some_iff.1 h).1).trans h
      have jb := hk8 _ _ HJ.out.1
      have jp := hk8 _ _ HJ.out.2.1
      have hO7 := own_new HOW5.out (HN7.out.trans hn8)
      have hm : Mod (fun k => k = BB ∨ k = BB + 1) W8 (((W8.setCell ⟨BB, 0, none⟩ (.slice (some ⟨g, 0, none⟩) x.length sc)).setCell ⟨BB + 1, 0, none⟩ (.int .i64 (pxA T x))).setCell ⟨BB + 1, 1, none⟩ (.int .i64 (pxB T x))).drew :=
        (((Mod.setCell _ _ _ _ (.inl rfl)).trans (Mod.setCell _ _ _ _ (.inr rfl))).trans (Mod.setCell _ _ _ _ (.inr rfl))).trans (Mod.of_new (New.drew (New.refl _)))
      refine HFIN.out _ ((Mod.of_new (HN7.out.trans hn8)).trans hm) ⟨.slice (some ⟨g, 0, none⟩) x.length sc, pxA T x, pxB T x, ?_, ?_, x, hbx, HX.out, rfl, rfl, own_base (own_keep hO7 fun g' hg' => hm.2 g' (hO7.lt g' hg').2 ?_) (by have := (HN1.out.trans (HN2.out.trans (HN3.out.trans HNS.out))).size; omega), ?_⟩
      · show (((W8.setCell ⟨BB, 0, none⟩ (.slice (some ⟨g, 0, none⟩) x.length sc)).setCell ⟨BB + 1, 0, none⟩ (.int .i64 (pxA T x))).setCell ⟨BB + 1, 1, none⟩ (.int .i64 (pxB T x))).heap[BB]? = _
        rw [heap_setCell_other _ _ _ _ _ (by omega), heap_setCell_other _ _ _ _ _ (by omega)]
        exact heap_setCell_same _ _ 0 _ jb
      · show (((W8.setCell ⟨BB, 0, none⟩ (.slice (some ⟨g, 0, none⟩) x.length sc)).setCell ⟨BB + 1, 0, none⟩ (.int .i64 (pxA T x))).setCell ⟨BB + 1, 1, none⟩ (.int .i64 (pxB T x))).heap[BB + 1]? = _
        exact (heap_setCell_same _ _ 1 _ (heap_setCell_same _ _ 0 _ ((heap_setCell_other _ _ _ _ _ (by omega)).trans jp))).trans (by simp)
      · rintro (e | e)
        · exact own_ne hO7 jb (fun cur h => by cases h) (by rw [hg', e])
        · exact own_ne hO7 jp (fun cur h => by cases h) (by rw [hg', e])
      · rintro g' hg' (h | h | h)
        · exact HGO.out g' hg' h
        · have := (HOW5.out.lt g' hg').1; omega
        · exact HGL.out (by rw [hg', h]))
    rcases jc with ⟨hd0, rfl⟩ | ⟨y, hy, hys, rfl, rfl, hyo, hyg⟩
    · obtain ⟨jb, jp, jr⟩ := HJ.out
      rw [hW7] at jb jp jr
      have c1 := box_cell jb
      have c2 := box_cell jr
      have c3 : (w6.alloc (.cells #[.int .i64 (pxA T x), .int .i64 (pxB T x)] 29)).cell? ⟨BB + 1, 0, none⟩ = some (.int .i64 px0) := by generalize w6.alloc (.cells #[.int .i64 (pxA T x), .int .i64 (pxB T x)] 29) = Z at *; simp [World.cell?, jp]
      have c4 : (w6.alloc (.cells #[.int .i64 (pxA T x), .int .i64 (pxB T x)] 29)).cell? ⟨BB + 1, 1, none⟩ = some (.int .i64 py0) := by generalize w6.alloc (.cells #[.int .i64 (pxA T x), .int .i64 (pxB T x)] 29) = Z at *; simp [World.cell?, jp]
      have c5 := frozen_heap jp
      clear jb jp jr
      gi_wp2
      refine ⟨trivial, ?_⟩
      gi_upto_region 10 with (fail)
      rw [← hW7]
      rw [← hW7] at c1 c2 c3 c4 c5
      have c6 : W7.cell? ⟨w6.heap.size, 0, none⟩ = some (.int .i64 (pxA T x)) := by have := HPB.out; simp [World.cell?, this]
      have c7 : W7.cell? ⟨w6.heap.size, 1, none⟩ = some (.int .i64 (pxB T x)) := by have := HPB.out; simp [World.cell?, this]
      have hl6 := (Array.getElem?_eq_some_iff.1 HPB.out).1
      have hl5 := HN6.out.size
      have hlB := (Array.getElem?_eq_some_iff.1 HJ.out.2.1).1
      have hq1 : ¬ Wb.heap.size = BB := by omega
      have hq2 : ¬ w6.heap.size = BB := by omega
      have hq3 : ¬ Wb.heap.size = BB + 1 := by omega
      have hq4 : ¬ w6.heap.size = BB + 1 := by omega
      obtain ⟨c1a, c1b⟩ := c1
      obtain ⟨c2a, c2b⟩ := c2
      have c5a := c5 0
      have c5b := c5 1
      clear c5
      clear hW7
      have HS := Lib.hid (HSET.out W7 (New.refl _) (by rw [hd0]; rfl))
      gi_region
      all_goals exact HS.out
    · obtain ⟨sy, cy, rfl⟩ := own_slice hyo
      have HYB := Lib.hid (px_bd htn hys)
      have HLS := Lib.hid (fun (V : World) => CallsIn.inRound (WS.heap.size + 1) ((callsIn_wide (n := mm - 1)).2 (isLess_i (pxA T x) (pxB T x) (pxA T y) (pxB T y) V HXB.out.1 HXB.out.2 HYB.out.1 HYB.out.2)))
      have HBS := Lib.hid (show bestTo T (done ++ [x]) = if lessB (pxA T x).toNat (pxB T x).toNat (pxA T y).toNat (pxB T y).toNat = true then some x else some y by rw [bestTo_snoc, hy]; rfl)
      generalize lessB (pxA T x).toNat (pxB T x).toNat (pxA T y).toNat (pxB T y).toNat = q at *
      have HYS := Lib.hid hys
      have HYO := Lib.hid hyo
      have HYG := Lib.hid hyg
      obtain ⟨ny, hny⟩ : ∃ ny, ny = y.length := ⟨_, rfl⟩
      have hyl : ¬ (ny : Int) = 0 := by have := hys.1.1; omega
      obtain ⟨jb, jp, jr⟩ := HJ.out
      rw [hW7] at jb jp jr
      rw [← hny] at jb
      have HNY := Lib.hid hny
      clear hny
      have c1 := box_cell jb
      have c2 := box_cell jr
      have c3 : (w6.alloc (.cells #[.int .i64 (pxA T x), .int .i64 (pxB T x)] 29)).cell? ⟨BB + 1, 0, none⟩ = some (.int .i64 (pxA T y)) := by generalize w6.alloc (.cells #[.int .i64 (pxA T x), .int .i64 (pxB T x)] 29) = Z at *; simp [World.cell?, jp]
      have c4 : (w6.alloc (.cells #[.int .i64 (pxA T x), .int .i64 (pxB T x)] 29)).cell? ⟨BB + 1, 1, none⟩ = some (.int .i64 (pxB T y)) := by generalize w6.alloc (.cells #[.int .i64 (pxA T x), .int .i64 (pxB T x)] 29) = Z at *; simp [World.cell?, jp]
      clear jb jp jr hys hyo hyg
      gi_wp2
      refine ⟨trivial, (fun h => by cases h), ?_⟩
      gi_at_call 46
      refine (HLS.out _).mono ?_
      rintro e w8 ⟨rfl, hn8⟩
      rw [← hW7] at hn8
      have HN8 := Lib.hid hn8
      have hk8 : ∀ k o, W7.heap[k]? = some o → w8.heap[k]? = some o := fun k o h => (hn8.below.block k (Array.getElem?_eq_some_iff.1 h).1).trans h
      have HK := Lib.hid (And.intro (hk8 _ _ HJ.out.1) (And.intro (hk8 _ _ HJ.out.2.1) (And.intro (hk8 _ _ HJ.out.2.2) (hk8 _ _ HPB.out))))
      clear hn8 hk8 c1 c2 c3 c4
      cases q
      · have HS := Lib.hid (show RoundP WS.heap.size O (fun k => k = W3.heap.size ∨ k = W3.heap.size + 1 ∨ k = b) (ChI w BB (.slice (some ⟨b, off, none⟩) n cp) a1 a2 a3 T n) (done ++ [x]) W5 .normal w8 from
          HFIN.out _ (Mod.of_new (HN7.out.trans HN8.out)) ⟨_, _, _, HK.out.1, HK.out.2.1, y, by rw [HBS.out]; rfl, HYS.out, rfl, rfl, own_new HYO.out (HN7.out.trans HN8.out), HYG.out⟩)
        gi_wp2
        exact HS.out
      · have HS := Lib.hid (HSET.out w8 HN8.out (by rw [HBS.out]; rfl))
        have hl6 := (Array.getElem?_eq_some_iff.1 HK.out.2.2.2).1
        have hl5 := HN6.out.size
        have hlB := (Array.getElem?_eq_some_iff.1 HK.out.2.1).1
        have hlW := (Array.getElem?_eq_some_iff.1 HK.out.2.2.1).1
        have hq1 : ¬ Wb.heap.size = BB := by omega
        have hq2 : ¬ w6.heap.size = BB := by omega
        have hq3 : ¬ Wb.heap.size = BB + 1 := by omega
        have hq4 : ¬ w6.heap.size = BB + 1 := by omega
        obtain ⟨c1a, c1b⟩ := box_cell HK.out.1
        obtain ⟨c2a, c2b⟩ := box_cell HK.out.2.2.1
        have c3 : w8.cell? ⟨BB + 1, 0, none⟩ = some (.int .i64 (pxA T y)) := by have := HK.out.2.1; simp [World.cell?, this]
        have c4 : w8.cell? ⟨BB + 1, 1, none⟩ = some (.int .i64 (pxB T y)) := by have := HK.out.2.1; simp [World.cell?, this]
        have c5a := frozen_heap HK.out.2.1 0
        have c5b := frozen_heap HK.out.2.1 1
        have c6 : w8.cell? ⟨w6.heap.size, 0, none⟩ = some (.int .i64 (pxA T x)) := by have := HK.out.2.2.2; simp [World.cell?, this]
        have c7 : w8.cell? ⟨w6.heap.size, 1, none⟩ = some (.int .i64 (pxB T x)) := by have := HK.out.2.2.2; simp [World.cell?, this]
        clear hW7
        gi_upto_region 10 with (fail)
        gi_region
        all_goals exact HS.out

end Go.Proofs.Ytpjekinmcdglbaa
