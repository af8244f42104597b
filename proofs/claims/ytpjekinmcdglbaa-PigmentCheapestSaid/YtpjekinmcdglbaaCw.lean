/- dualOf answers. -/
import Derived.Test.YtpjekinmcdglbaaCr
import Derived.Test.YtpjekinmcdglbaaCp
import Derived.Test.YtpjekinmcdglbaaCv
set_option linter.unusedSimpArgs false
set_option linter.unusedVariables false
namespace Go.Proofs.Ytpjekinmcdglbaa
open Go.RowKit Go.Shelf

attribute [local go_sem] Oper.semAt_some

def DuH (w W : World) (sl : Value) (a1 a2 a3 lx ly : Int) : Prop :=
  W.heap[w.heap.size]? = some (.cells #[sl] 22 (0, 0)) ∧ W.heap[w.heap.size + 1]? = some (.cells #[.int .i64 a1, .int .i64 a2, .int .i64 a3] 66 (0, 0)) ∧ W.heap[w.heap.size + 2]? = some (.cells #[.int .i64 lx, .int .i64 ly] 29 (0, 0))
theorem DuH.of {w W V : World} {sl : Value} {a1 a2 a3 lx ly : Int} (h : DuH w W sl a1 a2 a3 lx ly) (hk : ∀ k o, k < w.heap.size + 3 → W.heap[k]? = some o → V.heap[k]? = some o) : DuH w V sl a1 a2 a3 lx ly :=
  ⟨hk _ _ (by omega) h.1, hk _ _ (by omega) h.2.1, hk _ _ (by omega) h.2.2⟩
def DuI (w : World) (sl : Value) (a1 a2 a3 lx ly : Int) (O : Nat → Prop) (done : List (List Nat × (Nat → Int))) (bb : Bool) (W : World) : Prop :=
  (∀ k, O k → w.heap.size + 4 ≤ k) ∧ New w W ∧ DuH w W sl a1 a2 a3 lx ly ∧ ∃ n0 n1 n2 n3 den, W.heap[w.heap.size + 3]? = some (.cells (arr5 n0 n1 n2 n3 den) 49 (0, 0))
/-- five numbers put into the result -/
theorem du_puts {w W8 V : World} {m0 m1 m2 m3 md n0 n1 n2 n3 den : Int} (hV : V = ((((W8.setCell ⟨w.heap.size + 1 + 1 + 1, 0, none⟩ (.int .i64 n0)).setCell ⟨w.heap.size + 1 + 1 + 1, 1, none⟩ (.int .i64 n1)).setCell ⟨w.heap.size + 1 + 1 + 1, 2, none⟩ (.int .i64 n2)).setCell ⟨w.heap.size + 1 + 1 + 1, 3, none⟩ (.int .i64 n3)).setCell ⟨w.heap.size + 1 + 1 + 1, 4, none⟩ (.int .i64 den))
    (hD : W8.heap[w.heap.size + 3]? = some (.cells (arr5 m0 m1 m2 m3 md) 49 (0, 0))) :
    V.heap[w.heap.size + 3]? = some (.cells (arr5 n0 n1 n2 n3 den) 49 (0, 0)) ∧ Mod (fun k => k = w.heap.size + 3) W8 V := by
  subst hV
  exact ⟨arr5_puts (g := w.heap.size + 1 + 1 + 1) hD _ _ _ _ _, ((((Mod.setCell (O := fun k => k = w.heap.size + 3) _ (w.heap.size + 1 + 1 + 1) _ _ rfl).trans (Mod.setCell (O := fun k => k = w.heap.size + 3) _ (w.heap.size + 1 + 1 + 1) _ _ rfl)).trans (Mod.setCell (O := fun k => k = w.heap.size + 3) _ (w.heap.size + 1 + 1 + 1) _ _ rfl)).trans (Mod.setCell (O := fun k => k = w.heap.size + 3) _ (w.heap.size + 1 + 1 + 1) _ _ rfl)).trans (Mod.setCell (O := fun k => k = w.heap.size + 3) _ (w.heap.size + 1 + 1 + 1) _ _ rfl)⟩
theorem DuI.stable (w : World) (sl : Value) (a1 a2 a3 lx ly : Int) : StableJ (DuI w sl a1 a2 a3 lx ly) := by
  rintro O O' done b W W' ⟨h2, h1, h3, n0, n1, n2, n3, den, h4⟩ hm ho
  have hk : ∀ k o, k < w.heap.size + 4 → W.heap[k]? = some o → W'.heap[k]? = some o := fun k o hk h => (hm.2 k (Array.getElem?_eq_some_iff.1 h).1 (fun h' => by have := h2 k h'; omega)).trans h
  have hl := (Array.getElem?_eq_some_iff.1 h4).1
  refine ⟨fun k h => ?_, Mod.new h1 hm fun k h => by have := h2 k h; omega, h3.of fun k o hk' => hk k o (by omega), n0, n1, n2, n3, den, hk _ _ (by omega) h4⟩
  rcases ho k h with h' | h'
  · exact h2 k h'
  · omega
def DuR (w : World) (en : Ending) (w' : World) : Prop := ∃ n0 n1 n2 n3 den, en = .returned (.agg (arr5 n0 n1 n2 n3 den)) ∧ New w w'
theorem du_results (tmps : Array Value) (W : World) (d : Nat) (n0 n1 n2 n3 den : Int) (t2 : TypeId) (h6 : tmps.getD 6 undef = .pointer (some ⟨d, 0, none⟩)) (hD : W.heap[d]? = some (.cells (arr5 n0 n1 n2 n3 den) t2 (0, 0))) :
    (results Try.f47 tmps).run Try.prog W = .ok (.agg (arr5 n0 n1 n2 n3 den)) W := by
  obtain ⟨⟨d0, d1, d2⟩, d3, d4⟩ := cell5 hD
  simp only [Array.getD_eq_getD_getElem?] at h6
  simp [results, Try.results47, go_sem, h6, d0, d1, d2, d3, d4, arr5]
/-- the prices of the first places -/
def prTo (T : List T5) (pl : List Nat) : Nat → (Nat → Int)
  | 0 => fun _ => 0
  | k + 1 => put1 (prTo T pl k) k (tP T (pl.getD k 0))
theorem prTo_bd {T : List T5} (htn : tnOk T) (pl : List Nat) : ∀ k, bd4 (prTo T pl k)
  | 0 => fun j _ => by simp [prTo]
  | k + 1 => fun j hj => by
    have ih := prTo_bd htn pl k j hj
    have := htn (pl.getD k 0)
    simp only [prTo, put1]
    split
    · omega
    · exact ih
theorem own_someI {W : World} {base cap n : Nat} {sa : Option Addr} {x : List Value} (h : W.ownsRow base 3 1 (.slice sa n cap) n x) (hn : 0 < n) : ∃ g, sa = some ⟨g, 0, none⟩ := by
  rcases h.2 with ⟨h1, h2⟩ | ⟨g', cap', cur, h1, h2⟩
  · cases h1; omega
  · cases h1; exact ⟨_, rfl⟩
set_option maxRecDepth 100000 in
set_option maxHeartbeats 8000000 in
theorem dualOf_c (b off n cp : Nat) (a1 a2 a3 lx ly : Int) (T : List T5) (w : World) (hT : Tnts w b off n T) (hS : shOk T) (htn : tnOk T) (hn : n ≤ 1000) (h1 : 0 ≤ a1 ∧ a1 ≤ 1000) (h2 : 0 ≤ a2 ∧ a2 ≤ 1000) (h3 : 0 ≤ a3 ∧ a3 ≤ 1000) :
    Calls Try.prog 47 #[.slice (some ⟨b, off, none⟩) n cp, vv a1 a2 a3, fv lx ly] w (DuR w) := by
  have HT := Lib.hid hT
  have HFC := Lib.hid (fun (w1 : World) => (callsIn_wide (n := 4)).2 (free_c (some ⟨b, off, none⟩) n cp w1))
  have hbl := hT.2.1
  clear hT
  refine (callsIn_wide (n := 5)).1 ?_
  refine callsIn_of_wp_marks Try.func47 rfl trivial ?_ rfl
  simp only [Try.ntmps47, List.size_toArray, List.length_cons, List.length_nil, Nat.reduceAdd, Nat.reduceSub, Array.replicate_succ, Array.replicate_zero, List.push_toArray, List.append_toArray, List.nil_append, List.cons_append]
  gi_wp2
  obtain ⟨W1, hW1⟩ : ∃ W1, W1 = (((w.alloc (.cells #[.slice (some ⟨b, off, none⟩) n cp] 22)).alloc (.cells #[.int .i64 a1, .int .i64 a2, .int .i64 a3] 66)).alloc (.cells #[.int .i64 lx, .int .i64 ly] 29)).alloc (.cells (arr5 0 0 0 0 0) 49) := ⟨_, rfl⟩
  have HN1 := Lib.hid (show New w W1 by rw [hW1]; exact ((((New.refl _).alloc _).alloc _).alloc _).alloc _)
  have HA := Lib.hid (show DuH w W1 (.slice (some ⟨b, off, none⟩) n cp) a1 a2 a3 lx ly ∧ W1.heap[w.heap.size + 3]? = some (.cells (arr5 0 0 0 0 0) 49 (0, 0)) by
    have := alloc4_heap w (.cells #[.slice (some ⟨b, off, none⟩) n cp] 22) (.cells #[.int .i64 a1, .int .i64 a2, .int .i64 a3] 66) (.cells #[.int .i64 lx, .int .i64 ly] 29) (.cells (arr5 0 0 0 0 0) 49)
    rw [hW1]; exact ⟨⟨this.1, this.2.1, this.2.2.1⟩, this.2.2.2⟩)
  have hs1 : w.heap.size + 3 < W1.heap.size := (Array.getElem?_eq_some_iff.1 HA.out.2).1
  unfold arr5 at hW1
  rw [← hW1]
  clear hW1
  refine ⟨trivial, ?_⟩
  gi_at_call 62
  refine (HFC.out _).mono ?_
  rintro e w3 ⟨rfl, rfl⟩
  gi_wp2
  obtain ⟨WS, hWS⟩ : ∃ WS, WS = W1.alloc (.cells #[.slice (some ⟨b, off, none⟩) n cp] 22) := ⟨_, rfl⟩
  have HNS := Lib.hid (show New W1 WS by rw [hWS]; exact (New.refl _).alloc _)
  have HTB := Lib.hid (show WS.heap[W1.heap.size]? = some (.cells #[.slice (some ⟨b, off, none⟩) n cp] 22 (0, 0)) by rw [hWS]; exact World.alloc_heap_new _ _)
  have hs2 : W1.heap.size < WS.heap.size := (Array.getElem?_eq_some_iff.1 HTB.out).1
  rw [← hWS]
  clear hWS
  refine range_iter (n := 5) (by omega) (gf := 81) (lb := #[.pointer (some ⟨W1.heap.size, 0, none⟩)]) rfl (enters_of Try.func81 (by kernel_rfl) rfl)
    (Elem := ElemF) (xs := freeTo T n 4) (E := fun k => k = W1.heap.size ∨ k = b)
    (fun W9 hn9 _ => free_it b off n cp _ T W9 ((hn9.below.block _ hs2).trans HTB.out) (HT.out.new (HN1.out.trans (HNS.out.trans hn9))) hS hn)
    (by intro k hk; omega) (by rintro x args O W ⟨_, _, rfl, _⟩; rfl)
    (DuI w (.slice (some ⟨b, off, none⟩) n cp) a1 a2 a3 lx ly) (DuI.stable _ _ _ _ _ _ _) ?h0 ?hbody ?hdone ?hstop
  case h0 =>
    have hk : ∀ k o, W1.heap[k]? = some o → WS.heap[k]? = some o := fun k o h => (HNS.out.below.block k (Array.getElem?_eq_some_iff.1 h).1).trans h
    refine ⟨?_, HN1.out.trans HNS.out, HA.out.1.of (fun k o _ h => hk _ _ h), _, _, _, _, _, hk _ _ HA.out.2⟩
    rintro k (h | h | h)
    · cases h
    · omega
    · omega
  case hstop =>
    rintro O done W' ⟨j1, j2, j3, n0, n1, n2, n3, den, j4⟩ hpre hdf
    have HM := Lib.hid (And.intro j2 (And.intro j4 hdf))
    clear j1 j2 j3 j4 hdf hpre
    gi_wp2
    refine leaves_marks [WS.heap.size] W' (by simp) (fun D hD => by simp at hD; rw [hD]; exact HM.out.2.2) (fun W9 hm => ?_)
    have hk : ∀ k o, k < w.heap.size + 4 → W'.heap[k]? = some o → W9.heap[k]? = some o := fun k o hk h => (hm.2 k (Array.getElem?_eq_some_iff.1 h).1 (by simp; omega)).trans h
    exact ⟨_, du_results _ _ (w.heap.size + 1 + 1 + 1) n0 n1 n2 n3 den _ rfl (hk _ _ (by omega) HM.out.2.1), n0, n1, n2, n3, den, rfl, Mod.new HM.out.1 hm (fun k hk => by simp at hk; omega)⟩
  case hdone =>
    rintro O W' ⟨j1, j2, j3, n0, n1, n2, n3, den, j4⟩ hdf
    have HM := Lib.hid (And.intro j2 (And.intro j4 hdf))
    obtain ⟨⟨d0, d1, d2⟩, d3, d4⟩ := cell5 j4
    have fr2 := frozen_heap j4
    clear j1 j2 j3 j4 hdf
    gi_wp2
    obtain ⟨WF, hWF⟩ : ∃ WF, WF = ((((W'.setCell ⟨w.heap.size + 1 + 1 + 1, 0, none⟩ (.int .i64 0)).setCell ⟨w.heap.size + 1 + 1 + 1, 1, none⟩ (.int .i64 0)).setCell ⟨w.heap.size + 1 + 1 + 1, 2, none⟩ (.int .i64 0)).setCell ⟨w.heap.size + 1 + 1 + 1, 3, none⟩ (.int .i64 0)).setCell ⟨w.heap.size + 1 + 1 + 1, 4, none⟩ (.int .i64 0) := ⟨_, rfl⟩
    rw [← hWF]
    obtain ⟨z1, zm⟩ := du_puts hWF HM.out.2.1
    have z4 := Mod.new HM.out.1 zm (fun k hk => by omega)
    have z5 : WF.heap[WS.heap.size]? = some (.deferred (some [])) := (zm.2 _ (Array.getElem?_eq_some_iff.1 HM.out.2.2).1 (by omega)).trans HM.out.2.2
    clear hWF zm
    refine leaves_marks [WS.heap.size] WF (by simp) (fun D hD => by simp at hD; rw [hD]; exact z5) (fun W9 hm => ?_)
    have hk : ∀ k o, k < w.heap.size + 4 → WF.heap[k]? = some o → W9.heap[k]? = some o := fun k o hk h => (hm.2 k (Array.getElem?_eq_some_iff.1 h).1 (by simp; omega)).trans h
    exact ⟨_, du_results _ _ (w.heap.size + 1 + 1 + 1) 0 0 0 0 0 _ rfl (hk _ _ (by omega) z1), 0, 0, 0, 0, 0, rfl, Mod.new z4 hm (fun k hk => by simp at hk; omega)⟩
  case hbody =>
    intro mm O done x args Wb hI hE hpre hO1 hO2 hrec hbnd
    obtain ⟨base', v', rfl, hpl⟩ := hE
    obtain ⟨pl, F⟩ := x
    obtain ⟨hbd, ⟨hl1, hl4⟩, hlt⟩ := free_mem hS (by omega) (hpre.subset (by simp : (pl, F) ∈ done ++ [(pl, F)]))
    dsimp only at hbd hl1 hl4 hlt hpl ⊢
    obtain ⟨ax, cx, rfl⟩ := own_slice hpl.1
    obtain ⟨rr, hrr⟩ := hrec
    have hlpb := (Array.getElem?_eq_some_iff.1 hrr).1
    have HPL := Lib.hid hpl
    have HI := Lib.hid hI
    have HBND := Lib.hid hbnd
    have HHB := Lib.hid hbd
    have HLT := Lib.hid hlt
    clear hpl hpre hI hrr hbnd hbd hlt
    gi_wp2
    refine ⟨Keep.of_new ((New.refl _).alloc _), ?_⟩
    intro W2 hb2 hs2' ho2 hrec2
    have hmod : Mod (plus WS.heap.size O) Wb W2 := by
      refine ⟨(Below.mono ((New.refl Wb).alloc _).below (Nat.zero_le _)).trans hb2, fun k hk hne' => ?_⟩
      rw [ho2 k (fun e => hne' (.inr (.inr e)))]
      exact Below.heap_alloc _ _ _ hk
    have HI2 := Lib.hid (DuI.stable w _ _ _ _ _ _ _ _ _ _ _ _ HI.out hmod (fun k hk => .inl hk))
    have HFB := Lib.hid (show W2.heap[Wb.heap.size]? = some (.cells (arr16 F) 107 (0, 0)) from (ho2 _ (by omega)).trans (World.alloc_heap_new _ _))
    have HOW := Lib.hid (show W2.ownsRow base' 3 1 (.slice ax pl.length cx) pl.length (natCells pl) from own_keep HPL.out.1 (fun g hg => by
      have hgb := HBND.out g (HPL.out.2 g hg)
      rw [ho2 g (fun e => hO1 (e ▸ HPL.out.2 g hg))]; exact Below.heap_alloc _ _ _ hgb))
    have hsz2 : Wb.heap.size < W2.heap.size := (Array.getElem?_eq_some_iff.1 HFB.out).1
    obtain ⟨gx, rfl⟩ : ∃ g, ax = some ⟨g, 0, none⟩ := own_someI HOW.out hl1
    clear hb2 hs2' ho2 hrec2 hO1 hO2 hmod
    -- what a round leaves
    have HFIN := Lib.hid (show ∀ V, New W2 V → RoundP WS.heap.size O (fun k => k = W1.heap.size ∨ k = b) (DuI w (.slice (some ⟨b, off, none⟩) n cp) a1 a2 a3 lx ly) (done ++ [(pl, F)]) W2 .normal V from fun V hV => by
      refine ⟨Keep.of_new hV, false, DuI.stable w _ _ _ _ _ _ _ _ _ _ _ _ HI2.out (Mod.of_new hV) (fun k hk => .inl hk), .inl ⟨rfl, rfl⟩⟩)
    gi_wp2
    obtain ⟨WP, hWP⟩ : ∃ WP, WP = W2.alloc (.cells (arr4 fun _ => 0) 47) := ⟨_, rfl⟩
    have HNP := Lib.hid (show New W2 WP by rw [hWP]; exact (New.refl _).alloc _)
    have HPB := Lib.hid (show WP.heap[W2.heap.size]? = some (.cells (arr4 fun _ => 0) 47 (0, 0)) by rw [hWP]; exact World.alloc_heap_new _ _)
    unfold arr4 at hWP
    rw [← hWP]
    clear hWP
    generalize hPB : W2.heap.size = PB at *
    gi_loopw [21] (fun i V => ∃ k : Nat, k ≤ pl.length ∧ i = .int .i64 (k : Int) ∧ New W2 V ∧ V.heap[PB]? = some (.cells (arr4 (prTo T pl k)) 47 (0, 0))) (fun i _ => pl.length - (intOf i).toNat)
    case atStart => exact ⟨0, Nat.zero_le _, rfl, HNP.out, HPB.out⟩
    case round =>
      obtain ⟨k, hk, rfl, hnv, hz⟩ := hrel
      have HNV := Lib.hid hnv
      have HZ := Lib.hid hz
      clear hnv hz
      by_cases hlk : k < pl.length
      · have hlk1 : (k : Int) < (pl.length : Int) := by omega
        have c1 := (own_cell (own_new HOW.out HNV.out) (natCells_at pl k hlk)).1
        have c0 := (box_cell ((HNV.out.below.block _ (Array.getElem?_eq_some_iff.1 HI2.out.2.2.1.1).1).trans HI2.out.2.2.1.1)).1
        have hpn : pl.getD k 0 < n := HLT.out _ (by rw [List.getD_eq_getElem?_getD, List.getElem?_eq_getElem hlk]; simp)
        obtain ⟨_, gl, hcc⟩ := HT.out.new (HI2.out.2.1.trans HNV.out)
        have c5 := (hcc _ hpn).2.2
        have hpn1 : ((pl.getD k 0 : Nat) : Int) < (n : Int) := by omega
        have hk4 : (k : Int) < 4 := by omega
        have c6 := cell4 HZ.out k (by omega)
        have c7 := frozen_heap HZ.out k
        have HPS := Lib.hid (show prTo T pl (k + 1) = put1 (prTo T pl k) k (tP T (pl.getD k 0)) from rfl)
        have hxl : gx < wr.heap.size := own_lt (own_new HOW.out HNV.out)
        have hPB2 : W2.heap.size ≤ PB := by omega
        clear hcc
        generalize pl.getD k 0 = p at *
        generalize tP T p = D at *
        generalize prTo T pl k k = Z at *
        gi_wp2
        go_roundw
        case rel => exact ⟨k + 1, by omega, by go_num, HNV.out.setCell (by show W2.heap.size ≤ PB; exact hPB2) _, by rw [HPS.out]; exact heap_put4q HZ.out k (by omega) _⟩
        case measure => simp [intOf]; omega
      · obtain rfl : k = pl.length := by omega
        have hlk1 : ¬ ((pl.length : Nat) : Int) < (pl.length : Int) := by omega
        have HSO := Lib.hid (fun (V : World) => CallsIn.inRound (WS.heap.size + 1) ((callsIn_wide (n := mm - 1)).2 (solve_c F (prTo T pl pl.length) V HHB.out (prTo_bd htn pl _))))
        have hFB := (HNV.out.below.block _ (Array.getElem?_eq_some_iff.1 HFB.out).1).trans HFB.out
        have e0 := cell16 hFB 0 (by omega)
        have e1 := cell16 hFB 1 (by omega)
        have e2 := cell16 hFB 2 (by omega)
        have e3 := cell16 hFB 3 (by omega)
        have e4 := cell16 hFB 4 (by omega)
        have e5 := cell16 hFB 5 (by omega)
        have e6 := cell16 hFB 6 (by omega)
        have e7 := cell16 hFB 7 (by omega)
        have e8 := cell16 hFB 8 (by omega)
        have e9 := cell16 hFB 9 (by omega)
        have e10 := cell16 hFB 10 (by omega)
        have e11 := cell16 hFB 11 (by omega)
        have e12 := cell16 hFB 12 (by omega)
        have e13 := cell16 hFB 13 (by omega)
        have e14 := cell16 hFB 14 (by omega)
        have e15 := cell16 hFB 15 (by omega)
        have f0 := cell4 HZ.out 0 (by omega)
        have f1 := cell4 HZ.out 1 (by omega)
        have f2 := cell4 HZ.out 2 (by omega)
        have f3 := cell4 HZ.out 3 (by omega)
        clear hFB
        generalize hPF : prTo T pl pl.length = PF at *
        generalize hSV : soI F PF = SV at *
        generalize hSD : sg1 (detI F) * detI F = SD at *
        clear hPF hSV hSD
        gi_wp2
        refine ⟨trivial, (fun h => by cases h), ?_⟩
        gi_at_call 76
        refine (HSO.out _).mono ?_
        rintro e w5 ⟨rfl, hn5⟩
        have HN5 := Lib.hid (HNV.out.trans hn5)
        clear hn5 e0 e1 e2 e3 e4 e5 e6 e7 e8 e9 e10 e11 e12 e13 e14 e15 f0 f1 f2 f3
        have n6 : New W2 ((w5.alloc (.cells #[.int .i64 (SV 0), .int .i64 (SV 1), .int .i64 (SV 2), .int .i64 (SV 3)] 47)).alloc (.cells #[.int .i64 (SV 0), .int .i64 (SV 1), .int .i64 (SV 2), .int .i64 (SV 3), .int .i64 SD] 49)) := (HN5.out.alloc _).alloc _
        have gt := (n6.cell (b := w.heap.size) (o := 0) (Array.getElem?_eq_some_iff.1 HI2.out.2.2.1.1).1).trans (box_cell HI2.out.2.2.1.1).1
        have cw := HI2.out.2.2.1.2.1
        have cl := HI2.out.2.2.1.2.2
        have gw0 := (n6.cell (b := w.heap.size + 1) (o := 0) (Array.getElem?_eq_some_iff.1 cw).1).trans (show W2.cell? ⟨w.heap.size + 1, 0, none⟩ = some (.int .i64 a1) by simp [World.cell?, cw])
        have gw1 := (n6.cell (b := w.heap.size + 1) (o := 1) (Array.getElem?_eq_some_iff.1 cw).1).trans (show W2.cell? ⟨w.heap.size + 1, 1, none⟩ = some (.int .i64 a2) by simp [World.cell?, cw])
        have gw2 := (n6.cell (b := w.heap.size + 1) (o := 2) (Array.getElem?_eq_some_iff.1 cw).1).trans (show W2.cell? ⟨w.heap.size + 1, 2, none⟩ = some (.int .i64 a3) by simp [World.cell?, cw])
        have gl0 := (n6.cell (b := w.heap.size + 1 + 1) (o := 0) (Array.getElem?_eq_some_iff.1 cl).1).trans (show W2.cell? ⟨w.heap.size + 2, 0, none⟩ = some (.int .i64 lx) by simp [World.cell?, cl])
        have gl1 := (n6.cell (b := w.heap.size + 1 + 1) (o := 1) (Array.getElem?_eq_some_iff.1 cl).1).trans (show W2.cell? ⟨w.heap.size + 2, 1, none⟩ = some (.int .i64 ly) by simp [World.cell?, cl])
        have HD6 := Lib.hid (show ((w5.alloc (.cells #[.int .i64 (SV 0), .int .i64 (SV 1), .int .i64 (SV 2), .int .i64 (SV 3)] 47)).alloc (.cells #[.int .i64 (SV 0), .int .i64 (SV 1), .int .i64 (SV 2), .int .i64 (SV 3), .int .i64 SD] 49)).heap[w5.heap.size + 1]? = some (.cells (arr5 (SV 0) (SV 1) (SV 2) (SV 3) SD) 49 (0, 0)) from alloc2_new rfl)
        have HN6 := Lib.hid n6
        have HIS := Lib.hid (fun (V : World) (hV : New W2 V) => CallsIn.inRound (WS.heap.size + 1) ((callsIn_wide (n := mm - 1)).2 (isDual_c b off n cp a1 a2 a3 lx ly SV SD T V (HT.out.new (HI2.out.2.1.trans hV)) htn hn h1 h2 h3)))
        clear n6 cw cl
        gi_wp2
        refine ⟨trivial, (fun h => by cases h), ?_⟩
        gi_at_call 50
        refine (HIS.out _ HN6.out).mono ?_
        rintro e w7 ⟨z, rfl, hn7⟩
        have HN7 := Lib.hid (HN6.out.trans hn7)
        have HD7 := Lib.hid ((hn7.below.block _ (Array.getElem?_eq_some_iff.1 HD6.out).1).trans HD6.out)
        clear hn7 gt gw0 gw1 gw2 gl0 gl1
        cases z
        · have HS := Lib.hid (HFIN.out _ HN7.out)
          gi_wp2
          exact HS.out
        · obtain ⟨m0, m1, m2, m3, md, hres⟩ := HI2.out.2.2.2
          have hres7 := (HN7.out.below.block _ (Array.getElem?_eq_some_iff.1 hres).1).trans hres
          have HRS := Lib.hid hres7
          obtain ⟨⟨e0, e1, e2⟩, e3, e4⟩ := cell5 HD7.out
          obtain ⟨⟨d0, d1, d2⟩, d3, d4⟩ := cell5 (show w7.heap[w.heap.size + 1 + 1 + 1]? = _ from hres7)
          have fr := frozen_heap (show w7.heap[w.heap.size + 1 + 1 + 1]? = _ from hres7)
          have hne : ¬ w5.heap.size + 1 = w.heap.size + 1 + 1 + 1 := by
            have x1 := HN5.out.size
            have x2 := (Array.getElem?_eq_some_iff.1 hres).1
            omega
          clear hres hres7
          gi_wp2
          obtain ⟨WF, hWF⟩ : ∃ WF, WF = ((((w7.setCell ⟨w.heap.size + 1 + 1 + 1, 0, none⟩ (.int .i64 (SV 0))).setCell ⟨w.heap.size + 1 + 1 + 1, 1, none⟩ (.int .i64 (SV 1))).setCell ⟨w.heap.size + 1 + 1 + 1, 2, none⟩ (.int .i64 (SV 2))).setCell ⟨w.heap.size + 1 + 1 + 1, 3, none⟩ (.int .i64 (SV 3))).setCell ⟨w.heap.size + 1 + 1 + 1, 4, none⟩ (.int .i64 SD) := ⟨_, rfl⟩
          rw [← hWF]
          obtain ⟨z1, zm⟩ := du_puts hWF HRS.out
          have hm : Mod (fun k => k = w.heap.size + 3) W2 WF := (Mod.of_new HN7.out).trans zm
          obtain ⟨j1, j2, j3, _⟩ := HI2.out
          refine ⟨Keep.of_mod hm (fun k hk e => ?_), true, ⟨j1, Mod.new j2 hm (fun k hk => by omega), j3.of (fun k o hk h => (hm.2 k (Array.getElem?_eq_some_iff.1 h).1 (by omega)).trans h), _, _, _, _, _, z1⟩, .inr ⟨rfl, rfl⟩⟩
          rcases hk with hk | hk
          · have := j1 k hk; omega
          · omega

end Go.Proofs.Ytpjekinmcdglbaa
