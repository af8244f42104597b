/- All recipes of free tints that give a shade, as the closure of recipes yields them. Tints with shades from 0 to 1000, at most 1000 of them; a wanted shade from -10000 to 10000. -/
import Derived.Test.YtpjekinmcdglbaaFr
import Derived.Test.YtpjekinmcdglbaaMx
set_option linter.unusedSimpArgs false
set_option linter.unusedVariables false
namespace Go.Proofs.Ytpjekinmcdglbaa
open Go.RowKit Go.Shelf

attribute [local go_sem] Oper.semAt_some

theorem free_mem {T : List T5} {n s : Nat} (hS : shOk T) (hs : s ≤ 4) {x : List Nat × (Nat → Int)} (h : x ∈ freeTo T n s) : bd16 x.2 ∧ (1 ≤ x.1.length ∧ x.1.length ≤ 4) ∧ ∀ p ∈ x.1, p < n := by
  simp only [freeTo, List.mem_flatMap, List.mem_range, List.mem_filterMap] at h
  obtain ⟨i, hi, pl, hpl, hx⟩ := h
  unfold frF at hx
  split at hx
  case isTrue ht =>
    injection hx with hx
    subst hx
    obtain ⟨h1, h2⟩ := extL_mem hpl
    refine ⟨?_, by simp at h1; simp; omega, h2 (by simp)⟩
    unfold frameR at ht ⊢
    split at ht
    case h_1 ds hd => simp only [hd]; exact frm_bd hS _ _
    case h_2 hd => cases ht
  case isFalse => cases hx

def rcF (a b c : Int) (x : List Nat × (Nat → Int)) : Option (List (Int × Int)) := if okTo (weI x.2 (row1 a b c)) x.1.length 4 = true then some (mixTo (weI x.2 (row1 a b c)) x.1 x.1.length) else none
def rcpL (T : List T5) (n : Nat) (a b c : Int) : List (List (Int × Int)) := (freeTo T n 4).filterMap (rcF a b c)
/-- x are the parts of a recipe, in a block at or beyond B0 that the iterator does not use any more -/
def ElemR (B0 : Nat) (x : List (Int × Int)) (args : Array Value) (O : Nat → Prop) (W : World) : Prop := ∃ sv, args = #[.agg #[sv]] ∧ W.ownsRow B0 64 2 sv x.length (partCells x) ∧ ∀ g, sv.ownBlock = some g → ¬ O g

structure RcB where
  lp : Nat
  tb : Nat
  wb : Nat
  yb : Nat
  b : Nat
  a1 : Int
  a2 : Int
  a3 : Int
def RcB.ext (c : RcB) (O : Nat → Prop) : Nat → Prop := fun k => O k ∨ k = c.yb ∨ k = c.yb + 1
def RcK (c : RcB) (O : Nat → Prop) (W : World) : Prop :=
  Has O W c.yb (.cells #[.func (.yield c.lp) #[] #[]] 101 (0, 0)) ∧ Has O W c.wb (.cells #[.int .i64 c.a1, .int .i64 c.a2, .int .i64 c.a3] 66 (0, 0)) ∧ c.tb < W.heap.size ∧ c.b < W.heap.size
def RcI (c : RcB) (J : (Nat → Prop) → List (List (Int × Int)) → Bool → World → Prop) (O : Nat → Prop) (done : List (List Nat × (Nat → Int))) (bb : Bool) (W : World) : Prop :=
  RcK c O W ∧ J (c.ext O) (done.filterMap (rcF c.a1 c.a2 c.a3)) bb W
theorem RcI.stable (c : RcB) {J : (Nat → Prop) → List (List (Int × Int)) → Bool → World → Prop} (hJ : StableJ J) : StableJ (RcI c J) := by
  rintro O O' done bb W W' ⟨⟨h1, h2, h4, h5⟩, h3⟩ hm ho
  refine ⟨⟨h1.stable hm ho, h2.stable hm ho, Nat.lt_of_lt_of_le h4 hm.size, Nat.lt_of_lt_of_le h5 hm.size⟩, hJ _ _ _ _ _ _ h3 (hm.mono fun k hk => .inl hk) ?_⟩
  rintro k (hk | hk)
  · exact (ho k hk).imp .inl id
  · exact .inl (.inr hk)

set_option maxHeartbeats 2000000 in
theorem free_c (sl : Option Addr) (n cp : Nat) (w : World) : Calls Try.prog 62 #[.slice sl n cp] w fun e w' => e = .returned (.func (.func 81) #[] #[.pointer (some ⟨w.heap.size, 0, none⟩)]) ∧ w' = w.alloc (.cells #[.slice sl n cp] 22) := by
  go_enter Try.func62, Try.ntmps62
  go_wp2_with fail
  go_ret
  exact ⟨rfl, rfl⟩

set_option maxRecDepth 100000 in
set_option maxHeartbeats 8000000 in
theorem recipes_it (b off n cp tb wb : Nat) (a1 a2 a3 : Int) (T : List T5) (W : World) (htb : W.heap[tb]? = some (.cells #[.slice (some ⟨b, off, none⟩) n cp] 22 (0, 0))) (hwb : W.heap[wb]? = some (.cells #[.int .i64 a1, .int .i64 a2, .int .i64 a3] 66 (0, 0)))
    (hT : Tnts W b off n T) (hS : shOk T) (hn : n ≤ 1000) (ha1 : -10000 ≤ a1 ∧ a1 ≤ 10000) (ha2 : -10000 ≤ a2 ∧ a2 ≤ 10000) (ha3 : -10000 ≤ a3 ∧ a3 ≤ 10000) :
    IterAt Try.prog 61 #[.pointer (some ⟨tb, 0, none⟩), .pointer (some ⟨wb, 0, none⟩)] (ElemR W.heap.size) (rcpL T n a1 a2 a3) (fun k => k = tb ∨ k = wb ∨ k = b) W := by
  intro lp J hJs hJ hY
  have htl := (Array.getElem?_eq_some_iff.1 htb).1
  have hwl := (Array.getElem?_eq_some_iff.1 hwb).1
  have hbl := hT.2.1
  obtain ⟨c, hc⟩ : ∃ c : RcB, c = ⟨lp, tb, wb, W.heap.size, b, a1, a2, a3⟩ := ⟨_, rfl⟩
  obtain ⟨hc1, hc2, hc3, hc4, hc5, hc6, hc7, hc8⟩ : c.lp = lp ∧ c.tb = tb ∧ c.wb = wb ∧ c.yb = W.heap.size ∧ c.b = b ∧ c.a1 = a1 ∧ c.a2 = a2 ∧ c.a3 = a3 := by rw [hc]; exact ⟨rfl, rfl, rfl, rfl, rfl, rfl, rfl, rfl⟩
  clear hc
  subst hc1 hc2 hc3 hc5 hc6 hc7 hc8
  have HYB := Lib.hid hc4
  have HS := Lib.hid hS
  have HJS := Lib.hid hJs
  have HY := Lib.hid hY
  have HT := Lib.hid hT
  have HFC := Lib.hid (fun (w1 : World) => (callsIn_wide (n := 4)).2 (free_c (some ⟨c.b, off, none⟩) n cp w1))
  obtain ⟨W1, hW1⟩ : ∃ W1, W1 = W.alloc (.cells #[.func (.yield c.lp) #[] #[]] 101) := ⟨_, rfl⟩
  have HN1 := Lib.hid (show New W W1 by rw [hW1]; exact (New.refl _).alloc _)
  have HYK := Lib.hid (show W1.heap[c.yb]? = some (.cells #[.func (.yield c.lp) #[] #[]] 101 (0, 0)) by rw [hW1, hc4]; exact World.alloc_heap_new _ _)
  have HWB := Lib.hid (show W1.heap[c.wb]? = some (.cells #[.int .i64 c.a1, .int .i64 c.a2, .int .i64 c.a3] 66 (0, 0)) from (HN1.out.below.block _ hwl).trans hwb)
  have HJ0 := Lib.hid hJ
  have c1 : W1.cell? ⟨c.tb, 0, none⟩ = some (.slice (some ⟨c.b, off, none⟩) n cp) := (box_cell ((HN1.out.below.block _ htl).trans htb)).1
  have hs1 : W.heap.size < W1.heap.size := by rw [hW1]; simp
  have hs1' : W1.heap.size = c.yb + 1 := by rw [hW1, hc4]; simp
  clear hJs hJ hY hT hS htb hwb hc4
  show Calls _ _ #[.func (.yield c.lp) #[] #[], .pointer (some ⟨c.tb, 0, none⟩), .pointer (some ⟨c.wb, 0, none⟩)] _ _
  refine (callsIn_wide (n := 5)).1 ?_
  refine callsIn_of_wp_marks Try.func61 rfl trivial ?_ rfl
  simp only [Try.ntmps61, List.size_toArray, List.length_cons, List.length_nil, Nat.reduceAdd, Nat.reduceSub, Array.replicate_succ, Array.replicate_zero, List.push_toArray, List.append_toArray, List.nil_append, List.cons_append]
  have c1' := c1
  rw [hW1] at c1'
  gi_wp2
  refine ⟨trivial, ?_⟩
  gi_at_call 62
  refine (HFC.out _).mono ?_
  rintro e w2 ⟨rfl, rfl⟩
  gi_wp2
  rw [← HYB.out, ← hW1]
  obtain ⟨WS, hWS⟩ : ∃ WS, WS = W1.alloc (.cells #[.slice (some ⟨c.b, off, none⟩) n cp] 22) := ⟨_, rfl⟩
  have HNS := Lib.hid (show New W1 WS by rw [hWS]; exact (New.refl _).alloc _)
  have HTB := Lib.hid (show WS.heap[c.yb + 1]? = some (.cells #[.slice (some ⟨c.b, off, none⟩) n cp] 22 (0, 0)) by rw [← hs1', hWS]; exact World.alloc_heap_new _ _)
  have hs2 : c.yb + 1 < WS.heap.size := (Array.getElem?_eq_some_iff.1 HTB.out).1
  rw [← hWS]
  clear hWS c1 c1' hW1
  have hyb : c.yb = W.heap.size := HYB.out
  have HYBL := Lib.hid (show W.heap.size ≤ c.yb ∧ c.yb ≤ W.heap.size ∧ c.yb < W1.heap.size ∧ W1.heap.size ≤ c.yb + 1 by omega)
  clear hyb hs1'
  refine range_iter (n := 5) (by omega) (gf := 81) (lb := #[.pointer (some ⟨c.yb + 1, 0, none⟩)]) rfl (enters_of Try.func81 (by kernel_rfl) rfl)
    (Elem := ElemF) (xs := freeTo T n 4) (E := fun k => k = c.yb + 1 ∨ k = c.b)
    (fun W9 hn9 _ => free_it c.b off n cp _ T W9 ((hn9.below.block _ hs2).trans HTB.out) (HT.out.new (HN1.out.trans (HNS.out.trans hn9))) HS.out hn)
    (by intro k hk; have := HYBL.out; omega) (by rintro x args O W ⟨_, _, rfl, _⟩; rfl)
    (RcI c J) (RcI.stable _ HJS.out) ?h0 ?hbody ?hdone ?hstop
  case h0 =>
    have hy := HYBL.out
    refine ⟨⟨⟨?_, (HNS.out.below.block _ (by omega)).trans HYK.out⟩, ⟨?_, (HNS.out.below.block _ (by omega)).trans HWB.out⟩, by omega, by omega⟩, ?_⟩
    · rintro (h | h | h)
      · cases h
      · omega
      · omega
    · rintro (h | h | h)
      · cases h
      · omega
      · omega
    · refine HJS.out _ _ _ _ _ _ HJ0.out (Mod.of_new (HN1.out.trans HNS.out)) ?_
      rintro k ((h | h | h) | h | h)
      · cases h
      · right; omega
      · right; omega
      · right; omega
      · right; omega
  case hdone =>
    rintro O W' ⟨hk, hJ⟩ hdf
    have HJ := Lib.hid hJ
    have HDF := Lib.hid hdf
    clear hk hJ hdf
    gi_wp2
    refine leaves_marks [WS.heap.size] W' (by simp) (fun D hD => by simp at hD; rw [hD]; exact HDF.out) (fun W9 hm => ?_)
    exact ⟨_, results_none rfl _ _ _, ⟨_, rfl⟩, _, _, false, HJS.out _ _ _ _ _ _ HJ.out (hm.mono fun k hk => by simp at hk; exact .inl (.inr (.inl hk))) (fun k hk => .inl hk), (fun _ => rfl), List.prefix_rfl⟩
  case hstop =>
    rintro O done W' ⟨hk, hJ⟩ hpre hdf
    have HJ := Lib.hid hJ
    have HDF := Lib.hid hdf
    have HPRE := Lib.hid (prefix_filterMap (rcF c.a1 c.a2 c.a3) hpre)
    clear hk hJ hdf hpre
    gi_wp2
    refine leaves_marks [WS.heap.size] W' (by simp) (fun D hD => by simp at hD; rw [hD]; exact HDF.out) (fun W9 hm => ?_)
    exact ⟨_, results_none rfl _ _ _, ⟨_, rfl⟩, _, _, true, HJS.out _ _ _ _ _ _ HJ.out (hm.mono fun k hk => by simp at hk; exact .inl (.inr (.inl hk))) (fun k hk => .inl hk), (fun h => by cases h), HPRE.out⟩
  case hbody =>
    intro mm O done x args Wb hI hE hpre hO1 hO2 hrec hbnd
    obtain ⟨base', v', rfl, hpl⟩ := hE
    obtain ⟨pl, F⟩ := x
    obtain ⟨hbd, ⟨hl1, hl4⟩, hlt⟩ := free_mem HS.out (by omega) (hpre.subset (by simp : (pl, F) ∈ done ++ [(pl, F)]))
    dsimp only at hbd hl1 hl4 hlt hpl ⊢
    obtain ⟨ax, cx, rfl⟩ := own_slice hpl.1
    obtain ⟨rr, hrr⟩ := hrec
    have hlpb := (Array.getElem?_eq_some_iff.1 hrr).1
    have HPL := Lib.hid hpl
    have HI := Lib.hid hI
    have HPRE := Lib.hid (prefix_filterMap (rcF c.a1 c.a2 c.a3) hpre)
    have HBND := Lib.hid hbnd
    have HHB := Lib.hid hbd
    clear hpl hpre hI hrr hbnd hbd
    gi_wp2
    refine ⟨Keep.of_new ((New.refl _).alloc _), ?_⟩
    intro W2 hb2 hs2 ho2 hrec2
    have hmod : Mod (plus WS.heap.size O) Wb W2 := by
      refine ⟨(Below.mono ((New.refl Wb).alloc _).below (Nat.zero_le _)).trans hb2, fun k hk hne' => ?_⟩
      rw [ho2 k (fun e => hne' (.inr (.inr e)))]
      exact Below.heap_alloc _ _ _ hk
    have HI2 := Lib.hid (RcI.stable c HJS.out _ _ _ _ _ _ HI.out hmod (fun k hk => .inl hk))
    have HFB := Lib.hid (show W2.heap[Wb.heap.size]? = some (.cells (arr16 F) 107 (0, 0)) from (ho2 _ (by omega)).trans (World.alloc_heap_new _ _))
    have HOW := Lib.hid (show W2.ownsRow base' 3 1 (.slice ax pl.length cx) pl.length (natCells pl) from own_keep HPL.out.1 (fun g hg => by
      have hgb := HBND.out g (HPL.out.2 g hg)
      rw [ho2 g (fun e => hO1 (e ▸ HPL.out.2 g hg))]; exact Below.heap_alloc _ _ _ hgb))
    have hsz2 : Wb.heap.size < W2.heap.size := (Array.getElem?_eq_some_iff.1 HFB.out).1
    have HMX := Lib.hid (CallsIn.inRound (WS.heap.size + 1) ((callsIn_wide (n := mm - 1)).2 (mixture_c base' pl _ F c.a1 c.a2 c.a3 W2 HHB.out ha1 ha2 ha3 hl1 hl4 HOW.out)))
    have cw := HI2.out.1.2.1.2
    have cw0 : W2.cell? ⟨c.wb, 0, none⟩ = some (.int .i64 c.a1) := by simp [World.cell?, cw]
    have cw1 : W2.cell? ⟨c.wb, 1, none⟩ = some (.int .i64 c.a2) := by simp [World.cell?, cw]
    have cw2 : W2.cell? ⟨c.wb, 2, none⟩ = some (.int .i64 c.a3) := by simp [World.cell?, cw]
    have e0 := cell16 HFB.out 0 (by omega)
    have e1 := cell16 HFB.out 1 (by omega)
    have e2 := cell16 HFB.out 2 (by omega)
    have e3 := cell16 HFB.out 3 (by omega)
    have e4 := cell16 HFB.out 4 (by omega)
    have e5 := cell16 HFB.out 5 (by omega)
    have e6 := cell16 HFB.out 6 (by omega)
    have e7 := cell16 HFB.out 7 (by omega)
    have e8 := cell16 HFB.out 8 (by omega)
    have e9 := cell16 HFB.out 9 (by omega)
    have e10 := cell16 HFB.out 10 (by omega)
    have e11 := cell16 HFB.out 11 (by omega)
    have e12 := cell16 HFB.out 12 (by omega)
    have e13 := cell16 HFB.out 13 (by omega)
    have e14 := cell16 HFB.out 14 (by omega)
    have e15 := cell16 HFB.out 15 (by omega)
    clear hb2 hs2 ho2 hrec2 hO1 hO2 hmod cw
    gi_wp2
    refine ⟨trivial, (fun h => by cases h), ?_⟩
    gi_at_call 63
    refine HMX.out.mono ?_
    rintro e w5 ⟨sv, ok, rfl, hok, hn5, hcase⟩
    have HN5 := Lib.hid hn5
    have HOK := Lib.hid hok
    have HN6 := Lib.hid (show New W2 (w5.alloc (.cells #[sv] 25)) from HN5.out.alloc _)
    have HI6 := Lib.hid (RcI.stable c HJS.out _ _ _ _ _ (w5.alloc (.cells #[sv] 25)) HI2.out (Mod.of_new HN6.out) (fun k hk => .inl hk))
    have c2 := (box_cell ((hn5.below.block _ (Array.getElem?_eq_some_iff.1 HI2.out.1.1.2).1).trans HI2.out.1.1.2)).1
    have hyl : c.yb < w5.heap.size := (Array.getElem?_eq_some_iff.1 ((hn5.below.block _ (Array.getElem?_eq_some_iff.1 HI2.out.1.1.2).1).trans HI2.out.1.1.2)).1
    clear hn5 hok cw0 cw1 cw2 e0 e1 e2 e3 e4 e5 e6 e7 e8 e9 e10 e11 e12 e13 e14 e15
    rcases hcase with ⟨rfl, hown⟩ | ⟨rfl, rfl⟩
    · obtain ⟨sa, sc, rfl⟩ := own_slice hown
      have HR : rcF c.a1 c.a2 c.a3 (pl, F) = some (mixTo (weI F (row1 c.a1 c.a2 c.a3)) pl pl.length) := by unfold rcF; rw [if_pos HOK.out.symm]
      obtain ⟨R, hR⟩ : ∃ R, R = mixTo (weI F (row1 c.a1 c.a2 c.a3)) pl pl.length := ⟨_, rfl⟩
      have hRl : R.length = pl.length := by rw [hR, mixTo_len]
      rw [← hR] at HR hown
      have HFM := Lib.hid (show done.filterMap (rcF c.a1 c.a2 c.a3) ++ [R] = (done ++ [(pl, F)]).filterMap (rcF c.a1 c.a2 c.a3) by
        rw [List.filterMap_append, show [(pl, F)].filterMap (rcF c.a1 c.a2 c.a3) = [R] by simp [HR]])
      have hgb := hown.lt
      have hbn6 : ∀ k, c.ext (plus WS.heap.size O) k → k < W2.heap.size := fun k hk => by
        obtain ⟨a1, a2, a3, a4⟩ := HI2.out.1
        rcases hk with (hk | hk | hk) | hk | hk
        · exact Nat.lt_trans (HBND.out k hk) (by omega)
        · omega
        · omega
        · rw [hk]; exact a1.lt
        · omega
      have HEL : ElemR W.heap.size R #[.agg #[.slice sa pl.length sc]] (c.ext (plus WS.heap.size O)) (w5.alloc (.cells #[.slice sa pl.length sc] 25)) :=
        ⟨_, rfl, by rw [hRl]; exact own_base (own_new hown ((New.refl _).alloc _)) (by have := HI2.out.1.1.lt; have := HYBL.out; omega), fun g hg h => by have := hgb g hg; have := hbn6 g h; omega⟩
      have HYA := Lib.hid (HY.out (c.ext (plus WS.heap.size O)) _ R _ _ HI6.out.2 (by rw [HFM.out]; exact HPRE.out) HEL (fun k hk => Nat.lt_of_lt_of_le (hbn6 k hk) HN6.out.size) (mm - 1))
      obtain ⟨fn, tmps, assign, body, hy, hRR⟩ := HYA.out
      have HRR := Lib.hid hRR
      have HRP := Lib.hid (show ∀ (b : Bool) W7, J (c.ext (plus WS.heap.size O)) (done.filterMap (rcF c.a1 c.a2 c.a3) ++ [R]) (!b) W7 → Keep (fun k => c.ext (plus WS.heap.size O) k ∨ (k = c.tb ∨ k = c.wb ∨ k = c.b)) (w5.alloc (.cells #[.slice sa pl.length sc] 25)) W7 →
          RoundP WS.heap.size O (fun k => k = c.yb + 1 ∨ k = c.b) (RcI c J) (done ++ [(pl, F)]) W2 (if b then .normal else .ret) W7 from fun b W7 hj hk => by
        refine ⟨(Keep.of_new HN6.out).trans (hk.mono fun k h => h.elim (fun h => .inl (.inl h)) (fun h => h.elim (fun h => .inl (.inr (.inr h))) (fun h => .inr (.inr (.inr h))))), !b, ⟨?_, by rw [← HFM.out]; exact hj⟩, by cases b <;> simp⟩
        obtain ⟨a1, a2, a3, a4⟩ := HI6.out.1
        exact ⟨⟨a1.1, hk.at a1.2 (.inl (.inr (.inl rfl)))⟩, ⟨a2.1, hk.at a2.2 (.inr (.inr (.inl rfl)))⟩, Nat.lt_of_lt_of_le a3 hk.size, Nat.lt_of_lt_of_le a4 hk.size⟩)
      clear HYA HEL hRR hbn6 hgb hR hRl HR hown
      gi_wp2
      refine ⟨(fun h => by cases h), ?_⟩
      refine (show RoundIn (Fence.wide.inRound (WS.heap.size + 1)) (mm - 1) Try.prog c.lp fn tmps assign body _ _ from HRR.out).mono ?_
      rintro e W7 ⟨bb, rfl, hj7, hk7⟩
      have HP := Lib.hid (HRP.out bb W7 hj7 hk7)
      clear hj7 hk7
      cases bb
      · gi_wp2
        exact HP.out
      · gi_wp2
        exact HP.out
    · have HP := Lib.hid (show RoundP WS.heap.size O (fun k => k = c.yb + 1 ∨ k = c.b) (RcI c J) (done ++ [(pl, F)]) W2 .normal (w5.alloc (.cells #[.slice none 0 0] 25)) from
        ⟨Keep.of_new HN6.out, false, ⟨HI6.out.1, by rw [List.filterMap_append, show [(pl, F)].filterMap (rcF c.a1 c.a2 c.a3) = [] by simp [rcF, ← HOK.out]]; simpa using HI6.out.2⟩, .inl ⟨rfl, rfl⟩⟩)
      gi_wp2
      refine ⟨fun _ h => (by cases h), ?_⟩
      gi_wp2
      exact HP.out

end Go.Proofs.Ytpjekinmcdglbaa
