/- What Reach returns where tints and shade are valid: the first of the recipes. · A region that draws its order within a round of a range over a function, walked by the laws for regions outside of rounds. No condition beyond what each lemma names. -/
import Derived.Test.YtpjekinmcdglbaaRc
import Derived.OrdersIn
import Derived.Deep.RegionHeld3

section
set_option linter.unusedSimpArgs false
set_option linter.unusedVariables false
namespace Go.Proofs.Ytpjekinmcdglbaa
open Go.RowKit Go.Shelf

attribute [local go_sem] Oper.semAt_some

set_option maxHeartbeats 2000000 in
theorem recipes_c (sl : Option Addr) (n cp : Nat) (a b c : Int) (w : World) : Calls Try.prog 37 #[.slice sl n cp, vv a b c] w fun e w' => e = .returned (.func (.func 61) #[] #[.pointer (some ⟨w.heap.size, 0, none⟩), .pointer (some ⟨w.heap.size + 1, 0, none⟩)]) ∧
    w' = (w.alloc (.cells #[.slice sl n cp] 22)).alloc (.cells #[.int .i64 a, .int .i64 b, .int .i64 c] 66) := by
  go_enter Try.func37, Try.ntmps37
  go_wp2_with fail
  go_ret
  exact ⟨rfl, rfl⟩

/-- what Reach returns -/
def ReR (w : World) (L : List (List (Int × Int))) (en : Ending) (w' : World) : Prop :=
  New w w' ∧ ((L = [] ∧ en = .returned (.tuple #[.agg #[.slice none 0 0], .bool false, .int .i64 0])) ∨
    ∃ x rest sv, L = x :: rest ∧ en = .returned (.tuple #[.agg #[sv], .bool true, .int .i64 0]) ∧ w'.ownsRow w.heap.size 64 2 sv x.length (partCells x))
def ReI (w : World) (O : Nat → Prop) (done : List (List (Int × Int))) (bb : Bool) (W : World) : Prop :=
  New w W ∧ (∀ k, O k → w.heap.size + 4 ≤ k) ∧ W.heap[w.heap.size + 1 + 1]? = some (.cells #[.bool bb] 4 (0, 0)) ∧ W.heap[w.heap.size + 1 + 1 + 1]? = some (.cells #[.int .i64 0] 31 (0, 0)) ∧
  ∃ sv, W.heap[w.heap.size + 1]? = some (.cells #[sv] 25 (0, 0)) ∧
    ((bb = false ∧ sv = .slice none 0 0 ∧ done = []) ∨ (bb = true ∧ ∃ x, done = [x] ∧ W.ownsRow w.heap.size 64 2 sv x.length (partCells x) ∧ ∀ g, sv.ownBlock = some g → ¬ O g))
theorem ReI.stable (w : World) : StableJ (ReI w) := by
  rintro O O' done b W W' ⟨h1, h2, h3, h4, sv, h5, h6⟩ hm ho
  have hk : ∀ k o, k < w.heap.size + 4 → W.heap[k]? = some o → W'.heap[k]? = some o := fun k o hk h => (hm.2 k (Array.getElem?_eq_some_iff.1 h).1 (fun h' => by have := h2 k h'; omega)).trans h
  refine ⟨Mod.new h1 hm fun k h => by have := h2 k h; omega, fun k h => ?_, hk _ _ (by omega) h3, hk _ _ (by omega) h4, sv, hk _ _ (by omega) h5, h6.imp id ?_⟩
  · rcases ho k h with h' | h'
    · exact h2 k h'
    · have := (Array.getElem?_eq_some_iff.1 h4).1; omega
  · rintro ⟨rfl, x, rfl, hown, hg⟩
    refine ⟨rfl, x, rfl, own_keep hown fun g hgb => hm.2 g (hown.lt g hgb).2 (hg g hgb), fun g hgb h => ?_⟩
    rcases ho g h with h' | h'
    · exact hg g hgb h'
    · have := (hown.lt g hgb).2; omega

theorem re_results (tmps : Array Value) (W : World) (a c d : Nat) (sa : Option Addr) (n sc : Nat) (r : Bool) (t1 t2 t3 : TypeId) (h4 : tmps.getD 4 undef = .pointer (some ⟨a, 0, none⟩)) (h5 : tmps.getD 5 undef = .pointer (some ⟨c, 0, none⟩)) (h6 : tmps.getD 6 undef = .pointer (some ⟨d, 0, none⟩))
    (hA : W.heap[a]? = some (.cells #[.slice sa n sc] t1 (0, 0))) (hC : W.heap[c]? = some (.cells #[.bool r] t2 (0, 0))) (hD : W.heap[d]? = some (.cells #[.int .i64 0] t3 (0, 0))) :
    (results Try.f15 tmps).run Try.prog W = .ok (.tuple #[.agg #[.slice sa n sc], .bool r, .int .i64 0]) W := by
  have c1 := (box_cell hA).1
  have c2 := (box_cell hC).1
  have c3 := (box_cell hD).1
  simp only [Array.getD_eq_getD_getElem?] at h4 h5 h6
  simp [results, Try.results15, go_sem, h4, h5, h6, c1, c2, c3]

set_option maxRecDepth 100000 in
set_option maxHeartbeats 8000000 in
theorem reach_ok (b off n cp : Nat) (a1 a2 a3 : Int) (T : List T5) (w : World) (hT : Tnts w b off n T) (hS : shOk T) (hn : n ≤ 1000) (ha1 : -10000 ≤ a1 ∧ a1 ≤ 10000) (ha2 : -10000 ≤ a2 ∧ a2 ≤ 10000) (ha3 : -10000 ≤ a3 ∧ a3 ≤ 10000)
    (hcw : ∀ w1, New w w1 → Calls Try.prog 36 #[.slice (some ⟨b, off, none⟩) n cp, vv a1 a2 a3] w1 fun e w' => e = .returned (.int .i64 0) ∧ New w1 w') :
    Calls Try.prog 15 #[.slice (some ⟨b, off, none⟩) n cp, vv a1 a2 a3] w (ReR w (rcpL T n a1 a2 a3)) := by
  have HT := Lib.hid hT
  have HCW := Lib.hid (fun (w1 : World) h1 => (callsIn_wide (n := 4)).2 (hcw w1 h1))
  have HRC := Lib.hid (fun (w1 : World) => (callsIn_wide (n := 4)).2 (recipes_c (some ⟨b, off, none⟩) n cp a1 a2 a3 w1))
  have hbl := hT.2.1
  clear hT hcw
  refine (callsIn_wide (n := 5)).1 ?_
  refine callsIn_of_wp_marks Try.func15 rfl trivial ?_ rfl
  simp only [Try.ntmps15, List.size_toArray, List.length_cons, List.length_nil, Nat.reduceAdd, Nat.reduceSub, Array.replicate_succ, Array.replicate_zero, List.push_toArray, List.append_toArray, List.nil_append, List.cons_append]
  gi_wp2
  obtain ⟨W1, hW1⟩ : ∃ W1, W1 = (((w.alloc (.cells #[.int .i64 a1, .int .i64 a2, .int .i64 a3] 37)).alloc (.cells #[.slice none 0 0] 25)).alloc (.cells #[.bool false] 4)).alloc (.cells #[.int .i64 0] 31) := ⟨_, rfl⟩
  have HN1 := Lib.hid (show New w W1 by rw [hW1]; exact ((((New.refl _).alloc _).alloc _).alloc _).alloc _)
  have HA := Lib.hid (show W1.heap[w.heap.size]? = some (.cells #[.int .i64 a1, .int .i64 a2, .int .i64 a3] 37 (0, 0)) ∧ W1.heap[w.heap.size + 1]? = some (.cells #[.slice none 0 0] 25 (0, 0)) ∧ W1.heap[w.heap.size + 2]? = some (.cells #[.bool false] 4 (0, 0)) ∧ W1.heap[w.heap.size + 3]? = some (.cells #[.int .i64 0] 31 (0, 0)) by
    rw [hW1]; exact alloc4_heap _ _ _ _ _)
  rw [← hW1]
  clear hW1
  refine ⟨trivial, ?_⟩
  gi_at_call 36
  refine (HCW.out _ HN1.out).mono ?_
  rintro e w2 ⟨rfl, hn2⟩
  have HN2 := Lib.hid hn2
  have hk2 : ∀ k o, W1.heap[k]? = some o → w2.heap[k]? = some o := fun k o h => (hn2.below.block k (Array.getElem?_eq_some_iff.1 h).1).trans h
  have HB := Lib.hid (show w2.heap[w.heap.size]? = some (.cells #[.int .i64 a1, .int .i64 a2, .int .i64 a3] 37 (0, 0)) ∧ w2.heap[w.heap.size + 1]? = some (.cells #[.slice none 0 0] 25 (0, 0)) ∧ w2.heap[w.heap.size + 2]? = some (.cells #[.bool false] 4 (0, 0)) ∧ w2.heap[w.heap.size + 3]? = some (.cells #[.int .i64 0] 31 (0, 0)) from
    ⟨hk2 _ _ HA.out.1, hk2 _ _ HA.out.2.1, hk2 _ _ HA.out.2.2.1, hk2 _ _ HA.out.2.2.2⟩)
  have cw := HB.out.1
  have cw0 : w2.cell? ⟨w.heap.size, 0, none⟩ = some (.int .i64 a1) := by simp [World.cell?, cw]
  have cw1 : w2.cell? ⟨w.heap.size, 1, none⟩ = some (.int .i64 a2) := by simp [World.cell?, cw]
  have cw2 : w2.cell? ⟨w.heap.size, 2, none⟩ = some (.int .i64 a3) := by simp [World.cell?, cw]
  clear hn2 hk2 cw
  gi_wp2
  refine ⟨trivial, ?_⟩
  gi_at_call 37
  refine (HRC.out _).mono ?_
  rintro e w3 ⟨rfl, rfl⟩
  gi_wp2
  obtain ⟨WS, hWS⟩ : ∃ WS, WS = (w2.alloc (.cells #[.slice (some ⟨b, off, none⟩) n cp] 22)).alloc (.cells #[.int .i64 a1, .int .i64 a2, .int .i64 a3] 66) := ⟨_, rfl⟩
  have HNS := Lib.hid (show New w2 WS by rw [hWS]; exact ((New.refl _).alloc _).alloc _)
  have HSB := Lib.hid (show WS.heap[w2.heap.size]? = some (.cells #[.slice (some ⟨b, off, none⟩) n cp] 22 (0, 0)) ∧ WS.heap[w2.heap.size + 1]? = some (.cells #[.int .i64 a1, .int .i64 a2, .int .i64 a3] 66 (0, 0)) by
    rw [hWS]; exact ⟨by rw [Below.heap_alloc _ _ _ (by simp)]; exact World.alloc_heap_new _ _, alloc2_new rfl⟩)
  have hss : w2.heap.size + 1 < WS.heap.size := (Array.getElem?_eq_some_iff.1 HSB.out.2).1
  have hs2 : w.heap.size + 3 < w2.heap.size := (Array.getElem?_eq_some_iff.1 HB.out.2.2.2).1
  rw [← hWS]
  clear hWS cw0 cw1 cw2
  refine range_iter (n := 5) (by omega) (gf := 61) (lb := #[.pointer (some ⟨w2.heap.size, 0, none⟩), .pointer (some ⟨w2.heap.size + 1, 0, none⟩)]) rfl (enters_of Try.func61 (by kernel_rfl) rfl)
    (Elem := fun x args O W => ∃ B, WS.heap.size + 2 ≤ B ∧ ElemR B x args O W) (xs := rcpL T n a1 a2 a3) (E := fun k => k = w2.heap.size ∨ k = w2.heap.size + 1 ∨ k = b) ?hit
    (by intro k hk; omega) (by rintro x args O W ⟨_, _, _, rfl, _⟩; rfl)
    (ReI w) (ReI.stable _) ?h0 ?hbody ?hdone ?hstop
  case hit =>
    intro W9 hn9 hz9 lp J hJs hJ hY
    have hz := hn9.size
    exact recipes_it b off n cp _ _ a1 a2 a3 T W9 ((hn9.below.block _ (by omega)).trans HSB.out.1) ((hn9.below.block _ (by omega)).trans HSB.out.2) (HT.out.new (HN1.out.trans (HN2.out.trans (HNS.out.trans hn9)))) hS hn ha1 ha2 ha3 lp J hJs hJ (fun O done x args W0 q1 q2 q3 q4 => hY O done x args W0 q1 q2 ⟨_, by omega, q3⟩ q4)
  case h0 =>
    have hk : ∀ k o, w2.heap[k]? = some o → WS.heap[k]? = some o := fun k o h => (HNS.out.below.block k (Array.getElem?_eq_some_iff.1 h).1).trans h
    refine ⟨HN1.out.trans (HN2.out.trans HNS.out), ?_, hk _ _ HB.out.2.2.1, hk _ _ HB.out.2.2.2, _, hk _ _ HB.out.2.1, .inl ⟨rfl, rfl, rfl⟩⟩
    rintro k (h | h | h)
    · cases h
    · omega
    · omega
  case hbody =>
    intro mm O done x args Wb hI hE hpre hO1 hO2 hrec hbnd
    obtain ⟨B0, hB0, sv, rfl, hown, hgo⟩ := hE
    obtain ⟨sa, sc, rfl⟩ := own_slice hown
    obtain ⟨rr, hrr⟩ := hrec
    have hlpb := (Array.getElem?_eq_some_iff.1 hrr).1
    have HI := Lib.hid hI
    have HOWN := Lib.hid hown
    have HGO := Lib.hid hgo
    have HBND := Lib.hid hbnd
    have HGL := Lib.hid (own_ne hown hrr (fun cur h => by cases h))
    clear hown hgo hrr hI hbnd
    gi_wp2
    refine ⟨Keep.of_new ((New.refl _).alloc _), ?_⟩
    intro W5 hb5 hs5 ho5 hrec5
    have hmod : Mod (plus WS.heap.size O) Wb W5 := by
      refine ⟨(Below.mono ((New.refl Wb).alloc _).below (Nat.zero_le _)).trans hb5, fun k hk hne' => ?_⟩
      rw [ho5 k (fun e => hne' (.inr (.inr e)))]
      exact Below.heap_alloc _ _ _ hk
    have HI5 := Lib.hid (ReI.stable w _ _ _ _ _ _ HI.out hmod (fun k hk => .inl hk))
    have HFB := Lib.hid (show W5.heap[Wb.heap.size]? = some (.cells #[.slice sa x.length sc] 25 (0, 0)) from (ho5 _ (by omega)).trans (World.alloc_heap_new _ _))
    have HOW5 := Lib.hid (show W5.ownsRow B0 64 2 (.slice sa x.length sc) x.length (partCells x) from own_keep HOWN.out (fun g hg => by
      have hgb := (HOWN.out.lt g hg).2
      have hgl : g ≠ WS.heap.size + 1 := fun e => HGL.out (by rw [hg, e])
      rw [ho5 g hgl]; exact Below.heap_alloc _ _ _ hgb))
    obtain ⟨m1, m2, m3, m4, sv0, m5, m6⟩ := HI5.out
    obtain ⟨rfl, rfl⟩ : sv0 = .slice none 0 0 ∧ done = [] := m6.elim (fun h => h.2) (fun h => by cases h.1)
    have HM := Lib.hid (show New w W5 ∧ (∀ k, plus WS.heap.size O k → w.heap.size + 4 ≤ k) ∧ W5.heap[w.heap.size + 1 + 1]? = some (.cells #[.bool false] 4 (0, 0)) ∧ W5.heap[w.heap.size + 1 + 1 + 1]? = some (.cells #[.int .i64 0] 31 (0, 0)) ∧ W5.heap[w.heap.size + 1]? = some (.cells #[.slice none 0 0] 25 (0, 0)) from ⟨m1, m2, m3, m4, m5⟩)
    have c1 := box_cell m3
    have c2 := box_cell m4
    have c3 := box_cell m5
    have c4 := box_cell HFB.out
    have hsz : Wb.heap.size < W5.heap.size := (Array.getElem?_eq_some_iff.1 HFB.out).1
    clear hb5 hs5 ho5 hrec5 hO1 hO2 hmod m1 m2 m3 m4 m5 m6
    gi_wp2
    clear c1 c2 c3 c4
    obtain ⟨WF, hWF⟩ : ∃ WF, WF = (((W5.setCell ⟨w.heap.size + 1, 0, none⟩ (.slice sa x.length sc)).setCell ⟨w.heap.size + 1 + 1, 0, none⟩ (.bool true)).setCell ⟨w.heap.size + 1 + 1 + 1, 0, none⟩ (.int .i64 0)) := ⟨_, rfl⟩
    rw [← hWF]
    obtain ⟨m1, m2, m3, m4, m5⟩ := HM.out
    have hmF : Mod (fun k => k = w.heap.size + 1 ∨ k = w.heap.size + 1 + 1 ∨ k = w.heap.size + 1 + 1 + 1) W5 WF := by
      rw [hWF]; exact ((Mod.setCell _ _ _ _ (.inl rfl)).trans (Mod.setCell _ _ _ _ (.inr (.inl rfl)))).trans (Mod.setCell _ _ _ _ (.inr (.inr rfl)))
    have hbm : ∀ g, (Value.slice sa x.length sc).ownBlock = some g → ¬ (g = w.heap.size + 1 ∨ g = w.heap.size + 1 + 1 ∨ g = w.heap.size + 1 + 1 + 1) := fun g hg e => by
      rcases e with e | e | e
      · exact own_ne HOW5.out m5 (fun cur h => by cases h) (by rw [hg, e])
      · exact own_ne HOW5.out m3 (fun cur h => by cases h) (by rw [hg, e])
      · exact own_ne HOW5.out m4 (fun cur h => by cases h) (by rw [hg, e])
    refine ⟨Keep.of_mod hmF (fun k hk e => ?_), true, ⟨Mod.new m1 hmF (fun k hk => by omega), m2, ?_, ?_, _, ?_, .inr ⟨rfl, x, rfl, own_base (own_keep HOW5.out fun g hg => hmF.2 g (HOW5.out.lt g hg).2 (hbm g hg)) (by have := HNS.out.size; omega), ?_⟩⟩, .inr ⟨rfl, rfl⟩⟩
    · rcases hk with hk | hk
      · have := m2 k hk; omega
      · omega
    · rw [hWF, heap_setCell_other _ _ _ _ _ (by omega)]
      exact heap_setCell_same _ _ 0 _ ((heap_setCell_other _ _ _ _ _ (by omega)).trans m3)
    · rw [hWF]
      exact heap_setCell_same _ _ 0 _ ((heap_setCell_other _ _ _ _ _ (by omega)).trans ((heap_setCell_other _ _ _ _ _ (by omega)).trans m4))
    · rw [hWF, heap_setCell_other _ _ _ _ _ (by omega), heap_setCell_other _ _ _ _ _ (by omega)]
      exact heap_setCell_same _ _ 0 _ m5
    · rintro g hg (h | h | h)
      · exact HGO.out g hg h
      · have := (HOW5.out.lt g hg).1; omega
      · exact HGL.out (by rw [hg, h])
  case hdone =>
    rintro O W' ⟨hnw, _, g2, g3, sv, g1, hcase⟩ hdf
    obtain ⟨rfl, hL⟩ : sv = .slice none 0 0 ∧ rcpL T n a1 a2 a3 = [] := hcase.elim (fun h => h.2) (fun h => by cases h.1)
    have HM := Lib.hid (show New w W' ∧ W'.heap[w.heap.size + 1 + 1]? = some (.cells #[.bool false] 4 (0, 0)) ∧ W'.heap[w.heap.size + 1 + 1 + 1]? = some (.cells #[.int .i64 0] 31 (0, 0)) ∧ W'.heap[w.heap.size + 1]? = some (.cells #[.slice none 0 0] 25 (0, 0)) ∧ W'.heap[WS.heap.size]? = some (.deferred (some [])) from ⟨hnw, g2, g3, g1, hdf⟩)
    have HL := Lib.hid hL
    have c1 := box_cell g1
    have c2 := box_cell g2
    have c3 := box_cell g3
    clear hnw g1 g2 g3 hcase hdf hL
    gi_wp2
    clear c1 c2 c3
    obtain ⟨WF, hWF⟩ : ∃ WF, WF = (((W'.setCell ⟨w.heap.size + 1, 0, none⟩ (.slice none 0 0)).setCell ⟨w.heap.size + 1 + 1, 0, none⟩ (.bool false)).setCell ⟨w.heap.size + 1 + 1 + 1, 0, none⟩ (.int .i64 0)) := ⟨_, rfl⟩
    rw [← hWF]
    obtain ⟨m1, m2, m3, m4, m5⟩ := HM.out
    have z1 : WF.heap[w.heap.size + 1]? = some (.cells #[.slice none 0 0] 25 (0, 0)) := by
      rw [hWF, heap_setCell_other _ _ _ _ _ (by omega), heap_setCell_other _ _ _ _ _ (by omega)]
      exact heap_setCell_same _ _ 0 _ m4
    have z2 : WF.heap[w.heap.size + 1 + 1]? = some (.cells #[.bool false] 4 (0, 0)) := by
      rw [hWF, heap_setCell_other _ _ _ _ _ (by omega)]
      exact heap_setCell_same _ _ 0 _ ((heap_setCell_other _ _ _ _ _ (by omega)).trans m2)
    have z3 : WF.heap[w.heap.size + 1 + 1 + 1]? = some (.cells #[.int .i64 0] 31 (0, 0)) := by
      rw [hWF]
      exact heap_setCell_same _ _ 0 _ ((heap_setCell_other _ _ _ _ _ (by omega)).trans ((heap_setCell_other _ _ _ _ _ (by omega)).trans m3))
    have z5 : WF.heap[WS.heap.size]? = some (.deferred (some [])) := by
      rw [hWF, heap_setCell_other _ _ _ _ _ (by omega), heap_setCell_other _ _ _ _ _ (by omega), heap_setCell_other _ _ _ _ _ (by omega)]; exact m5
    have z4 : New w WF := by
      rw [hWF]
      exact ((m1.setCell (by show w.heap.size ≤ w.heap.size + 1; omega) _).setCell (by show w.heap.size ≤ w.heap.size + 1 + 1; omega) _).setCell (by show w.heap.size ≤ w.heap.size + 1 + 1 + 1; omega) _
    refine leaves_marks [WS.heap.size] WF (by simp) (fun D hD => by simp at hD; rw [hD]; exact z5) (fun W9 hm => ?_)
    have hk : ∀ k o, k < w.heap.size + 4 → WF.heap[k]? = some o → W9.heap[k]? = some o := fun k o hk h => (hm.2 k (Array.getElem?_eq_some_iff.1 h).1 (by simp; omega)).trans h
    exact ⟨_, re_results _ _ (w.heap.size + 1) (w.heap.size + 1 + 1) (w.heap.size + 1 + 1 + 1) none 0 0 false _ _ _ rfl rfl rfl (hk _ _ (by omega) z1) (hk _ _ (by omega) z2) (hk _ _ (by omega) z3), Mod.new z4 hm (fun k hk => by simp at hk; omega), .inl ⟨HL.out, rfl⟩⟩
  case hstop =>
    rintro O done W' ⟨hnw, _, g2, g3, sv, g1, hcase⟩ hpre hdf
    obtain ⟨x, rfl, hown, _⟩ : ∃ x, done = [x] ∧ W'.ownsRow w.heap.size 64 2 sv x.length (partCells x) ∧ ∀ g, sv.ownBlock = some g → ¬ plus WS.heap.size O g := hcase.elim (fun h => by cases h.1) (fun h => h.2)
    obtain ⟨sa, sc, rfl⟩ := own_slice hown
    obtain ⟨rest, hL⟩ := hpre
    have HL := Lib.hid hL
    have HM := Lib.hid (show New w W' ∧ W'.heap[w.heap.size + 1 + 1]? = some (.cells #[.bool true] 4 (0, 0)) ∧ W'.heap[w.heap.size + 1 + 1 + 1]? = some (.cells #[.int .i64 0] 31 (0, 0)) ∧ W'.heap[w.heap.size + 1]? = some (.cells #[.slice sa x.length sc] 25 (0, 0)) ∧ W'.heap[WS.heap.size]? = some (.deferred (some [])) from ⟨hnw, g2, g3, g1, hdf⟩)
    have HO := Lib.hid hown
    clear hnw g1 g2 g3 hcase hdf hL hown
    gi_wp2
    obtain ⟨m1, m2, m3, m4, m5⟩ := HM.out
    refine leaves_marks [WS.heap.size] W' (by simp) (fun D hD => by simp at hD; rw [hD]; exact m5) (fun W9 hm => ?_)
    have hk : ∀ k o, k < w.heap.size + 4 → W'.heap[k]? = some o → W9.heap[k]? = some o := fun k o hk h => (hm.2 k (Array.getElem?_eq_some_iff.1 h).1 (by simp; omega)).trans h
    exact ⟨_, re_results _ _ (w.heap.size + 1) (w.heap.size + 1 + 1) (w.heap.size + 1 + 1 + 1) sa x.length sc true _ _ _ rfl rfl rfl (hk _ _ (by omega) m4) (hk _ _ (by omega) m2) (hk _ _ (by omega) m3), Mod.new m1 hm (fun k hk => by simp at hk; omega), .inr ⟨x, rest, _, HL.out.symm, rfl,
      own_keep HO.out fun g hg => hm.2 g (HO.out.lt g hg).2 (by simp; exact fun e => own_ne HO.out m5 (fun cur h => by cases h) (by rw [hg, e]))⟩⟩

end Go.Proofs.Ytpjekinmcdglbaa
end

section
set_option linter.unusedSimpArgs false
set_option linter.unusedVariables false
namespace Go.Proofs.Ytpjekinmcdglbaa
open Go.RowKit

/-- the post of a region that ends as it should -/
def QN (R : Act → World → Prop) : Exit → Act → World → Prop
  | .normal, a, w => R a w
  | _, _, _ => False
theorem QN.noOut (R : Act → World → Prop) : ¬ LetsOut (QN R) := fun ⟨_, _, h⟩ => h
section
variable {P : Program} {n lp : Nat} {ops : Array Oper} {R : Act → World → Prop}
theorem rowsIn_round {row : String} {args : Array Value} {w : World} {T : Value → World → Prop} (h : Rows P row args w T) : RowsIn (Fence.wide.inRound lp) n P row args w T := fun c cs _ => by
  obtain ⟨v, w', h1, h2⟩ := h c cs
  refine ⟨v, w', h1, ?_⟩
  rw [fenced_inRound]
  exact stepsIn_wide.2 h2
theorem opIn_of_op (hd : ∀ (i : Nat) (o : Oper) c, ops[i]? = some o → o.op ≠ .defer c) {i : Nat} {K : Act → World → Prop} {a : Act} {w : World} (h : wpOp P ops (QN R) i K a w) : wpOpIn (Fence.wide.inRound lp) n P ops (QN R) i K a w := by
  unfold wpOp at h
  unfold wpOpIn
  cases ho : ops[i]? with
  | none => rw [ho] at h; exact h
  | some o =>
    rw [ho] at h
    simp only at h ⊢
    split at h
    · rename_i hw
      rw [if_pos hw]
      refine ⟨fun _ _ => trivial, ?_⟩
      have h := h.resolve_right (fun h => QN.noOut R h.2)
      unfold Oper.wp at h
      rw [Oper.semAt_eq _ _ _ (fun c => hd i o c ho)]
      generalize (execOp a.eval o).run P w = r at *
      cases r with
      | ok x w' =>
        cases x <;> simp only [Oper.uponIn, Oper.upon] at h ⊢ <;> first
          | exact h
          | exact ⟨fun h => by simp [Fence.wide, Fence.inRound] at h, CallsIn.inRound lp (callsIn_wide.2 h)⟩
          | exact ⟨fun h => by simp [Fence.wide, Fence.inRound] at h, rowsIn_round h⟩
      | halt x w' => cases x <;> simp only [Oper.uponIn, Oper.upon] at h ⊢ <;> exact h
    · rename_i hw
      rw [if_neg hw]
      exact ⟨fun _ _ => trivial, h⟩
theorem anyIn_of_any (hd : ∀ (i : Nat) (o : Oper) c, ops[i]? = some o → o.op ≠ .defer c) {md : Region.Mode} : ∀ (fuel : Nat) (listed : Array Bool) (a : Act) (w : World), wpAny P md ops (QN R) fuel listed a w → wpAnyIn (Fence.wide.inRound lp) n P md ops (QN R) fuel listed a w
  | 0, _, _, _, h => h
  | fuel + 1, listed, a, w, h => ⟨h.1, fun i hi => wpOpIn_mono (fun a w h => anyIn_of_any hd fuel _ a w h) (opIn_of_op hd (h.2 i hi))⟩
def noDefer (ops : Array Oper) : Bool := ops.all fun o => match o.op with | .defer _ => false | _ => true
theorem noDefer_spec (h : noDefer ops = true) : ∀ (i : Nat) (o : Oper) c, ops[i]? = some o → o.op ≠ .defer c := fun i o c hi e => by
  have := Array.all_eq_true_iff_forall_mem.1 h o (Array.mem_of_getElem? hi)
  rw [e] at this
  cases this
/-- the rule: S is what the loads want; T tells what the region leaves -/
theorem region_round {id : Nat} {a : Act} {w : World} {Q : Exit → Act → World → Prop} (S : World → Prop) (T : Act → Act → World → Prop) (hm : P.follows .mixedOrders = true) (hd : noDefer ops = true) (hS : S w.drew)
    (h : S w.drew → wpAnyH P .any ops (QN (T a)) S ops.size (Array.replicate ops.size false) a w.drew) (hq : ∀ a' w', T a a' w' → Q .normal a' w') : (Code.region id ops true).wpIn (Fence.wide.inRound lp) n P Q a w :=
  wpIn_mono (wpIn_region_any hm (anyIn_of_any (noDefer_spec hd) _ _ _ _ (wpAny_of_held _ _ _ _ (h hS)))) (fun e a' w' h => by
    cases e with
    | normal => exact hq _ _ h
    | _ => exact h.elim)
end
end Go.Proofs.Ytpjekinmcdglbaa
end
