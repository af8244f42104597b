/- Cheapest, where its checks pass and its recipes are small. -/
import Derived.Test.YtpjekinmcdglbaaCu
import Derived.Stop.RegionWithIn
import Derived.Sort.CutIn
set_option linter.unusedSimpArgs false
set_option linter.unusedVariables false
namespace Go.Proofs.Ytpjekinmcdglbaa
open Go.RowKit Go.Shelf

attribute [local go_sem] Oper.semAt_some

def ChH (w W : World) (sl : Value) (a1 a2 a3 : Int) : Prop :=
  W.heap[w.heap.size]? = some (.cells #[sl] 22 (0, 0)) ∧ W.heap[w.heap.size + 1]? = some (.cells #[.int .i64 a1, .int .i64 a2, .int .i64 a3] 37 (0, 0)) ∧ W.heap[w.heap.size + 2]? = some (.cells #[.slice none 0 0] 25 (0, 0)) ∧ W.heap[w.heap.size + 3]? = some (.cells (arr5 0 0 0 0 0) 49 (0, 0))
theorem ChH.of {w W V : World} {sl : Value} {a1 a2 a3 : Int} (h : ChH w W sl a1 a2 a3) (hk : ∀ k o, k < w.heap.size + 4 → W.heap[k]? = some o → V.heap[k]? = some o) : ChH w V sl a1 a2 a3 :=
  ⟨hk _ _ (by omega) h.1, hk _ _ (by omega) h.2.1, hk _ _ (by omega) h.2.2.1, hk _ _ (by omega) h.2.2.2⟩
def ChI (w : World) (BB : Nat) (sl : Value) (a1 a2 a3 : Int) (T : List T5) (n : Nat) (O : Nat → Prop) (done : List (List (Int × Int))) (bb : Bool) (W : World) : Prop :=
  bb = false ∧ (∀ k, O k → BB + 2 ≤ k) ∧ New w W ∧ ChH w W sl a1 a2 a3 ∧ ∃ sv px py, W.heap[BB]? = some (.cells #[sv] 25 (0, 0)) ∧ W.heap[BB + 1]? = some (.cells #[.int .i64 px, .int .i64 py] 29 (0, 0)) ∧
    ((done = [] ∧ sv = .slice none 0 0) ∨ ∃ y, bestTo T done = some y ∧ smallR y n ∧ px = pxA T y ∧ py = pxB T y ∧ W.ownsRow w.heap.size 64 2 sv y.length (partCells y) ∧ ∀ g, sv.ownBlock = some g → ¬ O g)
theorem ChI.stable (w : World) (BB : Nat) (hB : w.heap.size + 4 ≤ BB) (sl : Value) (a1 a2 a3 : Int) (T : List T5) (n : Nat) : StableJ (ChI w BB sl a1 a2 a3 T n) := by
  rintro O O' done b W W' ⟨h0, h2, h1, h3, sv, px, py, h5, h6, h7⟩ hm ho
  have hk : ∀ k o, k < BB + 2 → W.heap[k]? = some o → W'.heap[k]? = some o := fun k o hk h => (hm.2 k (Array.getElem?_eq_some_iff.1 h).1 (fun h' => by have := h2 k h'; omega)).trans h
  have hl := (Array.getElem?_eq_some_iff.1 h6).1
  refine ⟨h0, fun k h => ?_, Mod.new h1 hm fun k h => by have := h2 k h; omega, h3.of fun k o hk' => hk k o (by omega), sv, px, py, hk _ _ (by omega) h5, hk _ _ (by omega) h6, h7.imp id ?_⟩
  · rcases ho k h with h' | h'
    · exact h2 k h'
    · omega
  · rintro ⟨y, q1, q2, q3, q4, hown, hg⟩
    refine ⟨y, q1, q2, q3, q4, own_keep hown fun g hgb => hm.2 g (hown.lt g hgb).2 (hg g hgb), fun g hgb h => ?_⟩
    rcases ho g h with h' | h'
    · exact hg g hgb h'
    · have := (hown.lt g hgb).2; omega
/-- what Cheapest returns -/
def ChR (w : World) (o : Option (List (Int × Int))) (en : Ending) (w' : World) : Prop :=
  New w w' ∧ ((o = none ∧ en = .returned (.tuple #[.agg #[.slice none 0 0], .agg (arr5 0 0 0 0 0), .int .i64 61])) ∨
    ∃ y sv n0 n1 n2 n3 den, o = some y ∧ en = .returned (.tuple #[.agg #[sv], .agg (arr5 n0 n1 n2 n3 den), .int .i64 0]) ∧ w'.ownsRow w.heap.size 64 2 sv y.length (partCells y))

theorem isLess_i (a b c d : Int) (w : World) (ha : 0 ≤ a ∧ a ≤ 4000000000000000000) (hb : 0 ≤ b ∧ b ≤ 4000000000000000000) (hc : 0 ≤ c ∧ c ≤ 4000000000000000000) (hd : 0 ≤ d ∧ d ≤ 4000000000000000000) :
    Calls Try.prog 46 #[fv a b, fv c d] w fun e w' => e = .returned (.bool (lessB a.toNat b.toNat c.toNat d.toNat)) ∧ New w w' := by
  obtain ⟨a, rfl⟩ := Int.eq_ofNat_of_zero_le ha.1
  obtain ⟨b, rfl⟩ := Int.eq_ofNat_of_zero_le hb.1
  obtain ⟨c, rfl⟩ := Int.eq_ofNat_of_zero_le hc.1
  obtain ⟨d, rfl⟩ := Int.eq_ofNat_of_zero_le hd.1
  simp only [Int.toNat_natCast]
  exact isLess_c a b c d w (by omega) (by omega) (by omega) (by omega)
theorem ch_results (tmps : Array Value) (W : World) (a d : Nat) (sa : Option Addr) (n sc : Nat) (n0 n1 n2 n3 den e : Int) (t1 t2 : TypeId) (h4 : tmps.getD 4 undef = .pointer (some ⟨a, 0, none⟩)) (h5 : tmps.getD 5 undef = .pointer (some ⟨d, 0, none⟩)) (h6 : tmps.getD 6 undef = .int .i64 e)
    (hA : W.heap[a]? = some (.cells #[.slice sa n sc] t1 (0, 0))) (hD : W.heap[d]? = some (.cells (arr5 n0 n1 n2 n3 den) t2 (0, 0))) :
    (results Try.f21 tmps).run Try.prog W = .ok (.tuple #[.agg #[.slice sa n sc], .agg (arr5 n0 n1 n2 n3 den), .int .i64 e]) W := by
  have c1 := (box_cell hA).1
  obtain ⟨⟨d0, d1, d2⟩, d3, d4⟩ := cell5 hD
  simp only [Array.getD_eq_getD_getElem?] at h4 h5 h6
  simp [results, Try.results21, go_sem, h4, h5, h6, c1, d0, d1, d2, d3, d4, arr5]
theorem arr5_puts {W : World} {g : Nat} {a b c d e : Int} {t : TypeId} (h : W.heap[g]? = some (.cells (arr5 a b c d e) t (0, 0))) (a' b' c' d' e' : Int) :
    (((((W.setCell ⟨g, 0, none⟩ (.int .i64 a')).setCell ⟨g, 1, none⟩ (.int .i64 b')).setCell ⟨g, 2, none⟩ (.int .i64 c')).setCell ⟨g, 3, none⟩ (.int .i64 d')).setCell ⟨g, 4, none⟩ (.int .i64 e')).heap[g]? = some (.cells (arr5 a' b' c' d' e') t (0, 0)) :=
  (heap_setCell_same _ _ 4 _ (heap_setCell_same _ _ 3 _ (heap_setCell_same _ _ 2 _ (heap_setCell_same _ _ 1 _ (heap_setCell_same _ _ 0 _ h))))).trans (by simp [arr5])
theorem fin_puts {w W8 V : World} {sv : Value} {n0 n1 n2 n3 den : Int} (hV : V = (((((W8.setCell ⟨w.heap.size + 1 + 1, 0, none⟩ sv).setCell ⟨w.heap.size + 1 + 1 + 1, 0, none⟩ (.int .i64 n0)).setCell ⟨w.heap.size + 1 + 1 + 1, 1, none⟩ (.int .i64 n1)).setCell ⟨w.heap.size + 1 + 1 + 1, 2, none⟩ (.int .i64 n2)).setCell ⟨w.heap.size + 1 + 1 + 1, 3, none⟩ (.int .i64 n3)).setCell ⟨w.heap.size + 1 + 1 + 1, 4, none⟩ (.int .i64 den))
    (hn : New w W8) (hR : W8.heap[w.heap.size + 2]? = some (.cells #[.slice none 0 0] 25 (0, 0))) (hD : W8.heap[w.heap.size + 3]? = some (.cells (arr5 0 0 0 0 0) 49 (0, 0))) :
    (V.heap[w.heap.size + 1 + 1]? = some (.cells #[sv] 25 (0, 0)) ∧ V.heap[w.heap.size + 1 + 1 + 1]? = some (.cells (arr5 n0 n1 n2 n3 den) 49 (0, 0))) ∧ New w V ∧ ∀ k, k ≠ w.heap.size + 1 + 1 → k ≠ w.heap.size + 1 + 1 + 1 → V.heap[k]? = W8.heap[k]? := by
  have hR : W8.heap[w.heap.size + 1 + 1]? = some (.cells #[.slice none 0 0] 25 (0, 0)) := hR
  have hD : W8.heap[w.heap.size + 1 + 1 + 1]? = some (.cells (arr5 0 0 0 0 0) 49 (0, 0)) := hD
  subst hV
  refine ⟨⟨?_, ?_⟩, ?_, ?_⟩
  · rw [heap_setCell_other _ _ _ _ _ (by omega), heap_setCell_other _ _ _ _ _ (by omega), heap_setCell_other _ _ _ _ _ (by omega), heap_setCell_other _ _ _ _ _ (by omega), heap_setCell_other _ _ _ _ _ (by omega)]
    exact heap_setCell_same _ _ 0 _ hR
  · exact arr5_puts ((heap_setCell_other _ _ _ _ _ (by omega)).trans hD) _ _ _ _ _
  · have h3 : w.heap.size ≤ w.heap.size + 1 + 1 + 1 := by omega
    exact (((((hn.setCell (by show w.heap.size ≤ w.heap.size + 1 + 1; omega) _).setCell (p := ⟨w.heap.size + 1 + 1 + 1, 0, none⟩) h3 _).setCell (p := ⟨w.heap.size + 1 + 1 + 1, 1, none⟩) h3 _).setCell (p := ⟨w.heap.size + 1 + 1 + 1, 2, none⟩) h3 _).setCell (p := ⟨w.heap.size + 1 + 1 + 1, 3, none⟩) h3 _).setCell (p := ⟨w.heap.size + 1 + 1 + 1, 4, none⟩) h3 _
  · intro k h1 h2
    rw [heap_setCell_other _ _ _ _ _ h2, heap_setCell_other _ _ _ _ _ h2, heap_setCell_other _ _ _ _ _ h2, heap_setCell_other _ _ _ _ _ h2, heap_setCell_other _ _ _ _ _ h2, heap_setCell_other _ _ _ _ _ h1]
/-- a piece of code that ends of itself: what lies behind it asks nothing of other ends -/
def onlyNormal (Q : Exit → Act → World → Prop) : Exit → Act → World → Prop := fun e a w => match e with | .normal => Q .normal a w | _ => False
theorem wpIn_normal {P : Program} {F : Fence} {n : Nat} {c : Code} {Q : Exit → Act → World → Prop} {a : Act} {w : World} (h : c.wpIn F n P (fun e a w => match e with | .normal => Q .normal a w | _ => False) a w) : c.wpIn F n P Q a w :=
  wpIn_mono h (fun e a w h => by cases e <;> first | exact h | exact h.elim)
theorem own_some {W : World} {base cap n : Nat} {sa : Option Addr} {x : List Value} (h : W.ownsRow base 64 2 (.slice sa n cap) n x) (hn : 0 < n) : ∃ g, sa = some ⟨g, 0, none⟩ := by
  rcases h.2 with ⟨h1, h2⟩ | ⟨g', cap', cur, h1, h2⟩
  · cases h1; omega
  · cases h1; exact ⟨_, rfl⟩
set_option maxRecDepth 100000 in
set_option maxHeartbeats 8000000 in
theorem cheap_ok (b off n cp : Nat) (a1 a2 a3 : Int) (T : List T5) (w : World) (hT : Tnts w b off n T) (hS : shOk T) (htn : tnOk T) (hn : n ≤ 1000) (ha1 : -10000 ≤ a1 ∧ a1 ≤ 10000) (ha2 : -10000 ≤ a2 ∧ a2 ≤ 10000) (ha3 : -10000 ≤ a3 ∧ a3 ≤ 10000)
    (hsm : ∀ x, x ∈ rcpL T n a1 a2 a3 → smallR x n)
    (hcw : ∀ w1, New w w1 → Calls Try.prog 36 #[.slice (some ⟨b, off, none⟩) n cp, vv a1 a2 a3] w1 fun e w' => e = .returned (.int .i64 0) ∧ New w1 w')
    (hdu : ∀ w1 lx ly, New w w1 → Calls Try.prog 47 #[.slice (some ⟨b, off, none⟩) n cp, vv a1 a2 a3, fv lx ly] w1 fun e w' => ∃ n0 n1 n2 n3 den, e = .returned (.agg (arr5 n0 n1 n2 n3 den)) ∧ New w1 w') :
    Calls Try.prog 21 #[.slice (some ⟨b, off, none⟩) n cp, vv a1 a2 a3] w (ChR w (bestTo T (rcpL T n a1 a2 a3))) := by
  have HT := Lib.hid hT
  have HSM := Lib.hid hsm
  have HCW := Lib.hid (fun (w1 : World) h1 => (callsIn_wide (n := 4)).2 (hcw w1 h1))
  have HDU := Lib.hid (fun (w1 : World) lx ly h1 => (callsIn_wide (n := 4)).2 (show Calls Try.prog 47 #[.slice (some ⟨b, off, none⟩) n cp, vv a1 a2 a3, fv lx ly] w1 fun e w' => ∃ n0 n1 n2 n3 den, e = .returned (.agg #[.int .i64 n0, .int .i64 n1, .int .i64 n2, .int .i64 n3, .int .i64 den]) ∧ New w1 w' from hdu w1 lx ly h1))
  have HRC := Lib.hid (fun (w1 : World) => (callsIn_wide (n := 4)).2 (recipes_c (some ⟨b, off, none⟩) n cp a1 a2 a3 w1))
  have hbl := hT.2.1
  clear hT hcw hsm hdu
  refine (callsIn_wide (n := 5)).1 ?_
  refine callsIn_of_wp_marks Try.func21 rfl trivial ?_ rfl
  simp only [Try.ntmps21, List.size_toArray, List.length_cons, List.length_nil, Nat.reduceAdd, Nat.reduceSub, Array.replicate_succ, Array.replicate_zero, List.push_toArray, List.append_toArray, List.nil_append, List.cons_append]
  gi_wp2
  obtain ⟨W1, hW1⟩ : ∃ W1, W1 = (((w.alloc (.cells #[.slice (some ⟨b, off, none⟩) n cp] 22)).alloc (.cells #[.int .i64 a1, .int .i64 a2, .int .i64 a3] 37)).alloc (.cells #[.slice none 0 0] 25)).alloc (.cells (arr5 0 0 0 0 0) 49) := ⟨_, rfl⟩
  have HN1 := Lib.hid (show New w W1 by rw [hW1]; exact ((((New.refl _).alloc _).alloc _).alloc _).alloc _)
  have HA := Lib.hid (show ChH w W1 (.slice (some ⟨b, off, none⟩) n cp) a1 a2 a3 by
    rw [hW1]; exact alloc4_heap _ _ _ _ _)
  unfold arr5 at hW1
  rw [← hW1]
  clear hW1
  refine ⟨trivial, ?_⟩
  gi_at_call 36
  refine (HCW.out _ HN1.out).mono ?_
  rintro e w2 ⟨rfl, hn2⟩
  have HN2 := Lib.hid hn2
  have HB := Lib.hid (HA.out.of (fun k o _ h => (hn2.below.block k (Array.getElem?_eq_some_iff.1 h).1).trans h))
  have ct := (box_cell HB.out.1).1
  have cw := HB.out.2.1
  have cw0 : w2.cell? ⟨w.heap.size + 1, 0, none⟩ = some (.int .i64 a1) := by simp [World.cell?, cw]
  have cw1 : w2.cell? ⟨w.heap.size + 1, 1, none⟩ = some (.int .i64 a2) := by simp [World.cell?, cw]
  have cw2 : w2.cell? ⟨w.heap.size + 1, 2, none⟩ = some (.int .i64 a3) := by simp [World.cell?, cw]
  have hs2 : w.heap.size + 3 < w2.heap.size := (Array.getElem?_eq_some_iff.1 HB.out.2.2.2).1
  have n3 : New w2 ((w2.alloc (.cells #[.slice none 0 0] 25)).alloc (.cells #[.int .i64 0, .int .i64 0] 29)) := ((New.refl _).alloc _).alloc _
  have gt := (n3.cell (b := w.heap.size) (o := 0) (by omega)).trans ct
  have gw0 := (n3.cell (b := w.heap.size + 1) (o := 0) (by omega)).trans cw0
  have gw1 := (n3.cell (b := w.heap.size + 1) (o := 1) (by omega)).trans cw1
  have gw2 := (n3.cell (b := w.heap.size + 1) (o := 2) (by omega)).trans cw2
  clear hn2 cw n3
  gi_wp2
  obtain ⟨W3, hW3⟩ : ∃ W3, W3 = (w2.alloc (.cells #[.slice none 0 0] 25)).alloc (.cells #[.int .i64 0, .int .i64 0] 29) := ⟨_, rfl⟩
  have HN3 := Lib.hid (show New w2 W3 by rw [hW3]; exact ((New.refl _).alloc _).alloc _)
  have HBB := Lib.hid (show W3.heap[w2.heap.size]? = some (.cells #[.slice none 0 0] 25 (0, 0)) ∧ W3.heap[w2.heap.size + 1]? = some (.cells #[.int .i64 0, .int .i64 0] 29 (0, 0)) by
    rw [hW3]; exact ⟨by rw [Below.heap_alloc _ _ _ (by simp)]; exact World.alloc_heap_new _ _, alloc2_new rfl⟩)
  rw [← hW3]
  clear hW3 ct cw0 cw1 cw2 gt gw0 gw1 gw2
  generalize hBB : w2.heap.size = BB at *
  refine ⟨trivial, ?_⟩
  gi_at_call 37
  refine (HRC.out _).mono ?_
  rintro e w3 ⟨rfl, rfl⟩
  gi_wp2
  obtain ⟨WS, hWS⟩ : ∃ WS, WS = (W3.alloc (.cells #[.slice (some ⟨b, off, none⟩) n cp] 22)).alloc (.cells #[.int .i64 a1, .int .i64 a2, .int .i64 a3] 66) := ⟨_, rfl⟩
  have HNS := Lib.hid (show New W3 WS by rw [hWS]; exact ((New.refl _).alloc _).alloc _)
  have HSB := Lib.hid (show WS.heap[W3.heap.size]? = some (.cells #[.slice (some ⟨b, off, none⟩) n cp] 22 (0, 0)) ∧ WS.heap[W3.heap.size + 1]? = some (.cells #[.int .i64 a1, .int .i64 a2, .int .i64 a3] 66 (0, 0)) by
    rw [hWS]; exact ⟨by rw [Below.heap_alloc _ _ _ (by simp)]; exact World.alloc_heap_new _ _, alloc2_new rfl⟩)
  have hss : W3.heap.size + 1 < WS.heap.size := (Array.getElem?_eq_some_iff.1 HSB.out.2).1
  have hs3 : BB + 1 < W3.heap.size := (Array.getElem?_eq_some_iff.1 HBB.out.2).1
  have hbw : b < w2.heap.size := Nat.lt_of_lt_of_le hbl (HN1.out.trans HN2.out).size
  rw [← hWS]
  clear hWS
  refine range_iter (n := 5) (by omega) (gf := 61) (lb := #[.pointer (some ⟨W3.heap.size, 0, none⟩), .pointer (some ⟨W3.heap.size + 1, 0, none⟩)]) rfl (enters_of Try.func61 (by kernel_rfl) rfl)
    (Elem := fun x args O W => ∃ B, WS.heap.size + 2 ≤ B ∧ ElemR B x args O W) (xs := rcpL T n a1 a2 a3) (E := fun k => k = W3.heap.size ∨ k = W3.heap.size + 1 ∨ k = b) ?hit
    (by intro k hk; omega) (by rintro x args O W ⟨_, _, _, rfl, _⟩; rfl)
    (ChI w BB (.slice (some ⟨b, off, none⟩) n cp) a1 a2 a3 T n) (ChI.stable _ _ (by omega) _ _ _ _ _ _) ?h0 ?hbody ?hdone ?hstop
  case hit =>
    intro W9 hn9 hz9 lp J hJs hJ hY
    have hz := hn9.size
    exact recipes_it b off n cp _ _ a1 a2 a3 T W9 ((hn9.below.block _ (by omega)).trans HSB.out.1) ((hn9.below.block _ (by omega)).trans HSB.out.2) (HT.out.new (HN1.out.trans (HN2.out.trans (HN3.out.trans (HNS.out.trans hn9))))) hS hn ha1 ha2 ha3 lp J hJs hJ (fun O done x args W0 q1 q2 q3 q4 => hY O done x args W0 q1 q2 ⟨_, by omega, q3⟩ q4)
  case h0 =>
    have hk : ∀ k o, W3.heap[k]? = some o → WS.heap[k]? = some o := fun k o h => (HNS.out.below.block k (Array.getElem?_eq_some_iff.1 h).1).trans h
    refine ⟨rfl, ?_, HN1.out.trans (HN2.out.trans (HN3.out.trans HNS.out)), HB.out.of (fun k o _ h => hk _ _ ((HN3.out.below.block k (Array.getElem?_eq_some_iff.1 h).1).trans h)), _, _, _, hk _ _ HBB.out.1, hk _ _ HBB.out.2, .inl ⟨rfl, rfl⟩⟩
    rintro k (h | h | h)
    · cases h
    · omega
    · omega
  case hstop =>
    rintro O done W' ⟨h, _⟩
    cases h
  case hdone =>
    rintro O W' ⟨_, j1, j2, j3, sv, px, py, j4, j5, jc⟩ hdf
    have HM := Lib.hid (And.intro j2 (And.intro j3 hdf))
    have ca := (box_cell j4)
    have fr1 := frozen_heap j3.2.2.1
    have fr2 := frozen_heap j3.2.2.2
    have cr := (box_cell j3.2.2.1)
    obtain ⟨⟨d0, d1, d2⟩, d3, d4⟩ := cell5 j3.2.2.2
    rcases jc with ⟨hL, rfl⟩ | ⟨y, hy, hys, rfl, rfl, hyo, hyg⟩
    · have HL := Lib.hid (show bestTo T (rcpL T n a1 a2 a3) = none by rw [hL]; rfl)
      clear hL j1 j2 j3 j4 j5 hdf
      gi_wp2
      clear d0 d1 d2 d3 d4 ca fr1 fr2 cr
      obtain ⟨WF, hWF⟩ : ∃ WF, WF = (((((W'.setCell ⟨w.heap.size + 1 + 1, 0, none⟩ (.slice none 0 0)).setCell ⟨w.heap.size + 1 + 1 + 1, 0, none⟩ (.int .i64 0)).setCell ⟨w.heap.size + 1 + 1 + 1, 1, none⟩ (.int .i64 0)).setCell ⟨w.heap.size + 1 + 1 + 1, 2, none⟩ (.int .i64 0)).setCell ⟨w.heap.size + 1 + 1 + 1, 3, none⟩ (.int .i64 0)).setCell ⟨w.heap.size + 1 + 1 + 1, 4, none⟩ (.int .i64 0) := ⟨_, rfl⟩
      rw [← hWF]
      obtain ⟨⟨z1, z2⟩, z4, z6⟩ := fin_puts hWF HM.out.1 HM.out.2.1.2.2.1 HM.out.2.1.2.2.2
      have z5 : WF.heap[WS.heap.size]? = some (.deferred (some [])) := (z6 _ (by omega) (by omega)).trans HM.out.2.2
      clear hWF z6
      refine leaves_marks [WS.heap.size] WF (by simp) (fun D hD => by simp at hD; rw [hD]; exact z5) (fun W9 hm => ?_)
      have hk : ∀ k o, k < w.heap.size + 4 → WF.heap[k]? = some o → W9.heap[k]? = some o := fun k o hk h => (hm.2 k (Array.getElem?_eq_some_iff.1 h).1 (by simp; omega)).trans h
      exact ⟨_, ch_results _ _ (w.heap.size + 1 + 1) (w.heap.size + 1 + 1 + 1) none 0 0 0 0 0 0 0 61 _ _ rfl rfl rfl (hk _ _ (by omega) z1) (hk _ _ (by omega) z2), Mod.new z4 hm (fun k hk => by simp at hk; omega), .inl ⟨HL.out, rfl⟩⟩
    · obtain ⟨sy, cy, rfl⟩ := own_slice hyo
      have HYO := Lib.hid hyo
      have HBY := Lib.hid hy
      obtain ⟨ny, hny⟩ : ∃ ny, ny = y.length := ⟨_, rfl⟩
      have hyl : ¬ (ny : Int) = 0 := by have := hys.1.1; omega
      rw [← hny] at ca j4
      have HNY := Lib.hid hny
      have e0 : W'.cell? ⟨BB + 1, 0, none⟩ = some (.int .i64 (pxA T y)) := by simp [World.cell?, j5]
      have e1 : W'.cell? ⟨BB + 1, 1, none⟩ = some (.int .i64 (pxB T y)) := by simp [World.cell?, j5]
      have g0 := (box_cell j3.1).1
      have cw := j3.2.1
      have cw0 : W'.cell? ⟨w.heap.size + 1, 0, none⟩ = some (.int .i64 a1) := by simp [World.cell?, cw]
      have cw1 : W'.cell? ⟨w.heap.size + 1, 1, none⟩ = some (.int .i64 a2) := by simp [World.cell?, cw]
      have cw2 : W'.cell? ⟨w.heap.size + 1, 2, none⟩ = some (.int .i64 a3) := by simp [World.cell?, cw]
      have HJ := Lib.hid (And.intro j4 j5)
      clear j1 j2 j3 j4 j5 hdf hy hys hyo hyg hny cw
      have HF8 := Lib.hid (show ∀ V, New W' V → ((V.cell? ⟨BB, 0, none⟩ = some (.slice sy ny cy) ∧ V.cell? ⟨w.heap.size + 1 + 1, 0, none⟩ = some (.slice none 0 0) ∧ V.frozen? ⟨w.heap.size + 1 + 1, 0, none⟩ = false) ∧ (V.cell? ⟨w.heap.size + 1 + 1 + 1, 0, none⟩ = some (.int .i64 0) ∧ V.cell? ⟨w.heap.size + 1 + 1 + 1, 1, none⟩ = some (.int .i64 0) ∧ V.cell? ⟨w.heap.size + 1 + 1 + 1, 2, none⟩ = some (.int .i64 0)) ∧ (V.cell? ⟨w.heap.size + 1 + 1 + 1, 3, none⟩ = some (.int .i64 0) ∧ V.cell? ⟨w.heap.size + 1 + 1 + 1, 4, none⟩ = some (.int .i64 0)) ∧ ∀ o, V.frozen? ⟨w.heap.size + 1 + 1 + 1, o, none⟩ = false) from fun V hV => by
        have hk8 : ∀ k o, W'.heap[k]? = some o → V.heap[k]? = some o := fun k o h => (hV.below.block k (Array.getElem?_eq_some_iff.1 h).1).trans h
        have q1 : V.heap[w.heap.size + 1 + 1]? = _ := hk8 _ _ HM.out.2.1.2.2.1
        have q2 : V.heap[w.heap.size + 1 + 1 + 1]? = _ := hk8 _ _ HM.out.2.1.2.2.2
        have q3 := box_cell (hk8 _ _ HJ.out.1)
        obtain ⟨⟨x0, x1, x2⟩, x3, x4⟩ := cell5 q2
        exact ⟨⟨q3.1, (box_cell q1).1, (box_cell q1).2⟩, ⟨x0, x1, x2⟩, ⟨x3, x4⟩, frozen_heap q2⟩)
      gi_upto_region 13 with (fail)
      refine wpIn_normal ?_
      gi_region_with (refine ⟨trivial, ?_⟩; gi_at_call 47; refine (HDU.out _ _ _ (HM.out.1.trans (by (repeat (first | exact New.refl _ | apply New.drew))))).mono ?_; rintro e w8 ⟨n0, n1, n2, n3, den, rfl, hn8⟩; have HN8 := Lib.hid ((show New W' _ by (repeat (first | exact New.refl _ | apply New.drew))).trans hn8); obtain ⟨⟨ca, cr, fr1⟩, ⟨d0, d1, d2⟩, ⟨d3, d4⟩, fr2⟩ := HF8.out _ HN8.out; clear hn8)
      all_goals (gi_wp2)
      all_goals
        clear ca cr fr1 d0 d1 d2 d3 d4 fr2
        obtain ⟨WF, hWF⟩ : ∃ WF, WF = (((((w8.setCell ⟨w.heap.size + 1 + 1, 0, none⟩ (.slice sy ny cy)).setCell ⟨w.heap.size + 1 + 1 + 1, 0, none⟩ (.int .i64 n0)).setCell ⟨w.heap.size + 1 + 1 + 1, 1, none⟩ (.int .i64 n1)).setCell ⟨w.heap.size + 1 + 1 + 1, 2, none⟩ (.int .i64 n2)).setCell ⟨w.heap.size + 1 + 1 + 1, 3, none⟩ (.int .i64 n3)).setCell ⟨w.heap.size + 1 + 1 + 1, 4, none⟩ (.int .i64 den) := ⟨_, rfl⟩
        rw [← hWF]
        have hk8 : ∀ k o, W'.heap[k]? = some o → w8.heap[k]? = some o := fun k o h => (HN8.out.below.block k (Array.getElem?_eq_some_iff.1 h).1).trans h
        have b1 := hk8 _ _ HM.out.2.1.2.2.1
        have b2 := hk8 _ _ HM.out.2.1.2.2.2
        have b3 := hk8 _ _ HM.out.2.2
        obtain ⟨⟨z1, z2⟩, z4, z6⟩ := fin_puts hWF (HM.out.1.trans HN8.out) b1 b2
        have z5 : WF.heap[WS.heap.size]? = some (.deferred (some [])) := (z6 _ (by omega) (by omega)).trans b3
        have oy := own_new HYO.out HN8.out
        have zo := own_keep oy fun g hg => z6 g (fun e => own_ne oy b1 (fun cur h => by cases h) (by rw [hg, e])) (fun e => own_ne oy b2 (fun cur h => by cases h) (by rw [hg, e]))
        rw [← HNY.out] at zo
        clear hWF z6 b1 b2 b3 oy
        refine leaves_marks [WS.heap.size] WF (by simp) (fun D hD => by simp at hD; rw [hD]; exact z5) (fun W9 hm => ?_)
        have hk : ∀ k o, k < w.heap.size + 4 → WF.heap[k]? = some o → W9.heap[k]? = some o := fun k o hk h => (hm.2 k (Array.getElem?_eq_some_iff.1 h).1 (by simp; omega)).trans h
        exact ⟨_, ch_results _ _ (w.heap.size + 1 + 1) (w.heap.size + 1 + 1 + 1) sy ny cy n0 n1 n2 n3 den 0 _ _ rfl rfl rfl (hk _ _ (by omega) z1) (hk _ _ (by omega) z2), Mod.new z4 hm (fun k hk => by simp at hk; omega), .inr ⟨y, .slice sy ny cy, n0, n1, n2, n3, den, HBY.out, rfl, by
          rw [← HNY.out]
          exact own_keep zo fun g hg => hm.2 g (zo.lt g hg).2 (by simp; exact fun e => own_ne zo z5 (fun cur h => by cases h) (by rw [hg, e]))⟩⟩
  case hbody =>
    intro mm O done x args Wb hI hE hpre hO1 hO2 hrec hbnd
    obtain ⟨B0, hB0, sv, rfl, hown, hgo⟩ := hE
    obtain ⟨sa, sc, rfl⟩ := own_slice hown
    obtain ⟨rr, hrr⟩ := hrec
    have hlpb := (Array.getElem?_eq_some_iff.1 hrr).1
    have HX := Lib.hid (HSM.out x (hpre.subset (by simp : x ∈ done ++ [x])))
    have HI := Lib.hid hI
    have HOWN := Lib.hid hown
    have HGO := Lib.hid hgo
    have HBND := Lib.hid hbnd
    have HGL := Lib.hid (own_ne hown hrr (fun cur h => by cases h))
    clear hown hgo hrr hI hbnd
    gi_wp2
    refine ⟨Keep.of_new ((New.refl _).alloc _), ?_⟩
    intro W5 hb5 hs5 ho5 hrec5
    have hmod : Mod (plus WS.heap.size O) Wb W5 := by
      refine ⟨(Below.mono ((New.refl Wb).alloc _).below (Nat.zero_le _)).trans hb5, fun k hk hne' => ?_⟩
      rw [ho5 k (fun e => hne' (.inr (.inr e)))]
      exact Below.heap_alloc _ _ _ hk
    have HI5 := Lib.hid (ChI.stable w BB (by omega) _ _ _ _ _ _ _ _ _ _ _ _ HI.out hmod (fun k hk => .inl hk))
    have HFB := Lib.hid (show W5.heap[Wb.heap.size]? = some (.cells #[.slice sa x.length sc] 25 (0, 0)) from (ho5 _ (by omega)).trans (World.alloc_heap_new _ _))
    have HOW5 := Lib.hid (show W5.ownsRow B0 64 2 (.slice sa x.length sc) x.length (partCells x) from own_keep HOWN.out (fun g hg => by
      have hgb := (HOWN.out.lt g hg).2
      have hgl : g ≠ WS.heap.size + 1 := fun e => HGL.out (by rw [hg, e])
      rw [ho5 g hgl]; exact Below.heap_alloc _ _ _ hgb))
    obtain ⟨g, rfl⟩ : ∃ g, sa = some ⟨g, 0, none⟩ := own_some HOW5.out (by have := HX.out.1.1; omega)
    have HPR := Lib.hid (CallsIn.inRound (WS.heap.size + 1) ((callsIn_wide (n := mm - 1)).2 (show Calls Try.prog 35 #[.slice (some ⟨b, off, none⟩) n cp, .agg #[.slice (some ⟨g, 0, none⟩) x.length sc]] W5 fun en w' => en = .returned (fv (pxA T x) (pxB T x)) ∧ New W5 w' from price_c b off n cp g 0 x.length sc T x W5 (HT.out.new HI5.out.2.2.1) (prts_of_own rfl HOW5.out) HX.out.2 htn (by have := HX.out.1.1; omega) HX.out.1.2 hn)))
    have ct := (box_cell HI5.out.2.2.2.1.1).1
    have c4 := (box_cell HFB.out).1
    have hsz : Wb.heap.size < W5.heap.size := (Array.getElem?_eq_some_iff.1 HFB.out).1
    clear hb5 hs5 ho5 hrec5 hO1 hO2 hmod
    have HFIN := Lib.hid (show ∀ V, Mod (fun k => k = BB ∨ k = BB + 1) W5 V → (∃ sv px py, V.heap[BB]? = some (.cells #[sv] 25 (0, 0)) ∧ V.heap[BB + 1]? = some (.cells #[.int .i64 px, .int .i64 py] 29 (0, 0)) ∧
        ∃ y, bestTo T (done ++ [x]) = some y ∧ smallR y n ∧ px = pxA T y ∧ py = pxB T y ∧ V.ownsRow w.heap.size 64 2 sv y.length (partCells y) ∧ ∀ g, sv.ownBlock = some g → ¬ plus WS.heap.size O g) →
        RoundP WS.heap.size O (fun k => k = W3.heap.size ∨ k = W3.heap.size + 1 ∨ k = b) (ChI w BB (.slice (some ⟨b, off, none⟩) n cp) a1 a2 a3 T n) (done ++ [x]) W5 .normal V from fun V hm ⟨sv, px, py, e1, e2, y, e3⟩ => by
      obtain ⟨i0, i1, i2, i3, _⟩ := HI5.out
      refine ⟨Keep.of_mod hm (fun k hk e => ?_), false, ⟨rfl, i1, Mod.new i2 hm (fun k hk => by omega), i3.of (fun k o hk h => (hm.2 k (Array.getElem?_eq_some_iff.1 h).1 (by omega)).trans h), sv, px, py, e1, e2, .inr ⟨y, e3⟩⟩, .inl ⟨rfl, rfl⟩⟩
      rcases hk with hk | hk
      · have := i1 k hk; omega
      · omega)
    gi_wp2
    refine ⟨trivial, (fun h => by cases h), ?_⟩
    gi_at_call 35
    refine HPR.out.mono ?_
    rintro e w6 ⟨rfl, hn6⟩
    have HN6 := Lib.hid hn6
    obtain ⟨W7, hW7⟩ : ∃ W7, W7 = w6.alloc (.cells #[.int .i64 (pxA T x), .int .i64 (pxB T x)] 29) := ⟨_, rfl⟩
    have HN7 := Lib.hid (show New W5 W7 by rw [hW7]; exact hn6.alloc _)
    have HPB := Lib.hid (show W7.heap[w6.heap.size]? = some (.cells #[.int .i64 (pxA T x), .int .i64 (pxB T x)] 29 (0, 0)) by rw [hW7]; exact World.alloc_heap_new _ _)
    have hk7 : ∀ k o, W5.heap[k]? = some o → W7.heap[k]? = some o := fun k o h => (HN7.out.below.block k (Array.getElem?_eq_some_iff.1 h).1).trans h
    obtain ⟨i0, i1, i2, i3, sv0, px0, py0, j1, j2, jc⟩ := HI5.out
    have HJ := Lib.hid (And.intro (hk7 _ _ j1) (And.intro (hk7 _ _ j2) (hk7 _ _ HFB.out)))
    have HXB := Lib.hid (px_bd htn HX.out)
    clear hn6 ct c4 i0 i1 i2 i3 j1 j2 hk7
    have HXA := Lib.hid (show pxA T x = (((pxA T x).toNat : Nat) : Int) by have := HXB.out; omega)
    have HXC := Lib.hid (show pxB T x = (((pxB T x).toNat : Nat) : Int) by have := HXB.out; omega)
    have HSET := Lib.hid (show ∀ W8, New W7 W8 → bestTo T (done ++ [x]) = some x → RoundP WS.heap.size O (fun k => k = W3.heap.size ∨ k = W3.heap.size + 1 ∨ k = b) (ChI w BB (.slice (some ⟨b, off, none⟩) n cp) a1 a2 a3 T n) (done ++ [x]) W5 .normal
        (((W8.setCell ⟨BB, 0, none⟩ (.slice (some ⟨g, 0, none⟩) x.length sc)).setCell ⟨BB + 1, 0, none⟩ (.int .i64 (pxA T x))).setCell ⟨BB + 1, 1, none⟩ (.int .i64 (pxB T x))).drew from fun W8 hn8 hbx => by
      have hk8 : ∀ k o, W7.heap[k]? = some o → W8.heap[k]? = some o := fun k o h => (hn8.below.block k (Array.getElem?_eq_some_iff.1 h).1).trans h
      have jb := hk8 _ _ HJ.out.1
      have jp := hk8 _ _ HJ.out.2.1
      have hO7 := own_new HOW5.out (HN7.out.trans hn8)
      have hm : Mod (fun k => k = BB ∨ k = BB + 1) W8 (((W8.setCell ⟨BB, 0, none⟩ (.slice (some ⟨g, 0, none⟩) x.length sc)).setCell ⟨BB + 1, 0, none⟩ (.int .i64 (pxA T x))).setCell ⟨BB + 1, 1, none⟩ (.int .i64 (pxB T x))).drew :=
        (((Mod.setCell _ _ _ _ (.inl rfl)).trans (Mod.setCell _ _ _ _ (.inr rfl))).trans (Mod.setCell _ _ _ _ (.inr rfl))).trans (Mod.of_new (New.drew (New.refl _)))
      refine HFIN.out _ ((Mod.of_new (HN7.out.trans hn8)).trans hm) ⟨.slice (some ⟨g, 0, none⟩) x.length sc, pxA T x, pxB T x, ?_, ?_, x, hbx, HX.out, rfl, rfl, own_base (own_keep hO7 fun g' hg' => hm.2 g' (hO7.lt g' hg').2 ?_) (by have := (HN1.out.trans (HN2.out.trans (HN3.out.trans HNS.out))).size; omega), ?_⟩
      · show (((W8.setCell ⟨BB, 0, none⟩ (.slice (some ⟨g, 0, none⟩) x.length sc)).setCell ⟨BB + 1, 0, none⟩ (.int .i64 (pxA T x))).setCell ⟨BB + 1, 1, none⟩ (.int .i64 (pxB T x))).heap[BB]? = _
        rw [heap_setCell_other _ _ _ _ _ (by omega), heap_setCell_other _ _ _ _ _ (by omega)]
        exact heap_setCell_same _ _ 0 _ jb
      · show (((W8.setCell ⟨BB, 0, none⟩ (.slice (some ⟨g, 0, none⟩) x.length sc)).setCell ⟨BB + 1, 0, none⟩ (.int .i64 (pxA T x))).setCell ⟨BB + 1, 1, none⟩ (.int .i64 (pxB T x))).heap[BB + 1]? = _
        exact (heap_setCell_same _ _ 1 _ (heap_setCell_same _ _ 0 _ ((heap_setCell_other _ _ _ _ _ (by omega)).trans jp))).trans (by simp)
      · rintro (e | e)
        · exact own_ne hO7 jb (fun cur h => by cases h) (by rw [hg', e])
        · exact own_ne hO7 jp (fun cur h => by cases h) (by rw [hg', e])
      · rintro g' hg' (h | h | h)
        · exact HGO.out g' hg' h
        · have := (HOW5.out.lt g' hg').1; omega
        · exact HGL.out (by rw [hg', h]))
    rcases jc with ⟨hd0, rfl⟩ | ⟨y, hy, hys, rfl, rfl, hyo, hyg⟩
    · obtain ⟨jb, jp, jr⟩ := HJ.out
      rw [hW7] at jb jp jr
      have c1 := box_cell jb
      have c2 := box_cell jr
      have c3 : (w6.alloc (.cells #[.int .i64 (pxA T x), .int .i64 (pxB T x)] 29)).cell? ⟨BB + 1, 0, none⟩ = some (.int .i64 px0) := by generalize w6.alloc (.cells #[.int .i64 (pxA T x), .int .i64 (pxB T x)] 29) = Z at *; simp [World.cell?, jp]
      have c4 : (w6.alloc (.cells #[.int .i64 (pxA T x), .int .i64 (pxB T x)] 29)).cell? ⟨BB + 1, 1, none⟩ = some (.int .i64 py0) := by generalize w6.alloc (.cells #[.int .i64 (pxA T x), .int .i64 (pxB T x)] 29) = Z at *; simp [World.cell?, jp]
      have c5 := frozen_heap jp
      clear jb jp jr
      gi_wp2
      refine ⟨trivial, ?_⟩
      gi_upto_region 10 with (fail)
      rw [← hW7]
      rw [← hW7] at c1 c2 c3 c4 c5
      have c6 : W7.cell? ⟨w6.heap.size, 0, none⟩ = some (.int .i64 (pxA T x)) := by have := HPB.out; simp [World.cell?, this]
      have c7 : W7.cell? ⟨w6.heap.size, 1, none⟩ = some (.int .i64 (pxB T x)) := by have := HPB.out; simp [World.cell?, this]
      have hl6 := (Array.getElem?_eq_some_iff.1 HPB.out).1
      have hl5 := HN6.out.size
      have hlB := (Array.getElem?_eq_some_iff.1 HJ.out.2.1).1
      have hq1 : ¬ Wb.heap.size = BB := by omega
      have hq2 : ¬ w6.heap.size = BB := by omega
      have hq3 : ¬ Wb.heap.size = BB + 1 := by omega
      have hq4 : ¬ w6.heap.size = BB + 1 := by omega
      obtain ⟨c1a, c1b⟩ := c1
      obtain ⟨c2a, c2b⟩ := c2
      have c5a := c5 0
      have c5b := c5 1
      clear c5
      clear hW7
      have HS := Lib.hid (HSET.out W7 (New.refl _) (by rw [hd0]; rfl))
      gi_region
      all_goals exact HS.out
    · obtain ⟨sy, cy, rfl⟩ := own_slice hyo
      have HYB := Lib.hid (px_bd htn hys)
      have HLS := Lib.hid (fun (V : World) => CallsIn.inRound (WS.heap.size + 1) ((callsIn_wide (n := mm - 1)).2 (isLess_i (pxA T x) (pxB T x) (pxA T y) (pxB T y) V HXB.out.1 HXB.out.2 HYB.out.1 HYB.out.2)))
      have HBS := Lib.hid (show bestTo T (done ++ [x]) = if lessB (pxA T x).toNat (pxB T x).toNat (pxA T y).toNat (pxB T y).toNat = true then some x else some y by rw [bestTo_snoc, hy]; rfl)
      generalize lessB (pxA T x).toNat (pxB T x).toNat (pxA T y).toNat (pxB T y).toNat = q at *
      have HYS := Lib.hid hys
      have HYO := Lib.hid hyo
      have HYG := Lib.hid hyg
      obtain ⟨ny, hny⟩ : ∃ ny, ny = y.length := ⟨_, rfl⟩
      have hyl : ¬ (ny : Int) = 0 := by have := hys.1.1; omega
      obtain ⟨jb, jp, jr⟩ := HJ.out
      rw [hW7] at jb jp jr
      rw [← hny] at jb
      have HNY := Lib.hid hny
      clear hny
      have c1 := box_cell jb
      have c2 := box_cell jr
      have c3 : (w6.alloc (.cells #[.int .i64 (pxA T x), .int .i64 (pxB T x)] 29)).cell? ⟨BB + 1, 0, none⟩ = some (.int .i64 (pxA T y)) := by generalize w6.alloc (.cells #[.int .i64 (pxA T x), .int .i64 (pxB T x)] 29) = Z at *; simp [World.cell?, jp]
      have c4 : (w6.alloc (.cells #[.int .i64 (pxA T x), .int .i64 (pxB T x)] 29)).cell? ⟨BB + 1, 1, none⟩ = some (.int .i64 (pxB T y)) := by generalize w6.alloc (.cells #[.int .i64 (pxA T x), .int .i64 (pxB T x)] 29) = Z at *; simp [World.cell?, jp]
      clear jb jp jr hys hyo hyg
      gi_wp2
      refine ⟨trivial, (fun h => by cases h), ?_⟩
      gi_at_call 46
      refine (HLS.out _).mono ?_
      rintro e w8 ⟨rfl, hn8⟩
      rw [← hW7] at hn8
      have HN8 := Lib.hid hn8
      have hk8 : ∀ k o, W7.heap[k]? = some o → w8.heap[k]? = some o := fun k o h => (hn8.below.block k (Array.getElem?_eq_some_iff.1 h).1).trans h
      have HK := Lib.hid (And.intro (hk8 _ _ HJ.out.1) (And.intro (hk8 _ _ HJ.out.2.1) (And.intro (hk8 _ _ HJ.out.2.2) (hk8 _ _ HPB.out))))
      clear hn8 hk8 c1 c2 c3 c4
      cases q
      · have HS := Lib.hid (show RoundP WS.heap.size O (fun k => k = W3.heap.size ∨ k = W3.heap.size + 1 ∨ k = b) (ChI w BB (.slice (some ⟨b, off, none⟩) n cp) a1 a2 a3 T n) (done ++ [x]) W5 .normal w8 from
          HFIN.out _ (Mod.of_new (HN7.out.trans HN8.out)) ⟨_, _, _, HK.out.1, HK.out.2.1, y, by rw [HBS.out]; rfl, HYS.out, rfl, rfl, own_new HYO.out (HN7.out.trans HN8.out), HYG.out⟩)
        gi_wp2
        exact HS.out
      · have HS := Lib.hid (HSET.out w8 HN8.out (by rw [HBS.out]; rfl))
        have hl6 := (Array.getElem?_eq_some_iff.1 HK.out.2.2.2).1
        have hl5 := HN6.out.size
        have hlB := (Array.getElem?_eq_some_iff.1 HK.out.2.1).1
        have hlW := (Array.getElem?_eq_some_iff.1 HK.out.2.2.1).1
        have hq1 : ¬ Wb.heap.size = BB := by omega
        have hq2 : ¬ w6.heap.size = BB := by omega
        have hq3 : ¬ Wb.heap.size = BB + 1 := by omega
        have hq4 : ¬ w6.heap.size = BB + 1 := by omega
        obtain ⟨c1a, c1b⟩ := box_cell HK.out.1
        obtain ⟨c2a, c2b⟩ := box_cell HK.out.2.2.1
        have c3 : w8.cell? ⟨BB + 1, 0, none⟩ = some (.int .i64 (pxA T y)) := by have := HK.out.2.1; simp [World.cell?, this]
        have c4 : w8.cell? ⟨BB + 1, 1, none⟩ = some (.int .i64 (pxB T y)) := by have := HK.out.2.1; simp [World.cell?, this]
        have c5a := frozen_heap HK.out.2.1 0
        have c5b := frozen_heap HK.out.2.1 1
        have c6 : w8.cell? ⟨w6.heap.size, 0, none⟩ = some (.int .i64 (pxA T x)) := by have := HK.out.2.2.2; simp [World.cell?, this]
        have c7 : w8.cell? ⟨w6.heap.size, 1, none⟩ = some (.int .i64 (pxB T x)) := by have := HK.out.2.2.2; simp [World.cell?, this]
        clear hW7
        gi_upto_region 10 with (fail)
        gi_region
        all_goals exact HS.out

end Go.Proofs.Ytpjekinmcdglbaa
