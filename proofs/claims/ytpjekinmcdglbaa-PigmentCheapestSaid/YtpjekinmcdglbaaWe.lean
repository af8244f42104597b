/- By which multiples of its rows a frame gives a row. Entries from -10000 to 10000. -/
import Derived.Test.YtpjekinmcdglbaaFo
set_option linter.unusedSimpArgs false
set_option linter.unusedVariables false
set_option maxRecDepth 100000
namespace Go.Proofs.Ytpjekinmcdglbaa
open Go.RowKit

def arr4 (m : Nat → Int) : Array Value := #[.int .i64 (m 0), .int .i64 (m 1), .int .i64 (m 2), .int .i64 (m 3)]
abbrev fourV (m : Nat → Int) : Value := .agg #[.int .i64 (m 0), .int .i64 (m 1), .int .i64 (m 2), .int .i64 (m 3)]
theorem arr4_at (m : Nat → Int) (k : Nat) (h : k < 4) : (arr4 m)[k]? = some (.int .i64 (m k)) := by
  have : k = 0 ∨ k = 1 ∨ k = 2 ∨ k = 3 := by omega
  rcases this with rfl | rfl | rfl | rfl <;> rfl
theorem cell4 {W : World} {b : Nat} {m : Nat → Int} {t : TypeId} {fr : Nat × Nat} (h : W.heap[b]? = some (.cells (arr4 m) t fr)) (k : Nat) (hk : k < 4) : W.cell? ⟨b, k, none⟩ = some (.int .i64 (m k)) := by
  rw [cell_of_row W b k (arr4 m) t fr h, arr4_at m k hk]
theorem arr4_set (m : Nat → Int) (j : Nat) (hj : j < 4) (x : Int) : (arr4 m).setIfInBounds j (.int .i64 x) = arr4 (put1 m j x) := by
  have : j = 0 ∨ j = 1 ∨ j = 2 ∨ j = 3 := by omega
  rcases this with rfl | rfl | rfl | rfl <;> simp [arr4, put1]
theorem heap_put4q {W : World} {b : Nat} {m : Nat → Int} {t : TypeId} (h : W.heap[b]? = some (.cells (arr4 m) t (0, 0))) (j : Nat) (hj : j < 4) (x : Int) : (W.setCell ⟨b, j, none⟩ (.int .i64 x)).heap[b]? = some (.cells (arr4 (put1 m j x)) t (0, 0)) := by
  rw [heap_setCell_same _ _ _ _ h, arr4_set m j hj]
theorem arr4_ext {m m' : Nat → Int} (h : ∀ j, j < 4 → m j = m' j) : arr4 m = arr4 m' := by
  unfold arr4
  rw [h 0 (by omega), h 1 (by omega), h 2 (by omega), h 3 (by omega)]
def bd4 (m : Nat → Int) : Prop := ∀ k, k < 4 → -10000 ≤ m k ∧ m k ≤ 10000

def sg1 (n : Int) : Int := if n < 0 then -1 else 1
theorem sg1_bd (n : Int) : sg1 n = 1 ∨ sg1 n = -1 := by unfold sg1; split <;> simp
/-- the frame with the row i replaced -/
def rowSet (f : Nat → Int) (i : Nat) (r : Nat → Int) : Nat → Int := put4 f (i * 4) (r 0) (r 1) (r 2) (r 3)
def weI (f r : Nat → Int) (i : Nat) : Int := sg1 (detI f) * detI (rowSet f i r)
theorem detI_bd {m : Nat → Int} (h : bd16 m) : -240000000000000000 ≤ detI m ∧ detI m ≤ 240000000000000000 := by
  have b : ∀ i j k l, i < 4 → j < 4 → k < 4 → l < 4 → -40000000000000000 ≤ upI m i j * loI m k l ∧ upI m i j * loI m k l ≤ 40000000000000000 := fun i j k l hi hj hk hl => by
    have u := upI_bd h i j hi hj
    have v := loI_bd h k l hk hl
    have := mul_bd (upI m i j) (loI m k l) 200000000 200000000 u.1 u.2 v.1 v.2
    omega
  have b1 := b 0 1 2 3 (by omega) (by omega) (by omega) (by omega)
  have b2 := b 0 2 1 3 (by omega) (by omega) (by omega) (by omega)
  have b3 := b 0 3 1 2 (by omega) (by omega) (by omega) (by omega)
  have b4 := b 1 2 0 3 (by omega) (by omega) (by omega) (by omega)
  have b5 := b 1 3 0 2 (by omega) (by omega) (by omega) (by omega)
  have b6 := b 2 3 0 1 (by omega) (by omega) (by omega) (by omega)
  unfold detI
  generalize upI m 0 1 * loI m 2 3 = x1 at *
  generalize upI m 0 2 * loI m 1 3 = x2 at *
  generalize upI m 0 3 * loI m 1 2 = x3 at *
  generalize upI m 1 2 * loI m 0 3 = x4 at *
  generalize upI m 1 3 * loI m 0 2 = x5 at *
  generalize upI m 2 3 * loI m 0 1 = x6 at *
  omega
theorem sgmul_bd {s d : Int} (hs : s = 1 ∨ s = -1) (h : -240000000000000000 ≤ d ∧ d ≤ 240000000000000000) : -240000000000000000 ≤ s * d ∧ s * d ≤ 240000000000000000 := by
  rcases hs with rfl | rfl <;> omega
theorem bd16_rowSet {f r : Nat → Int} (h : bd16 f) (hr : bd4 r) (i : Nat) : bd16 (rowSet f i r) := bd16_put4 h _ (hr 0 (by omega)) (hr 1 (by omega)) (hr 2 (by omega)) (hr 3 (by omega))

/-- the world in the midst of weights -/
def WeW (w W : World) (f r q : Nat → Int) : Prop :=
  New w W ∧ W.heap[w.heap.size]? = some (.cells (arr16 f) 107 (0, 0)) ∧ W.heap[w.heap.size + 1]? = some (.cells (arr4 r) 105 (0, 0)) ∧ W.heap[w.heap.size + 1 + 1]? = some (.cells (arr4 fun _ => 0) 47 (0, 0)) ∧ W.heap[w.heap.size + 1 + 1 + 1]? = some (.cells (arr4 q) 47 (0, 0))
theorem WeW.new {w W W' : World} {f r q : Nat → Int} (h : WeW w W f r q) (hn : New W W') : WeW w W' f r q := by
  have hk : ∀ k o, W.heap[k]? = some o → W'.heap[k]? = some o := fun k o h => (hn.below.block k (Array.getElem?_eq_some_iff.1 h).1).trans h
  exact ⟨h.1.trans hn, hk _ _ h.2.1, hk _ _ h.2.2.1, hk _ _ h.2.2.2.1, hk _ _ h.2.2.2.2⟩

set_option maxHeartbeats 8000000 in
theorem weights_c (f r : Nat → Int) (w : World) (hf : bd16 f) (hr : bd4 r) :
    Calls Try.prog 83 #[frV f, fourV r] w fun en w' => en = .returned (fourV (weI f r)) ∧ New w w' := by
  have HF := Lib.hid hf
  have HR := Lib.hid hr
  have HDT := Lib.hid (fun (w1 : World) => determinant_c f w1 hf)
  have HSG := Lib.hid (fun (w1 : World) => sign_c (detI f) w1)
  have HS1 := Lib.hid (show (if detI f < 0 then (-1 : Int) else 1) = sg1 (detI f) from rfl)
  rw [HS1.out] at HSG
  have hsb := sg1_bd (detI f)
  have HWE := Lib.hid (show ∀ i, weI f r i = sg1 (detI f) * detI (rowSet f i r) from fun _ => rfl)
  clear hf hr HS1
  generalize sg1 (detI f) = S at *
  generalize detI f = D at *
  have HW0 := Lib.hid (alloc4_heap w (.cells (arr16 f) 107) (.cells (arr4 r) 105) (.cells (arr4 fun _ => 0) 47) (.cells (arr4 fun _ => 0) 47))
  go_enter Try.func83, Try.ntmps83
  go_wp2_with fail
  go_at_call 89
  refine (HDT.out _).mono ?_
  rintro e w1 ⟨rfl, hn1⟩
  have HWW1 := Lib.hid (show WeW w w1 f r (fun _ => 0) from WeW.new ⟨((((New.refl w).alloc _).alloc _).alloc _).alloc _, HW0.out.1, HW0.out.2.1, HW0.out.2.2.1, HW0.out.2.2.2⟩ hn1)
  clear hn1 HW0
  go_wp2_with fail
  go_at_call 70
  refine (HSG.out _).mono ?_
  rintro e w2 ⟨rfl, hn2⟩
  have HWW2 := Lib.hid (HWW1.out.new hn2)
  clear hn2
  go_wp2_with fail
  go_loopw [12] (fun i wr => ∃ (k : Nat) (q : Nat → Int), k ≤ 4 ∧ i = .int .i64 (k : Int) ∧ WeW w wr f r q ∧ ∀ j, j < k → q j = weI f r j) (fun i _ => 4 - (intOf i).toNat)
  case atStart => exact ⟨0, _, by omega, rfl, HWW2.out, fun j hj => by omega⟩
  case round =>
    obtain ⟨k, q, hk, rfl, hw, hq⟩ := hrel
    have HWW := Lib.hid hw
    have HQ := Lib.hid hq
    obtain ⟨_, k0, k1, k2, k3⟩ := hw
    by_cases hlt : k < 4
    · have hbd := bd16_rowSet HF.out HR.out k
      have HDG := Lib.hid (fun (w1 : World) => determinant_c (rowSet f k r) w1 hbd)
      have hdb := sgmul_bd hsb (detI_bd hbd)
      have hWk := HWE.out k
      have HWk := Lib.hid hWk
      have e0 := cell16 k0 0 (by omega)
      have e1 := cell16 k0 1 (by omega)
      have e2 := cell16 k0 2 (by omega)
      have e3 := cell16 k0 3 (by omega)
      have e4 := cell16 k0 4 (by omega)
      have e5 := cell16 k0 5 (by omega)
      have e6 := cell16 k0 6 (by omega)
      have e7 := cell16 k0 7 (by omega)
      have e8 := cell16 k0 8 (by omega)
      have e9 := cell16 k0 9 (by omega)
      have e10 := cell16 k0 10 (by omega)
      have e11 := cell16 k0 11 (by omega)
      have e12 := cell16 k0 12 (by omega)
      have e13 := cell16 k0 13 (by omega)
      have e14 := cell16 k0 14 (by omega)
      have e15 := cell16 k0 15 (by omega)
      have d0 := cell4 k1 0 (by omega)
      have d1 := cell4 k1 1 (by omega)
      have d2 := cell4 k1 2 (by omega)
      have d3 := cell4 k1 3 (by omega)
      clear hbd hq k0 k1 k2 k3 hWk d0 d1 d2 d3
      go_upto_region 7 with fail
      obtain ⟨W7, hW7⟩ : ∃ W7, W7 = wr.alloc (.cells (arr16 f) 107) := ⟨_, rfl⟩
      have hN7 : New wr W7 := by rw [hW7]; exact (New.refl _).alloc _
      have HW7 := Lib.hid (HWW.out.new hN7)
      have k7 : W7.heap[wr.heap.size]? = some (.cells (arr16 f) 107 (0, 0)) := by rw [hW7]; exact World.alloc_heap_new _ _
      have HK7 := Lib.hid k7
      unfold arr16 at hW7
      rw [← hW7]
      obtain ⟨_, _, k1, _, _⟩ := HW7.out
      have d0 := cell4 k1 0 (by omega)
      have d1 := cell4 k1 1 (by omega)
      have d2 := cell4 k1 2 (by omega)
      have d3 := cell4 k1 3 (by omega)
      have a0 := cell16 k7 (k * 4) (by omega)
      have a1 := cell16 k7 (k * 4 + 1) (by omega)
      have a2 := cell16 k7 (k * 4 + 2) (by omega)
      have a3 := cell16 k7 (k * 4 + 3) (by omega)
      have b0 := frozen_heap k7
      have hsz := (Array.getElem?_eq_some_iff.1 k1).1
      have hwr : w.heap.size + 1 + 1 + 1 < wr.heap.size := (Array.getElem?_eq_some_iff.1 HWW.out.2.2.2.2).1
      generalize f (k * 4) = A0 at *
      generalize f (k * 4 + 1) = A1 at *
      generalize f (k * 4 + 2) = A2 at *
      generalize f (k * 4 + 3) = A3 at *
      clear hN7 hW7 k7 k1 e0 e1 e2 e3 e4 e5 e6 e7 e8 e9 e10 e11 e12 e13 e14 e15
      go_upto_region 8 with fail
      have k8 := heap_put4 HK7.out (k * 4) (by omega) (r 0) (r 1) (r 2) (r 3)
      have hm8 := Mod.set4 (O := fun q => q = wr.heap.size) W7 wr.heap.size (k * 4) (k * 4 + 1) (k * 4 + 2) (k * 4 + 3) (.int .i64 (r 0)) (.int .i64 (r 1)) (.int .i64 (r 2)) (.int .i64 (r 3)) rfl
      clear a0 a1 a2 a3 b0 d0 d1 d2 d3
      generalize ((((W7.setCell ⟨wr.heap.size, k * 4, none⟩ (.int .i64 (r 0))).setCell ⟨wr.heap.size, k * 4 + 1, none⟩ (.int .i64 (r 1))).setCell ⟨wr.heap.size, k * 4 + 2, none⟩ (.int .i64 (r 2))).setCell ⟨wr.heap.size, k * 4 + 3, none⟩ (.int .i64 (r 3))) = W8 at *
      have k8 : W8.heap[wr.heap.size]? = some (.cells (arr16 (rowSet f k r)) 107 (0, 0)) := k8
      have HW8 := Lib.hid (show WeW w W8 f r q by
        obtain ⟨a, b, c, d, e⟩ := HW7.out
        have hk : ∀ j o, j < wr.heap.size → W7.heap[j]? = some o → W8.heap[j]? = some o := fun j o hj h => (hm8.2 j (Array.getElem?_eq_some_iff.1 h).1 (by omega)).trans h
        exact ⟨Mod.new a hm8 (fun j hj => by omega), hk _ _ (by omega) b, hk _ _ (by omega) c, hk _ _ (by omega) d, hk _ _ (by omega) e⟩)
      have e0 := cell16 k8 0 (by omega)
      have e1 := cell16 k8 1 (by omega)
      have e2 := cell16 k8 2 (by omega)
      have e3 := cell16 k8 3 (by omega)
      have e4 := cell16 k8 4 (by omega)
      have e5 := cell16 k8 5 (by omega)
      have e6 := cell16 k8 6 (by omega)
      have e7 := cell16 k8 7 (by omega)
      have e8 := cell16 k8 8 (by omega)
      have e9 := cell16 k8 9 (by omega)
      have e10 := cell16 k8 10 (by omega)
      have e11 := cell16 k8 11 (by omega)
      have e12 := cell16 k8 12 (by omega)
      have e13 := cell16 k8 13 (by omega)
      have e14 := cell16 k8 14 (by omega)
      have e15 := cell16 k8 15 (by omega)
      generalize rowSet f k r = G at *
      generalize hDG : detI G = DG at *
      have hmul : IntKind.i64.wrap (S * DG) = S * DG := IntWalk.i64_in _ (by omega)
      have HDG2 := Lib.hid hDG
      clear k8 hm8 hDG hdb
      go_wp2_with fail
      go_at_call 89
      refine (HDG.out _).mono ?_
      rintro e w9 ⟨rfl, hn9⟩
      have HW9 := Lib.hid (HW8.out.new hn9)
      obtain ⟨_, _, _, _, k9⟩ := HW9.out
      have c9 := cell4 k9 k hlt
      have f9 := frozen_heap k9 k
      have HK9 := Lib.hid k9
      generalize q k = Q9 at *
      clear hn9 k9 e0 e1 e2 e3 e4 e5 e6 e7 e8 e9 e10 e11 e12 e13 e14 e15
      go_wp2_with fail
      go_roundw
      case rel =>
        obtain ⟨a, b, c, d, e⟩ := HW9.out
        refine ⟨k + 1, put1 q k (S * DG), by omega, by go_num, ⟨a.setCell (by show w.heap.size ≤ w.heap.size + 1 + 1 + 1; omega) _, (heap_setCell_other _ _ _ _ _ (by omega)).trans b, (heap_setCell_other _ _ _ _ _ (by omega)).trans c, (heap_setCell_other _ _ _ _ _ (by omega)).trans d, heap_put4q HK9.out k hlt _⟩, ?_⟩
        intro j hj
        unfold put1
        by_cases e : j = k
        · rw [if_pos e, e, HWk.out]
        · rw [if_neg e]; exact HQ.out j (by omega)
      case measure => simp [intOf]; omega
    · obtain rfl : k = 4 := by omega
      have hq4 := arr4_ext hq
      rw [hq4] at k3
      have HN := Lib.hid HWW.out.1
      have HK2 := Lib.hid k2
      have e0 := cell4 k3 0 (by omega)
      have e1 := cell4 k3 1 (by omega)
      have e2 := cell4 k3 2 (by omega)
      have e3 := cell4 k3 3 (by omega)
      have d0 := cell4 k2 0 (by omega)
      have d1 := cell4 k2 1 (by omega)
      have d2 := cell4 k2 2 (by omega)
      have d3 := cell4 k2 3 (by omega)
      have f2 := frozen_heap k2
      clear hq k0 k1 k2 k3 hq4
      go_wp2_with fail
      clear d0 d1 d2 d3 e0 e1 e2 e3 f2
      obtain ⟨WF, HWF⟩ : ∃ WF : World, Hid (WF = ((((wr.setCell ⟨w.heap.size + 1 + 1, 0, none⟩ (.int .i64 (weI f r 0))).setCell ⟨w.heap.size + 1 + 1, 1, none⟩ (.int .i64 (weI f r 1))).setCell ⟨w.heap.size + 1 + 1, 2, none⟩ (.int .i64 (weI f r 2))).setCell ⟨w.heap.size + 1 + 1, 3, none⟩ (.int .i64 (weI f r 3)))) := ⟨_, Lib.hid rfl⟩
      rw [← HWF.out]
      have q1 : WF.heap[w.heap.size + 1 + 1]? = some (.cells (arr4 (weI f r)) 47 (0, 0)) := by
        rw [HWF.out, heap_put4q (heap_put4q (heap_put4q (heap_put4q HK2.out 0 (by omega) _) 1 (by omega) _) 2 (by omega) _) 3 (by omega) _]
        refine congrArg some (congrArg (fun c => Obj.cells c 47 (0, 0)) ?_)
        simp [arr4, put1]
      have q2 : New w WF := by
        rw [HWF.out]
        exact (((HN.out.setCell (by show w.heap.size ≤ w.heap.size + 1 + 1; omega) _).setCell (by show w.heap.size ≤ w.heap.size + 1 + 1; omega) _).setCell (by show w.heap.size ≤ w.heap.size + 1 + 1; omega) _).setCell (by show w.heap.size ≤ w.heap.size + 1 + 1; omega) _
      have c0 := cell4 q1 0 (by omega)
      have c1 := cell4 q1 1 (by omega)
      have c2 := cell4 q1 2 (by omega)
      have c3 := cell4 q1 3 (by omega)
      exact bodyPost_ret (v := fourV (weI f r)) (by simp [results, Try.results83, go_sem, c0, c1, c2, c3]) rfl ⟨rfl, q2⟩

end Go.Proofs.Ytpjekinmcdglbaa
