/- The numbers whose products with the rows of a frame are values: solve. Entries and values from -10000 to 10000. -/
import Derived.Test.YtpjekinmcdglbaaMx
set_option linter.unusedSimpArgs false
set_option linter.unusedVariables false
set_option maxRecDepth 100000
namespace Go.Proofs.Ytpjekinmcdglbaa
open Go.RowKit

/-- the frame with the first values set in a column -/
def colTo (f : Nat → Int) (c : Nat) (p : Nat → Int) : Nat → (Nat → Int)
  | 0 => f
  | k + 1 => put1 (colTo f c p k) (k * 4 + c) (p k)
def soI (f p : Nat → Int) (c : Nat) : Int := sg1 (detI f) * detI (colTo f c p 4)
theorem bd16_colTo {f p : Nat → Int} (h : bd16 f) (hp : bd4 p) (c : Nat) : ∀ k, k ≤ 4 → bd16 (colTo f c p k)
  | 0, _ => h
  | k + 1, hk => bd16_put1 (bd16_colTo h hp c k (by omega)) _ (hp k (by omega))
def SoW (w W : World) (f r q : Nat → Int) : Prop :=
  New w W ∧ W.heap[w.heap.size]? = some (.cells (arr16 f) 107 (0, 0)) ∧ W.heap[w.heap.size + 1]? = some (.cells (arr4 r) 47 (0, 0)) ∧ W.heap[w.heap.size + 1 + 1]? = some (.cells (arr4 fun _ => 0) 47 (0, 0)) ∧ W.heap[w.heap.size + 1 + 1 + 1]? = some (.cells (arr4 q) 47 (0, 0))
theorem SoW.new {w W W' : World} {f r q : Nat → Int} (h : SoW w W f r q) (hn : New W W') : SoW w W' f r q := by
  have hk : ∀ k o, W.heap[k]? = some o → W'.heap[k]? = some o := fun k o h => (hn.below.block k (Array.getElem?_eq_some_iff.1 h).1).trans h
  exact ⟨h.1.trans hn, hk _ _ h.2.1, hk _ _ h.2.2.1, hk _ _ h.2.2.2.1, hk _ _ h.2.2.2.2⟩
theorem SoW.put {w W : World} {f r q : Nat → Int} {B : Nat} (hB : w.heap.size + 1 + 1 + 1 < B) (h : SoW w W f r q) (j : Nat) (x : Value) : SoW w (W.setCell ⟨B, j, none⟩ x) f r q :=
  ⟨h.1.setCell (by show w.heap.size ≤ B; omega) _, (heap_setCell_other _ _ _ _ _ (by omega)).trans h.2.1, (heap_setCell_other _ _ _ _ _ (by omega)).trans h.2.2.1, (heap_setCell_other _ _ _ _ _ (by omega)).trans h.2.2.2.1, (heap_setCell_other _ _ _ _ _ (by omega)).trans h.2.2.2.2⟩

set_option maxHeartbeats 16000000 in
theorem solve_c (f p : Nat → Int) (w : World) (hf : bd16 f) (hp : bd4 p) :
    Calls Try.prog 76 #[frV f, fourV p] w fun en w' => en = .returned (.tuple #[fourV (soI f p), .int .i64 (sg1 (detI f) * detI f)]) ∧ New w w' := by
  have HF := Lib.hid hf
  have HP := Lib.hid hp
  have HDT := Lib.hid (fun (w1 : World) => determinant_c f w1 hf)
  have HSG := Lib.hid (fun (w1 : World) => sign_c (detI f) w1)
  have HS1 := Lib.hid (show (if detI f < 0 then (-1 : Int) else 1) = sg1 (detI f) from rfl)
  rw [HS1.out] at HSG
  have hsb := sg1_bd (detI f)
  have HWE := Lib.hid (show ∀ i, soI f p i = sg1 (detI f) * detI (colTo f i p 4) from fun _ => rfl)
  have hdd := sgmul_bd hsb (detI_bd hf)
  clear hf hp HS1
  generalize sg1 (detI f) = S at *
  generalize detI f = D at *
  have HW0 := Lib.hid (alloc4_heap w (.cells (arr16 f) 107) (.cells (arr4 p) 47) (.cells (arr4 fun _ => 0) 47) (.cells (arr4 fun _ => 0) 47))
  go_enter Try.func76, Try.ntmps76
  go_wp2_with fail
  go_at_call 89
  refine (HDT.out _).mono ?_
  rintro e w1 ⟨rfl, hn1⟩
  have HWW1 := Lib.hid (show SoW w w1 f p (fun _ => 0) from SoW.new ⟨((((New.refl w).alloc _).alloc _).alloc _).alloc _, HW0.out.1, HW0.out.2.1, HW0.out.2.2.1, HW0.out.2.2.2⟩ hn1)
  clear hn1 HW0
  go_wp2_with fail
  go_at_call 70
  refine (HSG.out _).mono ?_
  rintro e w2 ⟨rfl, hn2⟩
  have HWW2 := Lib.hid (HWW1.out.new hn2)
  clear hn2
  go_wp2_with fail
  go_loopw [17] (fun i wr => ∃ (k : Nat) (q : Nat → Int), k ≤ 4 ∧ i = .int .i64 (k : Int) ∧ SoW w wr f p q ∧ ∀ j, j < k → q j = soI f p j) (fun i _ => 4 - (intOf i).toNat)
  case atStart => exact ⟨0, _, by omega, rfl, HWW2.out, fun j hj => by omega⟩
  case round =>
    obtain ⟨c, q, hk, rfl, hw, hq⟩ := hrel
    obtain ⟨U1, rfl⟩ : ∃ U1 : World, U1 = wr := ⟨_, rfl⟩
    have HWW := Lib.hid hw
    have HQ := Lib.hid hq
    obtain ⟨_, k0, k1, k2, k3⟩ := hw
    by_cases hlt : c < 4
    · have hbd := bd16_colTo HF.out HP.out c 4 (by omega)
      have hlt1 : (c : Int) < 4 := by omega
      have HDG := Lib.hid (fun (w1 : World) => determinant_c (colTo f c p 4) w1 hbd)
      have hdb := sgmul_bd hsb (detI_bd hbd)
      have hWk := HWE.out c
      have HWk := Lib.hid hWk
      have e0 := cell16 k0 0 (by omega)
      have e1 := cell16 k0 1 (by omega)
      have e2 := cell16 k0 2 (by omega)
      have e3 := cell16 k0 3 (by omega)
      have e4 := cell16 k0 4 (by omega)
      have e5 := cell16 k0 5 (by omega)
      have e6 := cell16 k0 6 (by omega)
      have e7 := cell16 k0 7 (by omega)
      have e8 := cell16 k0 8 (by omega)
      have e9 := cell16 k0 9 (by omega)
      have e10 := cell16 k0 10 (by omega)
      have e11 := cell16 k0 11 (by omega)
      have e12 := cell16 k0 12 (by omega)
      have e13 := cell16 k0 13 (by omega)
      have e14 := cell16 k0 14 (by omega)
      have e15 := cell16 k0 15 (by omega)
      have hwr : w.heap.size + 1 + 1 + 1 < U1.heap.size := (Array.getElem?_eq_some_iff.1 HWW.out.2.2.2.2).1
      clear hbd hq k0 k1 k2 k3 hWk
      go_upto_region 8 with fail
      obtain ⟨W7, hW7⟩ : ∃ W7, W7 = U1.alloc (.cells (arr16 f) 107) := ⟨_, rfl⟩
      have hN7 : New U1 W7 := by rw [hW7]; exact (New.refl _).alloc _
      have HW7 := Lib.hid (HWW.out.new hN7)
      have k7 : W7.heap[U1.heap.size]? = some (.cells (arr16 f) 107 (0, 0)) := by rw [hW7]; exact heap_alloc_new _ _
      have HK7 := Lib.hid k7
      unfold arr16 at hW7
      rw [← hW7]
      obtain ⟨_, _, k1, _, _⟩ := HW7.out
      have d0 := cell4 k1 0 (by omega)
      have d1 := cell4 k1 1 (by omega)
      have d2 := cell4 k1 2 (by omega)
      have d3 := cell4 k1 3 (by omega)
      clear hN7 hW7 k7 k1 e0 e1 e2 e3 e4 e5 e6 e7 e8 e9 e10 e11 e12 e13 e14 e15
      generalize hBB : U1.heap.size = B at *
      go_wp2_with fail
      clear d0 d1 d2 d3
      go_loopw [22] (fun i V => ∃ j : Nat, j ≤ 4 ∧ i = .int .i64 (j : Int) ∧ SoW w V f p q ∧ V.heap[B]? = some (.cells (arr16 (colTo f c p j)) 107 (0, 0))) (fun i _ => 4 - (intOf i).toNat)
      case atStart => exact ⟨0, Nat.zero_le _, rfl, HW7.out, HK7.out⟩
      case round =>
        obtain ⟨j, hj, rfl, hw, hz⟩ := hrel
        have HV := Lib.hid hw
        have HZ := Lib.hid hz
        have hB := hwr
        have b0 := frozen_heap hz
        have hVs := (Array.getElem?_eq_some_iff.1 hz).1
        by_cases hlj : j < 4
        · have a1 := cell16 hz (j * 4 + c) (by omega)
          have hx := index_four p j hlj
          have hlj1 : (j : Int) < 4 := by omega
          clear hw hz
          generalize colTo f c p j (j * 4 + c) = Z at *
          go_wp2_with fail
          go_roundw
          case rel => exact ⟨j + 1, by omega, by go_num, SoW.put hB HV.out _ _, heap_put1 HZ.out (j * 4 + c) (by omega) (p j)⟩
          case measure => simp [intOf]; omega
        · obtain rfl : j = 4 := by omega
          have hlj1 : ¬ ((4 : Nat) : Int) < 4 := by omega
          have g0 := cell16 hz 0 (by omega)
          have g1 := cell16 hz 1 (by omega)
          have g2 := cell16 hz 2 (by omega)
          have g3 := cell16 hz 3 (by omega)
          have g4 := cell16 hz 4 (by omega)
          have g5 := cell16 hz 5 (by omega)
          have g6 := cell16 hz 6 (by omega)
          have g7 := cell16 hz 7 (by omega)
          have g8 := cell16 hz 8 (by omega)
          have g9 := cell16 hz 9 (by omega)
          have g10 := cell16 hz 10 (by omega)
          have g11 := cell16 hz 11 (by omega)
          have g12 := cell16 hz 12 (by omega)
          have g13 := cell16 hz 13 (by omega)
          have g14 := cell16 hz 14 (by omega)
          have g15 := cell16 hz 15 (by omega)
          clear hw hz b0
          generalize hG : colTo f c p 4 = G at *
          generalize hDG : detI G = DG at *
          have hmul : IntKind.i64.wrap (S * DG) = S * DG := IntWalk.i64_in _ (by omega)
          have HDG2 := Lib.hid hDG
          clear hDG hdb hG
          go_wp2_with fail
          go_at_call 89
          refine (HDG.out _).mono ?_
          rintro e w9 ⟨rfl, hn9⟩
          have HW9 := Lib.hid (HV.out.new hn9)
          obtain ⟨_, _, _, _, k9⟩ := HW9.out
          have c9 := cell4 k9 c hlt
          have f9 := frozen_heap k9 c
          have HK9 := Lib.hid k9
          generalize q c = Q9 at *
          clear hn9 k9 g0 g1 g2 g3 g4 g5 g6 g7 g8 g9 g10 g11 g12 g13 g14 g15
          go_wp2_with fail
          go_roundw
          case rel =>
            obtain ⟨x1, x2, x3, x4, x5⟩ := HW9.out
            refine ⟨c + 1, put1 q c (S * DG), by omega, by go_num, ⟨x1.setCell (by show w.heap.size ≤ w.heap.size + 1 + 1 + 1; omega) _, (heap_setCell_other _ _ _ _ _ (by omega)).trans x2, (heap_setCell_other _ _ _ _ _ (by omega)).trans x3, (heap_setCell_other _ _ _ _ _ (by omega)).trans x4, heap_put4q HK9.out c hlt _⟩, ?_⟩
            intro j hj
            unfold put1
            by_cases e : j = c
            · rw [if_pos e, e, HWk.out]
            · rw [if_neg e]; exact HQ.out j (by omega)
          case measure => simp [intOf]; omega
    · obtain rfl : c = 4 := by omega
      have hlt1 : ¬ ((4 : Nat) : Int) < 4 := by omega
      have hq4 := arr4_ext hq
      rw [hq4] at k3
      have HN := Lib.hid HWW.out.1
      have HK2 := Lib.hid k2
      have e0 := cell4 k3 0 (by omega)
      have e1 := cell4 k3 1 (by omega)
      have e2 := cell4 k3 2 (by omega)
      have e3 := cell4 k3 3 (by omega)
      have d0 := cell4 k2 0 (by omega)
      have d1 := cell4 k2 1 (by omega)
      have d2 := cell4 k2 2 (by omega)
      have d3 := cell4 k2 3 (by omega)
      have f2 := frozen_heap k2
      clear hq k0 k1 k2 k3 hq4
      have hsd : IntKind.i64.wrap (S * D) = S * D := IntWalk.i64_in _ (by omega)
      go_wp2_with fail
      clear d0 d1 d2 d3 e0 e1 e2 e3 f2
      obtain ⟨WF, HWF⟩ : ∃ WF : World, Hid (WF = ((((U1.setCell ⟨w.heap.size + 1 + 1, 0, none⟩ (.int .i64 (soI f p 0))).setCell ⟨w.heap.size + 1 + 1, 1, none⟩ (.int .i64 (soI f p 1))).setCell ⟨w.heap.size + 1 + 1, 2, none⟩ (.int .i64 (soI f p 2))).setCell ⟨w.heap.size + 1 + 1, 3, none⟩ (.int .i64 (soI f p 3)))) := ⟨_, Lib.hid rfl⟩
      rw [← HWF.out]
      have q1 : WF.heap[w.heap.size + 1 + 1]? = some (.cells (arr4 (soI f p)) 47 (0, 0)) := by
        rw [HWF.out, heap_put4q (heap_put4q (heap_put4q (heap_put4q HK2.out 0 (by omega) _) 1 (by omega) _) 2 (by omega) _) 3 (by omega) _]
        refine congrArg some (congrArg (fun c => Obj.cells c 47 (0, 0)) ?_)
        simp [arr4, put1]
      have q2 : New w WF := by
        rw [HWF.out]
        exact (((HN.out.setCell (by show w.heap.size ≤ w.heap.size + 1 + 1; omega) _).setCell (by show w.heap.size ≤ w.heap.size + 1 + 1; omega) _).setCell (by show w.heap.size ≤ w.heap.size + 1 + 1; omega) _).setCell (by show w.heap.size ≤ w.heap.size + 1 + 1; omega) _
      have c0 := cell4 q1 0 (by omega)
      have c1 := cell4 q1 1 (by omega)
      have c2 := cell4 q1 2 (by omega)
      have c3 := cell4 q1 3 (by omega)
      exact bodyPost_ret (v := .tuple #[fourV (soI f p), .int .i64 (S * D)]) (by simp [results, Try.results76, go_sem, c0, c1, c2, c3]) rfl ⟨rfl, q2⟩

end Go.Proofs.Ytpjekinmcdglbaa
