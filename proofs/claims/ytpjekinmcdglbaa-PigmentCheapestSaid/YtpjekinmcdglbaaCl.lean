/- sums of the reference. -/
import Derived.Test.YtpjekinmcdglbaaCk
import Derived.BigQuiet
set_option linter.unusedSimpArgs false
set_option linter.unusedVariables false
set_option maxRecDepth 100000
namespace Go.Proofs.Ytpjekinmcdglbaa
open Go.RowKit

def ar3 (a b c : Int) : Array Value := #[.int .i64 a, .int .i64 b, .int .i64 c]
def SmW (w W : World) (rv : Value) (a b c : Int) : Prop :=
  New w W ∧ W.heap[w.heap.size]? = some (.cells #[rv] 25 (0, 0)) ∧ W.heap[w.heap.size + 1]? = some (.cells (ar3 0 0 0) 37 (0, 0)) ∧ W.heap[w.heap.size + 1 + 1]? = some (.cells (ar3 a b c) 37 (0, 0))
theorem SmW.keep {w W V : World} {rv : Value} {a b c : Int} (h : SmW w W rv a b c) (hn : New W V) : SmW w V rv a b c := by
  have hk : ∀ k o, W.heap[k]? = some o → V.heap[k]? = some o := fun k o h => (hn.below.block k (Array.getElem?_eq_some_iff.1 h).1).trans h
  exact ⟨h.1.trans hn, hk _ _ h.2.1, hk _ _ h.2.2.1, hk _ _ h.2.2.2⟩
theorem cell3 {W : World} {g : Nat} {a b c : Int} {t : TypeId} {fr : Nat × Nat} (h : W.heap[g]? = some (.cells (ar3 a b c) t fr)) : W.cell? ⟨g, 0, none⟩ = some (.int .i64 a) ∧ W.cell? ⟨g, 1, none⟩ = some (.int .i64 b) ∧ W.cell? ⟨g, 2, none⟩ = some (.int .i64 c) := by
  simp [World.cell?, h, ar3]
theorem SmW.put {w W : World} {rv : Value} {a b c a' b' c' : Int} {i : Nat} {x : Int} (h : SmW w W rv a b c) (hz : (W.setCell ⟨w.heap.size + 1 + 1, i, none⟩ (.int .i64 x)).heap[w.heap.size + 1 + 1]? = some (.cells (ar3 a' b' c') 37 (0, 0))) : SmW w (W.setCell ⟨w.heap.size + 1 + 1, i, none⟩ (.int .i64 x)) rv a' b' c' :=
  ⟨h.1.setCell (by show w.heap.size ≤ w.heap.size + 1 + 1; omega) _, (heap_setCell_other _ _ _ _ _ (by omega)).trans h.2.1, (heap_setCell_other _ _ _ _ _ (by omega)).trans h.2.2.1, hz⟩
theorem ar3_put0 {W : World} {g : Nat} {a b c : Int} {t : TypeId} (h : W.heap[g]? = some (.cells (ar3 a b c) t (0, 0))) (x : Int) : (W.setCell ⟨g, 0, none⟩ (.int .i64 x)).heap[g]? = some (.cells (ar3 x b c) t (0, 0)) := (heap_setCell_same _ _ 0 _ h).trans (by simp [ar3])
theorem ar3_put1 {W : World} {g : Nat} {a b c : Int} {t : TypeId} (h : W.heap[g]? = some (.cells (ar3 a b c) t (0, 0))) (x : Int) : (W.setCell ⟨g, 1, none⟩ (.int .i64 x)).heap[g]? = some (.cells (ar3 a x c) t (0, 0)) := (heap_setCell_same _ _ 1 _ h).trans (by simp [ar3])
theorem ar3_put2 {W : World} {g : Nat} {a b c : Int} {t : TypeId} (h : W.heap[g]? = some (.cells (ar3 a b c) t (0, 0))) (x : Int) : (W.setCell ⟨g, 2, none⟩ (.int .i64 x)).heap[g]? = some (.cells (ar3 a b x) t (0, 0)) := (heap_setCell_same _ _ 2 _ h).trans (by simp [ar3])

set_option maxHeartbeats 16000000 in
theorem ref_sums (b off m tc pb poff n pc : Nat) (T : List T5) (P : List (Int × Int)) (w : World) (hT : Tnts w b off m T) (hP : Prts w pb poff n P) (hok : prOk P n m) (htn : tnOk T) (hn : n ≤ 4) (hm : m ≤ 1000) :
    Calls Try.prog 33 #[.slice (some ⟨b, off, none⟩) m tc, .agg #[.slice (some ⟨pb, poff, none⟩) n pc]] w fun en w' =>
      en = .returned (.tuple #[.int .i64 (sumW P n), vv (sumT P (tA T) n) (sumT P (tB T) n) (sumT P (tC T) n), .int .i64 (sumT P (tP T) n)]) ∧ New w w' := by
  have HT := Lib.hid hT
  have HP := Lib.hid hP
  have HOK := Lib.hid hok
  have HTN := Lib.hid htn
  clear hT hP hok htn
  go_enter Try.func33, Try.ntmps33
  go_wp2_with fail
  go_loopw [7, 9, 10] (fun s7 s9 i wr => ∃ k : Nat, k ≤ n ∧ i = .int .i64 (k : Int) ∧ s7 = .int .i64 (sumW P k) ∧ s9 = .int .i64 (sumT P (tP T) k) ∧ SmW w wr (.slice (some ⟨pb, poff, none⟩) n pc) (sumT P (tA T) k) (sumT P (tB T) k) (sumT P (tC T) k)) (fun _ _ i _ => n - (intOf i).toNat)
  case atStart =>
    refine ⟨0, Nat.zero_le _, rfl, rfl, rfl, (((New.refl _).alloc _).alloc _).alloc _, ?_, ?_, ?_⟩
    · rw [Below.heap_alloc _ _ _ (by simp <;> omega), Below.heap_alloc _ _ _ (by simp <;> omega)]; exact heap_alloc_new _ _
    · rw [Below.heap_alloc _ _ _ (by simp <;> omega)]; exact alloc2_new rfl
    · have := heap_alloc_new ((w.alloc (.cells #[.slice (some ⟨pb, poff, none⟩) n pc] 25)).alloc (.cells (ar3 0 0 0) 37)) (.cells (ar3 0 0 0) 37)
      simp only [World.size_alloc] at this
      exact this
  case round =>
    obtain ⟨k, hk, rfl, rfl, rfl, hw⟩ := hrel
    obtain ⟨U1, rfl⟩ : ∃ U1 : World, U1 = wr := ⟨_, rfl⟩
    have HW := Lib.hid hw
    obtain ⟨hnw, k0, k1, k2⟩ := hw
    have cb := (box_cell k0).1
    have hw2 := (Array.getElem?_eq_some_iff.1 k2).1
    by_cases hlt : k < n
    · obtain ⟨p1, p2⟩ := (HP.out.new hnw).2.2 k hlt
      obtain ⟨w1, w2, w3⟩ := HOK.out k hlt
      have hwok : ∀ i, i < k → 1 ≤ pW P i ∧ pW P i ≤ 1000000000000 := fun i hi => (HOK.out i (by omega)).1
      obtain ⟨⟨⟨a1, a2⟩, b1, b2⟩, ⟨c1, c2⟩, q1, q2⟩ := HTN.out (pT P k).toNat
      have HTC := Lib.hid (fun (V : World) (hV : New w V) => (HT.out.new hV).2.2 (pT P k).toNat (by omega))
      have hb0 := HT.out.2.1
      have sA := sumT_bd (P := P) (f := tA T) (M := 1000) (by omega) (k := k) (fun i hi => ⟨hwok i hi, (HTN.out _).1.1.1, (HTN.out _).1.1.2⟩)
      have sB := sumT_bd (P := P) (f := tB T) (M := 1000) (by omega) (k := k) (fun i hi => ⟨hwok i hi, (HTN.out _).1.2.1, (HTN.out _).1.2.2⟩)
      have sC := sumT_bd (P := P) (f := tC T) (M := 1000) (by omega) (k := k) (fun i hi => ⟨hwok i hi, (HTN.out _).2.1.1, (HTN.out _).2.1.2⟩)
      have sP := sumT_bd (P := P) (f := tP T) (M := 10000) (by omega) (k := k) (fun i hi => ⟨hwok i hi, (HTN.out _).2.2.1, (HTN.out _).2.2.2⟩)
      have sW := sumW_bd (P := P) (k := k) hwok
      have hbp := (HP.out.new hnw).2.1
      have hbt := (HT.out.new hnw).2.1
      have HE1 := Lib.hid (show sumW P (k + 1) = sumW P k + pW P k from rfl)
      have HE2 := Lib.hid (show sumT P (tA T) (k + 1) = sumT P (tA T) k + pW P k * tA T (pT P k).toNat from rfl)
      have HE3 := Lib.hid (show sumT P (tB T) (k + 1) = sumT P (tB T) k + pW P k * tB T (pT P k).toNat from rfl)
      have HE4 := Lib.hid (show sumT P (tC T) (k + 1) = sumT P (tC T) k + pW P k * tC T (pT P k).toNat from rfl)
      have HE5 := Lib.hid (show sumT P (tP T) (k + 1) = sumT P (tP T) k + pW P k * tP T (pT P k).toNat from rfl)
      have htn : ((pT P k).toNat : Int) = pT P k := by omega
      generalize hU : (pT P k).toNat = U at *
      have hp1 : pT P k = (U : Int) := by omega
      rw [hp1] at p1
      have hUm : (U : Int) < (m : Int) := by omega
      generalize pW P k = X at *
      generalize sumW P k = S0 at *
      generalize sumT P (tA T) k = S1 at *
      generalize sumT P (tB T) k = S2 at *
      generalize sumT P (tC T) k = S3 at *
      generalize sumT P (tP T) k = S4 at *
      generalize tA T U = A at *
      generalize tB T U = B at *
      generalize tC T U = C at *
      generalize tP T U = D at *
      generalize tN T U = N at *
      have mA := Int.mul_le_mul w1.2 a2 a1 (by omega)
      have mB := Int.mul_le_mul w1.2 b2 b1 (by omega)
      have mC := Int.mul_le_mul w1.2 c2 c1 (by omega)
      have mD := Int.mul_le_mul w1.2 q2 q1 (by omega)
      have nA := Int.mul_nonneg (show 0 ≤ X by omega) a1
      have nB := Int.mul_nonneg (show 0 ≤ X by omega) b1
      have nC := Int.mul_nonneg (show 0 ≤ X by omega) c1
      have nD := Int.mul_nonneg (show 0 ≤ X by omega) q1
      clear hwok htn hp1 hU k0 k1 k2 hnw w2 w3
      have hk1 : (k : Int) < (n : Int) := by omega
      have r0 : IntKind.i64.wrap (S0 + X) = S0 + X := IntWalk.i64_in _ (by omega)
      obtain ⟨MA, hMA⟩ : ∃ M, M = X * A := ⟨_, rfl⟩
      obtain ⟨MB, hMB⟩ : ∃ M, M = X * B := ⟨_, rfl⟩
      obtain ⟨MC, hMC⟩ : ∃ M, M = X * C := ⟨_, rfl⟩
      obtain ⟨MD, hMD⟩ : ∃ M, M = X * D := ⟨_, rfl⟩
      rw [← hMA] at HE2 mA nA
      rw [← hMB] at HE3 mB nB
      rw [← hMC] at HE4 mC nC
      rw [← hMD] at HE5 mD nD
      have rD : IntKind.i64.wrap (X * D) = MD := by rw [← hMD]; exact IntWalk.i64_in _ (by omega)
      have rA : IntKind.i64.wrap (X * A) = MA := by rw [← hMA]; exact IntWalk.i64_in _ (by omega)
      have rB : IntKind.i64.wrap (X * B) = MB := by rw [← hMB]; exact IntWalk.i64_in _ (by omega)
      have rC : IntKind.i64.wrap (X * C) = MC := by rw [← hMC]; exact IntWalk.i64_in _ (by omega)
      have r4 : IntKind.i64.wrap (S4 + MD) = S4 + MD := IntWalk.i64_in _ (by omega)
      have r1 : IntKind.i64.wrap (S1 + MA) = S1 + MA := IntWalk.i64_in _ (by omega)
      have r2 : IntKind.i64.wrap (S2 + MB) = S2 + MB := IntWalk.i64_in _ (by omega)
      have r3 : IntKind.i64.wrap (S3 + MC) = S3 + MC := IntWalk.i64_in _ (by omega)
      clear mA mB mC mD nA nB nC nD hMA hMB hMC hMD sA sB sC sP sW w1 a1 a2 b1 b2 c1 c2 q1 q2
      go_upto_region 9 with fail
      obtain ⟨W6, hW6⟩ : ∃ W6, W6 = U1.alloc (.cells #[.int .i64 (U : Int), .int .i64 X] 64) := ⟨_, rfl⟩
      have hN6 : New U1 W6 := by rw [hW6]; exact (New.refl _).alloc _
      have z1 : W6.heap[U1.heap.size]? = some (.cells #[.int .i64 (U : Int), .int .i64 X] 64 (0, 0)) := by rw [hW6]; exact heap_alloc_new _ _
      rw [← hW6]
      have y0 : W6.cell? ⟨U1.heap.size, 0, none⟩ = some (.int .i64 (U : Int)) := by simp [World.cell?, z1]
      have y1 : W6.cell? ⟨U1.heap.size, 1, none⟩ = some (.int .i64 X) := by simp [World.cell?, z1]
      have t4 := (HTC.out W6 (HW.out.1.trans hN6)).2.2
      have hbt6 := Nat.lt_of_lt_of_le hbt hN6.size
      have HN6 := Lib.hid hN6
      have HZ1 := Lib.hid z1
      clear hW6 hN6 z1 cb
      go_quiet (fail)
      have HN7 := Lib.hid (HN6.out.trans (show New W6 (W6.drewN nq) from New.drewN (New.refl _) _))
      have HZ7 := Lib.hid (show (W6.drewN nq).heap[U1.heap.size]? = some (.cells #[.int .i64 (U : Int), .int .i64 X] 64 (0, 0)) from HZ1.out)
      clear y0 y1 t4 hbt6 HN6 HZ1
      generalize W6.drewN nq = W7 at *
      have HW7 := Lib.hid (HW.out.keep HN7.out)
      go_wp2_with fail
      go_loopw [12] (fun i V => ∃ j : Nat, j ≤ 3 ∧ i = .int .i64 (j : Int) ∧ SmW w V (.slice (some ⟨pb, poff, none⟩) n pc) (if 0 < j then S1 + MA else S1) (if 1 < j then S2 + MB else S2) (if 2 < j then S3 + MC else S3) ∧ V.heap[U1.heap.size]? = some (.cells #[.int .i64 (U : Int), .int .i64 X] 64 (0, 0)) ∧ New w V ∧ U1.heap.size < V.heap.size) (fun i _ => 3 - (intOf i).toNat)
      case atStart => exact ⟨0, Nat.zero_le _, rfl, HW7.out, HZ7.out, HW7.out.1, (Array.getElem?_eq_some_iff.1 HZ7.out).1⟩
      case round =>
        obtain ⟨j, hj, rfl, hw, hz, hnv, hlv⟩ := hrel
        have HV := Lib.hid hw
        have HZ := Lib.hid hz
        have HNV := Lib.hid hnv
        obtain ⟨⟨t0, t1, t2⟩, t3, t4⟩ := HTC.out _ hnv
        have hbv := Nat.lt_of_lt_of_le hb0 hnv.size
        have y0 : wr.cell? ⟨U1.heap.size, 0, none⟩ = some (.int .i64 (U : Int)) := by simp [World.cell?, hz]
        have y1 : wr.cell? ⟨U1.heap.size, 1, none⟩ = some (.int .i64 X) := by simp [World.cell?, hz]
        clear hz hnv
        have hjc : j = 0 ∨ j = 1 ∨ j = 2 ∨ j = 3 := by omega
        rcases hjc with rfl | rfl | rfl | rfl
        · have hs := hw.2.2.2
          obtain ⟨d0, d1, d2⟩ := cell3 hs
          have fr := frozen5 hs
          have HS := Lib.hid hs
          clear hs hw
          go_upto_region 13 with fail
          have HX := Lib.hid (HV.out.put (ar3_put0 HS.out (S1 + MA)))
          have HZX := Lib.hid (show (wr.setCell ⟨w.heap.size + 1 + 1, 0, none⟩ (.int .i64 (S1 + MA))).heap[U1.heap.size]? = some (.cells #[.int .i64 (U : Int), .int .i64 X] 64 (0, 0)) from (heap_setCell_other _ _ _ _ _ (by omega)).trans HZ.out)
          have HNX := Lib.hid (HNV.out.setCell (p := ⟨w.heap.size + 1 + 1, 0, none⟩) (by show w.heap.size ≤ w.heap.size + 1 + 1; omega) (.int .i64 (S1 + MA)))
          have hlx : U1.heap.size < (wr.setCell ⟨w.heap.size + 1 + 1, 0, none⟩ (.int .i64 (S1 + MA))).heap.size := (Array.getElem?_eq_some_iff.1 HZX.out).1
          go_region_law (fail)
          all_goals (go_wp2_with fail)
          all_goals exact ⟨⟨1, by omega, rfl, SmW.keep HX.out (New.drew (New.refl _)), HZX.out, New.drew HNX.out, hlx⟩, by simp [intOf]⟩
        · have hs := hw.2.2.2
          obtain ⟨d0, d1, d2⟩ := cell3 hs
          have fr := frozen5 hs
          have HS := Lib.hid hs
          clear hs hw
          go_upto_region 13 with fail
          have HX := Lib.hid (HV.out.put (ar3_put1 HS.out (S2 + MB)))
          have HZX := Lib.hid (show (wr.setCell ⟨w.heap.size + 1 + 1, 1, none⟩ (.int .i64 (S2 + MB))).heap[U1.heap.size]? = some (.cells #[.int .i64 (U : Int), .int .i64 X] 64 (0, 0)) from (heap_setCell_other _ _ _ _ _ (by omega)).trans HZ.out)
          have HNX := Lib.hid (HNV.out.setCell (p := ⟨w.heap.size + 1 + 1, 1, none⟩) (by show w.heap.size ≤ w.heap.size + 1 + 1; omega) (.int .i64 (S2 + MB)))
          have hlx : U1.heap.size < (wr.setCell ⟨w.heap.size + 1 + 1, 1, none⟩ (.int .i64 (S2 + MB))).heap.size := (Array.getElem?_eq_some_iff.1 HZX.out).1
          go_region_law (fail)
          all_goals (go_wp2_with fail)
          all_goals exact ⟨⟨2, by omega, rfl, SmW.keep HX.out (New.drew (New.refl _)), HZX.out, New.drew HNX.out, hlx⟩, by simp [intOf]⟩
        · have hs := hw.2.2.2
          obtain ⟨d0, d1, d2⟩ := cell3 hs
          have fr := frozen5 hs
          have HS := Lib.hid hs
          clear hs hw
          go_upto_region 13 with fail
          have HX := Lib.hid (HV.out.put (ar3_put2 HS.out (S3 + MC)))
          have HZX := Lib.hid (show (wr.setCell ⟨w.heap.size + 1 + 1, 2, none⟩ (.int .i64 (S3 + MC))).heap[U1.heap.size]? = some (.cells #[.int .i64 (U : Int), .int .i64 X] 64 (0, 0)) from (heap_setCell_other _ _ _ _ _ (by omega)).trans HZ.out)
          have HNX := Lib.hid (HNV.out.setCell (p := ⟨w.heap.size + 1 + 1, 2, none⟩) (by show w.heap.size ≤ w.heap.size + 1 + 1; omega) (.int .i64 (S3 + MC)))
          have hlx : U1.heap.size < (wr.setCell ⟨w.heap.size + 1 + 1, 2, none⟩ (.int .i64 (S3 + MC))).heap.size := (Array.getElem?_eq_some_iff.1 HZX.out).1
          go_region_law (fail)
          all_goals (go_wp2_with fail)
          all_goals exact ⟨⟨3, by omega, rfl, SmW.keep HX.out (New.drew (New.refl _)), HZX.out, New.drew HNX.out, hlx⟩, by simp [intOf]⟩
        · go_wp2_with fail
          go_roundw
          case rel => exact ⟨k + 1, by omega, by go_num, by rw [HE1.out], by rw [HE5.out], by rw [HE2.out, HE3.out, HE4.out]; exact HV.out⟩
          case measure => simp [intOf]; omega
    · obtain rfl : k = n := by omega
      have hk1 : ¬ (k : Int) < (k : Int) := by omega
      obtain ⟨d0, d1, d2⟩ := cell3 k2
      obtain ⟨e0, e1, e2⟩ := cell3 k1
      have fr := frozen5 k1
      have HN9 := Lib.hid hnw
      clear k0 k1 k2 hnw
      go_upto_region 14 with fail
      go_region_law (fail)
      have HNF := Lib.hid (fun (x : Value) (i : Nat) (V : World) (h : New w V) => h.setCell (p := ⟨w.heap.size + 1, i, none⟩) (by show w.heap.size ≤ w.heap.size + 1; omega) x)
      have HNG := Lib.hid (HNF.out (.int .i64 (sumT P (tC T) k)) 2 _ (HNF.out (.int .i64 (sumT P (tB T) k)) 1 _ (HNF.out (.int .i64 (sumT P (tA T) k)) 0 _ HN9.out)))
      go_wp2_with fail
      exact bodyPost_ret (v := .tuple #[.int .i64 (sumW P k), vv (sumT P (tA T) k) (sumT P (tB T) k) (sumT P (tC T) k), .int .i64 (sumT P (tP T) k)]) (by simp [results, Try.results33, go_sem, e0, e1, e2]) rfl ⟨rfl, New.drew HNG.out⟩

end Go.Proofs.Ytpjekinmcdglbaa
