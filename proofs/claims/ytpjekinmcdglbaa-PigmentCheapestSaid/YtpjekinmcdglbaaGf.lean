/- The sums of a valid recipe: sumsOf. Tints with shades from 0 to 1000 and prices from 0 to 10000, one to four parts with weights from 1 to 1000000000000. -/
import Derived.Test.YtpjekinmcdglbaaCt
import Derived.Test.YtpjekinmcdglbaaOw
import Derived.Deep.RegionLaw
import Derived.Deep.DeepCutAuto
set_option linter.unusedSimpArgs false
set_option linter.unusedVariables false
set_option maxRecDepth 100000
namespace Go.Proofs.Ytpjekinmcdglbaa
open Go.RowKit

def arr5 (a b c d e : Int) : Array Value := #[.int .i64 a, .int .i64 b, .int .i64 c, .int .i64 d, .int .i64 e]
theorem cell5 {W : World} {g : Nat} {a b c d e : Int} {t : TypeId} {fr : Nat × Nat} (h : W.heap[g]? = some (.cells (arr5 a b c d e) t fr)) :
    (W.cell? ⟨g, 0, none⟩ = some (.int .i64 a) ∧ W.cell? ⟨g, 1, none⟩ = some (.int .i64 b) ∧ W.cell? ⟨g, 2, none⟩ = some (.int .i64 c)) ∧ W.cell? ⟨g, 3, none⟩ = some (.int .i64 d) ∧ W.cell? ⟨g, 4, none⟩ = some (.int .i64 e) := by
  refine ⟨⟨?_, ?_, ?_⟩, ?_, ?_⟩ <;> simp [World.cell?, h, arr5]
theorem frozen5 {W : World} {b : Nat} {cs : Array Value} {t : TypeId} (h : W.heap[b]? = some (.cells cs t (0, 0))) (o : Nat) : W.frozen? ⟨b, o, none⟩ = false := by simp [World.frozen?, h]
theorem put5 {W : World} {g : Nat} {a b c d e : Int} {t : TypeId} (h : W.heap[g]? = some (.cells (arr5 a b c d e) t (0, 0))) (x : Int) :
    (W.setCell ⟨g, 0, none⟩ (.int .i64 x)).heap[g]? = some (.cells (arr5 x b c d e) t (0, 0)) ∧ (W.setCell ⟨g, 4, none⟩ (.int .i64 x)).heap[g]? = some (.cells (arr5 a b c d x) t (0, 0)) := by
  constructor <;> (rw [heap_setCell_same _ _ _ _ h]; simp [arr5])
theorem put5v {W : World} {g : Nat} {a b c d e : Int} {t : TypeId} (h : W.heap[g]? = some (.cells (arr5 a b c d e) t (0, 0))) (x y z : Int) :
    (((W.setCell ⟨g, 1, none⟩ (.int .i64 x)).setCell ⟨g, 2, none⟩ (.int .i64 y)).setCell ⟨g, 3, none⟩ (.int .i64 z)).heap[g]? = some (.cells (arr5 a x y z e) t (0, 0)) := by
  rw [heap_setCell_same _ _ 3 _ (heap_setCell_same _ _ 2 _ (heap_setCell_same _ _ 1 _ h))]; simp [arr5]

/-- the parts name tints and have weights -/
def prOk (P : List (Int × Int)) (n m : Nat) : Prop := ∀ i, i < n → (1 ≤ pW P i ∧ pW P i ≤ 1000000000000) ∧ 0 ≤ pT P i ∧ pT P i < m
def tnOk (T : List T5) : Prop := ∀ p, ((0 ≤ tA T p ∧ tA T p ≤ 1000) ∧ (0 ≤ tB T p ∧ tB T p ≤ 1000)) ∧ (0 ≤ tC T p ∧ tC T p ≤ 1000) ∧ 0 ≤ tP T p ∧ tP T p ≤ 10000
/-- the world in the midst of sumsOf -/
def SuW (w W : World) (rv : Value) (a b c d e : Int) : Prop :=
  New w W ∧ W.heap[w.heap.size + 1]? = some (.cells (arr5 0 0 0 0 0) 68 (0, 0)) ∧ W.heap[w.heap.size + 1 + 1]? = some (.cells (arr5 a b c d e) 68 (0, 0))

/-- behind the sum of the shades -/
def SuY (w : World) (B : Nat) (U X A B' C D : Int) (N : ByteArray) (a b c d e : Int) (s34 : Value) (W : World) : Prop :=
  SuW w W (.slice none 0 0) a b c d e ∧ W.heap[B]? = some (.cells #[.int .i64 U, .int .i64 X] 64 (0, 0)) ∧ W.heap[B + 1]? = some (.cells #[.string N, .int .i64 A, .int .i64 B', .int .i64 C, .int .i64 D] 59 (0, 0))

set_option maxHeartbeats 16000000 in
theorem sumsOf_c (b off m tc pb poff n pc : Nat) (T : List T5) (P : List (Int × Int)) (w : World) (hT : Tnts w b off m T) (hP : Prts w pb poff n P) (hok : prOk P n m) (htn : tnOk T) (hn : n ≤ 4) (hm : m ≤ 1000) :
    Calls Try.prog 29 #[.slice (some ⟨b, off, none⟩) m tc, .agg #[.slice (some ⟨pb, poff, none⟩) n pc]] w fun en w' =>
      en = .returned (.agg #[.int .i64 (sumW P n), .int .i64 (sumT P (tA T) n), .int .i64 (sumT P (tB T) n), .int .i64 (sumT P (tC T) n), .int .i64 (sumT P (tP T) n)]) ∧ New w w' := by
  have HT := Lib.hid hT
  have HP := Lib.hid hP
  have HOK := Lib.hid hok
  have HTN := Lib.hid htn
  clear hT hP hok htn
  go_enter Try.func29, Try.ntmps29
  go_wp2_with fail
  go_loopw [12] (fun i wr => ∃ k : Nat, k ≤ n ∧ i = .int .i64 (k : Int) ∧ SuW w wr (.slice (some ⟨pb, poff, none⟩) n pc) (sumW P k) (sumT P (tA T) k) (sumT P (tB T) k) (sumT P (tC T) k) (sumT P (tP T) k)) (fun i _ => n - (intOf i).toNat)
  case atStart =>
    have hz := World.alloc_heap_new
    refine ⟨0, Nat.zero_le _, rfl, (((New.refl _).alloc _).alloc _).alloc _, ?_, ?_⟩
    · rw [Below.heap_alloc _ _ _ (by simp <;> omega)]; exact alloc2_new rfl
    · have := World.alloc_heap_new ((w.alloc (.cells #[.slice (some ⟨pb, poff, none⟩) n pc] 25)).alloc (.cells (arr5 0 0 0 0 0) 68)) (.cells (arr5 0 0 0 0 0) 68)
      simp only [World.size_alloc] at this
      exact this
  case round =>
    obtain ⟨k, hk, rfl, hw⟩ := hrel
    have HW := Lib.hid hw
    obtain ⟨hnw, k1, k2⟩ := hw
    by_cases hlt : k < n
    · obtain ⟨p1, p2⟩ := (HP.out.new hnw).2.2 k hlt
      obtain ⟨w1, w2, w3⟩ := HOK.out k hlt
      have hwok : ∀ i, i < k → 1 ≤ pW P i ∧ pW P i ≤ 1000000000000 := fun i hi => (HOK.out i (by omega)).1
      obtain ⟨⟨⟨a1, a2⟩, b1, b2⟩, ⟨c1, c2⟩, q1, q2⟩ := HTN.out (pT P k).toNat
      obtain ⟨⟨t0, t1, t2⟩, t3, t4⟩ := (HT.out.new hnw).2.2 (pT P k).toNat (by omega)
      have sA := sumT_bd (P := P) (f := tA T) (M := 1000) (by omega) (k := k) (fun i hi => ⟨hwok i hi, (HTN.out _).1.1.1, (HTN.out _).1.1.2⟩)
      have sB := sumT_bd (P := P) (f := tB T) (M := 1000) (by omega) (k := k) (fun i hi => ⟨hwok i hi, (HTN.out _).1.2.1, (HTN.out _).1.2.2⟩)
      have sC := sumT_bd (P := P) (f := tC T) (M := 1000) (by omega) (k := k) (fun i hi => ⟨hwok i hi, (HTN.out _).2.1.1, (HTN.out _).2.1.2⟩)
      have sP := sumT_bd (P := P) (f := tP T) (M := 10000) (by omega) (k := k) (fun i hi => ⟨hwok i hi, (HTN.out _).2.2.1, (HTN.out _).2.2.2⟩)
      have sW := sumW_bd (P := P) (k := k) hwok
      have hbp := (HP.out.new hnw).2.1
      have hbt := (HT.out.new hnw).2.1
      have HE1 := Lib.hid (show sumW P (k + 1) = sumW P k + pW P k from rfl)
      have HE2 := Lib.hid (show sumT P (tA T) (k + 1) = sumT P (tA T) k + pW P k * tA T (pT P k).toNat from rfl)
      have HE3 := Lib.hid (show sumT P (tB T) (k + 1) = sumT P (tB T) k + pW P k * tB T (pT P k).toNat from rfl)
      have HE4 := Lib.hid (show sumT P (tC T) (k + 1) = sumT P (tC T) k + pW P k * tC T (pT P k).toNat from rfl)
      have HE5 := Lib.hid (show sumT P (tP T) (k + 1) = sumT P (tP T) k + pW P k * tP T (pT P k).toNat from rfl)
      have htn : ((pT P k).toNat : Int) = pT P k := by omega
      generalize hU : (pT P k).toNat = U at *
      have hp1 : pT P k = (U : Int) := by omega
      rw [hp1] at p1
      have hUm : (U : Int) < (m : Int) := by omega
      generalize pW P k = X at *
      generalize sumW P k = S0 at *
      generalize sumT P (tA T) k = S1 at *
      generalize sumT P (tB T) k = S2 at *
      generalize sumT P (tC T) k = S3 at *
      generalize sumT P (tP T) k = S4 at *
      generalize tA T U = A at *
      generalize tB T U = B at *
      generalize tC T U = C at *
      generalize tP T U = D at *
      generalize tN T U = N at *
      have mA := Int.mul_le_mul w1.2 a2 a1 (by omega)
      have mB := Int.mul_le_mul w1.2 b2 b1 (by omega)
      have mC := Int.mul_le_mul w1.2 c2 c1 (by omega)
      have mD := Int.mul_le_mul w1.2 q2 q1 (by omega)
      have nA := Int.mul_nonneg (show 0 ≤ X by omega) a1
      have nB := Int.mul_nonneg (show 0 ≤ X by omega) b1
      have nC := Int.mul_nonneg (show 0 ≤ X by omega) c1
      have nD := Int.mul_nonneg (show 0 ≤ X by omega) q1
      have HK1 := Lib.hid k1
      have HK2 := Lib.hid k2
      clear hwok htn hp1 hU k1 k2 hnw w2 w3
      go_upto_region 6 with fail
      obtain ⟨W6, hW6⟩ : ∃ W6, W6 = (wr.alloc (.cells #[.int .i64 (U : Int), .int .i64 X] 64)).alloc (.cells #[.string N, .int .i64 A, .int .i64 B, .int .i64 C, .int .i64 D] 59) := ⟨_, rfl⟩
      have hN6 : New wr W6 := by rw [hW6]; exact ((New.refl _).alloc _).alloc _
      have z1 : W6.heap[wr.heap.size]? = some (.cells #[.int .i64 (U : Int), .int .i64 X] 64 (0, 0)) := by rw [hW6, Below.heap_alloc _ _ _ (by simp)]; exact World.alloc_heap_new _ _
      have z2 : W6.heap[wr.heap.size + 1]? = some (.cells #[.string N, .int .i64 A, .int .i64 B, .int .i64 C, .int .i64 D] 59 (0, 0)) := by rw [hW6]; exact alloc2_new rfl
      have z3 : W6.heap[w.heap.size + 1 + 1]? = some (.cells (arr5 S0 S1 S2 S3 S4) 68 (0, 0)) := (hN6.below.block _ (Array.getElem?_eq_some_iff.1 HK2.out).1).trans HK2.out
      have z4 : W6.heap[w.heap.size + 1]? = some (.cells (arr5 0 0 0 0 0) 68 (0, 0)) := (hN6.below.block _ (Array.getElem?_eq_some_iff.1 HK1.out).1).trans HK1.out
      have HZ := Lib.hid (And.intro z1 (And.intro z2 (And.intro z3 z4)))
      have HN6 := Lib.hid (HW.out.1.trans hN6)
      have hsz : w.heap.size + 1 + 1 < wr.heap.size := (Array.getElem?_eq_some_iff.1 HK2.out).1
      rw [← hW6]
      obtain ⟨⟨d0, d1, d2⟩, d3, d4⟩ := cell5 z3
      have f0 := frozen5 z3
      have y0 : W6.cell? ⟨wr.heap.size, 0, none⟩ = some (.int .i64 (U : Int)) := by simp [World.cell?, z1]
      have y1 : W6.cell? ⟨wr.heap.size, 1, none⟩ = some (.int .i64 X) := by simp [World.cell?, z1]
      have r0 : IntKind.i64.wrap (S0 + X) = S0 + X := IntWalk.i64_in _ (by omega)
      obtain ⟨MA, hMA⟩ : ∃ M, M = X * A := ⟨_, rfl⟩
      obtain ⟨MB, hMB⟩ : ∃ M, M = X * B := ⟨_, rfl⟩
      obtain ⟨MC, hMC⟩ : ∃ M, M = X * C := ⟨_, rfl⟩
      obtain ⟨MD, hMD⟩ : ∃ M, M = X * D := ⟨_, rfl⟩
      have HTM := Lib.hid (fun w1 : World => times_c A B C X w1 (by omega) (by omega) (by omega))
      rw [← hMA, ← hMB, ← hMC] at HTM
      rw [← hMA] at HE2 mA nA
      rw [← hMB] at HE3 mB nB
      rw [← hMC] at HE4 mC nC
      rw [← hMD] at HE5 mD nD
      have HPL := Lib.hid (fun w1 : World => plus_c S1 S2 S3 MA MB MC w1 (by omega) (by omega) (by omega))
      have r4 : IntKind.i64.wrap (S4 + MD) = S4 + MD := IntWalk.i64_in _ (by omega)
      have r5 : IntKind.i64.wrap (D * X) = MD := by rw [Int.mul_comm, ← hMD]; exact IntWalk.i64_in _ (by omega)
      clear hW6 hN6 z1 z2 z3 z4 mA mB mC mD nA nB nC nD hMA hMB hMC hMD sA sB sC sP sW p1 p2 t0 t1 t2 t3 t4 w1 a1 a2 b1 b2 c1 c2 q1 q2
      go_wp2_with fail
      clear d0 d1 d2 d3 d4 f0 y0 y1
      obtain ⟨W7, hW7⟩ : ∃ W7, W7 = W6.setCell ⟨w.heap.size + 1 + 1, 0, none⟩ (.int .i64 (S0 + X)) := ⟨_, rfl⟩
      have z1 : W7.heap[wr.heap.size]? = some (.cells #[.int .i64 (U : Int), .int .i64 X] 64 (0, 0)) := by rw [hW7]; exact (heap_setCell_other _ _ _ _ _ (by omega)).trans HZ.out.1
      have z2 : W7.heap[wr.heap.size + 1]? = some (.cells #[.string N, .int .i64 A, .int .i64 B, .int .i64 C, .int .i64 D] 59 (0, 0)) := by rw [hW7]; exact (heap_setCell_other _ _ _ _ _ (by omega)).trans HZ.out.2.1
      have z3 : W7.heap[w.heap.size + 1 + 1]? = some (.cells (arr5 (S0 + X) S1 S2 S3 S4) 68 (0, 0)) := by rw [hW7]; exact (put5 HZ.out.2.2.1 _).1
      have z4 : W7.heap[w.heap.size + 1]? = some (.cells (arr5 0 0 0 0 0) 68 (0, 0)) := by rw [hW7]; exact (heap_setCell_other _ _ _ _ _ (by omega)).trans HZ.out.2.2.2
      have HN7 := Lib.hid (show New w W7 by rw [hW7]; exact HN6.out.setCell (by show w.heap.size ≤ w.heap.size + 1 + 1; omega) _)
      rw [← hW7]
      have HSY := Lib.hid (show ∀ W9 s34, New W7 W9 → SuY w wr.heap.size U X A B C D N (S0 + X) (S1 + MA) (S2 + MB) (S3 + MC) S4 s34 (((W9.setCell ⟨w.heap.size + 1 + 1, 1, none⟩ (.int .i64 (S1 + MA))).setCell ⟨w.heap.size + 1 + 1, 2, none⟩ (.int .i64 (S2 + MB))).setCell ⟨w.heap.size + 1 + 1, 3, none⟩ (.int .i64 (S3 + MC))) from fun W9 s34 h9 => by
        have hk : ∀ k o, W7.heap[k]? = some o → W9.heap[k]? = some o := fun k o h => (h9.below.block k (Array.getElem?_eq_some_iff.1 h).1).trans h
        have ho : ∀ k o, k ≠ w.heap.size + 1 + 1 → W7.heap[k]? = some o → (((W9.setCell ⟨w.heap.size + 1 + 1, 1, none⟩ (.int .i64 (S1 + MA))).setCell ⟨w.heap.size + 1 + 1, 2, none⟩ (.int .i64 (S2 + MB))).setCell ⟨w.heap.size + 1 + 1, 3, none⟩ (.int .i64 (S3 + MC))).heap[k]? = some o := fun k o hne h => by
          rw [heap_setCell_other _ _ _ _ _ hne, heap_setCell_other _ _ _ _ _ hne, heap_setCell_other _ _ _ _ _ hne]; exact hk k o h
        exact ⟨⟨(((HN7.out.trans h9).setCell (by show w.heap.size ≤ w.heap.size + 1 + 1; omega) _).setCell (by show w.heap.size ≤ w.heap.size + 1 + 1; omega) _).setCell (by show w.heap.size ≤ w.heap.size + 1 + 1; omega) _, ho _ _ (by omega) z4, put5v (hk _ _ z3) _ _ _⟩, ho _ _ (by omega) z1, ho _ _ (by omega) z2⟩)
      obtain ⟨⟨d0, d1, d2⟩, d3, d4⟩ := cell5 z3
      have f0 := frozen5 z3
      have y1 : W7.cell? ⟨wr.heap.size, 1, none⟩ = some (.int .i64 X) := by simp [World.cell?, z1]
      have v1 : W7.cell? ⟨wr.heap.size + 1, 1, none⟩ = some (.int .i64 A) := by simp [World.cell?, z2]
      have v2 : W7.cell? ⟨wr.heap.size + 1, 2, none⟩ = some (.int .i64 B) := by simp [World.cell?, z2]
      have v3 : W7.cell? ⟨wr.heap.size + 1, 3, none⟩ = some (.int .i64 C) := by simp [World.cell?, z2]
      have u1 : w.heap.size + 1 + 1 < W7.heap.size := (Array.getElem?_eq_some_iff.1 z3).1
      have u2 : wr.heap.size + 1 < W7.heap.size := (Array.getElem?_eq_some_iff.1 z2).1
      have u3 : wr.heap.size < W7.heap.size := by omega
      have u4 : w.heap.size + 1 + 1 < W7.drew.heap.size := u1
      have u5 : wr.heap.size + 1 < W7.drew.heap.size := u2
      have u6 : wr.heap.size < W7.drew.heap.size := u3
      have g1 : ∀ d os o, (Aft W7.drew d os).cell? ⟨w.heap.size + 1 + 1, o, none⟩ = W7.cell? ⟨w.heap.size + 1 + 1, o, none⟩ := fun d os o => aft_cell W7.drew d os _ o u4
      have g2 : ∀ d os o, (Aft W7.drew d os).frozen? ⟨w.heap.size + 1 + 1, o, none⟩ = W7.frozen? ⟨w.heap.size + 1 + 1, o, none⟩ := fun d os o => aft_frozen W7.drew d os _ o u4
      clear z1 z2 z3 z4 hW7
      go_cut [34] (fun s34 wz => SuY w wr.heap.size U X A B C D N (S0 + X) (S1 + MA) (S2 + MB) (S3 + MC) S4 s34 wz)
      case first =>
        go_region_law (first | (go_simp; go_at_call 55; refine (HTM.out _).mono ?_; rintro e w1 ⟨rfl, pw, rfl⟩) | (go_simp; go_at_call 54; refine (HPL.out _).mono ?_; rintro e w1 ⟨rfl, pw, rfl⟩))
        all_goals (go_wp2_with fail; go_meet)
        all_goals first
          | exact HSY.out _ _ (by (repeat (first | exact New.refl _ | apply New.alloc | apply New.aft | apply New.drew | refine New.setCell ?_ ?_ _)); all_goals (first | done | (simp [size_aft]; done) | (simp [size_aft]; omega)))
      case rest =>
        obtain ⟨W9, rfl⟩ : ∃ W9 : World, W9 = wc := ⟨_, rfl⟩
        have HC := Lib.hid hcut
        obtain ⟨⟨n1, n2, n3⟩, n4, n5⟩ := hcut
        obtain ⟨⟨d0, d1, d2⟩, d3, d4⟩ := cell5 n3
        have f0 := frozen5 n3
        have y1 : W9.cell? ⟨wr.heap.size, 1, none⟩ = some (.int .i64 X) := by simp [World.cell?, n4]
        have v4 : W9.cell? ⟨wr.heap.size + 1, 4, none⟩ = some (.int .i64 D) := by simp [World.cell?, n5]
        clear n1 n2 n3 n4 n5
        go_wp2_with fail
        go_roundw
        case rel =>
          obtain ⟨⟨n1, n2, n3⟩, n4, n5⟩ := HC.out
          refine ⟨k + 1, by omega, by go_num, ?_⟩
          rw [HE1.out, HE2.out, HE3.out, HE4.out, HE5.out]
          exact ⟨n1.setCell (by show w.heap.size ≤ w.heap.size + 1 + 1; omega) _, (heap_setCell_other _ _ _ _ _ (by omega)).trans n2, (put5 n3 _).2⟩
        case measure => simp [intOf]; omega
    · obtain rfl : k = n := by omega
      obtain ⟨⟨d0, d1, d2⟩, d3, d4⟩ := cell5 k2
      obtain ⟨⟨e0, e1, e2⟩, e3, e4⟩ := cell5 k1
      have f1 := frozen5 k1
      have HK1 := Lib.hid k1
      have HN := Lib.hid hnw
      clear k1 k2 hnw
      go_wp2_with fail
      clear d0 d1 d2 d3 d4 e0 e1 e2 e3 e4 f1
      have hsz := (Array.getElem?_eq_some_iff.1 HK1.out).1
      obtain ⟨WF, hWF⟩ : ∃ WF, WF = (((((wr.setCell ⟨w.heap.size + 1, 0, none⟩ (.int .i64 (sumW P k))).setCell ⟨w.heap.size + 1, 1, none⟩ (.int .i64 (sumT P (tA T) k))).setCell ⟨w.heap.size + 1, 2, none⟩ (.int .i64 (sumT P (tB T) k))).setCell ⟨w.heap.size + 1, 3, none⟩ (.int .i64 (sumT P (tC T) k))).setCell ⟨w.heap.size + 1, 4, none⟩ (.int .i64 (sumT P (tP T) k))) := ⟨_, rfl⟩
      rw [← hWF]
      have z1 : WF.heap[w.heap.size + 1]? = some (.cells (arr5 (sumW P k) (sumT P (tA T) k) (sumT P (tB T) k) (sumT P (tC T) k) (sumT P (tP T) k)) 68 (0, 0)) := by
        rw [hWF]; exact (put5 (put5v (put5 HK1.out _).1 _ _ _) _).2
      have z4 : New w WF := by
        rw [hWF]
        exact ((((HN.out.setCell (by show w.heap.size ≤ w.heap.size + 1; omega) _).setCell (by show w.heap.size ≤ w.heap.size + 1; omega) _).setCell (by show w.heap.size ≤ w.heap.size + 1; omega) _).setCell (by show w.heap.size ≤ w.heap.size + 1; omega) _).setCell (by show w.heap.size ≤ w.heap.size + 1; omega) _
      obtain ⟨⟨d0, d1, d2⟩, d3, d4⟩ := cell5 z1
      exact bodyPost_ret (v := .agg #[.int .i64 (sumW P k), .int .i64 (sumT P (tA T) k), .int .i64 (sumT P (tB T) k), .int .i64 (sumT P (tC T) k), .int .i64 (sumT P (tP T) k)]) (by simp [results, Try.results29, go_sem, d0, d1, d2, d3, d4]) rfl ⟨rfl, z4⟩

end Go.Proofs.Ytpjekinmcdglbaa
