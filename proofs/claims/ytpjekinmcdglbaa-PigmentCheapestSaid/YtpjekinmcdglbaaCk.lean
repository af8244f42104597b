/- Mix of the program. -/
import Derived.Test.YtpjekinmcdglbaaCj
import Derived.Deep.RegionLaw
set_option linter.unusedSimpArgs false
set_option linter.unusedVariables false
set_option maxRecDepth 100000
namespace Go.Proofs.Ytpjekinmcdglbaa
open Go.RowKit

/-- six numbers, of which the first pairs are set -/
def six (a b c d e f : Int) (k : Nat) : Array Value := #[.int .i64 (if 0 < k then a else 0), .int .i64 (if 0 < k then b else 0), .int .i64 (if 1 < k then c else 0), .int .i64 (if 1 < k then d else 0), .int .i64 (if 2 < k then e else 0), .int .i64 (if 2 < k then f else 0)]
def arr6 (a b c d e f : Int) : Array Value := #[.int .i64 a, .int .i64 b, .int .i64 c, .int .i64 d, .int .i64 e, .int .i64 f]
def mixQ (T : List T5) (P : List (Int × Int)) (m n : Nat) (f : Nat → Int) : Int := if rcpE T P m = 0 then lowA (sumT P f n) (sumW P n) else 0
def mixR (T : List T5) (P : List (Int × Int)) (m n : Nat) (f : Nat → Int) : Int := if rcpE T P m = 0 then lowB (sumT P f n) (sumW P n) else 0
def mixV (T : List T5) (P : List (Int × Int)) (m n : Nat) : Value := .agg (arr6 (mixQ T P m n (tA T)) (mixR T P m n (tA T)) (mixQ T P m n (tB T)) (mixR T P m n (tB T)) (mixQ T P m n (tC T)) (mixR T P m n (tC T)))
/-- what Mix asks of its sums and fractions -/
def MixN (T : List T5) (P : List (Int × Int)) (m n : Nat) : Prop := rcpE T P m = 0 → (0 < sumW P n ∧ sumW P n ≤ 4000000000000000000) ∧ ∀ f, (f = tA T ∨ f = tB T ∨ f = tC T ∨ f = tP T) → 0 ≤ sumT P f n ∧ sumT P f n ≤ 4000000000000000000
theorem mixN_of {T : List T5} {P : List (Int × Int)} {m n : Nat} (hl : T.length = m) (hP : P.length = n) : MixN T P m n := by
  intro h
  obtain ⟨⟨a1, a2⟩, a3, ⟨a4, a5⟩, a6⟩ := rcpE_zero hl hP h
  have hwok : ∀ i, i < n → 1 ≤ pW P i ∧ pW P i ≤ 1000000000000 := fun i hi => (a6 i hi).1
  have sW := sumW_bd (P := P) (k := n) hwok
  have sW1 := sumW_pos a6 (by omega)
  refine ⟨by omega, fun f hf => ?_⟩
  have := sumT_bd (P := P) (f := f) (M := 10000) (by omega) (k := n) (fun i hi => ⟨hwok i hi, by
    have := a3 (pT P i).toNat
    rcases hf with rfl | rfl | rfl | rfl <;> omega⟩)
  omega

theorem six_put0 {W : World} {g : Nat} {a b c d e f : Int} {t : TypeId} (h : W.heap[g]? = some (.cells (six a b c d e f 0) t (0, 0))) : ((W.setCell ⟨g, 0, none⟩ (.int .i64 a)).setCell ⟨g, 1, none⟩ (.int .i64 b)).heap[g]? = some (.cells (six a b c d e f 1) t (0, 0)) :=
  (heap_setCell_same _ _ 1 _ (heap_setCell_same _ _ 0 _ h)).trans (by simp [six])
theorem six_put1 {W : World} {g : Nat} {a b c d e f : Int} {t : TypeId} (h : W.heap[g]? = some (.cells (six a b c d e f 1) t (0, 0))) : ((W.setCell ⟨g, 2, none⟩ (.int .i64 c)).setCell ⟨g, 3, none⟩ (.int .i64 d)).heap[g]? = some (.cells (six a b c d e f 2) t (0, 0)) :=
  (heap_setCell_same _ _ 3 _ (heap_setCell_same _ _ 2 _ h)).trans (by simp [six])
theorem six_put2 {W : World} {g : Nat} {a b c d e f : Int} {t : TypeId} (h : W.heap[g]? = some (.cells (six a b c d e f 2) t (0, 0))) : ((W.setCell ⟨g, 4, none⟩ (.int .i64 e)).setCell ⟨g, 5, none⟩ (.int .i64 f)).heap[g]? = some (.cells (six a b c d e f 3) t (0, 0)) :=
  (heap_setCell_same _ _ 5 _ (heap_setCell_same _ _ 4 _ h)).trans (by simp [six])
theorem six_cells {W : World} {g : Nat} {a b c d e f : Int} {k : Nat} {t : TypeId} (h : W.heap[g]? = some (.cells (six a b c d e f k) t (0, 0))) : (W.cell? ⟨g, 0, none⟩ = some (.int .i64 (if 0 < k then a else 0)) ∧ W.cell? ⟨g, 1, none⟩ = some (.int .i64 (if 0 < k then b else 0)) ∧ W.cell? ⟨g, 2, none⟩ = some (.int .i64 (if 1 < k then c else 0))) ∧ (W.cell? ⟨g, 3, none⟩ = some (.int .i64 (if 1 < k then d else 0)) ∧ W.cell? ⟨g, 4, none⟩ = some (.int .i64 (if 2 < k then e else 0)) ∧ W.cell? ⟨g, 5, none⟩ = some (.int .i64 (if 2 < k then f else 0))) := by
  simp [World.cell?, h, six]
structure MiS (w : World) (ro bs bo : Nat) (s0 s1 s2 s3 s4 a b c d e f : Int) (k : Nat) (W : World) : Prop where
  new : New w W
  hro : w.heap.size ≤ ro
  hbs : ro < bs
  hbo : bs < bo
  zr : W.heap[ro]? = some (.cells (arr6 0 0 0 0 0 0) 30 (0, 0))
  zs : W.heap[bs]? = some (.cells (arr5 s0 s1 s2 s3 s4) 68 (0, 0))
  zo : W.heap[bo]? = some (.cells (six a b c d e f k) 30 (0, 0))
theorem MiS.keep {w W V : World} {ro bs bo : Nat} {s0 s1 s2 s3 s4 a b c d e f : Int} {k : Nat} (h : MiS w ro bs bo s0 s1 s2 s3 s4 a b c d e f k W) (hn : New W V) : MiS w ro bs bo s0 s1 s2 s3 s4 a b c d e f k V := by
  have hk : ∀ k o, W.heap[k]? = some o → V.heap[k]? = some o := fun k o h => (hn.below.block k (Array.getElem?_eq_some_iff.1 h).1).trans h
  exact ⟨h.new.trans hn, h.hro, h.hbs, h.hbo, hk _ _ h.zr, hk _ _ h.zs, hk _ _ h.zo⟩
theorem MiS.put {w W V : World} {ro bs bo : Nat} {s0 s1 s2 s3 s4 a b c d e f : Int} {k k' i j : Nat} {x y : Value} (h : MiS w ro bs bo s0 s1 s2 s3 s4 a b c d e f k W) (hV : V = (W.setCell ⟨bo, i, none⟩ x).setCell ⟨bo, j, none⟩ y) (hz : V.heap[bo]? = some (.cells (six a b c d e f k') 30 (0, 0))) : MiS w ro bs bo s0 s1 s2 s3 s4 a b c d e f k' V := by
  have h1 := h.hro
  have h2 := h.hbs
  have h3 := h.hbo
  refine ⟨?_, h1, h2, h3, ?_, ?_, hz⟩
  · rw [hV]; exact (h.new.setCell (by show w.heap.size ≤ bo; omega) _).setCell (by show w.heap.size ≤ bo; omega) _
  · rw [hV]; exact (heap_setCell_other _ _ _ _ _ (by omega)).trans ((heap_setCell_other _ _ _ _ _ (by omega)).trans h.zr)
  · rw [hV]; exact (heap_setCell_other _ _ _ _ _ (by omega)).trans ((heap_setCell_other _ _ _ _ _ (by omega)).trans h.zs)

set_option maxHeartbeats 16000000 in
theorem Mix_c (tv pv : Option Addr) (m tc n pc : Nat) (T : List T5) (P : List (Int × Int)) (w : World) (hm : m ≤ 17592186044415) (hn : n ≤ 17592186044415) (hTl : T.length = m) (hT : 0 < m → ∃ b off, tv = some ⟨b, off, none⟩ ∧ Tnts w b off m T) (hP : P.length = n) (hp : 0 < n → ∃ b off, pv = some ⟨b, off, none⟩ ∧ Prts w b off n P) :
    Calls Try.prog 11 #[.slice tv m tc, .agg #[.slice pv n pc]] w fun en w' => en = .returned (.tuple #[mixV T P m n, .int .i64 (rcpE T P m)]) ∧ New w w' := by
  have HC := Lib.hid (fun (w1 : World) (h1 : New w w1) => checkRecipe_c tv pv m tc n pc T P w1 hm hn (fun h => by obtain ⟨b, o, e, h2⟩ := hT h; exact ⟨b, o, e, h2.new h1⟩) hP (fun h => by obtain ⟨b, o, e, h2⟩ := hp h; exact ⟨b, o, e, h2.new h1⟩))
  have HSU := Lib.hid (show rcpE T P m = 0 → ∀ (w1 : World) (h1 : New w w1), Calls Try.prog 29 #[.slice tv m tc, .agg #[.slice pv n pc]] w1 fun en w' =>
      en = .returned (.agg #[.int .i64 (sumW P n), .int .i64 (sumT P (tA T) n), .int .i64 (sumT P (tB T) n), .int .i64 (sumT P (tC T) n), .int .i64 (sumT P (tP T) n)]) ∧ New w1 w' from fun h w1 h1 => by
    obtain ⟨⟨a1, a2⟩, a3, ⟨a4, a5⟩, a6⟩ := rcpE_zero hTl hP h
    obtain ⟨b, off, rfl, hT1⟩ := hT (by omega)
    obtain ⟨pb, poff, rfl, hP1⟩ := hp (by omega)
    exact sumsOf_c b off m tc pb poff n pc T P w1 (hT1.new h1) (hP1.new h1) a6 a3 a5 (by omega))
  have HNB := Lib.hid (mixN_of hTl hP)
  have HV := Lib.hid (show mixV T P m n = .agg (arr6 (mixQ T P m n (tA T)) (mixR T P m n (tA T)) (mixQ T P m n (tB T)) (mixR T P m n (tB T)) (mixQ T P m n (tC T)) (mixR T P m n (tC T))) from rfl)
  have HQ0 := Lib.hid (show rcpE T P m ≠ 0 → ∀ f, mixQ T P m n f = 0 ∧ mixR T P m n f = 0 from fun h f => by unfold mixQ mixR; rw [if_neg h, if_neg h]; exact ⟨rfl, rfl⟩)
  have HQ1 := Lib.hid (show rcpE T P m = 0 → ∀ f, mixQ T P m n f = lowA (sumT P f n) (sumW P n) ∧ mixR T P m n f = lowB (sumT P f n) (sumW P n) from fun h f => by unfold mixQ mixR; rw [if_pos h, if_pos h]; exact ⟨rfl, rfl⟩)
  rw [HV.out]
  have HFR := Lib.hid (show rcpE T P m = 0 → ∀ f, (f = tA T ∨ f = tB T ∨ f = tC T ∨ f = tP T) → ∀ w1 : World, Calls Try.prog 30 #[.int .i64 (sumT P f n), .int .i64 (sumW P n)] w1 fun en w' => en = .returned (fv (mixQ T P m n f) (mixR T P m n f)) ∧ New w1 w' from fun h f hf w1 => by
    rw [(HQ1.out h f).1, (HQ1.out h f).2]
    exact fraction_c _ _ w1 ((HNB.out h).2 f hf) (HNB.out h).1)
  have HFA := Lib.hid (fun h => HFR.out h (tA T) (.inl rfl))
  have HFB := Lib.hid (fun h => HFR.out h (tB T) (.inr (.inl rfl)))
  have HFC := Lib.hid (fun h => HFR.out h (tC T) (.inr (.inr (.inl rfl))))
  have HZA := Lib.hid (fun h => HQ0.out h (tA T))
  have HZB := Lib.hid (fun h => HQ0.out h (tB T))
  have HZC := Lib.hid (fun h => HQ0.out h (tC T))
  clear hT hp hP hTl HV HNB HQ0 HQ1 HFR
  generalize mixQ T P m n (tA T) = Q1 at *
  generalize mixR T P m n (tA T) = R1 at *
  generalize mixQ T P m n (tB T) = Q2 at *
  generalize mixR T P m n (tB T) = R2 at *
  generalize mixQ T P m n (tC T) = Q3 at *
  generalize mixR T P m n (tC T) = R3 at *
  generalize sumW P n = S0 at *
  generalize sumT P (tA T) n = S1 at *
  generalize sumT P (tB T) n = S2 at *
  generalize sumT P (tC T) n = S3 at *
  generalize sumT P (tP T) n = S4 at *
  generalize rcpE T P m = R at *
  go_enter Try.func11, Try.ntmps11
  go_wp2_with fail
  go_at_call 28
  refine (HC.out _ (((New.refl w).alloc _).alloc _)).mono ?_
  rintro e w2 ⟨rfl, hn2⟩
  have HN2 := Lib.hid ((((New.refl w).alloc _).alloc _).trans hn2)
  have hB : w2.heap[w.heap.size]? = some (.cells #[.slice pv n pc] 25 (0, 0)) := (hn2.below.block _ (by simp; omega)).trans ((Below.heap_alloc _ _ _ (by simp)).trans (heap_alloc_new _ _))
  have hB2 : w2.heap[w.heap.size + 1]? = some (.cells (arr6 0 0 0 0 0 0) 30 (0, 0)) := (hn2.below.block _ (by simp)).trans (alloc2_new rfl)
  have HB := Lib.hid hB
  have HB2 := Lib.hid hB2
  have d0 : w2.cell? ⟨w.heap.size, 0, none⟩ = some (.slice pv n pc) := by simp [World.cell?, hB]
  clear hn2 hB hB2
  by_cases hz : R = 0
  · subst hz
    go_wp2_with fail
    go_at_call 29
    refine (HSU.out (by simp) _ HN2.out).mono ?_
    rintro e w3 ⟨rfl, hn3⟩
    have HN3 := Lib.hid (HN2.out.trans hn3)
    have hB3 := (hn3.below.block _ (Array.getElem?_eq_some_iff.1 HB2.out).1).trans HB2.out
    have HB3 := Lib.hid hB3
    clear hn3 hB3 d0
    go_wp2_with fail
    obtain ⟨W1, hW1⟩ : ∃ W1, W1 = (w3.alloc (.cells #[.int .i64 S0, .int .i64 S1, .int .i64 S2, .int .i64 S3, .int .i64 S4] 68)).alloc (.cells #[.int .i64 0, .int .i64 0, .int .i64 0, .int .i64 0, .int .i64 0, .int .i64 0] 30) := ⟨_, rfl⟩
    have hroL := (Array.getElem?_eq_some_iff.1 HB3.out).1
    have HM1 := Lib.hid (show MiS w (w.heap.size + 1) w3.heap.size (w3.heap.size + 1) S0 S1 S2 S3 S4 Q1 R1 Q2 R2 Q3 R3 0 W1 from by
      have hn : New w3 W1 := by rw [hW1]; exact ((New.refl _).alloc _).alloc _
      refine ⟨HN3.out.trans hn, by omega, by omega, by omega, (hn.below.block _ hroL).trans HB3.out, ?_, ?_⟩
      · rw [hW1, Below.heap_alloc _ _ _ (by simp)]; exact heap_alloc_new _ _
      · rw [hW1]; exact alloc2_new rfl)
    rw [← hW1]
    clear hW1
    generalize hgs : w3.heap.size = BS at *
    generalize hgr : w.heap.size + 1 = RO at *
    go_loopw [20] (fun i wr => ∃ k : Nat, k ≤ 3 ∧ i = .int .i64 k ∧ MiS w RO BS (BS + 1) S0 S1 S2 S3 S4 Q1 R1 Q2 R2 Q3 R3 k wr) (fun i _ => 3 - (intOf i).toNat)
    case atStart => exact ⟨0, Nat.zero_le _, rfl, HM1.out⟩
    case round =>
      obtain ⟨k, hk, rfl, hm⟩ := hrel
      have HW := Lib.hid hm
      obtain ⟨⟨c0, c1, c2⟩, c3, c4⟩ := cell5 hm.zs
      clear hm HM1
      have hkc : k = 0 ∨ k = 1 ∨ k = 2 ∨ k = 3 := by omega
      rcases hkc with rfl | rfl | rfl | rfl
      · skip
        go_upto_region 9 with fail
        go_region_law (go_simp; go_at_call 30; refine (HFA.out (by simp) _).mono ?_; rintro e w5 ⟨rfl, hn5⟩; have HW5 := Lib.hid (HW.out.keep ((by (repeat (first | exact New.refl _ | apply New.drew)) : New wr _).trans hn5)); obtain ⟨⟨e0, e1, e2⟩, e3, e4, e5⟩ := six_cells HW5.out.zo; have f5 := frozen5 HW5.out.zo; clear hn5)
        all_goals (have HX := Lib.hid (HW5.out.put rfl (six_put0 HW5.out.zo)))
        all_goals (go_wp2_with fail)
        all_goals go_roundw
        all_goals first
          | exact ⟨1, by omega, rfl, HX.out⟩
          | (simp [intOf]; done)
      · skip
        go_upto_region 9 with fail
        go_region_law (go_simp; go_at_call 30; refine (HFB.out (by simp) _).mono ?_; rintro e w5 ⟨rfl, hn5⟩; have HW5 := Lib.hid (HW.out.keep ((by (repeat (first | exact New.refl _ | apply New.drew)) : New wr _).trans hn5)); obtain ⟨⟨e0, e1, e2⟩, e3, e4, e5⟩ := six_cells HW5.out.zo; have f5 := frozen5 HW5.out.zo; clear hn5)
        all_goals (have HX := Lib.hid (HW5.out.put rfl (six_put1 HW5.out.zo)))
        all_goals (go_wp2_with fail)
        all_goals go_roundw
        all_goals first
          | exact ⟨2, by omega, rfl, HX.out⟩
          | (simp [intOf]; done)
      · skip
        go_upto_region 9 with fail
        go_region_law (go_simp; go_at_call 30; refine (HFC.out (by simp) _).mono ?_; rintro e w5 ⟨rfl, hn5⟩; have HW5 := Lib.hid (HW.out.keep ((by (repeat (first | exact New.refl _ | apply New.drew)) : New wr _).trans hn5)); obtain ⟨⟨e0, e1, e2⟩, e3, e4, e5⟩ := six_cells HW5.out.zo; have f5 := frozen5 HW5.out.zo; clear hn5)
        all_goals (have HX := Lib.hid (HW5.out.put rfl (six_put2 HW5.out.zo)))
        all_goals (go_wp2_with fail)
        all_goals go_roundw
        all_goals first
          | exact ⟨3, by omega, rfl, HX.out⟩
          | (simp [intOf]; done)
      · obtain ⟨⟨e0, e1, e2⟩, e3, e4, e5⟩ := six_cells HW.out.zo
        have h1 := HW.out.hro
        have zr := HW.out.zr
        have fr := frozen5 zr
        have hv0 : wr.cell? ⟨RO, 0, none⟩ = some (.int .i64 0) := by simp [World.cell?, zr, arr6]
        have hv1 : wr.cell? ⟨RO, 1, none⟩ = some (.int .i64 0) := by simp [World.cell?, zr, arr6]
        have hv2 : wr.cell? ⟨RO, 2, none⟩ = some (.int .i64 0) := by simp [World.cell?, zr, arr6]
        have hv3 : wr.cell? ⟨RO, 3, none⟩ = some (.int .i64 0) := by simp [World.cell?, zr, arr6]
        have hv4 : wr.cell? ⟨RO, 4, none⟩ = some (.int .i64 0) := by simp [World.cell?, zr, arr6]
        have hv5 : wr.cell? ⟨RO, 5, none⟩ = some (.int .i64 0) := by simp [World.cell?, zr, arr6]
        clear zr
        have HNF := Lib.hid (fun (x : Value) (i : Nat) (V : World) (h : New w V) => h.setCell (p := ⟨RO, i, none⟩) (by show w.heap.size ≤ RO; omega) x)
        go_wp2_with fail
        exact bodyPost_ret (v := .tuple #[.agg (arr6 Q1 R1 Q2 R2 Q3 R3), .int .i64 0]) (by simp [results, Try.results11, go_sem, hv0, hv1, hv2, hv3, hv4, hv5, arr6]) rfl ⟨rfl, HNF.out _ _ _ (HNF.out _ _ _ (HNF.out _ _ _ (HNF.out _ _ _ (HNF.out _ _ _ (HNF.out _ _ _ HW.out.new)))))⟩
  · obtain ⟨h1, h2⟩ := HZA.out hz
    obtain ⟨h3, h4⟩ := HZB.out hz
    obtain ⟨h5, h6⟩ := HZC.out hz
    subst h1 h2 h3 h4 h5 h6
    have zr := HB2.out
    have fr := frozen5 zr
    have hv0 : w2.cell? ⟨w.heap.size + 1, 0, none⟩ = some (.int .i64 0) := by simp [World.cell?, zr, arr6]
    have hv1 : w2.cell? ⟨w.heap.size + 1, 1, none⟩ = some (.int .i64 0) := by simp [World.cell?, zr, arr6]
    have hv2 : w2.cell? ⟨w.heap.size + 1, 2, none⟩ = some (.int .i64 0) := by simp [World.cell?, zr, arr6]
    have hv3 : w2.cell? ⟨w.heap.size + 1, 3, none⟩ = some (.int .i64 0) := by simp [World.cell?, zr, arr6]
    have hv4 : w2.cell? ⟨w.heap.size + 1, 4, none⟩ = some (.int .i64 0) := by simp [World.cell?, zr, arr6]
    have hv5 : w2.cell? ⟨w.heap.size + 1, 5, none⟩ = some (.int .i64 0) := by simp [World.cell?, zr, arr6]
    clear zr
    have HNF := Lib.hid (fun (x : Value) (i : Nat) (V : World) (h : New w V) => h.setCell (p := ⟨w.heap.size + 1, i, none⟩) (by show w.heap.size ≤ w.heap.size + 1; omega) x)
    go_wp2_with fail
    exact bodyPost_ret (v := .tuple #[.agg (arr6 0 0 0 0 0 0), .int .i64 R]) (by simp [results, Try.results11, go_sem, hv0, hv1, hv2, hv3, hv4, hv5, arr6]) rfl ⟨rfl, HNF.out _ _ _ (HNF.out _ _ _ (HNF.out _ _ _ (HNF.out _ _ _ (HNF.out _ _ _ (HNF.out _ _ _ HN2.out)))))⟩

end Go.Proofs.Ytpjekinmcdglbaa
