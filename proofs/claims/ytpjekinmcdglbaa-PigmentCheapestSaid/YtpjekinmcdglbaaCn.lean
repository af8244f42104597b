/- Price of the reference. · Mix of the reference. -/
import Derived.Test.YtpjekinmcdglbaaCl

section
set_option linter.unusedSimpArgs false
set_option linter.unusedVariables false
set_option maxRecDepth 100000
namespace Go.Proofs.Ytpjekinmcdglbaa
open Go.RowKit

/-- what the reference's Price and Mix ask of what they call -/
structure PrC (w : World) (tv pv : Option Addr) (m tc n pc : Nat) (T : List T5) (P : List (Int × Int)) : Prop where
  t : ∀ w1, New w w1 → Calls Try.prog 31 #[.slice tv m tc] w1 fun en w' => en = .returned (.int .i64 (chkE T m)) ∧ New w1 w'
  v : ∀ w1, New w w1 → Calls Try.prog 32 #[.slice tv m tc, .agg #[.slice pv n pc]] w1 fun en w' => en = .returned (.bool (recB P m)) ∧ New w1 w'
  s : rcpE T P m = 0 → ∀ w1, New w w1 → Calls Try.prog 33 #[.slice tv m tc, .agg #[.slice pv n pc]] w1 fun en w' =>
      en = .returned (.tuple #[.int .i64 (sumW P n), vv (sumT P (tA T) n) (sumT P (tB T) n) (sumT P (tC T) n), .int .i64 (sumT P (tP T) n)]) ∧ New w1 w'
  r : rcpE T P m = 0 → ∀ f, (f = tA T ∨ f = tB T ∨ f = tC T ∨ f = tP T) → ∀ w1 : World, Calls Try.prog 34 #[.int .i64 (sumT P f n), .int .i64 (sumW P n)] w1 fun en w' => en = .returned (fv (mixQ T P m n f) (mixR T P m n f)) ∧ New w1 w'
theorem prC_of (tv pv : Option Addr) (m tc n pc : Nat) (T : List T5) (P : List (Int × Int)) (w : World) (hm : m ≤ 17592186044415) (hn : n ≤ 17592186044415) (hTl : T.length = m) (hT : 0 < m → ∃ b off, tv = some ⟨b, off, none⟩ ∧ Tnts w b off m T) (hP : P.length = n) (hp : 0 < n → ∃ b off, pv = some ⟨b, off, none⟩ ∧ Prts w b off n P) : PrC w tv pv m tc n pc T P := by
  refine ⟨fun w1 h1 => ref_tints tv m tc T w1 hm (fun h => by obtain ⟨b, o, e, h2⟩ := hT h; exact ⟨b, o, e, h2.new h1⟩), fun w1 h1 => validRecipe_c tv pv m tc n pc P w1 hm hn hP (fun h => by obtain ⟨b, o, e, h2⟩ := hp h; exact ⟨b, o, e, h2.new h1⟩), fun h w1 h1 => ?_, fun h f hf w1 => ?_⟩
  · obtain ⟨⟨a1, a2⟩, a3, ⟨a4, a5⟩, a6⟩ := rcpE_zero hTl hP h
    obtain ⟨b, off, rfl, hT1⟩ := hT (by omega)
    obtain ⟨pb, poff, rfl, hP1⟩ := hp (by omega)
    exact ref_sums b off m tc pb poff n pc T P w1 (hT1.new h1) (hP1.new h1) a6 a3 a5 (by omega)
  · have := mixN_of hTl hP h
    unfold mixQ mixR
    rw [if_pos h, if_pos h]
    exact ratio_c _ _ w1 (this.2 f hf) this.1
theorem rcpE_of (T : List T5) (P : List (Int × Int)) (m : Nat) : rcpE T P m = if chkE T m ≠ 0 then chkE T m else if recB P m = true then 0 else 1 := rfl

set_option maxHeartbeats 16000000 in
theorem ref_Price (tv pv : Option Addr) (m tc n pc : Nat) (T : List T5) (P : List (Int × Int)) (w : World) (hc : PrC w tv pv m tc n pc T P) :
    Calls Try.prog 14 #[.slice tv m tc, .agg #[.slice pv n pc]] w fun en w' => en = .returned (.tuple #[fv (priA T P m n) (priB T P m n), .int .i64 (rcpE T P m)]) ∧ New w w' := by
  have HC := Lib.hid hc.t
  have HV := Lib.hid hc.v
  have HSU := Lib.hid hc.s
  have HR := Lib.hid (rcpE_of T P m)
  have HRT := Lib.hid (show rcpE T P m = 0 → ∀ w1 : World, Calls Try.prog 34 #[.int .i64 (sumT P (tP T) n), .int .i64 (sumW P n)] w1 fun en w' => en = .returned (fv (priA T P m n) (priB T P m n)) ∧ New w1 w' from fun h w1 => hc.r h (tP T) (.inr (.inr (.inr rfl))) w1)
  have HA := Lib.hid (show rcpE T P m ≠ 0 → priA T P m n = 0 ∧ priB T P m n = 0 from fun h => by unfold priA priB; rw [if_neg h, if_neg h]; exact ⟨rfl, rfl⟩)
  clear hc
  generalize priA T P m n = LA at *
  generalize priB T P m n = LB at *
  generalize rcpE T P m = R at *
  generalize chkE T m = E at *
  generalize recB P m = q at *
  generalize sumW P n = S0 at *
  generalize sumT P (tA T) n = S1 at *
  generalize sumT P (tB T) n = S2 at *
  generalize sumT P (tC T) n = S3 at *
  generalize sumT P (tP T) n = S4 at *
  go_enter Try.func14, Try.ntmps14
  go_wp2_with fail
  go_at_call 31
  refine (HC.out _ (((New.refl w).alloc _).alloc _)).mono ?_
  rintro e w2 ⟨rfl, hn2⟩
  have HN2 := Lib.hid ((((New.refl w).alloc _).alloc _).trans hn2)
  have hB : w2.heap[w.heap.size]? = some (.cells #[.slice pv n pc] 25 (0, 0)) := (hn2.below.block _ (by simp; omega)).trans ((Below.heap_alloc _ _ _ (by simp)).trans (heap_alloc_new _ _))
  have hB2 : w2.heap[w.heap.size + 1]? = some (.cells #[.int .i64 0, .int .i64 0] 29 (0, 0)) := (hn2.below.block _ (by simp)).trans (alloc2_new rfl)
  have d0 : w2.cell? ⟨w.heap.size, 0, none⟩ = some (.slice pv n pc) := by simp [World.cell?, hB]
  have HB := Lib.hid hB
  have HB2 := Lib.hid hB2
  have e0 : w2.cell? ⟨w.heap.size + 1, 0, none⟩ = some (.int .i64 0) := by simp [World.cell?, hB2]
  have e1 : w2.cell? ⟨w.heap.size + 1, 1, none⟩ = some (.int .i64 0) := by simp [World.cell?, hB2]
  have f0 := frozen5 hB2
  clear hn2 hB hB2
  by_cases hz : E = 0
  · subst hz
    clear e0 e1 f0
    go_wp2_with fail
    go_at_call 32
    refine (HV.out _ HN2.out).mono ?_
    rintro e w3 ⟨rfl, hn3⟩
    have HN3 := Lib.hid (HN2.out.trans hn3)
    have hB3 := (hn3.below.block _ (Array.getElem?_eq_some_iff.1 HB2.out).1).trans HB2.out
    have hA3 := (hn3.below.block _ (Array.getElem?_eq_some_iff.1 HB.out).1).trans HB.out
    have d1 : w3.cell? ⟨w.heap.size, 0, none⟩ = some (.slice pv n pc) := by simp [World.cell?, hA3]
    have e0 : w3.cell? ⟨w.heap.size + 1, 0, none⟩ = some (.int .i64 0) := by simp [World.cell?, hB3]
    have e1 : w3.cell? ⟨w.heap.size + 1, 1, none⟩ = some (.int .i64 0) := by simp [World.cell?, hB3]
    have f0 := frozen5 hB3
    have HB3 := Lib.hid hB3
    clear hn3 hB3 hA3 d0
    cases q
    · have hR : R = 1 := by rw [HR.out]; simp
      obtain ⟨h1, h2⟩ := HA.out (by omega)
      subst h1 h2 hR
      go_wp2_with fail
      have HNF := Lib.hid (show New w ((w3.setCell ⟨w.heap.size + 1, 0, none⟩ (.int .i64 0)).setCell ⟨w.heap.size + 1, 1, none⟩ (.int .i64 0)) from
        ((HN3.out).setCell (by show w.heap.size ≤ w.heap.size + 1; omega) _).setCell (by show w.heap.size ≤ w.heap.size + 1; omega) _)
      exact bodyPost_ret (v := .tuple #[fv 0 0, .int .i64 1]) (by simp [results, Try.results14, go_sem, e0, e1]) rfl ⟨rfl, HNF.out⟩
    · have hR : R = 0 := by rw [HR.out]; simp
      have HSU1 := Lib.hid (HSU.out hR)
      have HRT1 := Lib.hid (HRT.out hR)
      clear HSU HRT HA HR
      subst hR
      clear e0 e1 f0
      go_wp2_with fail
      go_at_call 33
      refine (HSU1.out _ HN3.out).mono ?_
      rintro e w4 ⟨rfl, hn4⟩
      have HN4 := Lib.hid (HN3.out.trans hn4)
      have HB4 := Lib.hid ((hn4.below.block _ (Array.getElem?_eq_some_iff.1 HB3.out).1).trans HB3.out)
      clear hn4 d1
      go_wp2_with fail
      go_at_call 34
      refine (HRT1.out _).mono ?_
      rintro e w5 ⟨rfl, hn5⟩
      have hn45 := (show New w4 _ from (New.refl w4).alloc _).trans hn5
      have HN5 := Lib.hid (HN4.out.trans hn45)
      have hB5 := (hn45.below.block _ (Array.getElem?_eq_some_iff.1 HB4.out).1).trans HB4.out
      have e0 : w5.cell? ⟨w.heap.size + 1, 0, none⟩ = some (.int .i64 0) := by simp [World.cell?, hB5]
      have e1 : w5.cell? ⟨w.heap.size + 1, 1, none⟩ = some (.int .i64 0) := by simp [World.cell?, hB5]
      have f0 := frozen5 hB5
      clear hn5 hn45 hB5
      go_wp2_with fail
      have HNF := Lib.hid (show New w ((w5.setCell ⟨w.heap.size + 1, 0, none⟩ (.int .i64 LA)).setCell ⟨w.heap.size + 1, 1, none⟩ (.int .i64 LB)) from
        ((HN5.out).setCell (by show w.heap.size ≤ w.heap.size + 1; omega) _).setCell (by show w.heap.size ≤ w.heap.size + 1; omega) _)
      exact bodyPost_ret (v := .tuple #[fv LA LB, .int .i64 0]) (by simp [results, Try.results14, go_sem, e0, e1]) rfl ⟨rfl, HNF.out⟩
  · have hR : R = E := by rw [HR.out, if_pos hz]
    obtain ⟨h1, h2⟩ := HA.out (by rw [hR]; exact hz)
    subst h1 h2 hR
    go_wp2_with fail
    have HNF := Lib.hid (show New w ((w2.setCell ⟨w.heap.size + 1, 0, none⟩ (.int .i64 0)).setCell ⟨w.heap.size + 1, 1, none⟩ (.int .i64 0)) from
      ((HN2.out).setCell (by show w.heap.size ≤ w.heap.size + 1; omega) _).setCell (by show w.heap.size ≤ w.heap.size + 1; omega) _)
    exact bodyPost_ret (v := .tuple #[fv 0 0, .int .i64 R]) (by simp [results, Try.results14, go_sem, e0, e1]) rfl ⟨rfl, HNF.out⟩

end Go.Proofs.Ytpjekinmcdglbaa
end

section
set_option linter.unusedSimpArgs false
set_option linter.unusedVariables false
set_option maxRecDepth 100000
namespace Go.Proofs.Ytpjekinmcdglbaa
open Go.RowKit

structure MyS (w : World) (ro bs bo : Nat) (s1 s2 s3 a b c d e f : Int) (k : Nat) (W : World) : Prop where
  new : New w W
  hro : w.heap.size ≤ ro
  hbo : ro < bo
  hbs : bo < bs
  zr : W.heap[ro]? = some (.cells (arr6 0 0 0 0 0 0) 30 (0, 0))
  zs : W.heap[bs]? = some (.cells (ar3 s1 s2 s3) 37 (0, 0))
  zo : W.heap[bo]? = some (.cells (six a b c d e f k) 30 (0, 0))
theorem MyS.keep {w W V : World} {ro bs bo : Nat} {s1 s2 s3 a b c d e f : Int} {k : Nat} (h : MyS w ro bs bo s1 s2 s3 a b c d e f k W) (hn : New W V) : MyS w ro bs bo s1 s2 s3 a b c d e f k V := by
  have hk : ∀ k o, W.heap[k]? = some o → V.heap[k]? = some o := fun k o h => (hn.below.block k (Array.getElem?_eq_some_iff.1 h).1).trans h
  exact ⟨h.new.trans hn, h.hro, h.hbo, h.hbs, hk _ _ h.zr, hk _ _ h.zs, hk _ _ h.zo⟩
theorem MyS.put {w W V : World} {ro bs bo : Nat} {s1 s2 s3 a b c d e f : Int} {k k' i j : Nat} {x y : Value} (h : MyS w ro bs bo s1 s2 s3 a b c d e f k W) (hV : V = (W.setCell ⟨bo, i, none⟩ x).setCell ⟨bo, j, none⟩ y) (hz : V.heap[bo]? = some (.cells (six a b c d e f k') 30 (0, 0))) : MyS w ro bs bo s1 s2 s3 a b c d e f k' V := by
  have h1 := h.hro
  have h2 := h.hbs
  have h3 := h.hbo
  refine ⟨?_, h1, h3, h2, ?_, ?_, hz⟩
  · rw [hV]; exact (h.new.setCell (by show w.heap.size ≤ bo; omega) _).setCell (by show w.heap.size ≤ bo; omega) _
  · rw [hV]; exact (heap_setCell_other _ _ _ _ _ (by omega)).trans ((heap_setCell_other _ _ _ _ _ (by omega)).trans h.zr)
  · rw [hV]; exact (heap_setCell_other _ _ _ _ _ (by omega)).trans ((heap_setCell_other _ _ _ _ _ (by omega)).trans h.zs)
theorem arr6_cells {W : World} {g : Nat} {a b c d e f : Int} {t : TypeId} {fr : Nat × Nat} (h : W.heap[g]? = some (.cells (arr6 a b c d e f) t fr)) : (W.cell? ⟨g, 0, none⟩ = some (.int .i64 a) ∧ W.cell? ⟨g, 1, none⟩ = some (.int .i64 b) ∧ W.cell? ⟨g, 2, none⟩ = some (.int .i64 c)) ∧ (W.cell? ⟨g, 3, none⟩ = some (.int .i64 d) ∧ W.cell? ⟨g, 4, none⟩ = some (.int .i64 e) ∧ W.cell? ⟨g, 5, none⟩ = some (.int .i64 f)) := by
  simp [World.cell?, h, arr6]

set_option maxHeartbeats 16000000 in
theorem ref_Mix (tv pv : Option Addr) (m tc n pc : Nat) (T : List T5) (P : List (Int × Int)) (w : World) (hc : PrC w tv pv m tc n pc T P) :
    Calls Try.prog 12 #[.slice tv m tc, .agg #[.slice pv n pc]] w fun en w' => en = .returned (.tuple #[mixV T P m n, .int .i64 (rcpE T P m)]) ∧ New w w' := by
  have HC := Lib.hid hc.t
  have HV := Lib.hid hc.v
  have HSU := Lib.hid hc.s
  have HR := Lib.hid (rcpE_of T P m)
  have HVV := Lib.hid (show mixV T P m n = .agg (arr6 (mixQ T P m n (tA T)) (mixR T P m n (tA T)) (mixQ T P m n (tB T)) (mixR T P m n (tB T)) (mixQ T P m n (tC T)) (mixR T P m n (tC T))) from rfl)
  have HQ0 := Lib.hid (show rcpE T P m ≠ 0 → ∀ f, mixQ T P m n f = 0 ∧ mixR T P m n f = 0 from fun h f => by unfold mixQ mixR; rw [if_neg h, if_neg h]; exact ⟨rfl, rfl⟩)
  have HFA := Lib.hid (fun h => hc.r h (tA T) (.inl rfl))
  have HFB := Lib.hid (fun h => hc.r h (tB T) (.inr (.inl rfl)))
  have HFC := Lib.hid (fun h => hc.r h (tC T) (.inr (.inr (.inl rfl))))
  have HZA := Lib.hid (fun h => HQ0.out h (tA T))
  have HZB := Lib.hid (fun h => HQ0.out h (tB T))
  have HZC := Lib.hid (fun h => HQ0.out h (tC T))
  rw [HVV.out]
  clear hc HVV HQ0
  generalize mixQ T P m n (tA T) = Q1 at *
  generalize mixR T P m n (tA T) = R1 at *
  generalize mixQ T P m n (tB T) = Q2 at *
  generalize mixR T P m n (tB T) = R2 at *
  generalize mixQ T P m n (tC T) = Q3 at *
  generalize mixR T P m n (tC T) = R3 at *
  generalize rcpE T P m = R at *
  generalize chkE T m = E at *
  generalize recB P m = q at *
  generalize sumW P n = S0 at *
  generalize sumT P (tA T) n = S1 at *
  generalize sumT P (tB T) n = S2 at *
  generalize sumT P (tC T) n = S3 at *
  generalize sumT P (tP T) n = S4 at *
  go_enter Try.func12, Try.ntmps12
  go_wp2_with fail
  go_at_call 31
  refine (HC.out _ ((((New.refl w).alloc _).alloc _).alloc _)).mono ?_
  rintro e w2 ⟨rfl, hn2⟩
  have HN2 := Lib.hid (((((New.refl w).alloc _).alloc _).alloc _).trans hn2)
  have hB : w2.heap[w.heap.size]? = some (.cells #[.slice pv n pc] 25 (0, 0)) := (hn2.below.block _ (by simp <;> omega)).trans ((Below.heap_alloc _ _ _ (by simp <;> omega)).trans ((Below.heap_alloc _ _ _ (by simp)).trans (heap_alloc_new _ _)))
  have hB2 : w2.heap[w.heap.size + 1]? = some (.cells (arr6 0 0 0 0 0 0) 30 (0, 0)) := (hn2.below.block _ (by simp <;> omega)).trans ((Below.heap_alloc _ _ _ (by simp)).trans (alloc2_new rfl))
  have hB3 : w2.heap[w.heap.size + 1 + 1]? = some (.cells (arr6 0 0 0 0 0 0) 30 (0, 0)) := (hn2.below.block _ (by simp)).trans (by
    have := heap_alloc_new ((w.alloc (.cells #[.slice pv n pc] 25)).alloc (.cells (arr6 0 0 0 0 0 0) 30)) (.cells (arr6 0 0 0 0 0 0) 30)
    simp only [World.size_alloc] at this
    exact this)
  have HB := Lib.hid hB
  have HB2 := Lib.hid hB2
  have HB3 := Lib.hid hB3
  have d0 : w2.cell? ⟨w.heap.size, 0, none⟩ = some (.slice pv n pc) := by simp [World.cell?, hB]
  clear hn2 hB hB2 hB3
  by_cases hz : E = 0
  · subst hz
    go_wp2_with fail
    go_at_call 32
    refine (HV.out _ HN2.out).mono ?_
    rintro e w3 ⟨rfl, hn3⟩
    have HN3 := Lib.hid (HN2.out.trans hn3)
    have hk3 : ∀ k o, w2.heap[k]? = some o → w3.heap[k]? = some o := fun k o h => (hn3.below.block k (Array.getElem?_eq_some_iff.1 h).1).trans h
    have HC1 := Lib.hid (hk3 _ _ HB.out)
    have HC2 := Lib.hid (hk3 _ _ HB2.out)
    have HC3 := Lib.hid (hk3 _ _ HB3.out)
    have d1 := (box_cell HC1.out).1
    clear hn3 d0 hk3
    cases q
    · have hR : R = 1 := by rw [HR.out]; simp
      obtain ⟨h1, h2⟩ := HZA.out (by omega)
      obtain ⟨h3, h4⟩ := HZB.out (by omega)
      obtain ⟨h5, h6⟩ := HZC.out (by omega)
      clear HR HFA HFB HFC HZA HZB HZC HSU
      subst h1 h2 h3 h4 h5 h6 hR
      obtain ⟨⟨x0, x1, x2⟩, x3, x4, x5⟩ := arr6_cells HC3.out
      obtain ⟨⟨e0, e1, e2⟩, e3, e4, e5⟩ := arr6_cells HC2.out
      have fr := frozen5 HC2.out
      have HNF := Lib.hid (fun (x : Value) (i : Nat) (V : World) (h : New w V) => h.setCell (p := ⟨w.heap.size + 1, i, none⟩) (by show w.heap.size ≤ w.heap.size + 1; omega) x)
      go_wp2_with fail
      exact bodyPost_ret (v := .tuple #[.agg (arr6 0 0 0 0 0 0), .int .i64 1]) (by simp [results, Try.results12, go_sem, e0, e1, e2, e3, e4, e5, arr6]) rfl ⟨rfl, HNF.out _ _ _ (HNF.out _ _ _ (HNF.out _ _ _ (HNF.out _ _ _ (HNF.out _ _ _ (HNF.out _ _ _ HN3.out)))))⟩
    · have hR : R = 0 := by rw [HR.out]; simp
      have HSU1 := Lib.hid (HSU.out hR)
      have HFA1 := Lib.hid (HFA.out hR)
      have HFB1 := Lib.hid (HFB.out hR)
      have HFC1 := Lib.hid (HFC.out hR)
      clear HR HFA HFB HFC HZA HZB HZC HSU
      subst hR
      go_wp2_with fail
      go_at_call 33
      refine (HSU1.out _ HN3.out).mono ?_
      rintro e w4 ⟨rfl, hn4⟩
      have HN4 := Lib.hid (HN3.out.trans hn4)
      have hk4 : ∀ k o, w3.heap[k]? = some o → w4.heap[k]? = some o := fun k o h => (hn4.below.block k (Array.getElem?_eq_some_iff.1 h).1).trans h
      have HD2 := Lib.hid (hk4 _ _ HC2.out)
      have HD3 := Lib.hid (hk4 _ _ HC3.out)
      clear hn4 d1 hk4
      go_wp2_with fail
      obtain ⟨W1, hW1⟩ : ∃ W1, W1 = w4.alloc (.cells #[.int .i64 S1, .int .i64 S2, .int .i64 S3] 37) := ⟨_, rfl⟩
      have hroL := (Array.getElem?_eq_some_iff.1 HD3.out).1
      have HM1 := Lib.hid (show MyS w (w.heap.size + 1) w4.heap.size (w.heap.size + 1 + 1) S1 S2 S3 Q1 R1 Q2 R2 Q3 R3 0 W1 from by
        have hn : New w4 W1 := by rw [hW1]; exact (New.refl _).alloc _
        have hk : ∀ k o, w4.heap[k]? = some o → W1.heap[k]? = some o := fun k o h => (hn.below.block k (Array.getElem?_eq_some_iff.1 h).1).trans h
        refine ⟨HN4.out.trans hn, by omega, by omega, by omega, hk _ _ HD2.out, ?_, hk _ _ HD3.out⟩
        rw [hW1]; exact heap_alloc_new _ _)
      rw [← hW1]
      clear hW1
      generalize hgs : w4.heap.size = BS at *
      generalize hgr : w.heap.size + 1 = RO at *
      go_loopw [12] (fun i wr => ∃ k : Nat, k ≤ 3 ∧ i = .int .i64 k ∧ MyS w RO BS (RO + 1) S1 S2 S3 Q1 R1 Q2 R2 Q3 R3 k wr) (fun i _ => 3 - (intOf i).toNat)
      case atStart => exact ⟨0, Nat.zero_le _, rfl, HM1.out⟩
      case round =>
        obtain ⟨k, hk, rfl, hm⟩ := hrel
        have HW := Lib.hid hm
        obtain ⟨c0, c1, c2⟩ := cell3 hm.zs
        clear hm HM1
        have hkc : k = 0 ∨ k = 1 ∨ k = 2 ∨ k = 3 := by omega
        rcases hkc with rfl | rfl | rfl | rfl
        · go_wp2_with fail
          go_at_call 34
          refine (HFA1.out _).mono ?_
          rintro e w5 ⟨rfl, hn5⟩
          have HW5 := Lib.hid (HW.out.keep hn5)
          obtain ⟨⟨e0, e1, e2⟩, e3, e4, e5⟩ := six_cells HW5.out.zo
          have f5 := frozen5 HW5.out.zo
          clear hn5
          have HX := Lib.hid (HW5.out.put rfl (six_put0 HW5.out.zo))
          go_wp2_with fail
          go_roundw
          case rel => exact ⟨1, by omega, by go_num, HX.out⟩
          case measure => simp [intOf]
        · go_wp2_with fail
          go_at_call 34
          refine (HFB1.out _).mono ?_
          rintro e w5 ⟨rfl, hn5⟩
          have HW5 := Lib.hid (HW.out.keep hn5)
          obtain ⟨⟨e0, e1, e2⟩, e3, e4, e5⟩ := six_cells HW5.out.zo
          have f5 := frozen5 HW5.out.zo
          clear hn5
          have HX := Lib.hid (HW5.out.put rfl (six_put1 HW5.out.zo))
          go_wp2_with fail
          go_roundw
          case rel => exact ⟨2, by omega, by go_num, HX.out⟩
          case measure => simp [intOf]
        · go_wp2_with fail
          go_at_call 34
          refine (HFC1.out _).mono ?_
          rintro e w5 ⟨rfl, hn5⟩
          have HW5 := Lib.hid (HW.out.keep hn5)
          obtain ⟨⟨e0, e1, e2⟩, e3, e4, e5⟩ := six_cells HW5.out.zo
          have f5 := frozen5 HW5.out.zo
          clear hn5
          have HX := Lib.hid (HW5.out.put rfl (six_put2 HW5.out.zo))
          go_wp2_with fail
          go_roundw
          case rel => exact ⟨3, by omega, by go_num, HX.out⟩
          case measure => simp [intOf]
        · obtain ⟨⟨e0, e1, e2⟩, e3, e4, e5⟩ := six_cells HW.out.zo
          have h1 := HW.out.hro
          obtain ⟨⟨hv0, hv1, hv2⟩, hv3, hv4, hv5⟩ := arr6_cells HW.out.zr
          have fr := frozen5 HW.out.zr
          have HNF := Lib.hid (fun (x : Value) (i : Nat) (V : World) (h : New w V) => h.setCell (p := ⟨RO, i, none⟩) (by show w.heap.size ≤ RO; omega) x)
          go_wp2_with fail
          exact bodyPost_ret (v := .tuple #[.agg (arr6 Q1 R1 Q2 R2 Q3 R3), .int .i64 0]) (by simp [results, Try.results12, go_sem, hv0, hv1, hv2, hv3, hv4, hv5, arr6]) rfl ⟨rfl, HNF.out _ _ _ (HNF.out _ _ _ (HNF.out _ _ _ (HNF.out _ _ _ (HNF.out _ _ _ (HNF.out _ _ _ HW.out.new)))))⟩
  · have hR : R = E := by rw [HR.out, if_pos hz]
    obtain ⟨h1, h2⟩ := HZA.out (by rw [hR]; exact hz)
    obtain ⟨h3, h4⟩ := HZB.out (by rw [hR]; exact hz)
    obtain ⟨h5, h6⟩ := HZC.out (by rw [hR]; exact hz)
    subst h1 h2 h3 h4 h5 h6 hR
    obtain ⟨⟨x0, x1, x2⟩, x3, x4, x5⟩ := arr6_cells HB3.out
    obtain ⟨⟨e0, e1, e2⟩, e3, e4, e5⟩ := arr6_cells HB2.out
    have fr := frozen5 HB2.out
    have HNF := Lib.hid (fun (x : Value) (i : Nat) (V : World) (h : New w V) => h.setCell (p := ⟨w.heap.size + 1, i, none⟩) (by show w.heap.size ≤ w.heap.size + 1; omega) x)
    go_wp2_with fail
    exact bodyPost_ret (v := .tuple #[.agg (arr6 0 0 0 0 0 0), .int .i64 R]) (by simp [results, Try.results12, go_sem, e0, e1, e2, e3, e4, e5, arr6]) rfl ⟨rfl, HNF.out _ _ _ (HNF.out _ _ _ (HNF.out _ _ _ (HNF.out _ _ _ (HNF.out _ _ _ (HNF.out _ _ _ HN2.out)))))⟩

end Go.Proofs.Ytpjekinmcdglbaa
end
