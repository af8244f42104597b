/- The law PigmentDuals. -/
import Derived.Test.YtpjekinmcdglbaaCz
import Derived.Test.YtpjekinmcdglbaaFg
set_option linter.unusedSimpArgs false
set_option linter.unusedVariables false
set_option maxRecDepth 100000
namespace Go.Proofs.Ytpjekinmcdglbaa
open Go.RowKit

theorem keep_nw {W V : World} {k : Nat} {o : Obj} (hn : New W V) (h : W.heap[k]? = some o) : V.heap[k]? = some o := (hn.below.block k (Array.getElem?_eq_some_iff.1 h).1).trans h
/-- the boxes: shade, recipe, the other recipe, dual -/
def LdW (w W : World) (a b c : Int) (rv ov : Value) (N : Nat → Int) (den : Int) : Prop :=
  New w W ∧ W.heap[w.heap.size]? = some (.cells (#[.int .i64 a, .int .i64 b, .int .i64 c] : Array Value) 37 (0, 0)) ∧ W.heap[w.heap.size + 1]? = some (.cells #[rv] 25 (0, 0)) ∧ W.heap[w.heap.size + 1 + 1]? = some (.cells #[ov] 25 (0, 0)) ∧ W.heap[w.heap.size + 1 + 1 + 1]? = some (.cells (arr5 (N 0) (N 1) (N 2) (N 3) den) 49 (0, 0))
theorem LdW.keep {w W V : World} {a b c : Int} {rv ov : Value} {N : Nat → Int} {den : Int} (h : LdW w W a b c rv ov N den) (hn : New W V) : LdW w V a b c rv ov N den :=
  ⟨h.1.trans hn, keep_nw hn h.2.1, keep_nw hn h.2.2.1, keep_nw hn h.2.2.2.1, keep_nw hn h.2.2.2.2⟩
theorem cell_f2 {W : World} {g : Nat} {a b : Int} {t : TypeId} {fr : Nat × Nat} (h : W.heap[g]? = some (.cells #[.int .i64 a, .int .i64 b] t fr)) : W.cell? ⟨g, 0, none⟩ = some (.int .i64 a) ∧ W.cell? ⟨g, 1, none⟩ = some (.int .i64 b) := by
  simp [World.cell?, h]
theorem ccB_true {T : List T5} {P : List (Int × Int)} {m n : Nat} {N : Nat → Int} {den a b c : Int} (hz : wntE T a b c m = 0) (h : ccB T P m n N den a b c = true) :
    rcpE T P m = 0 ∧ duB T m N den (lowA (sumT P (tP T) n) (sumW P n)) (lowB (sumT P (tP T) n) (sumW P n)) a b c = true := by
  unfold ccB at h
  simp only [Bool.and_eq_true] at h
  refine ⟨?_, h.2.2⟩
  unfold rcpE
  rw [(wntE_zero' hz).1, h.1]; rfl
def sm3 (e1 e2 e3 : Bool) (i : Nat) : Bool := if i = 0 then e1 else if i = 1 then e2 else e3
def LmW (w W : World) (a b c : Int) (rv ov : Value) (N : Nat → Int) (den : Int) (gA gB gC : Nat) (PA PB QA QB M1 R1 M2 R2 M3 R3 : Int) : Prop :=
  LdW w W a b c rv ov N den ∧ W.heap[gA]? = some (.cells #[.int .i64 PA, .int .i64 PB] 29 (0, 0)) ∧ W.heap[gB]? = some (.cells #[.int .i64 QA, .int .i64 QB] 29 (0, 0)) ∧ W.heap[gC]? = some (.cells (arr6 M1 R1 M2 R2 M3 R3) 30 (0, 0))
theorem LmW.keep {w W V : World} {a b c : Int} {rv ov : Value} {N : Nat → Int} {den : Int} {gA gB gC : Nat} {PA PB QA QB M1 R1 M2 R2 M3 R3 : Int} (h : LmW w W a b c rv ov N den gA gB gC PA PB QA QB M1 R1 M2 R2 M3 R3) (hn : New W V) : LmW w V a b c rv ov N den gA gB gC PA PB QA QB M1 R1 M2 R2 M3 R3 :=
  ⟨h.1.keep hn, keep_nw hn h.2.1, keep_nw hn h.2.2.1, keep_nw hn h.2.2.2⟩
set_option maxHeartbeats 32000000 in
theorem duals_c (tv pv qv : Option Addr) (m tc n pc k qc : Nat) (T : List T5) (P Q : List (Int × Int)) (a b c : Int) (N : Nat → Int) (den : Int) (w : World) (hm : m ≤ 9223372036854775807) (hTl : T.length = m) (hT : 0 < m → ∃ b off, tv = some ⟨b, off, none⟩ ∧ Tnts w b off m T)
    (hn : n ≤ 9223372036854775807) (hP : P.length = n) (hp : 0 < n → ∃ b off, pv = some ⟨b, off, none⟩ ∧ Prts w b off n P) (hk : k ≤ 9223372036854775807) (hQ : Q.length = k) (hq : 0 < k → ∃ b off, qv = some ⟨b, off, none⟩ ∧ Prts w b off k Q) :
    Calls Try.prog 7 #[.slice tv m tc, vv a b c, .agg #[.slice pv n pc], .agg #[.slice qv k qc], duV N den] w fun en w' => en = .returned (.bool true) ∧ New w w' := by
  have HTT := Lib.hid (fun (w1 : World) (h1 : New w w1) (h : 0 < m) => (by obtain ⟨b, o, e, h2⟩ := hT h; exact ⟨b, o, e, h2.new h1⟩ : ∃ b off, tv = some ⟨b, off, none⟩ ∧ Tnts w1 b off m T))
  have HPP := Lib.hid (fun (w1 : World) (h1 : New w w1) (h : 0 < n) => (by obtain ⟨b, o, e, h2⟩ := hp h; exact ⟨b, o, e, h2.new h1⟩ : ∃ b off, pv = some ⟨b, off, none⟩ ∧ Prts w1 b off n P))
  have HQQ := Lib.hid (fun (w1 : World) (h1 : New w w1) (h : 0 < k) => (by obtain ⟨b, o, e, h2⟩ := hq h; exact ⟨b, o, e, h2.new h1⟩ : ∃ b off, qv = some ⟨b, off, none⟩ ∧ Prts w1 b off k Q))
  have HFI := Lib.hid (fun (w1 : World) (h1 : New w w1) => fine_c tv m tc 14 T w1 hm (HTT.out w1 h1))
  have HMX := Lib.hid (fun (w1 : World) => mixed_c w1)
  have HLE := Lib.hid (show fineB T m 14 = true → m ≤ 14 from fun h => by have := fine_lq h; omega)
  clear hT hp hq
  generalize fineB T m 14 = fb at *
  go_enter Try.func7, Try.ntmps7
  go_wp2_with fail
  go_at_call 9
  obtain ⟨W1, hW1⟩ : ∃ W1, W1 = (((w.alloc (.cells #[.int .i64 a, .int .i64 b, .int .i64 c] 37)).alloc (.cells #[.slice pv n pc] 25)).alloc (.cells #[.slice qv k qc] 25)).alloc (.cells (arr5 (N 0) (N 1) (N 2) (N 3) den) 49) := ⟨_, rfl⟩
  have hc1 : LdW w W1 a b c (.slice pv n pc) (.slice qv k qc) N den := by
    rw [hW1]; exact ⟨(((((New.refl _).alloc _).alloc _).alloc _).alloc _), (alloc4_heap w _ _ _ _).1, (alloc4_heap w _ _ _ _).2.1, (alloc4_heap w _ _ _ _).2.2.1, (alloc4_heap w _ _ _ _).2.2.2⟩
  unfold arr5 at hW1
  rw [← hW1]
  refine (HFI.out _ hc1.1).mono ?_
  rintro e w1 ⟨rfl, hn1⟩
  have HL1 := Lib.hid (hc1.keep hn1)
  clear hW1 hc1 hn1 HFI
  cases fb
  · go_wp2_with fail
    go_at_call 10
    refine (HMX.out _).mono ?_
    rintro e w2 ⟨rfl, hn2⟩
    have HN2 := Lib.hid (HL1.out.1.trans hn2)
    clear hn2
    go_wp2_with fail
    all_goals (go_ret; exact ⟨rfl, HN2.out⟩)
  · have h14 := HLE.out rfl
    have r1 := (box_cell HL1.out.2.2.1).1
    have r2 := (box_cell HL1.out.2.2.2.1).1
    by_cases g1 : (6 : Int) < (n : Int)
    · go_wp2_with fail
      go_at_call 10
      refine (HMX.out _).mono ?_
      rintro e w2 ⟨rfl, hn2⟩
      have HN2 := Lib.hid (HL1.out.1.trans hn2)
      clear hn2
      go_wp2_with fail
      all_goals (go_ret; exact ⟨rfl, HN2.out⟩)
    · by_cases g2 : (6 : Int) < (k : Int)
      · go_wp2_with fail
        go_at_call 10
        refine (HMX.out _).mono ?_
        rintro e w2 ⟨rfl, hn2⟩
        have HN2 := Lib.hid (HL1.out.1.trans hn2)
        clear hn2
        go_wp2_with fail
        all_goals (go_ret; exact ⟨rfl, HN2.out⟩)
      · have HCA := Lib.hid (fun (w1 : World) (h1 : New w w1) => checkCheapest_c tv pv m tc n pc T P a b c N den w1 (by omega) (by omega) hTl (HTT.out w1 h1) hP (HPP.out w1 h1))
        have HCB := Lib.hid (fun (w1 : World) (h1 : New w w1) => ref_checkCheapest tv pv m tc n pc T P a b c N den w1 (by omega) (by omega) hTl (HTT.out w1 h1) hP (HPP.out w1 h1))
        have HPA := Lib.hid (fun (w1 : World) (h1 : New w w1) => Price_c tv pv m tc n pc T P w1 (by omega) (by omega) hTl (HTT.out w1 h1) hP (HPP.out w1 h1))
        have HPB := Lib.hid (fun (w1 : World) (h1 : New w w1) => Price_c tv qv m tc k qc T Q w1 (by omega) (by omega) hTl (HTT.out w1 h1) hQ (HQQ.out w1 h1))
        have HMB := Lib.hid (fun (w1 : World) (h1 : New w w1) => Mix_c tv qv m tc k qc T Q w1 (by omega) (by omega) hTl (HTT.out w1 h1) hQ (HQQ.out w1 h1))
        have HOK := Lib.hid (fun (h : (decide (wntE T a b c m = 0) && ccB T P m n N den a b c) = true) => (by
          simp only [Bool.and_eq_true, decide_eq_true_eq] at h
          have h2 := ccB_true (n := n) h.1 h.2
          exact ⟨h.1, h2.1, h2.2, vr_of hTl hP h2.1⟩ : wntE T a b c m = 0 ∧ rcpE T P m = 0 ∧ duB T m N den (lowA (sumT P (tP T) n) (sumW P n)) (lowB (sumT P (tP T) n) (sumW P n)) a b c = true ∧ Vr T m P n))
        have HVQ := Lib.hid (fun (h : rcpE T Q m = 0) => vr_of hTl hQ h)
        clear HTT HPP HQQ HLE
        obtain ⟨cr, hcr⟩ : ∃ cr, cr = (decide (wntE T a b c m = 0) && ccB T P m n N den a b c) := ⟨_, rfl⟩
        rw [← hcr] at HCA HCB HOK
        clear hcr
        obtain ⟨⟨d0, d1, d2⟩, d3, d4⟩ := cell5 HL1.out.2.2.2.2
        obtain ⟨x1, x2, x3⟩ := cell_v3 HL1.out.2.1
        go_wp2_with fail
        go_at_call 23
        refine (HCA.out _ HL1.out.1).mono ?_
        rintro e w2 ⟨rfl, hn2⟩
        have HL2 := Lib.hid (HL1.out.keep hn2)
        clear hn2 d0 d1 d2 d3 d4 x1 x2 x3 r1 r2 HL1 HCA
        obtain ⟨⟨d0, d1, d2⟩, d3, d4⟩ := cell5 HL2.out.2.2.2.2
        obtain ⟨x1, x2, x3⟩ := cell_v3 HL2.out.2.1
        have r1 := (box_cell HL2.out.2.2.1).1
        go_wp2_with fail
        go_at_call 24
        refine (HCB.out _ HL2.out.1).mono ?_
        rintro e w3 ⟨rfl, hn3⟩
        have HL3 := Lib.hid (HL2.out.keep hn3)
        clear hn3 d0 d1 d2 d3 d4 x1 x2 x3 r1 HL2 HCB
        cases cr
        · go_wp2_with fail
          refine (HMX.out _).mono ?_
          rintro e w4 ⟨rfl, hn4⟩
          have HN4 := Lib.hid (HL3.out.1.trans hn4)
          clear hn4
          go_wp2_with fail
          all_goals (go_ret; exact ⟨rfl, HN4.out⟩)
        · obtain ⟨hz, hE, hdu, hvp⟩ := HOK.out rfl
          have HDU := Lib.hid hdu
          have HVP := Lib.hid hvp
          have hpa : priA T P m n = lowA (sumT P (tP T) n) (sumW P n) := by unfold priA; rw [if_pos hE]
          have hpb : priB T P m n = lowB (sumT P (tP T) n) (sumW P n) := by unfold priB; rw [if_pos hE]
          rw [hpa, hpb, hE] at HPA
          clear hdu hvp hpa hpb hE HOK
          rw [hz] at *
          obtain ⟨EQ, hEQ⟩ : ∃ EQ, EQ = rcpE T Q m := ⟨_, rfl⟩
          have HLS := Lib.hid (fun (h0 : EQ = 0) (q : (mixQ T Q m k (tA T) = a ∧ mixR T Q m k (tA T) = 1) ∧ (mixQ T Q m k (tB T) = b ∧ mixR T Q m k (tB T) = 1) ∧ (mixQ T Q m k (tC T) = c ∧ mixR T Q m k (tC T) = 1)) (w1 : World) => (by
            have h1 : rcpE T Q m = 0 := hEQ.symm.trans h0
            have vq := HVQ.out h1
            have vp := HVP.out
            unfold mixQ mixR at q
            simp only [if_pos h1] at q
            have hl := less_c _ _ _ _ w1 vq.ba vq.bb vp.ba vp.bb
            rw [dual_shows vp vq HDU.out q.1 q.2.1 q.2.2] at hl
            have e1 : priA T Q m k = lowA (sumT Q (tP T) k) (sumW Q k) := by unfold priA; rw [if_pos h1]
            have e2 : priB T Q m k = lowB (sumT Q (tP T) k) (sumW Q k) := by unfold priB; rw [if_pos h1]
            rw [e1, e2]
            exact hl :
            Calls Try.prog 25 #[fv (priA T Q m k) (priB T Q m k), fv (lowA (sumT P (tP T) n) (sumW P n)) (lowB (sumT P (tP T) n) (sumW P n))] w1 fun en w' => en = .returned (.bool false) ∧ New w1 w'))
          rw [← hEQ] at HPB HMB
          have HMV := Lib.hid (show mixV T Q m k = .agg (arr6 (mixQ T Q m k (tA T)) (mixR T Q m k (tA T)) (mixQ T Q m k (tB T)) (mixR T Q m k (tB T)) (mixQ T Q m k (tC T)) (mixR T Q m k (tC T))) from rfl)
          rw [HMV.out] at HMB
          clear HVQ HVP HDU hEQ HMV hz
          generalize lowA (sumT P (tP T) n) (sumW P n) = PA at *
          generalize lowB (sumT P (tP T) n) (sumW P n) = PB at *
          generalize priA T Q m k = QA at *
          generalize priB T Q m k = QB at *
          generalize mixQ T Q m k (tA T) = M1 at *
          generalize mixR T Q m k (tA T) = R1 at *
          generalize mixQ T Q m k (tB T) = M2 at *
          generalize mixR T Q m k (tB T) = R2 at *
          generalize mixQ T Q m k (tC T) = M3 at *
          generalize mixR T Q m k (tC T) = R3 at *
          have r1 := (box_cell HL3.out.2.2.1).1
          go_upto_region 9 with fail
          go_wp2_with fail
          go_at_call 13
          refine (HPA.out _ HL3.out.1).mono ?_
          rintro e w4 ⟨rfl, hn4⟩
          clear r1
          obtain ⟨U5, hU5⟩ : ∃ U5, U5 = w4.alloc (.cells #[.int .i64 PA, .int .i64 PB] 29) := ⟨_, rfl⟩
          have hn5 : New w3 U5 := by rw [hU5]; exact hn4.alloc _
          have HL5 := Lib.hid (HL3.out.keep hn5)
          have HA5 := Lib.hid (show U5.heap[w4.heap.size]? = some (.cells #[.int .i64 PA, .int .i64 PB] 29 (0, 0)) by rw [hU5]; exact heap_alloc_new _ _)
          go_upto_region 10 with fail
          rw [← hU5]
          clear hU5 hn5 hn4 HL3 HPA
          generalize w4.heap.size = gA at *
          have r1 := (box_cell HL5.out.2.2.2.1).1
          go_wp2_with fail
          go_at_call 13
          refine (HPB.out _ HL5.out.1).mono ?_
          rintro e w6 ⟨rfl, hn6⟩
          clear r1
          obtain ⟨U7, hU7⟩ : ∃ U7, U7 = w6.alloc (.cells #[.int .i64 QA, .int .i64 QB] 29) := ⟨_, rfl⟩
          have hn7 : New U5 U7 := by rw [hU7]; exact hn6.alloc _
          have HL7 := Lib.hid (HL5.out.keep hn7)
          have HA7 := Lib.hid (keep_nw hn7 HA5.out)
          have HB7 := Lib.hid (show U7.heap[w6.heap.size]? = some (.cells #[.int .i64 QA, .int .i64 QB] 29 (0, 0)) by rw [hU7]; exact heap_alloc_new _ _)
          go_upto_region 11 with fail
          rw [← hU7]
          clear hU7 hn7 hn6 HL5 HA5 HPB
          generalize w6.heap.size = gB at *
          have r1 := (box_cell HL7.out.2.2.2.1).1
          go_wp2_with fail
          go_at_call 11
          refine (HMB.out _ HL7.out.1).mono ?_
          rintro e w8 ⟨rfl, hn8⟩
          clear r1
          obtain ⟨U9, hU9⟩ : ∃ U9, U9 = w8.alloc (.cells (arr6 M1 R1 M2 R2 M3 R3) 30) := ⟨_, rfl⟩
          have hn9 : New U7 U9 := by rw [hU9]; exact hn8.alloc _
          have HM9 := Lib.hid (show LmW w U9 a b c (.slice pv n pc) (.slice qv k qc) N den gA gB w8.heap.size PA PB QA QB M1 R1 M2 R2 M3 R3 from ⟨HL7.out.keep hn9, keep_nw hn9 HA7.out, keep_nw hn9 HB7.out, by rw [hU9]; exact heap_alloc_new _ _⟩)
          unfold arr6 at hU9
          unfold arr6
          go_upto_region 12 with fail
          rw [← hU9]
          clear hU9 hn9 hn8 HL7 HA7 HB7 HMB
          generalize w8.heap.size = gC at *
          obtain ⟨e1, he1⟩ : ∃ e1, e1 = (M1 == a && R1 == 1) := ⟨_, rfl⟩
          obtain ⟨e2, he2⟩ : ∃ e2, e2 = (M2 == b && R2 == 1) := ⟨_, rfl⟩
          obtain ⟨e3, he3⟩ : ∃ e3, e3 = (M3 == c && R3 == 1) := ⟨_, rfl⟩
          have HLX := Lib.hid (fun (h0 : EQ = 0) (q1 : e1 = true) (q2 : e2 = true) (q3 : e3 = true) => HLS.out h0 (by
            rw [he1] at q1; rw [he2] at q2; rw [he3] at q3
            simp only [Bool.and_eq_true, beq_iff_eq] at q1 q2 q3
            exact ⟨q1, q2, q3⟩))
          have HF1 := Lib.hid (fun w0 : World => eql_frac M1 R1 a 1 w0)
          have HF2 := Lib.hid (fun w0 : World => eql_frac M2 R2 b 1 w0)
          have HF3 := Lib.hid (fun w0 : World => eql_frac M3 R3 c 1 w0)
          rw [← he1] at HF1
          rw [← he2] at HF2
          rw [← he3] at HF3
          clear he1 he2 he3 HLS
          obtain ⟨S0, hS0⟩ : ∃ S0, S0 = decide (EQ = 0) := ⟨_, rfl⟩
          have HS0 := Lib.hid (fun (h : S0 = true) => (by rw [hS0] at h; simpa using h : EQ = 0))
          have HSX := Lib.hid hS0
          clear hS0
          by_cases hq0 : EQ = 0
          · obtain rfl : S0 = true := by rw [HSX.out, decide_eq_true hq0]
            subst hq0
            go_wp2_with fail
            go_loopw [21, 22] (fun s t wr => ∃ (j : Nat) (sb : Bool), j ≤ 3 ∧ t = .int .i64 j ∧ s = .bool sb ∧ sb = (true && (List.range j).all (sm3 e1 e2 e3)) ∧ LmW w wr a b c (.slice pv n pc) (.slice qv k qc) N den gA gB gC PA PB QA QB M1 R1 M2 R2 M3 R3) (fun _ t _ => 3 - (intOf t).toNat)
            case atStart => exact ⟨0, true, by omega, rfl, rfl, by simp, HM9.out⟩
            case round =>
              obtain ⟨j, sb, hj, rfl, rfl, hsb, hw⟩ := hrel
              have HSB := Lib.hid hsb
              have HV := Lib.hid hw
              clear hsb hw HM9
              have HSN := Lib.hid (all_snoc (sm3 e1 e2 e3) j)
              by_cases hlt : j < 3
              · obtain ⟨⟨s0, s1, s2⟩, s3, s4, s5⟩ := arr6_cells HV.out.2.2.2
                obtain ⟨t0, t1, t2⟩ := cell_v3 HV.out.1.2.1
                have hg1 := (Array.getElem?_eq_some_iff.1 HV.out.2.2.2).1
                have hg2 := (Array.getElem?_eq_some_iff.1 HV.out.1.2.1).1
                have h3 : j = 0 ∨ j = 1 ∨ j = 2 := by omega
                rcases h3 with rfl | rfl | rfl
                · have r := HF1.out
                  cases sb
                  · go_upto_region 18 with fail
                    first | refine wp_region_at2 (by kernel_rfl) (by kernel_rfl) ?_ | refine wp_region_at (by kernel_rfl) (by kernel_rfl) ?_
                    repeat (go_big_quiet_step (fail))
                    refine wpQuiet_nil ?_
                    rintro U3 hq
                    have HU := Lib.hid (HV.out.keep (show New wr U3 from hq))
                    clear hq s0 s1 s2 s3 s4 s5 t0 t1 t2
                    go_wp2_with fail
                    go_roundw
                    case rel => exact ⟨1, false, by omega, by go_num, rfl, by rw [HSN.out, ← Bool.and_assoc, ← HSB.out]; rfl, HU.out⟩
                    case measure => simp [intOf]
                  · go_upto_region 18 with fail
                    first | refine wp_region_at2 (by kernel_rfl) (by kernel_rfl) ?_ | refine wp_region_at (by kernel_rfl) (by kernel_rfl) ?_
                    repeat (go_big_quiet_step (fail))
                    refine wpQuiet_nil ?_
                    rintro U3 hq
                    have HU := Lib.hid (HV.out.keep (show New wr U3 from hq))
                    clear hq s0 s1 s2 s3 s4 s5 t0 t1 t2
                    go_wp2_with fail
                    go_roundw
                    case rel => exact ⟨1, e1, by omega, by go_num, rfl, by rw [HSN.out, ← Bool.and_assoc, ← HSB.out]; rfl, HU.out⟩
                    case measure => simp [intOf]
                · have r := HF2.out
                  cases sb
                  · go_upto_region 18 with fail
                    first | refine wp_region_at2 (by kernel_rfl) (by kernel_rfl) ?_ | refine wp_region_at (by kernel_rfl) (by kernel_rfl) ?_
                    repeat (go_big_quiet_step (fail))
                    refine wpQuiet_nil ?_
                    rintro U3 hq
                    have HU := Lib.hid (HV.out.keep (show New wr U3 from hq))
                    clear hq s0 s1 s2 s3 s4 s5 t0 t1 t2
                    go_wp2_with fail
                    go_roundw
                    case rel => exact ⟨2, false, by omega, by go_num, rfl, by rw [HSN.out, ← Bool.and_assoc, ← HSB.out]; rfl, HU.out⟩
                    case measure => simp [intOf]
                  · go_upto_region 18 with fail
                    first | refine wp_region_at2 (by kernel_rfl) (by kernel_rfl) ?_ | refine wp_region_at (by kernel_rfl) (by kernel_rfl) ?_
                    repeat (go_big_quiet_step (fail))
                    refine wpQuiet_nil ?_
                    rintro U3 hq
                    have HU := Lib.hid (HV.out.keep (show New wr U3 from hq))
                    clear hq s0 s1 s2 s3 s4 s5 t0 t1 t2
                    go_wp2_with fail
                    go_roundw
                    case rel => exact ⟨2, e2, by omega, by go_num, rfl, by rw [HSN.out, ← Bool.and_assoc, ← HSB.out]; rfl, HU.out⟩
                    case measure => simp [intOf]
                · have r := HF3.out
                  cases sb
                  · go_upto_region 18 with fail
                    first | refine wp_region_at2 (by kernel_rfl) (by kernel_rfl) ?_ | refine wp_region_at (by kernel_rfl) (by kernel_rfl) ?_
                    repeat (go_big_quiet_step (fail))
                    refine wpQuiet_nil ?_
                    rintro U3 hq
                    have HU := Lib.hid (HV.out.keep (show New wr U3 from hq))
                    clear hq s0 s1 s2 s3 s4 s5 t0 t1 t2
                    go_wp2_with fail
                    go_roundw
                    case rel => exact ⟨3, false, by omega, by go_num, rfl, by rw [HSN.out, ← Bool.and_assoc, ← HSB.out]; rfl, HU.out⟩
                    case measure => simp [intOf]
                  · go_upto_region 18 with fail
                    first | refine wp_region_at2 (by kernel_rfl) (by kernel_rfl) ?_ | refine wp_region_at (by kernel_rfl) (by kernel_rfl) ?_
                    repeat (go_big_quiet_step (fail))
                    refine wpQuiet_nil ?_
                    rintro U3 hq
                    have HU := Lib.hid (HV.out.keep (show New wr U3 from hq))
                    clear hq s0 s1 s2 s3 s4 s5 t0 t1 t2
                    go_wp2_with fail
                    go_roundw
                    case rel => exact ⟨3, e3, by omega, by go_num, rfl, by rw [HSN.out, ← Bool.and_assoc, ← HSB.out]; rfl, HU.out⟩
                    case measure => simp [intOf]
              · obtain rfl : j = 3 := by omega
                have hk1 : ¬ ((3 : Nat) : Int) < 3 := by omega
                cases sb
                · go_wp2_with fail
                  go_at_call 10
                  refine (HMX.out _).mono ?_
                  rintro e w9 ⟨rfl, hn9⟩
                  have HN9 := Lib.hid (HV.out.1.1.trans hn9)
                  clear hn9
                  go_wp2_with fail
                  all_goals (go_ret; exact ⟨rfl, HN9.out⟩)
                · have hall : (true && sm3 e1 e2 e3 0 && sm3 e1 e2 e3 1 && sm3 e1 e2 e3 2) = true := by
                    have := HSB.out
                    simp [List.range_succ] at this
                    simp [this]
                  simp only [Bool.and_eq_true] at hall
                  obtain ⟨⟨⟨a0, a1⟩, a2⟩, a3⟩ := hall
                  have HLC := Lib.hid (HLX.out (HS0.out a0) a1 a2 a3)
                  obtain ⟨x1, x2⟩ := cell_f2 HV.out.2.1
                  obtain ⟨y1, y2⟩ := cell_f2 HV.out.2.2.1
                  clear a0 a1 a2 a3 HLX
                  go_wp2_with fail
                  go_at_call 25
                  refine (HLC.out _).mono ?_
                  rintro e w8 ⟨rfl, hn8⟩
                  have HN8 := Lib.hid (HV.out.1.1.trans hn8)
                  clear hn8 x1 x2 y1 y2
                  go_wp2_with fail
                  go_at_call 10
                  refine (HMX.out _).mono ?_
                  rintro e w9 ⟨rfl, hn9⟩
                  have HN9 := Lib.hid (HN8.out.trans hn9)
                  clear hn9
                  go_wp2_with fail
                  all_goals (go_ret; exact ⟨rfl, HN9.out⟩)
          · obtain rfl : S0 = false := by rw [HSX.out, decide_eq_false hq0]
            have hEn : (EQ = 0) = False := eq_false hq0
            have hEb : (EQ == 0) = false := by simpa using hq0
            go_wp2_with fail
            go_loopw [21, 22] (fun s t wr => ∃ (j : Nat) (sb : Bool), j ≤ 3 ∧ t = .int .i64 j ∧ s = .bool sb ∧ sb = (false && (List.range j).all (sm3 e1 e2 e3)) ∧ LmW w wr a b c (.slice pv n pc) (.slice qv k qc) N den gA gB gC PA PB QA QB M1 R1 M2 R2 M3 R3) (fun _ t _ => 3 - (intOf t).toNat)
            case atStart => exact ⟨0, false, by omega, rfl, rfl, by simp, HM9.out⟩
            case round =>
              obtain ⟨j, sb, hj, rfl, rfl, hsb, hw⟩ := hrel
              have HSB := Lib.hid hsb
              have HV := Lib.hid hw
              clear hsb hw HM9
              have HSN := Lib.hid (all_snoc (sm3 e1 e2 e3) j)
              by_cases hlt : j < 3
              · obtain ⟨⟨s0, s1, s2⟩, s3, s4, s5⟩ := arr6_cells HV.out.2.2.2
                obtain ⟨t0, t1, t2⟩ := cell_v3 HV.out.1.2.1
                have hg1 := (Array.getElem?_eq_some_iff.1 HV.out.2.2.2).1
                have hg2 := (Array.getElem?_eq_some_iff.1 HV.out.1.2.1).1
                have h3 : j = 0 ∨ j = 1 ∨ j = 2 := by omega
                rcases h3 with rfl | rfl | rfl
                · have r := HF1.out
                  cases sb
                  · go_upto_region 18 with fail
                    first | refine wp_region_at2 (by kernel_rfl) (by kernel_rfl) ?_ | refine wp_region_at (by kernel_rfl) (by kernel_rfl) ?_
                    repeat (go_big_quiet_step (fail))
                    refine wpQuiet_nil ?_
                    rintro U3 hq
                    have HU := Lib.hid (HV.out.keep (show New wr U3 from hq))
                    clear hq s0 s1 s2 s3 s4 s5 t0 t1 t2
                    go_wp2_with fail
                    go_roundw
                    case rel => exact ⟨1, false, by omega, by go_num, rfl, by rw [HSN.out, ← Bool.and_assoc, ← HSB.out]; rfl, HU.out⟩
                    case measure => simp [intOf]
                  · go_upto_region 18 with fail
                    first | refine wp_region_at2 (by kernel_rfl) (by kernel_rfl) ?_ | refine wp_region_at (by kernel_rfl) (by kernel_rfl) ?_
                    repeat (go_big_quiet_step (fail))
                    refine wpQuiet_nil ?_
                    rintro U3 hq
                    have HU := Lib.hid (HV.out.keep (show New wr U3 from hq))
                    clear hq s0 s1 s2 s3 s4 s5 t0 t1 t2
                    go_wp2_with fail
                    go_roundw
                    case rel => exact ⟨1, e1, by omega, by go_num, rfl, by rw [HSN.out, ← Bool.and_assoc, ← HSB.out]; rfl, HU.out⟩
                    case measure => simp [intOf]
                · have r := HF2.out
                  cases sb
                  · go_upto_region 18 with fail
                    first | refine wp_region_at2 (by kernel_rfl) (by kernel_rfl) ?_ | refine wp_region_at (by kernel_rfl) (by kernel_rfl) ?_
                    repeat (go_big_quiet_step (fail))
                    refine wpQuiet_nil ?_
                    rintro U3 hq
                    have HU := Lib.hid (HV.out.keep (show New wr U3 from hq))
                    clear hq s0 s1 s2 s3 s4 s5 t0 t1 t2
                    go_wp2_with fail
                    go_roundw
                    case rel => exact ⟨2, false, by omega, by go_num, rfl, by rw [HSN.out, ← Bool.and_assoc, ← HSB.out]; rfl, HU.out⟩
                    case measure => simp [intOf]
                  · go_upto_region 18 with fail
                    first | refine wp_region_at2 (by kernel_rfl) (by kernel_rfl) ?_ | refine wp_region_at (by kernel_rfl) (by kernel_rfl) ?_
                    repeat (go_big_quiet_step (fail))
                    refine wpQuiet_nil ?_
                    rintro U3 hq
                    have HU := Lib.hid (HV.out.keep (show New wr U3 from hq))
                    clear hq s0 s1 s2 s3 s4 s5 t0 t1 t2
                    go_wp2_with fail
                    go_roundw
                    case rel => exact ⟨2, e2, by omega, by go_num, rfl, by rw [HSN.out, ← Bool.and_assoc, ← HSB.out]; rfl, HU.out⟩
                    case measure => simp [intOf]
                · have r := HF3.out
                  cases sb
                  · go_upto_region 18 with fail
                    first | refine wp_region_at2 (by kernel_rfl) (by kernel_rfl) ?_ | refine wp_region_at (by kernel_rfl) (by kernel_rfl) ?_
                    repeat (go_big_quiet_step (fail))
                    refine wpQuiet_nil ?_
                    rintro U3 hq
                    have HU := Lib.hid (HV.out.keep (show New wr U3 from hq))
                    clear hq s0 s1 s2 s3 s4 s5 t0 t1 t2
                    go_wp2_with fail
                    go_roundw
                    case rel => exact ⟨3, false, by omega, by go_num, rfl, by rw [HSN.out, ← Bool.and_assoc, ← HSB.out]; rfl, HU.out⟩
                    case measure => simp [intOf]
                  · go_upto_region 18 with fail
                    first | refine wp_region_at2 (by kernel_rfl) (by kernel_rfl) ?_ | refine wp_region_at (by kernel_rfl) (by kernel_rfl) ?_
                    repeat (go_big_quiet_step (fail))
                    refine wpQuiet_nil ?_
                    rintro U3 hq
                    have HU := Lib.hid (HV.out.keep (show New wr U3 from hq))
                    clear hq s0 s1 s2 s3 s4 s5 t0 t1 t2
                    go_wp2_with fail
                    go_roundw
                    case rel => exact ⟨3, e3, by omega, by go_num, rfl, by rw [HSN.out, ← Bool.and_assoc, ← HSB.out]; rfl, HU.out⟩
                    case measure => simp [intOf]
              · obtain rfl : j = 3 := by omega
                have hk1 : ¬ ((3 : Nat) : Int) < 3 := by omega
                cases sb
                · go_wp2_with fail
                  go_at_call 10
                  refine (HMX.out _).mono ?_
                  rintro e w9 ⟨rfl, hn9⟩
                  have HN9 := Lib.hid (HV.out.1.1.trans hn9)
                  clear hn9
                  go_wp2_with fail
                  all_goals (go_ret; exact ⟨rfl, HN9.out⟩)
                · exact absurd HSB.out (by simp)

theorem duals_d (tv pv qv : Option Addr) (m tc n pc k qc : Nat) (T : List T5) (P Q : List (Int × Int)) (a b c n0 n1 n2 n3 den : Int) (w : World) (hm : m ≤ 9223372036854775807) (hTl : T.length = m) (hT : 0 < m → ∃ b off, tv = some ⟨b, off, none⟩ ∧ Tnts w b off m T)
    (hn : n ≤ 9223372036854775807) (hP : P.length = n) (hp : 0 < n → ∃ b off, pv = some ⟨b, off, none⟩ ∧ Prts w b off n P) (hk : k ≤ 9223372036854775807) (hQ : Q.length = k) (hq : 0 < k → ∃ b off, qv = some ⟨b, off, none⟩ ∧ Prts w b off k Q) :
    Calls Try.prog 7 #[.slice tv m tc, vv a b c, .agg #[.slice pv n pc], .agg #[.slice qv k qc], .agg #[.int .i64 n0, .int .i64 n1, .int .i64 n2, .int .i64 n3, .int .i64 den]] w fun en w' => en = .returned (.bool true) ∧ New w w' :=
  duals_c tv pv qv m tc n pc k qc T P Q a b c (fun j => if j = 0 then n0 else if j = 1 then n1 else if j = 2 then n2 else n3) den w hm hTl hT hn hP hp hk hQ hq

end Go.Proofs.Ytpjekinmcdglbaa
