/- The law PigmentGives. -/
import Derived.Test.YtpjekinmcdglbaaCz
import Derived.Test.YtpjekinmcdglbaaEi
import Derived.Test.YtpjekinmcdglbaaEh
set_option linter.unusedSimpArgs false
set_option linter.unusedVariables false
set_option maxRecDepth 100000
namespace Go.Proofs.Ytpjekinmcdglbaa
open Go.RowKit

/-- the boxes of the shade and of the further tint -/
def GwW (w W : World) (a b c : Int) (S : ByteArray) (A B D P : Int) : Prop :=
  New w W ∧ W.heap[w.heap.size]? = some (.cells (#[.int .i64 a, .int .i64 b, .int .i64 c] : Array Value) 37 (0, 0)) ∧ W.heap[w.heap.size + 1]? = some (.cells (#[.string S, .int .i64 A, .int .i64 B, .int .i64 D, .int .i64 P] : Array Value) 59 (0, 0))
theorem GwW.keep {w W V : World} {a b c : Int} {S : ByteArray} {A B D P : Int} (h : GwW w W a b c S A B D P) (hn : New W V) : GwW w V a b c S A B D P := by
  have hk : ∀ k o, W.heap[k]? = some o → V.heap[k]? = some o := fun k o h => (hn.below.block k (Array.getElem?_eq_some_iff.1 h).1).trans h
  exact ⟨h.1.trans hn, hk _ _ h.2.1, hk _ _ h.2.2⟩
theorem cell_t5 {W : World} {g : Nat} {S : ByteArray} {A B D P : Int} {t : TypeId} {fr : Nat × Nat} (h : W.heap[g]? = some (.cells #[.string S, .int .i64 A, .int .i64 B, .int .i64 D, .int .i64 P] t fr)) : (W.cell? ⟨g, 0, none⟩ = some (.string S) ∧ W.cell? ⟨g, 1, none⟩ = some (.int .i64 A) ∧ W.cell? ⟨g, 2, none⟩ = some (.int .i64 B)) ∧ W.cell? ⟨g, 3, none⟩ = some (.int .i64 D) ∧ W.cell? ⟨g, 4, none⟩ = some (.int .i64 P) := by
  simp [World.cell?, h]
theorem keep_new {W V : World} {k : Nat} {o : Obj} (hn : New W V) (h : W.heap[k]? = some o) : V.heap[k]? = some o := (hn.below.block k (Array.getElem?_eq_some_iff.1 h).1).trans h

set_option maxHeartbeats 32000000 in
theorem gives_c (tv : Option Addr) (m tc : Nat) (T : List T5) (a b c : Int) (S : ByteArray) (A B D P : Int) (w : World) (hm : m ≤ 9223372036854775807) (hTl : T.length = m) (hT : 0 < m → ∃ b off, tv = some ⟨b, off, none⟩ ∧ Tnts w b off m T) :
    Calls Try.prog 8 #[.slice tv m tc, vv a b c, tv5 S A B D P] w fun en w' => en = .returned (.bool true) ∧ New w w' := by
  have HTT := Lib.hid (fun (w1 : World) (h1 : New w w1) (h : 0 < m) => (by obtain ⟨b, o, e, h2⟩ := hT h; exact ⟨b, o, e, h2.new h1⟩ : ∃ b off, tv = some ⟨b, off, none⟩ ∧ Tnts w1 b off m T))
  have HFI := Lib.hid (fun (w1 : World) (h1 : New w w1) => fine_c tv m tc 6 T w1 hm (HTT.out w1 h1))
  have HMX := Lib.hid (fun (w1 : World) => mixed_c w1)
  have HLE := Lib.hid (show fineB T m 6 = true → m ≤ 6 from fun h => by have := fine_le h; omega)
  clear hT
  generalize fineB T m 6 = fb at *
  go_enter Try.func8, Try.ntmps8
  go_wp2_with fail
  go_at_call 9
  refine (HFI.out _ (((New.refl w).alloc _).alloc _)).mono ?_
  rintro e w1 ⟨rfl, hn1⟩
  have hP0 : ((w.alloc (.cells #[.int .i64 a, .int .i64 b, .int .i64 c] 37)).alloc (.cells #[.string S, .int .i64 A, .int .i64 B, .int .i64 D, .int .i64 P] 59)).heap[w.heap.size + 1]? = some (.cells #[.string S, .int .i64 A, .int .i64 B, .int .i64 D, .int .i64 P] 59 (0, 0)) := alloc2_new rfl
  have HW1 := Lib.hid (show GwW w w1 a b c S A B D P from ⟨(((New.refl w).alloc _).alloc _).trans hn1, (hn1.below.block _ (by simp <;> omega)).trans ((Below.heap_alloc _ _ _ (by simp)).trans (heap_alloc_new _ _)), (hn1.below.block _ (Array.getElem?_eq_some_iff.1 hP0).1).trans hP0⟩)
  clear hn1 hP0
  cases fb
  · go_wp2_with fail
    go_at_call 10
    refine (HMX.out _).mono ?_
    rintro e w2 ⟨rfl, hn2⟩
    have HN2 := Lib.hid (HW1.out.1.trans hn2)
    clear hn2
    go_wp2_with fail
    all_goals (go_ret; exact ⟨rfl, HN2.out⟩)
  · have h6 := HLE.out rfl
    obtain ⟨⟨k0, _, _⟩, _, _⟩ := cell_t5 HW1.out.2.2
    by_cases h60 : (60 : Int) < (S.size : Int)
    · go_wp2_with fail
      go_at_call 10
      refine (HMX.out _).mono ?_
      rintro e w2 ⟨rfl, hn2⟩
      have HN2 := Lib.hid (HW1.out.1.trans hn2)
      clear hn2
      go_wp2_with fail
      all_goals (go_ret; exact ⟨rfl, HN2.out⟩)
    · obtain ⟨k1, k2, k3⟩ := cell_v3 HW1.out.2.1
      have HRE := Lib.hid (reach_any tv m tc T a b c w1 (by omega) hTl (HTT.out w1 HW1.out.1))
      have HGF := Lib.hid (fun (h : isOf T m a b c = true) => gives_first hTl h)
      have HGM := Lib.hid (fun (h : isOf T m a b c = true) hz => gives_more (S, A, B, D, P) hTl h hz)
      have HNL := Lib.hid (fun (h : isOf T m a b c = false) => rOf_nil h)
      have HER := Lib.hid (fun (h : wntE T a b c m ≠ 0) => isOf_err h)
      have HCH := Lib.hid (fun (w2 : World) (h2 : New w w2) => cheap_any tv m tc T a b c w2 (by omega) hTl (HTT.out w2 h2))
      go_wp2_with fail
      go_at_call 15
      refine HRE.out.mono ?_
      rintro e w2 ⟨v, rfl, ⟨sv, cap, rfl, hpv⟩, hn2⟩
      have HRO := Lib.hid (show RO w2 (.agg #[.slice sv (rOf T m a b c).length cap]) (rOf T m a b c) from ⟨sv, cap, rfl, hpv⟩)
      have HW2 := Lib.hid (HW1.out.keep hn2)
      clear hn2 hpv k0 k1 k2 k3 HRE
      generalize hX : rOf T m a b c = X at *
      generalize hY : cOf T m a b c = Y at *
      generalize hI : isOf T m a b c = is at *
      generalize hE : wntE T a b c m = E at *
      generalize hF : ceOf T m a b c = F at *
      clear hX hY hI hE hF
      cases is
      · obtain rfl : X = [] := HNL.out rfl
        obtain ⟨U3, hU3⟩ : ∃ U3, U3 = w2.alloc (.cells #[.slice sv (([] : List (Int × Int)).length) cap] 25) := ⟨_, rfl⟩
        have HU3 := Lib.hid (HW2.out.keep (show New w2 U3 by rw [hU3]; exact (New.refl _).alloc _))
        have HB3 := Lib.hid (show U3.heap[w2.heap.size]? = some (.cells #[.slice sv 0 cap] 25 (0, 0)) by rw [hU3]; exact heap_alloc_new _ _)
        simp only [List.length_nil] at hU3
        by_cases hz : E = 0
        · subst hz
          go_wp2_with fail
          go_at_call 10
          rw [← hU3]
          refine (HMX.out _).mono ?_
          rintro e w4 ⟨rfl, hn4⟩
          have HN4 := Lib.hid (HU3.out.1.trans hn4)
          have c1 := (box_cell (keep_new hn4 HB3.out)).1
          clear hn4
          go_wp2_with fail
          all_goals (go_ret; exact ⟨rfl, HN4.out⟩)
        · have hEn : (E = 0) = False := eq_false hz
          have hEb : (E == 0) = false := by simpa using hz
          go_wp2_with fail
          go_at_call 10
          rw [← hU3]
          refine (HMX.out _).mono ?_
          rintro e w4 ⟨rfl, hn4⟩
          have HN4 := Lib.hid (HU3.out.1.trans hn4)
          have c1 := (box_cell (keep_new hn4 HB3.out)).1
          clear hn4
          go_wp2_with fail
          all_goals (go_ret; exact ⟨rfl, HN4.out⟩)
      · have hE0 : E = 0 := by
          by_cases hz : E = 0
          · exact hz
          · have := HER.out hz; cases this
        subst hE0
        obtain ⟨⟨rfl, gx, gy⟩, hym, hless⟩ := HGF.out rfl
        have HLS := Lib.hid hless
        have HPX := Lib.hid (fun (w3 : World) (h3 : New w w3) (v : Value) (hv : RO w3 v X) => price_ro tv m tc T X v w3 (by omega) hTl (HTT.out w3 h3) (by have := gx.len; omega) hv)
        have HPY := Lib.hid (fun (w3 : World) (h3 : New w w3) (v : Value) (hv : RO w3 v Y) => price_ro tv m tc T Y v w3 (by omega) hTl (HTT.out w3 h3) (by have := gy.len; omega) hv)
        rw [gx.pa, gx.pb, gx.rcp] at HPX
        rw [gy.pa, gy.pb, gy.rcp] at HPY
        have HSX := Lib.hid (fun (w3 : World) (h3 : New w w3) (v : Value) (hv : RO w3 v X) => shade_ro tv m tc T X v a b c w3 (by omega) hTl (HTT.out w3 h3) (by have := gx.len; omega) hv gx.rcp gx.mix)
        have HSY := Lib.hid (fun (w3 : World) (h3 : New w w3) (v : Value) (hv : RO w3 v Y) => shade_ro tv m tc T Y v a b c w3 (by omega) hTl (HTT.out w3 h3) (by have := gy.len; omega) hv gy.rcp gy.mix)
        have HLC := Lib.hid (fun (w3 : World) => less_c (pxA T X) (pxB T X) (pxA T Y) (pxB T Y) w3 gx.ba gx.bb gy.ba gy.bb)
        rw [HLS.out] at HLC
        have HYB := Lib.hid (And.intro gy.ba gy.bb)
        have hm1 : 0 < m := by
          rcases Nat.eq_zero_or_pos m with h | h
          · exfalso
            have h1 : rcpL T m a b c = [] := by rw [h]; rfl
            rw [h1] at hym; cases hym
          · exact h
        clear hless hym gx gy HER HNL HGF
        generalize pxA T X = XA at *
        generalize pxB T X = XB at *
        generalize pxA T Y = YA at *
        generalize pxB T Y = YB at *
        generalize hnX : X.length = nX at *
        obtain ⟨U3, hU3⟩ : ∃ U3, U3 = w2.alloc (.cells #[.slice sv nX cap] 25) := ⟨_, rfl⟩
        have hn3 : New w2 U3 := by rw [hU3]; exact (New.refl _).alloc _
        have HU3 := Lib.hid (HW2.out.keep hn3)
        have HB3 := Lib.hid (show U3.heap[w2.heap.size]? = some (.cells #[.slice sv nX cap] 25 (0, 0)) by rw [hU3]; exact heap_alloc_new _ _)
        have HR3 := Lib.hid (HRO.out.new hn3)
        go_upto_region 4 with fail
        rw [← hU3]
        clear hU3 hn3 HRO HW2 HW1
        generalize w2.heap.size = g7 at *
        obtain ⟨k1, k2, k3⟩ := cell_v3 HU3.out.2.1
        go_wp2_with fail
        go_at_call 21
        refine (HCH.out _ HU3.out.1).mono ?_
        rintro e w4 ⟨v2, n0, n1, n2, n3, den, rfl, ⟨sv2, cap2, rfl, hpv⟩, hn4⟩
        have HRO := Lib.hid (show RO w4 (.agg #[.slice sv2 Y.length cap2]) Y from ⟨sv2, cap2, rfl, hpv⟩)
        clear hpv k1 k2 k3
        generalize hnY : Y.length = nY at *
        obtain ⟨U5, hU5⟩ : ∃ U5, U5 = (w4.alloc (.cells #[.slice sv2 nY cap2] 25)).alloc (.cells #[.int .i64 n0, .int .i64 n1, .int .i64 n2, .int .i64 n3, .int .i64 den] 49) := ⟨_, rfl⟩
        have hn5 : New w4 U5 := by rw [hU5]; exact ((New.refl _).alloc _).alloc _
        have HU5 := Lib.hid ((HU3.out.keep hn4).keep hn5)
        have HB5 := Lib.hid (keep_new (hn4.trans hn5) HB3.out)
        have HC5 := Lib.hid (show U5.heap[w4.heap.size]? = some (.cells #[.slice sv2 nY cap2] 25 (0, 0)) by rw [hU5]; exact (Below.heap_alloc _ _ _ (by simp)).trans (heap_alloc_new _ _))
        have HR5 := Lib.hid (HR3.out.new (hn4.trans hn5))
        have HS5 := Lib.hid (HRO.out.new hn5)
        go_upto_region 7 with fail
        rw [← hU5]
        clear hU5 hn5 hn4 HRO HU3 HB3 HR3 HCH
        generalize w4.heap.size = gA at *
        have c1 := (box_cell HB5.out).1
        go_wp2_with fail
        go_at_call 13
        refine (HPX.out _ HU5.out.1 _ HR5.out).mono ?_
        rintro e w6 ⟨rfl, hn6⟩
        clear c1
        obtain ⟨U7, hU7⟩ : ∃ U7, U7 = w6.alloc (.cells #[.int .i64 XA, .int .i64 XB] 29) := ⟨_, rfl⟩
        have hn7 : New U5 U7 := by rw [hU7]; exact hn6.alloc _
        have HU7 := Lib.hid (HU5.out.keep hn7)
        have HB7 := Lib.hid (keep_new hn7 HB5.out)
        have HC7 := Lib.hid (keep_new hn7 HC5.out)
        have HR7 := Lib.hid (HR5.out.new hn7)
        have HS7 := Lib.hid (HS5.out.new hn7)
        have HF7 := Lib.hid (show U7.heap[w6.heap.size]? = some (.cells #[.int .i64 XA, .int .i64 XB] 29 (0, 0)) by rw [hU7]; exact heap_alloc_new _ _)
        go_upto_region 8 with fail
        rw [← hU7]
        clear hU7 hn7 hn6 HU5 HB5 HC5 HR5 HS5 HPX
        generalize w6.heap.size = gB at *
        have c1 := (box_cell HC7.out).1
        go_wp2_with fail
        go_at_call 13
        refine (HPY.out _ HU7.out.1 _ HS7.out).mono ?_
        rintro e w8 ⟨rfl, hn8⟩
        clear c1
        obtain ⟨U9, hU9⟩ : ∃ U9, U9 = w8.alloc (.cells #[.int .i64 YA, .int .i64 YB] 29) := ⟨_, rfl⟩
        have hn9 : New U7 U9 := by rw [hU9]; exact hn8.alloc _
        have HU9 := Lib.hid (HU7.out.keep hn9)
        have HB9 := Lib.hid (keep_new hn9 HB7.out)
        have HC9 := Lib.hid (keep_new hn9 HC7.out)
        have HR9 := Lib.hid (HR7.out.new hn9)
        have HS9 := Lib.hid (HS7.out.new hn9)
        have HF9 := Lib.hid (keep_new hn9 HF7.out)
        have HG9 := Lib.hid (show U9.heap[w8.heap.size]? = some (.cells #[.int .i64 YA, .int .i64 YB] 29 (0, 0)) by rw [hU9]; exact heap_alloc_new _ _)
        go_upto_region 9 with fail
        rw [← hU9]
        clear hU9 hn9 hn8 HU7 HB7 HC7 HR7 HS7 HF7 HPY
        generalize w8.heap.size = gC at *
        have c1 := (box_cell HB9.out).1
        obtain ⟨k1, k2, k3⟩ := cell_v3 HU9.out.2.1
        go_wp2_with fail
        go_at_call 26
        refine (HSX.out _ HU9.out.1 _ HR9.out).mono ?_
        rintro e u1 ⟨rfl, hq1⟩
        have HV1 := Lib.hid (HU9.out.keep hq1)
        have HC1 := Lib.hid (keep_new hq1 HC9.out)
        have HS1 := Lib.hid (HS9.out.new hq1)
        have HF1 := Lib.hid (keep_new hq1 HF9.out)
        have HG1 := Lib.hid (keep_new hq1 HG9.out)
        clear c1 k1 k2 k3 hq1 HU9 HB9 HC9 HR9 HS9 HF9 HG9 HSX
        have c1 := (box_cell HC1.out).1
        obtain ⟨k1, k2, k3⟩ := cell_v3 HV1.out.2.1
        go_wp2_with fail
        go_at_call 26
        refine (HSY.out _ HV1.out.1 _ HS1.out).mono ?_
        rintro e u2 ⟨rfl, hq2⟩
        have HV2 := Lib.hid (HV1.out.keep hq2)
        have HF2 := Lib.hid (keep_new hq2 HF1.out)
        have HG2 := Lib.hid (keep_new hq2 HG1.out)
        clear c1 k1 k2 k3 hq2 HV1 HC1 HS1 HF1 HG1 HSY
        obtain ⟨d1, d2⟩ := cell_fr HF2.out
        obtain ⟨d3, d4⟩ := cell_fr HG2.out
        go_wp2_with fail
        go_at_call 25
        refine (HLC.out _).mono ?_
        rintro e u3 ⟨rfl, hq3⟩
        have HV3 := Lib.hid (HV2.out.keep hq3)
        have HG3 := Lib.hid (keep_new hq3 HG2.out)
        clear d1 d2 d3 d4 hq3 HV2 HF2 HG2 HLC HLS
        go_upto_region 14 with fail
        obtain ⟨tb, off, rfl, hTn⟩ := HTT.out u3 HV3.out.1 hm1
        have HTN := Lib.hid hTn
        have HLN := Lib.hid hTl
        clear hTn
        go_cut [18] (fun s18 wx => (∃ g cap : Nat, s18 = .slice (some ⟨g, 0, none⟩) (m + 1) cap ∧ Tnts wx g 0 (m + 1) (T ++ [(S, A, B, D, P)])) ∧ New u3 wx)
        case first =>
          obtain ⟨⟨c0, c1, c2⟩, c3, c4⟩ := cell_t5 HV3.out.2.2
          have HWA := Lib.hid (show ∀ w1 : World, New u3 w1 → ∀ j u, (tnCells T)[j]? = some u → w1.cell? ((⟨tb, off, none⟩ : Addr).add j) = some u from fun w1 h1 => tnts_news (HTN.out.new h1))
          have s0 : w.heap.size + 1 < u3.heap.size := (Array.getElem?_eq_some_iff.1 HV3.out.2.2).1
          generalize u3 = W0 at *
          go_region_law (first
            | (refine step_copyT rfl (.tmp 105) (.tmp 106) rfl W0.heap.size (.slice (some ⟨W0.heap.size, 0, none⟩) 0 0) 0 [] rfl ?_ ⟨tb, off, none⟩ m tc T rfl HLN.out ?_ (by omega) (by omega) ?_ ?_; (exact own_new (own_noneT (W := W0) (by simp) (by simp)) (by (repeat (first | exact New.refl _ | apply New.alloc | apply New.aft | apply New.drew)))); (exact HWA.out _ (by (repeat (first | exact New.refl _ | apply New.alloc | apply New.aft | apply New.drew)))); (exact New.size (by (repeat (first | exact New.refl _ | apply New.alloc | apply New.aft | apply New.drew)))); intro g4 cap4 w4 hown4 hgrow4 hor4 hlt4; simp only [Nat.zero_add, List.nil_append] at hown4; have HN4 := Lib.hid (show New W0 w4 from new_grown (by (repeat (first | exact New.refl _ | apply New.alloc | apply New.aft | apply New.drew))) hgrow4 (own_noneT (W := W0) (by simp) (by simp))); have HO4 := Lib.hid hown4; have HG4 := Lib.hid hgrow4; have bx := grown_cell hgrow4 (k := w.heap.size + 1) (Nat.lt_of_lt_of_le s0 (New.size (w := W0) (by (repeat (first | exact New.refl _ | apply New.alloc | apply New.aft | apply New.drew))))) (by intro e; simp [Value.ownBlock] at e; omega))
            | (refine step_copyT rfl (.tmp 105) (.tmp 106) rfl W0.heap.size (.slice (some ⟨W0.heap.size + 1, 0, none⟩) 0 0) 0 [] rfl ?_ ⟨tb, off, none⟩ m tc T rfl HLN.out ?_ (by omega) (by omega) ?_ ?_; (exact own_new (own_noneT (W := W0.alloc (.cells #[.string S, .int .i64 A, .int .i64 B, .int .i64 D, .int .i64 P] 59)) (by simp) (by simp)) (by (repeat (first | exact New.refl _ | apply New.alloc | apply New.aft | apply New.drew)))); (exact HWA.out _ (by (repeat (first | exact New.refl _ | apply New.alloc | apply New.aft | apply New.drew)))); (exact New.size (by (repeat (first | exact New.refl _ | apply New.alloc | apply New.aft | apply New.drew)))); intro g4 cap4 w4 hown4 hgrow4 hor4 hlt4; simp only [Nat.zero_add, List.nil_append] at hown4; have HN4 := Lib.hid (show New W0 w4 from new_grown (by (repeat (first | exact New.refl _ | apply New.alloc | apply New.aft | apply New.drew))) hgrow4 (own_noneT (W := W0.alloc (.cells #[.string S, .int .i64 A, .int .i64 B, .int .i64 D, .int .i64 P] 59)) (by simp) (by simp))); have HO4 := Lib.hid hown4; have HG4 := Lib.hid hgrow4; have bx := grown_cell hgrow4 (k := w.heap.size + 1) (Nat.lt_of_lt_of_le s0 (New.size (w := W0) (by (repeat (first | exact New.refl _ | apply New.alloc | apply New.aft | apply New.drew))))) (by intro e; simp [Value.ownBlock] at e; omega))
            | (refine step_copyT rfl (.tmp 107) (.tmp 109) rfl W0.heap.size (.slice (some ⟨g4, 0, none⟩) m cap4) m T rfl ?_ ⟨w4.heap.size, 0, none⟩ 1 1 [(S, A, B, D, P)] rfl rfl ?_ (by omega) (by omega) ?_ ?_; (exact own_new HO4.out (by (repeat (first | exact New.refl _ | apply New.alloc | apply New.aft | apply New.drew)))); (exact news_new (X0 := w4.alloc (.cells #[.string S, .int .i64 A, .int .i64 B, .int .i64 D, .int .i64 P] 59)) (by (repeat (first | exact New.refl _ | apply New.alloc | apply New.aft | apply New.drew))) (by simp) (cells_new w4 [.string S, .int .i64 A, .int .i64 B, .int .i64 D, .int .i64 P] 59 w4.heap.size rfl)); (exact Nat.le_trans (own_le HO4.out hlt4) (New.size (w := w4) (by (repeat (first | exact New.refl _ | apply New.alloc | apply New.aft | apply New.drew))))); intro g5 cap5 w5 hown5 hgrow5 hor5 hlt5; have HO5 := Lib.hid hown5; have HN5 := Lib.hid (show New W0 w5 from new_grown (by (repeat (first | exact HN4.out | apply New.alloc | apply New.aft | apply New.drew))) hgrow5 HO4.out))
            | (refine step_copyT rfl (.tmp 107) (.tmp 109) rfl W0.heap.size (.slice (some ⟨g4, 0, none⟩) m cap4) m T rfl ?_ ⟨W0.heap.size + 1, 0, none⟩ 1 1 [(S, A, B, D, P)] rfl rfl ?_ (by omega) (by omega) ?_ ?_; (exact own_new HO4.out (by (repeat (first | exact New.refl _ | apply New.alloc | apply New.aft | apply New.drew)))); (exact news_new (X0 := w4) (by (repeat (first | exact New.refl _ | apply New.alloc | apply New.aft | apply New.drew))) (by have := HG4.out.size; simp [go_sem] at this; omega) (grown_news HG4.out (by simp [go_sem]) (by intro e; simp [Value.ownBlock] at e) (news_new (X0 := (W0.alloc (.cells #[] 59)).alloc (.cells #[.string S, .int .i64 A, .int .i64 B, .int .i64 D, .int .i64 P] 59)) (by (repeat (first | exact New.refl _ | apply New.alloc | apply New.aft | apply New.drew))) (by simp) (cells_new (W0.alloc (.cells #[] 59)) [.string S, .int .i64 A, .int .i64 B, .int .i64 D, .int .i64 P] 59 (W0.heap.size + 1) (by simp))))); (exact Nat.le_trans (own_le HO4.out hlt4) (New.size (w := w4) (by (repeat (first | exact New.refl _ | apply New.alloc | apply New.aft | apply New.drew))))); intro g5 cap5 w5 hown5 hgrow5 hor5 hlt5; have HO5 := Lib.hid hown5; have HN5 := Lib.hid (show New W0 w5 from new_grown (by (repeat (first | exact HN4.out | apply New.alloc | apply New.aft | apply New.drew))) hgrow5 HO4.out))
            | (refine step_copyT rfl (.tmp 107) (.tmp 109) rfl W0.heap.size (.slice (some ⟨g4, 0, none⟩) m cap4) m T rfl ?_ ⟨W0.heap.size, 0, none⟩ 1 1 [(S, A, B, D, P)] rfl rfl ?_ (by omega) (by omega) ?_ ?_; (exact own_new HO4.out (by (repeat (first | exact New.refl _ | apply New.alloc | apply New.aft | apply New.drew)))); (exact news_new (X0 := w4) (by (repeat (first | exact New.refl _ | apply New.alloc | apply New.aft | apply New.drew))) (by have := HG4.out.size; simp [go_sem] at this; omega) (grown_news HG4.out (by first | (simp [go_sem]; done) | (simp [go_sem]; omega)) (by intro e; simp [Value.ownBlock] at e) (news_new (X0 := W0.alloc (.cells #[.string S, .int .i64 A, .int .i64 B, .int .i64 D, .int .i64 P] 59)) (by (repeat (first | exact New.refl _ | apply New.alloc | apply New.aft | apply New.drew))) (by simp) (cells_new W0 [.string S, .int .i64 A, .int .i64 B, .int .i64 D, .int .i64 P] 59 W0.heap.size rfl)))); (exact Nat.le_trans (own_le HO4.out hlt4) (New.size (w := w4) (by (repeat (first | exact New.refl _ | apply New.alloc | apply New.aft | apply New.drew))))); intro g5 cap5 w5 hown5 hgrow5 hor5 hlt5; have HO5 := Lib.hid hown5; have HN5 := Lib.hid (show New W0 w5 from new_grown (by (repeat (first | exact HN4.out | apply New.alloc | apply New.aft | apply New.drew))) hgrow5 HO4.out)))
          all_goals (go_wp2_with fail; go_meet; exact ⟨⟨g5, cap5, rfl, tnts_own (by rw [List.length_append, HLN.out]; rfl) HO5.out⟩, (by (repeat (first | exact HN5.out | apply New.alloc | apply New.aft | apply New.drew)))⟩)
        case rest =>
          obtain ⟨wx, rfl⟩ : ∃ wx : World, wx = wc := ⟨_, rfl⟩
          obtain ⟨⟨gL, capL, rfl, hTL⟩, hnL⟩ := hcut
          have HVX := Lib.hid (HV3.out.keep hnL)
          have HGX := Lib.hid (keep_new hnL HG3.out)
          have HTL := Lib.hid hTL
          have hl2 : (T ++ [(S, A, B, D, P)]).length = m + 1 := by simp [HLN.out]
          have HRE := Lib.hid (reach_any (some ⟨gL, 0, none⟩) (m + 1) capL (T ++ [(S, A, B, D, P)]) a b c wx (by omega) hl2 (fun _ => ⟨gL, 0, rfl, hTL⟩))
          have HCH := Lib.hid (fun (w2 : World) (h2 : New wx w2) => cheap_any (some ⟨gL, 0, none⟩) (m + 1) capL (T ++ [(S, A, B, D, P)]) a b c w2 (by omega) hl2 (fun _ => ⟨gL, 0, rfl, HTL.out.new h2⟩))
          have HGF := Lib.hid (fun (h : isOf (T ++ [(S, A, B, D, P)]) (m + 1) a b c = true) => gives_first hl2 h)
          have HGP := Lib.hid (fun (x : List (Int × Int)) (hx : x.length ≤ 1000) (w3 : World) (h3 : New wx w3) (v : Value) (hv : RO w3 v x) => price_ro (some ⟨gL, 0, none⟩) (m + 1) capL (T ++ [(S, A, B, D, P)]) x v w3 (by omega) hl2 (fun _ => ⟨gL, 0, rfl, HTL.out.new h3⟩) hx hv)
          have HG2 := Lib.hid (fun (h : wntE (T ++ [(S, A, B, D, P)]) a b c (m + 1) = 0) => HGM.out (by first | trivial | rfl) h)
          clear hTL hnL hl2 HGM HV3 HG3 HTN HTL HTT HFI
          generalize T ++ [(S, A, B, D, P)] = T2 at *
          generalize hX2 : rOf T2 (m + 1) a b c = X2 at *
          generalize hY2 : cOf T2 (m + 1) a b c = Y2 at *
          generalize hI2 : isOf T2 (m + 1) a b c = is2 at *
          generalize hE2 : wntE T2 a b c (m + 1) = E2 at *
          generalize hF2 : ceOf T2 (m + 1) a b c = F2 at *
          clear hX2 hY2 hI2 hE2 hF2
          obtain ⟨k1, k2, k3⟩ := cell_v3 HVX.out.2.1
          go_wp2_with fail
          go_at_call 15
          refine HRE.out.mono ?_
          rintro e w2 ⟨v, rfl, ⟨sv3, cap3, rfl, hpv⟩, hn2⟩
          obtain ⟨U3, hU3⟩ : ∃ U3, U3 = w2.alloc (.cells #[.slice sv3 X2.length cap3] 25) := ⟨_, rfl⟩
          have hn3 : New wx U3 := by rw [hU3]; exact hn2.alloc _
          have HN3 := Lib.hid hn3
          have HU3 := Lib.hid (HVX.out.keep hn3)
          have HG3 := Lib.hid (keep_new hn3 HGX.out)
          clear k1 k2 k3 hpv hn2 hn3
          go_upto_region 16 with fail
          rw [← hU3]
          clear hU3 HRE HVX HGX
          by_cases hz : E2 = 0
          · obtain ⟨hi2, hls2⟩ := HG2.out hz
            subst hi2
            subst hz
            obtain ⟨⟨rfl, _, gy⟩, _, _⟩ := HGF.out rfl
            have HPY := Lib.hid (fun (w3 : World) (h3 : New wx w3) (v : Value) (hv : RO w3 v Y2) => HGP.out Y2 (by have := gy.len; omega) w3 h3 v hv)
            rw [gy.pa, gy.pb, gy.rcp] at HPY
            have HLC := Lib.hid (fun (w3 : World) => less_c YA YB (pxA T2 Y2) (pxB T2 Y2) w3 HYB.out.1 HYB.out.2 gy.ba gy.bb)
            rw [hls2] at HLC
            clear hls2 gy HGF HGP HG2
            generalize pxA T2 Y2 = ZA at *
            generalize pxB T2 Y2 = ZB at *
            obtain ⟨k1, k2, k3⟩ := cell_v3 HU3.out.2.1
            go_wp2_with fail
            go_at_call 21
            refine (HCH.out _ HN3.out).mono ?_
            rintro e w4 ⟨v2, m0, m1, m2, m3, mden, rfl, ⟨sv4, cap4, rfl, hpv⟩, hn4⟩
            have HRO := Lib.hid (show RO w4 (.agg #[.slice sv4 Y2.length cap4]) Y2 from ⟨sv4, cap4, rfl, hpv⟩)
            clear hpv k1 k2 k3
            generalize hnY2 : Y2.length = nZ at *
            obtain ⟨U5, hU5⟩ : ∃ U5, U5 = (w4.alloc (.cells #[.slice sv4 nZ cap4] 25)).alloc (.cells #[.int .i64 m0, .int .i64 m1, .int .i64 m2, .int .i64 m3, .int .i64 mden] 49) := ⟨_, rfl⟩
            have hn5 : New w4 U5 := by rw [hU5]; exact ((New.refl _).alloc _).alloc _
            have HN5 := Lib.hid ((HN3.out.trans hn4).trans hn5)
            have HU5 := Lib.hid ((HU3.out.keep hn4).keep hn5)
            have HG5 := Lib.hid (keep_new (hn4.trans hn5) HG3.out)
            have HC5 := Lib.hid (show U5.heap[w4.heap.size]? = some (.cells #[.slice sv4 nZ cap4] 25 (0, 0)) by rw [hU5]; exact (Below.heap_alloc _ _ _ (by simp)).trans (heap_alloc_new _ _))
            have HS5 := Lib.hid (HRO.out.new hn5)
            go_upto_region 19 with fail
            rw [← hU5]
            clear hU5 hn5 hn4 HRO HU3 HG3 HCH HN3
            generalize w4.heap.size = gD at *
            have c1 := (box_cell HC5.out).1
            go_wp2_with fail
            go_at_call 13
            refine (HPY.out _ HN5.out _ HS5.out).mono ?_
            rintro e w6 ⟨rfl, hn6⟩
            clear c1
            obtain ⟨U7, hU7⟩ : ∃ U7, U7 = w6.alloc (.cells #[.int .i64 ZA, .int .i64 ZB] 29) := ⟨_, rfl⟩
            have hn7 : New U5 U7 := by rw [hU7]; exact hn6.alloc _
            have HU7 := Lib.hid (HU5.out.keep hn7)
            have HG7 := Lib.hid (keep_new hn7 HG5.out)
            have HF7 := Lib.hid (show U7.heap[w6.heap.size]? = some (.cells #[.int .i64 ZA, .int .i64 ZB] 29 (0, 0)) by rw [hU7]; exact heap_alloc_new _ _)
            go_upto_region 20 with fail
            rw [← hU7]
            clear hU7 hn7 hn6 HU5 HC5 HS5 HPY HG5
            generalize w6.heap.size = gE at *
            obtain ⟨d1, d2⟩ := cell_fr HG7.out
            obtain ⟨d3, d4⟩ := cell_fr HF7.out
            go_wp2_with fail
            go_at_call 25
            refine (HLC.out _).mono ?_
            rintro e u3' ⟨rfl, hq3⟩
            have HV9 := Lib.hid (HU7.out.1.trans hq3)
            clear d1 d2 d3 d4 hq3
            go_wp2_with fail
            go_at_call 10
            refine (HMX.out _).mono ?_
            rintro e w9 ⟨rfl, hn9⟩
            have HN9 := Lib.hid (HV9.out.trans hn9)
            clear hn9
            go_wp2_with fail
            all_goals (go_ret; exact ⟨rfl, HN9.out⟩)
          · have hEn : (E2 = 0) = False := eq_false hz
            have hEb : (E2 == 0) = false := by simpa using hz
            go_wp2_with fail
            go_at_call 10
            refine (HMX.out _).mono ?_
            rintro e w4 ⟨rfl, hn4⟩
            have HN4 := Lib.hid (HU3.out.1.trans hn4)
            clear hn4
            go_wp2_with fail
            all_goals (go_ret; exact ⟨rfl, HN4.out⟩)

end Go.Proofs.Ytpjekinmcdglbaa
