/- The reference's wanted and CheckPlane: the same values as the program's. At most 1000 tints. -/
import Derived.Test.YtpjekinmcdglbaaEb
set_option linter.unusedSimpArgs false
set_option linter.unusedVariables false
set_option maxRecDepth 100000
namespace Go.Proofs.Ytpjekinmcdglbaa
open Go.RowKit

set_option maxHeartbeats 8000000 in
theorem ref_wanted (tv : Option Addr) (m tc : Nat) (T : List T5) (a b c : Int) (w : World) (hm : m ≤ 17592186044415) (hT : 0 < m → ∃ b off, tv = some ⟨b, off, none⟩ ∧ Tnts w b off m T) :
    Calls Try.prog 38 #[.slice tv m tc, vv a b c] w fun en w' => en = .returned (.int .i64 (wntE T a b c m)) ∧ New w w' := by
  have HC := Lib.hid (fun (w1 : World) (h1 : New w w1) => ref_tints tv m tc T w1 hm (fun h => by obtain ⟨b, o, e, h2⟩ := hT h; exact ⟨b, o, e, h2.new h1⟩))
  have HI := Lib.hid (fun (w1 : World) => ref_shade a b c w1)
  have HR := Lib.hid (show wntE T a b c m = if chkE T m ≠ 0 then chkE T m else if shB a b c = true then 0 else 1 from rfl)
  clear hT
  generalize wntE T a b c m = R at *
  generalize hE : chkE T m = E at *
  generalize shB a b c = q at *
  clear hE
  go_enter Try.func38, Try.ntmps38
  go_wp2_with fail
  go_at_call 31
  refine (HC.out _ ((New.refl w).alloc _)).mono ?_
  rintro e w2 ⟨rfl, hn2⟩
  have HN2 := Lib.hid (((New.refl w).alloc _).trans hn2)
  have hB : w2.heap[w.heap.size]? = some (.cells #[.int .i64 a, .int .i64 b, .int .i64 c] 37 (0, 0)) := (hn2.below.block _ (by simp)).trans (heap_alloc_new _ _)
  obtain ⟨d0, d1, d2⟩ := cell_v3 hB
  clear hn2 hB
  by_cases hz : E = 0
  · subst hz
    go_wp2_with fail
    go_at_call 58
    refine (HI.out _).mono ?_
    rintro e w3 ⟨rfl, hn3⟩
    have HN3 := Lib.hid (HN2.out.trans hn3)
    clear hn3 d0 d1 d2
    cases q
    · have HF := Lib.hid (show (1 : Int) = R by rw [HR.out]; simp)
      go_wp2_with fail
      all_goals (go_ret; exact ⟨ret_int HF.out, HN3.out⟩)
    · have HF := Lib.hid (show (0 : Int) = R by rw [HR.out]; simp)
      go_wp2_with fail
      all_goals (go_ret; exact ⟨ret_int HF.out, HN3.out⟩)
  · have HF := Lib.hid (show E = R by rw [HR.out, if_pos hz])
    go_wp2_with fail
    all_goals (go_ret; exact ⟨ret_int HF.out, HN2.out⟩)

/-- the reference's boxes: the shade, the plane -/
def RpW (w W : World) (a b c N0 N1 N2 C : Int) : Prop :=
  New w W ∧ W.heap[w.heap.size]? = some (.cells (#[.int .i64 a, .int .i64 b, .int .i64 c] : Array Value) 37 (0, 0)) ∧ W.heap[w.heap.size + 1]? = some (.cells (#[.int .i64 N0, .int .i64 N1, .int .i64 N2, .int .i64 C] : Array Value) 41 (0, 0))
theorem RpW.keep {w W V : World} {a b c N0 N1 N2 C : Int} (h : RpW w W a b c N0 N1 N2 C) (hn : New W V) : RpW w V a b c N0 N1 N2 C := by
  have hk : ∀ k o, W.heap[k]? = some o → V.heap[k]? = some o := fun k o h => (hn.below.block k (Array.getElem?_eq_some_iff.1 h).1).trans h
  exact ⟨h.1.trans hn, hk _ _ h.2.1, hk _ _ h.2.2⟩
set_option maxHeartbeats 16000000 in
theorem ref_checkPlane (tv : Option Addr) (m tc : Nat) (T : List T5) (a b c N0 N1 N2 C : Int) (w : World) (hm : m ≤ 1000) (hTl : T.length = m) (hT : 0 < m → ∃ b off, tv = some ⟨b, off, none⟩ ∧ Tnts w b off m T) :
    Calls Try.prog 20 #[.slice tv m tc, vv a b c, plV N0 N1 N2 C] w fun en w' => en = .returned (.bool (decide (wntE T a b c m = 0) && btB T m N0 N1 N2 C a b c)) ∧ New w w' := by
  have HTT := Lib.hid hT
  have HW := Lib.hid (fun (w1 : World) (h1 : New w w1) => ref_wanted tv m tc T a b c w1 (by omega) (fun h => by obtain ⟨b, o, e, h2⟩ := hT h; exact ⟨b, o, e, h2.new h1⟩))
  have HZ := Lib.hid (fun (hz : wntE T a b c m = 0) => wntE_zero hTl hz)
  obtain ⟨R, hR⟩ : ∃ R, R = (decide (wntE T a b c m = 0) && btB T m N0 N1 N2 C a b c) := ⟨_, rfl⟩
  have HR := Lib.hid hR
  rw [← hR]
  clear hT hR
  generalize wntE T a b c m = E at *
  obtain ⟨L, hL⟩ : ∃ L : Nat → Int, L = lk3 N0 N1 N2 := ⟨_, rfl⟩
  have HL3 := Lib.hid (show pnB3 N0 N1 N2 = (List.range 3).all (fun i => pnB (L i)) by rw [hL]; simp [pnB3, List.range_succ, lk3, Bool.and_assoc])
  have HLC := Lib.hid (show ∀ (W : World) (g : Nat) t fr, W.heap[g]? = some (.cells #[.int .i64 N0, .int .i64 N1, .int .i64 N2, .int .i64 C] t fr) → ∀ i, i < 3 → W.cell? ⟨g, i, none⟩ = some (.int .i64 (L i)) from fun W g t fr h i hi => by
    obtain ⟨k0, k1, k2, _⟩ := cell_pl h
    rw [hL]
    rcases i with _ | _ | _ | i
    · exact k0
    · exact k1
    · exact k2
    · omega)
  obtain ⟨okn, hokn⟩ : ∃ okn : Nat → Bool, okn = fun i => pnB (L i) := ⟨_, rfl⟩
  have HOn := Lib.hid (show ∀ i, okn i = (decide (-1000000000000 ≤ L i) && decide (L i ≤ 1000000000000)) from fun i => by rw [hokn]; rfl)
  rw [← hokn] at HL3
  clear hokn hL
  obtain ⟨ok, hok⟩ : ∃ ok : Nat → Bool, ok = sdB T N0 N1 N2 C := ⟨_, rfl⟩
  have HO := Lib.hid (show ∀ i, ok i = decide (N0 * tA T i + N1 * tB T i + N2 * tC T i ≤ C) from fun i => by rw [hok]; rfl)
  have HBT := Lib.hid (show btB T m N0 N1 N2 C a b c = ((pnB3 N0 N1 N2 && pcB C) && ((List.range m).all ok && decide (C < N0 * a + N1 * b + N2 * c))) by rw [hok]; rfl)
  clear hok
  generalize btB T m N0 N1 N2 C a b c = BT at *
  go_enter Try.func20, Try.ntmps20
  go_wp2_with fail
  go_at_call 38
  refine (HW.out _ (((New.refl w).alloc _).alloc _)).mono ?_
  rintro e w2 ⟨rfl, hn2⟩
  have hP0 : ((w.alloc (.cells #[.int .i64 a, .int .i64 b, .int .i64 c] 37)).alloc (.cells #[.int .i64 N0, .int .i64 N1, .int .i64 N2, .int .i64 C] 41)).heap[w.heap.size + 1]? = some (.cells #[.int .i64 N0, .int .i64 N1, .int .i64 N2, .int .i64 C] 41 (0, 0)) := alloc2_new rfl
  have HR0 := Lib.hid (show RpW w w2 a b c N0 N1 N2 C from ⟨(((New.refl w).alloc _).alloc _).trans hn2, (hn2.below.block _ (by simp <;> omega)).trans ((Below.heap_alloc _ _ _ (by simp)).trans (heap_alloc_new _ _)), (hn2.below.block _ (Array.getElem?_eq_some_iff.1 hP0).1).trans hP0⟩)
  clear hn2 hP0 HW
  by_cases hz : E = 0
  · obtain ⟨htn, ha, hb, hc⟩ := HZ.out hz
    have HTN := Lib.hid htn
    clear htn HZ
    subst hz
    have k4 := (cell_pl HR0.out.2.2).2.2.2
    by_cases v1 : C < -10000000000000000
    · have HF := Lib.hid (show false = R by rw [HR.out, HBT.out]; unfold pcB; rw [decide_eq_false (show ¬ -10000000000000000 ≤ C by omega)]; simp)
      go_wp2_with fail
      all_goals (go_ret; exact ⟨ret_bool HF.out, HR0.out.1⟩)
    · by_cases v2 : 10000000000000000 < C
      · have HF := Lib.hid (show false = R by rw [HR.out, HBT.out]; unfold pcB; rw [decide_eq_false (show ¬ C ≤ 10000000000000000 by omega)]; simp)
        go_wp2_with fail
        all_goals (go_ret; exact ⟨ret_bool HF.out, HR0.out.1⟩)
      · have HR1 := Lib.hid (show R = ((List.range 3).all okn && ((List.range m).all ok && decide (C < N0 * a + N1 * b + N2 * c))) by
          rw [HR.out, HBT.out, HL3.out]; unfold pcB; rw [decide_eq_true (show -10000000000000000 ≤ C by omega), decide_eq_true (show C ≤ 10000000000000000 by omega)]; simp)
        clear HR HBT
        go_wp2_with fail
        clear k4
        go_loopw [8] (fun i wr => ∃ k : Nat, k ≤ 3 ∧ i = .int .i64 k ∧ (List.range k).all okn = true ∧ RpW w wr a b c N0 N1 N2 C) (fun i _ => 3 - (intOf i).toNat)
        case atStart => exact ⟨0, by omega, rfl, rfl, HR0.out⟩
        case round =>
          obtain ⟨k, hk, rfl, hall, hw⟩ := hrel
          have HALL := Lib.hid hall
          have HWR := Lib.hid hw
          clear hall hw
          by_cases hlt : k < 3
          · have hk1 : (k : Int) < 3 := by omega
            have c0 := HLC.out wr _ _ _ HWR.out.2.2 k hlt
            have gl := (Array.getElem?_eq_some_iff.1 HWR.out.2.2).1
            have HOk := Lib.hid (HOn.out k)
            have HSN := Lib.hid (all_snoc okn k)
            have HMS := Lib.hid (fun (e : okn k = false) => (by rw [HR1.out, all_miss hlt e]; rfl : R = false))
            generalize L k = X at *
            by_cases u1 : X < -1000000000000
            · have HF := Lib.hid (show false = R from (HMS.out (by rw [HOk.out, decide_eq_false (show ¬ -1000000000000 ≤ X by omega)]; rfl)).symm)
              go_wp2_with fail
              all_goals (go_ret; exact ⟨ret_bool HF.out, HWR.out.1⟩)
            · by_cases u2 : 1000000000000 < X
              · have HF := Lib.hid (show false = R from (HMS.out (by rw [HOk.out, decide_eq_false (show ¬ X ≤ 1000000000000 by omega)]; simp)).symm)
                go_wp2_with fail
                all_goals (go_ret; exact ⟨ret_bool HF.out, HWR.out.1⟩)
              · have HV := Lib.hid (show okn k = true by rw [HOk.out, decide_eq_true (show -1000000000000 ≤ X by omega), decide_eq_true (show X ≤ 1000000000000 by omega)]; rfl)
                go_wp2_with fail
                go_roundw
                case rel => exact ⟨k + 1, by omega, by go_num, by rw [HSN.out, HALL.out, HV.out]; rfl, HWR.out⟩
                case measure => simp [intOf]; omega
          · obtain rfl : k = 3 := by omega
            have hk1 : ¬ ((3 : Nat) : Int) < 3 := by omega
            have HR2 := Lib.hid (show R = ((List.range m).all ok && decide (C < N0 * a + N1 * b + N2 * c)) by rw [HR1.out, HALL.out]; rfl)
            obtain ⟨b1, b2, b3⟩ := pnB3_iff (HL3.out.trans HALL.out)
            have HR3 := HWR
            clear HR1 HALL HL3 HLC HOn HWR
            go_wp2_with fail
            go_loopw [9] (fun i V => ∃ k : Nat, k ≤ m ∧ i = .int .i64 k ∧ (List.range k).all ok = true ∧ RpW w V a b c N0 N1 N2 C) (fun i _ => m - (intOf i).toNat)
            case atStart => exact ⟨0, by omega, rfl, rfl, HR3.out⟩
            case round =>
              obtain ⟨k, hk, rfl, hall, hw⟩ := hrel
              have HALL := Lib.hid hall
              have HWR := Lib.hid hw
              clear hall hw
              by_cases hlt : k < m
              · have hk1 : (k : Int) < (m : Int) := by omega
                obtain ⟨tb, off, rfl, hT⟩ := HTT.out (by omega)
                obtain ⟨_, gl, hcc⟩ := hT.new HWR.out.1
                obtain ⟨⟨c1, c2, c3⟩, c4, c5⟩ := hcc k hlt
                obtain ⟨⟨bA, bB⟩, bC, bP⟩ := HTN.out k
                have p1 := mulpn N0 _ b1 bA
                have p2 := mulpn N1 _ b2 bB
                have p3 := mulpn N2 _ b3 bC
                have HD := Lib.hid (fun w1 : World => ref_dot N0 N1 N2 (tA T k) (tB T k) (tC T k) w1 (by omega) (by omega) (by omega) (by omega) (by omega))
                have HOk := Lib.hid (HO.out k)
                have HSN := Lib.hid (all_snoc ok k)
                have HMS := Lib.hid (fun (e : ok k = false) => (by rw [HR2.out, all_miss hlt e]; rfl : R = false))
                obtain ⟨k1, k2, k3, k4⟩ := cell_pl HWR.out.2.2
                have hq1 := (Array.getElem?_eq_some_iff.1 HWR.out.2.2).1
                clear hcc hT p1 p2 p3 bA bB bC bP c1 c5
                generalize tN T k = S at *
                generalize tA T k = A at *
                generalize tB T k = B at *
                generalize tC T k = D at *
                generalize N0 * A + N1 * B + N2 * D = V0 at *
                go_upto_region 12 with fail
                first | refine wp_region_at2 (by kernel_rfl) (by kernel_rfl) ?_ | refine wp_region_at (by kernel_rfl) (by kernel_rfl) ?_
                repeat (go_big_quiet_step (first | (go_at_call 45; (with_reducible exact calls_new (HD.out _)))))
                refine wpQuiet_nil ?_
                rintro U3 hq
                have HWU := Lib.hid (HWR.out.keep (show New wr U3 from hq))
                clear hq k1 k2 k3 k4 hq1 gl c2 c3 c4
                by_cases u1 : C < V0
                · have HF := Lib.hid (show false = R from (HMS.out (by rw [HOk.out, decide_eq_false (by omega)])).symm)
                  go_wp2_with fail
                  all_goals (go_ret; exact ⟨ret_bool HF.out, HWU.out.1⟩)
                · have HV := Lib.hid (show ok k = true by rw [HOk.out, decide_eq_true (by omega)])
                  go_wp2_with fail
                  go_roundw
                  case rel => exact ⟨k + 1, by omega, by go_num, by rw [HSN.out, HALL.out, HV.out]; rfl, HWU.out⟩
                  case measure => simp [intOf]; omega
              · obtain rfl : k = m := by omega
                have hk1 : ¬ (k : Int) < (k : Int) := by omega
                have HR4 := Lib.hid (show decide (C < N0 * a + N1 * b + N2 * c) = R by rw [HR2.out, HALL.out]; rfl)
                have p1 := mulpn N0 a b1 ha
                have p2 := mulpn N1 b b2 hb
                have p3 := mulpn N2 c b3 hc
                have HD := Lib.hid (fun w1 : World => ref_dot N0 N1 N2 a b c w1 (by omega) (by omega) (by omega) (by omega) (by omega))
                obtain ⟨k1, k2, k3, k4⟩ := cell_pl HWR.out.2.2
                obtain ⟨k5, k6, k7⟩ := cell_v3 HWR.out.2.1
                have hq1 := (Array.getElem?_eq_some_iff.1 HWR.out.2.2).1
                have hq2 := (Array.getElem?_eq_some_iff.1 HWR.out.2.1).1
                clear p1 p2 p3
                generalize N0 * a + N1 * b + N2 * c = V0 at *
                go_upto_region 14 with fail
                first | refine wp_region_at2 (by kernel_rfl) (by kernel_rfl) ?_ | refine wp_region_at (by kernel_rfl) (by kernel_rfl) ?_
                repeat (go_big_quiet_step (first | (go_at_call 45; (with_reducible exact calls_new (HD.out _)))))
                refine wpQuiet_nil ?_
                rintro U3 hq
                have HWU := Lib.hid (HWR.out.keep (show New wr U3 from hq))
                clear hq k1 k2 k3 k4 hq1 k5 k6 k7 hq2
                go_wp2_with fail
                all_goals (go_ret; exact ⟨ret_bool HR4.out, HWU.out.1⟩)
  · have HF := Lib.hid (show false = R by rw [HR.out, decide_eq_false hz]; rfl)
    have k4 := (cell_pl HR0.out.2.2).2.2.2
    go_wp2_with fail
    all_goals (go_ret; exact ⟨ret_bool HF.out, HR0.out.1⟩)

end Go.Proofs.Ytpjekinmcdglbaa
