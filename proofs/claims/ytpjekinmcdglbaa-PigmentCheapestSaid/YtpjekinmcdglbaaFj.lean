/- Recipes that give a shade, duals, Ratio of any number, CheckCheapest of the program and of the reference: the same values. At most 1000 tints. -/
import Derived.Test.YtpjekinmcdglbaaCl
import Derived.Test.YtpjekinmcdglbaaCy
import Derived.Test.YtpjekinmcdglbaaEb
import Derived.Test.YtpjekinmcdglbaaCr
import Derived.Test.YtpjekinmcdglbaaCe
import Derived.Test.YtpjekinmcdglbaaCj
import Derived.Test.YtpjekinmcdglbaaEc
set_option linter.unusedSimpArgs false
set_option linter.unusedVariables false
set_option maxRecDepth 100000
namespace Go.Proofs.Ytpjekinmcdglbaa
open Go.RowKit

theorem int_eqs (D : Nat) (a b : Int) (w : World) : (Op.equalIn (D + 1) 3 (.int .i64 a) (.int .i64 b)).run Try.prog w = .ok (a == b) w := by
  have ht : Try.prog.underlying 3 = some (.int .i64) := by kernel_rfl
  simp only [Op.equalIn, Sem.run_bind, run_underlying ht, Result.andThen_ok, Sem.run_pure]
  rfl
set_option maxHeartbeats 4000000 in
theorem equal_vec (D : Nat) (a b c d e f : Int) (w : World) : (Op.equalIn (D + 2) 66 (.agg #[.int .i64 a, .int .i64 b, .int .i64 c]) (.agg #[.int .i64 d, .int .i64 e, .int .i64 f])).run Try.prog w = .ok (a == d && b == e && c == f) w := by
  have ht : Try.prog.underlying 66 = some (.array 3 3) := by kernel_rfl
  have hs : ∀ w, (sizeOf 3).run Try.prog w = .ok 1 w := fun w => rfl
  have p0 : ∀ (a b c : Int) w, (part 3 #[.int .i64 a, .int .i64 b, .int .i64 c] (0 * 1)).run Try.prog w = .ok (.int .i64 a) w := fun a b c w => rfl
  have p1 : ∀ (a b c : Int) w, (part 3 #[.int .i64 a, .int .i64 b, .int .i64 c] (1 * 1)).run Try.prog w = .ok (.int .i64 b) w := fun a b c w => rfl
  have p2 : ∀ (a b c : Int) w, (part 3 #[.int .i64 a, .int .i64 b, .int .i64 c] (2 * 1)).run Try.prog w = .ok (.int .i64 c) w := fun a b c w => rfl
  rw [show D + 2 = (D + 1) + 1 from rfl]
  conv => lhs; unfold Op.equalIn
  cases h0 : (a == d) <;> cases h1 : (b == e) <;> cases h2 : (c == f) <;>
  · simp only [Sem.run_bind, run_underlying ht, Result.andThen_ok, hs, Std.Legacy.Range.forIn_eq_forIn_range', Std.Legacy.Range.size]
    simp [List.range', List.forIn_cons, List.forIn_nil, Sem.run_bind, Result.andThen_ok, p0, p1, p2, int_eqs, h0, h1, h2, Sem.run_pure]
theorem eql_vec (a b c d e f : Int) (w : World) : (binOp .eql 66 (.agg #[.int .i64 a, .int .i64 b, .int .i64 c]) (.agg #[.int .i64 d, .int .i64 e, .int .i64 f])).run Try.prog w = .ok (.bool (a == d && b == e && c == f)) w := by
  rw [run_eql_struct, show (10000 : Nat) = 9998 + 2 from rfl, equal_vec]; rfl

/-- the recipe gives the shade -/
def gvB (T : List T5) (P : List (Int × Int)) (n : Nat) (a b c : Int) : Bool := sumT P (tA T) n == sumW P n * a && sumT P (tB T) n == sumW P n * b && sumT P (tC T) n == sumW P n * c
theorem mulW {W a : Int} (hW : 0 ≤ W ∧ W ≤ 4000000000000) (ha : 0 ≤ a ∧ a ≤ 1000) : 0 ≤ W * a ∧ W * a ≤ 4000000000000000 := by
  have h1 := Int.mul_nonneg hW.1 ha.1
  have h2 := Int.mul_le_mul hW.2 ha.2 ha.1 (by omega)
  omega
theorem sumW_le {P : List (Int × Int)} {n m : Nat} (hok : prOk P n m) (hn : n ≤ 4) : 0 ≤ sumW P n ∧ sumW P n ≤ 4000000000000 := by
  have := sumW_bd (P := P) (k := n) (fun i hi => (hok i hi).1)
  omega
set_option maxHeartbeats 8000000 in
theorem progGives_c (b off m tc pb poff n pc : Nat) (T : List T5) (P : List (Int × Int)) (a1 a2 a3 : Int) (w : World) (hT : Tnts w b off m T) (hP : Prts w pb poff n P) (hok : prOk P n m) (htn : tnOk T) (hn : n ≤ 4) (hm : m ≤ 1000) (h1 : 0 ≤ a1 ∧ a1 ≤ 1000) (h2 : 0 ≤ a2 ∧ a2 ≤ 1000) (h3 : 0 ≤ a3 ∧ a3 ≤ 1000) :
    Calls Try.prog 49 #[.slice (some ⟨b, off, none⟩) m tc, .agg #[.slice (some ⟨pb, poff, none⟩) n pc], vv a1 a2 a3] w fun en w' => en = .returned (.bool (gvB T P n a1 a2 a3)) ∧ New w w' := by
  have HS := Lib.hid (fun (w1 : World) (h1 : New w w1) => sumsOf_c b off m tc pb poff n pc T P w1 (hT.new h1) (hP.new h1) hok htn hn hm)
  have hW := sumW_le hok hn
  have t1 := mulW hW h1
  have t2 := mulW hW h2
  have t3 := mulW hW h3
  have HTM := Lib.hid (fun w1 : World => times_c a1 a2 a3 (sumW P n) w1 (by omega) (by omega) (by omega))
  have HR := Lib.hid (show gvB T P n a1 a2 a3 = (sumT P (tA T) n == sumW P n * a1 && sumT P (tB T) n == sumW P n * a2 && sumT P (tC T) n == sumW P n * a3) from rfl)
  have HEQ := Lib.hid (fun w => eql_vec (sumT P (tA T) n) (sumT P (tB T) n) (sumT P (tC T) n) (sumW P n * a1) (sumW P n * a2) (sumW P n * a3) w)
  rw [← HR.out] at HEQ
  clear hT hP hok htn hW t1 t2 t3 h1 h2 h3 HR
  generalize gvB T P n a1 a2 a3 = R at *
  generalize sumW P n * a1 = U1 at *
  generalize sumW P n * a2 = U2 at *
  generalize sumW P n * a3 = U3 at *
  generalize sumW P n = SW at *
  generalize sumT P (tA T) n = SA at *
  generalize sumT P (tB T) n = SB at *
  generalize sumT P (tC T) n = SC at *
  generalize sumT P (tP T) n = SP at *
  go_enter Try.func49, Try.ntmps49
  go_wp2_with fail
  go_at_call 29
  refine (HS.out _ (((New.refl w).alloc _).alloc _)).mono ?_
  rintro e w2 ⟨rfl, hn2⟩
  have hP0 : ((w.alloc (.cells #[.slice (some ⟨pb, poff, none⟩) n pc] 25)).alloc (.cells #[.int .i64 a1, .int .i64 a2, .int .i64 a3] 66)).heap[w.heap.size + 1]? = some (.cells #[.int .i64 a1, .int .i64 a2, .int .i64 a3] 66 (0, 0)) := alloc2_new rfl
  have hwa := (hn2.below.block _ (Array.getElem?_eq_some_iff.1 hP0).1).trans hP0
  obtain ⟨W3, hW3⟩ : ∃ W3, W3 = w2.alloc (.cells (arr5 SW SA SB SC SP) 68) := ⟨_, rfl⟩
  have hn3 : New w2 W3 := by rw [hW3]; exact (New.refl _).alloc _
  have HN3 := Lib.hid (((((New.refl w).alloc (.cells #[.slice (some ⟨pb, poff, none⟩) n pc] 25)).alloc (.cells #[.int .i64 a1, .int .i64 a2, .int .i64 a3] 66)).trans hn2).trans hn3)
  have hb3 : W3.heap[w2.heap.size]? = some (.cells (arr5 SW SA SB SC SP) 68 (0, 0)) := by rw [hW3]; exact heap_alloc_new _ _
  have hw3 := (hn3.below.block _ (Array.getElem?_eq_some_iff.1 hwa).1).trans hwa
  unfold arr5 at hW3
  go_upto_region 2 with fail
  rw [← hW3]
  obtain ⟨⟨c0, c1, c2⟩, c3, c4⟩ := cell5 hb3
  obtain ⟨k1, k2, k3⟩ := cell_v3 hw3
  have hq1 := (Array.getElem?_eq_some_iff.1 hb3).1
  have hq2 := (Array.getElem?_eq_some_iff.1 hw3).1
  have r := HEQ.out
  clear hW3 hn3 hwa hP0 hn2 hb3 hw3
  generalize w2.heap.size = G2 at *
  first | refine wp_region_at2 (by kernel_rfl) (by kernel_rfl) ?_ | refine wp_region_at (by kernel_rfl) (by kernel_rfl) ?_
  repeat (go_big_quiet_step (first | (go_at_call 55; (with_reducible exact calls_new (HTM.out _)))))
  refine wpQuiet_nil ?_
  rintro U3 hq
  have HN4 := Lib.hid (HN3.out.trans (show New W3 U3 from hq))
  clear hq
  go_wp2_with fail
  all_goals (go_ret; exact ⟨rfl, HN4.out⟩)

/-- the reference's boxes -/
def RgW (w W : World) (g : Nat) (a b c SA SB SC : Int) : Prop :=
  New w W ∧ W.heap[w.heap.size + 1]? = some (.cells (#[.int .i64 a, .int .i64 b, .int .i64 c] : Array Value) 37 (0, 0)) ∧ W.heap[g]? = some (.cells (#[.int .i64 SA, .int .i64 SB, .int .i64 SC] : Array Value) 37 (0, 0))
theorem RgW.keep {w W V : World} {g : Nat} {a b c SA SB SC : Int} (h : RgW w W g a b c SA SB SC) (hn : New W V) : RgW w V g a b c SA SB SC := by
  have hk : ∀ k o, W.heap[k]? = some o → V.heap[k]? = some o := fun k o h => (hn.below.block k (Array.getElem?_eq_some_iff.1 h).1).trans h
  exact ⟨h.1.trans hn, hk _ _ h.2.1, hk _ _ h.2.2⟩
theorem lk3_cells {W : World} {g : Nat} {a b c : Int} {t : TypeId} {fr : Nat × Nat} (h : W.heap[g]? = some (.cells #[.int .i64 a, .int .i64 b, .int .i64 c] t fr)) : ∀ k, k < 3 → W.cell? ⟨g, k, none⟩ = some (.int .i64 (lk3 a b c k)) := by
  obtain ⟨c0, c1, c2⟩ := cell_v3 h
  intro k hk
  have : k = 0 ∨ k = 1 ∨ k = 2 := by omega
  rcases this with rfl | rfl | rfl
  · exact c0
  · exact c1
  · exact c2
set_option maxHeartbeats 8000000 in
theorem ref_gives (b off m tc pb poff n pc : Nat) (T : List T5) (P : List (Int × Int)) (a1 a2 a3 : Int) (w : World) (hT : Tnts w b off m T) (hP : Prts w pb poff n P) (hok : prOk P n m) (htn : tnOk T) (hn : n ≤ 4) (hm : m ≤ 1000) (h1 : 0 ≤ a1 ∧ a1 ≤ 1000) (h2 : 0 ≤ a2 ∧ a2 ≤ 1000) (h3 : 0 ≤ a3 ∧ a3 ≤ 1000) :
    Calls Try.prog 51 #[.slice (some ⟨b, off, none⟩) m tc, .agg #[.slice (some ⟨pb, poff, none⟩) n pc], vv a1 a2 a3] w fun en w' => en = .returned (.bool (gvB T P n a1 a2 a3)) ∧ New w w' := by
  have HS := Lib.hid (fun (w1 : World) (h1 : New w w1) => ref_sums b off m tc pb poff n pc T P w1 (hT.new h1) (hP.new h1) hok htn hn hm)
  have hW := sumW_le hok hn
  have HAK := Lib.hid (show ∀ k, 0 ≤ lk3 a1 a2 a3 k ∧ lk3 a1 a2 a3 k ≤ 1000 from fun k => by unfold lk3; split; · exact h1
                                                                                             · split; · exact h2
                                                                                               · exact h3)
  have HWR := Lib.hid (show ∀ k, IntKind.i64.wrap (lk3 a1 a2 a3 k * sumW P n) = lk3 a1 a2 a3 k * sumW P n from fun k => by have := mulW hW (HAK.out k); rw [Int.mul_comm] at this; exact IntWalk.i64_in _ (by omega))
  obtain ⟨ok, hok'⟩ : ∃ ok : Nat → Bool, ok = fun i => lk3 (sumT P (tA T) n) (sumT P (tB T) n) (sumT P (tC T) n) i == lk3 a1 a2 a3 i * sumW P n := ⟨_, rfl⟩
  have HO := Lib.hid (show ∀ i, ok i = (lk3 (sumT P (tA T) n) (sumT P (tB T) n) (sumT P (tC T) n) i == lk3 a1 a2 a3 i * sumW P n) from fun i => by rw [hok'])
  have HR := Lib.hid (show gvB T P n a1 a2 a3 = (List.range 3).all ok by rw [hok']; simp [gvB, List.range_succ, lk3, Bool.and_assoc, Int.mul_comm])
  clear hT hP hok htn hW h1 h2 h3 hok'
  generalize gvB T P n a1 a2 a3 = R at *
  generalize sumW P n = SW at *
  generalize sumT P (tA T) n = SA at *
  generalize sumT P (tB T) n = SB at *
  generalize sumT P (tC T) n = SC at *
  generalize sumT P (tP T) n = SP at *
  go_enter Try.func51, Try.ntmps51
  go_wp2_with fail
  go_at_call 33
  refine (HS.out _ (((New.refl w).alloc _).alloc _)).mono ?_
  rintro e w2 ⟨rfl, hn2⟩
  have hP0 : ((w.alloc (.cells #[.slice (some ⟨pb, poff, none⟩) n pc] 25)).alloc (.cells #[.int .i64 a1, .int .i64 a2, .int .i64 a3] 37)).heap[w.heap.size + 1]? = some (.cells #[.int .i64 a1, .int .i64 a2, .int .i64 a3] 37 (0, 0)) := alloc2_new rfl
  have hwa := (hn2.below.block _ (Array.getElem?_eq_some_iff.1 hP0).1).trans hP0
  obtain ⟨W3, hW3⟩ : ∃ W3, W3 = w2.alloc (.cells #[.int .i64 SA, .int .i64 SB, .int .i64 SC] 37) := ⟨_, rfl⟩
  have hn3 : New w2 W3 := by rw [hW3]; exact (New.refl _).alloc _
  have HG := Lib.hid (show RgW w W3 w2.heap.size a1 a2 a3 SA SB SC from ⟨((((New.refl w).alloc (.cells #[.slice (some ⟨pb, poff, none⟩) n pc] 25)).alloc (.cells #[.int .i64 a1, .int .i64 a2, .int .i64 a3] 37)).trans hn2).trans hn3, (hn3.below.block _ (Array.getElem?_eq_some_iff.1 hwa).1).trans hwa, by rw [hW3]; exact heap_alloc_new _ _⟩)
  go_wp2_with fail
  rw [← hW3]
  clear hW3 hn3 hwa hP0 hn2
  generalize w2.heap.size = G2 at *
  go_loopw [10] (fun i wr => ∃ k : Nat, k ≤ 3 ∧ i = .int .i64 k ∧ (List.range k).all ok = true ∧ RgW w wr G2 a1 a2 a3 SA SB SC) (fun i _ => 3 - (intOf i).toNat)
  case atStart => exact ⟨0, by omega, rfl, rfl, HG.out⟩
  case round =>
    obtain ⟨k, hk, rfl, hall, hw⟩ := hrel
    have HALL := Lib.hid hall
    have HV := Lib.hid hw
    clear hall hw HG
    by_cases hlt : k < 3
    · have hk1 : (k : Int) < 3 := by omega
      have c0 := lk3_cells HV.out.2.1 k hlt
      have c1 := lk3_cells HV.out.2.2 k hlt
      have q1 := (Array.getElem?_eq_some_iff.1 HV.out.2.1).1
      have q2 := (Array.getElem?_eq_some_iff.1 HV.out.2.2).1
      have hwr := HWR.out k
      have HOk := Lib.hid (HO.out k)
      have HSN := Lib.hid (all_snoc ok k)
      have HMS := Lib.hid (fun (e : ok k = false) => (by rw [HR.out, all_miss hlt e] : R = false))
      generalize lk3 a1 a2 a3 k = X at *
      generalize lk3 SA SB SC k = Y at *
      go_upto_region 5 with fail
      first | refine wp_region_at2 (by kernel_rfl) (by kernel_rfl) ?_ | refine wp_region_at (by kernel_rfl) (by kernel_rfl) ?_
      repeat (go_big_quiet_step (fail))
      refine wpQuiet_nil ?_
      rintro U3 hq
      have HU := Lib.hid (HV.out.keep (show New wr U3 from hq))
      clear hq c0 c1
      by_cases he : Y = X * SW
      · have HVV := Lib.hid (show ok k = true by rw [HOk.out, he]; simp)
        have hb1 : (Y != X * SW) = false := by simpa using he
        have hb2 : (Y = X * SW) = True := eq_true he
        go_wp2_with fail
        go_roundw
        case rel => exact ⟨k + 1, by omega, by go_num, by rw [HSN.out, HALL.out, HVV.out]; rfl, HU.out⟩
        case measure => simp [intOf]; omega
      · have HF := Lib.hid (show false = R from (HMS.out (by rw [HOk.out]; simpa using he)).symm)
        have hb1 : (Y != X * SW) = true := by simpa using he
        have hb2 : (Y = X * SW) = False := eq_false he
        go_wp2_with fail
        all_goals (go_ret; exact ⟨ret_bool HF.out, HU.out.1⟩)
    · obtain rfl : k = 3 := by omega
      have hk1 : ¬ ((3 : Nat) : Int) < 3 := by omega
      have HF := Lib.hid (show true = R by rw [HR.out, HALL.out])
      go_wp2_with fail
      all_goals (go_ret; exact ⟨ret_bool HF.out, HV.out.1⟩)


def dnB (N : Nat → Int) (j : Nat) : Bool := decide (-1000000000000000 ≤ N j) && decide (N j ≤ 1000000000000000)
def dtB (T : List T5) (N : Nat → Int) (den : Int) (i : Nat) : Bool := decide (N 0 + (N 1 * tA T i + N 2 * tB T i + N 3 * tC T i) ≤ den * tP T i)
/-- the dual shows that the shade costs no less than lx / ly -/
def duB (T : List T5) (n : Nat) (N : Nat → Int) (den lx ly a1 a2 a3 : Int) : Bool := ((decide (1 ≤ den) && decide (den ≤ 1000000000000)) && (List.range 4).all (dnB N)) && ((List.range n).all (dtB T N den) && (frA (N 0 + (N 1 * a1 + N 2 * a2 + N 3 * a3)) den == lx && frB (N 0 + (N 1 * a1 + N 2 * a2 + N 3 * a3)) den == ly))
set_option maxHeartbeats 16000000 in
theorem isDual_v (b off n cp : Nat) (a1 a2 a3 lx ly : Int) (N : Nat → Int) (den : Int) (T : List T5) (w : World) (hT : Tnts w b off n T) (htn : tnOk T) (hn : n ≤ 1000) (h1 : 0 ≤ a1 ∧ a1 ≤ 1000) (h2 : 0 ≤ a2 ∧ a2 ≤ 1000) (h3 : 0 ≤ a3 ∧ a3 ≤ 1000) :
    Calls Try.prog 50 #[.slice (some ⟨b, off, none⟩) n cp, vv a1 a2 a3, fv lx ly, .agg #[.int .i64 (N 0), .int .i64 (N 1), .int .i64 (N 2), .int .i64 (N 3), .int .i64 den]] w fun en w' => en = .returned (.bool (duB T n N den lx ly a1 a2 a3)) ∧ New w w' := by
  have HT := Lib.hid hT
  have HTN := Lib.hid htn
  obtain ⟨ok, hok⟩ : ∃ ok : Nat → Bool, ok = dtB T N den := ⟨_, rfl⟩
  have HO := Lib.hid (show ∀ i, ok i = decide (N 0 + (N 1 * tA T i + N 2 * tB T i + N 3 * tC T i) ≤ den * tP T i) from fun i => by rw [hok]; rfl)
  have HR := Lib.hid (show duB T n N den lx ly a1 a2 a3 = (((decide (1 ≤ den) && decide (den ≤ 1000000000000)) && (List.range 4).all (dnB N)) && ((List.range n).all ok && (frA (N 0 + (N 1 * a1 + N 2 * a2 + N 3 * a3)) den == lx && frB (N 0 + (N 1 * a1 + N 2 * a2 + N 3 * a3)) den == ly))) by rw [hok]; rfl)
  clear hok
  generalize duB T n N den lx ly a1 a2 a3 = R at *
  have HW0 := Lib.hid (show IdW w (((w.alloc (.cells #[.int .i64 a1, .int .i64 a2, .int .i64 a3] 66)).alloc (.cells #[.int .i64 lx, .int .i64 ly] 29)).alloc (.cells (arr5 (N 0) (N 1) (N 2) (N 3) den) 49)) a1 a2 a3 lx ly N den from
    ⟨(((New.refl _).alloc _).alloc _).alloc _, (alloc3_heap' w _ _ _).1, (alloc3_heap' w _ _ _).2.1, (alloc3_heap' w _ _ _).2.2⟩)
  clear hT htn
  go_enter Try.func50, Try.ntmps50
  go_upto_region 1 with fail
  obtain ⟨W1, hW1⟩ : ∃ W1, W1 = (((w.alloc (.cells #[.int .i64 a1, .int .i64 a2, .int .i64 a3] 66)).alloc (.cells #[.int .i64 lx, .int .i64 ly] 29)).alloc (.cells (arr5 (N 0) (N 1) (N 2) (N 3) den) 49)) := ⟨_, rfl⟩
  rw [← hW1] at HW0
  unfold arr5 at hW1
  rw [← hW1]
  clear hW1
  obtain ⟨⟨c0, c1, c2⟩, c3, c4⟩ := cell5 HW0.out.2.2.2
  by_cases u1 : den < 1
  · have HF := Lib.hid (show false = R by rw [HR.out, decide_eq_false (show ¬ 1 ≤ den by omega)]; rfl)
    go_wp2_with fail
    all_goals (go_ret; exact ⟨ret_bool HF.out, HW0.out.1⟩)
  · by_cases u2 : 1000000000000 < den
    · have HF := Lib.hid (show false = R by rw [HR.out, decide_eq_false (show ¬ den ≤ 1000000000000 by omega)]; simp)
      go_wp2_with fail
      all_goals (go_ret; exact ⟨ret_bool HF.out, HW0.out.1⟩)
    · have HR1 := Lib.hid (show R = ((List.range 4).all (dnB N) && ((List.range n).all ok && (frA (N 0 + (N 1 * a1 + N 2 * a2 + N 3 * a3)) den == lx && frB (N 0 + (N 1 * a1 + N 2 * a2 + N 3 * a3)) den == ly))) by rw [HR.out, decide_eq_true (show 1 ≤ den by omega), decide_eq_true (show den ≤ 1000000000000 by omega)]; simp)
      clear HR
      go_wp2_with fail
      clear c0 c1 c2 c3 c4
      go_loopw [25] (fun i wr => ∃ k : Nat, k ≤ 4 ∧ i = .int .i64 (k : Int) ∧ (∀ j, j < k → -1000000000000000 ≤ N j ∧ N j ≤ 1000000000000000) ∧ IdW w wr a1 a2 a3 lx ly N den) (fun i _ => 4 - (intOf i).toNat)
      case atStart => exact ⟨0, Nat.zero_le _, rfl, fun j hj => by omega, HW0.out⟩
      case round =>
        obtain ⟨k, hk, rfl, hb, hw⟩ := hrel
        have HB := Lib.hid hb
        have HW := Lib.hid hw
        clear hb hw HW0
        by_cases hlt : k < 4
        · have hx := index_four N k hlt
          have hlt1 : (k : Int) < 4 := by omega
          have HMS := Lib.hid (fun (e : ¬ (-1000000000000000 ≤ N k ∧ N k ≤ 1000000000000000)) => (by
            rw [HR1.out, all_miss hlt (by unfold dnB; rw [Bool.and_eq_false_iff, decide_eq_false_iff_not, decide_eq_false_iff_not]; omega)]; rfl : R = false))
          generalize hX : N k = X at *
          have HX := Lib.hid hX
          clear hX
          by_cases v1 : X < -1000000000000000
          · have HF := Lib.hid (HMS.out (by omega)).symm
            go_wp2_with fail
            all_goals (go_ret; exact ⟨ret_bool HF.out, HW.out.1⟩)
          · by_cases v2 : 1000000000000000 < X
            · have HF := Lib.hid (HMS.out (by omega)).symm
              go_wp2_with fail
              all_goals (go_ret; exact ⟨ret_bool HF.out, HW.out.1⟩)
            · go_wp2_with fail
              go_roundw
              case rel => exact ⟨k + 1, by omega, by go_num, fun j hj => by
                by_cases e : j = k
                · rw [e, HX.out]; omega
                · exact HB.out j (by omega), HW.out⟩
              case measure => simp [intOf]; omega
        · obtain rfl : k = 4 := by omega
          have hlt1 : ¬ ((4 : Nat) : Int) < 4 := by omega
          have HR2 := Lib.hid (show R = ((List.range n).all ok && (frA (N 0 + (N 1 * a1 + N 2 * a2 + N 3 * a3)) den == lx && frB (N 0 + (N 1 * a1 + N 2 * a2 + N 3 * a3)) den == ly)) by
            rw [HR1.out, List.all_eq_true.2 (fun j hj => by
              have := HB.out j (by simpa using hj)
              unfold dnB
              rw [decide_eq_true this.1, decide_eq_true this.2]; rfl)]; rfl)
          clear HR1
          obtain ⟨⟨c0, c1, c2⟩, c3, c4⟩ := cell5 HW.out.2.2.2
          have hsz := (Array.getElem?_eq_some_iff.1 HW.out.2.2.2).1
          go_upto_region 11 with fail
          obtain ⟨W2, hW2⟩ : ∃ W2, W2 = wr.alloc (.cells (#[.int .i64 (N 1), .int .i64 (N 2), .int .i64 (N 3)] : Array Value) 66) := ⟨_, rfl⟩
          have hN2 : New wr W2 := by rw [hW2]; exact (New.refl _).alloc _
          have HW2 := Lib.hid (HW.out.keep hN2)
          have HSL := Lib.hid (show W2.heap[wr.heap.size]? = some (.cells (#[.int .i64 (N 1), .int .i64 (N 2), .int .i64 (N 3)] : Array Value) 66 (0, 0)) by rw [hW2]; exact heap_alloc_new _ _)
          have hsl := (Array.getElem?_eq_some_iff.1 HSL.out).1
          rw [← hW2]
          clear hW2 hN2 c0 c1 c2 c3 c4
          generalize hSL : wr.heap.size = SL at *
          go_wp2_with fail
          go_loopw [48] (fun i V => ∃ k : Nat, k ≤ n ∧ i = .int .i64 (k : Int) ∧ (List.range k).all ok = true ∧ IdW w V a1 a2 a3 lx ly N den ∧ New W2 V) (fun i _ => n - (intOf i).toNat)
          case atStart => exact ⟨0, Nat.zero_le _, rfl, rfl, HW2.out, New.refl _⟩
          case round =>
            obtain ⟨k, hk, rfl, hall, hw, hnv⟩ := hrel
            have HALL := Lib.hid hall
            clear hall
            have HV := Lib.hid hw
            have HNV := Lib.hid hnv
            have hsl2 := (hnv.below.block _ hsl).trans HSL.out
            have HSL2 := Lib.hid hsl2
            have HVA := Lib.hid (fun (x y z : Int) (bx : 0 ≤ x ∧ x ≤ 1000) (bY : 0 ≤ y ∧ y ≤ 1000) (bz : 0 ≤ z ∧ z ≤ 1000) (V' : World) (hV' : New wr V') => value_c (w.heap.size + 1 + 1) SL (N 0) (N 1) (N 2) (N 3) x y z V' (hV'.cell (Array.getElem?_eq_some_iff.1 hw.2.2.2).1 |>.trans (cell5 hw.2.2.2).1.1) (Nat.lt_of_lt_of_le (Array.getElem?_eq_some_iff.1 hw.2.2.2).1 hV'.size)
              ((hV'.cell (Array.getElem?_eq_some_iff.1 hsl2).1).trans (by simp [World.cell?, hsl2])) ((hV'.cell (Array.getElem?_eq_some_iff.1 hsl2).1).trans (by simp [World.cell?, hsl2])) ((hV'.cell (Array.getElem?_eq_some_iff.1 hsl2).1).trans (by simp [World.cell?, hsl2])) (Nat.lt_of_lt_of_le (Array.getElem?_eq_some_iff.1 hsl2).1 hV'.size)
              (HB.out 0 (by omega)) (HB.out 1 (by omega)) (HB.out 2 (by omega)) (HB.out 3 (by omega)) bx bY bz)
            clear hw hnv hsl2
            by_cases hlk : k < n
            · have hlk1 : (k : Int) < (n : Int) := by omega
              obtain ⟨_, gl, hcc⟩ := HT.out.new HV.out.1
              obtain ⟨⟨c1, c2, c3⟩, c4, c5⟩ := hcc k hlk
              obtain ⟨⟨bA, bB⟩, bC, bP⟩ := HTN.out k
              have HV0 := Lib.hid (HVA.out _ _ _ bA bB bC)
              have hmd := mulden den _ (by omega) bP
              have hwr1 : IntKind.i64.wrap (den * tP T k) = den * tP T k := IntWalk.i64_in _ (by omega)
              have HOk := Lib.hid (HO.out k)
              have HSN := Lib.hid (all_snoc ok k)
              have HMS := Lib.hid (fun (e : ok k = false) => (by rw [HR2.out, all_miss hlk e]; rfl : R = false))
              clear hcc HVA HO
              generalize tN T k = S at *
              generalize tA T k = A at *
              generalize tB T k = B at *
              generalize tC T k = C at *
              generalize tP T k = P at *
              go_upto_region 14 with fail
              obtain ⟨W3, hW3⟩ : ∃ W3, W3 = wr.alloc (.cells #[.string S, .int .i64 A, .int .i64 B, .int .i64 C, .int .i64 P] 59) := ⟨_, rfl⟩
              have hN3 : New wr W3 := by rw [hW3]; exact (New.refl _).alloc _
              have z3 : W3.heap[wr.heap.size]? = some (.cells #[.string S, .int .i64 A, .int .i64 B, .int .i64 C, .int .i64 P] 59 (0, 0)) := by rw [hW3]; exact heap_alloc_new _ _
              have HV3 := Lib.hid (HV.out.keep hN3)
              have HN3 := Lib.hid hN3
              rw [← hW3]
              have d1 : W3.cell? ⟨wr.heap.size, 1, none⟩ = some (.int .i64 A) := by simp [World.cell?, z3]
              have d2 : W3.cell? ⟨wr.heap.size, 2, none⟩ = some (.int .i64 B) := by simp [World.cell?, z3]
              have d3 : W3.cell? ⟨wr.heap.size, 3, none⟩ = some (.int .i64 C) := by simp [World.cell?, z3]
              have d4 : W3.cell? ⟨wr.heap.size, 4, none⟩ = some (.int .i64 P) := by simp [World.cell?, z3]
              have d5 := (cell5 HV3.out.2.2.2).2.2
              have dl := (Array.getElem?_eq_some_iff.1 z3).1
              have dl2 := (Array.getElem?_eq_some_iff.1 HV3.out.2.2.2).1
              have HVW := Lib.hid (fun (V' : World) (hV' : New W3 V') => HV0.out V' (hN3.trans hV'))
              clear hW3 hN3 z3 c1 c2 c3 c4 c5 gl
              generalize hTB : wr.heap.size = TB at *
              first | refine wp_region_at2 (by kernel_rfl) (by kernel_rfl) ?_ | refine wp_region_at (by kernel_rfl) (by kernel_rfl) ?_
              repeat (go_big_quiet_step (first | (go_at_call 77; (with_reducible exact calls_new (HVW.out _ (by assumption)))) | (go_at_call 77; (with_reducible exact calls_new (HVW.out _ (by (repeat (first | exact New.refl _ | apply New.alloc | apply New.aft | apply New.drew))))))))
              refine wpQuiet_nil ?_
              rintro U3 hq
              have HN4 := Lib.hid (HN3.out.trans (show New W3 U3 from hq))
              have HV4 := Lib.hid (HV.out.keep HN4.out)
              clear hq d1 d2 d3 d4 d5 dl dl2
              generalize N 0 + (N 1 * A + N 2 * B + N 3 * C) = VX at *
              by_cases hgt : den * P < VX
              · have HF := Lib.hid (HMS.out (by rw [HOk.out, decide_eq_false (by omega)])).symm
                go_wp2_with fail
                all_goals (go_ret; exact ⟨ret_bool HF.out, HV4.out.1⟩)
              · have HVV := Lib.hid (show ok k = true by rw [HOk.out, decide_eq_true (by omega)])
                go_wp2_with fail
                go_roundw
                case rel => exact ⟨k + 1, by omega, by go_num, by rw [HSN.out, HALL.out, HVV.out]; rfl, HV4.out, HNV.out.trans HN4.out⟩
                case measure => simp [intOf]; omega
            · obtain rfl : k = n := by omega
              have hlk1 : ¬ (k : Int) < (k : Int) := by omega
              have hvb := valbd N HB.out a1 a2 a3 h1 h2 h3
              have HV0 := Lib.hid (HVA.out _ _ _ h1 h2 h3)
              have HR3 := Lib.hid (show R = (frA (N 0 + (N 1 * a1 + N 2 * a2 + N 3 * a3)) den == lx && frB (N 0 + (N 1 * a1 + N 2 * a2 + N 3 * a3)) den == ly) by rw [HR2.out, HALL.out]; rfl)
              clear HVA HR2 HALL
              generalize N 0 + (N 1 * a1 + N 2 * a2 + N 3 * a3) = VX at *
              have HFR := Lib.hid (fun w1 : World => fraction_any VX den w1 hvb (by omega))
              generalize frA VX den = fa at *
              generalize frB VX den = fb at *
              have heq := eql_frac fa fb lx ly
              generalize (fa == lx && fb == ly) = qe at *
              have g1 := HV.out.2.1
              have g2 := HV.out.2.2.1
              have d1 : wr.cell? ⟨w.heap.size, 0, none⟩ = some (.int .i64 a1) := by simp [World.cell?, g1]
              have d2 : wr.cell? ⟨w.heap.size, 1, none⟩ = some (.int .i64 a2) := by simp [World.cell?, g1]
              have d3 : wr.cell? ⟨w.heap.size, 2, none⟩ = some (.int .i64 a3) := by simp [World.cell?, g1]
              have d4 : wr.cell? ⟨w.heap.size + 1, 0, none⟩ = some (.int .i64 lx) := by simp [World.cell?, g2]
              have d6 : wr.cell? ⟨w.heap.size + 1, 1, none⟩ = some (.int .i64 ly) := by simp [World.cell?, g2]
              have d5 := (cell5 HV.out.2.2.2).2.2
              have dl := (Array.getElem?_eq_some_iff.1 g1).1
              have dl1 := (Array.getElem?_eq_some_iff.1 g2).1
              have dl2 := (Array.getElem?_eq_some_iff.1 HV.out.2.2.2).1
              clear g1 g2 hvb
              go_upto_region 17 with fail
              first | refine wp_region_at2 (by kernel_rfl) (by kernel_rfl) ?_ | refine wp_region_at (by kernel_rfl) (by kernel_rfl) ?_
              repeat (go_big_quiet_step (first | (go_at_call 77; (with_reducible exact calls_new (HV0.out _ (by (repeat (first | exact New.refl _ | apply New.alloc | apply New.aft | apply New.drew)))))) | (go_at_call 30; (with_reducible exact calls_new (HFR.out _)))))
              refine wpQuiet_nil ?_
              rintro U3 hq
              have HN4 := Lib.hid (HV.out.1.trans (show New wr U3 from hq))
              clear hq d1 d2 d3 d4 d5 d6 dl dl1 dl2
              go_wp2_with fail
              all_goals (go_ret; exact ⟨ret_bool HR3.out.symm, HN4.out⟩)


theorem gcdI_abs (a b : Int) (hb : 0 ≤ b) : gcdI (max a (-a)) b = ((Nat.gcd a.natAbs b.natAbs : Nat) : Int) := by
  unfold gcdI
  rw [show (max a (-a)).toNat = a.natAbs by omega, show b.toNat = b.natAbs by omega]
theorem gcd_step_abs (p q : Int) : Nat.gcd q.natAbs (p.tmod q).natAbs = Nat.gcd p.natAbs q.natAbs := by
  rw [Int.natAbs_tmod, Nat.gcd_comm, ← Nat.gcd_rec, Nat.gcd_comm]
set_option maxHeartbeats 4000000 in
theorem ref_gcd_any (a b : Int) (w : World) (ha : -4000000000000000000 ≤ a ∧ a ≤ 4000000000000000000) (hb : 0 < b ∧ b ≤ 4000000000000000000) :
    Calls Try.prog 59 #[.int .i64 a, .int .i64 b] w fun en w' => en = .returned (.int .i64 (gcdI (max a (-a)) b)) ∧ New w w' := by
  rw [gcdI_abs a b (by omega)]
  go_enter Try.func59, Try.ntmps59
  go_wp2_with fail
  go_loopw [0, 1] (fun x y wr => ∃ p q : Int, (-4000000000000000000 ≤ p ∧ p ≤ 4000000000000000000) ∧ (-4000000000000000000 ≤ q ∧ q ≤ 4000000000000000000) ∧ x = .int .i64 p ∧ y = .int .i64 q ∧ Nat.gcd p.natAbs q.natAbs = Nat.gcd a.natAbs b.natAbs ∧ New w wr) (fun _ y _ => (intOf y).natAbs)
  case atStart => exact ⟨a, b, ha, ⟨by omega, hb.2⟩, rfl, rfl, rfl, New.refl _⟩
  case round =>
    obtain ⟨p, q, hp, hq, rfl, rfl, hg, pr, rfl⟩ := hrel
    have HG := Lib.hid hg
    clear hg
    by_cases h0 : q = 0
    · subst h0
      have hval : ((Nat.gcd a.natAbs b.natAbs : Nat) : Int) = if p < 0 then -p else p := by
        rw [← HG.out, Int.natAbs_zero, Nat.gcd_zero_right]; split <;> omega
      have HV := Lib.hid hval
      have hwn : IntKind.i64.wrap (-p) = -p := IntWalk.i64_in _ (by omega)
      clear hval
      by_cases hn : p < 0
      · go_wp2_with fail
        go_ret
        exact ⟨ret_int (by rw [HV.out, if_pos (by omega)]), (by (repeat (first | exact New.refl _ | apply New.alloc | apply New.aft | apply New.drew | refine New.setCell ?_ ?_ _)); all_goals (first | done | (simp [size_aft]; done) | (simp [size_aft]; omega)))⟩
      · go_wp2_with fail
        go_ret
        exact ⟨ret_int (by rw [HV.out, if_neg (by omega)]), (by (repeat (first | exact New.refl _ | apply New.alloc | apply New.aft | apply New.drew | refine New.setCell ?_ ?_ _)); all_goals (first | done | (simp [size_aft]; done) | (simp [size_aft]; omega)))⟩
    · have HS := Lib.hid ((gcd_step_abs p q).trans HG.out)
      have hlt : (p.tmod q).natAbs < q.natAbs := by rw [Int.natAbs_tmod]; exact Nat.mod_lt _ (by omega)
      have hz : (q = 0) = False := eq_false h0
      have hz2 : (q == 0) = false := by simpa using h0
      have hz3 : (q != 0) = true := by simpa using h0
      have hbd : -4000000000000000000 ≤ p.tmod q ∧ p.tmod q ≤ 4000000000000000000 := by generalize p.tmod q = r at *; omega
      clear h0
      go_wp2_with fail
      go_roundw
      case rel => exact ⟨q, p.tmod q, hq, hbd, rfl, rfl, HS.out, (by (repeat (first | exact New.refl _ | apply New.alloc | apply New.aft | apply New.drew | refine New.setCell ?_ ?_ _)); all_goals (first | done | (simp [size_aft]; done) | (simp [size_aft]; omega)))⟩
      case measure => simpa [intOf] using hlt

set_option maxHeartbeats 4000000 in
theorem ratio_any (a b : Int) (w : World) (ha : -4000000000000000000 ≤ a ∧ a ≤ 4000000000000000000) (hb : 0 < b ∧ b ≤ 4000000000000000000) :
    Calls Try.prog 34 #[.int .i64 a, .int .i64 b] w fun en w' => en = .returned (fv (frA a b) (frB a b)) ∧ New w w' := by
  have HGC := Lib.hid (fun w1 : World => ref_gcd_any a b w1 ha hb)
  obtain ⟨g1, g2⟩ := gcdI_pos (max a (-a)) b hb.1
  have HA := Lib.hid (show frA a b = a.tdiv (gcdI (max a (-a)) b) from rfl)
  have HB := Lib.hid (show frB a b = b.tdiv (gcdI (max a (-a)) b) from rfl)
  generalize frA a b = X at *
  generalize frB a b = Y at *
  generalize gcdI (max a (-a)) b = G at *
  obtain ⟨t1, t2⟩ := tdiv_bd a G g1 4000000000000000000 (by omega) (by omega)
  obtain ⟨t3, t4⟩ := tdiv_bd b G g1 4000000000000000000 (by omega) (by omega)
  have q1 : IntKind.i64.wrap (a.tdiv G) = a.tdiv G := IntWalk.i64_in _ (by omega)
  have q2 : IntKind.i64.wrap (b.tdiv G) = b.tdiv G := IntWalk.i64_in _ (by omega)
  have hz : (G = 0) = False := eq_false (by omega)
  go_enter Try.func34, Try.ntmps34
  go_wp2_with (go_at_call 59; refine (HGC.out _).mono ?_; rintro e w1 ⟨rfl, pw, rfl⟩)
  all_goals go_region
  all_goals (go_wp2_with fail)
  all_goals (refine bodyPost_ret (v := fv (a.tdiv G) (b.tdiv G)) (by simp [results, Try.results34, go_sem]) rfl ⟨by rw [HA.out, HB.out], (by (repeat (first | exact New.refl _ | apply New.alloc | apply New.aft | apply New.drew | refine New.setCell ?_ ?_ _)); all_goals (first | done | (simp [size_aft]; done) | (simp [size_aft]; omega)))⟩)


theorem ret_two {x y : Bool} {a b : Int} (h : x = y) (k : a = b) : Ending.returned (.tuple #[.bool x, .int .i64 a]) = .returned (.tuple #[.bool y, .int .i64 b]) := by rw [h, k]
/-- the recipe gives the shade, and the dual shows that none is cheaper -/
def ccB (T : List T5) (P : List (Int × Int)) (m n : Nat) (N : Nat → Int) (den a b c : Int) : Bool := recB P m && (gvB T P n a b c && duB T m N den (lowA (sumT P (tP T) n) (sumW P n)) (lowB (sumT P (tP T) n) (sumW P n)) a b c)
abbrev duV (N : Nat → Int) (den : Int) : Value := .agg #[.int .i64 (N 0), .int .i64 (N 1), .int .i64 (N 2), .int .i64 (N 3), .int .i64 den]
/-- the boxes: shade, recipe, dual -/
def CkW (w W : World) (a b c : Int) (rv : Value) (N : Nat → Int) (den : Int) : Prop :=
  New w W ∧ W.heap[w.heap.size]? = some (.cells (#[.int .i64 a, .int .i64 b, .int .i64 c] : Array Value) 37 (0, 0)) ∧ W.heap[w.heap.size + 1]? = some (.cells #[rv] 25 (0, 0)) ∧ W.heap[w.heap.size + 1 + 1]? = some (.cells (arr5 (N 0) (N 1) (N 2) (N 3) den) 49 (0, 0))
theorem CkW.keep {w W V : World} {a b c : Int} {rv : Value} {N : Nat → Int} {den : Int} (h : CkW w W a b c rv N den) (hn : New W V) : CkW w V a b c rv N den := by
  have hk : ∀ k o, W.heap[k]? = some o → V.heap[k]? = some o := fun k o h => (hn.below.block k (Array.getElem?_eq_some_iff.1 h).1).trans h
  exact ⟨h.1.trans hn, hk _ _ h.2.1, hk _ _ h.2.2.1, hk _ _ h.2.2.2⟩
set_option maxHeartbeats 16000000 in
theorem checkCheapest_c (tv pv : Option Addr) (m tc n pc : Nat) (T : List T5) (P : List (Int × Int)) (a b c : Int) (N : Nat → Int) (den : Int) (w : World) (hm : m ≤ 1000) (hn : n ≤ 1000) (hTl : T.length = m) (hT : 0 < m → ∃ b off, tv = some ⟨b, off, none⟩ ∧ Tnts w b off m T) (hP : P.length = n) (hp : 0 < n → ∃ b off, pv = some ⟨b, off, none⟩ ∧ Prts w b off n P) :
    Calls Try.prog 23 #[.slice tv m tc, vv a b c, .agg #[.slice pv n pc], duV N den] w fun en w' => en = .returned (.tuple #[.bool (decide (wntE T a b c m = 0) && ccB T P m n N den a b c), .int .i64 (wntE T a b c m)]) ∧ New w w' := by
  have HW := Lib.hid (fun (w1 : World) (h1 : New w w1) => checkWanted_c tv m tc T a b c w1 (by omega) (fun h => by obtain ⟨b, o, e, h2⟩ := hT h; exact ⟨b, o, e, h2.new h1⟩))
  have HI := Lib.hid (fun (w1 : World) (h1 : New w w1) => isRecipe_c tv pv m tc n pc P w1 (by omega) (by omega) hP (fun h => by obtain ⟨b, o, e, h2⟩ := hp h; exact ⟨b, o, e, h2.new h1⟩))
  have HZ := Lib.hid (fun (hz : wntE T a b c m = 0) => And.intro (wntE_zero hTl hz) (chkE_zero hTl (wntE_zero' hz).1).1)
  have HRT := Lib.hid (fun (h : recB P m = true) => recB_true hP h)
  have HGV := Lib.hid (fun (hz : wntE T a b c m = 0) (h : recB P m = true) (w1 : World) (h1 : New w w1) => (by
    obtain ⟨⟨htn, q1, q2, q3⟩, hm1, _⟩ := HZ.out hz
    obtain ⟨⟨hn1, hn4⟩, hok⟩ := HRT.out h
    obtain ⟨tb, off, e1, hTn⟩ := hT (by omega)
    obtain ⟨pb, poff, e2, hPn⟩ := hp (by omega)
    subst e1; subst e2
    exact progGives_c tb off m tc pb poff n pc T P a b c w1 (hTn.new h1) (hPn.new h1) hok htn hn4 hm q1 q2 q3 :
    Calls Try.prog 49 #[.slice tv m tc, .agg #[.slice pv n pc], vv a b c] w1 fun en w' => en = .returned (.bool (gvB T P n a b c)) ∧ New w1 w'))
  have HPR := Lib.hid (fun (hz : wntE T a b c m = 0) (h : recB P m = true) (w1 : World) (h1 : New w w1) => (by
    obtain ⟨⟨htn, q1, q2, q3⟩, hm1, _⟩ := HZ.out hz
    obtain ⟨⟨hn1, hn4⟩, hok⟩ := HRT.out h
    obtain ⟨tb, off, e1, hTn⟩ := hT (by omega)
    obtain ⟨pb, poff, e2, hPn⟩ := hp (by omega)
    subst e1; subst e2
    exact price_c tb off m tc pb poff n pc T P w1 (hTn.new h1) (hPn.new h1) hok htn (by omega) hn4 hm :
    Calls Try.prog 35 #[.slice tv m tc, .agg #[.slice pv n pc]] w1 fun en w' => en = .returned (fv (lowA (sumT P (tP T) n) (sumW P n)) (lowB (sumT P (tP T) n) (sumW P n))) ∧ New w1 w'))
  have HDU := Lib.hid (fun (hz : wntE T a b c m = 0) (w1 : World) (h1 : New w w1) => (by
    obtain ⟨⟨htn, q1, q2, q3⟩, hm1, _⟩ := HZ.out hz
    obtain ⟨tb, off, e1, hTn⟩ := hT (by omega)
    subst e1
    exact isDual_v tb off m tc a b c (lowA (sumT P (tP T) n) (sumW P n)) (lowB (sumT P (tP T) n) (sumW P n)) N den T w1 (hTn.new h1) htn hm q1 q2 q3 :
    Calls Try.prog 50 #[.slice tv m tc, vv a b c, fv (lowA (sumT P (tP T) n) (sumW P n)) (lowB (sumT P (tP T) n) (sumW P n)), duV N den] w1 fun en w' => en = .returned (.bool (duB T m N den (lowA (sumT P (tP T) n) (sumW P n)) (lowB (sumT P (tP T) n) (sumW P n)) a b c)) ∧ New w1 w'))
  have HR := Lib.hid (show ccB T P m n N den a b c = (recB P m && (gvB T P n a b c && duB T m N den (lowA (sumT P (tP T) n) (sumW P n)) (lowB (sumT P (tP T) n) (sumW P n)) a b c)) from rfl)
  clear hT hp HZ HRT
  generalize ccB T P m n N den a b c = R at *
  generalize duB T m N den (lowA (sumT P (tP T) n) (sumW P n)) (lowB (sumT P (tP T) n) (sumW P n)) a b c = D at *
  generalize lowA (sumT P (tP T) n) (sumW P n) = LA at *
  generalize lowB (sumT P (tP T) n) (sumW P n) = LB at *
  generalize gvB T P n a b c = G at *
  generalize recB P m = Q at *
  generalize wntE T a b c m = E at *
  go_enter Try.func23, Try.ntmps23
  go_wp2_with fail
  go_at_call 36
  obtain ⟨W1, hW1⟩ : ∃ W1, W1 = ((w.alloc (.cells #[.int .i64 a, .int .i64 b, .int .i64 c] 37)).alloc (.cells #[.slice pv n pc] 25)).alloc (.cells (arr5 (N 0) (N 1) (N 2) (N 3) den) 49) := ⟨_, rfl⟩
  have hc1 : CkW w W1 a b c (.slice pv n pc) N den := by
    rw [hW1]; exact ⟨((((New.refl _).alloc _).alloc _).alloc _), (alloc3_heap' w _ _ _).1, (alloc3_heap' w _ _ _).2.1, (alloc3_heap' w _ _ _).2.2⟩
  unfold arr5 at hW1
  rw [← hW1]
  refine (HW.out _ hc1.1).mono ?_
  rintro e w2 ⟨rfl, hn2⟩
  have HC := Lib.hid (hc1.keep hn2)
  clear hW1 hc1 hn2 HW
  by_cases hz : E = 0
  · obtain ⟨k1, k2, k3⟩ := cell_v3 HC.out.2.1
    have k4 := (box_cell HC.out.2.2.1).1
    obtain ⟨⟨k5, k6, k7⟩, k8, k9⟩ := cell5 HC.out.2.2.2
    have q1 := (Array.getElem?_eq_some_iff.1 HC.out.2.1).1
    have q2 := (Array.getElem?_eq_some_iff.1 HC.out.2.2.1).1
    have q3 := (Array.getElem?_eq_some_iff.1 HC.out.2.2.2).1
    have HII := Lib.hid (fun (w1 : World) (h1 : New w2 w1) => HI.out w1 (HC.out.1.trans h1))
    cases Q
    · have HF := Lib.hid (show false = R by rw [HR.out]; rfl)
      clear HGV HPR HDU HI
      subst hz
      go_upto_region 4 with fail
      first | refine wp_region_at2 (by kernel_rfl) (by kernel_rfl) ?_ | refine wp_region_at (by kernel_rfl) (by kernel_rfl) ?_
      repeat (go_big_quiet_step (first | (go_at_call 48; (with_reducible exact calls_new (HII.out _ ((New.refl _).aft _ _))))))
      refine wpQuiet_nil ?_
      rintro U3 hq
      have HN4 := Lib.hid (HC.out.1.trans (show New w2 U3 from hq))
      clear hq k1 k2 k3 k4 k5 k6 k7 k8 k9
      go_wp2_with fail
      all_goals (refine bodyPost_ret (v := .tuple #[.bool R, .int .i64 0]) ?_ rfl ⟨ret_two (by simp) rfl, HN4.out⟩; rw [← HF.out]; simp [results, Try.results23, go_sem])
    · have HGG := Lib.hid (fun (w1 : World) (h1 : New w2 w1) => HGV.out hz rfl w1 (HC.out.1.trans h1))
      have HPP := Lib.hid (fun (w1 : World) (h1 : New w2 w1) => HPR.out hz rfl w1 (HC.out.1.trans h1))
      have HDD := Lib.hid (fun (w1 : World) (h1 : New w2 w1) => HDU.out hz w1 (HC.out.1.trans h1))
      clear HGV HPR HDU HI
      subst hz
      cases G
      · have HF := Lib.hid (show false = R by rw [HR.out]; rfl)
        clear HPP HDD
        go_upto_region 4 with fail
        first | refine wp_region_at2 (by kernel_rfl) (by kernel_rfl) ?_ | refine wp_region_at (by kernel_rfl) (by kernel_rfl) ?_
        repeat (go_big_quiet_step (first | (go_at_call 48; (with_reducible exact calls_new (HII.out _ ((New.refl _).aft _ _)))) | (go_at_call 49; (with_reducible exact calls_new (HGG.out _ ((New.refl _).aft _ _))))))
        refine wpQuiet_nil ?_
        rintro U3 hq
        have HN4 := Lib.hid (HC.out.1.trans (show New w2 U3 from hq))
        clear hq k1 k2 k3 k4 k5 k6 k7 k8 k9
        go_wp2_with fail
        all_goals (refine bodyPost_ret (v := .tuple #[.bool R, .int .i64 0]) ?_ rfl ⟨ret_two (by simp) rfl, HN4.out⟩; rw [← HF.out]; simp [results, Try.results23, go_sem])
      · have HF := Lib.hid (show D = R by rw [HR.out]; simp)
        go_upto_region 4 with fail
        first | refine wp_region_at2 (by kernel_rfl) (by kernel_rfl) ?_ | refine wp_region_at (by kernel_rfl) (by kernel_rfl) ?_
        repeat (go_big_quiet_step (first | (go_at_call 48; (with_reducible exact calls_new (HII.out _ ((New.refl _).aft _ _)))) | (go_at_call 49; (with_reducible exact calls_new (HGG.out _ ((New.refl _).aft _ _)))) | (go_at_call 35; (with_reducible exact calls_new (HPP.out _ ((New.refl _).aft _ _)))) | (go_at_call 50; (with_reducible exact calls_new (HDD.out _ ((New.refl _).aft _ _))))))
        refine wpQuiet_nil ?_
        rintro U3 hq
        have HN4 := Lib.hid (HC.out.1.trans (show New w2 U3 from hq))
        clear hq k1 k2 k3 k4 k5 k6 k7 k8 k9
        go_wp2_with fail
        all_goals (refine bodyPost_ret (v := .tuple #[.bool R, .int .i64 0]) ?_ rfl ⟨ret_two (by simp) rfl, HN4.out⟩; rw [← HF.out]; simp [results, Try.results23, go_sem])
  · have hEn : (E = 0) = False := eq_false hz
    have hEb : (E == 0) = false := by simpa using hz
    go_wp2_with fail
    all_goals exact bodyPost_ret (v := .tuple #[.bool false, .int .i64 E]) (by simp [results, Try.results23, go_sem]) rfl ⟨ret_two (by rw [decide_eq_false hz]; rfl) rfl, HC.out.1⟩


/-- the boxes and the direction of the dual -/
def CyW (w W : World) (g : Nat) (a b c : Int) (rv : Value) (N : Nat → Int) (den : Int) : Prop :=
  CkW w W a b c rv N den ∧ W.heap[g]? = some (.cells (#[.int .i64 (N 1), .int .i64 (N 2), .int .i64 (N 3)] : Array Value) 37 (0, 0))
theorem CyW.keep {w W V : World} {g : Nat} {a b c : Int} {rv : Value} {N : Nat → Int} {den : Int} (h : CyW w W g a b c rv N den) (hn : New W V) : CyW w V g a b c rv N den := by
  have hk : ∀ k o, W.heap[k]? = some o → V.heap[k]? = some o := fun k o h => (hn.below.block k (Array.getElem?_eq_some_iff.1 h).1).trans h
  exact ⟨h.1.keep hn, hk _ _ h.2⟩
theorem cellN {W : World} {g : Nat} {N : Nat → Int} {den : Int} {t : TypeId} {fr : Nat × Nat} (h : W.heap[g]? = some (.cells (arr5 (N 0) (N 1) (N 2) (N 3) den) t fr)) : ∀ k, k < 4 → W.cell? ⟨g, k, none⟩ = some (.int .i64 (N k)) := by
  obtain ⟨⟨c0, c1, c2⟩, c3, c4⟩ := cell5 h
  intro k hk
  have : k = 0 ∨ k = 1 ∨ k = 2 ∨ k = 3 := by omega
  rcases this with rfl | rfl | rfl | rfl
  · exact c0
  · exact c1
  · exact c2
  · exact c3
set_option maxHeartbeats 32000000 in
theorem ref_checkCheapest (tv pv : Option Addr) (m tc n pc : Nat) (T : List T5) (P : List (Int × Int)) (a b c : Int) (N : Nat → Int) (den : Int) (w : World) (hm : m ≤ 1000) (hn : n ≤ 1000) (hTl : T.length = m) (hT : 0 < m → ∃ b off, tv = some ⟨b, off, none⟩ ∧ Tnts w b off m T) (hP : P.length = n) (hp : 0 < n → ∃ b off, pv = some ⟨b, off, none⟩ ∧ Prts w b off n P) :
    Calls Try.prog 24 #[.slice tv m tc, vv a b c, .agg #[.slice pv n pc], duV N den] w fun en w' => en = .returned (.tuple #[.bool (decide (wntE T a b c m = 0) && ccB T P m n N den a b c), .int .i64 (wntE T a b c m)]) ∧ New w w' := by
  have HTT := Lib.hid hT
  have HW := Lib.hid (fun (w1 : World) (h1 : New w w1) => ref_wanted tv m tc T a b c w1 (by omega) (fun h => by obtain ⟨b, o, e, h2⟩ := hT h; exact ⟨b, o, e, h2.new h1⟩))
  have HI := Lib.hid (fun (w1 : World) (h1 : New w w1) => validRecipe_c tv pv m tc n pc P w1 (by omega) (by omega) hP (fun h => by obtain ⟨b, o, e, h2⟩ := hp h; exact ⟨b, o, e, h2.new h1⟩))
  have HZ := Lib.hid (fun (hz : wntE T a b c m = 0) => And.intro (wntE_zero hTl hz) (chkE_zero hTl (wntE_zero' hz).1).1)
  have HRT := Lib.hid (fun (h : recB P m = true) => recB_true hP h)
  have HGV := Lib.hid (fun (hz : wntE T a b c m = 0) (h : recB P m = true) (w1 : World) (h1 : New w w1) => (by
    obtain ⟨⟨htn, q1, q2, q3⟩, hm1, _⟩ := HZ.out hz
    obtain ⟨⟨hn1, hn4⟩, hok⟩ := HRT.out h
    obtain ⟨tb, off, e1, hTn⟩ := hT (by omega)
    obtain ⟨pb, poff, e2, hPn⟩ := hp (by omega)
    subst e1; subst e2
    exact ref_gives tb off m tc pb poff n pc T P a b c w1 (hTn.new h1) (hPn.new h1) hok htn hn4 hm q1 q2 q3 :
    Calls Try.prog 51 #[.slice tv m tc, .agg #[.slice pv n pc], vv a b c] w1 fun en w' => en = .returned (.bool (gvB T P n a b c)) ∧ New w1 w'))
  have HSM := Lib.hid (fun (hz : wntE T a b c m = 0) (h : recB P m = true) (w1 : World) (h1 : New w w1) => (by
    obtain ⟨⟨htn, q1, q2, q3⟩, hm1, _⟩ := HZ.out hz
    obtain ⟨⟨hn1, hn4⟩, hok⟩ := HRT.out h
    obtain ⟨tb, off, e1, hTn⟩ := hT (by omega)
    obtain ⟨pb, poff, e2, hPn⟩ := hp (by omega)
    subst e1; subst e2
    exact ref_sums tb off m tc pb poff n pc T P w1 (hTn.new h1) (hPn.new h1) hok htn hn4 hm :
    Calls Try.prog 33 #[.slice tv m tc, .agg #[.slice pv n pc]] w1 fun en w' => en = .returned (.tuple #[.int .i64 (sumW P n), vv (sumT P (tA T) n) (sumT P (tB T) n) (sumT P (tC T) n), .int .i64 (sumT P (tP T) n)]) ∧ New w1 w'))
  have HSB := Lib.hid (fun (hz : wntE T a b c m = 0) (h : recB P m = true) => (by
    obtain ⟨⟨htn, q1, q2, q3⟩, hm1, _⟩ := HZ.out hz
    obtain ⟨⟨hn1, hn4⟩, hok⟩ := HRT.out h
    have hwok : ∀ i, i < n → 1 ≤ pW P i ∧ pW P i ≤ 1000000000000 := fun i hi => (hok i hi).1
    have sP := sumT_bd (P := P) (f := tP T) (M := 10000) (by omega) (k := n) (fun i hi => ⟨hwok i hi, (htn _).2.2.1, (htn _).2.2.2⟩)
    have sW := sumW_bd (P := P) (k := n) hwok
    have sp := sumW_pos hok (by omega)
    omega : (0 ≤ sumT P (tP T) n ∧ sumT P (tP T) n ≤ 4000000000000000000) ∧ 0 < sumW P n ∧ sumW P n ≤ 4000000000000000000))
  obtain ⟨ok, hok⟩ : ∃ ok : Nat → Bool, ok = dtB T N den := ⟨_, rfl⟩
  have HO := Lib.hid (show ∀ i, ok i = decide (N 0 + (N 1 * tA T i + N 2 * tB T i + N 3 * tC T i) ≤ den * tP T i) from fun i => by rw [hok]; rfl)
  have HR := Lib.hid (show ccB T P m n N den a b c = (recB P m && (gvB T P n a b c && (((decide (1 ≤ den) && decide (den ≤ 1000000000000)) && (List.range 4).all (dnB N)) && ((List.range m).all ok && (frA (N 0 + (N 1 * a + N 2 * b + N 3 * c)) den == lowA (sumT P (tP T) n) (sumW P n) && frB (N 0 + (N 1 * a + N 2 * b + N 3 * c)) den == lowB (sumT P (tP T) n) (sumW P n)))))) by rw [hok]; rfl)
  clear hT hp hok HRT
  generalize ccB T P m n N den a b c = R at *
  generalize sumT P (tA T) n = SA at *
  generalize sumT P (tB T) n = SB at *
  generalize sumT P (tC T) n = SC at *
  generalize sumT P (tP T) n = SP at *
  generalize sumW P n = SW at *
  generalize gvB T P n a b c = G at *
  generalize recB P m = Q at *
  generalize wntE T a b c m = E at *
  go_enter Try.func24, Try.ntmps24
  go_wp2_with fail
  go_at_call 38
  obtain ⟨W1, hW1⟩ : ∃ W1, W1 = ((w.alloc (.cells #[.int .i64 a, .int .i64 b, .int .i64 c] 37)).alloc (.cells #[.slice pv n pc] 25)).alloc (.cells (arr5 (N 0) (N 1) (N 2) (N 3) den) 49) := ⟨_, rfl⟩
  have hc1 : CkW w W1 a b c (.slice pv n pc) N den := by
    rw [hW1]; exact ⟨((((New.refl _).alloc _).alloc _).alloc _), (alloc3_heap' w _ _ _).1, (alloc3_heap' w _ _ _).2.1, (alloc3_heap' w _ _ _).2.2⟩
  unfold arr5 at hW1
  rw [← hW1]
  refine (HW.out _ hc1.1).mono ?_
  rintro e w2 ⟨rfl, hn2⟩
  have HC := Lib.hid (hc1.keep hn2)
  clear hW1 hc1 hn2 HW
  by_cases hz : E = 0
  · obtain ⟨⟨htn, ha, hb, hc⟩, hm1, _⟩ := HZ.out hz
    have HTN := Lib.hid htn
    have HGG := Lib.hid (HGV.out hz)
    have HSS := Lib.hid (HSM.out hz)
    have HBB := Lib.hid (HSB.out hz)
    clear htn HZ HGV HSM HSB
    subst hz
    have k4 := (box_cell HC.out.2.2.1).1
    go_wp2_with fail
    go_at_call 32
    refine (HI.out _ HC.out.1).mono ?_
    rintro e w3 ⟨rfl, hn3⟩
    have HC3 := Lib.hid (HC.out.keep hn3)
    clear hn3 k4 HC HI
    cases Q
    · have HF := Lib.hid (show false = R by rw [HR.out]; rfl)
      go_wp2_with fail
      all_goals (refine bodyPost_ret (v := .tuple #[.bool R, .int .i64 0]) ?_ rfl ⟨ret_two (by simp) rfl, HC3.out.1⟩; rw [← HF.out]; simp [results, Try.results24, go_sem])
    · have k4 := (box_cell HC3.out.2.2.1).1
      obtain ⟨k1, k2, k3⟩ := cell_v3 HC3.out.2.1
      go_wp2_with fail
      go_at_call 51
      refine (HGG.out (by first | trivial | rfl) _ HC3.out.1).mono ?_
      rintro e w4 ⟨rfl, hn4⟩
      have HC4 := Lib.hid (HC3.out.keep hn4)
      clear hn4 k4 k1 k2 k3 HC3 HGG
      have k9 := (cell5 HC4.out.2.2.2).2.2
      cases G
      · have HF := Lib.hid (show false = R by rw [HR.out]; rfl)
        go_wp2_with fail
        all_goals (refine bodyPost_ret (v := .tuple #[.bool R, .int .i64 0]) ?_ rfl ⟨ret_two (by simp) rfl, HC4.out.1⟩; rw [← HF.out]; simp [results, Try.results24, go_sem])
      · by_cases u1 : den < 1
        · have HF := Lib.hid (show false = R by rw [HR.out, decide_eq_false (show ¬ 1 ≤ den by omega)]; rfl)
          go_wp2_with fail
          all_goals (refine bodyPost_ret (v := .tuple #[.bool R, .int .i64 0]) ?_ rfl ⟨ret_two (by simp) rfl, HC4.out.1⟩; rw [← HF.out]; simp [results, Try.results24, go_sem])
        · by_cases u2 : 1000000000000 < den
          · have HF := Lib.hid (show false = R by rw [HR.out, decide_eq_false (show ¬ den ≤ 1000000000000 by omega)]; simp)
            go_wp2_with fail
            all_goals (refine bodyPost_ret (v := .tuple #[.bool R, .int .i64 0]) ?_ rfl ⟨ret_two (by simp) rfl, HC4.out.1⟩; rw [← HF.out]; simp [results, Try.results24, go_sem])
          · have HR1 := Lib.hid (show R = ((List.range 4).all (dnB N) && ((List.range m).all ok && (frA (N 0 + (N 1 * a + N 2 * b + N 3 * c)) den == lowA SP SW && frB (N 0 + (N 1 * a + N 2 * b + N 3 * c)) den == lowB SP SW))) by rw [HR.out, decide_eq_true (show 1 ≤ den by omega), decide_eq_true (show den ≤ 1000000000000 by omega)]; simp)
            clear HR
            go_wp2_with fail
            clear k9
            go_loopw [13] (fun i wr => ∃ k : Nat, k ≤ 4 ∧ i = .int .i64 k ∧ (∀ j, j < k → -1000000000000000 ≤ N j ∧ N j ≤ 1000000000000000) ∧ CkW w wr a b c (.slice pv n pc) N den) (fun i _ => 4 - (intOf i).toNat)
            case atStart => exact ⟨0, by omega, rfl, fun j hj => by omega, HC4.out⟩
            case round =>
              obtain ⟨k, hk, rfl, hbs, hw⟩ := hrel
              have HB := Lib.hid hbs
              have HV := Lib.hid hw
              clear hbs hw HC4
              by_cases hlt : k < 4
              · have hk1 : (k : Int) < 4 := by omega
                have c0 := cellN HV.out.2.2.2 k hlt
                have q1 := (Array.getElem?_eq_some_iff.1 HV.out.2.2.2).1
                have HMS := Lib.hid (fun (e : ¬ (-1000000000000000 ≤ N k ∧ N k ≤ 1000000000000000)) => (by
                  rw [HR1.out, all_miss hlt (by unfold dnB; rw [Bool.and_eq_false_iff, decide_eq_false_iff_not, decide_eq_false_iff_not]; omega)]; rfl : R = false))
                generalize hX : N k = X at *
                have HX := Lib.hid hX
                clear hX
                by_cases v1 : X < -1000000000000000
                · have HF := Lib.hid (HMS.out (by omega)).symm
                  go_wp2_with fail
                  all_goals (refine bodyPost_ret (v := .tuple #[.bool R, .int .i64 0]) ?_ rfl ⟨ret_two (by simp) rfl, HV.out.1⟩; rw [← HF.out]; simp [results, Try.results24, go_sem])
                · by_cases v2 : 1000000000000000 < X
                  · have HF := Lib.hid (HMS.out (by omega)).symm
                    go_wp2_with fail
                    all_goals (refine bodyPost_ret (v := .tuple #[.bool R, .int .i64 0]) ?_ rfl ⟨ret_two (by simp) rfl, HV.out.1⟩; rw [← HF.out]; simp [results, Try.results24, go_sem])
                  · go_wp2_with fail
                    go_roundw
                    case rel => exact ⟨k + 1, by omega, by go_num, fun j hj => by
                      by_cases e : j = k
                      · rw [e, HX.out]; omega
                      · exact HB.out j (by omega), HV.out⟩
                    case measure => simp [intOf]; omega
              · obtain rfl : k = 4 := by omega
                have hk1 : ¬ ((4 : Nat) : Int) < 4 := by omega
                have HR2 := Lib.hid (show R = ((List.range m).all ok && (frA (N 0 + (N 1 * a + N 2 * b + N 3 * c)) den == lowA SP SW && frB (N 0 + (N 1 * a + N 2 * b + N 3 * c)) den == lowB SP SW)) by
                  rw [HR1.out, List.all_eq_true.2 (fun j hj => by
                    have := HB.out j (by simpa using hj)
                    unfold dnB
                    rw [decide_eq_true this.1, decide_eq_true this.2]; rfl)]; rfl)
                clear HR1
                have b0 := HB.out 0 (by omega)
                have b1 := HB.out 1 (by omega)
                have b2 := HB.out 2 (by omega)
                have b3 := HB.out 3 (by omega)
                obtain ⟨⟨c0, c1, c2⟩, c3, c4⟩ := cell5 HV.out.2.2.2
                obtain ⟨W5, hW5⟩ : ∃ W5, W5 = wr.alloc (.cells #[.int .i64 (N 1), .int .i64 (N 2), .int .i64 (N 3)] 37) := ⟨_, rfl⟩
                have HY5 := Lib.hid (show CyW w W5 wr.heap.size a b c (.slice pv n pc) N den from ⟨HV.out.keep (by rw [hW5]; exact (New.refl _).alloc _), by rw [hW5]; exact heap_alloc_new _ _⟩)
                go_upto_region 16 with fail
                rw [← hW5]
                clear hW5 c0 c1 c2 c3 c4
                generalize wr.heap.size = GY at *
                go_wp2_with fail
                go_loopw [15] (fun i V => ∃ k : Nat, k ≤ m ∧ i = .int .i64 k ∧ (List.range k).all ok = true ∧ CyW w V GY a b c (.slice pv n pc) N den) (fun i _ => m - (intOf i).toNat)
                case atStart => exact ⟨0, by omega, rfl, rfl, HY5.out⟩
                case round =>
                  obtain ⟨k, hk, rfl, hall, hw⟩ := hrel
                  have HALL := Lib.hid hall
                  have HV2 := Lib.hid hw
                  clear hall hw HY5
                  obtain ⟨⟨d0, d1, d2⟩, d3, d4⟩ := cell5 HV2.out.1.2.2.2
                  obtain ⟨y1, y2, y3⟩ := cell_v3 HV2.out.2
                  have q1 := (Array.getElem?_eq_some_iff.1 HV2.out.1.2.2.2).1
                  have q2 := (Array.getElem?_eq_some_iff.1 HV2.out.2).1
                  by_cases hlk : k < m
                  · have hk1 : (k : Int) < (m : Int) := by omega
                    obtain ⟨tb, off, rfl, hTn⟩ := HTT.out (by omega)
                    obtain ⟨_, gl, hcc⟩ := hTn.new HV2.out.1.1
                    obtain ⟨⟨c1, c2, c3⟩, c4, c5⟩ := hcc k hlk
                    obtain ⟨⟨bA, bB⟩, bC, bP⟩ := HTN.out k
                    have p1 := mulbd (N 1) _ b1 bA
                    have p2 := mulbd (N 2) _ b2 bB
                    have p3 := mulbd (N 3) _ b3 bC
                    have HD := Lib.hid (fun w1 : World => ref_dot (N 1) (N 2) (N 3) (tA T k) (tB T k) (tC T k) w1 (by omega) (by omega) (by omega) (by omega) (by omega))
                    have hmd := mulden den _ (by omega) bP
                    have hw1 : IntKind.i64.wrap (N 0 + (N 1 * tA T k + N 2 * tB T k + N 3 * tC T k)) = N 0 + (N 1 * tA T k + N 2 * tB T k + N 3 * tC T k) := IntWalk.i64_in _ (by omega)
                    have hw2 : IntKind.i64.wrap (den * tP T k) = den * tP T k := IntWalk.i64_in _ (by omega)
                    have HOk := Lib.hid (HO.out k)
                    have HSN := Lib.hid (all_snoc ok k)
                    have HMS := Lib.hid (fun (e : ok k = false) => (by rw [HR2.out, all_miss hlk e]; rfl : R = false))
                    clear hcc hTn p1 p2 p3 hmd bA bB bC bP c1
                    generalize tA T k = A at *
                    generalize tB T k = B at *
                    generalize tC T k = D at *
                    generalize tP T k = PP at *
                    generalize N 1 * A + N 2 * B + N 3 * D = V0 at *
                    go_upto_region 19 with fail
                    first | refine wp_region_at2 (by kernel_rfl) (by kernel_rfl) ?_ | refine wp_region_at (by kernel_rfl) (by kernel_rfl) ?_
                    repeat (go_big_quiet_step (first | (go_at_call 45; (with_reducible exact calls_new (HD.out _)))))
                    refine wpQuiet_nil ?_
                    rintro U3 hq
                    have HU := Lib.hid (HV2.out.keep (show New wr U3 from hq))
                    clear hq c2 c3 c4 c5 gl d0 d1 d2 d3 d4 y1 y2 y3 q1 q2
                    by_cases u3 : den * PP < N 0 + V0
                    · have HF := Lib.hid (HMS.out (by rw [HOk.out, decide_eq_false (by omega)])).symm
                      go_wp2_with fail
                      all_goals (refine bodyPost_ret (v := .tuple #[.bool R, .int .i64 0]) ?_ rfl ⟨ret_two (by simp) rfl, HU.out.1.1⟩; rw [← HF.out]; simp [results, Try.results24, go_sem])
                    · have HVV := Lib.hid (show ok k = true by rw [HOk.out, decide_eq_true (by omega)])
                      go_wp2_with fail
                      go_roundw
                      case rel => exact ⟨k + 1, by omega, by go_num, by rw [HSN.out, HALL.out, HVV.out]; rfl, HU.out⟩
                      case measure => simp [intOf]; omega
                  · obtain rfl : k = m := by omega
                    have hk1 : ¬ (k : Int) < (k : Int) := by omega
                    have k4 := (box_cell HV2.out.1.2.2.1).1
                    clear d0 d1 d2 d3 d4 y1 y2 y3 q1 q2
                    go_wp2_with fail
                    go_at_call 33
                    refine (HSS.out (by first | trivial | rfl) _ HV2.out.1.1).mono ?_
                    rintro e w7 ⟨rfl, hn7⟩
                    clear k4
                    obtain ⟨W8, hW8⟩ : ∃ W8, W8 = w7.alloc (.cells #[.int .i64 SA, .int .i64 SB, .int .i64 SC] 37) := ⟨_, rfl⟩
                    have HV8 := Lib.hid (HV2.out.keep (show New wr W8 by rw [hW8]; exact hn7.alloc _))
                    clear hn7
                    obtain ⟨⟨d0, d1, d2⟩, d3, d4⟩ := cell5 HV8.out.1.2.2.2
                    obtain ⟨y1, y2, y3⟩ := cell_v3 HV8.out.2
                    obtain ⟨x1, x2, x3⟩ := cell_v3 HV8.out.1.2.1
                    have q1 := (Array.getElem?_eq_some_iff.1 HV8.out.1.2.2.2).1
                    have q2 := (Array.getElem?_eq_some_iff.1 HV8.out.2).1
                    have q3 := (Array.getElem?_eq_some_iff.1 HV8.out.1.2.1).1
                    have hvb := valbd N HB.out a b c ha hb hc
                    have p1 := mulbd (N 1) _ b1 ha
                    have p2 := mulbd (N 2) _ b2 hb
                    have p3 := mulbd (N 3) _ b3 hc
                    have HD := Lib.hid (fun w1 : World => ref_dot (N 1) (N 2) (N 3) a b c w1 (by omega) (by omega) (by omega) (by omega) (by omega))
                    have hw1 : IntKind.i64.wrap (N 0 + (N 1 * a + N 2 * b + N 3 * c)) = N 0 + (N 1 * a + N 2 * b + N 3 * c) := IntWalk.i64_in _ (by omega)
                    obtain ⟨s1, s2⟩ := HBB.out (by first | trivial | rfl)
                    have HQ1 := Lib.hid (fun w1 : World => ratio_any (N 0 + (N 1 * a + N 2 * b + N 3 * c)) den w1 hvb (by omega))
                    have HQ2 := Lib.hid (fun w1 : World => ratio_c SP SW w1 s1 s2)
                    have HR3 := Lib.hid (show R = (frA (N 0 + (N 1 * a + N 2 * b + N 3 * c)) den == lowA SP SW && frB (N 0 + (N 1 * a + N 2 * b + N 3 * c)) den == lowB SP SW) by rw [HR2.out, HALL.out]; rfl)
                    clear hvb p1 p2 p3 s1 s2 HR2 HALL
                    generalize frA (N 0 + (N 1 * a + N 2 * b + N 3 * c)) den = fa at *
                    generalize frB (N 0 + (N 1 * a + N 2 * b + N 3 * c)) den = fb at *
                    generalize lowA SP SW = la at *
                    generalize lowB SP SW = lb at *
                    generalize N 1 * a + N 2 * b + N 3 * c = V0 at *
                    have heq := eql_frac fa fb la lb
                    rw [← HR3.out] at heq
                    go_upto_region 22 with fail
                    rw [← hW8]
                    clear hW8
                    first | refine wp_region_at2 (by kernel_rfl) (by kernel_rfl) ?_ | refine wp_region_at (by kernel_rfl) (by kernel_rfl) ?_
                    repeat (go_big_quiet_step (first | (go_at_call 45; (with_reducible exact calls_new (HD.out _))) | (go_at_call 34; (with_reducible exact calls_new (HQ1.out _))) | (go_at_call 34; (with_reducible exact calls_new (HQ2.out _)))))
                    refine wpQuiet_nil ?_
                    rintro U9 hq
                    have HN9 := Lib.hid (HV8.out.1.1.trans (show New W8 U9 from hq))
                    clear hq d0 d1 d2 d3 d4 y1 y2 y3 x1 x2 x3 q1 q2 q3
                    go_wp2_with fail
                    all_goals (refine bodyPost_ret (v := .tuple #[.bool R, .int .i64 0]) ?_ rfl ⟨ret_two (by simp) rfl, HN9.out⟩; simp [results, Try.results24, go_sem])
  · have hEn : (E = 0) = False := eq_false hz
    have hEb : (E == 0) = false := by simpa using hz
    go_wp2_with fail
    all_goals exact bodyPost_ret (v := .tuple #[.bool false, .int .i64 E]) (by simp [results, Try.results24, go_sem]) rfl ⟨ret_two (by rw [decide_eq_false hz]; rfl) rfl, HC.out.1⟩

end Go.Proofs.Ytpjekinmcdglbaa
