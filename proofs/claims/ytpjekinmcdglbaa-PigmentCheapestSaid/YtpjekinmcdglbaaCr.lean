/- isDual: that it answers, at any dual. · isDual answers, at any dual. -/
import Derived.Test.YtpjekinmcdglbaaMx
import Derived.Test.YtpjekinmcdglbaaGf
import Derived.Test.YtpjekinmcdglbaaCy

section
set_option linter.unusedSimpArgs false
set_option linter.unusedVariables false
set_option maxRecDepth 100000
namespace Go.Proofs.Ytpjekinmcdglbaa
open Go.RowKit

def frA (a b : Int) : Int := a.tdiv (gcdI (max a (-a)) b)
def frB (a b : Int) : Int := b.tdiv (gcdI (max a (-a)) b)
set_option maxHeartbeats 4000000 in
theorem fraction_any (a b : Int) (w : World) (ha : -4000000000000000000 ≤ a ∧ a ≤ 4000000000000000000) (hb : 0 < b ∧ b ≤ 4000000000000000000) :
    Calls Try.prog 30 #[.int .i64 a, .int .i64 b] w fun en w' => en = .returned (fv (frA a b) (frB a b)) ∧ New w w' := by
  have hwn : IntKind.i64.wrap (-a) = -a := IntWalk.i64_in _ (by omega)
  have HGC := Lib.hid (fun w1 : World => gcd_c (max a (-a)) b w1 (by omega) ⟨by omega, hb.2⟩)
  obtain ⟨g1, g2⟩ := gcdI_pos (max a (-a)) b hb.1
  have HA := Lib.hid (show frA a b = a.tdiv (gcdI (max a (-a)) b) from rfl)
  have HB := Lib.hid (show frB a b = b.tdiv (gcdI (max a (-a)) b) from rfl)
  generalize frA a b = X at *
  generalize frB a b = Y at *
  generalize gcdI (max a (-a)) b = G at *
  obtain ⟨t1, t2⟩ := tdiv_bd a G g1 4000000000000000000 (by omega) (by omega)
  obtain ⟨t3, t4⟩ := tdiv_bd b G g1 4000000000000000000 (by omega) (by omega)
  have q1 : IntKind.i64.wrap (a.tdiv G) = a.tdiv G := IntWalk.i64_in _ (by omega)
  have q2 : IntKind.i64.wrap (b.tdiv G) = b.tdiv G := IntWalk.i64_in _ (by omega)
  have hz : (G = 0) = False := eq_false (by omega)
  go_enter Try.func30, Try.ntmps30
  go_wp2_with (go_at_call 56; refine (HGC.out _).mono ?_; rintro e w1 ⟨rfl, pw, rfl⟩)
  all_goals go_region
  all_goals (go_wp2_with fail)
  all_goals (refine bodyPost_ret (v := fv (a.tdiv G) (b.tdiv G)) (by simp [results, Try.results30, go_sem]) rfl ⟨by rw [HA.out, HB.out], (by (repeat (first | exact New.refl _ | apply New.alloc | apply New.aft | apply New.drew | refine New.setCell ?_ ?_ _)); all_goals (first | done | (simp [size_aft]; done) | (simp [size_aft]; omega)))⟩)

theorem mulbd (s x : Int) (hs : -1000000000000000 ≤ s ∧ s ≤ 1000000000000000) (hx : 0 ≤ x ∧ x ≤ 1000) : -1000000000000000000 ≤ s * x ∧ s * x ≤ 1000000000000000000 := by
  have a := Int.mul_le_mul hs.2 hx.2 hx.1 (by omega)
  have b := Int.mul_le_mul (show -s ≤ 1000000000000000 by omega) hx.2 hx.1 (by omega)
  rw [Int.neg_mul] at b
  omega
set_option maxHeartbeats 8000000 in
theorem value_c (g h : Nat) (n0 s1 s2 s3 x y z : Int) (w : World) (hg : w.cell? ⟨g, 0, none⟩ = some (.int .i64 n0)) (hgl : g < w.heap.size) (h1 : w.cell? ⟨h, 0, none⟩ = some (.int .i64 s1)) (h2 : w.cell? ⟨h, 1, none⟩ = some (.int .i64 s2)) (h3 : w.cell? ⟨h, 2, none⟩ = some (.int .i64 s3)) (hhl : h < w.heap.size)
    (b0 : -1000000000000000 ≤ n0 ∧ n0 ≤ 1000000000000000) (b1 : -1000000000000000 ≤ s1 ∧ s1 ≤ 1000000000000000) (b2 : -1000000000000000 ≤ s2 ∧ s2 ≤ 1000000000000000) (b3 : -1000000000000000 ≤ s3 ∧ s3 ≤ 1000000000000000) (bx : 0 ≤ x ∧ x ≤ 1000) (bY : 0 ≤ y ∧ y ≤ 1000) (bz : 0 ≤ z ∧ z ≤ 1000) :
    Calls Try.prog 77 #[vv x y z, .pointer (some ⟨g, 0, none⟩), .pointer (some ⟨h, 0, none⟩)] w fun en w' => en = .returned (.int .i64 (n0 + (s1 * x + s2 * y + s3 * z))) ∧ New w w' := by
  have p1 := mulbd s1 x b1 bx
  have p2 := mulbd s2 y b2 bY
  have p3 := mulbd s3 z b3 bz
  have HD := Lib.hid (fun w1 : World => dot_c s1 s2 s3 x y z w1 (by omega) (by omega) (by omega) (by omega) (by omega))
  have HVV := Lib.hid (show IntKind.i64.wrap (n0 + (s1 * x + s2 * y + s3 * z)) = n0 + (s1 * x + s2 * y + s3 * z) from IntWalk.i64_in _ (by omega))
  clear p1 p2 p3
  generalize s1 * x + s2 * y + s3 * z = V at *
  have hv := HVV.out
  have z0 := (((New.refl w).alloc (.cells #[.int .i64 x, .int .i64 y, .int .i64 z] 66)).cell (o := 0) hgl).trans hg
  have z1 := (((New.refl w).alloc (.cells #[.int .i64 x, .int .i64 y, .int .i64 z] 66)).cell (o := 0) hhl).trans h1
  have z2 := (((New.refl w).alloc (.cells #[.int .i64 x, .int .i64 y, .int .i64 z] 66)).cell (o := 1) hhl).trans h2
  have z3 := (((New.refl w).alloc (.cells #[.int .i64 x, .int .i64 y, .int .i64 z] 66)).cell (o := 2) hhl).trans h3
  clear hg h1 h2 h3
  go_enter Try.func77, Try.ntmps77
  go_upto_region 1 with fail
  have HN1 := Lib.hid ((New.refl w).alloc (.cells #[.int .i64 x, .int .i64 y, .int .i64 z] 66))
  have y0 : (w.alloc (.cells #[.int .i64 x, .int .i64 y, .int .i64 z] 66)).cell? ⟨w.heap.size, 0, none⟩ = some (.int .i64 x) := by simp [go_sem]
  have y1 : (w.alloc (.cells #[.int .i64 x, .int .i64 y, .int .i64 z] 66)).cell? ⟨w.heap.size, 1, none⟩ = some (.int .i64 y) := by simp [go_sem]
  have y2 : (w.alloc (.cells #[.int .i64 x, .int .i64 y, .int .i64 z] 66)).cell? ⟨w.heap.size, 2, none⟩ = some (.int .i64 z) := by simp [go_sem]
  have hq1 : w.heap.size < (w.alloc (.cells #[.int .i64 x, .int .i64 y, .int .i64 z] 66)).heap.size := by simp
  have hq2 : g < (w.alloc (.cells #[.int .i64 x, .int .i64 y, .int .i64 z] 66)).heap.size := by simp; omega
  have hq3 : h < (w.alloc (.cells #[.int .i64 x, .int .i64 y, .int .i64 z] 66)).heap.size := by simp; omega
  generalize w.alloc (.cells #[.int .i64 x, .int .i64 y, .int .i64 z] 66) = U2 at *
  first | refine wp_region_at2 (by kernel_rfl) (by kernel_rfl) ?_ | refine wp_region_at (by kernel_rfl) (by kernel_rfl) ?_
  repeat (go_big_quiet_step (first | (go_at_call 67; (with_reducible exact calls_new (HD.out _)))))
  refine wpQuiet_nil ?_
  rintro U3 hq
  have HN3 := Lib.hid (HN1.out.trans (show New U2 U3 from hq))
  clear hq
  go_wp2_with fail
  all_goals (go_ret; exact ⟨rfl, HN3.out⟩)

end Go.Proofs.Ytpjekinmcdglbaa
end

section
set_option linter.unusedSimpArgs false
set_option linter.unusedVariables false
set_option maxRecDepth 100000
namespace Go.Proofs.Ytpjekinmcdglbaa
open Go.RowKit

def IdW (w W : World) (a b c lx ly : Int) (N : Nat → Int) (den : Int) : Prop :=
  New w W ∧ W.heap[w.heap.size]? = some (.cells (#[.int .i64 a, .int .i64 b, .int .i64 c] : Array Value) 66 (0, 0)) ∧ W.heap[w.heap.size + 1]? = some (.cells #[.int .i64 lx, .int .i64 ly] 29 (0, 0)) ∧ W.heap[w.heap.size + 1 + 1]? = some (.cells (arr5 (N 0) (N 1) (N 2) (N 3) den) 49 (0, 0))
theorem IdW.keep {w W V : World} {a b c lx ly : Int} {N : Nat → Int} {den : Int} (h : IdW w W a b c lx ly N den) (hn : New W V) : IdW w V a b c lx ly N den := by
  have hk : ∀ k o, W.heap[k]? = some o → V.heap[k]? = some o := fun k o h => (hn.below.block k (Array.getElem?_eq_some_iff.1 h).1).trans h
  exact ⟨h.1.trans hn, hk _ _ h.2.1, hk _ _ h.2.2.1, hk _ _ h.2.2.2⟩
theorem alloc3_heap' (w : World) (o1 o2 o3 : Obj) : (((w.alloc o1).alloc o2).alloc o3).heap[w.heap.size]? = some o1 ∧ (((w.alloc o1).alloc o2).alloc o3).heap[w.heap.size + 1]? = some o2 ∧ (((w.alloc o1).alloc o2).alloc o3).heap[w.heap.size + 1 + 1]? = some o3 := by
  refine ⟨(Below.heap_alloc _ _ _ (by simp <;> omega)).trans ((Below.heap_alloc _ _ _ (by simp)).trans (heap_alloc_new _ _)), (Below.heap_alloc _ _ _ (by simp)).trans (alloc2_new rfl), ?_⟩
  have := heap_alloc_new ((w.alloc o1).alloc o2) o3
  simp only [World.size_alloc] at this
  exact this
theorem mulden (s x : Int) (hs : 1 ≤ s ∧ s ≤ 1000000000000) (hx : 0 ≤ x ∧ x ≤ 10000) : 0 ≤ s * x ∧ s * x ≤ 10000000000000000 := by
  have a := Int.mul_le_mul hs.2 hx.2 hx.1 (by omega)
  have b := Int.mul_nonneg (show 0 ≤ s by omega) hx.1
  omega
theorem valbd (N : Nat → Int) (hN : ∀ j, j < 4 → -1000000000000000 ≤ N j ∧ N j ≤ 1000000000000000) (x y z : Int) (bx : 0 ≤ x ∧ x ≤ 1000) (bY : 0 ≤ y ∧ y ≤ 1000) (bz : 0 ≤ z ∧ z ≤ 1000) : -4000000000000000000 ≤ N 0 + (N 1 * x + N 2 * y + N 3 * z) ∧ N 0 + (N 1 * x + N 2 * y + N 3 * z) ≤ 4000000000000000000 := by
  have p1 := mulbd (N 1) x (hN 1 (by omega)) bx
  have p2 := mulbd (N 2) y (hN 2 (by omega)) bY
  have p3 := mulbd (N 3) z (hN 3 (by omega)) bz
  have p0 := hN 0 (by omega)
  omega

/-- it answers -/
def IdR (w : World) (en : Ending) (w' : World) : Prop := ∃ z, en = .returned (.bool z) ∧ New w w'
set_option maxHeartbeats 16000000 in
theorem isDual_c (b off n cp : Nat) (a1 a2 a3 lx ly : Int) (N : Nat → Int) (den : Int) (T : List T5) (w : World) (hT : Tnts w b off n T) (htn : tnOk T) (hn : n ≤ 1000) (h1 : 0 ≤ a1 ∧ a1 ≤ 1000) (h2 : 0 ≤ a2 ∧ a2 ≤ 1000) (h3 : 0 ≤ a3 ∧ a3 ≤ 1000) :
    Calls Try.prog 50 #[.slice (some ⟨b, off, none⟩) n cp, vv a1 a2 a3, fv lx ly, .agg #[.int .i64 (N 0), .int .i64 (N 1), .int .i64 (N 2), .int .i64 (N 3), .int .i64 den]] w (IdR w) := by
  have HT := Lib.hid hT
  have HTN := Lib.hid htn
  have HW0 := Lib.hid (show IdW w (((w.alloc (.cells #[.int .i64 a1, .int .i64 a2, .int .i64 a3] 66)).alloc (.cells #[.int .i64 lx, .int .i64 ly] 29)).alloc (.cells (arr5 (N 0) (N 1) (N 2) (N 3) den) 49)) a1 a2 a3 lx ly N den from
    ⟨(((New.refl _).alloc _).alloc _).alloc _, (alloc3_heap' w _ _ _).1, (alloc3_heap' w _ _ _).2.1, (alloc3_heap' w _ _ _).2.2⟩)
  clear hT htn
  go_enter Try.func50, Try.ntmps50
  go_upto_region 1 with fail
  obtain ⟨W1, hW1⟩ : ∃ W1, W1 = (((w.alloc (.cells #[.int .i64 a1, .int .i64 a2, .int .i64 a3] 66)).alloc (.cells #[.int .i64 lx, .int .i64 ly] 29)).alloc (.cells (arr5 (N 0) (N 1) (N 2) (N 3) den) 49)) := ⟨_, rfl⟩
  rw [← hW1] at HW0
  unfold arr5 at hW1
  rw [← hW1]
  clear hW1
  obtain ⟨⟨c0, c1, c2⟩, c3, c4⟩ := cell5 HW0.out.2.2.2
  by_cases u1 : den < 1
  · go_wp2_with fail
    all_goals (go_ret; exact ⟨false, rfl, HW0.out.1⟩)
  · by_cases u2 : 1000000000000 < den
    · go_wp2_with fail
      all_goals (go_ret; exact ⟨false, rfl, HW0.out.1⟩)
    · go_wp2_with fail
      clear c0 c1 c2 c3 c4
      go_loopw [25] (fun i wr => ∃ k : Nat, k ≤ 4 ∧ i = .int .i64 (k : Int) ∧ (∀ j, j < k → -1000000000000000 ≤ N j ∧ N j ≤ 1000000000000000) ∧ IdW w wr a1 a2 a3 lx ly N den) (fun i _ => 4 - (intOf i).toNat)
      case atStart => exact ⟨0, Nat.zero_le _, rfl, fun j hj => by omega, HW0.out⟩
      case round =>
        obtain ⟨k, hk, rfl, hb, hw⟩ := hrel
        have HB := Lib.hid hb
        have HW := Lib.hid hw
        clear hb hw HW0
        by_cases hlt : k < 4
        · have hx := index_four N k hlt
          have hlt1 : (k : Int) < 4 := by omega
          generalize hX : N k = X at *
          have HX := Lib.hid hX
          clear hX
          by_cases v1 : X < -1000000000000000
          · go_wp2_with fail
            all_goals (go_ret; exact ⟨false, rfl, HW.out.1⟩)
          · by_cases v2 : 1000000000000000 < X
            · go_wp2_with fail
              all_goals (go_ret; exact ⟨false, rfl, HW.out.1⟩)
            · go_wp2_with fail
              go_roundw
              case rel => exact ⟨k + 1, by omega, by go_num, fun j hj => by
                by_cases e : j = k
                · rw [e, HX.out]; omega
                · exact HB.out j (by omega), HW.out⟩
              case measure => simp [intOf]; omega
        · obtain rfl : k = 4 := by omega
          have hlt1 : ¬ ((4 : Nat) : Int) < 4 := by omega
          obtain ⟨⟨c0, c1, c2⟩, c3, c4⟩ := cell5 HW.out.2.2.2
          have hsz := (Array.getElem?_eq_some_iff.1 HW.out.2.2.2).1
          go_upto_region 11 with fail
          obtain ⟨W2, hW2⟩ : ∃ W2, W2 = wr.alloc (.cells (#[.int .i64 (N 1), .int .i64 (N 2), .int .i64 (N 3)] : Array Value) 66) := ⟨_, rfl⟩
          have hN2 : New wr W2 := by rw [hW2]; exact (New.refl _).alloc _
          have HW2 := Lib.hid (HW.out.keep hN2)
          have HSL := Lib.hid (show W2.heap[wr.heap.size]? = some (.cells (#[.int .i64 (N 1), .int .i64 (N 2), .int .i64 (N 3)] : Array Value) 66 (0, 0)) by rw [hW2]; exact heap_alloc_new _ _)
          have hsl := (Array.getElem?_eq_some_iff.1 HSL.out).1
          rw [← hW2]
          clear hW2 hN2 c0 c1 c2 c3 c4
          generalize hSL : wr.heap.size = SL at *
          go_wp2_with fail
          go_loopw [48] (fun i V => ∃ k : Nat, k ≤ n ∧ i = .int .i64 (k : Int) ∧ IdW w V a1 a2 a3 lx ly N den ∧ New W2 V) (fun i _ => n - (intOf i).toNat)
          case atStart => exact ⟨0, Nat.zero_le _, rfl, HW2.out, New.refl _⟩
          case round =>
            obtain ⟨k, hk, rfl, hw, hnv⟩ := hrel
            have HV := Lib.hid hw
            have HNV := Lib.hid hnv
            have hsl2 := (hnv.below.block _ hsl).trans HSL.out
            have HSL2 := Lib.hid hsl2
            have HVA := Lib.hid (fun (x y z : Int) (bx : 0 ≤ x ∧ x ≤ 1000) (bY : 0 ≤ y ∧ y ≤ 1000) (bz : 0 ≤ z ∧ z ≤ 1000) (V' : World) (hV' : New wr V') => value_c (w.heap.size + 1 + 1) SL (N 0) (N 1) (N 2) (N 3) x y z V' (hV'.cell (Array.getElem?_eq_some_iff.1 hw.2.2.2).1 |>.trans (cell5 hw.2.2.2).1.1) (Nat.lt_of_lt_of_le (Array.getElem?_eq_some_iff.1 hw.2.2.2).1 hV'.size)
              ((hV'.cell (Array.getElem?_eq_some_iff.1 hsl2).1).trans (by simp [World.cell?, hsl2])) ((hV'.cell (Array.getElem?_eq_some_iff.1 hsl2).1).trans (by simp [World.cell?, hsl2])) ((hV'.cell (Array.getElem?_eq_some_iff.1 hsl2).1).trans (by simp [World.cell?, hsl2])) (Nat.lt_of_lt_of_le (Array.getElem?_eq_some_iff.1 hsl2).1 hV'.size)
              (HB.out 0 (by omega)) (HB.out 1 (by omega)) (HB.out 2 (by omega)) (HB.out 3 (by omega)) bx bY bz)
            clear hw hnv hsl2
            by_cases hlk : k < n
            · have hlk1 : (k : Int) < (n : Int) := by omega
              obtain ⟨_, gl, hcc⟩ := HT.out.new HV.out.1
              obtain ⟨⟨c1, c2, c3⟩, c4, c5⟩ := hcc k hlk
              obtain ⟨⟨bA, bB⟩, bC, bP⟩ := HTN.out k
              have HV0 := Lib.hid (HVA.out _ _ _ bA bB bC)
              have hmd := mulden den _ (by omega) bP
              have hwr1 : IntKind.i64.wrap (den * tP T k) = den * tP T k := IntWalk.i64_in _ (by omega)
              clear hcc HVA
              generalize tN T k = S at *
              generalize tA T k = A at *
              generalize tB T k = B at *
              generalize tC T k = C at *
              generalize tP T k = P at *
              go_upto_region 14 with fail
              obtain ⟨W3, hW3⟩ : ∃ W3, W3 = wr.alloc (.cells #[.string S, .int .i64 A, .int .i64 B, .int .i64 C, .int .i64 P] 59) := ⟨_, rfl⟩
              have hN3 : New wr W3 := by rw [hW3]; exact (New.refl _).alloc _
              have z3 : W3.heap[wr.heap.size]? = some (.cells #[.string S, .int .i64 A, .int .i64 B, .int .i64 C, .int .i64 P] 59 (0, 0)) := by rw [hW3]; exact heap_alloc_new _ _
              have HV3 := Lib.hid (HV.out.keep hN3)
              have HN3 := Lib.hid hN3
              rw [← hW3]
              have d1 : W3.cell? ⟨wr.heap.size, 1, none⟩ = some (.int .i64 A) := by simp [World.cell?, z3]
              have d2 : W3.cell? ⟨wr.heap.size, 2, none⟩ = some (.int .i64 B) := by simp [World.cell?, z3]
              have d3 : W3.cell? ⟨wr.heap.size, 3, none⟩ = some (.int .i64 C) := by simp [World.cell?, z3]
              have d4 : W3.cell? ⟨wr.heap.size, 4, none⟩ = some (.int .i64 P) := by simp [World.cell?, z3]
              have d5 := (cell5 HV3.out.2.2.2).2.2
              have dl := (Array.getElem?_eq_some_iff.1 z3).1
              have dl2 := (Array.getElem?_eq_some_iff.1 HV3.out.2.2.2).1
              have HVW := Lib.hid (fun (V' : World) (hV' : New W3 V') => HV0.out V' (hN3.trans hV'))
              clear hW3 hN3 z3 c1 c2 c3 c4 c5 gl
              generalize hTB : wr.heap.size = TB at *
              first | refine wp_region_at2 (by kernel_rfl) (by kernel_rfl) ?_ | refine wp_region_at (by kernel_rfl) (by kernel_rfl) ?_
              repeat (go_big_quiet_step (first | (go_at_call 77; (with_reducible exact calls_new (HVW.out _ (by assumption)))) | (go_at_call 77; (with_reducible exact calls_new (HVW.out _ (by (repeat (first | exact New.refl _ | apply New.alloc | apply New.aft | apply New.drew))))))))
              refine wpQuiet_nil ?_
              rintro U3 hq
              have HN4 := Lib.hid (HN3.out.trans (show New W3 U3 from hq))
              have HV4 := Lib.hid (HV.out.keep HN4.out)
              clear hq d1 d2 d3 d4 d5 dl dl2
              generalize N 0 + (N 1 * A + N 2 * B + N 3 * C) = VX at *
              by_cases hgt : den * P < VX
              · go_wp2_with fail
                all_goals (go_ret; exact ⟨false, rfl, HV4.out.1⟩)
              · go_wp2_with fail
                go_roundw
                case rel => exact ⟨k + 1, by omega, by go_num, HV4.out, HNV.out.trans HN4.out⟩
                case measure => simp [intOf]; omega
            · obtain rfl : k = n := by omega
              have hlk1 : ¬ (k : Int) < (k : Int) := by omega
              have hvb := valbd N HB.out a1 a2 a3 h1 h2 h3
              have HV0 := Lib.hid (HVA.out _ _ _ h1 h2 h3)
              clear HVA
              generalize N 0 + (N 1 * a1 + N 2 * a2 + N 3 * a3) = VX at *
              have HFR := Lib.hid (fun w1 : World => fraction_any VX den w1 hvb (by omega))
              generalize frA VX den = fa at *
              generalize frB VX den = fb at *
              have heq := eql_frac fa fb lx ly
              generalize (fa == lx && fb == ly) = qe at *
              have g1 := HV.out.2.1
              have g2 := HV.out.2.2.1
              have d1 : wr.cell? ⟨w.heap.size, 0, none⟩ = some (.int .i64 a1) := by simp [World.cell?, g1]
              have d2 : wr.cell? ⟨w.heap.size, 1, none⟩ = some (.int .i64 a2) := by simp [World.cell?, g1]
              have d3 : wr.cell? ⟨w.heap.size, 2, none⟩ = some (.int .i64 a3) := by simp [World.cell?, g1]
              have d4 : wr.cell? ⟨w.heap.size + 1, 0, none⟩ = some (.int .i64 lx) := by simp [World.cell?, g2]
              have d6 : wr.cell? ⟨w.heap.size + 1, 1, none⟩ = some (.int .i64 ly) := by simp [World.cell?, g2]
              have d5 := (cell5 HV.out.2.2.2).2.2
              have dl := (Array.getElem?_eq_some_iff.1 g1).1
              have dl1 := (Array.getElem?_eq_some_iff.1 g2).1
              have dl2 := (Array.getElem?_eq_some_iff.1 HV.out.2.2.2).1
              clear g1 g2 hvb
              go_upto_region 17 with fail
              first | refine wp_region_at2 (by kernel_rfl) (by kernel_rfl) ?_ | refine wp_region_at (by kernel_rfl) (by kernel_rfl) ?_
              repeat (go_big_quiet_step (first | (go_at_call 77; (with_reducible exact calls_new (HV0.out _ (by (repeat (first | exact New.refl _ | apply New.alloc | apply New.aft | apply New.drew)))))) | (go_at_call 30; (with_reducible exact calls_new (HFR.out _)))))
              refine wpQuiet_nil ?_
              rintro U3 hq
              have HN4 := Lib.hid (HV.out.1.trans (show New wr U3 from hq))
              clear hq d1 d2 d3 d4 d5 d6 dl dl1 dl2
              go_wp2_with fail
              all_goals (go_ret; exact ⟨qe, rfl, HN4.out⟩)

end Go.Proofs.Ytpjekinmcdglbaa
end
