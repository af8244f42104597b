/- Where two segments that cross meet, as crossing returns it. Numbers from 0 to 10000; the denominator is not 0. -/
import Derived.Test.YtpdfbboagaflhaaGreatM45
import Derived.Deep.RegionHeld3
import Derived.BigRegion
import Derived.LoopTactic

namespace Go.Proofs.YtpdfbboagaflhaaGreat
open Go.RowKit

def denI (a b c d e f g h : Int) : Int := (c - a) * (h - f) - (d - b) * (g - e)
def partI (a b e f g h : Int) : Int := (e - a) * (h - f) - (f - b) * (g - e)

set_option maxHeartbeats 8000000 in
theorem crossing_c (a b c d e f g h : Int) (w : World) (ha : 0 ≤ a ∧ a ≤ 10000) (hb : 0 ≤ b ∧ b ≤ 10000) (hc : 0 ≤ c ∧ c ≤ 10000) (hd : 0 ≤ d ∧ d ≤ 10000) (he : 0 ≤ e ∧ e ≤ 10000) (hf : 0 ≤ f ∧ f ≤ 10000) (hg : 0 ≤ g ∧ g ≤ 10000) (hh : 0 ≤ h ∧ h ≤ 10000) (hden : denI a b c d e f g h ≠ 0) :
    Calls Tryz.prog 94 #[sv a b c d, sv e f g h] w fun en w' => en = .returned (.tuple #[pv (lowN (a * denI a b c d e f g h + partI a b e f g h * (c - a)) (denI a b c d e f g h)) (lowD (a * denI a b c d e f g h + partI a b e f g h * (c - a)) (denI a b c d e f g h)), pv (lowN (b * denI a b c d e f g h + partI a b e f g h * (d - b)) (denI a b c d e f g h)) (lowD (b * denI a b c d e f g h + partI a b e f g h * (d - b)) (denI a b c d e f g h))]) ∧ New w w' := by
  have p1 := mul_bd (c - a) (h - f) 10000 10000 (by omega) (by omega) (by omega) (by omega)
  have p2 := mul_bd (d - b) (g - e) 10000 10000 (by omega) (by omega) (by omega) (by omega)
  have p3 := mul_bd (e - a) (h - f) 10000 10000 (by omega) (by omega) (by omega) (by omega)
  have p4 := mul_bd (f - b) (g - e) 10000 10000 (by omega) (by omega) (by omega) (by omega)
  simp only [Int.reduceMul, Int.reduceNeg] at p1 p2 p3 p4
  have hD : denI a b c d e f g h = (c - a) * (h - f) - (d - b) * (g - e) := rfl
  have hP : partI a b e f g h = (e - a) * (h - f) - (f - b) * (g - e) := rfl
  have HD := Lib.hid hD.symm
  have HP := Lib.hid hP.symm
  have bD : -200000000 ≤ denI a b c d e f g h ∧ denI a b c d e f g h ≤ 200000000 := by rw [hD]; omega
  have bP : -200000000 ≤ partI a b e f g h ∧ partI a b e f g h ≤ 200000000 := by rw [hP]; omega
  clear hD hP
  generalize denI a b c d e f g h = D at *
  generalize partI a b e f g h = Pq at *
  have m1 := mul_bd a D 10000 200000000 (by omega) (by omega) (by omega) (by omega)
  have m2 := mul_bd Pq (c - a) 200000000 10000 (by omega) (by omega) (by omega) (by omega)
  have m3 := mul_bd b D 10000 200000000 (by omega) (by omega) (by omega) (by omega)
  have m4 := mul_bd Pq (d - b) 200000000 10000 (by omega) (by omega) (by omega) (by omega)
  simp only [Int.reduceMul, Int.reduceNeg] at m1 m2 m3 m4
  have w1 : IntKind.i64.wrap (c - a) = c - a := IntWalk.i64_in _ (by omega)
  have w2 : IntKind.i64.wrap (d - b) = d - b := IntWalk.i64_in _ (by omega)
  have w3 : IntKind.i64.wrap (g - e) = g - e := IntWalk.i64_in _ (by omega)
  have w4 : IntKind.i64.wrap (h - f) = h - f := IntWalk.i64_in _ (by omega)
  have w5 : IntKind.i64.wrap (a * D) = a * D := IntWalk.i64_in _ (by omega)
  have w6 : IntKind.i64.wrap (Pq * (c - a)) = Pq * (c - a) := IntWalk.i64_in _ (by omega)
  have w7 : IntKind.i64.wrap (a * D + Pq * (c - a)) = a * D + Pq * (c - a) := IntWalk.i64_in _ (by omega)
  have w8 : IntKind.i64.wrap (b * D) = b * D := IntWalk.i64_in _ (by omega)
  have w9 : IntKind.i64.wrap (Pq * (d - b)) = Pq * (d - b) := IntWalk.i64_in _ (by omega)
  have w10 : IntKind.i64.wrap (b * D + Pq * (d - b)) = b * D + Pq * (d - b) := IntWalk.i64_in _ (by omega)
  go_enter Tryz.func94, Tryz.ntmps94
  go_wp2_with fail
  first | refine wp_region_at2 (by kernel_rfl) (by kernel_rfl) ?_ | refine wp_region_at (by kernel_rfl) (by kernel_rfl) ?_
  repeat (go_big_quiet_step (fail))
  refine wpQuiet_nil ?_
  rintro _ ⟨q, rfl⟩
  go_wp2_with fail
  first | refine wp_region_at2 (by kernel_rfl) (by kernel_rfl) ?_ | refine wp_region_at (by kernel_rfl) (by kernel_rfl) ?_
  repeat (go_big_quiet_step (fail))
  refine wpQuiet_nil ?_
  rintro _ ⟨q, rfl⟩
  go_wp2_with fail
  simp only [HD.out, HP.out]
  go_region_held3 (fun w' => w'.cell? ⟨w.heap.size, 0, none⟩ = some (.int .i64 a) ∧ w'.cell? ⟨w.heap.size, 1, none⟩ = some (.int .i64 b)) (first | (simp [go_sem]; done) | (simp [go_sem, *]; done) | (go_keep; done))
    (first | (go_at_call 167; refine (lowest_c _ _ _ ?_ ?_ ?_).mono ?_; omega; omega; assumption; rintro e w1 ⟨rfl, pw, rfl⟩))
  all_goals (go_wp2_with fail)
  all_goals (refine bodyPost_ret (v := .tuple #[pv (lowN (a * D + Pq * (c - a)) D) (lowD (a * D + Pq * (c - a)) D), pv (lowN (b * D + Pq * (d - b)) D) (lowD (b * D + Pq * (d - b)) D)]) (by simp [results, Tryz.results94, go_sem]) rfl ⟨rfl, ?_⟩; (repeat (first | exact New.refl _ | apply New.alloc | apply New.aft | apply New.drew | refine New.setCell ?_ ?_ _)); all_goals (first | done | (simp [size_aft]; done) | (simp [size_aft]; omega)))

end Go.Proofs.YtpdfbboagaflhaaGreat
