/- isDual: that it answers, at any dual. -/
import Derived.Test.YtpjekinmcdglbaaMx
import Derived.Test.YtpjekinmcdglbaaGf
set_option linter.unusedSimpArgs false
set_option linter.unusedVariables false
set_option maxRecDepth 100000
namespace Go.Proofs.Ytpjekinmcdglbaa
open Go.RowKit

def frA (a b : Int) : Int := a.tdiv (gcdI (max a (-a)) b)
def frB (a b : Int) : Int := b.tdiv (gcdI (max a (-a)) b)
set_option maxHeartbeats 4000000 in
theorem fraction_any (a b : Int) (w : World) (ha : -4000000000000000000 ≤ a ∧ a ≤ 4000000000000000000) (hb : 0 < b ∧ b ≤ 4000000000000000000) :
    Calls Try.prog 30 #[.int .i64 a, .int .i64 b] w fun en w' => en = .returned (fv (frA a b) (frB a b)) ∧ New w w' := by
  have hwn : IntKind.i64.wrap (-a) = -a := IntWalk.i64_in _ (by omega)
  have HGC := Lib.hid (fun w1 : World => gcd_c (max a (-a)) b w1 (by omega) ⟨by omega, hb.2⟩)
  obtain ⟨g1, g2⟩ := gcdI_pos (max a (-a)) b hb.1
  have HA := Lib.hid (show frA a b = a.tdiv (gcdI (max a (-a)) b) from rfl)
  have HB := Lib.hid (show frB a b = b.tdiv (gcdI (max a (-a)) b) from rfl)
  generalize frA a b = X at *
  generalize frB a b = Y at *
  generalize gcdI (max a (-a)) b = G at *
  obtain ⟨t1, t2⟩ := tdiv_bd a G g1 4000000000000000000 (by omega) (by omega)
  obtain ⟨t3, t4⟩ := tdiv_bd b G g1 4000000000000000000 (by omega) (by omega)
  have q1 : IntKind.i64.wrap (a.tdiv G) = a.tdiv G := IntWalk.i64_in _ (by omega)
  have q2 : IntKind.i64.wrap (b.tdiv G) = b.tdiv G := IntWalk.i64_in _ (by omega)
  have hz : (G = 0) = False := eq_false (by omega)
  go_enter Try.func30, Try.ntmps30
  go_wp2_with (go_at_call 56; refine (HGC.out _).mono ?_; rintro e w1 ⟨rfl, pw, rfl⟩)
  all_goals go_region
  all_goals (go_wp2_with fail)
  all_goals (refine bodyPost_ret (v := fv (a.tdiv G) (b.tdiv G)) (by simp [results, Try.results30, go_sem]) rfl ⟨by rw [HA.out, HB.out], (by (repeat (first | exact New.refl _ | apply New.alloc | apply New.aft | apply New.drew | refine New.setCell ?_ ?_ _)); all_goals (first | done | (simp [size_aft]; done) | (simp [size_aft]; omega)))⟩)

theorem mulbd (s x : Int) (hs : -1000000000000000 ≤ s ∧ s ≤ 1000000000000000) (hx : 0 ≤ x ∧ x ≤ 1000) : -1000000000000000000 ≤ s * x ∧ s * x ≤ 1000000000000000000 := by
  have a := Int.mul_le_mul hs.2 hx.2 hx.1 (by omega)
  have b := Int.mul_le_mul (show -s ≤ 1000000000000000 by omega) hx.2 hx.1 (by omega)
  rw [Int.neg_mul] at b
  omega
set_option maxHeartbeats 8000000 in
theorem value_c (g h : Nat) (n0 s1 s2 s3 x y z : Int) (w : World) (hg : w.cell? ⟨g, 0, none⟩ = some (.int .i64 n0)) (hgl : g < w.heap.size) (h1 : w.cell? ⟨h, 0, none⟩ = some (.int .i64 s1)) (h2 : w.cell? ⟨h, 1, none⟩ = some (.int .i64 s2)) (h3 : w.cell? ⟨h, 2, none⟩ = some (.int .i64 s3)) (hhl : h < w.heap.size)
    (b0 : -1000000000000000 ≤ n0 ∧ n0 ≤ 1000000000000000) (b1 : -1000000000000000 ≤ s1 ∧ s1 ≤ 1000000000000000) (b2 : -1000000000000000 ≤ s2 ∧ s2 ≤ 1000000000000000) (b3 : -1000000000000000 ≤ s3 ∧ s3 ≤ 1000000000000000) (bx : 0 ≤ x ∧ x ≤ 1000) (bY : 0 ≤ y ∧ y ≤ 1000) (bz : 0 ≤ z ∧ z ≤ 1000) :
    Calls Try.prog 77 #[vv x y z, .pointer (some ⟨g, 0, none⟩), .pointer (some ⟨h, 0, none⟩)] w fun en w' => en = .returned (.int .i64 (n0 + (s1 * x + s2 * y + s3 * z))) ∧ New w w' := by
  have p1 := mulbd s1 x b1 bx
  have p2 := mulbd s2 y b2 bY
  have p3 := mulbd s3 z b3 bz
  have HD := Lib.hid (fun w1 : World => dot_c s1 s2 s3 x y z w1 (by omega) (by omega) (by omega) (by omega) (by omega))
  have HVV := Lib.hid (show IntKind.i64.wrap (n0 + (s1 * x + s2 * y + s3 * z)) = n0 + (s1 * x + s2 * y + s3 * z) from IntWalk.i64_in _ (by omega))
  clear p1 p2 p3
  generalize s1 * x + s2 * y + s3 * z = V at *
  have hv := HVV.out
  have z0 := (((New.refl w).alloc (.cells #[.int .i64 x, .int .i64 y, .int .i64 z] 66)).cell (o := 0) hgl).trans hg
  have z1 := (((New.refl w).alloc (.cells #[.int .i64 x, .int .i64 y, .int .i64 z] 66)).cell (o := 0) hhl).trans h1
  have z2 := (((New.refl w).alloc (.cells #[.int .i64 x, .int .i64 y, .int .i64 z] 66)).cell (o := 1) hhl).trans h2
  have z3 := (((New.refl w).alloc (.cells #[.int .i64 x, .int .i64 y, .int .i64 z] 66)).cell (o := 2) hhl).trans h3
  clear hg h1 h2 h3
  go_enter Try.func77, Try.ntmps77
  go_upto_region 1 with fail
  have HN1 := Lib.hid ((New.refl w).alloc (.cells #[.int .i64 x, .int .i64 y, .int .i64 z] 66))
  have y0 : (w.alloc (.cells #[.int .i64 x, .int .i64 y, .int .i64 z] 66)).cell? ⟨w.heap.size, 0, none⟩ = some (.int .i64 x) := by simp [go_sem]
  have y1 : (w.alloc (.cells #[.int .i64 x, .int .i64 y, .int .i64 z] 66)).cell? ⟨w.heap.size, 1, none⟩ = some (.int .i64 y) := by simp [go_sem]
  have y2 : (w.alloc (.cells #[.int .i64 x, .int .i64 y, .int .i64 z] 66)).cell? ⟨w.heap.size, 2, none⟩ = some (.int .i64 z) := by simp [go_sem]
  have hq1 : w.heap.size < (w.alloc (.cells #[.int .i64 x, .int .i64 y, .int .i64 z] 66)).heap.size := by simp
  have hq2 : g < (w.alloc (.cells #[.int .i64 x, .int .i64 y, .int .i64 z] 66)).heap.size := by simp; omega
  have hq3 : h < (w.alloc (.cells #[.int .i64 x, .int .i64 y, .int .i64 z] 66)).heap.size := by simp; omega
  generalize w.alloc (.cells #[.int .i64 x, .int .i64 y, .int .i64 z] 66) = U2 at *
  first | refine wp_region_at2 (by kernel_rfl) (by kernel_rfl) ?_ | refine wp_region_at (by kernel_rfl) (by kernel_rfl) ?_
  repeat (go_big_quiet_step (first | (go_at_call 67; (with_reducible exact calls_new (HD.out _)))))
  refine wpQuiet_nil ?_
  rintro U3 hq
  have HN3 := Lib.hid (HN1.out.trans (show New U2 U3 from hq))
  clear hq
  go_wp2_with fail
  all_goals (go_ret; exact ⟨rfl, HN3.out⟩)

end Go.Proofs.Ytpjekinmcdglbaa
