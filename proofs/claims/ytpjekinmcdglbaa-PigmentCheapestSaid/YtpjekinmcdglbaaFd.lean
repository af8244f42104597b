/- The determinant of a frame. Entries from -10000 to 10000. -/
import Derived.Test.YtpjekinmcdglbaaIt
import Derived.Test.YtpjekinmcdglbaaCy
set_option linter.unusedSimpArgs false
set_option linter.unusedVariables false
set_option maxRecDepth 100000
namespace Go.Proofs.Ytpjekinmcdglbaa
open Go.RowKit

/-- sixteen numbers as cells -/
def arr16 (m : Nat → Int) : Array Value := #[.int .i64 (m 0), .int .i64 (m 1), .int .i64 (m 2), .int .i64 (m 3), .int .i64 (m 4), .int .i64 (m 5), .int .i64 (m 6), .int .i64 (m 7), .int .i64 (m 8), .int .i64 (m 9), .int .i64 (m 10), .int .i64 (m 11), .int .i64 (m 12), .int .i64 (m 13), .int .i64 (m 14), .int .i64 (m 15)]
abbrev frV (m : Nat → Int) : Value := .agg #[.int .i64 (m 0), .int .i64 (m 1), .int .i64 (m 2), .int .i64 (m 3), .int .i64 (m 4), .int .i64 (m 5), .int .i64 (m 6), .int .i64 (m 7), .int .i64 (m 8), .int .i64 (m 9), .int .i64 (m 10), .int .i64 (m 11), .int .i64 (m 12), .int .i64 (m 13), .int .i64 (m 14), .int .i64 (m 15)]
theorem arr16_at (m : Nat → Int) (k : Nat) (h : k < 16) : (arr16 m)[k]? = some (.int .i64 (m k)) := by
  have : k = 0 ∨ k = 1 ∨ k = 2 ∨ k = 3 ∨ k = 4 ∨ k = 5 ∨ k = 6 ∨ k = 7 ∨ k = 8 ∨ k = 9 ∨ k = 10 ∨ k = 11 ∨ k = 12 ∨ k = 13 ∨ k = 14 ∨ k = 15 := by omega
  rcases this with rfl | rfl | rfl | rfl | rfl | rfl | rfl | rfl | rfl | rfl | rfl | rfl | rfl | rfl | rfl | rfl <;> rfl
theorem cell16 {W : World} {b : Nat} {m : Nat → Int} {t : TypeId} {fr : Nat × Nat} (h : W.heap[b]? = some (.cells (arr16 m) t fr)) (k : Nat) (hk : k < 16) : W.cell? ⟨b, k, none⟩ = some (.int .i64 (m k)) := by
  rw [cell_of_row W b k (arr16 m) t fr h, arr16_at m k hk]

def upI (m : Nat → Int) (i j : Nat) : Int := m i * m (4 + j) - m j * m (4 + i)
def loI (m : Nat → Int) (i j : Nat) : Int := m (8 + i) * m (12 + j) - m (8 + j) * m (12 + i)
def detI (m : Nat → Int) : Int := upI m 0 1 * loI m 2 3 - upI m 0 2 * loI m 1 3 + upI m 0 3 * loI m 1 2 + upI m 1 2 * loI m 0 3 - upI m 1 3 * loI m 0 2 + upI m 2 3 * loI m 0 1
def bd16 (m : Nat → Int) : Prop := ∀ k, k < 16 → -10000 ≤ m k ∧ m k ≤ 10000

theorem pr_bd {a b : Int} (ha : -10000 ≤ a ∧ a ≤ 10000) (hb : -10000 ≤ b ∧ b ≤ 10000) : -100000000 ≤ a * b ∧ a * b ≤ 100000000 := by
  have := mul_bd a b 10000 10000 ha.1 ha.2 hb.1 hb.2; omega
theorem upI_bd {m : Nat → Int} (h : bd16 m) (i j : Nat) (hi : i < 4) (hj : j < 4) : -200000000 ≤ upI m i j ∧ upI m i j ≤ 200000000 := by
  have a := pr_bd (h i (by omega)) (h (4 + j) (by omega))
  have b := pr_bd (h j (by omega)) (h (4 + i) (by omega))
  unfold upI; omega
theorem loI_bd {m : Nat → Int} (h : bd16 m) (i j : Nat) (hi : i < 4) (hj : j < 4) : -200000000 ≤ loI m i j ∧ loI m i j ≤ 200000000 := by
  have a := pr_bd (h (8 + i) (by omega)) (h (12 + j) (by omega))
  have b := pr_bd (h (8 + j) (by omega)) (h (12 + i) (by omega))
  unfold loI; omega

set_option maxHeartbeats 4000000 in
theorem upper_c (b i j : Nat) (m : Nat → Int) (t : TypeId) (w : World) (hi : i < 4) (hj : j < 4) (hb : w.heap[b]? = some (.cells (arr16 m) t (0, 0))) (hm : bd16 m) :
    Calls Try.prog 92 #[.int .i64 (i : Int), .int .i64 (j : Int), .pointer (some ⟨b, 0, none⟩)] w fun en w' => en = .returned (.int .i64 (upI m i j)) ∧ New w w' := by
  have c0 := cell16 hb i (by omega)
  have c1 := cell16 hb j (by omega)
  have c2 := cell16 hb (4 + i) (by omega)
  have c3 := cell16 hb (4 + j) (by omega)
  have p1 := pr_bd (hm i (by omega)) (hm (4 + j) (by omega))
  have p2 := pr_bd (hm j (by omega)) (hm (4 + i) (by omega))
  have hU := Lib.hid (show upI m i j = m i * m (4 + j) - m j * m (4 + i) from rfl)
  clear hb hm
  generalize m i = A at *
  generalize m j = B at *
  generalize m (4 + i) = C at *
  generalize m (4 + j) = D at *
  generalize upI m i j = U at *
  have q1 := wr (show (-4000000000000000000 ≤ A * D ∧ A * D ≤ 4000000000000000000) by omega)
  have q2 := wr (show (-4000000000000000000 ≤ B * C ∧ B * C ≤ 4000000000000000000) by omega)
  have q3 := wr (show (-4000000000000000000 ≤ A * D - B * C ∧ A * D - B * C ≤ 4000000000000000000) by omega)
  go_enter Try.func92, Try.ntmps92
  go_wp2_with fail
  go_region
  all_goals (go_wp2_with fail)
  all_goals (go_ret; exact ⟨ret_int hU.out.symm, (by (repeat (first | exact New.refl _ | apply New.alloc | apply New.aft | apply New.drew | refine New.setCell ?_ ?_ _)); all_goals (first | done | (simp [size_aft]; done) | (simp [size_aft]; omega)))⟩)
set_option maxHeartbeats 4000000 in
theorem lower_c (b i j : Nat) (m : Nat → Int) (t : TypeId) (w : World) (hi : i < 4) (hj : j < 4) (hb : w.heap[b]? = some (.cells (arr16 m) t (0, 0))) (hm : bd16 m) :
    Calls Try.prog 93 #[.int .i64 (i : Int), .int .i64 (j : Int), .pointer (some ⟨b, 0, none⟩)] w fun en w' => en = .returned (.int .i64 (loI m i j)) ∧ New w w' := by
  have c0 := cell16 hb (8 + i) (by omega)
  have c1 := cell16 hb (8 + j) (by omega)
  have c2 := cell16 hb (12 + i) (by omega)
  have c3 := cell16 hb (12 + j) (by omega)
  have p1 := pr_bd (hm (8 + i) (by omega)) (hm (12 + j) (by omega))
  have p2 := pr_bd (hm (8 + j) (by omega)) (hm (12 + i) (by omega))
  have hU := Lib.hid (show loI m i j = m (8 + i) * m (12 + j) - m (8 + j) * m (12 + i) from rfl)
  clear hb hm
  generalize m (8 + i) = A at *
  generalize m (8 + j) = B at *
  generalize m (12 + i) = C at *
  generalize m (12 + j) = D at *
  generalize loI m i j = U at *
  have q1 := wr (show (-4000000000000000000 ≤ A * D ∧ A * D ≤ 4000000000000000000) by omega)
  have q2 := wr (show (-4000000000000000000 ≤ B * C ∧ B * C ≤ 4000000000000000000) by omega)
  have q3 := wr (show (-4000000000000000000 ≤ A * D - B * C ∧ A * D - B * C ≤ 4000000000000000000) by omega)
  go_enter Try.func93, Try.ntmps93
  go_wp2_with fail
  go_region
  all_goals (go_wp2_with fail)
  all_goals (go_ret; exact ⟨ret_int hU.out.symm, (by (repeat (first | exact New.refl _ | apply New.alloc | apply New.aft | apply New.drew | refine New.setCell ?_ ?_ _)); all_goals (first | done | (simp [size_aft]; done) | (simp [size_aft]; omega)))⟩)

set_option maxHeartbeats 8000000 in
theorem determinant_c (m : Nat → Int) (w : World) (hm : bd16 m) : Calls Try.prog 89 #[frV m] w fun en w' => en = .returned (.int .i64 (detI m)) ∧ New w w' := by
  have u0 := upI_bd hm 0 1 (by omega) (by omega)
  have l0 := loI_bd hm 2 3 (by omega) (by omega)
  have u1 := upI_bd hm 0 2 (by omega) (by omega)
  have l1 := loI_bd hm 1 3 (by omega) (by omega)
  have u2 := upI_bd hm 0 3 (by omega) (by omega)
  have l2 := loI_bd hm 1 2 (by omega) (by omega)
  have u3 := upI_bd hm 1 2 (by omega) (by omega)
  have l3 := loI_bd hm 0 3 (by omega) (by omega)
  have u4 := upI_bd hm 1 3 (by omega) (by omega)
  have l4 := loI_bd hm 0 2 (by omega) (by omega)
  have u5 := upI_bd hm 2 3 (by omega) (by omega)
  have l5 := loI_bd hm 0 1 (by omega) (by omega)
  have hb0 := World.alloc_heap_new w (.cells (arr16 m) 107)
  have HU := Lib.hid (show ∀ (i j : Nat) (w1 : World), i < 4 → j < 4 → New (w.alloc (.cells (arr16 m) 107)) w1 → Calls Try.prog 92 #[.int .i64 (i : Int), .int .i64 (j : Int), .pointer (some ⟨w.heap.size, 0, none⟩)] w1 fun en w' => en = .returned (.int .i64 (upI m i j)) ∧ New w1 w' from
    fun i j w1 hi hj hn => upper_c _ _ _ m _ w1 hi hj ((hn.below.block _ (by simp)).trans hb0) hm)
  have HL := Lib.hid (show ∀ (i j : Nat) (w1 : World), i < 4 → j < 4 → New (w.alloc (.cells (arr16 m) 107)) w1 → Calls Try.prog 93 #[.int .i64 (i : Int), .int .i64 (j : Int), .pointer (some ⟨w.heap.size, 0, none⟩)] w1 fun en w' => en = .returned (.int .i64 (loI m i j)) ∧ New w1 w' from
    fun i j w1 hi hj hn => lower_c _ _ _ m _ w1 hi hj ((hn.below.block _ (by simp)).trans hb0) hm)
  have HD := Lib.hid (show detI m = upI m 0 1 * loI m 2 3 - upI m 0 2 * loI m 1 3 + upI m 0 3 * loI m 1 2 + upI m 1 2 * loI m 0 3 - upI m 1 3 * loI m 0 2 + upI m 2 3 * loI m 0 1 from rfl)
  clear hb0 hm
  have HU0 := Lib.hid (show ∀ w1, New (w.alloc (.cells (arr16 m) 107)) w1 → Calls Try.prog 92 #[.int .i64 0, .int .i64 1, .pointer (some ⟨w.heap.size, 0, none⟩)] w1 fun en w' => en = .returned (.int .i64 (upI m 0 1)) ∧ New w1 w' from fun w1 hn => HU.out 0 1 w1 (by omega) (by omega) hn)
  have HL0 := Lib.hid (show ∀ w1, New (w.alloc (.cells (arr16 m) 107)) w1 → Calls Try.prog 93 #[.int .i64 2, .int .i64 3, .pointer (some ⟨w.heap.size, 0, none⟩)] w1 fun en w' => en = .returned (.int .i64 (loI m 2 3)) ∧ New w1 w' from fun w1 hn => HL.out 2 3 w1 (by omega) (by omega) hn)
  have HU1 := Lib.hid (show ∀ w1, New (w.alloc (.cells (arr16 m) 107)) w1 → Calls Try.prog 92 #[.int .i64 0, .int .i64 2, .pointer (some ⟨w.heap.size, 0, none⟩)] w1 fun en w' => en = .returned (.int .i64 (upI m 0 2)) ∧ New w1 w' from fun w1 hn => HU.out 0 2 w1 (by omega) (by omega) hn)
  have HL1 := Lib.hid (show ∀ w1, New (w.alloc (.cells (arr16 m) 107)) w1 → Calls Try.prog 93 #[.int .i64 1, .int .i64 3, .pointer (some ⟨w.heap.size, 0, none⟩)] w1 fun en w' => en = .returned (.int .i64 (loI m 1 3)) ∧ New w1 w' from fun w1 hn => HL.out 1 3 w1 (by omega) (by omega) hn)
  have HU2 := Lib.hid (show ∀ w1, New (w.alloc (.cells (arr16 m) 107)) w1 → Calls Try.prog 92 #[.int .i64 0, .int .i64 3, .pointer (some ⟨w.heap.size, 0, none⟩)] w1 fun en w' => en = .returned (.int .i64 (upI m 0 3)) ∧ New w1 w' from fun w1 hn => HU.out 0 3 w1 (by omega) (by omega) hn)
  have HL2 := Lib.hid (show ∀ w1, New (w.alloc (.cells (arr16 m) 107)) w1 → Calls Try.prog 93 #[.int .i64 1, .int .i64 2, .pointer (some ⟨w.heap.size, 0, none⟩)] w1 fun en w' => en = .returned (.int .i64 (loI m 1 2)) ∧ New w1 w' from fun w1 hn => HL.out 1 2 w1 (by omega) (by omega) hn)
  have HU3 := Lib.hid (show ∀ w1, New (w.alloc (.cells (arr16 m) 107)) w1 → Calls Try.prog 92 #[.int .i64 1, .int .i64 2, .pointer (some ⟨w.heap.size, 0, none⟩)] w1 fun en w' => en = .returned (.int .i64 (upI m 1 2)) ∧ New w1 w' from fun w1 hn => HU.out 1 2 w1 (by omega) (by omega) hn)
  have HL3 := Lib.hid (show ∀ w1, New (w.alloc (.cells (arr16 m) 107)) w1 → Calls Try.prog 93 #[.int .i64 0, .int .i64 3, .pointer (some ⟨w.heap.size, 0, none⟩)] w1 fun en w' => en = .returned (.int .i64 (loI m 0 3)) ∧ New w1 w' from fun w1 hn => HL.out 0 3 w1 (by omega) (by omega) hn)
  have HU4 := Lib.hid (show ∀ w1, New (w.alloc (.cells (arr16 m) 107)) w1 → Calls Try.prog 92 #[.int .i64 1, .int .i64 3, .pointer (some ⟨w.heap.size, 0, none⟩)] w1 fun en w' => en = .returned (.int .i64 (upI m 1 3)) ∧ New w1 w' from fun w1 hn => HU.out 1 3 w1 (by omega) (by omega) hn)
  have HL4 := Lib.hid (show ∀ w1, New (w.alloc (.cells (arr16 m) 107)) w1 → Calls Try.prog 93 #[.int .i64 0, .int .i64 2, .pointer (some ⟨w.heap.size, 0, none⟩)] w1 fun en w' => en = .returned (.int .i64 (loI m 0 2)) ∧ New w1 w' from fun w1 hn => HL.out 0 2 w1 (by omega) (by omega) hn)
  have HU5 := Lib.hid (show ∀ w1, New (w.alloc (.cells (arr16 m) 107)) w1 → Calls Try.prog 92 #[.int .i64 2, .int .i64 3, .pointer (some ⟨w.heap.size, 0, none⟩)] w1 fun en w' => en = .returned (.int .i64 (upI m 2 3)) ∧ New w1 w' from fun w1 hn => HU.out 2 3 w1 (by omega) (by omega) hn)
  have HL5 := Lib.hid (show ∀ w1, New (w.alloc (.cells (arr16 m) 107)) w1 → Calls Try.prog 93 #[.int .i64 0, .int .i64 1, .pointer (some ⟨w.heap.size, 0, none⟩)] w1 fun en w' => en = .returned (.int .i64 (loI m 0 1)) ∧ New w1 w' from fun w1 hn => HL.out 0 1 w1 (by omega) (by omega) hn)
  clear HU HL
  generalize upI m 0 1 = U0 at *
  generalize loI m 2 3 = L0 at *
  have m0 := mul_bd U0 L0 200000000 200000000 u0.1 u0.2 l0.1 l0.2
  generalize upI m 0 2 = U1 at *
  generalize loI m 1 3 = L1 at *
  have m1 := mul_bd U1 L1 200000000 200000000 u1.1 u1.2 l1.1 l1.2
  generalize upI m 0 3 = U2 at *
  generalize loI m 1 2 = L2 at *
  have m2 := mul_bd U2 L2 200000000 200000000 u2.1 u2.2 l2.1 l2.2
  generalize upI m 1 2 = U3 at *
  generalize loI m 0 3 = L3 at *
  have m3 := mul_bd U3 L3 200000000 200000000 u3.1 u3.2 l3.1 l3.2
  generalize upI m 1 3 = U4 at *
  generalize loI m 0 2 = L4 at *
  have m4 := mul_bd U4 L4 200000000 200000000 u4.1 u4.2 l4.1 l4.2
  generalize upI m 2 3 = U5 at *
  generalize loI m 0 1 = L5 at *
  have m5 := mul_bd U5 L5 200000000 200000000 u5.1 u5.2 l5.1 l5.2
  obtain ⟨P0, hP0⟩ : ∃ P, P = U0 * L0 := ⟨_, rfl⟩
  rw [← hP0] at m0
  have q0 : IntKind.i64.wrap (U0 * L0) = P0 := by rw [← hP0]; exact wr (by omega)
  obtain ⟨P1, hP1⟩ : ∃ P, P = U1 * L1 := ⟨_, rfl⟩
  rw [← hP1] at m1
  have q1 : IntKind.i64.wrap (U1 * L1) = P1 := by rw [← hP1]; exact wr (by omega)
  obtain ⟨P2, hP2⟩ : ∃ P, P = U2 * L2 := ⟨_, rfl⟩
  rw [← hP2] at m2
  have q2 : IntKind.i64.wrap (U2 * L2) = P2 := by rw [← hP2]; exact wr (by omega)
  obtain ⟨P3, hP3⟩ : ∃ P, P = U3 * L3 := ⟨_, rfl⟩
  rw [← hP3] at m3
  have q3 : IntKind.i64.wrap (U3 * L3) = P3 := by rw [← hP3]; exact wr (by omega)
  obtain ⟨P4, hP4⟩ : ∃ P, P = U4 * L4 := ⟨_, rfl⟩
  rw [← hP4] at m4
  have q4 : IntKind.i64.wrap (U4 * L4) = P4 := by rw [← hP4]; exact wr (by omega)
  obtain ⟨P5, hP5⟩ : ∃ P, P = U5 * L5 := ⟨_, rfl⟩
  rw [← hP5] at m5
  have q5 : IntKind.i64.wrap (U5 * L5) = P5 := by rw [← hP5]; exact wr (by omega)
  have HP0 := Lib.hid hP0
  obtain ⟨S1, hS1⟩ : ∃ S, S = P0 - P1 := ⟨_, rfl⟩
  have r1 : IntKind.i64.wrap (P0 - P1) = S1 := by rw [← hS1]; exact wr (by omega)
  obtain ⟨S2, hS2⟩ : ∃ S, S = S1 + P2 := ⟨_, rfl⟩
  have r2 : IntKind.i64.wrap (S1 + P2) = S2 := by rw [← hS2]; exact wr (by omega)
  obtain ⟨S3, hS3⟩ : ∃ S, S = S2 + P3 := ⟨_, rfl⟩
  have r3 : IntKind.i64.wrap (S2 + P3) = S3 := by rw [← hS3]; exact wr (by omega)
  obtain ⟨S4, hS4⟩ : ∃ S, S = S3 - P4 := ⟨_, rfl⟩
  have r4 : IntKind.i64.wrap (S3 - P4) = S4 := by rw [← hS4]; exact wr (by omega)
  obtain ⟨S5, hS5⟩ : ∃ S, S = S4 + P5 := ⟨_, rfl⟩
  have r5 : IntKind.i64.wrap (S4 + P5) = S5 := by rw [← hS5]; exact wr (by omega)
  have HS := Lib.hid (show detI m = S5 by rw [HD.out, hS5, hS4, hS3, hS2, hS1, hP0, hP1, hP2, hP3, hP4, hP5])
  clear hP0 hP1 hP2 hP3 hP4 hP5 hS1 hS2 hS3 hS4 hS5 HP0 HD
  clear u0 l0 m0 u1 l1 m1 u2 l2 m2 u3 l3 m3 u4 l4 m4 u5 l5 m5
  generalize detI m = DT at *
  go_enter Try.func89, Try.ntmps89
  have HW0 := Lib.hid (show w.alloc (.cells (arr16 m) 107) = w.alloc (.cells #[.int .i64 (m 0), .int .i64 (m 1), .int .i64 (m 2), .int .i64 (m 3), .int .i64 (m 4), .int .i64 (m 5), .int .i64 (m 6), .int .i64 (m 7), .int .i64 (m 8), .int .i64 (m 9), .int .i64 (m 10), .int .i64 (m 11), .int .i64 (m 12), .int .i64 (m 13), .int .i64 (m 14), .int .i64 (m 15)] 107) from rfl)
  go_wp2_with fail
  rw [← HW0.out]
  have HNW := Lib.hid (show New w (w.alloc (.cells (arr16 m) 107)) from (New.refl w).alloc _)
  clear HW0
  generalize w.alloc (.cells (arr16 m) 107) = W at *
  have HN0 := Lib.hid (New.refl W)
  (go_at_call 92; (with_reducible refine (HU0.out _ HN0.out).mono ?_); rintro e w1 ⟨rfl, hn1⟩)
  have HN1 := Lib.hid (HN0.out.trans hn1)
  clear hn1
  go_wp2_with fail
  (go_at_call 93; (with_reducible refine (HL0.out _ HN1.out).mono ?_); rintro e w2 ⟨rfl, hn2⟩)
  have HN2 := Lib.hid (HN1.out.trans hn2)
  clear hn2
  go_wp2_with fail
  (go_at_call 92; (with_reducible refine (HU1.out _ HN2.out).mono ?_); rintro e w3 ⟨rfl, hn3⟩)
  have HN3 := Lib.hid (HN2.out.trans hn3)
  clear hn3
  go_wp2_with fail
  (go_at_call 93; (with_reducible refine (HL1.out _ HN3.out).mono ?_); rintro e w4 ⟨rfl, hn4⟩)
  have HN4 := Lib.hid (HN3.out.trans hn4)
  clear hn4
  go_wp2_with fail
  (go_at_call 92; (with_reducible refine (HU2.out _ HN4.out).mono ?_); rintro e w5 ⟨rfl, hn5⟩)
  have HN5 := Lib.hid (HN4.out.trans hn5)
  clear hn5
  go_wp2_with fail
  (go_at_call 93; (with_reducible refine (HL2.out _ HN5.out).mono ?_); rintro e w6 ⟨rfl, hn6⟩)
  have HN6 := Lib.hid (HN5.out.trans hn6)
  clear hn6
  go_wp2_with fail
  (go_at_call 92; (with_reducible refine (HU3.out _ HN6.out).mono ?_); rintro e w7 ⟨rfl, hn7⟩)
  have HN7 := Lib.hid (HN6.out.trans hn7)
  clear hn7
  go_wp2_with fail
  (go_at_call 93; (with_reducible refine (HL3.out _ HN7.out).mono ?_); rintro e w8 ⟨rfl, hn8⟩)
  have HN8 := Lib.hid (HN7.out.trans hn8)
  clear hn8
  go_wp2_with fail
  (go_at_call 92; (with_reducible refine (HU4.out _ HN8.out).mono ?_); rintro e w9 ⟨rfl, hn9⟩)
  have HN9 := Lib.hid (HN8.out.trans hn9)
  clear hn9
  go_wp2_with fail
  (go_at_call 93; (with_reducible refine (HL4.out _ HN9.out).mono ?_); rintro e w10 ⟨rfl, hn10⟩)
  have HN10 := Lib.hid (HN9.out.trans hn10)
  clear hn10
  go_wp2_with fail
  (go_at_call 92; (with_reducible refine (HU5.out _ HN10.out).mono ?_); rintro e w11 ⟨rfl, hn11⟩)
  have HN11 := Lib.hid (HN10.out.trans hn11)
  clear hn11
  go_wp2_with fail
  (go_at_call 93; (with_reducible refine (HL5.out _ HN11.out).mono ?_); rintro e w12 ⟨rfl, hn12⟩)
  have HN12 := Lib.hid (HN11.out.trans hn12)
  clear hn12
  go_wp2_with fail
  go_ret
  exact ⟨ret_int HS.out.symm, HNW.out.trans HN12.out⟩

end Go.Proofs.Ytpjekinmcdglbaa
