/- Where two segments that cross meet, as Cross of the reference returns it. -/
import Derived.Test.YtpdfbboagaflhaaGreatN03
import Derived.Test.YtpdfbboagaflhaaGreatN04
import Derived.Deep.RegionHeld3
import Derived.Deep.RegionWith
import Derived.BigRegion
import Derived.LoopTactic

set_option linter.unusedSimpArgs false
set_option linter.unusedVariables false
set_option maxRecDepth 100000
namespace Go.Proofs.YtpdfbboagaflhaaGreat
open Go.RowKit

theorem gcdI_one (x : Int) : gcdI x 1 = 1 := by unfold gcdI; simp
theorem lowN_one (x : Int) : lowN x 1 = x := by unfold lowN; rw [if_neg (by omega), gcdI_one, Int.tdiv_one]
theorem lowD_one (x : Int) : lowD x 1 = 1 := by unfold lowD; rw [if_neg (by omega), gcdI_one, Int.tdiv_one]

set_option maxHeartbeats 8000000 in
theorem ref_Cross1 (a b c d e f g h X Y : Int) (w : World) (ha : 0 ≤ a ∧ a ≤ 10000) (hb : 0 ≤ b ∧ b ≤ 10000) (hc : 0 ≤ c ∧ c ≤ 10000) (hd : 0 ≤ d ∧ d ≤ 10000) (he : 0 ≤ e ∧ e ≤ 10000) (hf : 0 ≤ f ∧ f ≤ 10000) (hg : 0 ≤ g ∧ g ≤ 10000) (hh : 0 ≤ h ∧ h ≤ 10000)
    (hk : MeetI a b c d e f g h = 1 ∨ MeetI a b c d e f g h = 2) (hE : endsL a b c d e f g h = [(X, Y)]) (hX : 0 ≤ X ∧ X ≤ 10000) (hY : 0 ≤ Y ∧ Y ≤ 10000) :
    Calls Tryz.prog 36 #[sv a b c d, sv e f g h] w fun en w' => en = .returned (.tuple #[pv X 1, pv Y 1, .bool true]) ∧ New w w' := by
  have HM := Lib.hid (fun w1 : World => ref_Meet a b c d e f g h w1)
  have HE := Lib.hid (fun w1 : World => ref_ends a b c d e f g h w1 ha hb hc hd he hf hg hh)
  rw [hE] at HE
  have HX := Lib.hid (fun w1 : World => ref_Frac X 1 w1 (by omega) (by omega) (by omega))
  have HY := Lib.hid (fun w1 : World => ref_Frac Y 1 w1 (by omega) (by omega) (by omega))
  rw [lowN_one, lowD_one] at HX HY
  clear hE ha hb hc hd he hf hg hh hX hY
  rcases hk with hk | hk
  all_goals
    rw [hk] at HM
    clear hk
    go_enter Tryz.func36, Tryz.ntmps36
    go_wp2_with (first | (go_at_call 37; refine (HM.out _).mono ?_; rintro en w1 ⟨rfl, pw, rfl⟩) | (go_at_call 95; refine (HE.out _).mono ?_; rintro en w1 ⟨v, rfl, hown, hnew⟩; obtain ⟨av, cap, rfl, hav⟩ := own_form hown; obtain ⟨gE, rfl, _, hgb, hgc⟩ := hav (by simp); obtain ⟨e1, e2⟩ := hgc 0 (by simp); have d1 : w1.cell? ⟨gE, 0, none⟩ = some (.int .i64 X) := (by simpa [px] using e1); have d2 : w1.cell? ⟨gE, 1, none⟩ = some (.int .i64 Y) := (by simpa [py] using e2); clear e1 e2 hown hav hgc; have z3 : w.heap.size + 1 + 1 < w1.heap.size := (by have := hnew.size; simp [go_sem] at this; omega); have z4 : w.heap.size + 1 + 1 + 1 < w1.heap.size := (by have := hnew.size; simp [go_sem] at this; omega); have z5 : w.heap.size + 1 + 1 < w1.heap.size + 1 := (by omega); have z6 : w.heap.size + 1 + 1 + 1 < w1.heap.size + 1 := (by omega); have r1 : w1.cell? ⟨w.heap.size + 1 + 1, 0, none⟩ = some (.int .i64 0) := (by rw [hnew.cell (by simp [go_sem])]; simp [go_sem]); have r2 : w1.cell? ⟨w.heap.size + 1 + 1, 1, none⟩ = some (.int .i64 0) := (by rw [hnew.cell (by simp [go_sem])]; simp [go_sem]); have r3 : w1.cell? ⟨w.heap.size + 1 + 1 + 1, 0, none⟩ = some (.int .i64 0) := (by rw [hnew.cell (by simp [go_sem])]; simp [go_sem]); have r4 : w1.cell? ⟨w.heap.size + 1 + 1 + 1, 1, none⟩ = some (.int .i64 0) := (by rw [hnew.cell (by simp [go_sem])]; simp [go_sem]); have f1 : w1.frozen? ⟨w.heap.size + 1 + 1, 0, none⟩ = false := (by rw [hnew.below.frozen (p := ⟨w.heap.size + 1 + 1, 0, none⟩) (by simp [go_sem])]; simp [go_sem]); have f2 : w1.frozen? ⟨w.heap.size + 1 + 1, 1, none⟩ = false := (by rw [hnew.below.frozen (p := ⟨w.heap.size + 1 + 1, 1, none⟩) (by simp [go_sem])]; simp [go_sem]); have f3 : w1.frozen? ⟨w.heap.size + 1 + 1 + 1, 0, none⟩ = false := (by rw [hnew.below.frozen (p := ⟨w.heap.size + 1 + 1 + 1, 0, none⟩) (by simp [go_sem])]; simp [go_sem]); have f4 : w1.frozen? ⟨w.heap.size + 1 + 1 + 1, 1, none⟩ = false := (by rw [hnew.below.frozen (p := ⟨w.heap.size + 1 + 1 + 1, 1, none⟩) (by simp [go_sem])]; simp [go_sem]); have HNW := Lib.hid (New.trans ((by (repeat (first | exact New.refl _ | apply New.alloc | apply New.aft | apply New.drew | refine New.setCell ?_ ?_ _)); all_goals (first | done | (simp [size_aft]; done) | (simp [size_aft]; omega))) : New w _) hnew); clear hnew))
    go_region_with (first | (go_at_call 96; (with_reducible refine (HX.out _).mono ?_); rintro e w1 ⟨rfl, pw, rfl⟩) | (go_at_call 96; (with_reducible refine (HY.out _).mono ?_); rintro e w1 ⟨rfl, pw, rfl⟩))
    all_goals (go_wp2_with fail)
    all_goals (refine bodyPost_ret (v := .tuple #[pv X 1, pv Y 1, .bool true]) (by simp [results, Tryz.results36, go_sem, *]) rfl ⟨rfl, ?_⟩; (repeat (first | exact HNW.out | exact New.refl _ | apply New.alloc | apply New.aft | apply New.drew | refine New.setCell ?_ ?_ _)); all_goals (first | done | (simp [size_aft]; done) | (simp [size_aft]; omega)))

end Go.Proofs.YtpdfbboagaflhaaGreat

set_option linter.unusedSimpArgs false
set_option linter.unusedVariables false
set_option maxRecDepth 100000
namespace Go.Proofs.YtpdfbboagaflhaaGreat
open Go.RowKit

set_option maxHeartbeats 16000000 in
theorem ref_Cross3 (a b c d e f g h : Int) (w : World) (ha : 0 ≤ a ∧ a ≤ 10000) (hb : 0 ≤ b ∧ b ≤ 10000) (hc : 0 ≤ c ∧ c ≤ 10000) (hd : 0 ≤ d ∧ d ≤ 10000) (he : 0 ≤ e ∧ e ≤ 10000) (hf : 0 ≤ f ∧ f ≤ 10000) (hg : 0 ≤ g ∧ g ≤ 10000) (hh : 0 ≤ h ∧ h ≤ 10000)
    (hk : MeetI a b c d e f g h = 3) (hden : denI a b c d e f g h ≠ 0) :
    Calls Tryz.prog 36 #[sv a b c d, sv e f g h] w fun en w' => en = .returned (.tuple #[pv (lowN (a * denI a b c d e f g h + (c - a) * partI a b e f g h) (denI a b c d e f g h)) (lowD (a * denI a b c d e f g h + (c - a) * partI a b e f g h) (denI a b c d e f g h)), pv (lowN (b * denI a b c d e f g h + (d - b) * partI a b e f g h) (denI a b c d e f g h)) (lowD (b * denI a b c d e f g h + (d - b) * partI a b e f g h) (denI a b c d e f g h)), .bool true]) ∧ New w w' := by
  have HM := Lib.hid (fun w1 : World => ref_Meet a b c d e f g h w1)
  rw [hk] at HM
  have p1 := mul_bd (c - a) (h - f) 10000 10000 (by omega) (by omega) (by omega) (by omega)
  have p2 := mul_bd (d - b) (g - e) 10000 10000 (by omega) (by omega) (by omega) (by omega)
  have p3 := mul_bd (e - a) (h - f) 10000 10000 (by omega) (by omega) (by omega) (by omega)
  have p4 := mul_bd (f - b) (g - e) 10000 10000 (by omega) (by omega) (by omega) (by omega)
  simp only [Int.reduceMul, Int.reduceNeg] at p1 p2 p3 p4
  have hD : denI a b c d e f g h = (c - a) * (h - f) - (d - b) * (g - e) := rfl
  have hP : partI a b e f g h = (e - a) * (h - f) - (f - b) * (g - e) := rfl
  have HD := Lib.hid hD.symm
  have HP := Lib.hid hP.symm
  have bD : -200000000 ≤ denI a b c d e f g h ∧ denI a b c d e f g h ≤ 200000000 := by rw [hD]; omega
  have bP : -200000000 ≤ partI a b e f g h ∧ partI a b e f g h ≤ 200000000 := by rw [hP]; omega
  clear hD hP hk
  generalize denI a b c d e f g h = D at *
  generalize partI a b e f g h = Pq at *
  have m1 := mul_bd a D 10000 200000000 (by omega) (by omega) (by omega) (by omega)
  have m2 := mul_bd (c - a) Pq 10000 200000000 (by omega) (by omega) (by omega) (by omega)
  have m3 := mul_bd b D 10000 200000000 (by omega) (by omega) (by omega) (by omega)
  have m4 := mul_bd (d - b) Pq 10000 200000000 (by omega) (by omega) (by omega) (by omega)
  simp only [Int.reduceMul, Int.reduceNeg] at m1 m2 m3 m4
  have HX := Lib.hid (fun w1 : World => ref_Frac (a * D + (c - a) * Pq) D w1 (by omega) (by omega) hden)
  have HY := Lib.hid (fun w1 : World => ref_Frac (b * D + (d - b) * Pq) D w1 (by omega) (by omega) hden)
  have w5 : IntKind.i64.wrap (a * D) = a * D := IntWalk.i64_in _ (by omega)
  have w6 : IntKind.i64.wrap ((c - a) * Pq) = (c - a) * Pq := IntWalk.i64_in _ (by omega)
  have w7 : IntKind.i64.wrap (a * D + (c - a) * Pq) = a * D + (c - a) * Pq := IntWalk.i64_in _ (by omega)
  have w8 : IntKind.i64.wrap (b * D) = b * D := IntWalk.i64_in _ (by omega)
  have w9 : IntKind.i64.wrap ((d - b) * Pq) = (d - b) * Pq := IntWalk.i64_in _ (by omega)
  have w10 : IntKind.i64.wrap (b * D + (d - b) * Pq) = b * D + (d - b) * Pq := IntWalk.i64_in _ (by omega)
  generalize lowN (a * D + (c - a) * Pq) D = X1 at *
  generalize lowD (a * D + (c - a) * Pq) D = X2 at *
  generalize lowN (b * D + (d - b) * Pq) D = Y1 at *
  generalize lowD (b * D + (d - b) * Pq) D = Y2 at *
  go_enter Tryz.func36, Tryz.ntmps36
  go_wp2_with (go_at_call 37; refine (HM.out _).mono ?_; rintro en w1 ⟨rfl, pw, rfl⟩)
  simp only [HD.out, HP.out]
  clear ha hb hc hd he hf hg hh p1 p2 p3 p4 m1 m2 m3 m4 bD bP
  go_region_with (first | (go_at_call 96; (with_reducible refine (HX.out _).mono ?_); rintro e w1 ⟨rfl, pw, rfl⟩) | (go_at_call 96; (with_reducible refine (HY.out _).mono ?_); rintro e w1 ⟨rfl, pw, rfl⟩))
  all_goals (go_wp2_with fail)
  all_goals (refine bodyPost_ret (v := .tuple #[pv X1 X2, pv Y1 Y2, .bool true]) (by simp [results, Tryz.results36, go_sem]) rfl ⟨rfl, ?_⟩; (repeat (first | exact New.refl _ | apply New.alloc | apply New.aft | apply New.drew | refine New.setCell ?_ ?_ _)); all_goals (first | done | (simp [size_aft]; done) | (simp [size_aft]; omega)))

end Go.Proofs.YtpdfbboagaflhaaGreat
