/- The chapter's palette: its facts, and Reach, Cheapest, Mix, Price at it. · mixed() answers true. -/
import Derived.Test.YtpjekinmcdglbaaCw
import Derived.Test.YtpjekinmcdglbaaCt
import Derived.Test.YtpjekinmcdglbaaCn
import Derived.Test.YtpjekinmcdglbaaCy

section
set_option linter.unusedSimpArgs false
set_option linter.unusedVariables false
set_option maxRecDepth 100000
namespace Go.Proofs.Ytpjekinmcdglbaa
open Go.RowKit

theorem pal_len : palT.length = 4 := rfl
theorem pal_chk : chkE palT 4 = 0 := by decide +kernel
theorem pal_tn : tnOk palT := (chkE_zero pal_len pal_chk).2
theorem pal_sh : shOk palT := fun p => ⟨(pal_tn p).1.1, (pal_tn p).1.2, (pal_tn p).2.1⟩
theorem pal_r1 : rcpL palT 4 2 2 0 = [[(0, 3), (1, 1), (2, 1)], [(0, 2), (2, 1), (3, 2)]] := by decide +kernel
theorem pal_r2 : rcpL palT 4 0 0 1 = [] := by decide +kernel
theorem pal_r3 : rcpL palT 4 5 0 0 = [[(3, 1)], [(0, 1), (1, 1)]] := by decide +kernel
theorem pal_best : bestTo palT (rcpL palT 4 5 0 0) = some [(3, 1)] := by decide +kernel
def palP : List (Int × Int) := [(0, 1), (2, 2)]
theorem pal_rcp : rcpE palT palP 4 = 0 := by decide +kernel
theorem pal_mix : mixV palT palP 4 2 = .agg (arr6 0 1 20 3 0 1) := by
  have h : (mixQ palT palP 4 2 (tA palT), mixR palT palP 4 2 (tA palT), mixQ palT palP 4 2 (tB palT), mixR palT palP 4 2 (tB palT), mixQ palT palP 4 2 (tC palT), mixR palT palP 4 2 (tC palT)) = (0, 1, 20, 3, 0, 1) := by decide +kernel
  simp only [Prod.mk.injEq] at h
  obtain ⟨h1, h2, h3, h4, h5, h6⟩ := h
  unfold mixV
  rw [h1, h2, h3, h4, h5, h6]
theorem pal_pri : priA palT palP 4 2 = 16 ∧ priB palT palP 4 2 = 3 := by decide +kernel
theorem pal_small : ∀ x, x ∈ rcpL palT 4 5 0 0 → smallR x 4 := by
  rw [pal_r3]
  intro x hx
  simp only [List.mem_cons, List.not_mem_nil, or_false] at hx
  rcases hx with rfl | rfl
  · refine ⟨by decide, fun i hi => ?_⟩
    have : i = 0 := by simp at hi; omega
    subst this; decide
  · refine ⟨by decide, fun i hi => ?_⟩
    have : i = 0 ∨ i = 1 := by simp at hi; omega
    rcases this with rfl | rfl <;> decide

theorem pal_reach1 (g : Nat) (w : World) (hT : Tnts w g 0 4 palT) : Calls Try.prog 15 #[.slice (some ⟨g, 0, none⟩) 4 4, vv 2 2 0] w (ReR w [[(0, 3), (1, 1), (2, 1)], [(0, 2), (2, 1), (3, 2)]]) := by
  have := reach_ok g 0 4 4 2 2 0 palT w hT pal_sh (by omega) (by omega) (by omega) (by omega) (fun w1 h1 => (checkWanted_c (some ⟨g, 0, none⟩) 4 4 palT 2 2 0 w1 (by omega) (fun _ => ⟨g, 0, rfl, hT.new h1⟩)).mono (fun e w' h => by rw [show wntE palT 2 2 0 4 = 0 by decide +kernel] at h; exact h))
  rw [pal_r1] at this
  exact this
theorem pal_reach2 (g : Nat) (w : World) (hT : Tnts w g 0 4 palT) : Calls Try.prog 15 #[.slice (some ⟨g, 0, none⟩) 4 4, vv 0 0 1] w (ReR w []) := by
  have := reach_ok g 0 4 4 0 0 1 palT w hT pal_sh (by omega) (by omega) (by omega) (by omega) (fun w1 h1 => (checkWanted_c (some ⟨g, 0, none⟩) 4 4 palT 0 0 1 w1 (by omega) (fun _ => ⟨g, 0, rfl, hT.new h1⟩)).mono (fun e w' h => by rw [show wntE palT 0 0 1 4 = 0 by decide +kernel] at h; exact h))
  rw [pal_r2] at this
  exact this
theorem pal_cheap (g : Nat) (w : World) (hT : Tnts w g 0 4 palT) : Calls Try.prog 21 #[.slice (some ⟨g, 0, none⟩) 4 4, vv 5 0 0] w (ChR w (some [(3, 1)])) := by
  have := cheap_ok g 0 4 4 5 0 0 palT w hT pal_sh pal_tn (by omega) (by omega) (by omega) (by omega) pal_small (fun w1 h1 => (checkWanted_c (some ⟨g, 0, none⟩) 4 4 palT 5 0 0 w1 (by omega) (fun _ => ⟨g, 0, rfl, hT.new h1⟩)).mono (fun e w' h => by rw [show wntE palT 5 0 0 4 = 0 by decide +kernel] at h; exact h))
    (fun w1 lx ly h1 => dualOf_c g 0 4 4 5 0 0 lx ly palT w1 (hT.new h1) pal_sh pal_tn (by omega) (by omega) (by omega) (by omega))
  rw [pal_best] at this
  exact this
theorem pal_Mix (g pb pc : Nat) (w : World) (hT : Tnts w g 0 4 palT) (hP : Prts w pb 0 2 palP) : Calls Try.prog 11 #[.slice (some ⟨g, 0, none⟩) 4 4, .agg #[.slice (some ⟨pb, 0, none⟩) 2 pc]] w fun en w' => en = .returned (.tuple #[.agg (arr6 0 1 20 3 0 1), .int .i64 0]) ∧ New w w' := by
  have := Mix_c (some ⟨g, 0, none⟩) (some ⟨pb, 0, none⟩) 4 4 2 pc palT palP w (by omega) (by omega) rfl (fun _ => ⟨_, _, rfl, hT⟩) rfl (fun _ => ⟨_, _, rfl, hP⟩)
  rw [pal_mix, pal_rcp] at this
  exact this
theorem pal_Price (g pb pc : Nat) (w : World) (hT : Tnts w g 0 4 palT) (hP : Prts w pb 0 2 palP) : Calls Try.prog 13 #[.slice (some ⟨g, 0, none⟩) 4 4, .agg #[.slice (some ⟨pb, 0, none⟩) 2 pc]] w fun en w' => en = .returned (.tuple #[fv 16 3, .int .i64 0]) ∧ New w w' := by
  have := Price_c (some ⟨g, 0, none⟩) (some ⟨pb, 0, none⟩) 4 4 2 pc palT palP w (by omega) (by omega) rfl (fun _ => ⟨_, _, rfl, hT⟩) rfl (fun _ => ⟨_, _, rfl, hP⟩)
  rw [pal_pri.1, pal_pri.2, pal_rcp] at this
  exact this

end Go.Proofs.Ytpjekinmcdglbaa
end

section
set_option linter.unusedSimpArgs false
set_option linter.unusedVariables false
set_option maxRecDepth 100000
namespace Go.Proofs.Ytpjekinmcdglbaa
open Go.RowKit

theorem prts_new {V : World} {t : TypeId} {B n : Nat} {x : List (Int × Int)} (hn : x.length = n) (hB : B = V.heap.size) : Prts (V.alloc (.cells (partCells x).toArray t)) B 0 n x := by
  subst hB
  refine ⟨hn, by simp, fun i hi => ?_⟩
  have h := partCells_at x i (by omega)
  have hh : (V.alloc (.cells (partCells x).toArray t)).heap[V.heap.size]? = some (.cells (partCells x).toArray t) := heap_alloc_new _ _
  generalize V.alloc (.cells (partCells x).toArray t) = Z at *
  rw [Nat.zero_add]
  exact ⟨by simp [World.cell?, hh, h.1], by simp [World.cell?, hh, h.2]⟩
def rA : List (Int × Int) := [(0, 3), (1, 1), (2, 1)]
theorem same_A : sameB rA rA 3 3 = true := by decide +kernel
theorem same_B : sameB [(3, 1)] [(3, 1)] 1 1 = true := by decide +kernel

set_option maxHeartbeats 16000000 in
theorem mixed_c (w : World) : Calls Try.prog 10 #[] w fun en w' => en = .returned (.bool true) ∧ New w w' := by
  go_enter Try.func10, Try.ntmps10
  go_wp2_with fail
  go_at_call 27
  refine (palette_c _).mono ?_
  rintro e w1 ⟨g, rfl, hT, hn1⟩
  have HT := Lib.hid hT
  have HN1 := Lib.hid hn1
  clear hT hn1
  go_wp2_with fail
  go_at_call 15
  refine (pal_reach1 g _ HT.out).mono ?_
  rintro e w2 ⟨hn2, hc⟩
  obtain ⟨x, rest, sv, hL, rfl, hown⟩ := hc.resolve_left (by rintro ⟨h, _⟩; cases h)
  obtain ⟨rfl, rfl⟩ := List.cons.inj hL
  obtain ⟨sa, sc, rfl⟩ := own_slice hown
  obtain ⟨gr, rfl⟩ := own_some hown (by simp)
  have HPR := Lib.hid (show Prts w2 gr 0 3 rA from prts_of_own rfl hown)
  have HN2 := Lib.hid hn2
  clear hn2 hc hL hown
  go_wp2_with fail
  have HRB := Lib.hid (show (w2.alloc (.cells #[.slice (some ⟨gr, 0, none⟩) 3 sc] 25)).heap[w2.heap.size]? = some (.cells #[.slice (some ⟨gr, 0, none⟩) 3 sc] 25 (0, 0)) from heap_alloc_new _ _)
  have HN2a := Lib.hid (HN2.out.alloc (.cells #[.slice (some ⟨gr, 0, none⟩) 3 sc] 25))
  have HPRa := Lib.hid (HPR.out.new ((New.refl w2).alloc (.cells #[.slice (some ⟨gr, 0, none⟩) 3 sc] 25)))
  generalize hRB : w2.heap.size = RB at *
  generalize w2.alloc (.cells #[.slice (some ⟨gr, 0, none⟩) 3 sc] 25) = w2a at *
  go_at_call 15
  refine (pal_reach2 g _ (HT.out.new HN2a.out)).mono ?_
  rintro e w3 ⟨hn3, hc⟩
  obtain rfl := (hc.resolve_right (by rintro ⟨x, rest, _, h, _⟩; cases h)).2
  have HN3 := Lib.hid hn3
  clear hn3 hc
  go_wp2_with fail
  have HN3a := Lib.hid (HN3.out.alloc (.cells #[.slice none 0 0] 25))
  generalize w3.alloc (.cells #[.slice none 0 0] 25) = w3a at *
  go_at_call 21
  refine (pal_cheap g _ (HT.out.new (HN2a.out.trans HN3a.out))).mono ?_
  rintro e w4 ⟨hn4, hc⟩
  obtain ⟨y, sv, m0, m1, m2, m3, md, hy, rfl, hown⟩ := hc.resolve_left (by rintro ⟨h, _⟩; cases h)
  obtain rfl := Option.some.inj hy
  obtain ⟨sa, cc, rfl⟩ := own_slice hown
  obtain ⟨gc, rfl⟩ := own_some hown (by simp)
  have HPC := Lib.hid (show Prts w4 gc 0 1 [(3, 1)] from prts_of_own rfl hown)
  have HN4 := Lib.hid hn4
  clear hn4 hc hy hown
  unfold arr5
  go_wp2_with fail
  obtain ⟨W4, hW4⟩ : ∃ W4, W4 = (w4.alloc (.cells #[.slice (some ⟨gc, 0, none⟩) 1 cc] 25)).alloc (.cells #[.int .i64 m0, .int .i64 m1, .int .i64 m2, .int .i64 m3, .int .i64 md] 49) := ⟨_, rfl⟩
  have HN4b := Lib.hid (show New w4 (W4.alloc (.cells #[.int .i64 0, .int .i64 1, .int .i64 2, .int .i64 2] 64)) by rw [hW4]; exact (((New.refl _).alloc _).alloc _).alloc _)
  have HPQ := Lib.hid (show Prts (W4.alloc (.cells #[.int .i64 0, .int .i64 1, .int .i64 2, .int .i64 2] 64)) (w4.heap.size + 1 + 1) 0 2 palP from prts_new (x := palP) rfl (by rw [hW4]; simp))
  have HCB := Lib.hid (show (W4.alloc (.cells #[.int .i64 0, .int .i64 1, .int .i64 2, .int .i64 2] 64)).heap[w4.heap.size]? = some (.cells #[.slice (some ⟨gc, 0, none⟩) 1 cc] 25 (0, 0)) by
    rw [hW4, Below.heap_alloc _ _ _ (by simp <;> omega), Below.heap_alloc _ _ _ (by simp)]; exact heap_alloc_new _ _)
  rw [← hW4]
  clear hW4
  generalize hCB : w4.heap.size = CB at *
  generalize W4.alloc (.cells #[.int .i64 0, .int .i64 1, .int .i64 2, .int .i64 2] 64) = W4b at *
  go_at_call 11
  refine (pal_Mix g _ _ _ (HT.out.new (HN2a.out.trans (HN3a.out.trans (HN4.out.trans HN4b.out)))) HPQ.out).mono ?_
  rintro e w5 ⟨rfl, hn5⟩
  have HN5 := Lib.hid hn5
  clear hn5
  unfold arr6
  go_wp2_with fail
  obtain ⟨W5, hW5⟩ : ∃ W5, W5 = w5.alloc (.cells #[.int .i64 0, .int .i64 1, .int .i64 20, .int .i64 3, .int .i64 0, .int .i64 1] 30) := ⟨_, rfl⟩
  have HN5b := Lib.hid (show New w5 (W5.alloc (.cells #[.int .i64 0, .int .i64 1, .int .i64 2, .int .i64 2] 64)) by rw [hW5]; exact ((New.refl _).alloc _).alloc _)
  have HPQ2 := Lib.hid (show Prts (W5.alloc (.cells #[.int .i64 0, .int .i64 1, .int .i64 2, .int .i64 2] 64)) (w5.heap.size + 1) 0 2 palP from prts_new (x := palP) rfl (by rw [hW5]; simp))
  have HSB := Lib.hid (show (W5.alloc (.cells #[.int .i64 0, .int .i64 1, .int .i64 2, .int .i64 2] 64)).heap[w5.heap.size]? = some (.cells (arr6 0 1 20 3 0 1) 30 (0, 0)) by
    rw [hW5, Below.heap_alloc _ _ _ (by simp)]; exact heap_alloc_new _ _)
  rw [← hW5]
  clear hW5
  generalize hSB : w5.heap.size = SB at *
  generalize W5.alloc (.cells #[.int .i64 0, .int .i64 1, .int .i64 2, .int .i64 2] 64) = W5b at *
  go_at_call 13
  refine (pal_Price g _ _ _ (HT.out.new (HN2a.out.trans (HN3a.out.trans (HN4.out.trans (HN4b.out.trans (HN5.out.trans HN5b.out)))))) HPQ2.out).mono ?_
  rintro e w6 ⟨rfl, hn6⟩
  have HN6 := Lib.hid hn6
  clear hn6
  go_upto_region 10 with fail
  obtain ⟨W6, hW6⟩ : ∃ W6, W6 = ((w6.alloc (.cells #[.int .i64 16, .int .i64 3] 29)).alloc (.cells #[.int .i64 0, .int .i64 3, .int .i64 1, .int .i64 1, .int .i64 2, .int .i64 1] 64)).alloc (.cells #[.slice (some ⟨w6.heap.size + 1, 0, none⟩) 3 3] 25) := ⟨_, rfl⟩
  have HN6b := Lib.hid (show New w6 W6 by rw [hW6]; exact (((New.refl _).alloc _).alloc _).alloc _)
  have HPW := Lib.hid (show Prts W6 (w6.heap.size + 1) 0 3 rA by
    rw [hW6]
    exact (prts_new (V := w6.alloc (.cells #[.int .i64 16, .int .i64 3] 29)) (t := 64) (x := rA) rfl (by simp)).new ((New.refl _).alloc _))
  have HWB := Lib.hid (show W6.heap[w6.heap.size + 1 + 1]? = some (.cells #[.slice (some ⟨w6.heap.size + 1, 0, none⟩) 3 3] 25 (0, 0)) by
    have := heap_alloc_new ((w6.alloc (.cells #[.int .i64 16, .int .i64 3] 29)).alloc (.cells #[.int .i64 0, .int .i64 3, .int .i64 1, .int .i64 1, .int .i64 2, .int .i64 1] 64)) (.cells #[.slice (some ⟨w6.heap.size + 1, 0, none⟩) 3 3] 25)
    rw [← hW6] at this
    simp only [World.size_alloc] at this
    exact this)
  have HPX := Lib.hid (show W6.heap[w6.heap.size]? = some (.cells #[.int .i64 16, .int .i64 3] 29 (0, 0)) by
    rw [hW6, Below.heap_alloc _ _ _ (by simp <;> omega), Below.heap_alloc _ _ _ (by simp)]; exact heap_alloc_new _ _)
  rw [← hW6]
  clear hW6
  have HA6 := Lib.hid (show New w2a W6 from HN3a.out.trans (HN4.out.trans (HN4b.out.trans (HN5.out.trans (HN5b.out.trans (HN6.out.trans HN6b.out))))))
  have HB6 := Lib.hid (show New W4b W6 from HN5.out.trans (HN5b.out.trans (HN6.out.trans HN6b.out)))
  have HC6 := Lib.hid (show New W5b W6 from HN6.out.trans HN6b.out)
  have hr := (HA6.out.below.block _ (Array.getElem?_eq_some_iff.1 HRB.out).1).trans HRB.out
  have cr := (box_cell hr).1
  have cw := (box_cell HWB.out).1
  clear hr
  go_wp2_with fail
  go_at_call 18
  refine (sameRecipe_c _ _ 3 _ 3 _ rA rA _ (by omega) (by omega) (fun _ => ⟨_, _, rfl, HPRa.out.new HA6.out⟩) (fun _ => ⟨_, _, rfl, HPW.out⟩)).mono ?_
  rintro e w7 ⟨rfl, hn7⟩
  rw [same_A]
  have HN7 := Lib.hid hn7
  have hcb := ((HB6.out.trans hn7).below.block _ (Array.getElem?_eq_some_iff.1 HCB.out).1).trans HCB.out
  have cc' := (box_cell hcb).1
  have hcl := (Array.getElem?_eq_some_iff.1 hcb).1
  clear hn7 cr cw hcb
  go_wp2_with fail
  go_at_call 18
  refine (sameRecipe_c _ _ 1 _ 1 _ [(3, 1)] [(3, 1)] _ (by omega) (by omega) (fun _ => ⟨_, _, rfl, (HPC.out.new (HN4b.out.trans (HB6.out.trans HN7.out))).new ((New.refl _).alloc _)⟩) (fun _ => ⟨_, _, rfl, prts_new (V := w7) (t := 64) (x := [(3, 1)]) rfl rfl⟩)).mono ?_
  rintro e w8 ⟨rfl, hn8⟩
  rw [same_B]
  have hn68 := HN7.out.trans (((New.refl w7).alloc _).trans hn8)
  have hs := ((HC6.out.trans hn68).below.block _ (Array.getElem?_eq_some_iff.1 HSB.out).1).trans HSB.out
  have hp := (hn68.below.block _ (Array.getElem?_eq_some_iff.1 HPX.out).1).trans HPX.out
  obtain ⟨⟨s0, s1, s2⟩, s3, s4, s5⟩ := arr6_cells hs
  have p0 : w8.cell? ⟨w6.heap.size, 0, none⟩ = some (.int .i64 16) := by simp [World.cell?, hp]
  have p1 : w8.cell? ⟨w6.heap.size, 1, none⟩ = some (.int .i64 3) := by simp [World.cell?, hp]
  have HNF := Lib.hid (HN1.out.trans (HN2a.out.trans (HA6.out.trans hn68)))
  have q1 := eql_fr3 0 1 20 3 0 1
  have q2 := eql_frac 16 3 16 3
  clear hs hp hn8 hn68 cc'
  go_wp2_with fail
  all_goals (go_ret; exact ⟨rfl, HNF.out⟩)

end Go.Proofs.Ytpjekinmcdglbaa
end
