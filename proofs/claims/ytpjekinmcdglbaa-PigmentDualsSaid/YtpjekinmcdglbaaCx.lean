/- The chapter's palette: its facts, and Reach, Cheapest, Mix, Price at it. -/
import Derived.Test.YtpjekinmcdglbaaCw
import Derived.Test.YtpjekinmcdglbaaCt
import Derived.Test.YtpjekinmcdglbaaCn
set_option linter.unusedSimpArgs false
set_option linter.unusedVariables false
set_option maxRecDepth 100000
namespace Go.Proofs.Ytpjekinmcdglbaa
open Go.RowKit

theorem pal_len : palT.length = 4 := rfl
theorem pal_chk : chkE palT 4 = 0 := by decide +kernel
theorem pal_tn : tnOk palT := (chkE_zero pal_len pal_chk).2
theorem pal_sh : shOk palT := fun p => ⟨(pal_tn p).1.1, (pal_tn p).1.2, (pal_tn p).2.1⟩
theorem pal_r1 : rcpL palT 4 2 2 0 = [[(0, 3), (1, 1), (2, 1)], [(0, 2), (2, 1), (3, 2)]] := by decide +kernel
theorem pal_r2 : rcpL palT 4 0 0 1 = [] := by decide +kernel
theorem pal_r3 : rcpL palT 4 5 0 0 = [[(3, 1)], [(0, 1), (1, 1)]] := by decide +kernel
theorem pal_best : bestTo palT (rcpL palT 4 5 0 0) = some [(3, 1)] := by decide +kernel
def palP : List (Int × Int) := [(0, 1), (2, 2)]
theorem pal_rcp : rcpE palT palP 4 = 0 := by decide +kernel
theorem pal_mix : mixV palT palP 4 2 = .agg (arr6 0 1 20 3 0 1) := by
  have h : (mixQ palT palP 4 2 (tA palT), mixR palT palP 4 2 (tA palT), mixQ palT palP 4 2 (tB palT), mixR palT palP 4 2 (tB palT), mixQ palT palP 4 2 (tC palT), mixR palT palP 4 2 (tC palT)) = (0, 1, 20, 3, 0, 1) := by decide +kernel
  simp only [Prod.mk.injEq] at h
  obtain ⟨h1, h2, h3, h4, h5, h6⟩ := h
  unfold mixV
  rw [h1, h2, h3, h4, h5, h6]
theorem pal_pri : priA palT palP 4 2 = 16 ∧ priB palT palP 4 2 = 3 := by decide +kernel
theorem pal_small : ∀ x, x ∈ rcpL palT 4 5 0 0 → smallR x 4 := by
  rw [pal_r3]
  intro x hx
  simp only [List.mem_cons, List.not_mem_nil, or_false] at hx
  rcases hx with rfl | rfl
  · refine ⟨by decide, fun i hi => ?_⟩
    have : i = 0 := by simp at hi; omega
    subst this; decide
  · refine ⟨by decide, fun i hi => ?_⟩
    have : i = 0 ∨ i = 1 := by simp at hi; omega
    rcases this with rfl | rfl <;> decide

theorem pal_reach1 (g : Nat) (w : World) (hT : Tnts w g 0 4 palT) : Calls Try.prog 15 #[.slice (some ⟨g, 0, none⟩) 4 4, vv 2 2 0] w (ReR w [[(0, 3), (1, 1), (2, 1)], [(0, 2), (2, 1), (3, 2)]]) := by
  have := reach_ok g 0 4 4 2 2 0 palT w hT pal_sh (by omega) (by omega) (by omega) (by omega) (fun w1 h1 => (checkWanted_c (some ⟨g, 0, none⟩) 4 4 palT 2 2 0 w1 (by omega) (fun _ => ⟨g, 0, rfl, hT.new h1⟩)).mono (fun e w' h => by rw [show wntE palT 2 2 0 4 = 0 by decide +kernel] at h; exact h))
  rw [pal_r1] at this
  exact this
theorem pal_reach2 (g : Nat) (w : World) (hT : Tnts w g 0 4 palT) : Calls Try.prog 15 #[.slice (some ⟨g, 0, none⟩) 4 4, vv 0 0 1] w (ReR w []) := by
  have := reach_ok g 0 4 4 0 0 1 palT w hT pal_sh (by omega) (by omega) (by omega) (by omega) (fun w1 h1 => (checkWanted_c (some ⟨g, 0, none⟩) 4 4 palT 0 0 1 w1 (by omega) (fun _ => ⟨g, 0, rfl, hT.new h1⟩)).mono (fun e w' h => by rw [show wntE palT 0 0 1 4 = 0 by decide +kernel] at h; exact h))
  rw [pal_r2] at this
  exact this
theorem pal_cheap (g : Nat) (w : World) (hT : Tnts w g 0 4 palT) : Calls Try.prog 21 #[.slice (some ⟨g, 0, none⟩) 4 4, vv 5 0 0] w (ChR w (some [(3, 1)])) := by
  have := cheap_ok g 0 4 4 5 0 0 palT w hT pal_sh pal_tn (by omega) (by omega) (by omega) (by omega) pal_small (fun w1 h1 => (checkWanted_c (some ⟨g, 0, none⟩) 4 4 palT 5 0 0 w1 (by omega) (fun _ => ⟨g, 0, rfl, hT.new h1⟩)).mono (fun e w' h => by rw [show wntE palT 5 0 0 4 = 0 by decide +kernel] at h; exact h))
    (fun w1 lx ly h1 => dualOf_c g 0 4 4 5 0 0 lx ly palT w1 (hT.new h1) pal_sh pal_tn (by omega) (by omega) (by omega) (by omega))
  rw [pal_best] at this
  exact this
theorem pal_Mix (g pb pc : Nat) (w : World) (hT : Tnts w g 0 4 palT) (hP : Prts w pb 0 2 palP) : Calls Try.prog 11 #[.slice (some ⟨g, 0, none⟩) 4 4, .agg #[.slice (some ⟨pb, 0, none⟩) 2 pc]] w fun en w' => en = .returned (.tuple #[.agg (arr6 0 1 20 3 0 1), .int .i64 0]) ∧ New w w' := by
  have := Mix_c (some ⟨g, 0, none⟩) (some ⟨pb, 0, none⟩) 4 4 2 pc palT palP w (by omega) (by omega) rfl (fun _ => ⟨_, _, rfl, hT⟩) rfl (fun _ => ⟨_, _, rfl, hP⟩)
  rw [pal_mix, pal_rcp] at this
  exact this
theorem pal_Price (g pb pc : Nat) (w : World) (hT : Tnts w g 0 4 palT) (hP : Prts w pb 0 2 palP) : Calls Try.prog 13 #[.slice (some ⟨g, 0, none⟩) 4 4, .agg #[.slice (some ⟨pb, 0, none⟩) 2 pc]] w fun en w' => en = .returned (.tuple #[fv 16 3, .int .i64 0]) ∧ New w w' := by
  have := Price_c (some ⟨g, 0, none⟩) (some ⟨pb, 0, none⟩) 4 4 2 pc palT palP w (by omega) (by omega) rfl (fun _ => ⟨_, _, rfl, hT⟩) rfl (fun _ => ⟨_, _, rfl, hP⟩)
  rw [pal_pri.1, pal_pri.2, pal_rcp] at this
  exact this

end Go.Proofs.Ytpjekinmcdglbaa
