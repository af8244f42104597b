/- What slices.SortFunc leaves of points under comparePoints: they are sorted. -/
import Derived.Test.YtpdfbboagaflhaaGreatM26
import Derived.Test.YtpdfbboagaflhaaGreatM23
import Derived.Ground.SlsfProg
import Derived.Ground.NamesProg
import Derived.Test.YtpdfbboagaflhaaGreatM03

namespace Go.Proofs.YtpdfbboagaflhaaGreat
open Go.RowKit Go.Shelf Go.Lib Go.Sort


def encP (x : P2) : List Value := [.int .i64 x.1, .int .i64 x.2]
theorem encP_len (x : P2) : (encP x).length = 2 := rfl
theorem encP_one (x : P2) : ∀ v ∈ encP x, v.oneCell' = true := by intro v hv; simp [encP] at hv; rcases hv with rfl | rfl <;> rfl
theorem ptCells_enc (l : List P2) : ptCells l = l.flatMap encP := rfl
def cfP (x y : P2) : Int := orI (cmpI x.1 y.1) (cmpI x.2 y.2)
def lessP (x y : P2) : Bool := decide (x.1 < y.1 ∨ (x.1 = y.1 ∧ x.2 < y.2))
theorem cfP_lt (x y : P2) : ltOf cfP x y = lessP x y := by
  unfold ltOf cfP lessP orI cmpI
  by_cases h1 : x.1 < y.1
  · simp [h1]
  · by_cases h2 : y.1 < x.1
    · have h3 : ¬ x.1 = y.1 := by omega
      simp [h1, h2, h3]
    · have h3 : x.1 = y.1 := by omega
      by_cases h4 : x.2 < y.2
      · simp [h3, h4]
      · by_cases h5 : y.2 < x.2
        · simp [h3, h4, h5]
        · simp [h3, h4, h5]
theorem ltOf_cfP_eq : ltOf cfP = lessP := by funext x y; exact cfP_lt x y
theorem swoP : SWO (ltOf cfP) := by
  rw [ltOf_cfP_eq]
  refine ⟨fun x => ?_, fun x y z h1 h2 => ?_, fun x y z h1 h2 => ?_⟩
  · simp [lessP]
  · simp only [lessP, decide_eq_true_eq] at *; omega
  · simp only [lessP, decide_eq_false_iff_not] at *; omega
theorem totP (x y : P2) (h1 : ltOf cfP x y = false) (h2 : ltOf cfP y x = false) : x = y := by
  rw [ltOf_cfP_eq] at h1 h2
  simp only [lessP, decide_eq_false_iff_not] at h1 h2
  exact Prod.ext (by omega) (by omega)
def sortP (l : List P2) : List P2 := l.mergeSort fun x y => !(ltOf cfP) y x
theorem sortP_length (l : List P2) : (sortP l).length = l.length := List.length_mergeSort l

set_option maxHeartbeats 1000000 in
theorem sortP_c (base g n cap : Nat) (l : List P2) (w : World) (hl : n ≤ 1000000) (hn : l.length = n) (ho : w.ownsRow base 23 2 (.slice (some ⟨g, 0, none⟩) n cap) n (ptCells l)) :
    Calls Tryz.prog 124 #[.slice (some ⟨g, 0, none⟩) n cap, .func (.func 125) #[] #[]] w fun en w' => en = .returned (.tuple #[]) ∧ w'.ownsRow base 23 2 (.slice (some ⟨g, 0, none⟩) n cap) n (ptCells (sortP l)) ∧ w.grownBy w' (some g) := by
  have eg : ∀ args w, (callFunc 125 args).run Tryz.prog w = .ok (.enter 125 args) w := enters_of Tryz.func125 (by kernel_rfl) rfl
  have hcon := AnyQ.slices_SortFunc_total Tryz.sortPt 2 (fun _ => by kernel_rfl) (fun _ => by kernel_rfl) encP encP_len encP_one cfP swoP 125 #[] g 0 cap l.toArray w eg (fun _ _ _ _ x y => (comparePoints_d x.1 x.2 y.1 y.2 _).mono fun _ _ ⟨he, hd⟩ => ⟨he, hd.grow⟩) (own_holdsK encP_len (by omega) ho) (ho.lt g rfl).2 (by simp; omega) totP
  change Calls Tryz.prog 124 _ _ _ at hcon
  rw [List.size_toArray, hn] at hcon
  refine hcon.mono fun e w' ⟨he, m, os, hw⟩ => ⟨he, ?_⟩
  rw [hw]
  have := own_sorted (enc := encP) encP_len (by omega) ho (sortP l).toArray (by rw [List.size_toArray, sortP_length, hn]) m os
  exact this

end Go.Proofs.YtpdfbboagaflhaaGreat
