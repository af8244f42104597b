/- Words for what Sweep makes of any segments: the segments of a strip by their heights; heights and their sort where there is none. -/
import Derived.Test.YtpdfbboagaflhaaGreatM51
import Derived.LoopTactic

set_option linter.unusedSimpArgs false
set_option linter.unusedVariables false
namespace Go.Proofs.YtpdfbboagaflhaaGreat
open Go.RowKit Go.Shelf Go.Lib Go.Sort

/-- heights that can be compared, no two of them equal -/
structure Pile (L : List H3) : Prop where
  ok : ∀ h ∈ L, hOk h
  pos : ∀ h ∈ L, 0 < h.2.1
  tot : ∀ h ∈ L, ∀ k ∈ L, h.1 * k.2.1 = k.1 * h.2.1 → h = k
abbrev PB (L : List H3) := { h : H3 // h ∈ L }
section
variable {L : List H3}
def encQ (x : PB L) : List Value := [.int .i64 x.1.1, .int .i64 x.1.2.1, .int .i64 x.1.2.2]
theorem encQ_len (x : PB L) : (encQ x).length = 3 := rfl
theorem encQ_one (x : PB L) : ∀ v ∈ encQ x, v.oneCell' = true := by intro v hv; simp [encQ] at hv; rcases hv with rfl | rfl | rfl <;> rfl
theorem htCells_encQ (l : List (PB L)) : htCells (l.map Subtype.val) = l.flatMap encQ := by
  induction l with
  | nil => rfl
  | cons s l ih => rw [List.map_cons, List.flatMap_cons, ← ih]; simp [htCells, encQ]
def ltQ (h k : H3) : Bool := decide (h.1 * k.2.1 < k.1 * h.2.1)
def cfQ (x y : PB L) : Int := cmpR x.1.1 x.1.2.1 y.1.1 y.1.2.1
theorem ltOf_cfQ (x y : PB L) : ltOf cfQ x y = ltQ x.1 y.1 := by
  unfold ltOf cfQ cmpR cmpI ltQ
  by_cases h1 : x.1.1 * y.1.2.1 < y.1.1 * x.1.2.1
  · simp [h1]
  · by_cases h2 : y.1.1 * x.1.2.1 < x.1.1 * y.1.2.1
    · simp [h1, h2]
    · simp [h1, h2]
theorem fr_trans {a b c d e f : Int} (hb : 0 < b) (hd : 0 < d) (hf : 0 < f) (h1 : a * d ≤ c * b) (h2 : c * f ≤ e * d) : a * f ≤ e * b ∧ (a * d < c * b ∨ c * f < e * d → a * f < e * b) := by
  have k1 : d * (e * b - a * f) = b * (e * d - c * f) + f * (c * b - a * d) := by grind
  have p1 := Int.mul_nonneg (Int.le_of_lt hb) (show 0 ≤ e * d - c * f by omega)
  have p2 := Int.mul_nonneg (Int.le_of_lt hf) (show 0 ≤ c * b - a * d by omega)
  constructor
  · rcases Int.lt_or_le (e * b) (a * f) with g | g
    · have := Int.mul_neg_of_pos_of_neg hd (show e * b - a * f < 0 by omega); omega
    · exact g
  · intro h
    have p3 : 0 < d * (e * b - a * f) := by
      rcases h with h | h
      · have := Int.mul_pos hf (show 0 < c * b - a * d by omega); omega
      · have := Int.mul_pos hb (show 0 < e * d - c * f by omega); omega
    rcases Int.lt_or_le (a * f) (e * b) with g | g
    · exact g
    · have := Int.mul_nonneg (Int.le_of_lt hd) (show 0 ≤ a * f - e * b by omega)
      have e : d * (a * f - e * b) = - (d * (e * b - a * f)) := by grind
      omega
theorem swoQ (hL : Pile L) : SWO (ltOf (cfQ : PB L → PB L → Int)) := by
  refine ⟨fun x => ?_, fun x y z h1 h2 => ?_, fun x y z h1 h2 => ?_⟩
  · rw [ltOf_cfQ]; simp [ltQ]
  · rw [ltOf_cfQ] at *
    simp only [ltQ, decide_eq_true_eq] at *
    exact (fr_trans (hL.pos _ x.2) (hL.pos _ y.2) (hL.pos _ z.2) (Int.le_of_lt h1) (Int.le_of_lt h2)).2 (.inl h1)
  · rw [ltOf_cfQ] at *
    simp only [ltQ, decide_eq_false_iff_not] at *
    have := (fr_trans (hL.pos _ z.2) (hL.pos _ y.2) (hL.pos _ x.2) (show z.1.1 * y.1.2.1 ≤ y.1.1 * z.1.2.1 by omega) (show y.1.1 * x.1.2.1 ≤ x.1.1 * y.1.2.1 by omega)).1
    omega
theorem totQ (hL : Pile L) (x y : PB L) (h1 : ltOf cfQ x y = false) (h2 : ltOf cfQ y x = false) : x = y := by
  rw [ltOf_cfQ] at *
  simp only [ltQ, decide_eq_false_iff_not] at h1 h2
  exact Subtype.ext (hL.tot _ x.2 _ y.2 (by omega))
end
def sortQ (L : List H3) : List H3 := L.mergeSort fun x y => !ltQ y x
theorem sortQ_length (L : List H3) : (sortQ L).length = L.length := List.length_mergeSort L
theorem sortQ_attach (L : List H3) : ((L.attach.mergeSort fun x y => !(ltOf cfQ) y x).map Subtype.val) = sortQ L := by
  rw [List.map_mergeSort (s := fun x y => !ltQ y x) (fun a _ b _ => by rw [ltOf_cfQ]), List.attach_map_subtype_val]; rfl

set_option maxHeartbeats 1000000 in
theorem sortQ_c (base g n cap : Nat) (L : List H3) (w : World) (h0 : 0 < n) (hl : n ≤ 1000000) (hn : L.length = n) (hL : Pile L) (ho : w.ownsRow base 142 3 (.slice (some ⟨g, 0, none⟩) n cap) n (htCells L)) :
    Calls Tryz.prog 145 #[.slice (some ⟨g, 0, none⟩) n cap, .func (.func 146) #[] #[]] w fun en w' => en = .returned (.tuple #[]) ∧ w'.ownsRow base 142 3 (.slice (some ⟨g, 0, none⟩) n cap) n (htCells (sortQ L)) ∧ w.grownBy w' (some g) := by
  have hat : L.attach.map Subtype.val = L := List.attach_map_subtype_val L
  have hal : L.attach.length = n := by rw [List.length_attach, hn]
  have ho2 := ho
  rw [← hat, htCells_encQ] at ho2
  haveI : Inhabited (PB L) := ⟨⟨L[0]'(by omega), List.getElem_mem _⟩⟩
  have eg : ∀ args w, (callFunc 146 args).run Tryz.prog w = .ok (.enter 146 args) w := enters_of Tryz.func146 (by kernel_rfl) rfl
  have hcon := AnyQ.slices_SortFunc_total Tryz.sortHt 3 (fun _ => by kernel_rfl) (fun _ => by kernel_rfl) encQ encQ_len encQ_one cfQ (swoQ hL) 146 #[] g 0 cap L.attach.toArray w eg (fun _ _ _ _ x y => (lessHeight_d x.1.1 x.1.2.1 x.1.2.2 y.1.1 y.1.2.1 y.1.2.2 _ (hL.ok _ x.2).1 (hL.ok _ x.2).2 (hL.ok _ y.2).1 (hL.ok _ y.2).2).mono fun _ _ ⟨he, hd⟩ => ⟨he, hd.grow⟩) (own_holdsK encQ_len (by omega) ho2) (ho.lt g rfl).2 (by simp; omega) (totQ hL)
  change Calls Tryz.prog 145 _ _ _ at hcon
  rw [List.size_toArray, hal] at hcon
  refine hcon.mono fun e w' ⟨he, m, os, hw⟩ => ⟨he, ?_⟩
  rw [hw, ← sortQ_attach L, htCells_encQ]
  have := own_sorted (enc := encQ) encQ_len (by omega) ho2 (L.attach.mergeSort fun x y => !(ltOf cfQ) y x).toArray (by rw [List.size_toArray, List.length_mergeSort, hal]) m os
  exact this

end Go.Proofs.YtpdfbboagaflhaaGreat

set_option linter.unusedSimpArgs false
set_option linter.unusedVariables false
namespace Go.Proofs.YtpdfbboagaflhaaGreat
open Go.RowKit Go.Shelf

def pileQ (l : List S4) (k : Nat) : List H3 := sortQ (pileL l k)
def segsQ (l : List S4) (k : Nat) : List Int := (pileQ l k).map fun h => h.2.2
theorem pileQ_length (l : List S4) (k : Nat) : (pileQ l k).length = (spanI l k).length := by unfold pileQ; rw [sortQ_length, pileL_length]
theorem segsQ_length (l : List S4) (k : Nat) : (segsQ l k).length = (spanI l k).length := by unfold segsQ; rw [List.length_map, pileQ_length]
theorem segsQ_at (l : List S4) (k j : Nat) (h : j < (spanI l k).length) : h3 (pileQ l k) j = (segsQ l k).getD j 0 := by
  have hl := pileQ_length l k
  simp [h3, segsQ, List.getD_eq_getElem?_getD, show j < (pileQ l k).length by omega]
theorem sortQ_nil (ap : Option Addr) (cp : Nat) (w : World) : Calls Tryz.prog 145 #[.slice ap 0 cp, .func (.func 146) #[] #[]] w fun e w' => e = .returned (.tuple #[]) ∧ w' = w := by
  have h := AnyF.slices_SortFunc_none Tryz.sortHt ap cp (.func (.func 146) #[] #[]) w
  exact h
set_option maxRecDepth 20000 in
set_option maxHeartbeats 4000000 in
theorem heights_nil (A av : Option Addr) (n c c2 : Nat) (x : Int) (w : World) :
    Calls Tryz.prog 144 #[.slice A n c, .slice av 0 c2, .int .i64 x] w fun en w' => ∃ g cp, en = .returned (.slice (some ⟨g, 0, none⟩) 0 cp) ∧ New w w' := by
  obtain ⟨i0, hi, hz0, hz1, hz2⟩ := info_parts info142
  have hmk : ∀ w : World, (Instr.makeSlice 138 (.int .i64 0) (.int .i64 0)).run Tryz.prog w = .ok (.slice (some ⟨w.heap.size, 0, none⟩) 0 0) (w.alloc (.cells (madeCells (.agg #[.int .i64 0, .int .i64 0, .int .i64 0] : Value).cells (0 * 3)) 142)) := by
    intro w
    have := run_make (P := Tryz.prog) w 138 142 i0 _ Tryz.underlying138 hi hz0 .i64 .i64 0 0 (by omega) (by omega) (by rw [hz2]; omega) (by omega)
    rw [hz1] at this
    simpa using this
  go_enter Tryz.func144, Tryz.ntmps144
  go_wp2_with fail
  go_loopw [7, 15] (fun v i wr => (i = .int .i64 0 ∧ v = .slice (some ⟨w.heap.size, 0, none⟩) 0 0) ∧ wr = (w.alloc (.cells (madeCells (.agg #[.int .i64 0, .int .i64 0, .int .i64 0] : Value).cells (0 * 3)) 142))) (fun _ _ _ => 0)
  case atStart => exact ⟨⟨rfl, rfl⟩, rfl⟩
  case round =>
    obtain ⟨⟨rfl, rfl⟩, rfl⟩ := hrel
    go_wp2_with fail
    go_ret
    exact ⟨_, _, rfl, (New.refl _).alloc _⟩

end Go.Proofs.YtpdfbboagaflhaaGreat
