/- What slices.SortFunc leaves of at most 12 heights. -/
import Derived.Test.YtpdfbboagaflhaaGreatM31
import Derived.Test.YtpdfbboagaflhaaGreatM27
import Derived.Test.YtpdfbboagaflhaaGreatM16
import Derived.Shelf.SlSortCmp.SmallK
import Derived.Shelf.Small.Bits
import Derived.Test.YtpdfbboagaflhaaGreatM03

namespace Go.Proofs.YtpdfbboagaflhaaGreat
open Go.RowKit Go.Shelf Go.Lib Go.Sort

set_option maxHeartbeats 1000000 in
theorem rcompare_d (n1 d1 n2 d2 : Int) (w : World) (h1 : -600000000 ≤ n1 ∧ n1 ≤ 600000000) (h2 : -20000 ≤ d1 ∧ d1 ≤ 20000) (h3 : -600000000 ≤ n2 ∧ n2 ≤ 600000000) (h4 : -20000 ≤ d2 ∧ d2 ≤ 20000) :
    Calls Tryz.prog 100 #[pv n1 d1, pv n2 d2] w fun e w' => e = .returned (.int .i64 (cmpR n1 d1 n2 d2)) ∧ NewD w w' := by
  have m1 := mul_bd n1 d2 600000000 20000 (by omega) (by omega) (by omega) (by omega)
  have m2 := mul_bd n2 d1 600000000 20000 (by omega) (by omega) (by omega) (by omega)
  simp only [Int.reduceMul, Int.reduceNeg] at m1 m2
  go_enter Tryz.func100, Tryz.ntmps100
  go_wp2_with (go_at_call 163; refine (compare_d _ _ _).mono ?_; rintro e w1 ⟨rfl, pw, rfl, hd⟩)
  go_ret; refine ⟨rfl, newD_of ?_ ?_⟩; (repeat (first | exact New.refl _ | apply New.alloc | apply New.aft | apply New.drew | refine New.setCell ?_ ?_ _)); all_goals (first | done | (simp [size_aft]; done) | (simp [size_aft]; omega) | (simp only [drawn_aft, drawn_alloc] at *; omega))

set_option maxHeartbeats 1000000 in
theorem lessHeight_d (n1 d1 s1 n2 d2 s2 : Int) (w : World) (h1 : -600000000 ≤ n1 ∧ n1 ≤ 600000000) (h2 : -20000 ≤ d1 ∧ d1 ≤ 20000) (h3 : -600000000 ≤ n2 ∧ n2 ≤ 600000000) (h4 : -20000 ≤ d2 ∧ d2 ≤ 20000) :
    Calls Tryz.prog 146 #[.agg #[.int .i64 n1, .int .i64 d1, .int .i64 s1], .agg #[.int .i64 n2, .int .i64 d2, .int .i64 s2]] w fun e w' => e = .returned (.int .i64 (cmpR n1 d1 n2 d2)) ∧ NewD w w' := by
  go_enter Tryz.func146, Tryz.ntmps146
  go_wp2_with (go_at_call 100; refine (rcompare_d _ _ _ _ _ h1 h2 h3 h4).mono ?_; rintro e w1 ⟨rfl, pw, rfl, hd⟩)
  go_ret; refine ⟨rfl, newD_of ?_ ?_⟩; (repeat (first | exact New.refl _ | apply New.alloc | apply New.aft | apply New.drew | refine New.setCell ?_ ?_ _)); all_goals (first | done | (simp [size_aft]; done) | (simp [size_aft]; omega) | (simp only [drawn_aft, drawn_alloc] at *; omega))

def hOk (h : H3) : Prop := (-600000000 ≤ h.1 ∧ h.1 ≤ 600000000) ∧ (-20000 ≤ h.2.1 ∧ h.2.1 ≤ 20000)
/-- a height whose numbers are small enough to be compared -/
abbrev HB := { h : H3 // hOk h }
instance : Inhabited HB := ⟨⟨(0, 0, 0), by simp [hOk]⟩⟩
def encH (x : HB) : List Value := [.int .i64 x.1.1, .int .i64 x.1.2.1, .int .i64 x.1.2.2]
theorem encH_len (x : HB) : (encH x).length = 3 := rfl
theorem encH_one (x : HB) : ∀ v ∈ encH x, v.oneCell' = true := by intro v hv; simp [encH] at hv; rcases hv with rfl | rfl | rfl <;> rfl
theorem htCells_enc (l : List HB) : htCells (l.map Subtype.val) = l.flatMap encH := by
  induction l with
  | nil => rfl
  | cons s l ih => rw [List.map_cons, List.flatMap_cons, ← ih]; simp [htCells, encH]
def cfH (x y : HB) : Int := cmpR x.1.1 x.1.2.1 y.1.1 y.1.2.1
def sortH (l : List HB) : List HB := (Go.Sort.insertionSort (ltOf cfH) l.toArray 0 l.length).toList


theorem size_swp' {α : Type} [Inhabited α] (d : Array α) (i j : Nat) : (swp d i j).size = d.size := by simp [swp]
theorem size_insInner {α : Type} [Inhabited α] (lt : α → α → Bool) (a : Nat) : ∀ (j : Nat) (d : Array α), (insInner lt a j d).size = d.size
  | 0, d => rfl
  | j + 1, d => by
    simp only [insInner]
    split
    · rw [size_insInner lt a j, size_swp']
    · rfl
theorem size_insOuter {α : Type} [Inhabited α] (lt : α → α → Bool) (a b : Nat) : ∀ (m i : Nat) (d : Array α), b - i ≤ m → (insOuter lt a b i d).size = d.size
  | 0, i, d, h => by rw [insOuter, if_neg (by omega)]
  | m + 1, i, d, h => by
    rw [insOuter]
    split
    · rw [size_insOuter lt a b m (i + 1) _ (by omega), size_insInner]
    · rfl

theorem hlenH (n : Nat) (W : World) (h : n ≤ 12) : Calls Tryz.prog 172 #[.int .u64 n] W fun e w' => (∃ l : Int, e = .returned (.int .i64 l)) ∧ w' = W :=
  (Any.bits_Len Tryz.bitsLen n W (by omega) (by omega)).mono fun _ _ ⟨he, hw⟩ => ⟨⟨_, he⟩, hw⟩

set_option maxHeartbeats 1000000 in
theorem sortH_c (base g n cap : Nat) (l : List HB) (w : World) (hl : n ≤ 12) (hn : l.length = n) (ho : w.ownsRow base 142 3 (.slice (some ⟨g, 0, none⟩) n cap) n (htCells (l.map Subtype.val))) :
    Calls Tryz.prog 145 #[.slice (some ⟨g, 0, none⟩) n cap, .func (.func 146) #[] #[]] w fun en w' => en = .returned (.tuple #[]) ∧ w'.ownsRow base 142 3 (.slice (some ⟨g, 0, none⟩) n cap) n (htCells ((sortH l).map Subtype.val)) ∧ w.grownBy w' (some g) := by
  rw [htCells_enc] at ho
  have eg : ∀ args w, (callFunc 146 args).run Tryz.prog w = .ok (.enter 146 args) w := enters_of Tryz.func146 (by kernel_rfl) rfl
  have hcon := AnyQ.slices_SortFunc_small Tryz.sortHt 3 (fun _ => by kernel_rfl) (fun _ => by kernel_rfl) encH encH_len encH_one cfH 146 #[] g 0 cap l.toArray w eg (fun _ _ _ _ x y => (lessHeight_d x.1.1 x.1.2.1 x.1.2.2 y.1.1 y.1.2.1 y.1.2.2 _ x.2.1 x.2.2 y.2.1 y.2.2).mono fun _ _ ⟨he, hd⟩ => ⟨he, hd.grow⟩) (own_holdsK encH_len (by omega) ho) (ho.lt g rfl).2 (by rw [List.size_toArray, hn]; exact hl) hlenH
  change Calls Tryz.prog 145 _ _ _ at hcon
  rw [List.size_toArray, hn] at hcon
  refine hcon.mono fun e w' ⟨he, m, os, hw⟩ => ⟨he, ?_⟩
  rw [hw, htCells_enc]
  have hs : (Go.Sort.insertionSort (ltOf cfH) l.toArray 0 n).size = n := by
    unfold Go.Sort.insertionSort
    rw [size_insOuter (ltOf cfH) 0 n n _ _ (by omega), List.size_toArray, hn]
  have := own_sorted (enc := encH) encH_len (by omega) ho (Go.Sort.insertionSort (ltOf cfH) l.toArray 0 n) hs m os
  unfold sortH
  rw [hn]
  exact this

end Go.Proofs.YtpdfbboagaflhaaGreat
