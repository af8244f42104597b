/- The segments that reach over a strip, as spanning returns them. At most 1000000 segments. -/
import Derived.Test.YtpdfbboagaflhaaGreatM19
import Derived.Test.YtpdfbboagaflhaaGreatM15
import Derived.Deep.RegionHeld3
import Derived.Deep.RegionWith
import Derived.BigRegion
import Derived.LoopTactic
import Derived.Test.YtpdfbboagaflhaaGreatM21
import Derived.Deep.AppendLies
import Derived.Deep.RegionLaw
import Derived.Test.YtpdfbboagaflhaaGreatM04
import Derived.Laws.AppendOwn
import Derived.Laws.IdiomCopy
import Derived.Lib.SliceRun

namespace Go.Proofs.YtpdfbboagaflhaaGreat
open Go.RowKit

theorem info3 : (Tryz.prog.info? 3).map (fun i => (i.zero, i.size, i.bytes)) = some (some (.int .i64 0), 1, 8) := by kernel_rfl
def inCells (l : List Int) : List Value := l.map fun i => .int .i64 i
theorem inCells_snoc (l : List Int) (a : Int) : inCells (l ++ [a]) = inCells l ++ [.int .i64 a] := by simp [inCells]
def spanAt (l : List S4) (f t : Int) (k : Nat) : Bool := decide (min (q1 l k) (q3 l k) ≤ f) && decide (t ≤ max (q1 l k) (q3 l k))
/-- the numbers of those of the first k segments that reach from f to t -/
def spanTo (l : List S4) (f t : Int) : Nat → List Int
  | 0 => []
  | k + 1 => if spanAt l f t k = true then spanTo l f t k ++ [(k : Int)] else spanTo l f t k
theorem spanTo_le (l : List S4) (f t : Int) : ∀ k, (spanTo l f t k).length ≤ k
  | 0 => by simp [spanTo]
  | k + 1 => by
    have := spanTo_le l f t k
    simp only [spanTo]
    split <;> simp <;> omega

set_option maxRecDepth 100000 in
set_option maxHeartbeats 8000000 in
theorem spanning_c (b off n c : Nat) (l : List S4) (f t : Int) (w : World) (hl : n ≤ 1000000) (hw : Segs w b off n l) :
    Calls Tryz.prog 181 #[.slice (some ⟨b, off, none⟩) n c, .int .i64 f, .int .i64 t] w fun en w' => ∃ v, en = .returned v ∧ w'.ownsRow w.heap.size 3 1 v (spanTo l f t n).length (inCells (spanTo l f t n)) ∧ New w w' := by
  obtain ⟨i0, hi, hz0, hz1, hz2⟩ := info_parts info3
  obtain ⟨hwl, hb, hcell⟩ := hw
  clear hwl
  go_enter Tryz.func181, Tryz.ntmps181
  go_wp2_with fail
  go_loopw [7, 12] (fun v i wr => ∃ k : Nat, k ≤ n ∧ i = .int .i64 k ∧ wr.ownsRow w.heap.size 3 1 v (spanTo l f t k).length (inCells (spanTo l f t k)) ∧ New w wr) (fun _ i _ => n - (intOf i).toNat)
  case atStart => exact ⟨0, Nat.zero_le _, rfl, World.ownsRow_nil _ _ _ _, New.refl _⟩
  case round =>
    obtain ⟨k, hk, rfl, hown, pr, rfl⟩ := hrel
    have HO := Lib.hid hown
    have HLE := spanTo_le l f t k
    clear hown
    by_cases hlt : k < n
    · obtain ⟨c1, c2, c3, c4⟩ := hcell k hlt
      by_cases h1 : min (q1 l k) (q3 l k) ≤ f
      · by_cases h2 : t ≤ max (q1 l k) (q3 l k)
        · have HT := Lib.hid (show spanAt l f t k = true by simp [spanAt, h1, h2])
          go_wp2_with (at_builtin; refine wpList_append_lies _ rfl (.tmp 37) (.tmp 39) 82 rfl w.heap.size 3 i0 _ 1 8 Tryz.underlying82 hi hz0 hz1 hz2 rfl (by omega) u7 (spanTo l f t k).length (inCells (spanTo l f t k)) rfl ?_ _ 1 1 [.int .i64 k] rfl rfl ?_ ?_ (by omega) ?_ ?_ ?_ _ rfl ?_; exact own_new HO.out (by (repeat (first | exact New.refl _ | apply New.alloc | apply New.aft | apply New.drew | refine New.setCell ?_ ?_ _)); all_goals (first | done | (simp [size_aft]; done) | (simp [size_aft]; omega))); (refine cells_new _ _ _ _ ?_); (simp [go_sem]); (intro u hu; simp at hu; rcases hu with rfl <;> rfl); (unfold maxLen; omega); omega; (simp [go_sem, Nat.add_assoc]); intro g cap w2 hown2 hgrow2 hor2 hlt2; have HNW := Lib.hid (show New w w2 from new_grown (by (repeat (first | exact New.refl _ | apply New.alloc | apply New.aft | apply New.drew | refine New.setCell ?_ ?_ _)); all_goals (first | done | (simp [size_aft]; done) | (simp [size_aft]; omega))) hgrow2 HO.out); have HO2 := Lib.hid hown2; clear hown2 hgrow2 hor2 hlt2)
          all_goals (try (exfalso; omega))
          all_goals
            go_roundw
            case rel =>
              have e : spanTo l f t (k + 1) = spanTo l f t k ++ [(k : Int)] := by simp only [spanTo]; rw [if_pos HT.out]
              exact ⟨k + 1, by omega, by go_num, by rw [e, inCells_snoc, List.length_append]; exact HO2.out, HNW.out⟩
            case measure => simp [intOf]; omega
        · have HT := Lib.hid (show ¬ spanAt l f t k = true by simp [spanAt]; intro _; omega)
          go_wp2_with fail
          all_goals (try (exfalso; omega))
          all_goals
            go_roundw
            case rel =>
              have e : spanTo l f t (k + 1) = spanTo l f t k := by simp only [spanTo]; rw [if_neg HT.out]
              exact ⟨k + 1, by omega, by go_num, by rw [e]; exact own_new HO.out (by (repeat (first | exact New.refl _ | apply New.alloc | apply New.aft | apply New.drew | refine New.setCell ?_ ?_ _)); all_goals (first | done | (simp [size_aft]; done) | (simp [size_aft]; omega))), by (repeat (first | exact New.refl _ | apply New.alloc | apply New.aft | apply New.drew | refine New.setCell ?_ ?_ _)); all_goals (first | done | (simp [size_aft]; done) | (simp [size_aft]; omega))⟩
            case measure => simp [intOf]; omega
      · have HT := Lib.hid (show ¬ spanAt l f t k = true by simp [spanAt]; intro h; omega)
        go_wp2_with fail
        all_goals (try (exfalso; omega))
        all_goals
          go_roundw
          case rel =>
            have e : spanTo l f t (k + 1) = spanTo l f t k := by simp only [spanTo]; rw [if_neg HT.out]
            exact ⟨k + 1, by omega, by go_num, by rw [e]; exact own_new HO.out (by (repeat (first | exact New.refl _ | apply New.alloc | apply New.aft | apply New.drew | refine New.setCell ?_ ?_ _)); all_goals (first | done | (simp [size_aft]; done) | (simp [size_aft]; omega))), by (repeat (first | exact New.refl _ | apply New.alloc | apply New.aft | apply New.drew | refine New.setCell ?_ ?_ _)); all_goals (first | done | (simp [size_aft]; done) | (simp [size_aft]; omega))⟩
          case measure => simp [intOf]; omega
    · go_wp2_with fail
      have hkn : k = n := by omega
      go_ret
      have h1 := HO.out
      rw [hkn] at h1
      exact ⟨u7, rfl, h1, by (repeat (first | exact New.refl _ | apply New.alloc | apply New.aft | apply New.drew | refine New.setCell ?_ ?_ _)); all_goals (first | done | (simp [size_aft]; done) | (simp [size_aft]; omega))⟩

end Go.Proofs.YtpdfbboagaflhaaGreat

/- Plain lemmas on slices that a call owns: cut shorter, one cell set, a run of cells set behind what is kept. No condition beyond what each line names. -/
namespace Go.Proofs.YtpdfbboagaflhaaGreat
open Go.RowKit

theorem heap_setCell_same (w : World) (g j : Nat) (u : Value) {cur : Array Value} {e : TypeId} {fr : Nat × Nat} (h : w.heap[g]? = some (.cells cur e fr)) :
    (w.setCell ⟨g, j, none⟩ u).heap[g]? = some (.cells (cur.setIfInBounds j u) e fr) := by
  have hlt := (Array.getElem?_eq_some_iff.1 h).1
  have h' : w.heap[g] = .cells cur e fr := (Array.getElem?_eq_some_iff.1 h).2
  show (w.heap.modify g _)[g]? = _
  rw [Array.getElem?_eq_getElem (by simpa using hlt), Array.getElem_modify_self, h']
  rfl

theorem heap_setCell_other (w : World) (g j k : Nat) (u : Value) (hk : k ≠ g) : (w.setCell ⟨g, j, none⟩ u).heap[k]? = w.heap[k]? := by
  show (w.heap.modify g _)[k]? = _
  rw [Array.getElem?_modify]
  simp [Ne.symm hk]

theorem grownBy_refl (w : World) (row : Option Nat) : w.grownBy w row := ⟨rfl, rfl, rfl, Nat.le_refl _, fun _ _ _ => rfl⟩
theorem grownBy_setCell {w0 w : World} {g : Nat} (h : w0.grownBy w (some g)) (j : Nat) (u : Value) : w0.grownBy (w.setCell ⟨g, j, none⟩ u) (some g) := by
  refine ⟨h.os, h.tape, h.output, ?_, fun k hk hne => ?_⟩
  · have : (w.setCell ⟨g, j, none⟩ u).heap.size = w.heap.size := by show (w.heap.modify _ _).size = _; simp
    rw [this]; exact h.size
  · rw [heap_setCell_other _ _ _ _ _ (by intro e; apply hne; rw [e])]
    exact h.block k hk hne
theorem grownBy_new {w0 w w' : World} {row : Option Nat} (h : w0.grownBy w row) (hn : New w w') : w0.grownBy w' row := by
  have hb := hn.below
  obtain ⟨h1, h2, h3, h4, h5⟩ := hb
  exact ⟨h1.trans h.os, h2.trans h.tape, h3.trans h.output, Nat.le_trans h.size h4, fun k hk hne => (h5 k (Nat.lt_of_lt_of_le hk h.size)).trans (h.block k hk hne)⟩
theorem grownBy_trans {a b c : World} {row : Option Nat} (h : a.grownBy b row) (k : b.grownBy c row) : a.grownBy c row :=
  ⟨k.os.trans h.os, k.tape.trans h.tape, k.output.trans h.output, Nat.le_trans h.size k.size, fun i hi hne => (k.block i (Nat.lt_of_lt_of_le hi h.size) hne).trans (h.block i hi hne)⟩
theorem new_grownBy {a b c : World} {g : Nat} (h : New a b) (k : b.grownBy c (some g)) (hg : a.heap.size ≤ g) : New a c := by
  obtain ⟨h1, h2, h3, h4, h5⟩ := h.below
  exact New.of_below ⟨k.os.trans h1, k.tape.trans h2, k.output.trans h3, Nat.le_trans h4 k.size, fun i hi => (k.block i (Nat.lt_of_lt_of_le hi h4) (by intro e; injection e with e; omega)).trans (h5 i hi)⟩

section
variable {w : World} {base : Nat} {e : TypeId} {size g cap n : Nat} {xs : List Value}

theorem own_parts (h : w.ownsRow base e size (.slice (some ⟨g, 0, none⟩) n cap) n xs) : ∃ cur, base ≤ g ∧ w.heap[g]? = some (.cells cur e (0, 0)) ∧ n ≤ cap ∧ cap ≤ maxLen ∧ cur.size = cap * size ∧ cur.toList.take (n * size) = xs := by
  rcases h.2 with ⟨hv, _⟩ | ⟨g', cap', cur, hv, h1, h2, h3, h4, h5, h6⟩
  · cases hv
  · injection hv with a1 a2 a3
    injection a1 with a1
    injection a1 with a1
    subst a1; subst a3
    exact ⟨cur, h1, h2, h3, h4, h5, h6⟩
theorem own_mk {cur : Array Value} (hx : xs.length = n * size) (h1 : base ≤ g) (h2 : w.heap[g]? = some (.cells cur e (0, 0))) (h3 : n ≤ cap) (h4 : cap ≤ maxLen) (h5 : cur.size = cap * size) (h6 : cur.toList.take (n * size) = xs) : w.ownsRow base e size (.slice (some ⟨g, 0, none⟩) n cap) n xs :=
  ⟨hx, .inr ⟨g, cap, cur, rfl, h1, h2, h3, h4, h5, h6⟩⟩

theorem own_prefix (h : w.ownsRow base e size (.slice (some ⟨g, 0, none⟩) n cap) n xs) (k : Nat) (hk : k ≤ n) : w.ownsRow base e size (.slice (some ⟨g, 0, none⟩) k cap) k (xs.take (k * size)) := by
  obtain ⟨cur, h1, h2, h3, h4, h5, h6⟩ := own_parts h
  have hle : k * size ≤ n * size := Nat.mul_le_mul_right _ hk
  refine own_mk ?_ h1 h2 (by omega) h4 h5 ?_
  · rw [List.length_take, h.1]; omega
  · rw [← h6, List.take_take, Nat.min_eq_left hle]

theorem own_set (h : w.ownsRow base e size (.slice (some ⟨g, 0, none⟩) n cap) n xs) (j : Nat) (u : Value) : (w.setCell ⟨g, j, none⟩ u).ownsRow base e size (.slice (some ⟨g, 0, none⟩) n cap) n (xs.set j u) := by
  obtain ⟨cur, h1, h2, h3, h4, h5, h6⟩ := own_parts h
  refine own_mk (by rw [List.length_set, h.1]) h1 (heap_setCell_same w g j u h2) h3 h4 (by rw [Array.size_setIfInBounds, h5]) ?_
  rw [Array.toList_setIfInBounds, ← h6, List.take_set]

theorem own_cell (h : w.ownsRow base e size (.slice (some ⟨g, 0, none⟩) n cap) n xs) {j : Nat} {u : Value} (hj : xs[j]? = some u) : w.cell? ⟨g, j, none⟩ = some u ∧ w.frozen? ⟨g, j, none⟩ = false := by
  obtain ⟨cur, h1, h2, h3, h4, h5, h6⟩ := own_parts h
  constructor
  · rw [cell_of_row w g j cur e (0, 0) h2]
    rw [← h6, List.getElem?_take] at hj
    split at hj
    · simpa using hj
    · cases hj
  · simp [World.frozen?, h2]

theorem own_any (h : w.ownsRow base e size (.slice (some ⟨g, 0, none⟩) n cap) n xs) {j : Nat} (hj : j < cap * size) : (w.cell? ⟨g, j, none⟩).isSome = true ∧ w.frozen? ⟨g, j, none⟩ = false := by
  obtain ⟨cur, h1, h2, h3, h4, h5, h6⟩ := own_parts h
  constructor
  · rw [cell_of_row w g j cur e (0, 0) h2]
    simp [show j < cur.size by omega]
  · simp [World.frozen?, h2]

theorem own_cap (h : w.ownsRow base e size (.slice (some ⟨g, 0, none⟩) n cap) n xs) : n ≤ cap ∧ cap ≤ maxLen := by
  obtain ⟨cur, h1, h2, h3, h4, h5, h6⟩ := own_parts h
  exact ⟨h3, h4⟩
end

theorem own_setCells {base : Nat} {e : TypeId} {size g cap k : Nat} {xs : List Value} : ∀ (vs : List Value) (w : World) (o : Nat), w.ownsRow base e size (.slice (some ⟨g, 0, none⟩) k cap) k xs → k * size ≤ o → (w.setCells g o vs).ownsRow base e size (.slice (some ⟨g, 0, none⟩) k cap) k xs ∧ w.grownBy (w.setCells g o vs) (some g)
  | [], w, o, h, _ => ⟨h, grownBy_refl w _⟩
  | v :: vs, w, o, h, ho => by
    have h1 := own_set h o v
    rw [List.set_eq_of_length_le (by rw [h.1]; exact ho)] at h1
    have h2 := own_setCells vs (w.setCell ⟨g, o, none⟩ v) (o + 1) h1 (by omega)
    exact ⟨h2.1, grownBy_trans (grownBy_setCell (grownBy_refl w _) o v) h2.2⟩

theorem own_setMany {base : Nat} {e : TypeId} {size g cap k : Nat} : ∀ (vs xs : List Value) (w : World) (o : Nat), w.ownsRow base e size (.slice (some ⟨g, 0, none⟩) k cap) k xs → o + vs.length ≤ xs.length → (w.setCells g o vs).ownsRow base e size (.slice (some ⟨g, 0, none⟩) k cap) k (xs.take o ++ vs ++ xs.drop (o + vs.length)) ∧ w.grownBy (w.setCells g o vs) (some g)
  | [], xs, w, o, h, _ => ⟨by simpa [World.setCells] using h, grownBy_refl w _⟩
  | v :: vs, xs, w, o, h, ho => by
    simp only [List.length_cons] at ho
    have h1 := own_set h o v
    have h2 := own_setMany vs (xs.set o v) (w.setCell ⟨g, o, none⟩ v) (o + 1) h1 (by rw [List.length_set]; omega)
    refine ⟨?_, grownBy_trans (grownBy_setCell (grownBy_refl w _) o v) h2.2⟩
    have e : xs.take o ++ (v :: vs) ++ xs.drop (o + (v :: vs).length) = (xs.set o v).take (o + 1) ++ vs ++ (xs.set o v).drop (o + 1 + vs.length) := by
      rw [List.take_succ_eq_append_getElem (by rw [List.length_set]; omega), List.drop_set_of_lt (by omega)]
      simp only [List.getElem_set_self, List.length_cons, List.take_set, List.append_assoc]
      rw [List.set_eq_of_length_le (by rw [List.length_take]; omega), show o + (vs.length + 1) = o + 1 + vs.length by omega]
      rfl
    rw [e]
    exact h2.1

/-- the builtin clear at a slice of n > 0 elements of k > 0 cells -/
theorem run_clear_k {P : Program} (w : World) (t e : TypeId) (z : Value) (k : Nat) (ht : P.underlying t = some (.slice e)) (hv : ∀ w, (zeroValue e).run P w = .ok z w) (hz : z.cells.size = k) (hk : 0 < k) (h1 : ∀ u ∈ z.cells.toList, u.oneCell' = true) (b o n c : Nat) (hn : 0 < n)
    (hc : ∀ j, j < n * k → (w.cell? ⟨b, o + j, none⟩).isSome = true) (hf : ∀ j, j < n * k → w.frozen? ⟨b, o + j, none⟩ = false) :
    ∃ vs : List Value, vs.length = n * k ∧ ∀ ty, (Builtin.clear_ #[t] ty #[.slice (some ⟨b, o, none⟩) n c]).run P w = .ok (.tuple #[]) (w.setCells b o vs) := by
  have hzl : (Builtin.zeroCells z.cells n).toList.length = n * k := by rw [Array.length_toList, size_zeroCells, hz]
  have hone : ∀ v ∈ (Builtin.zeroCells z.cells n).toList, v.oneCell' = true := by
    intro v hv'
    simp only [Builtin.zeroCells, Array.mem_toList_iff, Array.mem_map] at hv'
    obtain ⟨i, _, rfl⟩ := hv'
    apply h1
    have : i % z.cells.size < z.cells.size := Nat.mod_lt _ (by omega)
    rw [getElem!_pos z.cells _ this]
    simp
  have hst := run_storeCells_cells (P := P) b o (Builtin.zeroCells z.cells n).toList 0 w (by rw [hzl]; simpa using hc) (by rw [hzl]; simpa using hf) hone
  simp only [Nat.add_zero] at hst
  refine ⟨(Builtin.zeroCells z.cells n).toList, hzl, fun ty => ?_⟩
  obtain ⟨m, rfl⟩ : ∃ m, n = m + 1 := ⟨n - 1, by omega⟩
  simp [Builtin.clear_, run_underlying ht, hv, hst]

end Go.Proofs.YtpdfbboagaflhaaGreat
