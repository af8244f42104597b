/- Slices that a call owns, and what a sort leaves of them: plain lemmas at elements of k cells. -/
import Derived.Test.YtpdfbboagaflhaaGreatM22
import Derived.Shelf.SlSortCmp.NoneTotal
import Derived.Lib.SlicesCompact

set_option linter.unusedSimpArgs false
set_option linter.unusedSectionVars false
set_option linter.unusedVariables false
namespace Go.Proofs.YtpdfbboagaflhaaGreat
open Go.RowKit Go.Shelf Go.Lib Go.Sort

section
variable {α : Type} [Inhabited α] {enc : α → List Value} {k : Nat}

theorem flatMap_get (hk : ∀ x, (enc x).length = k) (k0 : 0 < k) : ∀ (l : List α) (t : Nat), t < l.length * k → (l.flatMap enc)[t]? = some ((enc l[t / k]!)[t % k]!) := by
  intro l
  induction l with
  | nil => intro t h; simp at h
  | cons s l ih =>
    intro t h
    rw [List.flatMap_cons]
    by_cases ht : t < k
    · rw [List.getElem?_append_left (by rw [hk]; exact ht), Nat.div_eq_of_lt ht, Nat.mod_eq_of_lt ht]
      simp [hk, ht]
    · rw [List.getElem?_append_right (by rw [hk]; omega), hk]
      have h2 : t - k < l.length * k := by simp [Nat.add_mul] at h; omega
      rw [ih (t - k) h2]
      have e1 : t / k = (t - k) / k + 1 := by rw [Nat.div_eq_sub_div k0 (by omega)]
      have e2 : t % k = (t - k) % k := by rw [Nat.mod_eq_sub_mod (by omega)]
      rw [e1, e2]
      simp

theorem flatMap_len (hk : ∀ x, (enc x).length = k) : ∀ (l : List α), (l.flatMap enc).length = l.length * k
  | [] => by simp
  | s :: l => by rw [List.flatMap_cons, List.length_append, hk, flatMap_len hk l, List.length_cons, Nat.add_mul]; omega
theorem flatK_list (hk : ∀ x, (enc x).length = k) (k0 : 0 < k) (d : Array α) : (flatK enc k d).toList = d.toList.flatMap enc := by
  apply List.ext_getElem?
  intro t
  have hlen : (d.toList.flatMap enc).length = d.size * k := by
    rw [flatMap_len hk]; simp
  by_cases ht : t < d.size * k
  · rw [flatMap_get hk k0 d.toList t (by simpa using ht)]
    have := get_flatK enc k d t ht
    rw [Array.getElem?_toList, Array.getElem?_eq_getElem (by simpa using ht)]
    rw [getElem!_pos _ t (by simpa using ht)] at this
    rw [this]
    have hq : t / k < d.size := Nat.div_lt_of_lt_mul (by rw [Nat.mul_comm]; exact ht)
    rw [getElem!_pos d (t / k) hq, getElem!_pos d.toList (t / k) (by simpa using hq), Array.getElem_toList]
  · rw [List.getElem?_eq_none (by simpa using Nat.le_of_not_lt ht), List.getElem?_eq_none (by rw [hlen]; omega)]

variable {w : World} {base : Nat} {e : TypeId} {g cap n : Nat}

theorem own_holdsK (hk : ∀ x, (enc x).length = k) (k0 : 0 < k) {l : List α} (h : w.ownsRow base e k (.slice (some ⟨g, 0, none⟩) n cap) n (l.flatMap enc)) : HoldsK enc k w g 0 l.toArray := by
  intro j hj
  have e1 := flatK_list hk k0 l.toArray
  simp only at e1
  rw [← e1] at h
  have h1 : (flatK enc k l.toArray).toList[j]? = some (flatK enc k l.toArray)[j]! := by
    rw [Array.getElem?_toList, Array.getElem?_eq_getElem hj, getElem!_pos _ j hj]
  have := own_cell h h1
  rw [Nat.zero_add]
  exact this

theorem heap_mapBlock_same {w : World} {b : Nat} {f : Array Value → Array Value} {cur : Array Value} {e : TypeId} {fr : Nat × Nat} (h : w.heap[b]? = some (.cells cur e fr)) : (mapBlock w b f).heap[b]? = some (.cells (f cur) e fr) := by
  unfold mapBlock
  simp only [Array.getElem?_modify, if_true, h, Option.map_some, onCells]
theorem heap_mapBlock_other {w : World} {b c : Nat} {f : Array Value → Array Value} (h : c ≠ b) : (mapBlock w b f).heap[c]? = w.heap[c]? := by
  unfold mapBlock
  simp [Array.getElem?_modify, Ne.symm h]
theorem size_mapBlock (w : World) (b : Nat) (f : Array Value → Array Value) : (mapBlock w b f).heap.size = w.heap.size := by
  unfold mapBlock; simp

theorem own_sorted (hk : ∀ x, (enc x).length = k) (k0 : 0 < k) {xs : List Value} (h : w.ownsRow base e k (.slice (some ⟨g, 0, none⟩) n cap) n xs) (d : Array α) (hd : d.size = n) (m : Nat) (os : Array Obj) :
    (sortWorldK enc k w g 0 m d os).ownsRow base e k (.slice (some ⟨g, 0, none⟩) n cap) n (d.toList.flatMap enc) ∧ w.grownBy (sortWorldK enc k w g 0 m d os) (some g) := by
  obtain ⟨cur, h1, h2, h3, h4, h5, h6⟩ := own_parts h
  have hlen : (d.toList.flatMap enc).length = d.size * k := by
    rw [flatMap_len hk]; simp
  have hle : n * k ≤ cap * k := Nat.mul_le_mul_right _ h3
  have hg := (Array.getElem?_eq_some_iff.1 h2).1
  have hh : (sortWorldK enc k w g 0 m d os).heap[g]? = some (.cells (putCells id 0 (flatK enc k d) cur) e (0, 0)) := by
    show ((putRow id (Go.Sort.ahead w m) g 0 (flatK enc k d)).heap ++ os)[g]? = _
    rw [Array.getElem?_append_left (by show g < (mapBlock _ _ _).heap.size; rw [size_mapBlock]; exact hg)]
    exact heap_mapBlock_same h2
  constructor
  · refine own_mk (by rw [hlen, hd]) h1 hh h3 h4 (by simp [putCells, h5]) ?_
    rw [← flatK_list hk k0 d]
    apply List.ext_getElem?
    intro t
    rw [List.getElem?_take]
    by_cases ht : t < n * k
    · rw [if_pos ht, Array.getElem?_toList, Array.getElem?_toList]
      simp only [putCells, Array.getElem?_mapIdx]
      rw [Array.getElem?_eq_getElem (show t < cur.size by omega), Array.getElem?_eq_getElem (show t < (flatK enc k d).size by rw [size_flatK, hd]; exact ht)]
      simp only [Option.map_some, id]
      rw [if_pos ⟨Nat.zero_le _, by rw [size_flatK, hd]; omega⟩, Nat.sub_zero, getElem!_pos _ t (by rw [size_flatK, hd]; exact ht)]
    · rw [if_neg ht, Array.getElem?_toList, Array.getElem?_eq_none (by rw [size_flatK, hd]; omega)]
  · refine ⟨rfl, rfl, rfl, ?_, fun c hc hne => ?_⟩
    · show w.heap.size ≤ ((mapBlock (Go.Sort.ahead w m) g _).heap ++ os).size
      rw [Array.size_append, size_mapBlock]
      exact Nat.le_add_right _ _
    · show ((mapBlock (Go.Sort.ahead w m) g _).heap ++ os)[c]? = _
      rw [Array.getElem?_append_left (by rw [size_mapBlock]; exact hc), heap_mapBlock_other (by intro e; apply hne; rw [e])]
      rfl
end

end Go.Proofs.YtpdfbboagaflhaaGreat

/- Slices of numbers that a call owns, sorted and without repeats: plain lemmas; the X of the ends of segments. -/
namespace Go.Proofs.YtpdfbboagaflhaaGreat
open Go.RowKit Go.Shelf Go.Lib Go.Sort

section
variable {α : Type} [Inhabited α] {enc : α → Value} {w : World} {base : Nat} {e : TypeId} {g cap n : Nat}

theorem own_holds1 {l : List α} (h : w.ownsRow base e 1 (.slice (some ⟨g, 0, none⟩) n cap) n (l.map enc)) : Holds enc w g 0 l.toArray := by
  intro j hj
  have hj' : j < l.length := by simpa using hj
  have h1 : (l.map enc)[j]? = some (enc l.toArray[j]!) := by
    rw [List.getElem?_map, List.getElem?_eq_getElem hj', getElem!_pos _ j hj]
    simp
  have := own_cell h h1
  rw [Nat.zero_add]
  exact this

theorem own_put1 {xs : List Value} (h : w.ownsRow base e 1 (.slice (some ⟨g, 0, none⟩) n cap) n xs) (d : Array α) (hd : d.size = n) (m : Nat) (os : Array Obj) :
    (grow (putRow enc (Go.Sort.ahead w m) g 0 d) os).ownsRow base e 1 (.slice (some ⟨g, 0, none⟩) n cap) n (d.toList.map enc) ∧ w.grownBy (grow (putRow enc (Go.Sort.ahead w m) g 0 d) os) (some g) := by
  obtain ⟨cur, h1, h2, h3, h4, h5, h6⟩ := own_parts h
  have hg := (Array.getElem?_eq_some_iff.1 h2).1
  have hh : (grow (putRow enc (Go.Sort.ahead w m) g 0 d) os).heap[g]? = some (.cells (putCells enc 0 d cur) e (0, 0)) := by
    show ((putRow enc (Go.Sort.ahead w m) g 0 d).heap ++ os)[g]? = _
    rw [Array.getElem?_append_left (by show g < (mapBlock _ _ _).heap.size; rw [size_mapBlock]; exact hg)]
    exact heap_mapBlock_same h2
  constructor
  · refine own_mk (by simp [hd]) h1 hh h3 h4 (by simp [putCells, h5]) ?_
    apply List.ext_getElem?
    intro t
    rw [List.getElem?_take]
    by_cases ht : t < n * 1
    · rw [if_pos ht, Array.getElem?_toList, List.getElem?_map, Array.getElem?_toList]
      simp only [putCells, Array.getElem?_mapIdx]
      rw [Array.getElem?_eq_getElem (show t < cur.size by omega), Array.getElem?_eq_getElem (show t < d.size by omega)]
      simp only [Option.map_some]
      rw [if_pos ⟨Nat.zero_le _, by omega⟩, Nat.sub_zero, getElem!_pos _ t (by omega)]
    · rw [if_neg ht, List.getElem?_eq_none (by simp [hd]; omega)]
  · refine ⟨rfl, rfl, rfl, ?_, fun c hc hne => ?_⟩
    · show w.heap.size ≤ ((mapBlock (Go.Sort.ahead w m) g _).heap ++ os).size
      rw [Array.size_append, size_mapBlock]
      exact Nat.le_add_right _ _
    · show ((mapBlock (Go.Sort.ahead w m) g _).heap ++ os)[c]? = _
      rw [Array.getElem?_append_left (by rw [size_mapBlock]; exact hc), heap_mapBlock_other (by intro e; apply hne; rw [e])]
      rfl
end

/-- the X of the ends of the first k segments -/
def xsTo (l : List S4) : Nat → List Int
  | 0 => []
  | k + 1 => xsTo l k ++ [q1 l k, q3 l k]
theorem xsTo_length (l : List S4) : ∀ k, (xsTo l k).length = 2 * k
  | 0 => rfl
  | k + 1 => by simp [xsTo, xsTo_length l k]; omega
theorem inCells_two (l : List Int) (a b : Int) : inCells (l ++ [a, b]) = inCells l ++ [.int .i64 a, .int .i64 b] := by simp [inCells]
def sortI (l : List Int) : List Int := l.mergeSort fun x y => decide (x ≤ y)
theorem sortI_length (l : List Int) : (sortI l).length = l.length := List.length_mergeSort l
def endXsL (l : List S4) : List Int := Lib.compact (sortI (xsTo l l.length))
theorem inCells_take (l : List Int) (k : Nat) : (inCells l).take (k * 1) = inCells (l.take k) := by simp [inCells, List.map_take]

end Go.Proofs.YtpdfbboagaflhaaGreat
