/- Plain lemmas on slices that a call owns, on boxes and blocks. No condition beyond what each line names. · Functions that are ranged over: an iterator that calls yield for each element of a list, whatever the body of the loop keeps; the loop over it, which its body may leave by a return. Plain lemmas over any program. -/
import Derived.Test.YtiejefehcpfkaaaDoorBas
import Derived.Laws.AppendOwn
import Derived.Laws.IdiomCopy
import Derived.Lib.SliceRun
import Derived.Deep.AppendLies
import Derived.OwnWalk
import Derived.OwnWalkIn
import Derived.RangeFuncNested
import Derived.RangeFuncBound
import Derived.RangeFuncCalls
import Derived.RangeFuncLeaves

section
set_option linter.unusedSimpArgs false
set_option linter.unusedVariables false
namespace Go.Proofs.YtiejefehcpfkaaaDoor
open Go.RowKit


theorem heap_setCell_same (w : World) (g j : Nat) (u : Value) {cur : Array Value} {e : TypeId} {fr : Nat × Nat} (h : w.heap[g]? = some (.cells cur e fr)) :
    (w.setCell ⟨g, j, none⟩ u).heap[g]? = some (.cells (cur.setIfInBounds j u) e fr) := by
  have hlt := (Array.getElem?_eq_some_iff.1 h).1
  have h' : w.heap[g] = .cells cur e fr := (Array.getElem?_eq_some_iff.1 h).2
  show (w.heap.modify g _)[g]? = _
  rw [Array.getElem?_eq_getElem (by simpa using hlt), Array.getElem_modify_self, h']
  rfl

theorem heap_setCell_other (w : World) (g j k : Nat) (u : Value) (hk : k ≠ g) : (w.setCell ⟨g, j, none⟩ u).heap[k]? = w.heap[k]? := by
  show (w.heap.modify g _)[k]? = _
  rw [Array.getElem?_modify]
  simp [Ne.symm hk]

theorem grownBy_refl (w : World) (row : Option Nat) : w.grownBy w row := ⟨rfl, rfl, rfl, Nat.le_refl _, fun _ _ _ => rfl⟩
theorem grownBy_setCell {w0 w : World} {g : Nat} (h : w0.grownBy w (some g)) (j : Nat) (u : Value) : w0.grownBy (w.setCell ⟨g, j, none⟩ u) (some g) := by
  refine ⟨h.os, h.tape, h.output, ?_, fun k hk hne => ?_⟩
  · have : (w.setCell ⟨g, j, none⟩ u).heap.size = w.heap.size := by show (w.heap.modify _ _).size = _; simp
    rw [this]; exact h.size
  · rw [heap_setCell_other _ _ _ _ _ (by intro e; apply hne; rw [e])]
    exact h.block k hk hne
theorem grownBy_new {w0 w w' : World} {row : Option Nat} (h : w0.grownBy w row) (hn : New w w') : w0.grownBy w' row := by
  have hb := hn.below
  obtain ⟨h1, h2, h3, h4, h5⟩ := hb
  exact ⟨h1.trans h.os, h2.trans h.tape, h3.trans h.output, Nat.le_trans h.size h4, fun k hk hne => (h5 k (Nat.lt_of_lt_of_le hk h.size)).trans (h.block k hk hne)⟩
theorem grownBy_trans {a b c : World} {row : Option Nat} (h : a.grownBy b row) (k : b.grownBy c row) : a.grownBy c row :=
  ⟨k.os.trans h.os, k.tape.trans h.tape, k.output.trans h.output, Nat.le_trans h.size k.size, fun i hi hne => (k.block i (Nat.lt_of_lt_of_le hi h.size) hne).trans (h.block i hi hne)⟩
theorem new_grownBy {a b c : World} {g : Nat} (h : New a b) (k : b.grownBy c (some g)) (hg : a.heap.size ≤ g) : New a c := by
  obtain ⟨h1, h2, h3, h4, h5⟩ := h.below
  exact New.of_below ⟨k.os.trans h1, k.tape.trans h2, k.output.trans h3, Nat.le_trans h4 k.size, fun i hi => (k.block i (Nat.lt_of_lt_of_le hi h4) (by intro e; injection e with e; omega)).trans (h5 i hi)⟩

section
variable {w : World} {base : Nat} {e : TypeId} {size g cap n : Nat} {xs : List Value}

theorem own_parts (h : w.ownsRow base e size (.slice (some ⟨g, 0, none⟩) n cap) n xs) : ∃ cur, base ≤ g ∧ w.heap[g]? = some (.cells cur e (0, 0)) ∧ n ≤ cap ∧ cap ≤ maxLen ∧ cur.size = cap * size ∧ cur.toList.take (n * size) = xs := by
  rcases h.2 with ⟨hv, _⟩ | ⟨g', cap', cur, hv, h1, h2, h3, h4, h5, h6⟩
  · cases hv
  · injection hv with a1 a2 a3
    injection a1 with a1
    injection a1 with a1
    subst a1; subst a3
    exact ⟨cur, h1, h2, h3, h4, h5, h6⟩
theorem own_mk {cur : Array Value} (hx : xs.length = n * size) (h1 : base ≤ g) (h2 : w.heap[g]? = some (.cells cur e (0, 0))) (h3 : n ≤ cap) (h4 : cap ≤ maxLen) (h5 : cur.size = cap * size) (h6 : cur.toList.take (n * size) = xs) : w.ownsRow base e size (.slice (some ⟨g, 0, none⟩) n cap) n xs :=
  ⟨hx, .inr ⟨g, cap, cur, rfl, h1, h2, h3, h4, h5, h6⟩⟩

theorem own_prefix (h : w.ownsRow base e size (.slice (some ⟨g, 0, none⟩) n cap) n xs) (k : Nat) (hk : k ≤ n) : w.ownsRow base e size (.slice (some ⟨g, 0, none⟩) k cap) k (xs.take (k * size)) := by
  obtain ⟨cur, h1, h2, h3, h4, h5, h6⟩ := own_parts h
  have hle : k * size ≤ n * size := Nat.mul_le_mul_right _ hk
  refine own_mk ?_ h1 h2 (by omega) h4 h5 ?_
  · rw [List.length_take, h.1]; omega
  · rw [← h6, List.take_take, Nat.min_eq_left hle]

theorem own_set (h : w.ownsRow base e size (.slice (some ⟨g, 0, none⟩) n cap) n xs) (j : Nat) (u : Value) : (w.setCell ⟨g, j, none⟩ u).ownsRow base e size (.slice (some ⟨g, 0, none⟩) n cap) n (xs.set j u) := by
  obtain ⟨cur, h1, h2, h3, h4, h5, h6⟩ := own_parts h
  refine own_mk (by rw [List.length_set, h.1]) h1 (heap_setCell_same w g j u h2) h3 h4 (by rw [Array.size_setIfInBounds, h5]) ?_
  rw [Array.toList_setIfInBounds, ← h6, List.take_set]

theorem own_cell (h : w.ownsRow base e size (.slice (some ⟨g, 0, none⟩) n cap) n xs) {j : Nat} {u : Value} (hj : xs[j]? = some u) : w.cell? ⟨g, j, none⟩ = some u ∧ w.frozen? ⟨g, j, none⟩ = false := by
  obtain ⟨cur, h1, h2, h3, h4, h5, h6⟩ := own_parts h
  constructor
  · rw [cell_of_row w g j cur e (0, 0) h2]
    rw [← h6, List.getElem?_take] at hj
    split at hj
    · simpa using hj
    · cases hj
  · simp [World.frozen?, h2]

theorem own_any (h : w.ownsRow base e size (.slice (some ⟨g, 0, none⟩) n cap) n xs) {j : Nat} (hj : j < cap * size) : (w.cell? ⟨g, j, none⟩).isSome = true ∧ w.frozen? ⟨g, j, none⟩ = false := by
  obtain ⟨cur, h1, h2, h3, h4, h5, h6⟩ := own_parts h
  constructor
  · rw [cell_of_row w g j cur e (0, 0) h2]
    simp [show j < cur.size by omega]
  · simp [World.frozen?, h2]

theorem own_cap (h : w.ownsRow base e size (.slice (some ⟨g, 0, none⟩) n cap) n xs) : n ≤ cap ∧ cap ≤ maxLen := by
  obtain ⟨cur, h1, h2, h3, h4, h5, h6⟩ := own_parts h
  exact ⟨h3, h4⟩
end

theorem own_setCells {base : Nat} {e : TypeId} {size g cap k : Nat} {xs : List Value} : ∀ (vs : List Value) (w : World) (o : Nat), w.ownsRow base e size (.slice (some ⟨g, 0, none⟩) k cap) k xs → k * size ≤ o → (w.setCells g o vs).ownsRow base e size (.slice (some ⟨g, 0, none⟩) k cap) k xs ∧ w.grownBy (w.setCells g o vs) (some g)
  | [], w, o, h, _ => ⟨h, grownBy_refl w _⟩
  | v :: vs, w, o, h, ho => by
    have h1 := own_set h o v
    rw [List.set_eq_of_length_le (by rw [h.1]; exact ho)] at h1
    have h2 := own_setCells vs (w.setCell ⟨g, o, none⟩ v) (o + 1) h1 (by omega)
    exact ⟨h2.1, grownBy_trans (grownBy_setCell (grownBy_refl w _) o v) h2.2⟩

theorem own_setMany {base : Nat} {e : TypeId} {size g cap k : Nat} : ∀ (vs xs : List Value) (w : World) (o : Nat), w.ownsRow base e size (.slice (some ⟨g, 0, none⟩) k cap) k xs → o + vs.length ≤ xs.length → (w.setCells g o vs).ownsRow base e size (.slice (some ⟨g, 0, none⟩) k cap) k (xs.take o ++ vs ++ xs.drop (o + vs.length)) ∧ w.grownBy (w.setCells g o vs) (some g)
  | [], xs, w, o, h, _ => ⟨by simpa [World.setCells] using h, grownBy_refl w _⟩
  | v :: vs, xs, w, o, h, ho => by
    simp only [List.length_cons] at ho
    have h1 := own_set h o v
    have h2 := own_setMany vs (xs.set o v) (w.setCell ⟨g, o, none⟩ v) (o + 1) h1 (by rw [List.length_set]; omega)
    refine ⟨?_, grownBy_trans (grownBy_setCell (grownBy_refl w _) o v) h2.2⟩
    have e : xs.take o ++ (v :: vs) ++ xs.drop (o + (v :: vs).length) = (xs.set o v).take (o + 1) ++ vs ++ (xs.set o v).drop (o + 1 + vs.length) := by
      rw [List.take_succ_eq_append_getElem (by rw [List.length_set]; omega), List.drop_set_of_lt (by omega)]
      simp only [List.getElem_set_self, List.length_cons, List.take_set, List.append_assoc]
      rw [List.set_eq_of_length_le (by rw [List.length_take]; omega), show o + (vs.length + 1) = o + 1 + vs.length by omega]
      rfl
    rw [e]
    exact h2.1

/-- the builtin clear at a slice of n > 0 elements of k > 0 cells -/
theorem run_clear_k {P : Program} (w : World) (t e : TypeId) (z : Value) (k : Nat) (ht : P.underlying t = some (.slice e)) (hv : ∀ w, (zeroValue e).run P w = .ok z w) (hz : z.cells.size = k) (hk : 0 < k) (h1 : ∀ u ∈ z.cells.toList, u.oneCell' = true) (b o n c : Nat) (hn : 0 < n)
    (hc : ∀ j, j < n * k → (w.cell? ⟨b, o + j, none⟩).isSome = true) (hf : ∀ j, j < n * k → w.frozen? ⟨b, o + j, none⟩ = false) :
    ∃ vs : List Value, vs.length = n * k ∧ ∀ ty, (Builtin.clear_ #[t] ty #[.slice (some ⟨b, o, none⟩) n c]).run P w = .ok (.tuple #[]) (w.setCells b o vs) := by
  have hzl : (Builtin.zeroCells z.cells n).toList.length = n * k := by rw [Array.length_toList, size_zeroCells, hz]
  have hone : ∀ v ∈ (Builtin.zeroCells z.cells n).toList, v.oneCell' = true := by
    intro v hv'
    simp only [Builtin.zeroCells, Array.mem_toList_iff, Array.mem_map] at hv'
    obtain ⟨i, _, rfl⟩ := hv'
    apply h1
    have : i % z.cells.size < z.cells.size := Nat.mod_lt _ (by omega)
    rw [getElem!_pos z.cells _ this]
    simp
  have hst := run_storeCells_cells (P := P) b o (Builtin.zeroCells z.cells n).toList 0 w (by rw [hzl]; simpa using hc) (by rw [hzl]; simpa using hf) hone
  simp only [Nat.add_zero] at hst
  refine ⟨(Builtin.zeroCells z.cells n).toList, hzl, fun ty => ?_⟩
  obtain ⟨m, rfl⟩ : ∃ m, n = m + 1 := ⟨n - 1, by omega⟩
  simp [Builtin.clear_, run_underlying ht, hv, hst]

theorem new_grown {w X X0 w2 : World} {e : TypeId} {size n : Nat} {v : Value} {xs : List Value} (hX : New w X) (hg : X.grownBy w2 v.ownBlock) (ho : X0.ownsRow w.heap.size e size v n xs) : New w w2 :=
  .of_below (hX.below.grown hg hX.size (fun k hk => (ho.lt k hk).1))
theorem cells_new (W : World) (cs : List Value) (T : TypeId) (H : Nat) (hH : H = W.heap.size) : ∀ j u, cs[j]? = some u → (W.alloc (.cells cs.toArray T)).cell? ((⟨H, 0, none⟩ : Addr).add j) = some u := by
  intro j u hu
  have hadd : (⟨H, 0, none⟩ : Addr).add j = ⟨H, j, none⟩ := by unfold Addr.add; split <;> simp_all
  rw [hadd, World.cell?_alloc_at _ _ _ _ hH]
  simpa using hu
theorem own_new {X W : World} {base e size n : Nat} {v : Value} {xs : List Value} (h : X.ownsRow base e size v n xs) (hn : New X W) : W.ownsRow base e size v n xs := by
  obtain ⟨h1, h2, h3, h4, h5⟩ := hn.below
  exact h.kept (row := none) ⟨h1, h2, h3, h4, fun k hk _ => h5 k hk⟩ (by cases v.ownBlock <;> simp)
theorem own_base {w : World} {base base' : Nat} {e : TypeId} {size n : Nat} {v : Value} {xs : List Value} (h : w.ownsRow base e size v n xs) (hb : base' ≤ base) : w.ownsRow base' e size v n xs :=
  ⟨h.1, h.2.imp (fun h => h) fun ⟨x1, x2, x3, x4, x5, x6⟩ => ⟨x1, x2, x3, x4, Nat.le_trans hb x5, x6⟩⟩
theorem own_keep {w w' : World} {base : Nat} {e : TypeId} {size n : Nat} {v : Value} {xs : List Value} (h : w.ownsRow base e size v n xs) (hk : ∀ g, v.ownBlock = some g → w'.heap[g]? = w.heap[g]?) : w'.ownsRow base e size v n xs :=
  ⟨h.1, h.2.imp (fun h => h) fun ⟨x1, x2, x3, x4, x5, x6, x7⟩ => ⟨x1, x2, x3, x4, x5, by rw [hk x1 (by rw [x4]; rfl)]; exact x6, x7⟩⟩
theorem box_cell {w : World} {B : Nat} {t : TypeId} {v : Value} (h : w.heap[B]? = some (.cells #[v] t (0, 0))) : w.cell? ⟨B, 0, none⟩ = some v ∧ w.frozen? ⟨B, 0, none⟩ = false := by
  constructor
  · rw [cell_of_row w B 0 #[v] t (0, 0) h]; rfl
  · simp [World.frozen?, h]
theorem alloc2_new {w W1 : World} {o1 o2 : Obj} (h : W1 = (w.alloc o1).alloc o2) : W1.heap[w.heap.size + 1]? = some o2 := by
  rw [h]; have := World.alloc_heap_new (w.alloc o1) o2; rwa [World.size_alloc] at this
theorem new_putObj {w W : World} (h : New w W) {l : Nat} (o : Obj) (hl : w.heap.size ≤ l) : New w (W.putObj l o) := by
  obtain ⟨h1, h2, h3, h4, h5⟩ := h.below
  exact New.of_below ⟨h1, h2, h3, by rw [World.putObj_size]; exact h4, fun k hk => (World.putObj_heap_other (by omega)).trans (h5 k hk)⟩
theorem putObj_heap (W : World) (l k : Nat) (o : Obj) (h : k ≠ l) : (W.putObj l o).heap[k]? = W.heap[k]? := World.putObj_heap_other h
theorem name_putObj {P : Program} {n : Nat} {F : Fence} {c : Code} {Q : Exit → Act → World → Prop} {a : Act} {W : World} {l : Nat} {o : Obj} (h : ∀ Wb, Wb = W.putObj l o → c.wpIn F n P Q a Wb) : c.wpIn F n P Q a (W.putObj l o) := h _ rfl
theorem putObj_at {W Wb : World} {l : Nat} {o : Obj} (h : Wb = W.putObj l o) (hl : l < W.heap.size) : Wb.heap[l]? = some o := by rw [h]; exact World.putObj_heap_same hl
theorem own_same {w w' : World} {base : Nat} {e : TypeId} {size g cap n : Nat} {xs : List Value} (h : w.ownsRow base e size (.slice (some ⟨g, 0, none⟩) n cap) n xs) (hh : w'.heap[g]? = w.heap[g]?) : w'.ownsRow base e size (.slice (some ⟨g, 0, none⟩) n cap) n xs := by
  obtain ⟨cur, h1, h2, h3, h4, h5, h6⟩ := own_parts h
  exact own_mk h.1 h1 (hh.trans h2) h3 h4 h5 h6
theorem own_slice {w : World} {base : Nat} {e : TypeId} {size n : Nat} {v : Value} {xs : List Value} (h : w.ownsRow base e size v n xs) : ∃ a c, v = .slice a n c := by
  rcases h.2 with ⟨h1, h2⟩ | ⟨g, cap, cur, h1, _⟩
  · exact ⟨none, 0, by rw [h1, h2]⟩
  · exact ⟨_, _, h1⟩
theorem size_drew' (w : World) : w.drew.heap.size = w.heap.size := rfl
theorem cell_same {w w' : World} {b o : Nat} (hh : w'.heap[b]? = w.heap[b]?) : w'.cell? ⟨b, o, none⟩ = w.cell? ⟨b, o, none⟩ := by simp [World.cell?, hh]
theorem own_capV {w : World} {base e size n g cap : Nat} {xs : List Value} (h : w.ownsRow base e size (.slice (some ⟨g, 0, none⟩) n cap) n xs) : n ≤ cap := by
  rcases h.2 with ⟨h1, _⟩ | ⟨g', cap', cur, h1, h2, h3, h4, _⟩
  · cases h1
  · cases h1; exact h4

theorem wpListIn_append_lies {F : Fence} {n : Nat} {P : Program} (w : World) {ops : Array Oper} {rest : List Oper} {o : Oper} {a : Act} {Q : Exit → Act → World → Prop}
    (hg : o.guard = none) (s x : Operand) (t : TypeId) (hop : o.op = Op.call { callee := Callee.builtin Builtin.append, args := #[s, x], argTypes := #[t, t] })
    (base : Nat) (e : TypeId) (i : TypeInfo) (z : Value) (size bytes : Nat) (h1 : P.underlying t = some (.slice e)) (h2 : P.info? e = some i) (h3 : i.zero = some z) (h4 : i.size = size) (h5 : i.bytes = bytes) (h6 : z.cells.size = size) (h7 : 0 < size)
    (v : Value) (k : Nat) (xs : List Value) (hs : a.eval s = v) (hown : w.ownsRow base e size v k xs) (ad : Addr) (m c : Nat) (news : List Value) (hx : a.eval x = .slice (some ad) m c) (hn : news.length = m * size)
    (hc : ∀ j u, news[j]? = some u → w.cell? (ad.add j) = some u) (h1c : ∀ u ∈ news, u.oneCell' = true) (hm : 0 < m) (b1 : k + m ≤ maxLen) (b2 : (k + m) * bytes ≤ 140737488355328) (b3 : base ≤ w.heap.size) (H : Nat) (hH : w.heap.size = H)
    (hK : ∀ g cap w', w'.ownsRow base e size (.slice (some ⟨g, 0, none⟩) (k + m) cap) (k + m) (xs ++ news) → w.grownBy w' v.ownBlock → (v.ownBlock = some g ∨ g = H) → g < w'.heap.size → wpListIn F n P ops Q rest (a.put o.dst (.slice (some ⟨g, 0, none⟩) (k + m) cap)) w') :
    wpListIn F n P ops Q (o :: rest) a w := by
  refine wpListIn_plain hg fun K hK' => ?_
  obtain ⟨g, cap, w', hrun, r1, r2, r3, r4⟩ := run_append_lies (P := P) w t o.type base e i z size bytes h1 h2 h3 h4 h5 h6 h7 v k xs hown ad m c news hn hc h1c hm b1 b2 b3 H hH
  unfold Oper.wpIn
  refine ⟨?_, ?_⟩
  · simp [Oper.about, hop, resolve, Target.leads, Sem.run_pure]
  · rw [Oper.semAt_plain F _ _ (by rw [hop]; intro c hc'; cases hc')]
    simp [execOp, hop, resolve, invoke, builtin, hs, hx, hrun, Result.andThen]
    exact hK' _ _ (hK g cap w' r1 r2 r3 r4)

end Go.Proofs.YtiejefehcpfkaaaDoor
end

section
set_option linter.unusedSimpArgs false
set_option linter.unusedVariables false
namespace Go.Proofs.YtiejefehcpfkaaaDoor
open Go.RowKit

/-- W' is W but for the blocks O, and new ones -/
def Mod (O : Nat → Prop) (W W' : World) : Prop := Below 0 W W' ∧ ∀ k, k < W.heap.size → ¬ O k → W'.heap[k]? = W.heap[k]?
/-- the blocks O lie in W' as in W -/
def Keep (O : Nat → Prop) (W W' : World) : Prop := Below 0 W W' ∧ ∀ k, O k → k < W.heap.size → W'.heap[k]? = W.heap[k]?
theorem Mod.refl (O : Nat → Prop) (W : World) : Mod O W W := ⟨Below.refl _ _, fun _ _ _ => rfl⟩
theorem Mod.trans {O : Nat → Prop} {A B C : World} (h : Mod O A B) (k : Mod O B C) : Mod O A C :=
  ⟨h.1.trans k.1, fun i hi ho => (k.2 i (Nat.lt_of_lt_of_le hi h.1.size) ho).trans (h.2 i hi ho)⟩
theorem Mod.size {O : Nat → Prop} {A B : World} (h : Mod O A B) : A.heap.size ≤ B.heap.size := h.1.size
theorem Mod.mono {O O' : Nat → Prop} {A B : World} (h : Mod O A B) (ho : ∀ k, O k → O' k) : Mod O' A B := ⟨h.1, fun k hk hn => h.2 k hk (fun h' => hn (ho k h'))⟩
theorem Mod.of_new {O : Nat → Prop} {A B : World} (h : New A B) : Mod O A B :=
  ⟨⟨h.below.os, h.below.tape, h.below.output, h.size, fun k hk => by omega⟩, fun k hk _ => h.below.block k hk⟩
theorem Mod.new {O : Nat → Prop} {w A B : World} (h : New w A) (k : Mod O A B) (ho : ∀ k, O k → w.heap.size ≤ k) : New w B :=
  New.of_below ⟨k.1.os.trans h.below.os, k.1.tape.trans h.below.tape, k.1.output.trans h.below.output, Nat.le_trans h.size k.size, fun i hi => (k.2 i (Nat.lt_of_lt_of_le hi h.size) (fun h' => by have := ho i h'; omega)).trans (h.below.block i hi)⟩
theorem Mod.setCell {O : Nat → Prop} (A : World) (g j : Nat) (v : Value) (hg : O g) : Mod O A (A.setCell ⟨g, j, none⟩ v) :=
  ⟨⟨rfl, rfl, rfl, by show _ ≤ (A.heap.modify _ _).size; simp, fun k hk => by omega⟩, fun k hk hn => heap_setCell_other A g j k v (fun e => hn (e ▸ hg))⟩
theorem Mod.putObj {O : Nat → Prop} (A : World) (g : Nat) (o : Obj) (hg : O g) : Mod O A (A.putObj g o) :=
  ⟨⟨rfl, rfl, rfl, by rw [World.putObj_size]; exact Nat.le_refl _, fun k hk => by omega⟩, fun k hk hn => World.putObj_heap_other (fun e => hn (e ▸ hg))⟩
theorem Mod.grown {O : Nat → Prop} {A B : World} {row : Option Nat} (h : A.grownBy B row) (hr : ∀ g, row = some g → O g) : Mod O A B :=
  ⟨⟨h.os, h.tape, h.output, h.size, fun k hk => by omega⟩, fun k hk hn => h.block k hk (fun e => hn (hr k e.symm))⟩
theorem Keep.refl (O : Nat → Prop) (W : World) : Keep O W W := ⟨Below.refl _ _, fun _ _ _ => rfl⟩
theorem Keep.trans {O : Nat → Prop} {A B C : World} (h : Keep O A B) (k : Keep O B C) : Keep O A C :=
  ⟨h.1.trans k.1, fun i ho hi => (k.2 i ho (Nat.lt_of_lt_of_le hi h.1.size)).trans (h.2 i ho hi)⟩
theorem Keep.size {O : Nat → Prop} {A B : World} (h : Keep O A B) : A.heap.size ≤ B.heap.size := h.1.size
theorem Keep.mono {O O' : Nat → Prop} {A B : World} (h : Keep O A B) (ho : ∀ k, O' k → O k) : Keep O' A B := ⟨h.1, fun k hk hn => h.2 k (ho k hk) hn⟩
theorem Keep.of_new {O : Nat → Prop} {A B : World} (h : New A B) : Keep O A B :=
  ⟨⟨h.below.os, h.below.tape, h.below.output, h.size, fun k hk => by omega⟩, fun k _ hk => h.below.block k hk⟩
theorem Keep.of_mod {O O' : Nat → Prop} {A B : World} (h : Mod O A B) (ho : ∀ k, O' k → ¬ O k) : Keep O' A B := ⟨h.1, fun k hk hl => h.2 k hl (ho k hk)⟩
theorem Keep.at {O : Nat → Prop} {A B : World} (h : Keep O A B) {k : Nat} {o : Obj} (hk : A.heap[k]? = some o) (ho : O k) : B.heap[k]? = some o :=
  (h.2 k ho (Array.getElem?_eq_some_iff.1 hk).1).trans hk

/-- the block k, which is none of O, holds o -/
def Has (O : Nat → Prop) (W : World) (k : Nat) (o : Obj) : Prop := ¬ O k ∧ W.heap[k]? = some o
theorem Has.lt {O : Nat → Prop} {W : World} {k : Nat} {o : Obj} (h : Has O W k o) : k < W.heap.size := (Array.getElem?_eq_some_iff.1 h.2).1
theorem Has.stable {O O' : Nat → Prop} {W W' : World} {k : Nat} {o : Obj} (h : Has O W k o) (hm : Mod O W W') (ho : ∀ k, O' k → O k ∨ W.heap.size ≤ k) : Has O' W' k o :=
  ⟨fun h' => (ho k h').elim h.1 (fun h2 => by have := h.lt; omega), (hm.2 k h.lt h.1).trans h.2⟩

/-- what a loop's body keeps abides what an iterator does to its own blocks -/
def StableJ {α : Type} (J : (Nat → Prop) → List α → Bool → World → Prop) : Prop :=
  ∀ O O' done b W W', J O done b W → Mod O W W' → (∀ k, O' k → O k ∨ W.heap.size ≤ k) → J O' done b W'

/-- one call of yield, at any depth -/
def YieldsAt (P : Program) (lp : Nat) (args : Array Value) (W : World) (R : Ending → World → Prop) : Prop := ∀ m, YieldAt Fence.wide m P lp args W R

/-- the function gf with what it has captured yields the elements xs, one after the other, as long as yield returns true -/
def IterAt (P : Program) (gf : Nat) (lb : Array Value) {α : Type} (Elem : α → Array Value → (Nat → Prop) → World → Prop) (xs : List α) (E : Nat → Prop) (W : World) : Prop :=
  ∀ (lp : Nat) (J : (Nat → Prop) → List α → Bool → World → Prop), StableJ J → J (fun _ => False) [] false W →
    (∀ O done x args W0, J O done false W0 → done ++ [x] <+: xs → Elem x args O W0 → (∀ k, O k → k < W0.heap.size) →
      YieldsAt P lp args W0 fun e W' => ∃ b, e = .returned (.bool b) ∧ J O (done ++ [x]) (!b) W' ∧ Keep (fun k => O k ∨ E k) W0 W') →
    Calls P gf (#[.func (.yield lp) #[] #[]] ++ lb) W fun e W' => (∃ v, e = .returned v) ∧ ∃ O done b, J O done b W' ∧ (b = false → done = xs) ∧ done <+: xs

def plus (D : Nat) (O : Nat → Prop) : Nat → Prop := fun k => O k ∨ k = D ∨ k = D + 1
def recL (a : Act) (D : Nat) (fn : FuncId) (ps : Array Tmp) (assign body : Code) (st : LoopState) (pe : Option Code) : Loop := { state := st, pending := pe, fn := fn, tmps := a.tmps, params := ps, assign := assign, body := body, defers := D }

/-- what a round of the loop's body has to leave -/
def RoundP {α : Type} (D : Nat) (O E : Nat → Prop) (I : (Nat → Prop) → List α → Bool → World → Prop) (done : List α) (W2 : World) (e : Exit) (W3 : World) : Prop :=
  Keep (fun k => plus D O k ∨ E k) W2 W3 ∧ ∃ b, I (plus D O) done b W3 ∧ (b = false ∧ e = .normal ∨ b = true ∧ e = .ret)

theorem range_iter {P : Program} {n : Nat} {g : Operand} {ps : Array Tmp} {assign body : Code} {Q : Exit → Act → World → Prop} {a : Act} {w : World} {gf : Nat} {lb : Array Value} (h1 : 1 ≤ n) (hg : a.eval g = .func (.func gf) #[] lb) (eg : ∀ args w, (callFunc gf args).run P w = .ok (.enter gf args) w)
    {α : Type} {Elem : α → Array Value → (Nat → Prop) → World → Prop} {xs : List α} {E : Nat → Prop} (hit : ∀ W1, New w W1 → w.heap.size + 2 ≤ W1.heap.size → IterAt P gf lb Elem xs E W1) (hO0 : ∀ k, E k → k < w.heap.size)
    (hps : ∀ x args O W, Elem x args O W → args.size = ps.size)
    (I : (Nat → Prop) → List α → Bool → World → Prop) (hI : StableJ I) (h0 : I (plus w.heap.size fun _ => False) [] false w)
    (hbody : ∀ m O done x args W, I (plus w.heap.size O) done false W → Elem x args O W → done ++ [x] <+: xs → ¬ O (w.heap.size + 1) → ¬ O w.heap.size → (∃ r, W.heap[w.heap.size + 1]? = some (.loop r)) → (∀ k, O k → k < W.heap.size) →
      assign.wpIn (Fence.wide.inRound (w.heap.size + 1)) m P (Exit.then (fun a1 W1 => Keep (fun k => plus w.heap.size O k ∨ E k) W W1 ∧ ∀ W2, Below 0 W1 W2 → W2.heap.size ≤ W1.heap.size → (∀ k, k ≠ w.heap.size + 1 → W2.heap[k]? = W1.heap[k]?) → (∃ r, W2.heap[w.heap.size + 1]? = some (.loop r)) →
          body.wpIn (Fence.wide.inRound (w.heap.size + 1)) m P (fun e _ W3 => RoundP w.heap.size O E I (done ++ [x]) W2 e W3) a1 W2) (fun _ _ _ => False))
        { tmps := (ps.zip args).foldl (fun t (p, v) => t.setIfInBounds p v) a.tmps, defers := [] } W)
    (hdone : ∀ O W, I (plus w.heap.size O) xs false W → W.heap[w.heap.size]? = some (.deferred (some [])) → Q .normal { a with defers := { target := .collected w.heap.size, args := #[] } :: a.defers } W)
    (hstop : ∀ O done W, I (plus w.heap.size O) done true W → done <+: xs → W.heap[w.heap.size]? = some (.deferred (some [])) → Q .ret { a with defers := { target := .collected w.heap.size, args := #[] } :: a.defers } W) :
    (Code.rangeFunc g ps assign body).wpIn Fence.wide n P Q a w := by
  refine wpIn_rangeFunc ?_
  intro fn _
  generalize hD : w.heap.size = D at *
  obtain ⟨W1, hW1⟩ : ∃ W1, W1 = (w.alloc (.deferred (some []))).alloc (.loop (recL a D fn ps assign body .ready none)) := ⟨_, rfl⟩
  have hL1 : W1.heap[D + 1]? = some (.loop (recL a D fn ps assign body .ready none)) := by
    rw [hW1, ← hD]; have := World.alloc_heap_new (w.alloc (.deferred (some []))) (.loop (recL a D fn ps assign body .ready none)); rw [World.size_alloc] at this; rw [hD] at this ⊢; exact this
  have hK1 : W1.heap[D]? = some (.deferred (some [])) := by
    rw [hW1, ← hD]; exact (Below.heap_alloc _ _ _ (by simp)).trans (World.alloc_heap_new w _)
  have hN1 : New w W1 := by rw [hW1]; exact ((New.refl _).alloc _).alloc _
  refine ⟨D + 1, [{ target := .collected D, args := #[] }], W1, { target := .fn (.func gf) lb, args := #[.func (.yield (D + 1)) #[] #[]] }, W1, gf,
    #[.func (.yield (D + 1)) #[] #[]] ++ lb, W1, ?_, ?_, fun _ _ => trivial, ?_, fun _ => h1, ?_⟩
  · rw [hW1, ← hD]; exact run_enterLoop_outer _ _ _ _ _
  · simp only [resolve, hg]
    simp [go_sem]
  · simp [invoke, go_sem, eg]
  · refine callsIn_wide.2 ((hit W1 hN1 (by rw [hW1, ← hD]; simp) (D + 1) (fun O done b W => I (plus D O) done b W ∧ Has O W (D + 1) (.loop (if b then recL a D fn ps assign body .done (some .ret) else recL a D fn ps assign body .ready none)) ∧ Has O W D (.deferred (some []))) ?_ ?_ ?_).mono ?_)
    · rintro O O' done b W W' ⟨i1, i2, i3⟩ hm ho
      refine ⟨hI _ _ _ _ _ _ i1 (hm.mono fun k hk => .inl hk) ?_, i2.stable hm ho, i3.stable hm ho⟩
      rintro k (hk | hk)
      · exact (ho k hk).imp .inl id
      · exact .inl (.inr hk)
    · refine ⟨hI _ _ _ _ _ _ h0 (Mod.of_new hN1) (fun k hk => .inl hk), ⟨(fun h => h), hL1⟩, ⟨(fun h => h), hK1⟩⟩
    · rintro O done x args W0 ⟨i1, ⟨l1, l2⟩, ⟨d1, d2⟩⟩ hpre hel hbnd m
      simp only [Bool.false_eq_true, if_false] at l2
      have hy := run_yield (P := P) (args := args) l2 (hps _ _ _ _ hel)
      refine ⟨fn, _, assign, body, hy, roundIn_of_wpIn trivial (wpIn_mono (hbody m O done x args W0 i1 hel hpre l1 d1 ⟨_, l2⟩ hbnd) ?_)⟩
      intro e a1 Wa h
      cases e with
      | normal =>
        obtain ⟨hk1, hb⟩ := h
        have l3 := hk1.at l2 (.inl (.inr (.inr rfl)))
        have hla := (Array.getElem?_eq_some_iff.1 l3).1
        refine ⟨_, run_beginRound l3 rfl, wpIn_mono (hb _ ⟨rfl, rfl, rfl, by rw [World.putObj_size]; exact Nat.le_refl _, fun k hk => by omega⟩ (by rw [World.putObj_size]; exact Nat.le_refl _) (fun k hk => World.putObj_heap_other hk) ⟨_, World.putObj_heap_same hla⟩) ?_⟩
        rintro e a3 W3 ⟨hk3, b, hi, he⟩
        have l5 := hk3.at (World.putObj_heap_same hla) (.inl (.inr (.inr rfl)))
        have hl5 := (Array.getElem?_eq_some_iff.1 l5).1
        have hk1' : Keep (fun k => O k ∨ E k) W0 Wa := hk1.mono fun k hk => hk.imp .inl id
        have hk2' : Keep (fun k => O k ∨ E k) Wa (Wa.putObj (D + 1) (.loop (recL a D fn ps assign body .busy none))) := Keep.of_mod (Mod.putObj (O := fun k => k = D + 1) _ _ _ rfl) (fun k hk e => hk.elim (fun h => l1 (e ▸ h)) (fun h => by have := hO0 _ h; omega))
        have hk3' : Keep (fun k => O k ∨ E k) (Wa.putObj (D + 1) (.loop (recL a D fn ps assign body .busy none))) W3 := hk3.mono fun k hk => hk.imp .inl id
        have l6 : ∀ o, Keep (fun k => O k ∨ E k) W3 (W3.putObj (D + 1) o) := fun o => Keep.of_mod (Mod.putObj (O := fun k => k = D + 1) _ _ _ rfl) (fun k hk e => hk.elim (fun h => l1 (e ▸ h)) (fun h => by have := hO0 _ h; omega))
        have dk : W3.heap[D]? = some (.deferred (some [])) := by
          refine hk3.at ?_ (.inl (.inr (.inl rfl)))
          rw [World.putObj_heap_other (by omega)]
          exact hk1.at d2 (.inl (.inr (.inl rfl)))
        rcases he with ⟨rfl, rfl⟩ | ⟨rfl, rfl⟩
        · have h3 := run_endRound (P := P) none l5
          refine ⟨_, _, h3, true, rfl, ⟨hI _ _ _ _ _ _ hi (Mod.putObj _ _ _ (.inr (.inr rfl))) (fun k hk => .inl hk), ⟨l1, ?_⟩, ⟨d1, ?_⟩⟩, hk1'.trans (hk2'.trans (hk3'.trans (l6 _)))⟩
          · exact World.putObj_heap_same hl5
          · rw [World.putObj_heap_other (by omega)]; exact dk
        · have h3 := run_endRound (P := P) (some .ret) l5
          refine ⟨_, _, h3, false, rfl, ⟨hI _ _ _ _ _ _ hi (Mod.putObj _ _ _ (.inr (.inr rfl))) (fun k hk => .inl hk), ⟨l1, ?_⟩, ⟨d1, ?_⟩⟩, hk1'.trans (hk2'.trans (hk3'.trans (l6 _)))⟩
          · exact World.putObj_heap_same hl5
          · rw [World.putObj_heap_other (by omega)]; exact dk
      | _ => exact h
    · rintro e W' ⟨⟨v, rfl⟩, O, done, b, ⟨hi, ⟨l1, l2⟩, ⟨d1, d2⟩⟩, hfin, hpre⟩
      have hst : ∀ o, I (plus D O) done b (W'.putObj (D + 1) o) := fun o => hI _ _ _ _ _ _ hi (Mod.putObj _ _ _ (.inr (.inr rfl))) (fun k hk => .inl hk)
      have hdk : ∀ o, (W'.putObj (D + 1) o).heap[D]? = some (.deferred (some [])) := fun o => by rw [World.putObj_heap_other (by omega)]; exact d2
      cases b with
      | false =>
        obtain rfl := hfin rfl
        exact ⟨none, _, run_endLoop (P := P) l2 (by simp [recL]), hdone O _ (hst _) (hdk _)⟩
      | true =>
        exact ⟨some .ret, _, run_endLoop (P := P) l2 (by simp [recL]), wpIn_ret (hstop O _ _ (hst _) hpre (hdk _))⟩

end Go.Proofs.YtiejefehcpfkaaaDoor
end
