/- Plain lemmas on slices that a call owns, on boxes and blocks. No condition beyond what each line names. -/
import Derived.Test.YtpjekinmcdglbaaBas
import Derived.Laws.AppendOwn
import Derived.Laws.IdiomCopy
import Derived.Lib.SliceRun
import Derived.Deep.AppendLies
import Derived.OwnWalk
import Derived.OwnWalkIn
import Derived.RangeFuncNested
import Derived.RangeFuncBound
import Derived.RangeFuncCalls
import Derived.RangeFuncLeaves
set_option linter.unusedSimpArgs false
set_option linter.unusedVariables false
namespace Go.Proofs.Ytpjekinmcdglbaa
open Go.RowKit


theorem heap_setCell_same (w : World) (g j : Nat) (u : Value) {cur : Array Value} {e : TypeId} {fr : Nat × Nat} (h : w.heap[g]? = some (.cells cur e fr)) :
    (w.setCell ⟨g, j, none⟩ u).heap[g]? = some (.cells (cur.setIfInBounds j u) e fr) := by
  have hlt := (Array.getElem?_eq_some_iff.1 h).1
  have h' : w.heap[g] = .cells cur e fr := (Array.getElem?_eq_some_iff.1 h).2
  show (w.heap.modify g _)[g]? = _
  rw [Array.getElem?_eq_getElem (by simpa using hlt), Array.getElem_modify_self, h']
  rfl

theorem heap_setCell_other (w : World) (g j k : Nat) (u : Value) (hk : k ≠ g) : (w.setCell ⟨g, j, none⟩ u).heap[k]? = w.heap[k]? := by
  show (w.heap.modify g _)[k]? = _
  rw [Array.getElem?_modify]
  simp [Ne.symm hk]

theorem grownBy_refl (w : World) (row : Option Nat) : w.grownBy w row := ⟨rfl, rfl, rfl, Nat.le_refl _, fun _ _ _ => rfl⟩
theorem grownBy_setCell {w0 w : World} {g : Nat} (h : w0.grownBy w (some g)) (j : Nat) (u : Value) : w0.grownBy (w.setCell ⟨g, j, none⟩ u) (some g) := by
  refine ⟨h.os, h.tape, h.output, ?_, fun k hk hne => ?_⟩
  · have : (w.setCell ⟨g, j, none⟩ u).heap.size = w.heap.size := by show (w.heap.modify _ _).size = _; simp
    rw [this]; exact h.size
  · rw [heap_setCell_other _ _ _ _ _ (by intro e; apply hne; rw [e])]
    exact h.block k hk hne
theorem grownBy_new {w0 w w' : World} {row : Option Nat} (h : w0.grownBy w row) (hn : New w w') : w0.grownBy w' row := by
  have hb := hn.below
  obtain ⟨h1, h2, h3, h4, h5⟩ := hb
  exact ⟨h1.trans h.os, h2.trans h.tape, h3.trans h.output, Nat.le_trans h.size h4, fun k hk hne => (h5 k (Nat.lt_of_lt_of_le hk h.size)).trans (h.block k hk hne)⟩
theorem grownBy_trans {a b c : World} {row : Option Nat} (h : a.grownBy b row) (k : b.grownBy c row) : a.grownBy c row :=
  ⟨k.os.trans h.os, k.tape.trans h.tape, k.output.trans h.output, Nat.le_trans h.size k.size, fun i hi hne => (k.block i (Nat.lt_of_lt_of_le hi h.size) hne).trans (h.block i hi hne)⟩
theorem new_grownBy {a b c : World} {g : Nat} (h : New a b) (k : b.grownBy c (some g)) (hg : a.heap.size ≤ g) : New a c := by
  obtain ⟨h1, h2, h3, h4, h5⟩ := h.below
  exact New.of_below ⟨k.os.trans h1, k.tape.trans h2, k.output.trans h3, Nat.le_trans h4 k.size, fun i hi => (k.block i (Nat.lt_of_lt_of_le hi h4) (by intro e; injection e with e; omega)).trans (h5 i hi)⟩

section
variable {w : World} {base : Nat} {e : TypeId} {size g cap n : Nat} {xs : List Value}

theorem own_parts (h : w.ownsRow base e size (.slice (some ⟨g, 0, none⟩) n cap) n xs) : ∃ cur, base ≤ g ∧ w.heap[g]? = some (.cells cur e (0, 0)) ∧ n ≤ cap ∧ cap ≤ maxLen ∧ cur.size = cap * size ∧ cur.toList.take (n * size) = xs := by
  rcases h.2 with ⟨hv, _⟩ | ⟨g', cap', cur, hv, h1, h2, h3, h4, h5, h6⟩
  · cases hv
  · injection hv with a1 a2 a3
    injection a1 with a1
    injection a1 with a1
    subst a1; subst a3
    exact ⟨cur, h1, h2, h3, h4, h5, h6⟩
theorem own_mk {cur : Array Value} (hx : xs.length = n * size) (h1 : base ≤ g) (h2 : w.heap[g]? = some (.cells cur e (0, 0))) (h3 : n ≤ cap) (h4 : cap ≤ maxLen) (h5 : cur.size = cap * size) (h6 : cur.toList.take (n * size) = xs) : w.ownsRow base e size (.slice (some ⟨g, 0, none⟩) n cap) n xs :=
  ⟨hx, .inr ⟨g, cap, cur, rfl, h1, h2, h3, h4, h5, h6⟩⟩

theorem own_prefix (h : w.ownsRow base e size (.slice (some ⟨g, 0, none⟩) n cap) n xs) (k : Nat) (hk : k ≤ n) : w.ownsRow base e size (.slice (some ⟨g, 0, none⟩) k cap) k (xs.take (k * size)) := by
  obtain ⟨cur, h1, h2, h3, h4, h5, h6⟩ := own_parts h
  have hle : k * size ≤ n * size := Nat.mul_le_mul_right _ hk
  refine own_mk ?_ h1 h2 (by omega) h4 h5 ?_
  · rw [List.length_take, h.1]; omega
  · rw [← h6, List.take_take, Nat.min_eq_left hle]

theorem own_set (h : w.ownsRow base e size (.slice (some ⟨g, 0, none⟩) n cap) n xs) (j : Nat) (u : Value) : (w.setCell ⟨g, j, none⟩ u).ownsRow base e size (.slice (some ⟨g, 0, none⟩) n cap) n (xs.set j u) := by
  obtain ⟨cur, h1, h2, h3, h4, h5, h6⟩ := own_parts h
  refine own_mk (by rw [List.length_set, h.1]) h1 (heap_setCell_same w g j u h2) h3 h4 (by rw [Array.size_setIfInBounds, h5]) ?_
  rw [Array.toList_setIfInBounds, ← h6, List.take_set]

theorem own_cell (h : w.ownsRow base e size (.slice (some ⟨g, 0, none⟩) n cap) n xs) {j : Nat} {u : Value} (hj : xs[j]? = some u) : w.cell? ⟨g, j, none⟩ = some u ∧ w.frozen? ⟨g, j, none⟩ = false := by
  obtain ⟨cur, h1, h2, h3, h4, h5, h6⟩ := own_parts h
  constructor
  · rw [cell_of_row w g j cur e (0, 0) h2]
    rw [← h6, List.getElem?_take] at hj
    split at hj
    · simpa using hj
    · cases hj
  · simp [World.frozen?, h2]

theorem own_any (h : w.ownsRow base e size (.slice (some ⟨g, 0, none⟩) n cap) n xs) {j : Nat} (hj : j < cap * size) : (w.cell? ⟨g, j, none⟩).isSome = true ∧ w.frozen? ⟨g, j, none⟩ = false := by
  obtain ⟨cur, h1, h2, h3, h4, h5, h6⟩ := own_parts h
  constructor
  · rw [cell_of_row w g j cur e (0, 0) h2]
    simp [show j < cur.size by omega]
  · simp [World.frozen?, h2]

theorem own_cap (h : w.ownsRow base e size (.slice (some ⟨g, 0, none⟩) n cap) n xs) : n ≤ cap ∧ cap ≤ maxLen := by
  obtain ⟨cur, h1, h2, h3, h4, h5, h6⟩ := own_parts h
  exact ⟨h3, h4⟩
end

theorem own_setCells {base : Nat} {e : TypeId} {size g cap k : Nat} {xs : List Value} : ∀ (vs : List Value) (w : World) (o : Nat), w.ownsRow base e size (.slice (some ⟨g, 0, none⟩) k cap) k xs → k * size ≤ o → (w.setCells g o vs).ownsRow base e size (.slice (some ⟨g, 0, none⟩) k cap) k xs ∧ w.grownBy (w.setCells g o vs) (some g)
  | [], w, o, h, _ => ⟨h, grownBy_refl w _⟩
  | v :: vs, w, o, h, ho => by
    have h1 := own_set h o v
    rw [List.set_eq_of_length_le (by rw [h.1]; exact ho)] at h1
    have h2 := own_setCells vs (w.setCell ⟨g, o, none⟩ v) (o + 1) h1 (by omega)
    exact ⟨h2.1, grownBy_trans (grownBy_setCell (grownBy_refl w _) o v) h2.2⟩

theorem own_setMany {base : Nat} {e : TypeId} {size g cap k : Nat} : ∀ (vs xs : List Value) (w : World) (o : Nat), w.ownsRow base e size (.slice (some ⟨g, 0, none⟩) k cap) k xs → o + vs.length ≤ xs.length → (w.setCells g o vs).ownsRow base e size (.slice (some ⟨g, 0, none⟩) k cap) k (xs.take o ++ vs ++ xs.drop (o + vs.length)) ∧ w.grownBy (w.setCells g o vs) (some g)
  | [], xs, w, o, h, _ => ⟨by simpa [World.setCells] using h, grownBy_refl w _⟩
  | v :: vs, xs, w, o, h, ho => by
    simp only [List.length_cons] at ho
    have h1 := own_set h o v
    have h2 := own_setMany vs (xs.set o v) (w.setCell ⟨g, o, none⟩ v) (o + 1) h1 (by rw [List.length_set]; omega)
    refine ⟨?_, grownBy_trans (grownBy_setCell (grownBy_refl w _) o v) h2.2⟩
    have e : xs.take o ++ (v :: vs) ++ xs.drop (o + (v :: vs).length) = (xs.set o v).take (o + 1) ++ vs ++ (xs.set o v).drop (o + 1 + vs.length) := by
      rw [List.take_succ_eq_append_getElem (by rw [List.length_set]; omega), List.drop_set_of_lt (by omega)]
      simp only [List.getElem_set_self, List.length_cons, List.take_set, List.append_assoc]
      rw [List.set_eq_of_length_le (by rw [List.length_take]; omega), show o + (vs.length + 1) = o + 1 + vs.length by omega]
      rfl
    rw [e]
    exact h2.1

/-- the builtin clear at a slice of n > 0 elements of k > 0 cells -/
theorem run_clear_k {P : Program} (w : World) (t e : TypeId) (z : Value) (k : Nat) (ht : P.underlying t = some (.slice e)) (hv : ∀ w, (zeroValue e).run P w = .ok z w) (hz : z.cells.size = k) (hk : 0 < k) (h1 : ∀ u ∈ z.cells.toList, u.oneCell' = true) (b o n c : Nat) (hn : 0 < n)
    (hc : ∀ j, j < n * k → (w.cell? ⟨b, o + j, none⟩).isSome = true) (hf : ∀ j, j < n * k → w.frozen? ⟨b, o + j, none⟩ = false) :
    ∃ vs : List Value, vs.length = n * k ∧ ∀ ty, (Builtin.clear_ #[t] ty #[.slice (some ⟨b, o, none⟩) n c]).run P w = .ok (.tuple #[]) (w.setCells b o vs) := by
  have hzl : (Builtin.zeroCells z.cells n).toList.length = n * k := by rw [Array.length_toList, size_zeroCells, hz]
  have hone : ∀ v ∈ (Builtin.zeroCells z.cells n).toList, v.oneCell' = true := by
    intro v hv'
    simp only [Builtin.zeroCells, Array.mem_toList_iff, Array.mem_map] at hv'
    obtain ⟨i, _, rfl⟩ := hv'
    apply h1
    have : i % z.cells.size < z.cells.size := Nat.mod_lt _ (by omega)
    rw [getElem!_pos z.cells _ this]
    simp
  have hst := run_storeCells_cells (P := P) b o (Builtin.zeroCells z.cells n).toList 0 w (by rw [hzl]; simpa using hc) (by rw [hzl]; simpa using hf) hone
  simp only [Nat.add_zero] at hst
  refine ⟨(Builtin.zeroCells z.cells n).toList, hzl, fun ty => ?_⟩
  obtain ⟨m, rfl⟩ : ∃ m, n = m + 1 := ⟨n - 1, by omega⟩
  simp [Builtin.clear_, run_underlying ht, hv, hst]

theorem new_grown {w X X0 w2 : World} {e : TypeId} {size n : Nat} {v : Value} {xs : List Value} (hX : New w X) (hg : X.grownBy w2 v.ownBlock) (ho : X0.ownsRow w.heap.size e size v n xs) : New w w2 :=
  .of_below (hX.below.grown hg hX.size (fun k hk => (ho.lt k hk).1))
theorem cells_new (W : World) (cs : List Value) (T : TypeId) (H : Nat) (hH : H = W.heap.size) : ∀ j u, cs[j]? = some u → (W.alloc (.cells cs.toArray T)).cell? ((⟨H, 0, none⟩ : Addr).add j) = some u := by
  intro j u hu
  have hadd : (⟨H, 0, none⟩ : Addr).add j = ⟨H, j, none⟩ := by unfold Addr.add; split <;> simp_all
  rw [hadd, World.cell?_alloc_at _ _ _ _ hH]
  simpa using hu
theorem own_new {X W : World} {base e size n : Nat} {v : Value} {xs : List Value} (h : X.ownsRow base e size v n xs) (hn : New X W) : W.ownsRow base e size v n xs := by
  obtain ⟨h1, h2, h3, h4, h5⟩ := hn.below
  exact h.kept (row := none) ⟨h1, h2, h3, h4, fun k hk _ => h5 k hk⟩ (by cases v.ownBlock <;> simp)
theorem own_base {w : World} {base base' : Nat} {e : TypeId} {size n : Nat} {v : Value} {xs : List Value} (h : w.ownsRow base e size v n xs) (hb : base' ≤ base) : w.ownsRow base' e size v n xs :=
  ⟨h.1, h.2.imp (fun h => h) fun ⟨x1, x2, x3, x4, x5, x6⟩ => ⟨x1, x2, x3, x4, Nat.le_trans hb x5, x6⟩⟩
theorem own_keep {w w' : World} {base : Nat} {e : TypeId} {size n : Nat} {v : Value} {xs : List Value} (h : w.ownsRow base e size v n xs) (hk : ∀ g, v.ownBlock = some g → w'.heap[g]? = w.heap[g]?) : w'.ownsRow base e size v n xs :=
  ⟨h.1, h.2.imp (fun h => h) fun ⟨x1, x2, x3, x4, x5, x6, x7⟩ => ⟨x1, x2, x3, x4, x5, by rw [hk x1 (by rw [x4]; rfl)]; exact x6, x7⟩⟩
theorem box_cell {w : World} {B : Nat} {t : TypeId} {v : Value} (h : w.heap[B]? = some (.cells #[v] t (0, 0))) : w.cell? ⟨B, 0, none⟩ = some v ∧ w.frozen? ⟨B, 0, none⟩ = false := by
  constructor
  · rw [cell_of_row w B 0 #[v] t (0, 0) h]; rfl
  · simp [World.frozen?, h]
theorem alloc2_new {w W1 : World} {o1 o2 : Obj} (h : W1 = (w.alloc o1).alloc o2) : W1.heap[w.heap.size + 1]? = some o2 := by
  rw [h]; have := World.alloc_heap_new (w.alloc o1) o2; rwa [World.size_alloc] at this
theorem new_putObj {w W : World} (h : New w W) {l : Nat} (o : Obj) (hl : w.heap.size ≤ l) : New w (W.putObj l o) := by
  obtain ⟨h1, h2, h3, h4, h5⟩ := h.below
  exact New.of_below ⟨h1, h2, h3, by rw [World.putObj_size]; exact h4, fun k hk => (World.putObj_heap_other (by omega)).trans (h5 k hk)⟩
theorem putObj_heap (W : World) (l k : Nat) (o : Obj) (h : k ≠ l) : (W.putObj l o).heap[k]? = W.heap[k]? := World.putObj_heap_other h
theorem name_putObj {P : Program} {n : Nat} {F : Fence} {c : Code} {Q : Exit → Act → World → Prop} {a : Act} {W : World} {l : Nat} {o : Obj} (h : ∀ Wb, Wb = W.putObj l o → c.wpIn F n P Q a Wb) : c.wpIn F n P Q a (W.putObj l o) := h _ rfl
theorem putObj_at {W Wb : World} {l : Nat} {o : Obj} (h : Wb = W.putObj l o) (hl : l < W.heap.size) : Wb.heap[l]? = some o := by rw [h]; exact World.putObj_heap_same hl
theorem own_same {w w' : World} {base : Nat} {e : TypeId} {size g cap n : Nat} {xs : List Value} (h : w.ownsRow base e size (.slice (some ⟨g, 0, none⟩) n cap) n xs) (hh : w'.heap[g]? = w.heap[g]?) : w'.ownsRow base e size (.slice (some ⟨g, 0, none⟩) n cap) n xs := by
  obtain ⟨cur, h1, h2, h3, h4, h5, h6⟩ := own_parts h
  exact own_mk h.1 h1 (hh.trans h2) h3 h4 h5 h6
theorem own_slice {w : World} {base : Nat} {e : TypeId} {size n : Nat} {v : Value} {xs : List Value} (h : w.ownsRow base e size v n xs) : ∃ a c, v = .slice a n c := by
  rcases h.2 with ⟨h1, h2⟩ | ⟨g, cap, cur, h1, _⟩
  · exact ⟨none, 0, by rw [h1, h2]⟩
  · exact ⟨_, _, h1⟩
theorem size_drew' (w : World) : w.drew.heap.size = w.heap.size := rfl
theorem cell_same {w w' : World} {b o : Nat} (hh : w'.heap[b]? = w.heap[b]?) : w'.cell? ⟨b, o, none⟩ = w.cell? ⟨b, o, none⟩ := by simp [World.cell?, hh]
theorem own_capV {w : World} {base e size n g cap : Nat} {xs : List Value} (h : w.ownsRow base e size (.slice (some ⟨g, 0, none⟩) n cap) n xs) : n ≤ cap := by
  rcases h.2 with ⟨h1, _⟩ | ⟨g', cap', cur, h1, h2, h3, h4, _⟩
  · cases h1
  · cases h1; exact h4

theorem wpListIn_append_lies {F : Fence} {n : Nat} {P : Program} (w : World) {ops : Array Oper} {rest : List Oper} {o : Oper} {a : Act} {Q : Exit → Act → World → Prop}
    (hg : o.guard = none) (s x : Operand) (t : TypeId) (hop : o.op = Op.call { callee := Callee.builtin Builtin.append, args := #[s, x], argTypes := #[t, t] })
    (base : Nat) (e : TypeId) (i : TypeInfo) (z : Value) (size bytes : Nat) (h1 : P.underlying t = some (.slice e)) (h2 : P.info? e = some i) (h3 : i.zero = some z) (h4 : i.size = size) (h5 : i.bytes = bytes) (h6 : z.cells.size = size) (h7 : 0 < size)
    (v : Value) (k : Nat) (xs : List Value) (hs : a.eval s = v) (hown : w.ownsRow base e size v k xs) (ad : Addr) (m c : Nat) (news : List Value) (hx : a.eval x = .slice (some ad) m c) (hn : news.length = m * size)
    (hc : ∀ j u, news[j]? = some u → w.cell? (ad.add j) = some u) (h1c : ∀ u ∈ news, u.oneCell' = true) (hm : 0 < m) (b1 : k + m ≤ maxLen) (b2 : (k + m) * bytes ≤ 140737488355328) (b3 : base ≤ w.heap.size) (H : Nat) (hH : w.heap.size = H)
    (hK : ∀ g cap w', w'.ownsRow base e size (.slice (some ⟨g, 0, none⟩) (k + m) cap) (k + m) (xs ++ news) → w.grownBy w' v.ownBlock → (v.ownBlock = some g ∨ g = H) → g < w'.heap.size → wpListIn F n P ops Q rest (a.put o.dst (.slice (some ⟨g, 0, none⟩) (k + m) cap)) w') :
    wpListIn F n P ops Q (o :: rest) a w := by
  refine wpListIn_plain hg fun K hK' => ?_
  obtain ⟨g, cap, w', hrun, r1, r2, r3, r4⟩ := run_append_lies (P := P) w t o.type base e i z size bytes h1 h2 h3 h4 h5 h6 h7 v k xs hown ad m c news hn hc h1c hm b1 b2 b3 H hH
  unfold Oper.wpIn
  refine ⟨?_, ?_⟩
  · simp [Oper.about, hop, resolve, Target.leads, Sem.run_pure]
  · rw [Oper.semAt_plain F _ _ (by rw [hop]; intro c hc'; cases hc')]
    simp [execOp, hop, resolve, invoke, builtin, hs, hx, hrun, Result.andThen]
    exact hK' _ _ (hK g cap w' r1 r2 r3 r4)

end Go.Proofs.Ytpjekinmcdglbaa
