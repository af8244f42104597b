/- The graph of a problem: what open builds, step by step. -/
import Derived.Test.YtiejefehcpfkaaaDoorSe
import Derived.Laws.ResultCell
import Derived.Laws.CopyOwn
set_option linter.unusedSimpArgs false
set_option linter.unusedVariables false
set_option maxRecDepth 100000
namespace Go.Proofs.YtiejefehcpfkaaaDoor
open Go.RowKit

theorem fill_foldl : ∀ (vs : List Value) (k off : Nat) (cs : Array Value), off + k + vs.length ≤ cs.size →
    ((vs.zipIdx k).foldl (fun (cs : Array Value) (x : Value × Nat) => cs.setIfInBounds (off + x.2) x.1) cs).toList = splice cs.toList (off + k) vs
  | [], k, off, cs, h => by simp [splice]
  | v :: r, k, off, cs, h => by
    simp only [List.length_cons] at h
    simp only [List.zipIdx_cons, List.foldl_cons]
    rw [fill_foldl r (k + 1) off (cs.setIfInBounds (off + k) v) (by simp; omega)]
    simp only [Array.toList_setIfInBounds]
    have e := list_seg_step cs.toList (off + k) v r (by simp; omega)
    simp only [splice, List.length_cons] at e ⊢
    rw [show off + (k + 1) = off + k + 1 by omega]
    simpa [List.append_assoc] using e
theorem fill_zip (v : Array Value) (off : Nat) (cs : Array Value) (h : off + v.size ≤ cs.size) :
    (v.zipIdx.foldl (fun cs (x : Value × Nat) => cs.setIfInBounds (off + x.2) x.1) cs) = (splice cs.toList off v.toList).toArray := by
  apply Array.ext'
  rw [← Array.foldl_toList, Array.toList_zipIdx]
  have := fill_foldl v.toList 0 off cs (by simpa using h)
  simpa using this
theorem wpList_built {P : Program} {ops : Array Oper} {rest : List Oper} {o : Oper} {a : Act} {w : World} {Q : Exit → Act → World → Prop} (hgd : o.guard = none) (t : TypeId) (parts : Array (Nat × Operand)) (ho : o.op = .build t parts) (cells : Array Value)
    (hf : P.built t (parts.map fun (i, x) => (i, a.eval x)).toList = some cells)
    (h : wpList P ops Q rest (a.put o.dst (.agg cells)) w) : wpList P ops Q (o :: rest) a w :=
  wpList_build hgd t parts ho (by rw [hf]; rfl) (by rw [hf]; exact h)
theorem results_row_tmp {P : Program} {fn : Func} {p u : Tmp} {ty : TypeId} (h : fn.results = #[.cell p ty, .tmp u]) (tmps : Array Value) (w : World) (g : Nat) (t : TypeId) (cs : Array Value) (fr : Nat × Nat) (d : TypeDesc)
    (hp : tmps.getD p undef = .pointer (some ⟨g, 0, none⟩)) (hg : w.heap[g]? = some (.cells cs t fr))
    (hu : P.underlying ty = some d) (hd : (match d with | .struct _ | .array _ _ => true | _ => false) = true) (hi : (P.info? ty).map (·.size) = some cs.size) :
    (results fn tmps).run P w = .ok (.tuple #[.agg cs, tmps.getD u undef]) w := by
  rw [results_cell_tmp h, hp]
  simp [asAddr, run_loadVar_row w g t ty cs fr d hg hu hd hi]

noncomputable def gflds : Option (List (Nat × Nat)) := match Tryd.prog.underlying 83 with
  | some (.struct fs) => fs.toList.mapM (fun f => (Tryd.prog.info? f.type).map fun i => (f.offset, i.size))
  | _ => none
theorem gflds_is : gflds = some [(0, 3), (3, 24), (27, 24), (51, 24), (75, 24)] := by kernel_rfl
theorem built_graph (n : Nat) (av nv : Value) : Tryd.prog.built 83 [(0, .agg #[.int .i64 (n : Int), av, nv])] = some (Gph.cells ⟨n, av, nv, fun _ => 0, fun _ => 0, fun _ => 0, fun _ => 0⟩).toArray := by
  have hf := gflds_is
  have hz := graph_zero
  unfold gflds at hf
  unfold Program.built
  cases hi : Tryd.prog.info? 83 with
  | none => simp [hi] at hz
  | some i =>
    have hz' : i.zero = some (.agg G0.cells.toArray) := by simpa [hi] using hz
    rw [Tryd.underlying83] at hf ⊢
    simp only at hf ⊢
    rw [hz', hf]
    simp only [Instr.fill, List.getElem?_toArray, List.getElem?_cons_zero]
    rw [fill_zip _ _ _ (by simp [Value.cells, Gph.len])]
    simp [Value.cells, splice, Gph.cells, G0]
theorem built_zero : Tryd.prog.built 83 [] = some G0.cells.toArray := by
  have hf := gflds_is
  have hz := graph_zero
  unfold gflds at hf
  unfold Program.built
  cases hi : Tryd.prog.info? 83 with
  | none => simp [hi] at hz
  | some i =>
    have hz' : i.zero = some (.agg G0.cells.toArray) := by simpa [hi] using hz
    rw [Tryd.underlying83] at hf ⊢
    simp only at hf ⊢
    rw [hz', hf]
    rfl

theorem Gph.set_af (G : Gph) (p x : Nat) (hp : p < 24) : G.cells.set (3 + p) (sv x) = Gph.cells { G with af := upd G.af p x } := by
  rw [show 3 + p = p + 1 + 1 + 1 by omega]
  simp only [Gph.cells, List.set_cons_succ]
  rw [List.set_append_left _ _ (by rw [lk_len]; exact hp), lk_set]
theorem Gph.set_be (G : Gph) (p x : Nat) (hp : p < 24) : G.cells.set (51 + p) (sv x) = Gph.cells { G with be := upd G.be p x } := by
  rw [show 51 + p = (48 + p) + 1 + 1 + 1 by omega]
  simp only [Gph.cells, List.set_cons_succ]
  rw [List.set_append_right _ _ (by rw [lk_len]; omega), lk_len, List.set_append_right _ _ (by rw [lk_len]; omega), lk_len, show 48 + p - 24 - 24 = p by omega, List.set_append_left _ _ (by rw [lk_len]; exact hp), lk_set]
theorem Gph.set_ne (G : Gph) (p x : Nat) (hp : p < 24) : G.cells.set (75 + p) (sv x) = Gph.cells { G with ne := upd G.ne p x } := by
  rw [show 75 + p = (72 + p) + 1 + 1 + 1 by omega]
  simp only [Gph.cells, List.set_cons_succ]
  rw [List.set_append_right _ _ (by rw [lk_len]; omega), lk_len, List.set_append_right _ _ (by rw [lk_len]; omega), lk_len, List.set_append_right _ _ (by rw [lk_len]; omega), lk_len, show 72 + p - 24 - 24 - 24 = p by omega, lk_set]
theorem Gr.froz {w : World} {g : Nat} {G : Gph} (h : Gr w g G) (i : Nat) : w.frozen? ⟨g, i, none⟩ = false := by
  have h' : w.heap[g]? = _ := h
  simp [World.frozen?, h']
theorem Gr.set {w : World} {g : Nat} {G : Gph} (h : Gr w g G) (i : Nat) (v : Value) (G' : Gph) (e : G.cells.set i v = G'.cells) : Gr (w.setCell ⟨g, i, none⟩ v) g G' := by
  unfold Gr; rw [heap_setCell_same _ _ _ _ h, ← e]; simp
theorem Gr.put_af {w : World} {g : Nat} {G : Gph} (h : Gr w g G) (p x : Nat) (hp : p < 24) : Gr (w.setCell ⟨g, 3 + p, none⟩ (sv x)) g { G with af := upd G.af p x } := h.set _ _ _ (G.set_af p x hp)
theorem Gr.put_be {w : World} {g : Nat} {G : Gph} (h : Gr w g G) (p x : Nat) (hp : p < 24) : Gr (w.setCell ⟨g, 51 + p, none⟩ (sv x)) g { G with be := upd G.be p x } := h.set _ _ _ (G.set_be p x hp)
theorem Gr.put_ne {w : World} {g : Nat} {G : Gph} (h : Gr w g G) (p x : Nat) (hp : p < 24) : Gr (w.setCell ⟨g, 75 + p, none⟩ (sv x)) g { G with ne := upd G.ne p x } := h.set _ _ _ (G.set_ne p x hp)

/-- links after the first k pairs: from the first place to the second one | back | both ways -/
def addL (f : Nat → Nat) (a b : Nat) : Nat → Nat := upd f a (f a ||| 2 ^ b)
def aN (L : List (Int × Int)) (i : Nat) : Nat := (pA L i).toNat
def bN (L : List (Int × Int)) (i : Nat) : Nat := (pB L i).toNat
def afF (L : List (Int × Int)) : Nat → (Nat → Nat)
  | 0 => fun _ => 0
  | k + 1 => addL (afF L k) (aN L k) (bN L k)
def beF (L : List (Int × Int)) : Nat → (Nat → Nat)
  | 0 => fun _ => 0
  | k + 1 => addL (beF L k) (bN L k) (aN L k)
def neF (L : List (Int × Int)) : Nat → (Nat → Nat)
  | 0 => fun _ => 0
  | k + 1 => addL (addL (neF L k) (aN L k) (bN L k)) (bN L k) (aN L k)
theorem addL_lt {f : Nat → Nat} (hf : ∀ p, f p < 4294967296) {a b : Nat} (hb : b < 32) (q : Nat) : addL f a b q < 4294967296 := upd_lt hf (or_lt (hf a) (pow_lt b hb)) a q
/-- all pairs are of places below 24 -/
def In24 (L : List (Int × Int)) : Prop := ∀ i, i < L.length → (0 ≤ pA L i ∧ pA L i < 24) ∧ (0 ≤ pB L i ∧ pB L i < 24)
theorem arB_in {n : Int} {L : List (Int × Int)} (h : arB n L = true) (i : Nat) (hi : i < L.length) : (0 ≤ pA L i ∧ pA L i < n) ∧ (0 ≤ pB L i ∧ pB L i < n) ∧ pA L i ≠ pB L i := by
  have := List.all_eq_true.1 h i (List.mem_range.2 hi)
  unfold okA at this
  simp only [Bool.and_eq_true, decide_eq_true_eq, Bool.not_eq_true', decide_eq_false_iff_not] at this
  exact ⟨this.1.1.1, this.1.1.2, this.1.2⟩
theorem chkI_zero {o : Prb} (h : chkI o = 0) : (0 ≤ o.n ∧ o.n ≤ 24) ∧ arB o.n o.A = true ∧ arB o.n o.B = true ∧ falB o.B = false := by
  unfold chkI badB at h
  by_cases h1 : 24 < o.n
  · rw [if_pos h1] at h; cases h
  · rw [if_neg h1] at h
    by_cases h2 : o.n < 0
    · rw [decide_eq_true h2] at h; simp at h
    · rw [decide_eq_false h2] at h
      cases h3 : arB o.n o.A <;> cases h4 : arB o.n o.B <;> cases h5 : falB o.B <;> rw [h3, h4, h5] at h <;> simp at h
      exact ⟨⟨by omega, by omega⟩, rfl, rfl, rfl⟩
theorem chk_in {o : Prb} (h : chkI o = 0) : In24 o.A ∧ In24 o.B := by
  obtain ⟨h1, h2, h3, _⟩ := chkI_zero h
  exact ⟨fun i hi => by have := arB_in h2 i hi; omega, fun i hi => by have := arB_in h3 i hi; omega⟩
theorem afF_lt {L : List (Int × Int)} (h : In24 L) : ∀ k, k ≤ L.length → ∀ q, afF L k q < 4294967296
  | 0, _, q => by simp [afF]
  | k + 1, hk, q => addL_lt (afF_lt h k (by omega)) (by have := h k (by omega); unfold bN; omega) q
theorem beF_lt {L : List (Int × Int)} (h : In24 L) : ∀ k, k ≤ L.length → ∀ q, beF L k q < 4294967296
  | 0, _, q => by simp [beF]
  | k + 1, hk, q => addL_lt (beF_lt h k (by omega)) (by have := h k (by omega); unfold aN; omega) q
theorem neF_lt {L : List (Int × Int)} (h : In24 L) : ∀ k, k ≤ L.length → ∀ q, neF L k q < 4294967296
  | 0, _, q => by simp [neF]
  | k + 1, hk, q => addL_lt (addL_lt (neF_lt h k (by omega)) (by have := h k (by omega); unfold bN; omega)) (by have := h k (by omega); unfold aN; omega) q
end Go.Proofs.YtiejefehcpfkaaaDoor
