/- Links (a set for each of 24 places) in cells; what chains lead to, as chained returns it. Numbers up to 24. · Graphs (99 cells): circular, all, isPatch, checkOrdered. Numbers up to 24. -/
import Derived.Test.YtiejefehcpfkaaaDoorSa
import Derived.Deep.MidRow
import Derived.BigQuiet
import Derived.Deep.RegionLaw
import Derived.Deep.DeepCutAuto

section
set_option linter.unusedSimpArgs false
set_option linter.unusedVariables false
set_option maxRecDepth 100000
namespace Go.Proofs.YtiejefehcpfkaaaDoor
open Go.RowKit

/-- the cells of links -/
def lk (f : Nat → Nat) : List Value := (List.range 24).map fun p => sv (f p)
theorem lk_len (f : Nat → Nat) : (lk f).length = 24 := by simp [lk]
theorem lk_at (f : Nat → Nat) (p : Nat) (h : p < 24) : (lk f)[p]? = some (sv (f p)) := by simp [lk, h]
theorem lk_one (f : Nat → Nat) : ∀ v ∈ lk f, v.oneCell' = true := by
  intro v hv; simp only [lk, List.mem_map] at hv; obtain ⟨p, _, rfl⟩ := hv; rfl
def upd (f : Nat → Nat) (p x : Nat) : Nat → Nat := fun q => if q = p then x else f q
theorem upd_same (f : Nat → Nat) (p x : Nat) : upd f p x p = x := by simp [upd]
theorem upd_id (f : Nat → Nat) (p : Nat) : upd f p (f p) = f := by funext q; unfold upd; split <;> simp_all
theorem lk_set (f : Nat → Nat) (p x : Nat) : (lk f).set p (sv x) = lk (upd f p x) := by
  apply List.ext_getElem?
  intro i
  rw [List.getElem?_set]
  by_cases hi : i < 24
  · rw [lk_at _ _ hi, lk_len]
    by_cases e : p = i
    · subst e; rw [lk_at _ _ hi]; simp [hi, upd]
    · simp [e, lk_at _ _ hi, upd, Ne.symm e]
  · rw [List.getElem?_eq_none (by rw [lk_len]; omega)]
    by_cases e : p = i
    · subst e; simp [lk_len, hi]
    · rw [if_neg e, List.getElem?_eq_none (by rw [lk_len]; omega)]
/-- the block b holds links -/
def Lk (w : World) (b : Nat) (f : Nat → Nat) : Prop := w.heap[b]? = some (.cells (lk f).toArray 81 (0, 0))
theorem Lk.lt {w : World} {b : Nat} {f : Nat → Nat} (h : Lk w b f) : b < w.heap.size := (Array.getElem?_eq_some_iff.1 h).1
theorem Lk.new {w w' : World} {b : Nat} {f : Nat → Nat} (h : Lk w b f) (hn : New w w') : Lk w' b f := (hn.below.block b h.lt).trans h
theorem Lk.at {w : World} {b : Nat} {f : Nat → Nat} (h : Lk w b f) (p : Nat) (hp : p < 24) : w.cell? ⟨b, p, none⟩ = some (sv (f p)) := by
  rw [cell_of_row w b p _ _ _ h]; simp [lk, hp]
theorem Lk.froz {w : World} {b : Nat} {f : Nat → Nat} (h : Lk w b f) (p : Nat) : w.frozen? ⟨b, p, none⟩ = false := by
  have h' : w.heap[b]? = _ := h
  simp [World.frozen?, h']
theorem Lk.put {w : World} {b : Nat} {f : Nat → Nat} (h : Lk w b f) (p x : Nat) : Lk (w.setCell ⟨b, p, none⟩ (sv x)) b (upd f p x) := by
  unfold Lk; rw [heap_setCell_same _ _ _ _ h]; simp [lk_set]
theorem Lk.other {w : World} {b c p : Nat} {v : Value} {f : Nat → Nat} (h : Lk w b f) (hc : b ≠ c) : Lk (w.setCell ⟨c, p, none⟩ v) b f := by
  unfold Lk; rw [heap_setCell_other _ _ _ _ _ hc]; exact h
theorem Lk.range {w : World} {b : Nat} {f : Nat → Nat} (h : Lk w b f) : w.rangeAt b 0 (lk f) := by
  have := World.rangeAt_of_block h 0 24
  have e : ((lk f).toArray.extract 0 (0 + 24)).toList = lk f := by simp; exact List.take_of_length_le (by rw [lk_len]; omega)
  rw [e] at this; exact this
theorem links_size : (Tryd.prog.info? 81).map (·.size) = some 24 := by kernel_rfl
theorem links_zero : (Tryd.prog.info? 81).map (·.zero) = some (some (.agg (lk fun _ => 0).toArray)) := by kernel_rfl

theorem New.setRow {a w : World} (h : New a w) {g : Nat} (hg : a.heap.size ≤ g) (B : Array Value) : New a (w.setRow g B) :=
  New.of_below ⟨h.below.os, h.below.tape, h.below.output, by simp; exact h.size, fun k hk => (setRow_other w g k B (by omega)).trans (h.below.block k hk)⟩
theorem row_new {w w' : World} {b : Nat} {o : Obj} (h : w.heap[b]? = some o) (hn : New w w') : w'.heap[b]? = some o := (hn.below.block b (Array.getElem?_eq_some_iff.1 h).1).trans h
theorem links_sizeL (f : Nat → Nat) : (Tryd.prog.info? 81).map (·.size) = some (lk f).toArray.size := by rw [List.size_toArray, lk_len]; exact links_size
theorem lk_all (f : Nat → Nat) : (lk f).toArray.all (·.oneCell') = true := all_oneCell_toArray (lk_one f)

/-- one place in between, for the first k rows -/
def chP (f : Nat → Nat) (m : Nat) : Nat → (Nat → Nat)
  | 0 => f
  | k + 1 => if ((chP f m k) k).testBit m then upd (chP f m k) k ((chP f m k) k ||| (chP f m k) m) else chP f m k
def chM (f : Nat → Nat) (n : Nat) : Nat → (Nat → Nat)
  | 0 => f
  | k + 1 => chP (chM f n k) k n

theorem or_lt {a b : Nat} (ha : a < 4294967296) (hb : b < 4294967296) : a ||| b < 4294967296 := Nat.or_lt_two_pow (n := 32) ha hb
theorem upd_lt {f : Nat → Nat} (hf : ∀ p, f p < 4294967296) {x : Nat} (hx : x < 4294967296) (p q : Nat) : upd f p x q < 4294967296 := by
  unfold upd; split
  · exact hx
  · exact hf q
theorem chP_lt {f : Nat → Nat} (hf : ∀ p, f p < 4294967296) (m : Nat) : ∀ k q, chP f m k q < 4294967296
  | 0, q => hf q
  | k + 1, q => by
    simp only [chP]; split
    · exact upd_lt (chP_lt hf m k) (or_lt (chP_lt hf m k _) (chP_lt hf m k _)) _ _
    · exact chP_lt hf m k q
theorem chM_lt {f : Nat → Nat} (hf : ∀ p, f p < 4294967296) (n : Nat) : ∀ k q, chM f n k q < 4294967296
  | 0, q => hf q
  | k + 1, q => chP_lt (chM_lt hf n k) k n q

set_option maxHeartbeats 4000000 in
theorem chained_c (f : Nat → Nat) (n : Nat) (w : World) (hn : n ≤ 24) (hf : ∀ p, f p < 4294967296) : Calls Tryd.prog 113 #[.agg (lk f).toArray, .int .i64 (n : Int)] w fun e w' => e = .returned (.agg (lk (chM f n n)).toArray) ∧ New w w' := by
  obtain ⟨L, hL⟩ : ∃ L, L = lk f := ⟨_, rfl⟩
  rw [← hL]
  have HL := Lib.hid hL
  have HCB := Lib.hid (fun m k q => chP_lt (chM_lt hf n m) m k q)
  clear hL hf
  go_enter Tryd.func113, Tryd.ntmps113
  obtain ⟨H, hH⟩ : ∃ H, w.heap.size = H := ⟨_, rfl⟩
  have HH := Lib.hid hH
  go_wp2_with (refine wpList_alloc_z rfl 81 rfl _ links_zero ?_)
  go_loopw [8] (fun i wr => ∃ m : Nat, m ≤ n ∧ i = .int .i64 m ∧ New w wr ∧ Lk wr H (chM f n m) ∧ Lk wr (H + 1) (fun _ => 0)) (fun i _ => n - (intOf i).toNat)
  case atStart =>
    refine ⟨0, Nat.zero_le _, rfl, ((New.refl _).alloc _).alloc _, ?_, ?_⟩
    · rw [HL.out]; subst hH; exact (Below.heap_alloc _ _ _ (by simp)).trans (World.alloc_heap_new w _)
    · subst hH; have := World.alloc_heap_new (w.alloc (.cells L.toArray 81)) (.cells (lk fun _ => 0).toArray 81); rw [World.size_alloc] at this; exact this
  case round =>
    clear hH
    obtain ⟨m, hm, rfl, hnew, h1, h2⟩ := hrel
    have HN := Lib.hid hnew
    have H1 := Lib.hid h1
    have H2 := Lib.hid h2
    clear hnew h1 h2
    by_cases hlt : m < n
    · have hlt' : (m : Int) < (n : Int) := by omega
      go_wp2_with fail
      go_loopw [12] (fun i wr => ∃ k : Nat, k ≤ n ∧ i = .int .i64 k ∧ New w wr ∧ Lk wr H (chP (chM f n m) m k) ∧ Lk wr (H + 1) (fun _ => 0)) (fun i _ => n - (intOf i).toNat)
      case atStart => exact ⟨0, Nat.zero_le _, rfl, HN.out, H1.out, H2.out⟩
      case round =>
        obtain ⟨k, hk, rfl, hnew, h1, h2⟩ := hrel
        have HN3 := Lib.hid hnew
        have H3 := Lib.hid h1
        have H4 := Lib.hid h2
        by_cases hkn : k < n
        · have hkn' : (k : Int) < (n : Int) := by omega
          have c1 := h1.at k (by omega)
          have c2 := h1.at m (by omega)
          have HHAS := Lib.hid (fun (w1 : World) => has_c (chP (chM f n m) m k k) m w1 (HCB.out _ _ _) (by omega))
          clear hnew h1 h2
          have HS1 := Lib.hid (show ∀ g, chP g m (k + 1) = if ((chP g m k) k).testBit m then upd (chP g m k) k ((chP g m k) k ||| (chP g m k) m) else chP g m k from fun _ => rfl)
          cases hb : (chP (chM f n m) m k k).testBit m
          · rw [hb] at HHAS
            have HB := Lib.hid hb
            clear hb
            go_wp2_with (go_at_call 70; refine (HHAS.out _).mono ?_; rintro e w6 ⟨rfl, n6⟩)
            go_roundw
            case rel => exact ⟨k + 1, by omega, by go_num, HN3.out.trans n6, by rw [HS1.out, HB.out]; exact H3.out.new n6, H4.out.new n6⟩
            case measure => simp [intOf]; omega
          · rw [hb] at HHAS
            have HB := Lib.hid hb
            have HOR := Lib.hid (or32 (chP (chM f n m) m k k) (chP (chM f n m) m k m) (HCB.out _ _ _) (HCB.out _ _ _))
            clear hb
            go_wp2_with (go_at_call 70; refine (HHAS.out _).mono ?_; rintro e w6 ⟨rfl, n6⟩)
            have d1 := (H3.out.new n6).at k (by omega)
            have d2 := (H3.out.new n6).at m (by omega)
            have f1 := (H3.out.new n6).froz k
            have k24 : (k : Int) < 24 := by omega
            have m24 : (m : Int) < 24 := by omega
            have N6 := Lib.hid n6
            clear n6
            go_region_law (fail)
            all_goals rw [HOR.out]
            all_goals go_wp2_with fail
            all_goals go_roundw
            all_goals first
              | exact ⟨k + 1, by omega, by go_num, ((HN3.out.trans N6.out).setCell (by rw [HH.out]; exact Nat.le_refl _) _).drew, by rw [HS1.out, HB.out]; exact ((H3.out.new N6.out).put _ _).new (New.refl _).drew, ((H4.out.new N6.out).other (by omega)).new (New.refl _).drew⟩
              | (simp [intOf]; omega)
        · have ht : ¬ ((k : Int) < (n : Int)) := by omega
          obtain rfl : n = k := by omega
          clear hnew h1 h2
          go_wp2_with fail
          go_roundw
          case rel => exact ⟨m + 1, by omega, by go_num, HN3.out, by simp only [chM]; exact H3.out, H4.out⟩
          case measure => simp [intOf]; omega
    · have ht : ¬ ((m : Int) < (n : Int)) := by omega
      go_wp2_with (first | (refine wpList_load_row rfl 81 (.tmp 2) rfl H rfl 81 _ (0, 0) _ H1.out Tryd.underlying81 rfl (links_sizeL _) ?_) | (refine wpList_store_row rfl 81 (.tmp 4) (.tmp 30) rfl (H + 1) (lk (chM f n m)).toArray rfl rfl 81 _ H2.out (links_sizeL _) (by simp [lk_len]) (lk_all _) ?_))
      refine bodyPost_ret (results_cell_row rfl _ _ (H + 1) _ _ _ _ rfl (setRow_heap _ _ _ _ _ _ H2.out) Tryd.underlying81 rfl (links_sizeL _)) rfl ?_
      obtain rfl : m = n := by omega
      exact ⟨rfl, HN.out.setRow (by rw [HH.out]; omega) _⟩
end Go.Proofs.YtiejefehcpfkaaaDoor
end

section
set_option linter.unusedSimpArgs false
set_option linter.unusedVariables false
set_option maxRecDepth 100000
namespace Go.Proofs.YtiejefehcpfkaaaDoor
open Go.RowKit

/-- a graph: how many places, the slices of the problem, and the four links -/
structure Gph where
  n : Nat
  av : Value
  nv : Value
  af : Nat → Nat
  re : Nat → Nat
  be : Nat → Nat
  ne : Nat → Nat
def Gph.cells (G : Gph) : List Value := .int .i64 (G.n : Int) :: G.av :: G.nv :: (lk G.af ++ (lk G.re ++ (lk G.be ++ lk G.ne)))
theorem Gph.len (G : Gph) : G.cells.length = 99 := by simp [Gph.cells, lk_len]
structure Gph.ok (G : Gph) : Prop where
  n24 : G.n ≤ 24
  a1 : G.av.oneCell' = true
  n1 : G.nv.oneCell' = true
  af : ∀ p, G.af p < 4294967296
  re : ∀ p, G.re p < 4294967296
  be : ∀ p, G.be p < 4294967296
  ne : ∀ p, G.ne p < 4294967296
theorem Gph.one {G : Gph} (h : G.ok) : ∀ v ∈ G.cells, v.oneCell' = true := by
  intro v hv
  simp only [Gph.cells, List.mem_cons, List.mem_append] at hv
  rcases hv with rfl | rfl | rfl | hv | hv | hv | hv
  · rfl
  · exact h.a1
  · exact h.n1
  all_goals exact lk_one _ v hv
theorem Gph.all {G : Gph} (h : G.ok) : G.cells.toArray.all (·.oneCell') = true := all_oneCell_toArray (Gph.one h)
theorem graph_size : (Tryd.prog.info? 83).map (·.size) = some 99 := by kernel_rfl
theorem graph_sizeG (G : Gph) : (Tryd.prog.info? 83).map (·.size) = some G.cells.toArray.size := by rw [List.size_toArray, Gph.len]; exact graph_size
def G0 : Gph := ⟨0, .slice none 0 0, .slice none 0 0, fun _ => 0, fun _ => 0, fun _ => 0, fun _ => 0⟩
theorem graph_zero : (Tryd.prog.info? 83).map (·.zero) = some (some (.agg G0.cells.toArray)) := by kernel_rfl
theorem G0_ok : G0.ok := ⟨by decide, rfl, rfl, fun _ => by show (0:Nat) < _; decide, fun _ => by show (0:Nat) < _; decide, fun _ => by show (0:Nat) < _; decide, fun _ => by show (0:Nat) < _; decide⟩
/-- the block g holds the graph -/
def Gr (w : World) (g : Nat) (G : Gph) : Prop := w.heap[g]? = some (.cells G.cells.toArray 83 (0, 0))
theorem Gr.lt {w : World} {g : Nat} {G : Gph} (h : Gr w g G) : g < w.heap.size := (Array.getElem?_eq_some_iff.1 h).1
theorem Gr.new {w w' : World} {g : Nat} {G : Gph} (h : Gr w g G) (hn : New w w') : Gr w' g G := row_new h hn
theorem Gr.cell {w : World} {g : Nat} {G : Gph} (h : Gr w g G) (i : Nat) : w.cell? ⟨g, i, none⟩ = G.cells[i]? := by
  rw [cell_of_row w g i _ _ _ h]; simp
theorem Gr.n {w : World} {g : Nat} {G : Gph} (h : Gr w g G) : w.cell? ⟨g, 0, none⟩ = some (.int .i64 (G.n : Int)) := by rw [h.cell]; rfl
theorem Gr.av {w : World} {g : Nat} {G : Gph} (h : Gr w g G) : w.cell? ⟨g, 1, none⟩ = some G.av := by rw [h.cell]; rfl
theorem Gr.nv {w : World} {g : Nat} {G : Gph} (h : Gr w g G) : w.cell? ⟨g, 2, none⟩ = some G.nv := by rw [h.cell]; rfl
theorem Gph.at_af (G : Gph) (p : Nat) (hp : p < 24) : G.cells[3 + p]? = some (sv (G.af p)) := by
  rw [show 3 + p = p + 1 + 1 + 1 by omega]
  simp only [Gph.cells, List.getElem?_cons_succ]
  rw [List.getElem?_append_left (by rw [lk_len]; exact hp), lk_at _ _ hp]
theorem Gph.at_re (G : Gph) (p : Nat) (hp : p < 24) : G.cells[27 + p]? = some (sv (G.re p)) := by
  rw [show 27 + p = (24 + p) + 1 + 1 + 1 by omega]
  simp only [Gph.cells, List.getElem?_cons_succ]
  rw [List.getElem?_append_right (by rw [lk_len]; omega), lk_len, show 24 + p - 24 = p by omega, List.getElem?_append_left (by rw [lk_len]; exact hp), lk_at _ _ hp]
theorem Gph.at_be (G : Gph) (p : Nat) (hp : p < 24) : G.cells[51 + p]? = some (sv (G.be p)) := by
  rw [show 51 + p = (48 + p) + 1 + 1 + 1 by omega]
  simp only [Gph.cells, List.getElem?_cons_succ]
  rw [List.getElem?_append_right (by rw [lk_len]; omega), lk_len, List.getElem?_append_right (by rw [lk_len]; omega), lk_len, show 48 + p - 24 - 24 = p by omega, List.getElem?_append_left (by rw [lk_len]; exact hp), lk_at _ _ hp]
theorem Gph.at_ne (G : Gph) (p : Nat) (hp : p < 24) : G.cells[75 + p]? = some (sv (G.ne p)) := by
  rw [show 75 + p = (72 + p) + 1 + 1 + 1 by omega]
  simp only [Gph.cells, List.getElem?_cons_succ]
  rw [List.getElem?_append_right (by rw [lk_len]; omega), lk_len, List.getElem?_append_right (by rw [lk_len]; omega), lk_len, List.getElem?_append_right (by rw [lk_len]; omega), lk_len, show 72 + p - 24 - 24 - 24 = p by omega, lk_at _ _ hp]
theorem Gr.re_range {w : World} {g : Nat} {G : Gph} (h : Gr w g G) : w.rangeAt g 27 (lk G.re) := fun j v hv => by
  have hj : j < 24 := by have := (List.getElem?_eq_some_iff.1 hv).1; rwa [lk_len] at this
  rw [lk_at _ _ hj] at hv
  rw [h.cell, G.at_re j hj, hv]
theorem Gr.af_range {w : World} {g : Nat} {G : Gph} (h : Gr w g G) : w.rangeAt g 3 (lk G.af) := fun j v hv => by
  have hj : j < 24 := by have := (List.getElem?_eq_some_iff.1 hv).1; rwa [lk_len] at this
  rw [lk_at _ _ hj] at hv
  rw [h.cell, G.at_af j hj, hv]
theorem Gr.box (w : World) (G : Gph) : Gr (w.alloc (.cells G.cells.toArray 83)) w.heap.size G := World.alloc_heap_new w _

/-- a circle among the first n places -/
def cirB (f : Nat → Nat) (n : Nat) : Bool := (List.range n).any fun p => (f p).testBit p
theorem any_snoc (f : Nat → Bool) (k : Nat) : (List.range (k + 1)).any f = ((List.range k).any f || f k) := by
  rw [List.range_succ, List.any_append]; simp

set_option maxHeartbeats 4000000 in
theorem circular_c (f : Nat → Nat) (n : Nat) (w : World) (hn : n ≤ 24) (hf : ∀ p, f p < 4294967296) : Calls Tryd.prog 114 #[.agg (lk f).toArray, .int .i64 (n : Int)] w fun e w' => e = .returned (.bool (cirB f n)) ∧ New w w' := by
  obtain ⟨L, hL⟩ : ∃ L, L = lk f := ⟨_, rfl⟩
  rw [← hL]
  have HL := Lib.hid hL
  have HCB := Lib.hid hf
  have HS := Lib.hid (show cirB f n = (List.range n).any fun p => (f p).testBit p from rfl)
  have HN0 := Lib.hid hn
  clear hL hf
  generalize cirB f n = R at *
  go_enter Tryd.func114, Tryd.ntmps114
  obtain ⟨H, hH⟩ : ∃ H, w.heap.size = H := ⟨_, rfl⟩
  have HH := Lib.hid hH
  go_wp2_with fail
  go_loopw [7] (fun i wr => ∃ m : Nat, m ≤ n ∧ i = .int .i64 m ∧ New w wr ∧ Lk wr H f ∧ ((List.range m).any fun p => (f p).testBit p) = false) (fun i _ => n - (intOf i).toNat)
  case atStart =>
    refine ⟨0, Nat.zero_le _, rfl, ((New.refl _).alloc _), ?_, by simp⟩
    rw [HL.out]; subst hH; exact World.alloc_heap_new w _
  case round =>
    clear hH
    obtain ⟨m, hm, rfl, hnew, h1, hany⟩ := hrel
    have HN := Lib.hid hnew
    have H1 := Lib.hid h1
    have HA := Lib.hid hany
    clear hany
    by_cases hlt : m < n
    · have hlt' : (m : Int) < (n : Int) := by omega
      have c1 := h1.at m (by omega)
      have m24 : (m : Int) < 24 := by omega
      have HHAS := Lib.hid (fun (w1 : World) => has_c (f m) m w1 (HCB.out _) (by omega))
      clear hnew h1
      cases hb : (f m).testBit m
      · rw [hb] at HHAS
        have HB := Lib.hid hb
        clear hb
        go_wp2_with (go_at_call 70; refine (HHAS.out _).mono ?_; rintro e w6 ⟨rfl, n6⟩)
        go_roundw
        case rel => exact ⟨m + 1, by omega, by go_num, HN.out.trans n6, H1.out.new n6, by rw [any_snoc, HA.out, HB.out]; rfl⟩
        case measure => simp [intOf]; omega
      · rw [hb] at HHAS
        have HR := Lib.hid (show true = R by rw [HS.out]; exact ((List.any_eq_true (p := fun p => (f p).testBit p)).2 ⟨m, List.mem_range.2 hlt, hb⟩).symm)
        clear hb
        go_wp2_with (go_at_call 70; refine (HHAS.out _).mono ?_; rintro e w6 ⟨rfl, n6⟩)
        go_ret
        exact ⟨ret_bool HR.out, HN.out.trans n6⟩
    · have ht : ¬ ((m : Int) < (n : Int)) := by omega
      have HR := Lib.hid (show false = R by rw [HS.out, show n = m by omega]; exact HA.out.symm)
      clear hnew h1
      go_wp2_with fail
      go_ret
      exact ⟨ret_bool HR.out, HN.out⟩

set_option maxHeartbeats 4000000 in
theorem all_c (G : Gph) (w : World) (hG : G.ok) : Calls Tryd.prog 98 #[.agg G.cells.toArray] w fun e w' => e = .returned (sv (fst G.n)) ∧ New w w' := by
  have HF := Lib.hid (fun w1 => firstPatches_c G.n w1 (by have := hG.n24; omega))
  have c0 := (Gr.box w G).n
  clear hG
  obtain ⟨L, hL⟩ : ∃ L, L = G.cells := ⟨_, rfl⟩
  rw [← hL] at c0 ⊢
  clear hL
  go_enter Tryd.func98, Tryd.ntmps98
  go_wp2_with (go_at_call 102; refine (HF.out _).mono ?_; rintro e w6 ⟨rfl, n6⟩)
  go_ret
  exact ⟨rfl, ((New.refl _).alloc _).trans n6⟩

set_option maxHeartbeats 4000000 in
theorem isPatch_c (G : Gph) (p : Int) (w : World) : Calls Tryd.prog 69 #[.agg G.cells.toArray, .int .i64 p] w fun e w' => e = .returned (.bool (decide (0 ≤ p) && decide (p < (G.n : Int)))) ∧ New w w' := by
  have c0 := (Gr.box w G).n
  obtain ⟨L, hL⟩ : ∃ L, L = G.cells := ⟨_, rfl⟩
  rw [← hL] at c0 ⊢
  clear hL
  by_cases h0 : 0 ≤ p
  · rw [decide_eq_true h0]
    go_enter Tryd.func69, Tryd.ntmps69
    go_wp2_with fail
    go_ret
    exact ⟨by simp, ((New.refl _).alloc _)⟩
  · rw [decide_eq_false h0]
    go_enter Tryd.func69, Tryd.ntmps69
    go_wp2_with fail
    go_ret
    exact ⟨by simp, ((New.refl _).alloc _)⟩

set_option maxHeartbeats 4000000 in
theorem checkOrdered_c (G : Gph) (w : World) (hG : G.ok) : Calls Tryd.prog 127 #[.agg G.cells.toArray] w fun e w' => e = .returned (.int .i64 (if cirB G.re G.n then 50 else 0)) ∧ New w w' := by
  have HF := Lib.hid (fun w1 => circular_c G.re G.n w1 hG.n24 hG.re)
  have c0 := (Gr.box w G).n
  have r0 := Lib.hid (Gr.box w G).re_range
  clear hG
  obtain ⟨L, hL⟩ : ∃ L, L = G.cells := ⟨_, rfl⟩
  rw [← hL] at c0 r0 ⊢
  clear hL
  cases hb : cirB G.re G.n
  all_goals
    rw [hb] at HF
    clear hb
    go_enter Tryd.func127, Tryd.ntmps127
    go_wp2_with (first | (refine wpList_load_mid rfl 81 (.tmp 3) rfl w.heap.size 27 rfl (lk G.re) _ r0.out Tryd.underlying81 rfl (by rw [lk_len]; exact links_size) ?_) | (go_at_call 114; refine (HF.out _).mono ?_; rintro e w6 ⟨rfl, n6⟩))
    go_ret
    exact ⟨rfl, ((New.refl _).alloc _).trans n6⟩
end Go.Proofs.YtiejefehcpfkaaaDoor
end
