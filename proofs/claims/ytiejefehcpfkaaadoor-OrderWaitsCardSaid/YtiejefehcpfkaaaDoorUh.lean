/- The reference's Chained: rows of answers in memory, laid out. Problems of at most 24 patches. · What follows by a chain: the program's masks and the reference's rows of answers say the same. -/
import Derived.Test.YtiejefehcpfkaaaDoorTr
import Derived.Test.YtiejefehcpfkaaaDoorSn

section
set_option linter.unusedSimpArgs false
set_option linter.unusedVariables false
set_option maxRecDepth 100000
namespace Go.Proofs.YtiejefehcpfkaaaDoor
open Go.RowKit Go.Shelf

attribute [local go_sem] Oper.semAt_some

def mrow (n : Nat) (f : Nat → Bool) : List Value := (List.range n).map fun b => .bool (f b)
def mtop (n k : Nat) (rb : Nat → Nat) : List Value := (List.range n).map fun a => if a < k then .slice (some ⟨rb a, 0, none⟩) n n else .slice none 0 0
theorem mrow_len (n : Nat) (f : Nat → Bool) : (mrow n f).length = n := by simp [mrow]
theorem mtop_len (n k : Nat) (rb : Nat → Nat) : (mtop n k rb).length = n := by simp [mtop]
theorem mrow_at {n : Nat} (f : Nat → Bool) {b : Nat} (h : b < n) : (mrow n f)[b]? = some (.bool (f b)) := by simp [mrow, h]
theorem mtop_at {n k : Nat} (rb : Nat → Nat) {a : Nat} (h : a < n) (hk : a < k) : (mtop n k rb)[a]? = some (.slice (some ⟨rb a, 0, none⟩) n n) := by simp [mtop, h, hk]
theorem mtop_no {n k : Nat} (rb : Nat → Nat) {a : Nat} (h : a < n) (hk : ¬ a < k) : (mtop n k rb)[a]? = some (.slice none 0 0) := by simp [mtop, h, hk]
def updB (f : Nat → Bool) (b : Nat) (x : Bool) : Nat → Bool := fun i => if i = b then x else f i
def upd2 (r : Nat → Nat → Bool) (a b : Nat) (x : Bool) : Nat → Nat → Bool := fun i => if i = a then updB (r a) b x else r i
theorem mrow_set (n : Nat) (f : Nat → Bool) (b : Nat) (x : Bool) : (mrow n f).set b (.bool x) = mrow n (updB f b x) := by
  apply List.ext_getElem?
  intro i
  rw [List.getElem?_set]
  by_cases hi : i < n
  · rw [mrow_at _ hi, mrow_len]
    by_cases e : b = i
    · subst e; rw [mrow_at _ hi]; simp [hi, updB]
    · simp [e, mrow_at _ hi, updB, Ne.symm e]
  · rw [List.getElem?_eq_none (by rw [mrow_len]; omega)]
    by_cases e : b = i
    · subst e; simp [mrow_len, hi]
    · rw [if_neg e, List.getElem?_eq_none (by rw [mrow_len]; omega)]
theorem mtop_set (n k : Nat) (rb : Nat → Nat) (g : Nat) (hk : k < n) : (mtop n k rb).set k (.slice (some ⟨g, 0, none⟩) n n) = mtop n (k + 1) (fun a => if a = k then g else rb a) := by
  apply List.ext_getElem?
  intro i
  rw [List.getElem?_set]
  by_cases hi : i < n
  · rw [mtop_len]
    by_cases e : k = i
    · subst e
      rw [mtop_at (k := k + 1) _ hi (by omega)]; simp [hi]
    · rw [if_neg e]
      by_cases h : i < k
      · rw [mtop_at _ hi h, mtop_at _ hi (by omega)]; simp [Ne.symm e]
      · rw [mtop_no _ hi h, mtop_no _ hi (by omega)]
  · rw [List.getElem?_eq_none (l := mtop n (k + 1) _) (by rw [mtop_len]; omega), if_neg (by omega), List.getElem?_eq_none (by rw [mtop_len]; omega)]
theorem bool_info : (Tryd.prog.info? 4).map (fun i => (i.zero, i.size, i.bytes)) = some (some (.bool false), 1, 1) := by kernel_rfl
theorem bsl_info : (Tryd.prog.info? 93).map (fun i => (i.zero, i.size, i.bytes)) = some (some (.slice none 0 0), 1, 24) := by kernel_rfl
theorem made_row (n : Nat) : madeCells #[Value.bool false] n = (mrow n fun _ => false).toArray := by
  apply Array.ext'
  simp [madeCells, mrow]
  intro a _
  rw [Nat.mod_one]; rfl
theorem made_top (n : Nat) (rb : Nat → Nat) : madeCells #[Value.slice none 0 0] n = (mtop n 0 rb).toArray := by
  apply Array.ext'
  simp [madeCells, mtop]
  intro a _
  rw [Nat.mod_one]; rfl
theorem make_row (n : Nat) (hn : n ≤ 1000) (W : World) : (Instr.makeSlice 93 (.int .i64 (n : Int)) (.int .i64 (n : Int))).run Tryd.prog W = .ok (.slice (some ⟨W.heap.size, 0, none⟩) n n) (W.alloc (.cells (mrow n fun _ => false).toArray 4)) := by
  have := run_make_row' (P := Tryd.prog) 93 4 (.bool false) 1 Tryd.underlying93 bool_info rfl .i64 .i64 n (by omega) (by omega) W
  rw [made_row] at this
  exact this
theorem make_top (n : Nat) (hn : n ≤ 1000) (W : World) : (Instr.makeSlice 91 (.int .i64 (n : Int)) (.int .i64 (n : Int))).run Tryd.prog W = .ok (.slice (some ⟨W.heap.size, 0, none⟩) n n) (W.alloc (.cells (mtop n 0 fun _ => 0).toArray 93)) := by
  have := run_make_row' (P := Tryd.prog) 91 93 (.slice none 0 0) 24 Tryd.underlying91 bsl_info rfl .i64 .i64 n (by omega) (by omega) W
  rw [made_top n fun _ => 0] at this
  exact this
/-- the first k rows of answers lie in memory; H: the problem's block -/
structure MtW (w : World) (H tb n k : Nat) (rb : Nat → Nat) (r : Nat → Nat → Bool) (wr : World) : Prop where
  nw : New w wr
  tp : wr.heap[tb]? = some (.cells (mtop n k rb).toArray 93 (0, 0))
  rs : ∀ a, a < k → wr.heap[rb a]? = some (.cells (mrow n (r a)).toArray 4 (0, 0)) ∧ tb < rb a
  ij : ∀ a b, a < k → b < k → rb a = rb b → a = b
  lt : w.heap.size ≤ H ∧ H < tb
theorem MtW.row {w : World} {H tb n k : Nat} {rb : Nat → Nat} {r : Nat → Nat → Bool} {wr : World} (h : MtW w H tb n k rb r wr) {a : Nat} (ha : a < k) (hn : a < n) : wr.cell? ⟨tb, a, none⟩ = some (.slice (some ⟨rb a, 0, none⟩) n n) := by
  rw [cell_of_row wr tb a _ _ _ h.tp]
  simpa using mtop_at rb hn ha
theorem MtW.bit {w : World} {H tb n k : Nat} {rb : Nat → Nat} {r : Nat → Nat → Bool} {wr : World} (h : MtW w H tb n k rb r wr) {a b : Nat} (ha : a < k) (hb : b < n) : wr.cell? ⟨rb a, b, none⟩ = some (.bool (r a b)) ∧ wr.frozen? ⟨rb a, b, none⟩ = false := by
  refine ⟨?_, ?_⟩
  · rw [cell_of_row wr (rb a) b _ _ _ (h.rs a ha).1]
    simpa using mrow_at (r a) hb
  · simp [World.frozen?, (h.rs a ha).1]
theorem MtW.put {w : World} {H tb n k : Nat} {rb : Nat → Nat} {r : Nat → Nat → Bool} {wr : World} (h : MtW w H tb n k rb r wr) {a b : Nat} (ha : a < k) (x : Bool) : MtW w H tb n k rb (upd2 r a b x) (wr.setCell ⟨rb a, b, none⟩ (.bool x)) := by
  have hl := h.lt
  have hr := (h.rs a ha).2
  refine ⟨h.nw.setCell (by show w.heap.size ≤ rb a; omega) _, (heap_setCell_other _ _ _ _ _ (by omega)).trans h.tp, fun i hi => ⟨?_, (h.rs i hi).2⟩, h.ij, h.lt⟩
  by_cases e : i = a
  · subst e
    rw [heap_setCell_same _ _ _ _ (h.rs i hi).1]
    simp [upd2, ← mrow_set]
  · rw [heap_setCell_other _ _ _ _ _ (fun h' => e (h.ij i a hi ha h')), (h.rs i hi).1]
    simp [upd2, e]
theorem MtW.low {w : World} {H tb n k : Nat} {rb : Nat → Nat} {r : Nat → Nat → Bool} {wr : World} (h : MtW w H tb n k rb r wr) {j : Nat} {o : Obj} (hj : wr.heap[j]? = some o) (hne : j ≤ H) (a b : Nat) (ha : a < k) (v : Value) : (wr.setCell ⟨rb a, b, none⟩ v).heap[j]? = some o :=
  (heap_setCell_other _ _ _ _ _ (by have := h.lt; have := (h.rs a ha).2; omega)).trans hj
/-- one row more -/
theorem MtW.grow {w : World} {H tb n k : Nat} {rb : Nat → Nat} {r : Nat → Nat → Bool} {wr : World} (h : MtW w H tb n k rb r wr) (hk : k < n) (hr : ∀ a b, r a b = false) : MtW w H tb n (k + 1) (fun a => if a = k then wr.heap.size else rb a) r ((wr.alloc (.cells (mrow n fun _ => false).toArray 4)).setCell ⟨tb, k, none⟩ (.slice (some ⟨wr.heap.size, 0, none⟩) n n)) := by
  have hl := h.lt
  have htl := (Array.getElem?_eq_some_iff.1 h.tp).1
  have hn : New wr (wr.alloc (.cells (mrow n fun _ => false).toArray 4)) := (New.refl _).alloc _
  refine ⟨(h.nw.trans hn).setCell (by show w.heap.size ≤ tb; omega) _, ?_, fun i hi => ?_, fun i j hi hj e => ?_, hl⟩
  · rw [heap_setCell_same _ _ _ _ (row_new h.tp hn), ← mtop_set n k rb wr.heap.size hk]
    simp
  · by_cases e : i = k
    · subst e
      refine ⟨?_, by simp; omega⟩
      simp only [if_true]
      rw [heap_setCell_other _ _ _ _ _ (by omega), World.alloc_heap_new wr _]
      have e2 : mrow n (r i) = mrow n fun _ => false := List.map_congr_left fun b _ => by rw [hr]
      rw [e2]
    · have h1 := h.rs i (by omega)
      have h2 := (Array.getElem?_eq_some_iff.1 h1.1).1
      simp only [if_neg e]
      exact ⟨(heap_setCell_other _ _ _ _ _ (by omega)).trans (row_new h1.1 hn), h1.2⟩
  · have hb : ∀ i, i < k → rb i < wr.heap.size := fun i hi => (Array.getElem?_eq_some_iff.1 (h.rs i hi).1).1
    split at e <;> split at e
    · omega
    · have := hb j (by omega); omega
    · have := hb i (by omega); omega
    · exact h.ij i j (by omega) (by omega) e
/-- a drawn region outside of rounds that ends in its operation number z: a store -/
theorem wp_region_lastP {P : Program} {ops : Array Oper} {Q : Exit → Act → World → Prop} {id : Nat} {a : Act} {w : World} (z : Nat) (S : World → Prop) {A : Act} (Wp : World → Prop) (hm : P.follows .mixedOrders = true)
    (h : wpAnyG P .any ops (QN fun a' w' => a' = A ∧ Wp w') S z ops.size (Array.replicate ops.size false) a w.drew) (hq : ∀ w', Wp w' → Q .normal A w') : (Code.region id ops true).wp P Q a w :=
  wp_mono (wp_region_any hm (any_of_G _ _ _ _ h)) (fun e a' w' h => by
    cases e with
    | normal => obtain ⟨e, hw⟩ := h; rw [e]; exact hq _ hw
    | _ => exact h.elim)
end Go.Proofs.YtiejefehcpfkaaaDoor
end

section
set_option linter.unusedSimpArgs false
set_option linter.unusedVariables false
namespace Go.Proofs.YtiejefehcpfkaaaDoor
open Go.RowKit Go.Shelf

/-- one place in between: both sides' inner loops (the row of a, by the row of c) -/
def wst (r : Nat → Nat → Bool) (c : Nat) : Nat → Nat → Bool := fun a b => r a b || (r a c && r c b)
def wsh (r : Nat → Nat → Bool) : Nat → Nat → Nat → Bool
  | 0 => r
  | k + 1 => wst (wsh r k) k
/-- a way whose places in between are less than n -/
inductive Pth (r : Nat → Nat → Bool) (n : Nat) : Nat → Nat → Prop
  | one {a b : Nat} : r a b = true → Pth r n a b
  | step {a c b : Nat} : r a c = true → c < n → Pth r n c b → Pth r n a b
theorem Pth.mono {r : Nat → Nat → Bool} {m n a b : Nat} (hmn : m ≤ n) (h : Pth r m a b) : Pth r n a b := by
  induction h with
  | one h => exact .one h
  | step h hc _ ih => exact .step h (by omega) ih
theorem Pth.append {r : Nat → Nat → Bool} {n a c b : Nat} (hc : c < n) (h : Pth r n a c) (k : Pth r n c b) : Pth r n a b := by
  induction h with
  | one h => exact .step h hc k
  | step h hd _ ih => exact .step h hd (ih hc k)
theorem wsh_pth {r : Nat → Nat → Bool} : ∀ k a b, wsh r k a b = true → Pth r k a b
  | 0, a, b, h => .one h
  | k + 1, a, b, h => by
    simp only [wsh, wst, Bool.or_eq_true, Bool.and_eq_true] at h
    rcases h with h | ⟨h1, h2⟩
    · exact (wsh_pth k a b h).mono (by omega)
    · exact ((wsh_pth k _ _ h1).mono (by omega)).append (by omega) ((wsh_pth k _ _ h2).mono (by omega))
theorem wsh_mono {r : Nat → Nat → Bool} : ∀ k a b, r a b = true → wsh r k a b = true
  | 0, _, _, h => h
  | k + 1, a, b, h => by simp [wsh, wst, wsh_mono k a b h]
theorem wsh_trans {r : Nat → Nat → Bool} : ∀ k c a b, c < k → wsh r k a c = true → wsh r k c b = true → wsh r k a b = true
  | 0, c, _, _, h, _, _ => by omega
  | k + 1, c, a, b, hc, h1, h2 => by
    have ih := wsh_trans (r := r) k
    simp only [wsh, wst, Bool.or_eq_true, Bool.and_eq_true] at h1 h2 ⊢
    by_cases e : c = k
    · subst e
      have h3 : wsh r c a c = true := h1.elim id (·.1)
      have h4 : wsh r c c b = true := h2.elim id (·.2)
      exact .inr ⟨h3, h4⟩
    · have hk : c < k := by omega
      rcases h1 with h1 | ⟨h1, h1'⟩ <;> rcases h2 with h2 | ⟨h2, h2'⟩
      · exact .inl (ih c a b hk h1 h2)
      · exact .inr ⟨ih c a k hk h1 h2, h2'⟩
      · exact .inr ⟨h1, ih c k b hk h1' h2⟩
      · exact .inr ⟨h1, h2'⟩
/-- WHAT BOTH SIDES RECKON IS WHAT A CHAIN LEADS TO -/
theorem wsh_iff {r : Nat → Nat → Bool} {n a b : Nat} : wsh r n a b = true ↔ Pth r n a b := by
  refine ⟨wsh_pth n a b, fun h => ?_⟩
  induction h with
  | one h => exact wsh_mono n _ _ h
  | step h hc _ ih => exact wsh_trans n _ _ _ hc (wsh_mono n _ _ h) ih
/-- in place, row by row and number by number, nothing else comes out: row a, done up to the place b, read while it is written -/
theorem wst_in_place (r : Nat → Nat → Bool) (c : Nat) : (∀ b, wst r c c b = r c b) ∧ ∀ a, wst r c a c = r a c := by
  constructor
  · intro b; simp only [wst]; cases r c c <;> cases r c b <;> rfl
  · intro a; simp only [wst]; cases r a c <;> cases r c c <;> rfl

/-- the reference's answers before chains: after the first k pairs -/
def rA (L : List (Int × Int)) : Nat → Nat → Nat → Bool
  | 0 => fun _ _ => false
  | k + 1 => upd2 (rA L k) (aN L k) (bN L k) true
theorem afF_bit (L : List (Int × Int)) : ∀ k a b, (afF L k a).testBit b = rA L k a b
  | 0, a, b => by simp [afF, rA]
  | k + 1, a, b => by
    have ih := afF_bit L k
    simp only [afF, rA, addL, upd, upd2, updB]
    by_cases e : a = aN L k
    · rw [if_pos e, if_pos e, Nat.testBit_or, Nat.testBit_two_pow, ih]
      by_cases f : b = bN L k
      · simp [updB, f]
      · simp [updB, f, Ne.symm f]
    · rw [if_neg e, if_neg e]; exact ih a b
/-- the row of the place in between stays while the rows are gone through -/
theorem chP_at (f : Nat → Nat) (m : Nat) : ∀ k, (chP f m k m = f m) ∧ ∀ q, chP f m k q = if q < k ∧ (f q).testBit m = true then f q ||| f m else f q
  | 0 => ⟨rfl, fun q => by rw [if_neg (by omega)]; rfl⟩
  | k + 1 => by
    obtain ⟨h1, h2⟩ := chP_at f m k
    have hk : chP f m k k = f k := by rw [h2, if_neg (by omega)]
    have h3 : ∀ q, chP f m (k + 1) q = if q < k + 1 ∧ (f q).testBit m = true then f q ||| f m else f q := by
      intro q
      simp only [chP]
      rw [hk, h1]
      by_cases hb : (f k).testBit m = true
      · rw [if_pos hb]
        unfold upd
        by_cases e : q = k
        · subst e; rw [if_pos rfl, if_pos ⟨by omega, hb⟩]
        · rw [if_neg e, h2]
          by_cases h : q < k
          · simp only [h, show q < k + 1 from by omega]
          · simp only [h, show ¬ q < k + 1 from by omega]
      · rw [if_neg hb, h2]
        by_cases e : q = k
        · subst e; rw [if_neg (fun h => hb h.2), if_neg (fun h => hb h.2)]
        · by_cases h : q < k
          · simp only [h, show q < k + 1 from by omega]
          · simp only [h, show ¬ q < k + 1 from by omega]
    refine ⟨?_, h3⟩
    rw [h3]; split
    · exact Nat.or_self _
    · rfl
theorem chM_bit (f : Nat → Nat) (n : Nat) : ∀ k, k ≤ n → ∀ a b, a < n → (chM f n k a).testBit b = wsh (fun a b => (f a).testBit b) k a b
  | 0, _, a, b, _ => rfl
  | k + 1, hk, a, b, ha => by
    have ih := chM_bit f n k (by omega)
    show (chP (chM f n k) k n a).testBit b = _
    rw [(chP_at (chM f n k) k n).2 a]
    simp only [wsh, wst]
    rw [← ih a b ha, ← ih a k ha, ← ih k b (by omega)]
    by_cases h : (chM f n k a).testBit k = true
    · rw [if_pos ⟨ha, h⟩, Nat.testBit_or, h, Bool.true_and]
    · rw [if_neg (fun x => h x.2)]
      rw [Bool.not_eq_true] at h
      rw [h, Bool.false_and, Bool.or_false]
/-- one place in between, the rows before a done, and row a up to the place b; rows of n places -/
def inB (n : Nat) (r : Nat → Nat → Bool) (c a b : Nat) : Nat → Nat → Bool := fun i j => if j < n ∧ (i < a ∨ (i = a ∧ j < b)) then wst r c i j else r i j
theorem inB_zero (n : Nat) (r : Nat → Nat → Bool) (c : Nat) : inB n r c 0 0 = r := by funext i j; unfold inB; rw [if_neg (by omega)]
theorem inB_row (n : Nat) (r : Nat → Nat → Bool) (c a : Nat) : inB n r c a n = inB n r c (a + 1) 0 := by
  funext i j; unfold inB
  by_cases h : j < n ∧ (i < a ∨ (i = a ∧ j < n))
  · rw [if_pos h, if_pos ⟨h.1, by omega⟩]
  · rw [if_neg h, if_neg (by omega)]
/-- read while it is written: what the store is given -/
theorem inB_step (n : Nat) (r : Nat → Nat → Bool) (c a b : Nat) (hb : b < n) (hc : c < n) :
    (inB n r c a b a b || (inB n r c a b a c && inB n r c a b c b)) = wst r c a b ∧ upd2 (inB n r c a b) a b (wst r c a b) = inB n r c a (b + 1) := by
  constructor
  · have h1 : inB n r c a b a b = r a b := by unfold inB; rw [if_neg (by omega)]
    have h2 : inB n r c a b a c = r a c := by
      unfold inB; split
      · exact (wst_in_place r c).2 a
      · rfl
    have h3 : inB n r c a b c b = r c b := by
      unfold inB; split
      · exact (wst_in_place r c).1 b
      · rfl
    rw [h1, h2, h3]; rfl
  · funext i j
    unfold upd2 updB inB
    by_cases e : i = a
    · subst e
      rw [if_pos rfl]
      by_cases f : j = b
      · subst f
        rw [if_pos rfl, if_pos ⟨hb, .inr ⟨rfl, by omega⟩⟩]
      · rw [if_neg f]
        by_cases h : j < n ∧ (i < i ∨ (i = i ∧ j < b))
        · rw [if_pos h, if_pos ⟨h.1, .inr ⟨rfl, by omega⟩⟩]
        · rw [if_neg h, if_neg (by omega)]
    · rw [if_neg e]
      by_cases h : j < n ∧ (i < a ∨ (i = a ∧ j < b))
      · rw [if_pos h, if_pos ⟨h.1, by omega⟩]
      · rw [if_neg h, if_neg (by omega)]
/-- the reference's answers after k places in between -/
def wsN (n : Nat) (r : Nat → Nat → Bool) : Nat → Nat → Nat → Bool
  | 0 => r
  | k + 1 => inB n (wsN n r k) k n 0
theorem wsN_eq (n : Nat) (r : Nat → Nat → Bool) : ∀ k, k ≤ n → ∀ a b, a < n → b < n → wsN n r k a b = wsh r k a b
  | 0, _, _, _, _, _ => rfl
  | k + 1, hk, a, b, ha, hb => by
    have ih := wsN_eq n r k (by omega)
    simp only [wsN, inB, wsh, wst]
    rw [if_pos ⟨hb, .inl ha⟩, ih a b ha hb, ih a k ha (by omega), ih k b (by omega) hb]
/-- THE LINK: both sides' chains -/
theorem chain_eq (L : List (Int × Int)) (k n : Nat) {a b : Nat} (ha : a < n) (hb : b < n) : (chM (afF L k) n n a).testBit b = wsN n (rA L k) n a b := by
  rw [chM_bit _ n n (Nat.le_refl _) a b ha, wsN_eq n _ n (Nat.le_refl _) a b ha hb]
  congr 1
  funext x y; exact afF_bit L k x y
end Go.Proofs.YtiejefehcpfkaaaDoor
end
