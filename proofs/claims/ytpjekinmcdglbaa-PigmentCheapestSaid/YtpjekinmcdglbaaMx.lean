/- The recipe of the tints of a frame that gives a shade: mixture. Entries from -10000 to 10000, one to four places. -/
import Derived.Test.YtpjekinmcdglbaaWe
import Derived.Test.YtpjekinmcdglbaaCe
import Derived.Deep.DeepCutAuto
import Derived.Deep.RegionLaw
set_option linter.unusedSimpArgs false
set_option linter.unusedVariables false
set_option maxRecDepth 100000
namespace Go.Proofs.Ytpjekinmcdglbaa
open Go.RowKit

theorem part_info : (Try.prog.info? 64).map (fun i => (i.zero, i.size, i.bytes)) = some (some (.agg #[.int .i64 0, .int .i64 0]), 2, 16) := by kernel_rfl

def row1 (a b c : Int) : Nat → Int := fun k => if k = 0 then 1 else if k = 1 then a else if k = 2 then b else c
def okAt (W : Nat → Int) (l i : Nat) : Bool := (decide (i < l) == decide (0 < W i)) && !decide (W i < 0)
def okTo (W : Nat → Int) (l : Nat) : Nat → Bool
  | 0 => true
  | k + 1 => okTo W l k && okAt W l k
def gcTo (W : Nat → Int) : Nat → Int
  | 0 => 0
  | k + 1 => gcdI (gcTo W k) (W k)
def partCells : List (Int × Int) → List Value
  | [] => []
  | x :: l => .int .i64 x.1 :: .int .i64 x.2 :: partCells l
theorem partCells_len (l : List (Int × Int)) : (partCells l).length = l.length * 2 := by
  induction l with
  | nil => rfl
  | cons x l ih => simp [partCells, ih]; omega
theorem partCells_snoc (l : List (Int × Int)) (a b : Int) : partCells (l ++ [(a, b)]) = partCells l ++ [.int .i64 a, .int .i64 b] := by
  induction l with
  | nil => rfl
  | cons x l ih => simp [partCells, ih]
/-- the first k parts of the recipe -/
def mixTo (W : Nat → Int) (pl : List Nat) (k : Nat) : List (Int × Int) := (List.range k).map fun i => ((pl.getD i 0 : Int), (W i).tdiv (gcTo W 4))
theorem mixTo_succ (W : Nat → Int) (pl : List Nat) (k : Nat) : mixTo W pl (k + 1) = mixTo W pl k ++ [((pl.getD k 0 : Int), (W k).tdiv (gcTo W 4))] := by simp [mixTo, List.range_succ]
theorem mixTo_len (W : Nat → Int) (pl : List Nat) (k : Nat) : (mixTo W pl k).length = k := by simp [mixTo]
theorem gcdI_nonneg (a b : Int) : 0 ≤ gcdI a b := by unfold gcdI; omega
theorem gcTo_bd {W : Nat → Int} {l : Nat} (hb : ∀ i, i < 4 → W i ≤ 240000000000000000) : ∀ k, k ≤ 4 → okTo W l k = true → 0 ≤ gcTo W k ∧ gcTo W k ≤ 240000000000000000
  | 0, _, _ => by simp [gcTo]
  | k + 1, hk, h => by
    simp only [okTo, Bool.and_eq_true] at h
    have ih := gcTo_bd hb k (by omega) h.1
    have h2 := h.2
    unfold okAt at h2
    simp only [Bool.and_eq_true, Bool.not_eq_true', decide_eq_false_iff_not] at h2
    have := hb k (by omega)
    refine ⟨gcdI_nonneg _ _, ?_⟩
    simp only [gcTo]
    rcases Int.lt_or_eq_of_le (show 0 ≤ W k by omega) with h0 | h0
    · exact Int.le_trans (gcdI_pos _ _ h0).2 this
    · rw [← h0, gcdI_zero _ ih.1]; exact ih.2
theorem gcTo_pos {W : Nat → Int} {l : Nat} (hl : 0 < l) (hl4 : l ≤ 4) (hb : ∀ i, i < 4 → W i ≤ 240000000000000000) (h : okTo W l 4 = true) : 0 < gcTo W 4 := by
  have a1 : okTo W l 1 = true := by simp only [okTo, Bool.and_eq_true] at h ⊢; exact h.1.1.1
  have a2 : okTo W l 2 = true := by simp only [okTo, Bool.and_eq_true] at h ⊢; exact h.1.1
  have a3 : okTo W l 3 = true := by simp only [okTo, Bool.and_eq_true] at h ⊢; exact h.1
  have st : ∀ k, k < 4 → okTo W l (k + 1) = true → 0 < gcTo W k ∨ 0 < W k → 0 < gcTo W (k + 1) := fun k hk hok h0 => by
    simp only [okTo, Bool.and_eq_true] at hok
    have ih := gcTo_bd hb k (by omega) hok.1
    have h2 := hok.2
    unfold okAt at h2
    simp only [Bool.and_eq_true, Bool.not_eq_true', decide_eq_false_iff_not] at h2
    simp only [gcTo]
    rcases Int.lt_or_eq_of_le (show 0 ≤ W k by omega) with h1 | h1
    · exact (gcdI_pos _ _ h1).1
    · rw [← h1, gcdI_zero _ ih.1]
      rcases h0 with h0 | h0
      · exact h0
      · omega
  have w0 : 0 < W 0 := by
    have := a1
    simp only [okTo, Bool.true_and] at this
    unfold okAt at this
    simp only [Bool.and_eq_true, Bool.not_eq_true', decide_eq_false_iff_not, beq_iff_eq] at this
    have h1 := this.1
    rw [decide_eq_true hl] at h1
    exact of_decide_eq_true h1.symm
  exact st 3 (by omega) h (.inl (st 2 (by omega) a3 (.inl (st 1 (by omega) a2 (.inl (st 0 (by omega) a1 (.inr w0)))))))

/-- the cells that region 1 of mixture reads -/
def MxS (w : World) (f : Nat → Int) (a b c : Int) (w' : World) : Prop := w'.cell? ⟨w.heap.size, 0, none⟩ = some (.int .i64 (f 0)) ∧ w'.cell? ⟨w.heap.size, 1, none⟩ = some (.int .i64 (f 1)) ∧ w'.cell? ⟨w.heap.size, 2, none⟩ = some (.int .i64 (f 2)) ∧ w'.cell? ⟨w.heap.size, 3, none⟩ = some (.int .i64 (f 3)) ∧ w'.cell? ⟨w.heap.size, 4, none⟩ = some (.int .i64 (f 4)) ∧ w'.cell? ⟨w.heap.size, 5, none⟩ = some (.int .i64 (f 5)) ∧ w'.cell? ⟨w.heap.size, 6, none⟩ = some (.int .i64 (f 6)) ∧ w'.cell? ⟨w.heap.size, 7, none⟩ = some (.int .i64 (f 7)) ∧ w'.cell? ⟨w.heap.size, 8, none⟩ = some (.int .i64 (f 8)) ∧ w'.cell? ⟨w.heap.size, 9, none⟩ = some (.int .i64 (f 9)) ∧ w'.cell? ⟨w.heap.size, 10, none⟩ = some (.int .i64 (f 10)) ∧ w'.cell? ⟨w.heap.size, 11, none⟩ = some (.int .i64 (f 11)) ∧ w'.cell? ⟨w.heap.size, 12, none⟩ = some (.int .i64 (f 12)) ∧ w'.cell? ⟨w.heap.size, 13, none⟩ = some (.int .i64 (f 13)) ∧ w'.cell? ⟨w.heap.size, 14, none⟩ = some (.int .i64 (f 14)) ∧ w'.cell? ⟨w.heap.size, 15, none⟩ = some (.int .i64 (f 15)) ∧ w'.cell? ⟨w.heap.size + 1, 0, none⟩ = some (.int .i64 a) ∧ w'.cell? ⟨w.heap.size + 1, 1, none⟩ = some (.int .i64 b) ∧ w'.cell? ⟨w.heap.size + 1, 2, none⟩ = some (.int .i64 c)

theorem heap_l1 (X : World) (o : Obj) (d d' : Nat) (os os' : Array Obj) : (Aft ((Aft X d os).alloc o) d' os').heap[X.heap.size + os.size]? = some o := by
  have := World.alloc_heap_new (Aft X d os) o
  rw [size_aft] at this
  rw [heap_aft_old _ _ _ (by simp [size_aft])]; exact this
theorem heap_l2 (X : World) (o : Obj) (d : Nat) (os : Array Obj) : (Aft (X.alloc o).drew d os).heap[X.heap.size]? = some o := by
  rw [heap_aft_old _ _ _ (by show _ < (X.alloc o).heap.size; simp)]; exact World.alloc_heap_new X o
theorem heap_l3 (X : World) (o : Obj) (d : Nat) (os : Array Obj) : ((Aft X d os).alloc o).heap[X.heap.size + os.size]? = some o := by
  have := World.alloc_heap_new (Aft X d os) o
  rwa [size_aft] at this
theorem heap_l4 (X : World) (o : Obj) (d : Nat) (os : Array Obj) : (Aft (X.drew.alloc o) d os).heap[X.heap.size]? = some o := by
  rw [heap_aft_old _ _ _ (by show _ < (X.drew.alloc o).heap.size; simp [size_drew'])]; exact World.alloc_heap_new X.drew o

theorem heap_l5 (X : World) (o : Obj) (d : Nat) (os1 os2 : Array Obj) : ((Aft X d (os1 ++ os2)).alloc o).heap[X.heap.size + (os1.size + os2.size)]? = some o := by
  rw [← Array.size_append]; exact heap_l3 X o d _
theorem okTo_false {W : Nat → Int} {l k : Nat} (h : okAt W l k = false) : ∀ n, k < n → okTo W l n = false
  | n + 1, hk => by
    simp only [okTo, Bool.and_eq_false_iff]
    by_cases e : k = n
    · subst e; exact .inr h
    · exact .inl (okTo_false h n (by omega))
theorem index_four (V : Nat → Int) (k : Nat) (hk : k < 4) (w0 : World) : Sem.run Try.prog (Instr.index 47 (fourV V) (.int .i64 (k : Int))) w0 = .ok (.int .i64 (V k)) w0 := by
  have : k = 0 ∨ k = 1 ∨ k = 2 ∨ k = 3 := by omega
  rcases this with rfl | rfl | rfl | rfl <;> rfl

/-- the weights lie in a block of their own -/
def MxP (W3 : World) (V : Nat → Int) (s8 : Value) (wz : World) : Prop := ∃ g, s8 = .pointer (some ⟨g, 0, none⟩) ∧ wz.heap[g]? = some (.cells (arr4 V) 47 (0, 0)) ∧ New W3 wz ∧ W3.heap.size ≤ g

/-- what mixture returns -/
def MxR (w : World) (pl : List Nat) (V : Nat → Int) (en : Ending) (w' : World) : Prop :=
  ∃ sv ok, en = .returned (.tuple #[.agg #[sv], .bool ok]) ∧ ok = okTo V pl.length 4 ∧ New w w' ∧ ((ok = true ∧ w'.ownsRow w.heap.size 64 2 sv pl.length (partCells (mixTo V pl pl.length))) ∨ (ok = false ∧ sv = .slice none 0 0))

theorem own_ne {w : World} {base : Nat} {e : TypeId} {size n : Nat} {v : Value} {xs : List Value} (h : w.ownsRow base e size v n xs) {s : Nat} {o : Obj} (hs : w.heap[s]? = some o) (ho : ∀ cur, o ≠ .cells cur e (0, 0)) : v.ownBlock ≠ some s := by
  rcases h.2 with ⟨rfl, _⟩ | ⟨g, cap, cur, rfl, _, h2, _⟩
  · simp [Value.ownBlock]
  · simp only [Value.ownBlock, ne_eq, Option.some.injEq]
    intro e
    rw [e, hs] at h2
    injection h2 with h3
    exact ho cur h3

/-- what holds between two parts of the recipe -/
def MxL (w : World) (B g : Nat) (V : Nat → Int) (pl : List Nat) (k : Nat) (W : World) : Prop :=
  ∃ sv, New w W ∧ W.heap[B]? = some (.cells #[sv] 25 (0, 0)) ∧ W.heap[g]? = some (.cells (arr4 V) 47 (0, 0)) ∧ W.heap[w.heap.size + 1 + 1]? = some (.cells #[.slice none 0 0] 25 (0, 0)) ∧ W.ownsRow w.heap.size 64 2 sv k (partCells (mixTo V pl k))

set_option maxHeartbeats 16000000 in
theorem mixture_c (base : Nat) (pl : List Nat) (v : Value) (f : Nat → Int) (a b c : Int) (w : World) (hf : bd16 f) (ha : -10000 ≤ a ∧ a ≤ 10000) (hb : -10000 ≤ b ∧ b ≤ 10000) (hc : -10000 ≤ c ∧ c ≤ 10000) (hl1 : 1 ≤ pl.length) (hl4 : pl.length ≤ 4)
    (hv : w.ownsRow base 3 1 v pl.length (natCells pl)) :
    Calls Try.prog 63 #[v, frV f, vv a b c] w (MxR w pl (weI f (row1 a b c))) := by
  obtain ⟨av, cv, rfl⟩ := own_slice hv
  have HV := Lib.hid hv
  have hr4 : bd4 (row1 a b c) := by
    intro k hk
    unfold row1
    split
    · omega
    · split
      · exact ha
      · split
        · exact hb
        · exact hc
  have HRO := Lib.hid (fun (w1 : World) => rowOf_c a b c w1)
  have HWE := Lib.hid (show ∀ w1 : World, Calls Try.prog 83 #[frV f, .agg #[.int .i64 1, .int .i64 a, .int .i64 b, .int .i64 c]] w1 fun en w' => en = .returned (fourV (weI f (row1 a b c))) ∧ New w1 w' from fun w1 => weights_c f (row1 a b c) w1 hf hr4)
  have HWB := Lib.hid (show ∀ i, i < 4 → -240000000000000000 ≤ weI f (row1 a b c) i ∧ weI f (row1 a b c) i ≤ 240000000000000000 from fun i hi => sgmul_bd (sg1_bd _) (detI_bd (bd16_rowSet hf hr4 i)))
  clear hv hr4 hf ha hb hc
  generalize weI f (row1 a b c) = V at *
  have HS0 := Lib.hid (show ∀ W, New ((w.alloc (.cells (arr16 f) 107)).alloc (.cells #[.int .i64 a, .int .i64 b, .int .i64 c] 66)) W → MxS w f a b c W from fun W hW => by
    have h1 : W.heap[w.heap.size]? = some (.cells (arr16 f) 107 (0, 0)) := (hW.below.block _ (by simp <;> omega)).trans (by rw [Below.heap_alloc _ _ _ (by simp)]; exact World.alloc_heap_new _ _)
    have h2 : W.heap[w.heap.size + 1]? = some (.cells #[.int .i64 a, .int .i64 b, .int .i64 c] 66 (0, 0)) := (hW.below.block _ (by simp <;> omega)).trans (alloc2_new rfl)
    unfold MxS
    refine ⟨cell16 h1 0 (by omega), cell16 h1 1 (by omega), cell16 h1 2 (by omega), cell16 h1 3 (by omega), cell16 h1 4 (by omega), cell16 h1 5 (by omega), cell16 h1 6 (by omega), cell16 h1 7 (by omega), cell16 h1 8 (by omega), cell16 h1 9 (by omega), cell16 h1 10 (by omega), cell16 h1 11 (by omega), cell16 h1 12 (by omega), cell16 h1 13 (by omega), cell16 h1 14 (by omega), cell16 h1 15 (by omega), ?_, ?_, ?_⟩ <;> simp [World.cell?, h2])
  go_enter Try.func63, Try.ntmps63
  go_wp2_with fail
  obtain ⟨W3, hW3⟩ : ∃ W3, W3 = ((w.alloc (.cells (arr16 f) 107)).alloc (.cells #[.int .i64 a, .int .i64 b, .int .i64 c] 66)).alloc (.cells #[.slice none 0 0] 25) := ⟨_, rfl⟩
  have HSW := Lib.hid (show ∀ W, New W3 W → MxS w f a b c W from fun W hW => HS0.out W (by rw [hW3] at hW; exact ((New.refl _).alloc _).trans hW))
  have HN3 := Lib.hid (show New w W3 by rw [hW3]; exact (((New.refl _).alloc _).alloc _).alloc _)
  have HR3 := Lib.hid (show W3.heap[w.heap.size + 1 + 1]? = some (.cells #[.slice none 0 0] 25 (0, 0)) by rw [hW3]; exact (alloc3_heap _ _ _ _).2.2)
  have hs3 : w.heap.size + 2 < W3.heap.size := (Array.getElem?_eq_some_iff.1 HR3.out).1
  unfold arr16 at hW3
  rw [← hW3]
  clear hW3 HS0
  go_cut [8] (fun s8 wz => MxP W3 V s8 wz)
  case first =>
    have hh := HSW.out W3 (New.refl _)
    unfold MxS at hh
    go_region_held3 (fun w' => w'.cell? ⟨w.heap.size, 0, none⟩ = some (.int .i64 (f 0)) ∧ w'.cell? ⟨w.heap.size, 1, none⟩ = some (.int .i64 (f 1)) ∧ w'.cell? ⟨w.heap.size, 2, none⟩ = some (.int .i64 (f 2)) ∧ w'.cell? ⟨w.heap.size, 3, none⟩ = some (.int .i64 (f 3)) ∧ w'.cell? ⟨w.heap.size, 4, none⟩ = some (.int .i64 (f 4)) ∧ w'.cell? ⟨w.heap.size, 5, none⟩ = some (.int .i64 (f 5)) ∧ w'.cell? ⟨w.heap.size, 6, none⟩ = some (.int .i64 (f 6)) ∧ w'.cell? ⟨w.heap.size, 7, none⟩ = some (.int .i64 (f 7)) ∧ w'.cell? ⟨w.heap.size, 8, none⟩ = some (.int .i64 (f 8)) ∧ w'.cell? ⟨w.heap.size, 9, none⟩ = some (.int .i64 (f 9)) ∧ w'.cell? ⟨w.heap.size, 10, none⟩ = some (.int .i64 (f 10)) ∧ w'.cell? ⟨w.heap.size, 11, none⟩ = some (.int .i64 (f 11)) ∧ w'.cell? ⟨w.heap.size, 12, none⟩ = some (.int .i64 (f 12)) ∧ w'.cell? ⟨w.heap.size, 13, none⟩ = some (.int .i64 (f 13)) ∧ w'.cell? ⟨w.heap.size, 14, none⟩ = some (.int .i64 (f 14)) ∧ w'.cell? ⟨w.heap.size, 15, none⟩ = some (.int .i64 (f 15)) ∧ w'.cell? ⟨w.heap.size + 1, 0, none⟩ = some (.int .i64 a) ∧ w'.cell? ⟨w.heap.size + 1, 1, none⟩ = some (.int .i64 b) ∧ w'.cell? ⟨w.heap.size + 1, 2, none⟩ = some (.int .i64 c)) (first | exact HSW.out _ (by (repeat (first | exact New.refl _ | apply New.alloc | apply New.aft | apply New.drew | refine New.setCell ?_ ?_ _)); all_goals (first | done | (simp [size_aft]; done) | (simp [size_aft]; omega))) | (go_keep; done)) (first | (go_at_call 84; refine (HRO.out _).mono ?_; rintro e w1 ⟨rfl, pw, rfl⟩) | (go_at_call 83; refine (HWE.out _).mono ?_; rintro e w1 ⟨rfl, pw, rfl⟩))
    all_goals (go_wp2_with fail; go_meet)
    all_goals refine ⟨_, rfl, ?_, (by (repeat (first | exact New.refl _ | apply New.alloc | apply New.aft | apply New.drew | refine New.setCell ?_ ?_ _)); all_goals (first | done | (simp [size_aft]; done) | (simp [size_aft]; omega))), by omega⟩
    all_goals first
      | exact heap_l1 W3.drew _ _ _ _ _
      | exact heap_l2 W3 _ _ _
      | exact heap_l3 W3.drew _ _ _
      | exact heap_l4 W3 _ _ _
      | exact heap_l5 W3.drew _ _ _ _
  case rest =>
    obtain ⟨g, rfl, hg, hn, hg3⟩ := hcut
    obtain ⟨W5, rfl⟩ : ∃ W5 : World, W5 = wc := ⟨_, rfl⟩
    have HG := Lib.hid hg
    have HN5 := Lib.hid (HN3.out.trans hn)
    have HR5 := Lib.hid (show W5.heap[w.heap.size + 1 + 1]? = some (.cells #[.slice none 0 0] 25 (0, 0)) from (hn.below.block _ (by omega)).trans HR3.out)
    clear hg hn
    have hws : W3.heap.size ≤ W5.heap.size := by have := (Array.getElem?_eq_some_iff.1 HG.out).1; omega
    have e0 := cell4 HG.out 0 (by omega)
    have e1 := cell4 HG.out 1 (by omega)
    have e2 := cell4 HG.out 2 (by omega)
    have e3 := cell4 HG.out 3 (by omega)
    go_wp2_with fail
    clear e0 e1 e2 e3
    go_loopw [9, 20] (fun d i wr => ∃ k : Nat, k ≤ 4 ∧ i = .int .i64 (k : Int) ∧ d = .int .i64 (gcTo V k) ∧ okTo V pl.length k = true ∧ New W5 wr) (fun _ i _ => 4 - (intOf i).toNat)
    case atStart => exact ⟨0, by omega, rfl, rfl, rfl, New.refl _⟩
    case round =>
      obtain ⟨k, hk, rfl, rfl, hok, hnr⟩ := hrel
      have HOK := Lib.hid hok
      have HNR := Lib.hid hnr
      by_cases hlt : k < 4
      · have hx := index_four V k hlt
        have hgb := gcTo_bd (W := V) (l := pl.length) (fun i hi => (HWB.out i hi).2) k hk hok
        have hvb := HWB.out k hlt
        have ht4 : (k : Int) < 4 := by omega
        clear hok hnr
        by_cases u1 : k < pl.length
        · have u1i : (k : Int) < (pl.length : Int) := by omega
          by_cases u2 : 0 < V k
          · have u3 : ¬ V k < 0 := by omega
            have HOS := Lib.hid (show okTo V pl.length (k + 1) = true by simp only [okTo]; rw [HOK.out]; unfold okAt; simp [u1, u2, u3])
            have HGC := Lib.hid (fun w1 : World => gcd_c (gcTo V k) (V k) w1 (by omega) (by omega))
            go_wp2_with fail
            go_at_call 56
            refine (HGC.out _).mono ?_
            rintro e w6 ⟨rfl, hn6⟩
            have HN6 := Lib.hid (HNR.out.trans hn6)
            clear hn6
            go_wp2_with fail
            go_roundw
            case rel => exact ⟨k + 1, by omega, by go_num, rfl, HOS.out, HN6.out⟩
            case measure => simp [intOf]; omega
          · have u2i : V k ≤ 0 := by omega
            have HOF := Lib.hid (okTo_false (show okAt V pl.length k = false by unfold okAt; simp [u1, u2]) 4 hlt)
            have c6 := box_cell (show wr.heap[w.heap.size + 1 + 1]? = some (.cells #[.slice none 0 0] 25 (0, 0)) from (HNR.out.below.block _ (by omega)).trans HR5.out)
            have hsr : w.heap.size + 1 + 1 < wr.heap.size := by have := HNR.out.size; omega
            have HNW := Lib.hid (HN5.out.trans HNR.out)
            go_wp2_with fail
            exact bodyPost_ret (v := .tuple #[.agg #[.slice none 0 0], .bool false]) (by simp [results, Try.results63, go_sem, c6, hsr]) rfl ⟨_, false, rfl, HOF.out.symm, New.setCell HNW.out (by show w.heap.size ≤ w.heap.size + 1 + 1; omega) _, .inr ⟨rfl, rfl⟩⟩
        · have u1i : (pl.length : Int) ≤ (k : Int) := by omega
          by_cases u2 : 0 < V k
          · 
            have HOF := Lib.hid (okTo_false (show okAt V pl.length k = false by unfold okAt; simp [u1, u2]) 4 hlt)
            have c6 := box_cell (show wr.heap[w.heap.size + 1 + 1]? = some (.cells #[.slice none 0 0] 25 (0, 0)) from (HNR.out.below.block _ (by omega)).trans HR5.out)
            have hsr : w.heap.size + 1 + 1 < wr.heap.size := by have := HNR.out.size; omega
            have HNW := Lib.hid (HN5.out.trans HNR.out)
            go_wp2_with fail
            exact bodyPost_ret (v := .tuple #[.agg #[.slice none 0 0], .bool false]) (by simp [results, Try.results63, go_sem, c6, hsr]) rfl ⟨_, false, rfl, HOF.out.symm, New.setCell HNW.out (by show w.heap.size ≤ w.heap.size + 1 + 1; omega) _, .inr ⟨rfl, rfl⟩⟩
          · by_cases u3 : V k < 0
            · have u2i : V k ≤ 0 := by omega
              have HOF := Lib.hid (okTo_false (show okAt V pl.length k = false by unfold okAt; simp [u1, u2, u3]) 4 hlt)
              have c6 := box_cell (show wr.heap[w.heap.size + 1 + 1]? = some (.cells #[.slice none 0 0] 25 (0, 0)) from (HNR.out.below.block _ (by omega)).trans HR5.out)
              have hsr : w.heap.size + 1 + 1 < wr.heap.size := by have := HNR.out.size; omega
              have HNW := Lib.hid (HN5.out.trans HNR.out)
              go_wp2_with fail
              exact bodyPost_ret (v := .tuple #[.agg #[.slice none 0 0], .bool false]) (by simp [results, Try.results63, go_sem, c6, hsr]) rfl ⟨_, false, rfl, HOF.out.symm, New.setCell HNW.out (by show w.heap.size ≤ w.heap.size + 1 + 1; omega) _, .inr ⟨rfl, rfl⟩⟩
            · have u2i : V k ≤ 0 := by omega
              have u3i : 0 ≤ V k := by omega
              have HOS := Lib.hid (show okTo V pl.length (k + 1) = true by simp only [okTo]; rw [HOK.out]; unfold okAt; simp [u1, u2, u3])
              have HGC := Lib.hid (fun w1 : World => gcd_c (gcTo V k) (V k) w1 (by omega) (by omega))
              go_wp2_with fail
              go_at_call 56
              refine (HGC.out _).mono ?_
              rintro e w6 ⟨rfl, hn6⟩
              have HN6 := Lib.hid (HNR.out.trans hn6)
              clear hn6
              go_wp2_with fail
              go_roundw
              case rel => exact ⟨k + 1, by omega, by go_num, rfl, HOS.out, HN6.out⟩
              case measure => simp [intOf]; omega
      · obtain rfl : k = 4 := by omega
        have hG := gcTo_pos (W := V) (l := pl.length) (by omega) hl4 (fun i hi => (HWB.out i hi).2) hok
        have hgb := gcTo_bd (W := V) (l := pl.length) (fun i hi => (HWB.out i hi).2) 4 hk hok
        obtain ⟨i0, hi, hz0, hz1, hz2⟩ := info_parts part_info
        have hsr : W5.heap.size ≤ wr.heap.size := hnr.size
        have hsg := (Array.getElem?_eq_some_iff.1 HG.out).1
        have HNW := Lib.hid (HN5.out.trans hnr)
        have HM2 := Lib.hid (show ∀ k, mixTo V pl (k + 1) = mixTo V pl k ++ [((pl.getD k 0 : Int), (V k).tdiv (gcTo V 4))] from mixTo_succ V pl)
        generalize gcTo V 4 = G at *
        clear hok hnr
        go_wp2_with fail
        obtain ⟨B, hB⟩ : ∃ B, B = wr.heap.size := ⟨_, rfl⟩
        rw [← hB]
        obtain ⟨W6, hW6⟩ : ∃ W6, W6 = wr.alloc (.cells #[.slice none 0 0] 25) := ⟨_, rfl⟩
        have HN6 := Lib.hid (show New wr W6 by rw [hW6]; exact (New.refl _).alloc _)
        have HB6 := Lib.hid (show W6.heap[B]? = some (.cells #[.slice none 0 0] 25 (0, 0)) by rw [hW6, hB]; exact World.alloc_heap_new _ _)
        have HG6 := Lib.hid (show W6.heap[g]? = some (.cells (arr4 V) 47 (0, 0)) from (HN6.out.below.block _ (by omega)).trans ((HNR.out.below.block _ hsg).trans HG.out))
        have HR6 := Lib.hid (show W6.heap[w.heap.size + 1 + 1]? = some (.cells #[.slice none 0 0] 25 (0, 0)) from (HN6.out.below.block _ (by omega)).trans ((HNR.out.below.block _ (by omega)).trans HR5.out))
        rw [← hW6]
        have hB5 : W5.heap.size ≤ B := by omega
        clear hW6 hB
        go_loopw [42] (fun i wx => ∃ k : Nat, k ≤ pl.length ∧ i = .int .i64 (k : Int) ∧ MxL w B g V pl k wx) (fun i _ => pl.length - (intOf i).toNat)
        case atStart => exact ⟨0, by omega, rfl, .slice none 0 0, HNW.out.trans HN6.out, HB6.out, HG6.out, HR6.out, World.ownsRow_nil _ _ _ _⟩
        case round =>
          obtain ⟨k, hkl, rfl, hrl⟩ := hrel
          have HL := Lib.hid hrl
          obtain ⟨sv, q1, q2, q3, q4, q5⟩ := hrl
          obtain ⟨sa, sc, rfl⟩ := own_slice q5
          by_cases hlt2 : k < pl.length
          · obtain ⟨gx, cap, he, hg1, hg2⟩ := HV.out.form (by omega)
            injection he with he1 he2 he3
            subst he1
            subst he3
            have c1 := (own_cell (own_new HV.out q1) (natCells_at pl k hlt2)).1
            have hM := HM2.out k
            have HMK := Lib.hid hM
            generalize pl.getD k 0 = P at *
            have c2 := box_cell q2
            have c3 := cell4 q3 k (by omega)
            have hvb := HWB.out k (by omega)
            have hk4 : (k : Int) < 4 := by omega
            have hz : (G = 0) = False := eq_false (by omega)
            obtain ⟨t1, t2⟩ := tdiv_bd (V k) G hG 240000000000000000 (by omega) (by omega)
            have hq : IntKind.i64.wrap ((V k).tdiv G) = (V k).tdiv G := IntWalk.i64_in _ (by omega)
            have HQW := Lib.hid hq
            clear hq
            obtain ⟨Q, hQ⟩ : ∃ Q, Q = (V k).tdiv G := ⟨_, rfl⟩
            rw [← hQ] at hM
            have HQ := Lib.hid hQ
            have HOn := Lib.hid (show ∀ X, New wr X → X.ownsRow w.heap.size 64 2 (.slice sa k sc) k (partCells (mixTo V pl k)) from fun X hX => own_new q5 hX)
            have HSn := Lib.hid (show ∀ X, New wr X → X.cell? ⟨B, 0, none⟩ = some (.slice sa k sc) ∧ X.cell? ⟨g, k, none⟩ = some (.int .i64 (V k)) from fun X hX => ⟨(hX.cell (Array.getElem?_eq_some_iff.1 q2).1).trans c2.1, (hX.cell (Array.getElem?_eq_some_iff.1 q3).1).trans c3⟩)
            have HGn := Lib.hid (show ∀ X Y, New wr X → X.grownBy Y (Value.slice sa k sc).ownBlock → New w Y ∧ Y.heap[B]? = some (.cells #[.slice sa k sc] 25 (0, 0)) ∧ Y.heap[g]? = some (.cells (arr4 V) 47 (0, 0)) ∧ Y.heap[w.heap.size + 1 + 1]? = some (.cells #[.slice none 0 0] 25 (0, 0)) from fun X Y hX hY => by
              have hk : ∀ s o, wr.heap[s]? = some o → (∀ cur, o ≠ Obj.cells cur 64 (0, 0)) → Y.heap[s]? = some o := fun s o hs ho => by
                have h1 := (hX.below.block s (Array.getElem?_eq_some_iff.1 hs).1).trans hs
                exact (hY.block s (Array.getElem?_eq_some_iff.1 h1).1 (Ne.symm (own_ne (own_new q5 hX) h1 ho))).trans h1
              exact ⟨new_grown (q1.trans hX) hY q5, hk _ _ q2 (fun cur h => by cases h), hk _ _ q3 (fun cur h => by cases h), hk _ _ q4 (fun cur h => by cases h)⟩)
            have hsp : B < wr.heap.size ∧ g < wr.heap.size := ⟨(Array.getElem?_eq_some_iff.1 q2).1, (Array.getElem?_eq_some_iff.1 q3).1⟩
            obtain ⟨hsp1, hsp2⟩ := hsp
            have hnb := q1.size
            have hgB : ¬ g = B := fun e => by rw [e, q2] at q3; cases q3
            have hBg : ¬ B = g := fun e => hgB e.symm
            clear q1 q2 q3 q4 q5 hM t1 t2 hQ
            go_upto_region 14 with fail
            go_region_law (first | (refine step_append_lies _ ?_ (.tmp 48) (.tmp 56) 23 ?_ w.heap.size 64 i0 _ 2 16 Try.underlying23 hi hz0 hz1 hz2 rfl (by omega) (.slice sa k sc) k (partCells (mixTo V pl k)) ?_ ?_ ⟨wr.heap.size, 0, none⟩ 1 1 [.int .i64 (P : Int), .int .i64 (IntKind.i64.wrap ((V k).tdiv G))] ?_ rfl ?_ ?_ (by omega) ?_ ?_ ?_ _ rfl ?_; exact rfl; exact rfl; exact rfl; exact HOn.out _ (by (repeat (first | exact New.refl _ | apply New.alloc | apply New.aft | apply New.drew | refine New.setCell ?_ ?_ _)); all_goals (first | done | (simp [size_aft]; done) | (simp [size_aft]; omega))); exact rfl; (exact fun j u hu => cells_new wr _ _ _ rfl j u hu); (intro u hu; simp at hu; rcases hu with rfl | rfl <;> rfl); (unfold maxLen; omega); omega; (first | (simp [go_sem, size_drew']; omega) | omega); intro g4 cap4 w4 hown4 hgrow4 hor4 hlt4; rw [HQW.out, ← HQ.out] at hown4; have HS4 := Lib.hid (HGn.out _ _ (by (repeat (first | exact New.refl _ | apply New.alloc | apply New.aft | apply New.drew | refine New.setCell ?_ ?_ _)); all_goals (first | done | (simp [size_aft]; done) | (simp [size_aft]; omega))) hgrow4); have HO4 := Lib.hid hown4; have c4 := box_cell HS4.out.2.1; have c5 := cell4 HS4.out.2.2.1 k (by omega); clear hown4 hgrow4 hor4 hlt4))
            all_goals have HML := Lib.hid (show MxL w B g V pl (k + 1) (w4.setCell ⟨B, 0, none⟩ (.slice (some ⟨g4, 0, none⟩) (k + 1) cap4)) from by
              obtain ⟨z1, z2, z3, z4⟩ := HS4.out
              refine ⟨_, z1.setCell (by show w.heap.size ≤ B; omega) _, heap_setCell_same w4 B 0 _ z2, (heap_setCell_other _ _ _ _ _ hgB).trans z3, (heap_setCell_other _ _ _ _ _ (by omega)).trans z4, ?_⟩
              rw [HMK.out, partCells_snoc, ← HQ.out]
              exact own_keep HO4.out (fun g' hg' => heap_setCell_other _ _ _ _ _ (fun e => own_ne HO4.out z2 (fun cur h => by cases h) (by rw [hg', e]))))
            all_goals (go_wp2_with fail)
            all_goals go_roundw
            all_goals first
              | exact ⟨_, _, .int .i64 ((k : Int) + 1), ⟨k + 1, by omega, by go_num, HML.out⟩, rfl, rfl, rfl⟩
              | exact ⟨k + 1, by omega, by go_num, HML.out⟩
              | (simp [intOf]; omega)
          · obtain rfl : k = pl.length := by omega
            have c1 := box_cell q2
            have c2 := box_cell q4
            have HNf := Lib.hid q1
            have HO := Lib.hid q5
            have HR4 := Lib.hid q4
            clear q1 q2 q3 q4 q5
            go_wp2_with fail
            have HP := Lib.hid (show MxR w pl V (.returned (.tuple #[.agg #[.slice sa pl.length sc], .bool true])) (wr.setCell ⟨w.heap.size + 1 + 1, 0, none⟩ (.slice sa pl.length sc)) from
              ⟨_, true, rfl, HOK.out.symm, HNf.out.setCell (by show w.heap.size ≤ w.heap.size + 1 + 1; omega) _, .inl ⟨rfl, own_keep HO.out (fun g' hg' => heap_setCell_other _ _ _ _ _ (fun e => own_ne HO.out HR4.out (fun cur h => by cases h) (by rw [hg', e])))⟩⟩)
            refine bodyPost_ret (v := .tuple #[.agg #[.slice sa pl.length sc], .bool true]) (by simp [results, Try.results63, go_sem, c2]) rfl HP.out

end Go.Proofs.Ytpjekinmcdglbaa
