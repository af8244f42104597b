/- The reference's Reach at any input: what the program's Reach returns. At most 1000 tints. -/
import Derived.Test.YtpjekinmcdglbaaNo
import Derived.Test.YtpjekinmcdglbaaEg
import Derived.Test.YtpjekinmcdglbaaEc
set_option linter.unusedSimpArgs false
set_option linter.unusedVariables false
set_option maxRecDepth 100000
namespace Go.Proofs.Ytpjekinmcdglbaa
open Go.RowKit Go.Shelf

/-- the reference's recipes of k places -/
def rkL (T : List T5) (n : Nat) (x : V3) (k : Nat) : List (List (Int × Int)) := (chL n k).filterMap fun pl => rfR T pl x
theorem flat_congr {α β : Type} {f g : α → List β} : ∀ {l : List α}, (∀ x ∈ l, f x = g x) → l.flatMap f = l.flatMap g
  | [], _ => rfl
  | x :: l, h => by
    rw [List.flatMap_cons, List.flatMap_cons, h x (by simp), flat_congr (l := l) fun y hy => h y (List.mem_cons_of_mem _ hy)]
theorem fm_congr {α β : Type} {f g : α → Option β} : ∀ {l : List α}, (∀ x ∈ l, f x = g x) → l.filterMap f = l.filterMap g
  | [], _ => rfl
  | x :: l, h => by
    rw [List.filterMap_cons, List.filterMap_cons, h x (by simp), fm_congr (l := l) fun y hy => h y (List.mem_cons_of_mem _ hy)]
theorem rcpL_eq (T : List T5) (n : Nat) (a b c : Int) : rcpL T n a b c = (List.range 4).flatMap fun i => rkL T n ⟨a, b, c⟩ (i + 1) := by
  unfold rcpL freeTo
  rw [List.filterMap_flatMap]
  apply flat_congr
  intro i hi
  have hi4 : i < 4 := List.mem_range.1 hi
  rw [List.filterMap_filterMap]
  unfold rkL
  rw [chL_eq]
  apply fm_congr
  intro pl hpl
  have hl := (extL_mem hpl).1
  simp at hl
  exact (rec_eq T pl a b c (by omega) (by omega)).symm
/-- nothing yet -/
def noTo (T : List T5) (n : Nat) (x : V3) (k : Nat) : Prop := ∀ i, i < k → 1 ≤ i → rkL T n x i = []
theorem no_all {T : List T5} {n : Nat} {a b c : Int} (h : noTo T n ⟨a, b, c⟩ 5) : rcpL T n a b c = [] := by
  rw [rcpL_eq]
  simp only [List.flatMap_eq_nil_iff, List.mem_range]
  intro i hi
  exact h (i + 1) (by omega) (by omega)
theorem no_first {T : List T5} {n k j : Nat} {a b c : Int} {l : List Nat} {r : List (Int × Int)} (hk : 1 ≤ k) (hk4 : k ≤ 4) (h : noTo T n ⟨a, b, c⟩ k) (hj : ((chL n k).take j).filterMap (fun pl => rfR T pl ⟨a, b, c⟩) = []) (hl : (chL n k)[j]? = some l) (hr : rfR T l ⟨a, b, c⟩ = some r) : ∃ rest, rcpL T n a b c = r :: rest := by
  rw [rcpL_eq]
  have hk1 : rkL T n ⟨a, b, c⟩ k = r :: ((chL n k).drop (j + 1)).filterMap (fun pl => rfR T pl ⟨a, b, c⟩) := by
    unfold rkL
    conv => lhs; rw [← List.take_append_drop j (chL n k)]
    rw [List.filterMap_append, hj, List.nil_append]
    have hjl : j < (chL n k).length := by
      rcases Nat.lt_or_ge j (chL n k).length with h | h
      · exact h
      · rw [List.getElem?_eq_none h] at hl; cases hl
    rw [List.drop_eq_getElem_cons hjl]
    have : (chL n k)[j] = l := by rw [List.getElem?_eq_getElem hjl] at hl; injection hl
    rw [this, List.filterMap_cons, hr]
  obtain ⟨k', rfl⟩ : ∃ k', k = k' + 1 := ⟨k - 1, by omega⟩
  have hz : ∀ i, i < k' → rkL T n ⟨a, b, c⟩ (i + 1) = [] := fun i hi => h (i + 1) (by omega) (by omega)
  have key : ∀ m, m ≤ 4 → k' < m → ∃ rest, ((List.range m).flatMap fun i => rkL T n ⟨a, b, c⟩ (i + 1)) = r :: rest := by
    intro m
    induction m with
    | zero => intro _ h; omega
    | succ m ih =>
      intro hm hkm
      rw [List.range_succ, List.flatMap_append]
      by_cases e : k' = m
      · subst e
        have : ((List.range k').flatMap fun i => rkL T n ⟨a, b, c⟩ (i + 1)) = [] := by
          simp only [List.flatMap_eq_nil_iff, List.mem_range]
          exact hz
        rw [this, List.nil_append]
        simp only [List.flatMap_cons, List.flatMap_nil, List.append_nil]
        exact ⟨_, hk1⟩
      · obtain ⟨rest, hr⟩ := ih (by omega) (by omega)
        rw [hr]
        exact ⟨_, rfl⟩
  exact key 4 (by omega) (by omega)
theorem rk_snoc {T : List T5} {X : List (List Nat)} {x : V3} {j : Nat} {l : List Nat} (h : (X.take j).filterMap (fun pl => rfR T pl x) = []) (hl : X[j]? = some l) (hr : rfR T l x = none) : (X.take (j + 1)).filterMap (fun pl => rfR T pl x) = [] := by
  rw [List.take_add_one, hl, List.filterMap_append, h]
  simp [hr]
theorem no_succ {T : List T5} {n k : Nat} {x : V3} (h : noTo T n x k) (hj : ((chL n k).take (chL n k).length).filterMap (fun pl => rfR T pl x) = []) : noTo T n x (k + 1) := fun i hi h1 => by
  by_cases e : i = k
  · subst e; rw [List.take_length] at hj; exact hj
  · exact h i (by omega) h1

theorem rcp_lenR {T : List T5} {l : List Nat} {x : V3} {r : List (Int × Int)} (h : rfR T l x = some r) (hl : 1 ≤ l.length) : 0 < r.length := by
  unfold rfR at h
  split at h
  · injection h with h; subst h; unfold partsOf; simp; omega
  · cases h
theorem heap_aftQ (W : World) (d : Nat) (os : Array Obj) (o o' : Obj) {g : Nat} (h : W.heap.size < g) : (Aft (W.alloc o).drew d os).heap[g]? = (Aft (W.drew.alloc o') d os).heap[g]? := by
  have e : ∀ (X : World), (Aft X d os).heap = X.heap ++ os := fun X => rfl
  rw [e, e]
  have h1 : (W.alloc o).drew.heap.size = W.heap.size + 1 := by simp [size_drew']
  have h2 : (W.drew.alloc o').heap.size = W.heap.size + 1 := by simp [size_drew']
  rw [Array.getElem?_append_right (by omega), Array.getElem?_append_right (by omega), h1, h2]
theorem rr_results (tmps : Array Value) (W : World) (a : Nat) (sv : Value) (ok : Bool) (E : Int) (t : TypeId) (h4 : tmps.getD 4 undef = .pointer (some ⟨a, 0, none⟩)) (h5 : tmps.getD 5 undef = .bool ok) (h6 : tmps.getD 6 undef = .int .i64 E) (hA : W.heap[a]? = some (.cells #[sv] t (0, 0))) :
    (results Try.f16 tmps).run Try.prog W = .ok (.tuple #[.agg #[sv], .bool ok, .int .i64 E]) W := by
  have c1 := (box_cell hA).1
  simp only [Array.getD_eq_getD_getElem?] at h4 h5 h6
  simp [results, Try.results16, go_sem, h4, h5, h6, c1]

/-- the boxes of Reach: the shade, the recipe -/
def RrB (w W : World) (x : V3) : Prop := New w W ∧ W.heap[w.heap.size]? = some (.cells (cV3 x) 37 (0, 0)) ∧ W.heap[w.heap.size + 1]? = some (.cells #[.slice none 0 0] 25 (0, 0))
theorem RrB.new {w W V : World} {x : V3} (h : RrB w W x) (hn : New W V) : RrB w V x := by
  obtain ⟨h1, h2, h3⟩ := h
  exact ⟨h1.trans hn, (hn.below.block _ (Array.getElem?_eq_some_iff.1 h2).1).trans h2, (hn.below.block _ (Array.getElem?_eq_some_iff.1 h3).1).trans h3⟩

set_option maxHeartbeats 16000000 in
theorem rreach_any (tv : Option Addr) (m tc : Nat) (T : List T5) (a b c : Int) (w : World) (hm : m ≤ 1000) (hTl : T.length = m) (hT : 0 < m → ∃ b off, tv = some ⟨b, off, none⟩ ∧ Tnts w b off m T) :
    Calls Try.prog 16 #[.slice tv m tc, vv a b c] w (RaR w (isOf T m a b c) (wntE T a b c m) (rOf T m a b c)) := by
  have HW := Lib.hid (fun (w1 : World) (h1 : New w w1) => ref_wanted tv m tc T a b c w1 (by omega) (fun h => by obtain ⟨b, o, e, h2⟩ := hT h; exact ⟨b, o, e, h2.new h1⟩))
  have HIS := Lib.hid (show isOf T m a b c = (decide (wntE T a b c m = 0) && !(rcpL T m a b c).isEmpty) from rfl)
  have HRO := Lib.hid (show rOf T m a b c = if wntE T a b c m = 0 then (rcpL T m a b c).headD [] else [] from rfl)
  by_cases hz : wntE T a b c m = 0
  · obtain ⟨htn, ha, hb, hc⟩ := wntE_zero hTl hz
    obtain ⟨hchk, _⟩ := wntE_zero' hz
    have h1 := (chkE_zero hTl hchk).1
    obtain ⟨tb, off, rfl, hTn⟩ := hT (by omega)
    have hS : shOk T := tn_sh htn
    have hx : bdV 1000 ⟨a, b, c⟩ := ⟨⟨by simp only; omega, by simp only; omega⟩, ⟨by simp only; omega, by simp only; omega⟩, by simp only; omega, by simp only; omega⟩
    rw [hz] at HW
    rw [hz] at HIS
    rw [if_pos hz] at HRO
    simp only [decide_true, Bool.true_and] at HIS
    have HREC := Lib.hid (fun (W0 : World) (base : Nat) (pl : List Nat) (v : Value) (h0 : New w W0) (q1 : 1 ≤ pl.length) (q4 : pl.length ≤ 4) (ql : ∀ p ∈ pl, p < m) (hv : W0.ownsRow base 3 1 v pl.length (natCells pl)) => recR_c tb off m tc base T pl v ⟨a, b, c⟩ W0 (hTn.new h0) hS hm q1 q4 ql hx hv)
    have HCH := Lib.hid (fun (k : Nat) (hk : k ≤ 4) (W0 : World) => rchoices_c m k W0 hm hk)
    have HNO := Lib.hid (fun h => no_all (T := T) (n := m) (a := a) (b := b) (c := c) h)
    have HFI := Lib.hid (fun (k j : Nat) (l : List Nat) (r : List (Int × Int)) => no_first (T := T) (n := m) (k := k) (j := j) (a := a) (b := b) (c := c) (l := l) (r := r))
    rw [hz]
    clear hT hTn hS hx htn ha hb hc hchk h1 hz
    generalize rOf T m a b c = RO' at *
    generalize isOf T m a b c = IS' at *
    go_enter Try.func16, Try.ntmps16
    go_wp2_with fail
    obtain ⟨W1, hW1⟩ : ∃ W1, W1 = (w.alloc (.cells (cV3 ⟨a, b, c⟩) 37)).alloc (.cells #[.slice none 0 0] 25) := ⟨_, rfl⟩
    have HB1 := Lib.hid (show RrB w W1 ⟨a, b, c⟩ by
      rw [hW1]; exact ⟨((New.refl _).alloc _).alloc _, by rw [Below.heap_alloc _ _ _ (by simp)]; exact World.alloc_heap_new _ _, alloc2_new rfl⟩)
    rw [← hW1]
    clear hW1
    go_at_call 38
    refine (HW.out _ HB1.out.1).mono ?_
    rintro e w2 ⟨rfl, hn2⟩
    have HB2 := Lib.hid (HB1.out.new hn2)
    clear hn2 HB1
    go_wp2_with fail
    go_loopw [8] (fun i wr => ∃ k : Nat, 1 ≤ k ∧ k ≤ 5 ∧ i = .int .i64 (k : Int) ∧ noTo T m ⟨a, b, c⟩ k ∧ RrB w wr ⟨a, b, c⟩) (fun i _ => 5 - (intOf i).toNat)
    case atStart => exact ⟨1, by omega, by omega, rfl, (fun i h1 h2 => by omega), HB2.out⟩
    case round =>
      obtain ⟨k, hk1, hk5, rfl, hno, hbx⟩ := hrel
      have HBX := Lib.hid hbx
      have HN := Lib.hid hno
      clear hbx hno
      by_cases hlt : k ≤ 4
      · have hk4 : (k : Int) ≤ 4 := by omega
        go_wp2_with fail
        go_at_call 39
        refine (HCH.out k hlt _).mono ?_
        rintro e w3 ⟨sv, rfl, hn3, hll⟩
        have HB3 := Lib.hid (HBX.out.new hn3)
        obtain ⟨hs, hrow, hin⟩ := hll
        obtain ⟨sa, sc, rfl⟩ := own_slice hrow
        have HRW := Lib.hid hrow
        have hXl : (chL m k).length ≤ 9223372036854775807 := by
          rcases hrow.2 with ⟨_, h⟩ | ⟨_, _, _, _, _, _, h7, h8, _⟩
          · omega
          · unfold maxLen at h8; omega
        have HIN := Lib.hid hin
        have HME := Lib.hid (show ∀ l ∈ chL m k, l.length = k ∧ ∀ p ∈ l, p < m from fun l hl => chL_mem hl)
        have HNS := Lib.hid (fun h => no_succ (T := T) (n := m) (k := k) (x := ⟨a, b, c⟩) HN.out h)
        have HFK := Lib.hid (fun (j : Nat) (l : List Nat) (r : List (Int × Int)) => HFI.out k j l r hk1 hlt HN.out)
        clear hn3 hrow hin
        obtain ⟨X, hX⟩ : ∃ X, X = chL m k := ⟨_, rfl⟩
        rw [← hX] at HRW HIN HME HNS HFK hXl ⊢
        clear hX
        go_wp2_with fail
        go_loopw [10] (fun i wr => ∃ j : Nat, j ≤ X.length ∧ i = .int .i64 (j : Int) ∧ (X.take j).filterMap (fun pl => rfR T pl ⟨a, b, c⟩) = [] ∧ New w3 wr) (fun i _ => X.length - (intOf i).toNat)
        case atStart => exact ⟨0, Nat.zero_le _, rfl, by simp, New.refl _⟩
        case round =>
          obtain ⟨j, hj, rfl, hnil, hnew⟩ := hrel
          have HNIL := Lib.hid hnil
          have HNW := Lib.hid hnew
          by_cases hlt2 : j < X.length
          · have hj1 : (j : Int) < (X.length : Int) := by omega
            obtain ⟨l, hl⟩ : ∃ l, X[j]? = some l := ⟨_, List.getElem?_eq_getElem hlt2⟩
            obtain ⟨hll, hln⟩ := HME.out l (List.mem_of_getElem? hl)
            obtain ⟨h, hh1, hh2⟩ := HIN.out j l hl
            obtain ⟨gX, cX, he, hgX1, hgX2⟩ := HRW.out.form (by omega)
            injection he with he1 he2 he3
            subst he1
            subst he3
            have hgX : gX < wr.heap.size := Nat.lt_of_lt_of_le hgX2 hnew.size
            obtain ⟨sh, ch, rfl⟩ := own_slice hh2
            have HBr := Lib.hid (HB3.out.new hnew)
            have hbs := (Array.getElem?_eq_some_iff.1 HBr.out.2.1).1
            have HSW := Lib.hid (show ∀ Z, New wr Z → (Z.cell? ⟨gX, j, none⟩ = some (.slice sh l.length ch) ∧ Z.cell? ⟨w.heap.size, 0, none⟩ = some (.int .i64 a) ∧ Z.cell? ⟨w.heap.size, 1, none⟩ = some (.int .i64 b) ∧ Z.cell? ⟨w.heap.size, 2, none⟩ = some (.int .i64 c)) from fun Z hZ => by
              obtain ⟨z1, z2, z3⟩ := cells3 (HBr.out.new hZ).2.1
              exact ⟨(own_cell (own_new HRW.out (hnew.trans hZ)) hh1).1, z1, z2, z3⟩)
            have hh := HSW.out wr (New.refl _)
            have HRC := Lib.hid (fun (V : World) (hV : New wr V) => HREC.out V _ l _ ((HB3.out.1.trans hnew).trans hV) (by omega) (by omega) hln (own_new hh2 (hnew.trans hV)))
            have HSK := Lib.hid (fun hr => rk_snoc (x := (⟨a, b, c⟩ : V3)) (T := T) HNIL.out hl hr)
            have HFF := Lib.hid (fun r => HFK.out j l r HNIL.out hl)
            have HLL := Lib.hid (show 1 ≤ l.length by omega)
            clear hnil hnew hl hll hln hh1 hh2
            cases hR : rfR T l ⟨a, b, c⟩ with
            | none =>
              have HSK2 := Lib.hid (HSK.out hR)
              have HC := Lib.hid (show ∀ V, New wr V → Calls Try.prog 40 #[.slice (some ⟨tb, off, none⟩) m tc, .slice sh l.length ch, v3 ⟨a, b, c⟩] V fun e w' => e = .returned (.tuple #[.agg #[.slice none 0 0], .bool false]) ∧ New V w' from fun V hV => (HRC.out V hV).mono fun e w' => by
                rintro ⟨sv, hn, ⟨_, he, _⟩ | ⟨l', hl', _⟩⟩
                · exact ⟨he, hn⟩
                · rw [hR] at hl'; cases hl')
              clear hR HSK HFF HRC
              go_wp2_with fail
              go_upto_region 11 with fail
              go_cut [12] (fun s12 wz => s12 = .bool false ∧ New wr wz)
              case first =>
                go_region_held3 (fun w' => (w'.cell? ⟨gX, j, none⟩ = some (.slice sh l.length ch) ∧ w'.cell? ⟨w.heap.size, 0, none⟩ = some (.int .i64 a) ∧ w'.cell? ⟨w.heap.size, 1, none⟩ = some (.int .i64 b) ∧ w'.cell? ⟨w.heap.size, 2, none⟩ = some (.int .i64 c))) (first | (with_reducible refine HSW.out _ ?_; (repeat (first | exact New.refl _ | apply New.alloc | apply New.aft | apply New.drew)); done))
                  (first | (go_at_call 40; refine (HC.out _ ?_).mono ?_; (focus (repeat (first | exact New.refl _ | apply New.alloc | apply New.aft | apply New.drew))); rintro e w4 ⟨rfl, pw, rfl⟩))
                all_goals (go_wp2_with fail; go_meet)
                all_goals exact ⟨rfl, by (repeat (first | exact New.refl _ | apply New.alloc | apply New.aft | apply New.drew))⟩
              case rest =>
                obtain ⟨rfl, hn4⟩ := hcut
                have HN4 := Lib.hid (HNW.out.trans hn4)
                clear hn4 hh HSW
                go_wp2_with fail
                go_roundw
                case rel => exact ⟨j + 1, by omega, by go_num, HSK2.out, HN4.out⟩
                case measure => simp [intOf]; omega
            | some r =>
              have HC := Lib.hid (show ∀ V, New wr V → Calls Try.prog 40 #[.slice (some ⟨tb, off, none⟩) m tc, .slice sh l.length ch, v3 ⟨a, b, c⟩] V fun e w' => ∃ qa qc, e = .returned (.tuple #[.agg #[.slice qa r.length qc], .bool true]) ∧ New V w' ∧ w'.ownsRow V.heap.size 64 2 (.slice qa r.length qc) r.length (partCells r) from fun V hV => (HRC.out V hV).mono fun e w' => by
                rintro ⟨sv, hn, ⟨hl', _⟩ | ⟨l', hl', he, ho⟩⟩
                · rw [hR] at hl'; cases hl'
                · rw [hR] at hl'; injection hl' with hl'; subst hl'; obtain ⟨qa, qc, rfl⟩ := own_slice ho; exact ⟨qa, qc, he, hn, ho⟩)
              obtain ⟨rest, hrest⟩ := HFF.out r hR
              have HRL := Lib.hid (show RO' = r by rw [HRO.out, hrest]; rfl)
              have HIL := Lib.hid (show true = IS' by rw [HIS.out, hrest]; rfl)
              have hrl := rcp_lenR hR HLL.out
              clear hR HSK HFF HRC hrest
              go_wp2_with fail
              go_upto_region 11 with fail
              go_cut [11, 12] (fun s11 s12 wz => ∃ G qa qc, s11 = .pointer (some ⟨G, 0, none⟩) ∧ s12 = .bool true ∧ New wr wz ∧ wz.heap[G]? = some (.cells #[.slice qa r.length qc] 25 (0, 0)) ∧ wz.ownsRow wr.heap.size 64 2 (.slice qa r.length qc) r.length (partCells r))
              case first =>
                go_region_held3 (fun w' => (w'.cell? ⟨gX, j, none⟩ = some (.slice sh l.length ch) ∧ w'.cell? ⟨w.heap.size, 0, none⟩ = some (.int .i64 a) ∧ w'.cell? ⟨w.heap.size, 1, none⟩ = some (.int .i64 b) ∧ w'.cell? ⟨w.heap.size, 2, none⟩ = some (.int .i64 c))) (first | (with_reducible refine HSW.out _ ?_; (repeat (first | exact New.refl _ | apply New.alloc | apply New.aft | apply New.drew)); done))
                  (first | (go_at_call 40; refine (HC.out _ ?_).mono ?_; (focus (repeat (first | exact New.refl _ | apply New.alloc | apply New.aft | apply New.drew))); rintro e w4 ⟨qa, qc, rfl, ⟨pw, rfl⟩, hown⟩; have HOW := Lib.hid hown; clear hown))
                all_goals (go_wp2_with fail; go_meet)
                all_goals first
                  | exact ⟨_, qa, qc, rfl, rfl, (by (repeat (first | exact New.refl _ | apply New.alloc | apply New.aft | apply New.drew))), heap_aftA _ _ _ _, own_new HOW.out ((New.refl _).alloc _)⟩
                  | exact ⟨_, qa, qc, rfl, rfl, (by (repeat (first | exact New.refl _ | apply New.alloc | apply New.aft | apply New.drew))), heap_aftB _ _ _ _, own_base (own_keep HOW.out fun g hg => heap_aftQ _ _ _ _ _ (by have := (HOW.out.lt g hg).1; simp at this; omega)) (by simp)⟩
              case rest =>
                obtain ⟨G, qa, qc, rfl, rfl, hn4, hG, hown⟩ := hcut
                have HN4 := Lib.hid (HNW.out.trans hn4)
                have HB4 := Lib.hid (HBr.out.new hn4)
                have HG := Lib.hid hG
                have HOW := Lib.hid hown
                have c1 := box_cell hG
                have c2 := box_cell HB4.out.2.2
                have hs4 := (Array.getElem?_eq_some_iff.1 HB4.out.2.2).1
                have hsG := (Array.getElem?_eq_some_iff.1 hG).1
                clear hn4 hh HSW hG hown
                go_wp2_with fail
                refine bodyPost_ret (rr_results _ _ (w.heap.size + 1) (.slice qa r.length qc) true 0 _ rfl rfl rfl (heap_setCell_same _ _ 0 _ HB4.out.2.2)) rfl ⟨_, by rw [← HIL.out], ?_, HB4.out.1.setCell (by show w.heap.size ≤ w.heap.size + 1; omega) _⟩
                rw [HRL.out]
                exact RO.own hrl (own_keep HOW.out fun g hg => heap_setCell_other _ _ _ _ _ fun e => own_ne HOW.out HB4.out.2.2 (fun cur h => by cases h) (by rw [hg, e]))
          · obtain rfl : j = X.length := by omega
            have HNS2 := Lib.hid (HNS.out hnil)
            clear hnil hnew
            go_wp2_with fail
            go_roundw
            case rel => exact ⟨k + 1, by omega, by omega, by go_num, HNS2.out, HB3.out.new HNW.out⟩
            case measure => simp [intOf]; omega
      · obtain rfl : k = 5 := by omega
        have HE := Lib.hid (HNO.out HN.out)
        have HRL := Lib.hid (show RO' = [] by rw [HRO.out, HE.out]; rfl)
        have HIL := Lib.hid (show false = IS' by rw [HIS.out, HE.out]; rfl)
        have c2 := box_cell HBX.out.2.2
        have hs4 := (Array.getElem?_eq_some_iff.1 HBX.out.2.2).1
        go_wp2_with fail
        refine bodyPost_ret (rr_results _ _ (w.heap.size + 1) (.slice none 0 0) false 0 _ rfl rfl rfl (heap_setCell_same _ _ 0 _ HBX.out.2.2)) rfl ⟨_, by rw [← HIL.out], ?_, HBX.out.1.setCell (by show w.heap.size ≤ w.heap.size + 1; omega) _⟩
        rw [HRL.out]
        exact RO.nil _
  · have hzz : (wntE T a b c m == 0) = false := by simpa using hz
    have HRL := Lib.hid (show rOf T m a b c = [] by rw [HRO.out, if_neg hz])
    have HIL := Lib.hid (show false = isOf T m a b c by rw [HIS.out, decide_eq_false hz]; rfl)
    clear HIS HRO hT
    generalize rOf T m a b c = RO' at *
    generalize isOf T m a b c = IS' at *
    generalize wntE T a b c m = E' at *
    go_enter Try.func16, Try.ntmps16
    go_wp2_with fail
    obtain ⟨W1, hW1⟩ : ∃ W1, W1 = (w.alloc (.cells (cV3 ⟨a, b, c⟩) 37)).alloc (.cells #[.slice none 0 0] 25) := ⟨_, rfl⟩
    have HB1 := Lib.hid (show RrB w W1 ⟨a, b, c⟩ by
      rw [hW1]; exact ⟨((New.refl _).alloc _).alloc _, by rw [Below.heap_alloc _ _ _ (by simp)]; exact World.alloc_heap_new _ _, alloc2_new rfl⟩)
    rw [← hW1]
    clear hW1
    go_at_call 38
    refine (HW.out _ HB1.out.1).mono ?_
    rintro e w2 ⟨rfl, hn2⟩
    have HB2 := Lib.hid (HB1.out.new hn2)
    have c2 := box_cell HB2.out.2.2
    have hs4 := (Array.getElem?_eq_some_iff.1 HB2.out.2.2).1
    clear hn2 HB1 hz
    go_wp2_with fail
    refine bodyPost_ret (rr_results _ _ (w.heap.size + 1) (.slice none 0 0) false E' _ rfl rfl rfl (heap_setCell_same _ _ 0 _ HB2.out.2.2)) rfl ⟨_, by rw [← HIL.out], ?_, HB2.out.1.setCell (by show w.heap.size ≤ w.heap.size + 1; omega) _⟩
    rw [HRL.out]
    exact RO.nil _

end Go.Proofs.Ytpjekinmcdglbaa
