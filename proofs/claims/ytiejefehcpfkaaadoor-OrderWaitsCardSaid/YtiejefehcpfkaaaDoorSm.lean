/- The places of a set, as its iterator yields them in ascending order. Sets of 32 places. · Functions that are ranged over, left by a return or by a jump to a block's end; a set's places ranged over by a loop whose values all lie below the loop's own blocks. Plain lemmas, but for the function that they range over. -/
import Derived.Test.YtiejefehcpfkaaaDoorSk
import Derived.Test.YtiejefehcpfkaaaDoorIt
import Derived.Shelf.Abstract
import Derived.OwnWalkIn
import Derived.TacticsInMore
import Derived.LoopNIn
import Derived.LoopIn
import Derived.RegionIn
import Derived.Laws.EntriesVeiled

section
set_option linter.unusedSimpArgs false
set_option linter.unusedVariables false
set_option maxRecDepth 100000
namespace Go.Proofs.YtiejefehcpfkaaaDoor
open Go.RowKit Go.Shelf

attribute [local go_sem] Oper.semAt_some

/-- a number whose least bit is t -/
theorem low_form {s t : Nat} (ht : s.testBit t = true) (hl : ∀ i, i < t → s.testBit i = false) : ∃ q, s = 2 ^ t * (2 * q + 1) := by
  have h0 : s % 2 ^ t = 0 := by
    apply Nat.eq_of_testBit_eq
    intro i
    rw [Nat.testBit_mod_two_pow, Nat.zero_testBit]
    by_cases h : i < t
    · simp [hl i h]
    · simp [h]
  have h1 : (s / 2 ^ t) % 2 = 1 := by
    rw [Nat.testBit_eq_decide_div_mod_eq] at ht
    simpa using ht
  refine ⟨s / 2 ^ t / 2, ?_⟩
  have h2 := Nat.div_add_mod s (2 ^ t)
  have h3 : 2 * (s / 2 ^ t / 2) + 1 = s / 2 ^ t := by omega
  rw [h3]; omega
/-- s & (s - 1) takes the least bit away -/
theorem drop_low {s t : Nat} (ht : s.testBit t = true) (hl : ∀ i, i < t → s.testBit i = false) (i : Nat) : (s &&& (s - 1)).testBit i = (s.testBit i && decide (i ≠ t)) := by
  obtain ⟨q, hq⟩ := low_form ht hl
  have hp : 0 < 2 ^ t := Nat.two_pow_pos t
  have e : s - 1 = 2 ^ t * (2 * q) + (2 ^ t - 1) := by
    rw [hq, Nat.mul_add, Nat.mul_one]; omega
  rw [Nat.testBit_and, e, Nat.testBit_two_pow_mul_add _ (by omega)]
  by_cases h : i < t
  · simp [hl i h]
  · rw [if_neg h]
    by_cases h2 : i = t
    · subst h2; simp [Nat.testBit_zero]
    · have h3 : s.testBit i = (2 * q + 1).testBit (i - t) := by
        rw [hq, Nat.testBit_two_pow_mul]; simp; omega
      rw [h3]
      obtain ⟨j, hj⟩ : ∃ j, i - t = j + 1 := ⟨i - t - 1, by omega⟩
      rw [hj, Nat.testBit_succ, Nat.testBit_succ]
      have a : (2 * q + 1) / 2 = q := by omega
      have b : 2 * q / 2 = q := by omega
      rw [a, b]
      simp [h2]
/-- the places of a set, ascending -/
def bitsOf (s : Nat) : List Nat := (List.range 32).filter fun i => s.testBit i
theorem bitsOf_mem {s p : Nat} : p ∈ bitsOf s ↔ p < 32 ∧ s.testBit p = true := by simp [bitsOf]
theorem bitsOf_asc (s : Nat) : (bitsOf s).Pairwise (· < ·) := List.Pairwise.filter _ List.pairwise_lt_range
theorem filter_low {f g : Nat → Bool} {t : Nat} (ht : f t = true) (hl : ∀ i, i < t → f i = false) (hg : ∀ i, g i = (f i && decide (i ≠ t))) : ∀ n, t < n → (List.range n).filter f = t :: (List.range n).filter g
  | 0 => fun h => by omega
  | n + 1 => fun h => by
    rw [List.range_succ, List.filter_append, List.filter_append]
    by_cases e : t = n
    · subst e
      have h1 : (List.range t).filter f = [] := List.filter_eq_nil_iff.2 fun i hi => by simp [hl i (List.mem_range.1 hi)]
      have h2 : (List.range t).filter g = [] := List.filter_eq_nil_iff.2 fun i hi => by simp [hg, hl i (List.mem_range.1 hi)]
      rw [h1, h2]
      simp [ht, hg]
    · rw [filter_low ht hl hg n (by omega)]
      have : g n = f n := by rw [hg]; simp; intro _ e'; exact e e'.symm
      simp [List.filter_cons, this]
/-- a step of the loop over a set: the least place, then the rest -/
theorem bitsOf_step {s t : Nat} (h32 : t < 32) (ht : s.testBit t = true) (hl : ∀ i, i < t → s.testBit i = false) : bitsOf s = t :: bitsOf (s &&& (s - 1)) :=
  filter_low ht hl (drop_low ht hl) 32 h32
theorem bitsOf_nil {s : Nat} (h : s < 2 ^ 32) : bitsOf s = [] ↔ s = 0 := by
  constructor
  · intro hb
    apply Nat.eq_of_testBit_eq
    intro i
    rw [Nat.zero_testBit]
    by_cases hi : i < 32
    · cases hs : s.testBit i
      · rfl
      · have := bitsOf_mem.2 ⟨hi, hs⟩; rw [hb] at this; cases this
    · exact Nat.testBit_lt_two_pow (Nat.lt_of_lt_of_le h (Nat.pow_le_pow_right (by omega) (by omega)))
  · rintro rfl; simp [bitsOf]
theorem and_pred_lt {r : Nat} (h : r ≠ 0) : r &&& (r - 1) < r := Nat.lt_of_le_of_lt Nat.and_le_right (by omega)
def ElemP (x : Nat) (args : Array Value) (O : Nat → Prop) (W : World) : Prop := args = #[.int .i64 (x : Int)]
set_option maxHeartbeats 8000000 in
theorem patches_c (s : Nat) (w : World) : Calls Tryd.prog 89 #[sv s] w fun e w' => e = .returned (.func (.func 140) #[] #[.pointer (some ⟨w.heap.size, 0, none⟩)]) ∧ w' = w.alloc (.cells #[sv s] 79) := by
  go_enter Tryd.func89, Tryd.ntmps89
  go_wp2_with fail
  go_ret
  exact ⟨rfl, rfl⟩

set_option maxHeartbeats 8000000 in
theorem patches_it (s sb : Nat) (hs : s < 4294967296) (W : World) (h1 : W.heap[sb]? = some (.cells #[sv s] 79 (0, 0))) (hT : Tab W) :
    IterAt Tryd.prog 140 #[.pointer (some ⟨sb, 0, none⟩)] ElemP (bitsOf s) (fun k => k = 0) W := by
  intro lp J hJs hJ hY
  have HJS := Lib.hid hJs
  have HJ := Lib.hid hJ
  have HY := Lib.hid hY
  have HT := Lib.hid hT
  have c1 := (box_cell h1).1
  have HS := Lib.hid hs
  clear hJs hJ hY hT h1
  show Calls _ _ #[.func (.yield lp) #[] #[], .pointer (some ⟨sb, 0, none⟩)] _ _
  refine (callsIn_wide (n := 5)).1 ?_
  refine callsIn_of_wp Tryd.func140 rfl trivial ?_ rfl
  simp only [Tryd.ntmps140, List.size_toArray, List.length_cons, List.length_nil, Nat.reduceAdd, Nat.reduceSub, Array.replicate_succ, Array.replicate_zero, List.push_toArray, List.append_toArray, List.nil_append, List.cons_append]
  gi_wp2
  gi_loopw [3] (fun v wr => ∃ (r : Nat) (done : List Nat), v = sv r ∧ r < 4294967296 ∧ done ++ bitsOf r = bitsOf s ∧ J (fun _ => False) done false wr ∧ Tab wr) (fun v _ => (intOf v).toNat)
  case atStart => exact ⟨s, [], rfl, HS.out, rfl, HJ.out, HT.out⟩
  case round =>
    clear c1
    obtain ⟨r, done, rfl, hr, hd, hJ, hT⟩ := hrel
    have HJ3 := Lib.hid hJ
    have HD := Lib.hid hd
    have HT3 := Lib.hid hT
    clear hd hJ hT
    by_cases h0 : r = 0
    · subst h0
      have HE := Lib.hid (show done = bitsOf s by have := HD.out; rw [(bitsOf_nil (s := 0) (by omega)).2 rfl] at this; simpa using this)
      gi_wp2
      go_end0
      exact ⟨⟨_, rfl⟩, _, _, false, HJ3.out, fun _ => HE.out, by rw [HE.out]; exact List.prefix_rfl⟩
    · have hr1 : ((r : Int) != 0) = true := by simpa using h0
      have HLE := Lib.hid (least_c r wr hr HT3.out)
      obtain ⟨t1, t2, t3⟩ := low_spec h0 hr
      have hstep := bitsOf_step t3 t1 t2
      have HP := Lib.hid (show done ++ [low r] <+: bitsOf s by rw [← HD.out, hstep]; exact ⟨bitsOf (r &&& (r - 1)), by simp⟩)
      have HD2 := Lib.hid (show (done ++ [low r]) ++ bitsOf (r &&& (r - 1)) = bitsOf s by rw [← HD.out, hstep]; simp)
      have HLT := Lib.hid (and_pred_lt h0)
      have HAN := Lib.hid (and32 r (r - 1) hr (by omega))
      have HSUB := Lib.hid (show ((r : Int) - 1) % 4294967296 = ((r - 1 : Nat) : Int) by omega)
      clear t1 t2 t3 hstep h0
      generalize low r = t at *
      gi_wp2
      refine ⟨trivial, ?_⟩
      gi_at_call 141
      refine ((callsIn_wide (n := 4)).2 HLE.out).mono ?_
      rintro e w6 ⟨rfl, n6⟩
      have hJ6 := HJS.out _ _ _ _ _ _ HJ3.out (Mod.of_new n6) (fun k hk => .inl hk)
      have HT6 := Lib.hid (HT3.out.new n6)
      obtain ⟨fn, tmps, assign, body, hy, hR⟩ := HY.out _ _ t #[.int .i64 (t : Int)] w6 hJ6 HP.out rfl (fun k hk => hk.elim) 4
      have HR := Lib.hid hR
      clear hR hJ6 n6
      gi_wp2
      refine HR.out.mono ?_
      rintro e W3 ⟨b, rfl, hJ3, hk3⟩
      have HT9 := Lib.hid (show Tab W3 from ⟨Nat.lt_of_lt_of_le HT6.out.1 hk3.size, fun j hj => by
        have := hk3.2 0 (.inr rfl) HT6.out.1
        have h2 := HT6.out.2 j hj
        simp only [World.cell?] at h2 ⊢
        rw [this]; exact h2⟩)
      cases b
      · have HF := Lib.hid hJ3
        clear hJ3 hk3 hy
        gi_wp2
        refine bodyPost_ret (results_none rfl _ _ _) rfl ?_
        exact ⟨⟨_, rfl⟩, _, _, true, HF.out, (fun h => by cases h), HP.out⟩
      · have HF := Lib.hid hJ3
        clear hJ3 hk3 hy
        gi_wp2
        rw [HSUB.out, HAN.out]
        go_roundw
        case rel => exact ⟨_, _, rfl, by have := HLT.out; omega, HD2.out, HF.out, HT9.out⟩
        case measure => have := HLT.out; simp [intOf]; omega
end Go.Proofs.YtiejefehcpfkaaaDoor
end

section
set_option linter.unusedSimpArgs false
set_option linter.unusedVariables false
set_option maxRecDepth 100000
namespace Go.Proofs.YtiejefehcpfkaaaDoor
open Go.RowKit

/-- what a round of the loop's body has to leave; pc: the jump by which it leaves the loop -/
def RoundG {α : Type} (D : Nat) (O E : Nat → Prop) (I : (Nat → Prop) → List α → Option Code → World → Prop) (done : List α) (W2 : World) (e : Exit) (W3 : World) : Prop :=
  Keep (fun k => plus D O k ∨ E k) W2 W3 ∧ ∃ pc, I (plus D O) done pc W3 ∧ (pc = none ∧ e = .normal ∨ pc = some .ret ∧ e = .ret ∨ ∃ id, pc = some (.exit id) ∧ e = .exit id)

theorem range_gen {P : Program} {n : Nat} {g : Operand} {ps : Array Tmp} {assign body : Code} {Q : Exit → Act → World → Prop} {a : Act} {w : World} {gf : Nat} {lb : Array Value} (h1 : 1 ≤ n) (hg : a.eval g = .func (.func gf) #[] lb) (eg : ∀ args w, (callFunc gf args).run P w = .ok (.enter gf args) w)
    {α : Type} {Elem : α → Array Value → (Nat → Prop) → World → Prop} {xs : List α} {E : Nat → Prop} (hit : ∀ W1, New w W1 → w.heap.size + 2 ≤ W1.heap.size → IterAt P gf lb Elem xs E W1) (hO0 : ∀ k, E k → k < w.heap.size)
    (hps : ∀ x args O W, Elem x args O W → args.size = ps.size)
    (I : (Nat → Prop) → List α → Option Code → World → Prop) (hI : ∀ O O' done pc W W', I O done pc W → Mod O W W' → (∀ k, O' k → O k ∨ W.heap.size ≤ k) → I O' done pc W') (h0 : I (plus w.heap.size fun _ => False) [] none w)
    (hbody : ∀ m O done x args W, I (plus w.heap.size O) done none W → Elem x args O W → done ++ [x] <+: xs → ¬ O (w.heap.size + 1) → ¬ O w.heap.size → (∃ r, W.heap[w.heap.size + 1]? = some (.loop r)) → (∀ k, O k → k < W.heap.size) →
      assign.wpIn (Fence.wide.inRound (w.heap.size + 1)) m P (Exit.then (fun a1 W1 => Keep (fun k => plus w.heap.size O k ∨ E k) W W1 ∧ ∀ W2, Below 0 W1 W2 → W2.heap.size ≤ W1.heap.size → (∀ k, k ≠ w.heap.size + 1 → W2.heap[k]? = W1.heap[k]?) → (∃ r, W2.heap[w.heap.size + 1]? = some (.loop r)) →
          body.wpIn (Fence.wide.inRound (w.heap.size + 1)) m P (fun e _ W3 => RoundG w.heap.size O E I (done ++ [x]) W2 e W3) a1 W2) (fun _ _ _ => False))
        { tmps := (ps.zip args).foldl (fun t (p, v) => t.setIfInBounds p v) a.tmps, defers := [] } W)
    (hdone : ∀ O W, I (plus w.heap.size O) xs none W → W.heap[w.heap.size]? = some (.deferred (some [])) → Q .normal { a with defers := { target := .collected w.heap.size, args := #[] } :: a.defers } W)
    (hstop : ∀ O done c W, I (plus w.heap.size O) done (some c) W → done <+: xs → W.heap[w.heap.size]? = some (.deferred (some [])) → c.wpIn Fence.wide n P Q { a with defers := { target := .collected w.heap.size, args := #[] } :: a.defers } W) :
    (Code.rangeFunc g ps assign body).wpIn Fence.wide n P Q a w := by
  refine wpIn_rangeFunc ?_
  intro fn _
  generalize hD : w.heap.size = D at *
  have recEq : ∀ st pe, (recL a D fn ps assign body st pe).pending = pe ∧ (recL a D fn ps assign body st pe).state = st := fun _ _ => ⟨rfl, rfl⟩
  obtain ⟨W1, hW1⟩ : ∃ W1, W1 = (w.alloc (.deferred (some []))).alloc (.loop (recL a D fn ps assign body .ready none)) := ⟨_, rfl⟩
  have hL1 : W1.heap[D + 1]? = some (.loop (recL a D fn ps assign body .ready none)) := by
    rw [hW1, ← hD]; have := World.alloc_heap_new (w.alloc (.deferred (some []))) (.loop (recL a D fn ps assign body .ready none)); rw [World.size_alloc] at this; rw [hD] at this ⊢; exact this
  have hK1 : W1.heap[D]? = some (.deferred (some [])) := by
    rw [hW1, ← hD]; exact (Below.heap_alloc _ _ _ (by simp)).trans (World.alloc_heap_new w _)
  have hN1 : New w W1 := by rw [hW1]; exact ((New.refl _).alloc _).alloc _
  refine ⟨D + 1, [{ target := .collected D, args := #[] }], W1, { target := .fn (.func gf) lb, args := #[.func (.yield (D + 1)) #[] #[]] }, W1, gf,
    #[.func (.yield (D + 1)) #[] #[]] ++ lb, W1, ?_, ?_, fun _ _ => trivial, ?_, fun _ => h1, ?_⟩
  · rw [hW1, ← hD]; exact run_enterLoop_outer _ _ _ _ _
  · simp only [resolve, hg]
    simp [go_sem]
  · simp [invoke, go_sem, eg]
  · refine callsIn_wide.2 ((hit W1 hN1 (by rw [hW1, ← hD]; simp) (D + 1) (fun O done b W => ∃ pc : Option Code, pc.isSome = b ∧ I (plus D O) done pc W ∧ Has O W (D + 1) (.loop (recL a D fn ps assign body (if b then .done else .ready) pc)) ∧ Has O W D (.deferred (some []))) ?_ ?_ ?_).mono ?_)
    · rintro O O' done b W W' ⟨pc, i0, i1, i2, i3⟩ hm ho
      refine ⟨pc, i0, hI _ _ _ _ _ _ i1 (hm.mono fun k hk => .inl hk) ?_, i2.stable hm ho, i3.stable hm ho⟩
      rintro k (hk | hk)
      · exact (ho k hk).imp .inl id
      · exact .inl (.inr hk)
    · refine ⟨none, rfl, hI _ _ _ _ _ _ h0 (Mod.of_new hN1) (fun k hk => .inl hk), ⟨(fun h => h), hL1⟩, ⟨(fun h => h), hK1⟩⟩
    · rintro O done x args W0 ⟨pc, hpc, i1, ⟨l1, l2⟩, ⟨d1, d2⟩⟩ hpre hel hbnd m
      obtain rfl : pc = none := by cases pc with | none => rfl | some c => cases hpc
      simp only [Bool.false_eq_true, if_false] at l2
      have hy := run_yield (P := P) (args := args) l2 (hps _ _ _ _ hel)
      refine ⟨fn, _, assign, body, hy, roundIn_of_wpIn trivial (wpIn_mono (hbody m O done x args W0 i1 hel hpre l1 d1 ⟨_, l2⟩ hbnd) ?_)⟩
      intro e a1 Wa h
      cases e with
      | normal =>
        obtain ⟨hk1, hb⟩ := h
        have l3 := hk1.at l2 (.inl (.inr (.inr rfl)))
        have hla := (Array.getElem?_eq_some_iff.1 l3).1
        refine ⟨_, run_beginRound l3 rfl, wpIn_mono (hb _ ⟨rfl, rfl, rfl, by rw [World.putObj_size]; exact Nat.le_refl _, fun k hk => by omega⟩ (by rw [World.putObj_size]; exact Nat.le_refl _) (fun k hk => World.putObj_heap_other hk) ⟨_, World.putObj_heap_same hla⟩) ?_⟩
        rintro e a3 W3 ⟨hk3, pc, hi, he⟩
        have l5 := hk3.at (World.putObj_heap_same hla) (.inl (.inr (.inr rfl)))
        have hl5 := (Array.getElem?_eq_some_iff.1 l5).1
        have hk1' : Keep (fun k => O k ∨ E k) W0 Wa := hk1.mono fun k hk => hk.imp .inl id
        have hk2' : Keep (fun k => O k ∨ E k) Wa (Wa.putObj (D + 1) (.loop (recL a D fn ps assign body .busy none))) := Keep.of_mod (Mod.putObj (O := fun k => k = D + 1) _ _ _ rfl) (fun k hk e => hk.elim (fun h => l1 (e ▸ h)) (fun h => by have := hO0 _ h; omega))
        have hk3' : Keep (fun k => O k ∨ E k) (Wa.putObj (D + 1) (.loop (recL a D fn ps assign body .busy none))) W3 := hk3.mono fun k hk => hk.imp .inl id
        have l6 : ∀ o, Keep (fun k => O k ∨ E k) W3 (W3.putObj (D + 1) o) := fun o => Keep.of_mod (Mod.putObj (O := fun k => k = D + 1) _ _ _ rfl) (fun k hk e => hk.elim (fun h => l1 (e ▸ h)) (fun h => by have := hO0 _ h; omega))
        have dk : W3.heap[D]? = some (.deferred (some [])) := by
          refine hk3.at ?_ (.inl (.inr (.inl rfl)))
          rw [World.putObj_heap_other (by omega)]
          exact hk1.at d2 (.inl (.inr (.inl rfl)))
        rcases he with ⟨rfl, rfl⟩ | ⟨rfl, rfl⟩ | ⟨id, rfl, rfl⟩
        · have h3 := run_endRound (P := P) none l5
          refine ⟨_, _, h3, true, rfl, ⟨none, rfl, hI _ _ _ _ _ _ hi (Mod.putObj _ _ _ (.inr (.inr rfl))) (fun k hk => .inl hk), ⟨l1, ?_⟩, ⟨d1, ?_⟩⟩, hk1'.trans (hk2'.trans (hk3'.trans (l6 _)))⟩
          · exact World.putObj_heap_same hl5
          · rw [World.putObj_heap_other (by omega)]; exact dk
        · have h3 := run_endRound (P := P) (some .ret) l5
          refine ⟨_, _, h3, false, rfl, ⟨some .ret, rfl, hI _ _ _ _ _ _ hi (Mod.putObj _ _ _ (.inr (.inr rfl))) (fun k hk => .inl hk), ⟨l1, ?_⟩, ⟨d1, ?_⟩⟩, hk1'.trans (hk2'.trans (hk3'.trans (l6 _)))⟩
          · exact World.putObj_heap_same hl5
          · rw [World.putObj_heap_other (by omega)]; exact dk
        · have h3 := run_endRound (P := P) (some (.exit id)) l5
          refine ⟨_, _, h3, false, rfl, ⟨some (.exit id), rfl, hI _ _ _ _ _ _ hi (Mod.putObj _ _ _ (.inr (.inr rfl))) (fun k hk => .inl hk), ⟨l1, ?_⟩, ⟨d1, ?_⟩⟩, hk1'.trans (hk2'.trans (hk3'.trans (l6 _)))⟩
          · exact World.putObj_heap_same hl5
          · rw [World.putObj_heap_other (by omega)]; exact dk
      | _ => exact h
    · rintro e W' ⟨⟨v, rfl⟩, O, done, b, ⟨pc, hpc, hi, ⟨l1, l2⟩, ⟨d1, d2⟩⟩, hfin, hpre⟩
      have hst : ∀ o, I (plus D O) done pc (W'.putObj (D + 1) o) := fun o => hI _ _ _ _ _ _ hi (Mod.putObj _ _ _ (.inr (.inr rfl))) (fun k hk => .inl hk)
      have hdk : ∀ o, (W'.putObj (D + 1) o).heap[D]? = some (.deferred (some [])) := fun o => by rw [World.putObj_heap_other (by omega)]; exact d2
      cases pc with
      | none =>
        obtain rfl : false = b := hpc
        obtain rfl := hfin rfl
        exact ⟨none, _, run_endLoop (P := P) l2 (by simp [recL]), hdone O _ (hst _) (hdk _)⟩
      | some c =>
        obtain rfl : true = b := hpc
        exact ⟨some c, _, run_endLoop (P := P) l2 (by simp [recL]), hstop O _ _ _ (hst _) hpre (hdk _)⟩

/-- a function leaves with marks alone among its deferred calls -/
theorem leaves_marks {P : Program} {F : Fence} {n : Nat} {fn : Func} {tmps : Array Value} {R : Ending → World → Prop} : ∀ (Ds : List Nat) (W : World), Ds.Nodup → (∀ D ∈ Ds, W.heap[D]? = some (.deferred (some []))) →
    (∀ W', Mod (fun k => k ∈ Ds) W W' → LeavesIn F n P fn tmps R [] .returning W') → LeavesInM F n P fn tmps R (Ds.map fun D => { target := .collected D, args := #[] }) .returning W
  | [], W, _, _, h => h W (Mod.refl _ _)
  | D :: Ds, W, hd, hW, h => by
    rw [List.nodup_cons] at hd
    refine ⟨by simp, .inl ⟨_, _, rfl, run_takeDeferred (hW D (by simp)), ?_⟩⟩
    refine leaves_marks Ds _ hd.2 (fun D' hD' => ?_) (fun W' hm => h W' ?_)
    · rw [World.putObj_heap_other (show D' ≠ D from fun e => hd.1 (e ▸ hD'))]
      exact hW D' (by simp [hD'])
    · exact (Mod.putObj (O := fun k => k ∈ D :: Ds) W D _ (by simp)).trans (hm.mono fun k hk => by simp [hk])

/-- W' lies over the first D blocks of W -/
structure Low (D : Nat) (W W' : World) : Prop where
  bl : Below 0 W W'
  sm : ∀ k, k < D → W'.heap[k]? = W.heap[k]?
theorem Low.of_mod {D : Nat} {O : Nat → Prop} {W W' : World} (h : Mod O W W') (hD : D ≤ W.heap.size) (ho : ∀ k, O k → D ≤ k) : Low D W W' :=
  ⟨h.1, fun k hk => h.2 k (by omega) (fun h' => by have := ho k h'; omega)⟩
theorem New.low {w W W' : World} {D : Nat} (h : New w W) (hl : Low D W W') (hD : w.heap.size ≤ D) : New w W' :=
  New.of_below ⟨hl.bl.os.trans h.below.os, hl.bl.tape.trans h.below.tape, hl.bl.output.trans h.below.output, Nat.le_trans h.size hl.bl.size, fun k hk => (hl.sm k (by omega)).trans (h.below.block k hk)⟩
theorem Low.at {D : Nat} {W W' : World} (h : Low D W W') {k : Nat} (hk : k < D) {o : Obj} (ho : W.heap[k]? = some o) : W'.heap[k]? = some o := (h.sm k hk).trans ho
theorem Tab.low {D : Nat} {W W' : World} (h : Tab W) (hl : Low D W W') (hD : 0 < D) : Tab W' :=
  ⟨Nat.lt_of_lt_of_le h.1 hl.bl.size, fun j hj => by
    have := h.2 j hj
    simp only [World.cell?, hl.sm _ hD] at this ⊢; exact this⟩

/-- what a round of such a loop has to leave -/
def RoundS (A : Nat → Prop) (I : List Nat → Option Code → World → Prop) (done : List Nat) (W2 : World) (e : Exit) (W3 : World) : Prop :=
  Mod A W2 W3 ∧ ∃ pc, I done pc W3 ∧ (pc = none ∧ e = .normal ∨ pc = some .ret ∧ e = .ret ∨ ∃ id, pc = some (.exit id) ∧ e = .exit id)
theorem RoundS.on {A : Nat → Prop} {I : List Nat → Option Code → World → Prop} {done : List Nat} {W2 W3 : World} (h : Mod A W2 W3) (hi : I done none W3) : RoundS A I done W2 .normal W3 := ⟨h, none, hi, .inl ⟨rfl, rfl⟩⟩
theorem RoundS.ret {A : Nat → Prop} {I : List Nat → Option Code → World → Prop} {done : List Nat} {W2 W3 : World} (h : Mod A W2 W3) (hi : I done (some .ret) W3) : RoundS A I done W2 .ret W3 := ⟨h, _, hi, .inr (.inl ⟨rfl, rfl⟩)⟩
theorem RoundS.exit {A : Nat → Prop} {I : List Nat → Option Code → World → Prop} {done : List Nat} {W2 W3 : World} {id : Nat} (h : Mod A W2 W3) (hi : I done (some (.exit id)) W3) : RoundS A I done W2 (.exit id) W3 := ⟨h, _, hi, .inr (.inr ⟨id, rfl, rfl⟩)⟩
/-- a loop over the places of a set, whose body changes blocks of A alone, and new ones -/
theorem range_set {n : Nat} {g : Operand} {ps : Array Tmp} {assign body : Code} {Q : Exit → Act → World → Prop} {a : Act} {w : World} (hn : 1 ≤ n) (s sb : Nat) (hs : s < 4294967296) (hg : a.eval g = .func (.func 140) #[] #[.pointer (some ⟨sb, 0, none⟩)])
    (h1 : w.heap[sb]? = some (.cells #[sv s] 79 (0, 0))) (hT : Tab w) (hps : ps.size = 1) (A : Nat → Prop) (hA : ∀ k, A k → k < w.heap.size ∧ k ≠ 0)
    (I : List Nat → Option Code → World → Prop) (hI : ∀ done pc W W', I done pc W → Low w.heap.size W W' → I done pc W') (h0 : I [] none w)
    (hbody : ∀ (m : Nat) (done : List Nat) (x : Nat) (rest : List Nat) (W : World), done ++ x :: rest = bitsOf s → I done none W → Tab W → New w W ∨ True → w.heap.size + 2 ≤ W.heap.size → (∀ k, A k → ∃ o, W.heap[k]? = some o) →
      assign.wpIn (Fence.wide.inRound (w.heap.size + 1)) m Tryd.prog (Exit.then (fun a1 W1 => W1 = W ∧ ∀ W2, Low w.heap.size W W2 → W2.heap.size = W.heap.size → Tab W2 → I done none W2 →
          body.wpIn (Fence.wide.inRound (w.heap.size + 1)) m Tryd.prog (fun e _ W3 => RoundS A I (done ++ [x]) W2 e W3) a1 W2) (fun _ _ _ => False))
        { tmps := (ps.zip #[.int .i64 (x : Int)]).foldl (fun t (p, v) => t.setIfInBounds p v) a.tmps, defers := [] } W)
    (hdone : ∀ W, I (bitsOf s) none W → Tab W → W.heap[w.heap.size]? = some (.deferred (some [])) → Q .normal { a with defers := { target := .collected w.heap.size, args := #[] } :: a.defers } W)
    (hstop : ∀ done c W, I done (some c) W → done <+: bitsOf s → Tab W → W.heap[w.heap.size]? = some (.deferred (some [])) → c.wpIn Fence.wide n Tryd.prog Q { a with defers := { target := .collected w.heap.size, args := #[] } :: a.defers } W) :
    (Code.rangeFunc g ps assign body).wpIn Fence.wide n Tryd.prog Q a w := by
  have hsb := (Array.getElem?_eq_some_iff.1 h1).1
  have hT0 := hT.1
  refine range_gen hn hg (enters_of Tryd.func140 (by kernel_rfl) rfl) (Elem := ElemP) (xs := bitsOf s) (E := fun k => k = 0)
    (fun W1 hn1 _ => patches_it s sb hs W1 ((hn1.below.block _ hsb).trans h1) (hT.new hn1)) (by intro k hk; rw [hk]; exact hT0) (by rintro x args O W rfl; rw [hps]; rfl)
    (fun O done pc W => I done pc W ∧ Tab W ∧ (∀ k, O k → w.heap.size ≤ k) ∧ w.heap.size ≤ W.heap.size) ?_ ⟨h0, hT, ?_, Nat.le_refl _⟩ ?_ ?_ ?_
  · rintro O O' done pc W W' ⟨i1, i2, i3, i4⟩ hm ho
    have hl := Low.of_mod hm i4 i3
    refine ⟨hI _ _ _ _ i1 hl, i2.low hl hT0, fun k hk => ?_, Nat.le_trans i4 hm.size⟩
    rcases ho k hk with h | h
    · exact i3 k h
    · omega
  · rintro k (h | h | h)
    · cases h
    · omega
    · omega
  · rintro m O done x args W ⟨i1, i2, i3, i4⟩ rfl hpre l1 d1 ⟨r, hr⟩ hbnd
    have hlt := (Array.getElem?_eq_some_iff.1 hr).1
    obtain ⟨rest, hrest⟩ := hpre
    have hrest' : done ++ x :: rest = bitsOf s := by rw [← hrest]; simp
    refine wpIn_mono (hbody m done x rest W hrest' i1 i2 (.inr trivial) (by omega) (fun k hk => ⟨_, Array.getElem?_eq_getElem (by have := (hA k hk).1; omega)⟩)) ?_
    intro e a1 W1 h
    cases e with
    | normal =>
      obtain ⟨rfl, hb⟩ := h
      refine ⟨Keep.refl _ _, ?_⟩
      intro W2 hb2 hs2 ho2 hr2
      have hl2 : Low w.heap.size W1 W2 := ⟨hb2, fun k hk => ho2 k (by omega)⟩
      refine wpIn_mono (hb W2 hl2 (Nat.le_antisymm hs2 hb2.size) (i2.low hl2 hT0) (hI _ _ _ _ i1 hl2)) ?_
      rintro e a3 W3 ⟨hm, pc, hi, he⟩
      have hsz := hm.size
      have hsz2 := hb2.size
      refine ⟨Keep.of_mod hm fun k hk hA' => ?_, pc, ⟨hi, ?_, i3, by omega⟩, he⟩
      · have := hA k hA'
        rcases hk with hk | hk
        · have := i3 k hk; omega
        · exact this.2 hk
      · have hT2 := i2.low hl2 hT0
        refine ⟨Nat.lt_of_lt_of_le hT2.1 hsz, fun j hj => ?_⟩
        have h2 := hT2.2 j hj
        have := hm.2 0 hT2.1 (fun h => (hA _ h).2 rfl)
        simp only [World.cell?, this] at h2 ⊢; exact h2
    | _ => exact h
  · rintro O W ⟨i1, i2, i3, i4⟩ hd
    exact hdone W i1 i2 hd
  · rintro O done c W ⟨i1, i2, i3, i4⟩ hpre hd
    exact hstop done c W i1 hpre i2 hd
end Go.Proofs.YtiejefehcpfkaaaDoor
end
