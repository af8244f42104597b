/- A region that draws its order within a round of a range over a function, walked by the laws for regions outside of rounds. No condition beyond what each lemma names. · The places that may come next, as ready returns them. -/
import Derived.Test.YtiejefehcpfkaaaDoorSm
import Derived.OrdersIn
import Derived.Deep.RegionHeld3

section
set_option linter.unusedSimpArgs false
set_option linter.unusedVariables false
namespace Go.Proofs.YtiejefehcpfkaaaDoor
open Go.RowKit

/-- the post of a region that ends as it should -/
def QN (R : Act → World → Prop) : Exit → Act → World → Prop
  | .normal, a, w => R a w
  | _, _, _ => False
theorem QN.noOut (R : Act → World → Prop) : ¬ LetsOut (QN R) := fun ⟨_, _, h⟩ => h
section
variable {P : Program} {n lp : Nat} {ops : Array Oper} {R : Act → World → Prop}
theorem rowsIn_round {row : String} {args : Array Value} {w : World} {T : Value → World → Prop} (h : Rows P row args w T) : RowsIn (Fence.wide.inRound lp) n P row args w T := fun c cs _ => by
  obtain ⟨v, w', h1, h2⟩ := h c cs
  refine ⟨v, w', h1, ?_⟩
  rw [fenced_inRound]
  exact stepsIn_wide.2 h2
theorem opIn_of_op (hd : ∀ (i : Nat) (o : Oper) c, ops[i]? = some o → o.op ≠ .defer c) {i : Nat} {K : Act → World → Prop} {a : Act} {w : World} (h : wpOp P ops (QN R) i K a w) : wpOpIn (Fence.wide.inRound lp) n P ops (QN R) i K a w := by
  unfold wpOp at h
  unfold wpOpIn
  cases ho : ops[i]? with
  | none => rw [ho] at h; exact h
  | some o =>
    rw [ho] at h
    simp only at h ⊢
    split at h
    · rename_i hw
      rw [if_pos hw]
      refine ⟨fun _ _ => trivial, ?_⟩
      have h := h.resolve_right (fun h => QN.noOut R h.2)
      unfold Oper.wp at h
      rw [Oper.semAt_eq _ _ _ (fun c => hd i o c ho)]
      generalize (execOp a.eval o).run P w = r at *
      cases r with
      | ok x w' =>
        cases x <;> simp only [Oper.uponIn, Oper.upon] at h ⊢ <;> first
          | exact h
          | exact ⟨fun h => by simp [Fence.wide, Fence.inRound] at h, CallsIn.inRound lp (callsIn_wide.2 h)⟩
          | exact ⟨fun h => by simp [Fence.wide, Fence.inRound] at h, rowsIn_round h⟩
      | halt x w' => cases x <;> simp only [Oper.uponIn, Oper.upon] at h ⊢ <;> exact h
    · rename_i hw
      rw [if_neg hw]
      exact ⟨fun _ _ => trivial, h⟩
theorem anyIn_of_any (hd : ∀ (i : Nat) (o : Oper) c, ops[i]? = some o → o.op ≠ .defer c) {md : Region.Mode} : ∀ (fuel : Nat) (listed : Array Bool) (a : Act) (w : World), wpAny P md ops (QN R) fuel listed a w → wpAnyIn (Fence.wide.inRound lp) n P md ops (QN R) fuel listed a w
  | 0, _, _, _, h => h
  | fuel + 1, listed, a, w, h => ⟨h.1, fun i hi => wpOpIn_mono (fun a w h => anyIn_of_any hd fuel _ a w h) (opIn_of_op hd (h.2 i hi))⟩
def noDefer (ops : Array Oper) : Bool := ops.all fun o => match o.op with | .defer _ => false | _ => true
theorem noDefer_spec (h : noDefer ops = true) : ∀ (i : Nat) (o : Oper) c, ops[i]? = some o → o.op ≠ .defer c := fun i o c hi e => by
  have := Array.all_eq_true_iff_forall_mem.1 h o (Array.mem_of_getElem? hi)
  rw [e] at this
  cases this
/-- the rule: S is what the loads want; T tells what the region leaves -/
theorem region_round {id : Nat} {a : Act} {w : World} {Q : Exit → Act → World → Prop} (S : World → Prop) (T : Act → Act → World → Prop) (hm : P.follows .mixedOrders = true) (hd : noDefer ops = true) (hS : S w.drew)
    (h : S w.drew → wpAnyH P .any ops (QN (T a)) S ops.size (Array.replicate ops.size false) a w.drew) (hq : ∀ a' w', T a a' w' → Q .normal a' w') : (Code.region id ops true).wpIn (Fence.wide.inRound lp) n P Q a w :=
  wpIn_mono (wpIn_region_any hm (anyIn_of_any (noDefer_spec hd) _ _ _ _ (wpAny_of_held _ _ _ _ (h hS)))) (fun e a' w' h => by
    cases e with
    | normal => exact hq _ _ h
    | _ => exact h.elim)
/-- the same where the region leaves one activation A, and a world of Wp -/
theorem region_act {id : Nat} {a : Act} {w : World} {Q : Exit → Act → World → Prop} (S : World → Prop) {A : Act} (Wp : World → Prop) (hm : P.follows .mixedOrders = true) (hd : noDefer ops = true) (hS : S w.drew)
    (h : S w.drew → wpAnyH P .any ops (QN fun a' w' => a' = A ∧ Wp w') S ops.size (Array.replicate ops.size false) a w.drew) (hq : ∀ w', Wp w' → Q .normal A w') : (Code.region id ops true).wpIn (Fence.wide.inRound lp) n P Q a w :=
  region_round S (fun _ a' w' => a' = A ∧ Wp w') hm hd hS h (fun a' w' ha => by obtain ⟨e, hw⟩ := ha; rw [e]; exact hq _ hw)
end

section
variable {P : Program} {ops : Array Oper} {Q : Exit → Act → World → Prop} {md : Region.Mode} {S : World → Prop} {z : Nat}
/-- every order, and S behind each operation but number z -/
def wpAnyG (P : Program) (md : Region.Mode) (ops : Array Oper) (Q : Exit → Act → World → Prop) (S : World → Prop) (z : Nat) : Nat → Array Bool → Act → World → Prop
  | 0, l, a, w => Region.ready md ops l = [] ∧ Q .normal a w
  | m + 1, l, a, w => (Region.ready md ops l = [] → Q .normal a w) ∧
    ∀ i, i ∈ Region.ready md ops l → wpOp P ops Q i (fun b v => (i = z ∨ S v) ∧ wpAnyG P md ops Q S z m (l.setIfInBounds i true) b v) a w
theorem any_of_G : ∀ (m : Nat) (l : Array Bool) (a : Act) (w : World), wpAnyG P md ops Q S z m l a w → wpAny P md ops Q m l a w
  | 0, _, _, _, h => h
  | m + 1, _, _, _, h => ⟨h.1, fun i hi => wpOp_mono (fun b v k => any_of_G m _ b v k.2) (h.2 i hi)⟩
/-- number z waits for number i -/
def waits (md : Region.Mode) (ops : Array Oper) (z i : Nat) : Bool := match ops[z]? with
  | some o => o.after.any fun e => Region.binds md e && e.on == i
  | none => false
theorem G_first {i : Nat} {x : Oper} {v : Value} (hx : ops[i]? = some x) (hz : waits md ops z i = true) (hs : ∀ (j : Nat) (o : Oper) cs b, ops[j]? = some o → o.op ≠ .select cs b) (hQ : ∀ c a w, Q (.panic c) (a.put x.dst v) w → Q (.panic c) a w) :
    ∀ (m : Nat) (l : Array Bool) (a : Act) (w : World),
      (∀ j y, ops[j]? = some y → j ≠ i → l.getD j true = false → (∀ e ∈ y.after, Region.binds md e = true → e.on ≠ i) → x.apart ops y = true) →
      i ∈ Region.ready md ops l → YieldsIf P ops S x v a → S w → wpAnyG P md ops Q S z m (l.setIfInBounds i true) (a.put x.dst v) w → wpAnyG P md ops Q S z (m + 1) l a w
  | 0, l, a, w, _, hr, hy, hS, hk => by
    refine ⟨fun e => (by rw [e] at hr; cases hr), fun j hj => ?_⟩
    rcases Nat.decEq j i with hne | he
    · have := ready_mono hj hne; rw [hk.1] at this; cases this
    · subst he; exact hy.wpOp hx hS ⟨.inr hS, hk⟩
  | m + 1, l, a, w, hf, hr, hy, hS, hk => by
    refine ⟨fun e => (by rw [e] at hr; cases hr), fun j hj => ?_⟩
    rcases Nat.decEq j i with hne | he
    · have hij : i ∈ Region.ready md ops (l.setIfInBounds j true) := ready_mono hr (fun e => hne e.symm)
      obtain ⟨hlj, y, hy2, hdone⟩ := mem_ready.1 hj
      have hno : ∀ e ∈ y.after, Region.binds md e = true → e.on ≠ i := by
        intro e he hb e1
        have t1 := hdone e he hb
        have t2 := (mem_ready.1 hr).1
        rw [e1] at t1
        by_cases hb2 : i < l.size
        · simp [hb2] at t1 t2; rw [t2] at t1; cases t1
        · simp [Array.getElem?_eq_none (Nat.le_of_not_lt hb2)] at t1
      have hjz : j ≠ z := by
        rintro rfl
        unfold waits at hz
        rw [hy2] at hz
        simp only [Array.any_eq_true', Bool.and_eq_true, beq_iff_eq] at hz
        obtain ⟨e, he, hb, ho⟩ := hz
        exact hno e he hb ho
      have step := wpOp_putIf hy2 (hf j y hy2 hne hlj hno) (fun cs b => hs i x cs b hx) (fun cs b => hs j y cs b hy2) hQ hy (hk.2 j (ready_mono hj hne))
      refine wpOp_mono (fun b v k => ?_) step
      have hSv : S v := k.2.1.resolve_left hjz
      refine ⟨.inr hSv, G_first hx hz hs hQ m (l.setIfInBounds j true) b v ?_ hij k.1 hSv ?_⟩
      · intro q y' hq hqi hun hnq
        refine hf q y' hq hqi ?_ hnq
        by_cases e : j = q
        · subst e; exact hlj
        · rwa [getD_set_ne true e] at hun
      · rw [Array.setIfInBounds_comm _ _ hne]; exact k.2.2
    · subst he; exact hy.wpOp hx hS ⟨.inr hS, hk⟩
theorem G_take {i : Nat} {x : Oper} {v : Value} {m : Nat} {l : Array Bool} {a : Act} {w : World} (hx : ops[i]? = some x) (hz : waits md ops z i = true) (hs : Region.noSelect ops = true) (hf : Region.free md ops l i = true) (hr : (Region.ready md ops l).contains i = true)
    (hQ : ∀ c a w, Q (.panic c) (a.put x.dst v) w → Q (.panic c) a w) (hy : YieldsIf P ops S x v a) (hS : S w) (h : wpAnyG P md ops Q S z m (l.setIfInBounds i true) (a.put x.dst v) w) : wpAnyG P md ops Q S z (m + 1) l a w :=
  G_first hx hz (Region.noSelect_spec hs) hQ m l a w (Region.free_spec hx hf) (by simpa using hr) hy hS h
/-- one alone may come up: S behind it, or it is number z -/
theorem G_one {i : Nat} {x : Oper} {m : Nat} {l : Array Bool} {a : Act} {w : World} (hr : Region.ready md ops l = [i]) (hx : ops[i]? = some x) (hw : Region.wanted x (yielded ops a.tmps) = true)
    (h : ∀ K : Act → World → Prop, (∀ b v, (i = z ∨ S v) → wpAnyG P md ops Q S z m (l.setIfInBounds i true) b v → K b v) → Oper.wp P x a w K Q) : wpAnyG P md ops Q S z (m + 1) l a w := by
  refine ⟨fun e => (by rw [hr] at e; cases e), fun j hj => ?_⟩
  rw [hr] at hj
  simp only [List.mem_singleton] at hj
  subst hj
  unfold wpOp
  rw [hx]
  simp only [hw, if_true]
  exact .inl (h _ fun b v h1 h2 => ⟨h1, h2⟩)
theorem G_done {l : Array Bool} {a : Act} {w : World} (hr : Region.ready md ops l = []) (h : Q .normal a w) : ∀ m, wpAnyG P md ops Q S z m l a w
  | 0 => ⟨hr, h⟩
  | _ + 1 => ⟨fun _ => h, by rw [hr]; simp⟩
/-- the rule for a region that ends in its operation number z, within a round -/
theorem region_last {lp n : Nat} {id : Nat} {a : Act} {w : World} (z : Nat) (S : World → Prop) {A : Act} (Wp : World → Prop) (hm : P.follows .mixedOrders = true) (hd : noDefer ops = true)
    (h : wpAnyG P .any ops (QN fun a' w' => a' = A ∧ Wp w') S z ops.size (Array.replicate ops.size false) a w.drew) (hq : ∀ w', Wp w' → Q .normal A w') : (Code.region id ops true).wpIn (Fence.wide.inRound lp) n P Q a w :=
  wpIn_mono (wpIn_region_any hm (anyIn_of_any (noDefer_spec hd) _ _ _ _ (any_of_G _ _ _ _ h))) (fun e a' w' h => by
    cases e with
    | normal => obtain ⟨e, hw⟩ := h; rw [e]; exact hq _ hw
    | _ => exact h.elim)
/-- the same outside of rounds -/
theorem region_last0 {n : Nat} {id : Nat} {a : Act} {w : World} (z : Nat) (S : World → Prop) {A : Act} (Wp : World → Prop) (hm : P.follows .mixedOrders = true)
    (h : wpAnyG P .any ops (QN fun a' w' => a' = A ∧ Wp w') S z ops.size (Array.replicate ops.size false) a w.drew) (hq : ∀ w', Wp w' → Q .normal A w') : (Code.region id ops true).wpIn Fence.wide n P Q a w :=
  wpIn_mono (wpIn_wide.2 (wp_region_any hm (any_of_G _ _ _ _ h))) (fun e a' w' h => by
    cases e with
    | normal => obtain ⟨e, hw⟩ := h; rw [e]; exact hq _ hw
    | _ => exact h.elim)
end
end Go.Proofs.YtiejefehcpfkaaaDoor
end

section
set_option linter.unusedSimpArgs false
set_option linter.unusedVariables false
set_option maxRecDepth 100000
namespace Go.Proofs.YtiejefehcpfkaaaDoor
open Go.RowKit Go.Shelf

attribute [local go_sem] Oper.semAt_some

/-- those of a list of places that nothing that is left has to come before, as a set -/
def rdStep (be : Nat → Nat) (left : Nat) (acc p : Nat) : Nat := if be p &&& left == 0 then acc ||| 2 ^ p else acc
def rdTo (be : Nat → Nat) (left : Nat) (done : List Nat) : Nat := done.foldl (rdStep be left) 0
def rdN (be : Nat → Nat) (left : Nat) : Nat := rdTo be left (bitsOf left)
theorem rdTo_snoc (be : Nat → Nat) (left : Nat) (done : List Nat) (p : Nat) : rdTo be left (done ++ [p]) = rdStep be left (rdTo be left done) p := by simp [rdTo]
theorem rdTo_lt (be : Nat → Nat) (left : Nat) : ∀ (done : List Nat) (acc : Nat), acc < 4294967296 → (∀ p ∈ done, p < 32) → done.foldl (rdStep be left) acc < 4294967296
  | [], _, h, _ => h
  | p :: ps, acc, h, hp => by
    refine rdTo_lt be left ps _ ?_ (fun q hq => hp q (List.mem_cons_of_mem _ hq))
    unfold rdStep; split
    · exact or_lt h (pow_lt p (hp p (by simp)))
    · exact h
theorem bitsOf_lt {s p : Nat} (h : p ∈ bitsOf s) : p < 32 := (bitsOf_mem.1 h).1
theorem low24 {s n p : Nat} (hs : s < 2 ^ n) (h : p ∈ bitsOf s) : p < n := by
  have := (bitsOf_mem.1 h).2
  rcases Nat.lt_or_ge p n with h' | h'
  · exact h'
  · rw [Nat.testBit_lt_two_pow (Nat.lt_of_lt_of_le hs (Nat.pow_le_pow_right (by omega) h'))] at this; cases this

theorem alloc_at {w : World} (A : Obj) (H : Nat) (hH : w.heap.size = H) : (w.alloc A).heap[H]? = some A ∧ (w.alloc A).heap.size = H + 1 := by subst hH; exact ⟨World.alloc_heap_new w A, by simp⟩

structure RdI (w : World) (H : Nat) (G : Gph) (left : Nat) (done : List Nat) (pc : Option Code) (W : World) : Prop where
  pn : pc = none
  nw : New w W
  gr : Gr W H G
  lf : W.heap[H + 1]? = some (.cells #[sv left] 79 (0, 0))
  nx : W.heap[H + 2]? = some (.cells #[sv (rdTo G.be left done)] 79 (0, 0))
theorem alloc4_heap (W : World) (A B C E : Obj) (H : Nat) (hH : W.heap.size = H) : ((((W.alloc A).alloc B).alloc C).alloc E).heap[H]? = some A ∧ ((((W.alloc A).alloc B).alloc C).alloc E).heap[H + 1]? = some B ∧ ((((W.alloc A).alloc B).alloc C).alloc E).heap[H + 2]? = some C ∧ ((((W.alloc A).alloc B).alloc C).alloc E).heap[H + 3]? = some E ∧ ((((W.alloc A).alloc B).alloc C).alloc E).heap.size = H + 4 := by
  subst hH
  have e1 := World.alloc_heap_new W A
  have e2 := World.alloc_heap_new (W.alloc A) B
  have e3 := World.alloc_heap_new ((W.alloc A).alloc B) C
  have e4 := World.alloc_heap_new (((W.alloc A).alloc B).alloc C) E
  simp only [World.size_alloc] at e2 e3 e4
  refine ⟨?_, ?_, ?_, e4, by simp⟩
  · rw [Below.heap_alloc _ _ _ (by simp only [World.size_alloc]; omega), Below.heap_alloc _ _ _ (by simp only [World.size_alloc]; omega), Below.heap_alloc _ _ _ (by simp only [World.size_alloc]; omega)]; exact e1
  · rw [Below.heap_alloc _ _ _ (by simp only [World.size_alloc]; omega), Below.heap_alloc _ _ _ (by simp only [World.size_alloc]; omega)]; exact e2
  · rw [Below.heap_alloc _ _ _ (by simp)]; exact e3

set_option maxHeartbeats 8000000 in
theorem ready_c (G : Gph) (left : Nat) (w : World) (hG : G.ok) (hl : left < 2 ^ 24) (hT : Tab w) : Calls Tryd.prog 101 #[.agg G.cells.toArray, sv left] w fun e w' => e = .returned (sv (rdN G.be left)) ∧ New w w' := by
  have HOK := Lib.hid hG
  have HT := Lib.hid hT
  have hl32 : left < 4294967296 := by omega
  have HL24 := Lib.hid (fun p (h : p ∈ bitsOf left) => low24 hl h)
  obtain ⟨H, hH⟩ : ∃ H, w.heap.size = H := ⟨_, rfl⟩
  have HH := Lib.hid hH
  obtain ⟨GC, hGC⟩ : ∃ GC, GC = G.cells.toArray := ⟨_, rfl⟩
  rw [← hGC]
  have HGC := Lib.hid hGC
  have HPC := Lib.hid (fun (w1 : World) => (callsIn_wide (n := 4)).2 (patches_c left w1))
  have HSI := Lib.hid (fun m w1 (p : Nat) (h : p < 32) => CallsIn.inRound (H + 4 + 1) ((callsIn_wide (n := m - 1)).2 (single_c p w1 h)))
  clear hG hT hl hGC
  refine (callsIn_wide (n := 5)).1 ?_
  refine callsIn_of_wp_marks Tryd.func101 rfl trivial ?_ rfl
  simp only [Tryd.ntmps101, List.size_toArray, List.length_cons, List.length_nil, Nat.reduceAdd, Nat.reduceSub, Array.replicate_succ, Array.replicate_zero, List.push_toArray, List.append_toArray, List.nil_append, List.cons_append]
  gi_wp2
  refine ⟨trivial, ?_⟩
  gi_at_call 89
  refine (HPC.out _).mono ?_
  rintro e w2 ⟨rfl, rfl⟩
  gi_wp2
  obtain ⟨WS, HWS⟩ : ∃ WS : World, Hid (WS = (((w.alloc (.cells GC 83)).alloc (.cells #[sv left] 79)).alloc (.cells #[.int .u32 0] 79)).alloc (.cells #[sv left] 79)) := ⟨_, Lib.hid rfl⟩
  rw [← HWS.out]
  obtain ⟨q1, q2, q3, q4, q5⟩ := alloc4_heap w (.cells GC 83) (.cells #[sv left] 79) (.cells #[.int .u32 0] 79) (.cells #[sv left] 79) H HH.out
  rw [← HWS.out] at q1 q2 q3 q4 q5
  have HNS := Lib.hid (show New w WS by rw [HWS.out]; exact ((((New.refl _).alloc _).alloc _).alloc _).alloc _)
  have HTS := Lib.hid (HT.out.new HNS.out)
  have HI0 := Lib.hid (show RdI w H G left [] none WS from ⟨rfl, HNS.out, by rw [HGC.out] at q1; exact q1, q2, q3⟩)
  clear q1 q2 q3 hH
  refine range_set (n := 5) (by omega) left (H + 3) hl32 rfl q4 HTS.out rfl (fun k => k = H + 2) (fun k hk => ⟨by omega, by have := HT.out.1; rw [HH.out] at this; omega⟩) (RdI w H G left) ?hI HI0.out ?hbody ?hdone ?hstop
  case hI =>
    rintro done pc W W' ⟨i1, i2, i3, i4, i5⟩ hl
    rw [q5] at hl
    exact ⟨i1, i2.low hl (by rw [HH.out]; omega), hl.at (by omega) i3, hl.at (by omega) i4, hl.at (by omega) i5⟩
  case hbody =>
    intro m done x rest W hd hi hT _ hsz _
    have hx : x ∈ bitsOf left := by rw [← hd]; simp
    have hx24 := HL24.out x hx
    have hx24' : (x : Int) < 24 := by omega
    have HTo := Lib.hid (rdTo_snoc G.be left done x)
    have HTL := Lib.hid (rdTo_lt G.be left done 0 (by omega) (fun p hp => bitsOf_lt (s := left) (by rw [← hd]; simp [hp])))
    have e0 : ∀ acc p, rdStep G.be left acc p = if G.be p &&& left == 0 then acc ||| 2 ^ p else acc := fun _ _ => rfl
    have HST := Lib.hid e0
    have HSZ := Lib.hid (show H + 4 ≤ W.heap.size by rw [q5] at hsz; omega)
    clear hd hi hT hsz hx e0
    rw [q5]
    gi_wp2
    refine ⟨trivial, ?_⟩
    intro W2 hl2 hs2 hT2 hi2
    have HI2 := Lib.hid hi2
    have HW2 : H + 4 ≤ W2.heap.size := by rw [hs2]; exact HSZ.out
    have e1 : W2.cell? ⟨H, 51 + x, none⟩ = some (sv (G.be x)) := by rw [hi2.gr.cell]; exact Gph.at_be _ x hx24
    have e2 : W2.cell? ⟨H + 1, 0, none⟩ = some (sv left) := (box_cell hi2.lf).1
    have e3 : W2.cell? ⟨H + 2, 0, none⟩ = some (sv (rdTo G.be left done)) := (box_cell hi2.nx).1
    have e4 : W2.frozen? ⟨H + 2, 0, none⟩ = false := by simp [World.frozen?, hi2.nx]
    have HAN := Lib.hid (and32 (G.be x) left (HOK.out.be x) hl32)
    clear hl2 hs2 hT2 hi2
    gi_wp2
    apply region_act (fun w' => w'.cell? ⟨H, 51 + x, none⟩ = some (sv (G.be x)) ∧ w'.cell? ⟨H + 1, 0, none⟩ = some (sv left)) (fun w' => w' = W2.drew) (by kernel_rfl) (by kernel_rfl) ⟨e1, e2⟩
    case h =>
      intro hHeld
      refine wpAnyH_take (i := 0) (oi := { dst := some 10, op := _, type := _, pos := _, after := _, guard := _ }) (v := ?_) rfl (by kernel_rfl) (by kernel_rfl) (by kernel_rfl) (fun _ _ _ h => h) (Or.inl ⟨by rfl, (by intro w hSw; (try dsimp only at hSw); go_simp; try with_reducible rfl)⟩) (by assumption) ?_
      (try simp only [Act.put, List.setIfInBounds_toArray, List.set_cons_zero, List.set_cons_succ])
      refine wpAnyH_take (i := 1) (oi := { dst := some 11, op := _, type := _, pos := _, after := _, guard := _ }) (v := ?_) rfl (by kernel_rfl) (by kernel_rfl) (by kernel_rfl) (fun _ _ _ h => h) (Or.inl ⟨by rfl, (by intro w hSw; (try dsimp only at hSw); go_simp; try with_reducible rfl)⟩) (by assumption) ?_
      (try simp only [Act.put, List.setIfInBounds_toArray, List.set_cons_zero, List.set_cons_succ])
      refine wpAnyH_take (i := 2) (oi := { dst := some 12, op := _, type := _, pos := _, after := _, guard := _ }) (v := ?_) rfl (by kernel_rfl) (by kernel_rfl) (by kernel_rfl) (fun _ _ _ h => h) (Or.inl ⟨by rfl, (by intro w hSw; (try dsimp only at hSw); go_simp; try with_reducible rfl)⟩) (by assumption) ?_
      (try simp only [Act.put, List.setIfInBounds_toArray, List.set_cons_zero, List.set_cons_succ])
      refine wpAnyH_take (i := 3) (oi := { dst := some 13, op := _, type := _, pos := _, after := _, guard := _ }) (v := ?_) rfl (by kernel_rfl) (by kernel_rfl) (by kernel_rfl) (fun _ _ _ h => h) (Or.inl ⟨by rfl, (by intro w hSw; (try dsimp only at hSw); go_simp; try with_reducible rfl)⟩) (by assumption) ?_
      (try simp only [Act.put, List.setIfInBounds_toArray, List.set_cons_zero, List.set_cons_succ])
      refine wpAnyH_take (i := 4) (oi := { dst := some 14, op := _, type := _, pos := _, after := _, guard := _ }) (v := ?_) rfl (by kernel_rfl) (by kernel_rfl) (by kernel_rfl) (fun _ _ _ h => h) (Or.inl ⟨by rfl, (by intro w hSw; (try dsimp only at hSw); go_simp; try with_reducible rfl)⟩) (by assumption) ?_
      (try simp only [Act.put, List.setIfInBounds_toArray, List.set_cons_zero, List.set_cons_succ])
      refine wpAnyH_take (i := 5) (oi := { dst := some 15, op := _, type := _, pos := _, after := _, guard := _ }) (v := ?_) rfl (by kernel_rfl) (by kernel_rfl) (by kernel_rfl) (fun _ _ _ h => h) (Or.inl ⟨by rfl, (by intro w hSw; (try dsimp only at hSw); go_simp; try with_reducible rfl)⟩) (by assumption) ?_
      (try simp only [Act.put, List.setIfInBounds_toArray, List.set_cons_zero, List.set_cons_succ])
      refine wpAnyH_take (i := 6) (oi := { dst := some 16, op := _, type := _, pos := _, after := _, guard := _ }) (v := ?_) rfl (by kernel_rfl) (by kernel_rfl) (by kernel_rfl) (fun _ _ _ h => h) (Or.inl ⟨by rfl, (by intro w hSw; (try dsimp only at hSw); go_simp; try with_reducible rfl)⟩) (by assumption) ?_
      (try simp only [Act.put, List.setIfInBounds_toArray, List.set_cons_zero, List.set_cons_succ])
      refine wpAnyH_done (by kernel_rfl) ?_ _
      exact ⟨rfl, rfl⟩
    case hq =>
      rintro _ rfl
      rw [HAN.out, eq_cast]
      cases hc : (G.be x &&& left == 0)
      · have HS2 := Lib.hid (show rdTo G.be left (done ++ [x]) = rdTo G.be left done by rw [HTo.out, HST.out, hc]; rfl)
        clear hc
        gi_wp2
        exact RoundS.on (Mod.of_new (New.refl W2).drew) ⟨rfl, HI2.out.nw.drew, HI2.out.gr, HI2.out.lf, by rw [HS2.out]; exact HI2.out.nx⟩
      · have HS2 := Lib.hid (show rdTo G.be left (done ++ [x]) = rdTo G.be left done ||| 2 ^ x by rw [HTo.out, HST.out, hc]; rfl)
        have HORR := Lib.hid (or32 (rdTo G.be left done) (2 ^ x) HTL.out (pow_lt x (by omega)))
        clear hc
        obtain ⟨acc, hacc⟩ : ∃ acc, acc = rdTo G.be left done := ⟨_, rfl⟩
        rw [← hacc] at e3 HS2 HORR
        clear hacc
        obtain ⟨X, hX⟩ : ∃ X, X = 2 ^ x := ⟨_, rfl⟩
        have HSI := Lib.hid (fun (w1 : World) => single_c x w1 (by omega))
        rw [← hX] at HS2 HORR HSI
        clear hX
        have HCL := Lib.hid (show ∀ V, New W2 V → (V.cell? ⟨H + 2, 0, none⟩ = some (sv acc) ∧ V.frozen? ⟨H + 2, 0, none⟩ = false) from fun V hV => ⟨(hV.cell (by omega)).trans e3, (hV.below.frozen (p := ⟨H + 2, 0, none⟩) (by show H + 2 < W2.heap.size; omega)).trans e4⟩)
        gi_wp2
        apply region_act (fun _ => True) (fun w' => ∃ W5, New W2 W5 ∧ w' = W5.setCell ⟨H + 2, 0, none⟩ (sv (acc ||| X))) (by kernel_rfl) (by kernel_rfl) trivial
        case h =>
          intro hHeld
          refine wpAnyH_take (i := 1) (oi := { dst := some 18, op := _, type := _, pos := _, after := _, guard := _ }) (v := ?_) rfl (by kernel_rfl) (by kernel_rfl) (by kernel_rfl) (fun _ _ _ h => h) (Or.inl ⟨by rfl, (by intro w hSw; (try dsimp only at hSw); go_simp; try with_reducible rfl)⟩) (by assumption) ?_
          (try simp only [Act.put, List.setIfInBounds_toArray, List.set_cons_zero, List.set_cons_succ])
          refine wpAnyH_ready (rs := [0, 2]) (by kernel_rfl) (by simp) ?_
          refine AllReadyH.cons rfl (fun K hK => ?_) (AllReadyH.cons rfl (fun K hK => ?_) AllReadyH.nil)
          · go_simp
            refine hK.out _ _ trivial (fun hHeld => ?_)
            clear hK K
            (try simp only [Act.put, List.setIfInBounds_toArray, List.set_cons_zero, List.set_cons_succ])
            refine wpAnyH_ready (rs := [2]) (by kernel_rfl) (by simp) ?_
            refine AllReadyH.cons rfl (fun K hK => ?_) AllReadyH.nil
            go_simp
            go_at_call 91
            refine (HSI.out _).mono ?_
            rintro e w5 ⟨rfl, n5⟩
            have N5 := Lib.hid (show New W2 w5 from (New.refl W2).drew.drew.trans n5)
            obtain ⟨e3, e4⟩ := HCL.out _ N5.out
            clear n5
            refine hK.out _ _ ?_ (fun hHeld => ?_)
            · trivial
            clear hK K
            (try simp only [Act.put, List.setIfInBounds_toArray, List.set_cons_zero, List.set_cons_succ])
            refine wpAnyH_take (i := 3) (oi := { dst := some 20, op := _, type := _, pos := _, after := _, guard := _ }) (v := ?_) rfl (by kernel_rfl) (by kernel_rfl) (by kernel_rfl) (fun _ _ _ h => h) (Or.inl ⟨by rfl, (by intro w hSw; (try dsimp only at hSw); go_simp; try with_reducible rfl)⟩) (by assumption) ?_
            (try simp only [Act.put, List.setIfInBounds_toArray, List.set_cons_zero, List.set_cons_succ])
            refine wpAnyH_ready (rs := [4]) (by kernel_rfl) (by simp) ?_
            refine AllReadyH.cons rfl (fun K hK => ?_) AllReadyH.nil
            go_simp
            refine hK.out _ _ ?_ (fun hHeld => ?_)
            · trivial
            clear hK K
            (try simp only [Act.put, List.setIfInBounds_toArray, List.set_cons_zero, List.set_cons_succ])
            refine wpAnyH_done (by kernel_rfl) ?_ _
            exact ⟨rfl, _, N5.out, congrArg (fun v => World.setCell w5 ⟨H + 2, 0, none⟩ (Value.int .u32 v)) HORR.out⟩
          · go_simp
            go_at_call 91
            refine (HSI.out _).mono ?_
            rintro e w5 ⟨rfl, n5⟩
            have N5 := Lib.hid (show New W2 w5 from (New.refl W2).drew.drew.trans n5)
            obtain ⟨e3, e4⟩ := HCL.out _ N5.out
            clear n5
            refine hK.out _ _ trivial (fun hHeld => ?_)
            clear hK K
            (try simp only [Act.put, List.setIfInBounds_toArray, List.set_cons_zero, List.set_cons_succ])
            refine wpAnyH_ready (rs := [0]) (by kernel_rfl) (by simp) ?_
            refine AllReadyH.cons rfl (fun K hK => ?_) AllReadyH.nil
            go_simp
            refine hK.out _ _ ?_ (fun hHeld => ?_)
            · trivial
            clear hK K
            (try simp only [Act.put, List.setIfInBounds_toArray, List.set_cons_zero, List.set_cons_succ])
            refine wpAnyH_take (i := 3) (oi := { dst := some 20, op := _, type := _, pos := _, after := _, guard := _ }) (v := ?_) rfl (by kernel_rfl) (by kernel_rfl) (by kernel_rfl) (fun _ _ _ h => h) (Or.inl ⟨by rfl, (by intro w hSw; (try dsimp only at hSw); go_simp; try with_reducible rfl)⟩) (by assumption) ?_
            (try simp only [Act.put, List.setIfInBounds_toArray, List.set_cons_zero, List.set_cons_succ])
            refine wpAnyH_ready (rs := [4]) (by kernel_rfl) (by simp) ?_
            refine AllReadyH.cons rfl (fun K hK => ?_) AllReadyH.nil
            go_simp
            refine hK.out _ _ ?_ (fun hHeld => ?_)
            · trivial
            clear hK K
            (try simp only [Act.put, List.setIfInBounds_toArray, List.set_cons_zero, List.set_cons_succ])
            refine wpAnyH_done (by kernel_rfl) ?_ _
            exact ⟨rfl, _, N5.out, congrArg (fun v => World.setCell w5 ⟨H + 2, 0, none⟩ (Value.int .u32 v)) HORR.out⟩
        case hq =>
          rintro _ ⟨W5, hn5, rfl⟩
          have H5 := Lib.hid hn5
          clear hn5 e1 e2 e3 e4
          gi_wp2
          refine RoundS.on ((Mod.of_new H5.out).trans (Mod.setCell _ _ _ _ rfl)) ⟨rfl, (HI2.out.nw.trans H5.out).setCell (by rw [HH.out]; show H ≤ H + 2; omega) _, ?_, ?_, ?_⟩
          · exact (heap_setCell_other _ _ _ _ _ (by omega)).trans (HI2.out.gr.new H5.out)
          · exact (heap_setCell_other _ _ _ _ _ (by omega)).trans (row_new HI2.out.lf H5.out)
          · rw [HS2.out]; exact heap_setCell_same _ _ 0 _ (row_new HI2.out.nx H5.out)
  case hdone =>
    rintro W i1 hT hd
    have HN := Lib.hid i1.nw
    have HD := Lib.hid hd
    have e1 : W.cell? ⟨H + 2, 0, none⟩ = some (sv (rdN G.be left)) := (box_cell i1.nx).1
    clear i1 hT hd
    gi_wp2
    refine leaves_marks [WS.heap.size] W (by simp) (fun D hD => by simp at hD; rw [hD]; exact HD.out) (fun W9 hm => ?_)
    exact ⟨_, results_tmp rfl _ _ _, rfl, Mod.new HN.out hm (fun k hk => by simp at hk; rw [hk, q5, HH.out]; omega)⟩
  case hstop =>
    rintro done c W ⟨i1, _⟩
    cases i1
end Go.Proofs.YtiejefehcpfkaaaDoor
end
