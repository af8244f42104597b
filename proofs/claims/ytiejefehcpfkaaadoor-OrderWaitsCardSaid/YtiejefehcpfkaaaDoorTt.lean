/- The join of a place to the lists, as match's closure does it: what the numbers of joN say. Sets below 2^24. -/
import Derived.Test.YtiejefehcpfkaaaDoorTs
set_option linter.unusedSimpArgs false
set_option linter.unusedVariables false
set_option maxRecDepth 100000
namespace Go.Proofs.YtiejefehcpfkaaaDoor
open Go.RowKit Go.Shelf

attribute [local go_sem] Oper.semAt_some

theorem Mod.low {O : Nat → Prop} {D : Nat} {W V V' : World} (h : Mod O W V) (hl : Low D V V') (hD : W.heap.size ≤ D) : Mod O W V' :=
  ⟨⟨hl.bl.os.trans h.1.os, hl.bl.tape.trans h.1.tape, hl.bl.output.trans h.1.output, Nat.le_trans h.1.size hl.bl.size, fun k hk => by omega⟩, fun k hk hn => (hl.sm k (by omega)).trans (h.2 k hk hn)⟩
/-- the blocks of match: the set, what is seen, the graph, the next places, the closure -/
structure JB where
  sb : Nat
  sn : Nat
  gb : Nat
  nb : Nat
  jb : Nat
  s : Nat
  G : Gph
def JB.fv (c : JB) : Value := .func (.func 156) #[] #[.pointer (some ⟨c.sb, 0, none⟩), .pointer (some ⟨c.sn, 0, none⟩), .pointer (some ⟨c.gb, 0, none⟩), .pointer (some ⟨c.nb, 0, none⟩), .pointer (some ⟨c.jb, 0, none⟩)]
structure JB.ok (c : JB) : Prop where
  s24 : c.s < 2 ^ 24
  gok : c.G.ok
  n1 : c.sn ≠ c.nb
  n2 : c.sb ≠ c.sn ∧ c.gb ≠ c.sn ∧ c.jb ≠ c.sn
  n3 : c.sb ≠ c.nb ∧ c.gb ≠ c.nb ∧ c.jb ≠ c.nb
  tb : 0 ≠ c.sn ∧ 0 ≠ c.nb
def jm (c : JB) : Nat → Prop := fun k => k = c.sn ∨ k = c.nb
/-- a matching in a block -/
def Mx (W : World) (b : Nat) (d : Nat → Int) : Prop := W.heap[b]? = some (.cells (iv 24 d).toArray 145 (0, 0))
theorem Mx.at {w : World} {b : Nat} {d : Nat → Int} (h : Mx w b d) (p : Nat) (hp : p < 24) : w.cell? ⟨b, p, none⟩ = some (.int .i64 (d p)) := by
  rw [cell_of_row w b p _ _ _ h]; simp [iv, hp]
theorem Mx.froz {w : World} {b : Nat} {d : Nat → Int} (h : Mx w b d) (p : Nat) : w.frozen? ⟨b, p, none⟩ = false := by
  have h' : w.heap[b]? = _ := h
  simp [World.frozen?, h']
theorem Mx.put {w : World} {b : Nat} {d : Nat → Int} (h : Mx w b d) (p : Nat) (x : Int) : Mx (w.setCell ⟨b, p, none⟩ (.int .i64 x)) b (updI d p x) := by
  unfold Mx; rw [heap_setCell_same _ _ _ _ h]; simp [iv_set]
structure JSt (c : JB) (st : MSt) (W : World) : Prop where
  ss : W.heap[c.sb]? = some (.cells #[sv c.s] 79 (0, 0))
  gs : Gr W c.gb c.G
  se : W.heap[c.sn]? = some (.cells #[sv st.seen] 79 (0, 0))
  ne : Mx W c.nb st.next
  js : W.heap[c.jb]? = some (.cells #[c.fv] 86 (0, 0))
  tb : Tab W
theorem JSt.new {c : JB} {st : MSt} {W W' : World} (h : JSt c st W) (hn : New W W') : JSt c st W' :=
  ⟨row_new h.ss hn, h.gs.new hn, row_new h.se hn, row_new h.ne hn, row_new h.js hn, h.tb.new hn⟩
theorem JSt.lt {c : JB} {st : MSt} {W : World} (h : JSt c st W) : c.sb < W.heap.size ∧ c.gb < W.heap.size ∧ c.sn < W.heap.size ∧ c.nb < W.heap.size ∧ c.jb < W.heap.size :=
  ⟨(Array.getElem?_eq_some_iff.1 h.ss).1, h.gs.lt, (Array.getElem?_eq_some_iff.1 h.se).1, (Array.getElem?_eq_some_iff.1 h.ne).1, (Array.getElem?_eq_some_iff.1 h.js).1⟩
theorem JSt.low {c : JB} {st : MSt} {W W' : World} {D : Nat} (h : JSt c st W) (hl : Low D W W') (h1 : c.sb < D ∧ c.gb < D ∧ c.sn < D ∧ c.nb < D ∧ c.jb < D) (h2 : 0 < D) : JSt c st W' :=
  ⟨hl.at h1.1 h.ss, hl.at h1.2.1 h.gs, hl.at h1.2.2.1 h.se, hl.at h1.2.2.2.1 h.ne, hl.at h1.2.2.2.2 h.js, h.tb.low hl h2⟩
theorem Tab.other {W : World} (h : Tab W) (b j : Nat) (v : Value) (hb : 0 ≠ b) : Tab (W.setCell ⟨b, j, none⟩ v) :=
  ⟨by simpa [go_sem] using h.1, fun i hi => by
    have h2 := h.2 i hi
    simp only [World.cell?, heap_setCell_other W b j _ v hb] at h2 ⊢; exact h2⟩
theorem JSt.other {c : JB} {st : MSt} {W : World} (h : JSt c st W) (b j : Nat) (v : Value) (h1 : c.sb ≠ b ∧ c.gb ≠ b ∧ c.sn ≠ b ∧ c.nb ≠ b ∧ c.jb ≠ b) (h2 : 0 ≠ b) : JSt c st (W.setCell ⟨b, j, none⟩ v) :=
  ⟨(heap_setCell_other _ _ _ _ _ h1.1).trans h.ss, (heap_setCell_other _ _ _ _ _ h1.2.1).trans h.gs, (heap_setCell_other _ _ _ _ _ h1.2.2.1).trans h.se, (heap_setCell_other _ _ _ _ _ h1.2.2.2.1).trans h.ne, (heap_setCell_other _ _ _ _ _ h1.2.2.2.2).trans h.js, h.tb.other b j v h2⟩
theorem JSt.see {c : JB} {st : MSt} {W : World} (hc : c.ok) (h : JSt c st W) (x : Nat) : JSt c ⟨x, st.next⟩ (W.setCell ⟨c.sn, 0, none⟩ (sv x)) :=
  ⟨(heap_setCell_other _ _ _ _ _ hc.n2.1).trans h.ss, (heap_setCell_other _ _ _ _ _ hc.n2.2.1).trans h.gs, heap_setCell_same _ _ 0 _ h.se, (heap_setCell_other _ _ _ _ _ hc.n1.symm).trans h.ne, (heap_setCell_other _ _ _ _ _ hc.n2.2.2).trans h.js, h.tb.other _ _ _ hc.tb.1⟩
theorem JSt.put {c : JB} {st : MSt} {W : World} (hc : c.ok) (h : JSt c st W) (p : Nat) (x : Int) : JSt c ⟨st.seen, updI st.next p x⟩ (W.setCell ⟨c.nb, p, none⟩ (.int .i64 x)) :=
  ⟨(heap_setCell_other _ _ _ _ _ hc.n3.1).trans h.ss, (heap_setCell_other _ _ _ _ _ hc.n3.2.1).trans h.gs, (heap_setCell_other _ _ _ _ _ hc.n1).trans h.se, h.ne.put p x, (heap_setCell_other _ _ _ _ _ hc.n3.2.2).trans h.js, h.tb.other _ _ _ hc.tb.2⟩
/-- blocks that the call made itself do not count -/
theorem Mod.over {O O' : Nat → Prop} {W V V' : World} {H : Nat} (h : Mod O W V) (hm : Mod O' V V') (hH : W.heap.size = H) (ho : ∀ k, O' k → H ≤ k) : Mod O W V' :=
  ⟨⟨hm.1.os.trans h.1.os, hm.1.tape.trans h.1.tape, hm.1.output.trans h.1.output, Nat.le_trans h.1.size hm.1.size, fun k hk => by omega⟩, fun k hk hn => (hm.2 k (Nat.lt_of_lt_of_le hk h.size) (fun h' => by have := ho k h'; omega)).trans (h.2 k hk hn)⟩
theorem JSt.over {c : JB} {st : MSt} {V V' : World} {O : Nat → Prop} (h : JSt c st V) (hm : Mod O V V') (ho : ∀ k, O k → c.sb ≠ k ∧ c.gb ≠ k ∧ c.sn ≠ k ∧ c.nb ≠ k ∧ c.jb ≠ k ∧ 0 ≠ k) : JSt c st V' := by
  have key : ∀ k o, (∀ j, O j → k ≠ j) → V.heap[k]? = some o → V'.heap[k]? = some o := fun k o hk e => (hm.2 k (Array.getElem?_eq_some_iff.1 e).1 (fun h' => hk k h' rfl)).trans e
  exact ⟨key _ _ (fun j hj => (ho j hj).1) h.ss, key _ _ (fun j hj => (ho j hj).2.1) h.gs, key _ _ (fun j hj => (ho j hj).2.2.1) h.se, key _ _ (fun j hj => (ho j hj).2.2.2.1) h.ne, key _ _ (fun j hj => (ho j hj).2.2.2.2.1) h.js,
    h.tb.keep (Keep.of_mod (O' := tabE) hm fun k hk h' => (ho k h').2.2.2.2.2 hk.symm) rfl⟩
/-- what stands in memory between two rounds of join's loop -/
structure JoI (c : JB) (f q : Nat) (st : MSt) (W : World) (H : Nat) (done : List Nat) (pc : Option Code) (V : World) : Prop where
  md : Mod (jm c) W V
  sz : H + 3 ≤ V.heap.size
  qb : V.heap[H]? = some (.cells #[.int .i64 (q : Int)] 3 (0, 0))
  rb : V.heap[H + 1]? = some (.cells #[.bool pc.isSome] 4 (0, 0))
  fl : (joTo c.G.re c.s f q st done).1 = pc.isSome
  js : JSt c (joTo c.G.re c.s f q st done).2 V
  pc : pc = none ∨ pc = some .ret
/-- what a call of join has done -/
def JoR (c : JB) (f q : Nat) (st : MSt) (W : World) (e : Ending) (W' : World) : Prop :=
  e = .returned (.bool (joN c.G.re c.s f q st).1) ∧ Mod (jm c) W W' ∧ JSt c (joN c.G.re c.s f q st).2 W'
def jArgs (c : JB) (q : Int) : Array Value := #[.int .i64 q, .pointer (some ⟨c.sb, 0, none⟩), .pointer (some ⟨c.sn, 0, none⟩), .pointer (some ⟨c.gb, 0, none⟩), .pointer (some ⟨c.nb, 0, none⟩), .pointer (some ⟨c.jb, 0, none⟩)]

set_option maxHeartbeats 16000000 in
theorem join_succ (c : JB) (hc : c.ok) (f : Nat)
    (IH : ∀ (q : Nat) (st : MSt) (W : World), q < 24 → st.ok → nf c.s st.seen < f → JSt c st W → Calls Tryd.prog 156 #[.int .i64 (q : Int), .pointer (some ⟨c.sb, 0, none⟩), .pointer (some ⟨c.sn, 0, none⟩), .pointer (some ⟨c.gb, 0, none⟩), .pointer (some ⟨c.nb, 0, none⟩), .pointer (some ⟨c.jb, 0, none⟩)] W (JoR c f q st W))
    (q : Nat) (st : MSt) (W : World) (hq : q < 24) (hst : st.ok) (hn : nf c.s st.seen < f + 1) (hj : JSt c st W) : Calls Tryd.prog 156 #[.int .i64 (q : Int), .pointer (some ⟨c.sb, 0, none⟩), .pointer (some ⟨c.sn, 0, none⟩), .pointer (some ⟨c.gb, 0, none⟩), .pointer (some ⟨c.nb, 0, none⟩), .pointer (some ⟨c.jb, 0, none⟩)] W (JoR c (f + 1) q st W) := by
  have hs24 := hc.s24
  have hs32 : c.s < 4294967296 := by omega
  obtain ⟨H, hH⟩ : ∃ H, W.heap.size = H := ⟨_, rfl⟩
  have HLT := Lib.hid (show c.sb < H ∧ c.gb < H ∧ c.sn < H ∧ c.nb < H ∧ c.jb < H from by rw [← hH]; exact hj.lt)
  have HTB := Lib.hid (show 0 < H from by rw [← hH]; exact hj.tb.1)
  have hj2 : JSt c st ((W.alloc (.cells #[.int .i64 (q : Int)] 3)).alloc (.cells #[.bool false] 4)) := hj.new (((New.refl _).alloc _).alloc _)
  have e0 := (box_cell hj2.ss).1
  have HPC := Lib.hid (fun (w1 : World) => (callsIn_wide (n := 4)).2 (patches_c c.s w1))
  have HIH := Lib.hid IH
  have HJ := Lib.hid hj
  have HC := Lib.hid hc
  have HST := Lib.hid hst
  have HN := Lib.hid hn
  have HH := Lib.hid hH
  have HL24 := Lib.hid (fun x (h : x ∈ bitsOf c.s) => low24 hs24 h)
  obtain ⟨s, hs⟩ : ∃ s, c.s = s := ⟨_, rfl⟩
  rw [hs] at e0 HPC
  have hs32 : s < 4294967296 := by rw [← hs]; exact hs32
  have HS := Lib.hid hs
  have HJN := Lib.hid (show joN c.G.re c.s (f + 1) q st = joTo c.G.re c.s f q st (bitsOf s) from by rw [← hs]; rfl)
  clear hj hj2 hst hn IH hs24 hs
  refine (callsIn_wide (n := 5)).1 ?_
  refine callsIn_of_wp_marks Tryd.func156 rfl trivial ?_ rfl
  simp only [Tryd.ntmps156, List.size_toArray, List.length_cons, List.length_nil, Nat.reduceAdd, Nat.reduceSub, Array.replicate_succ, Array.replicate_zero, List.push_toArray, List.append_toArray, List.nil_append, List.cons_append]
  gi_wp2
  refine ⟨trivial, ?_⟩
  gi_at_call 89
  refine (HPC.out _).mono ?_
  rintro e w3 ⟨rfl, rfl⟩
  clear e0
  gi_wp2
  obtain ⟨WQ, HWQ⟩ : ∃ WQ : World, Hid (WQ = ((W.alloc (.cells #[.int .i64 (q : Int)] 3)).alloc (.cells #[.bool false] 4)).alloc (.cells #[sv s] 79)) := ⟨_, Lib.hid rfl⟩
  rw [← HWQ.out]
  obtain ⟨q1, q2, q3, q4⟩ : WQ.heap[H]? = some (.cells #[.int .i64 (q : Int)] 3 (0, 0)) ∧ WQ.heap[H + 1]? = some (.cells #[.bool false] 4 (0, 0)) ∧ WQ.heap[H + 2]? = some (.cells #[sv s] 79 (0, 0)) ∧ WQ.heap.size = H + 3 := by
    rw [HWQ.out, ← HH.out]
    obtain ⟨a1, a2⟩ := alloc3_heap2 W (.cells #[.int .i64 (q : Int)] 3) (.cells #[.bool false] 4)
    have hn := (New.refl ((W.alloc (.cells #[.int .i64 (q : Int)] 3)).alloc (.cells #[.bool false] 4))).alloc (.cells #[sv s] 79)
    refine ⟨row_new a1 hn, row_new a2 hn, ?_, by simp⟩
    have := World.alloc_heap_new ((W.alloc (.cells #[.int .i64 (q : Int)] 3)).alloc (.cells #[.bool false] 4)) (.cells #[sv s] 79)
    simpa using this
  have hnQ : New W WQ := by rw [HWQ.out]; exact (((New.refl _).alloc _).alloc _).alloc _
  have HI0 := Lib.hid (show JoI c f q st W H [] none WQ from ⟨Mod.of_new hnQ, by omega, q1, q2, rfl, HJ.out.new hnQ, .inl rfl⟩)
  have HTQ := Lib.hid (HI0.out.js.tb)
  have HQ3 := Lib.hid q3
  clear q1 q2 hnQ
  refine range_set (n := 5) (by omega) s (H + 2) hs32 rfl q3 HTQ.out rfl (fun k => k = c.sn ∨ k = c.nb ∨ k = H + 1) (fun k hk => ?hA) (JoI c f q st W H) ?hI HI0.out ?hbody ?hdone ?hstop
  case hA =>
    have h1 := HLT.out; have h2 := HTB.out; have h3 := HC.out.tb
    rcases hk with rfl | rfl | rfl
    · exact ⟨by omega, fun h => h3.1 h.symm⟩
    · exact ⟨by omega, fun h => h3.2 h.symm⟩
    · exact ⟨by omega, by omega⟩
  case hI =>
    rintro done pc V V' ⟨i1, i2, i3, i4, i5, i6, i7⟩ hl
    rw [q4] at hl
    have h1 := HLT.out; have h2 := HTB.out
    exact ⟨i1.low hl (by omega), Nat.le_trans i2 hl.bl.size, hl.at (by omega) i3, hl.at (by omega) i4, i5, i6.low hl ⟨by omega, by omega, by omega, by omega, by omega⟩ (by omega), i7⟩
  case hbody =>
    intro m done x rest V hdd hi hT _ hsz _
    have hxs : x ∈ bitsOf c.s := by rw [HS.out, ← hdd]; simp
    have hx24 := HL24.out x hxs
    have hx24' : (x : Int) < 24 := by omega
    have HXS := Lib.hid hxs
    have HTo := Lib.hid (joTo_snoc c.G.re c.s f q st done x)
    obtain ⟨hok, hle⟩ := joTo_ok (re := c.G.re) HC.out.s24 f q st hq HST.out done (x :: rest) (by rw [HS.out]; exact hdd)
    have HOK := Lib.hid hok
    have HLE := Lib.hid hle
    clear hdd hi hT hsz hok hle hxs
    rw [q4]
    gi_wp2
    refine ⟨trivial, ?_⟩
    intro V2 hl2 hs2 hT2 hi2
    obtain ⟨md, sz, qb, rb, fl, jst, _⟩ := hi2
    obtain ⟨⟨b0, S⟩, hS0⟩ : ∃ r, joTo c.G.re c.s f q st done = r := ⟨_, rfl⟩
    rw [hS0] at fl jst HTo HOK HLE
    dsimp only at jst HOK HLE
    obtain rfl : b0 = false := fl
    have HMD := Lib.hid md
    have HQB := Lib.hid qb
    have HRB := Lib.hid rb
    have HJS := Lib.hid jst
    have HSZ := Lib.hid sz
    have e1 : V2.cell? ⟨c.sn, 0, none⟩ = some (sv S.seen) := (box_cell jst.se).1
    have e2 : V2.cell? ⟨c.gb, 27 + x, none⟩ = some (sv (c.G.re x)) := by rw [jst.gs.cell]; exact Gph.at_re _ x hx24
    have e3 : V2.cell? ⟨H, 0, none⟩ = some (.int .i64 (q : Int)) := (box_cell qb).1
    have hS := And.intro e1 (And.intro e2 e3)
    have HLT2 := Lib.hid (show c.sn < V2.heap.size ∧ c.gb < V2.heap.size ∧ H < V2.heap.size from ⟨World.block_lt_of_cell? _ _ e1, World.block_lt_of_cell? _ _ e2, World.block_lt_of_cell? _ _ e3⟩)
    have HH1 := Lib.hid (fun (w1 : World) => has_c S.seen x w1 (by have := HOK.out.sn; omega) (by omega))
    have HH2 := Lib.hid (fun (w1 : World) => has_c (c.G.re x) q w1 (HC.out.gok.re x) (by omega))
    have HKP := Lib.hid (show ∀ W4, New V2 W4 → joStep c.G.re q (joN c.G.re c.s f) (false, S) x = (false, S) → JoI c f q st W H (done ++ [x]) none W4 from fun W4 h e => ⟨HMD.out.trans (Mod.of_new h), Nat.le_trans HSZ.out h.size, row_new HQB.out h, row_new HRB.out h, by rw [HTo.out, e]; rfl, by rw [HTo.out, e]; exact HJS.out.new h, .inl rfl⟩)
    clear hl2 hs2 hT2 md sz qb rb jst hS0
    cases hb : S.seen.testBit x
    case true =>
      have HE := Lib.hid (joStep_seen (re := c.G.re) (q := q) (rec := joN c.G.re c.s f) hb)
      rw [hb] at HH1
      clear hb
      gi_wp2
      apply region_act (fun w' => w'.cell? ⟨c.sn, 0, none⟩ = some (sv S.seen) ∧ w'.cell? ⟨c.gb, 27 + x, none⟩ = some (sv (c.G.re x)) ∧ w'.cell? ⟨H, 0, none⟩ = some (.int .i64 (q : Int))) (fun w' => New V2 w') (by kernel_rfl) (by kernel_rfl) hS
      case h =>
        intro hHeld
        refine wpAnyH_take (i := 0) (oi := { dst := some 12, op := _, type := _, pos := _, after := _, guard := _ }) (v := ?_) rfl (by kernel_rfl) (by kernel_rfl) (by kernel_rfl) (fun _ _ _ h => h) (Or.inl ⟨by rfl, (by intro w hSw; (try dsimp only at hSw); go_simp; try with_reducible rfl)⟩) (by assumption) ?_
        (try simp only [Act.put, List.setIfInBounds_toArray, List.set_cons_zero, List.set_cons_succ])
        refine wpAnyH_take (i := 1) (oi := { dst := some 13, op := _, type := _, pos := _, after := _, guard := _ }) (v := ?_) rfl (by kernel_rfl) (by kernel_rfl) (by kernel_rfl) (fun _ _ _ h => h) (Or.inl ⟨by rfl, (by intro w hSw; (try dsimp only at hSw); go_simp; try with_reducible rfl)⟩) (by assumption) ?_
        (try simp only [Act.put, List.setIfInBounds_toArray, List.set_cons_zero, List.set_cons_succ])
        refine wpAnyH_ready (rs := [2]) (by kernel_rfl) (by simp) ?_
        refine AllReadyH.cons rfl (fun K hK => ?_) AllReadyH.nil
        go_simp
        go_at_call 70
        refine (HH1.out _).mono ?_
        rintro e w6 ⟨rfl, n6⟩
        have N6 := Lib.hid (show New V2 w6 from (New.refl V2).drew.trans n6)
        clear n6
        refine hK.out _ _ ?_ (fun hHeld => ?_)
        · exact ⟨(N6.out.cell HLT2.out.1).trans hS.1, (N6.out.cell HLT2.out.2.1).trans hS.2.1, (N6.out.cell HLT2.out.2.2).trans hS.2.2⟩
        clear hK K
        (try simp only [Act.put, List.setIfInBounds_toArray, List.set_cons_zero, List.set_cons_succ])
        refine wpAnyH_take (i := 3) (oi := { dst := some 15, op := _, type := _, pos := _, after := _, guard := _ }) (v := ?_) rfl (by kernel_rfl) (by kernel_rfl) (by kernel_rfl) (fun _ _ _ h => h) (Or.inl ⟨by rfl, (by intro w hSw; (try dsimp only at hSw); go_simp; try with_reducible rfl)⟩) (by assumption) ?_
        (try simp only [Act.put, List.setIfInBounds_toArray, List.set_cons_zero, List.set_cons_succ])
        refine wpAnyH_take (i := 4) (oi := { dst := some 16, op := _, type := _, pos := _, after := _, guard := _ }) (v := undef) rfl (by kernel_rfl) (by kernel_rfl) (by kernel_rfl) (fun _ _ _ h => h) (Or.inr ⟨by rfl, rfl⟩) (by assumption) ?_
        (try simp only [Act.put, List.setIfInBounds_toArray, List.set_cons_zero, List.set_cons_succ])
        refine wpAnyH_take (i := 5) (oi := { dst := some 17, op := _, type := _, pos := _, after := _, guard := _ }) (v := undef) rfl (by kernel_rfl) (by kernel_rfl) (by kernel_rfl) (fun _ _ _ h => h) (Or.inr ⟨by rfl, rfl⟩) (by assumption) ?_
        (try simp only [Act.put, List.setIfInBounds_toArray, List.set_cons_zero, List.set_cons_succ])
        refine wpAnyH_take (i := 6) (oi := { dst := some 18, op := _, type := _, pos := _, after := _, guard := _ }) (v := undef) rfl (by kernel_rfl) (by kernel_rfl) (by kernel_rfl) (fun _ _ _ h => h) (Or.inr ⟨by rfl, rfl⟩) (by assumption) ?_
        (try simp only [Act.put, List.setIfInBounds_toArray, List.set_cons_zero, List.set_cons_succ])
        refine wpAnyH_take (i := 7) (oi := { dst := some 19, op := _, type := _, pos := _, after := _, guard := _ }) (v := undef) rfl (by kernel_rfl) (by kernel_rfl) (by kernel_rfl) (fun _ _ _ h => h) (Or.inr ⟨by rfl, rfl⟩) (by assumption) ?_
        (try simp only [Act.put, List.setIfInBounds_toArray, List.set_cons_zero, List.set_cons_succ])
        refine wpAnyH_take (i := 8) (oi := { dst := some 20, op := _, type := _, pos := _, after := _, guard := _ }) (v := undef) rfl (by kernel_rfl) (by kernel_rfl) (by kernel_rfl) (fun _ _ _ h => h) (Or.inr ⟨by rfl, rfl⟩) (by assumption) ?_
        (try simp only [Act.put, List.setIfInBounds_toArray, List.set_cons_zero, List.set_cons_succ])
        refine wpAnyH_take (i := 9) (oi := { dst := some 21, op := _, type := _, pos := _, after := _, guard := _ }) (v := undef) rfl (by kernel_rfl) (by kernel_rfl) (by kernel_rfl) (fun _ _ _ h => h) (Or.inr ⟨by rfl, rfl⟩) (by assumption) ?_
        (try simp only [Act.put, List.setIfInBounds_toArray, List.set_cons_zero, List.set_cons_succ])
        refine wpAnyH_take (i := 10) (oi := { dst := some 22, op := _, type := _, pos := _, after := _, guard := _ }) (v := undef) rfl (by kernel_rfl) (by kernel_rfl) (by kernel_rfl) (fun _ _ _ h => h) (Or.inr ⟨by rfl, rfl⟩) (by assumption) ?_
        (try simp only [Act.put, List.setIfInBounds_toArray, List.set_cons_zero, List.set_cons_succ])
        refine wpAnyH_take (i := 11) (oi := { dst := some 23, op := _, type := _, pos := _, after := _, guard := _ }) (v := ?_) rfl (by kernel_rfl) (by kernel_rfl) (by kernel_rfl) (fun _ _ _ h => h) (Or.inl ⟨by rfl, (by intro w hSw; (try dsimp only at hSw); go_simp; try with_reducible rfl)⟩) (by assumption) ?_
        (try simp only [Act.put, List.setIfInBounds_toArray, List.set_cons_zero, List.set_cons_succ])
        refine wpAnyH_done (by kernel_rfl) ?_ _
        exact ⟨rfl, N6.out⟩
      case hq =>
        rintro W3 hn3
        have N3 := Lib.hid hn3
        clear hn3 e1 e2 e3 hS
        gi_wp2
        exact RoundS.on (Mod.of_new N3.out) (HKP.out _ N3.out HE.out)
    case false =>
      rw [hb] at HH1
      cases hr : (c.G.re x).testBit q
      case false =>
        have HE := Lib.hid (joStep_none (q := q) (rec := joN c.G.re c.s f) (st := S) hr)
        rw [hr] at HH2
        clear hb hr
        gi_wp2
        apply region_act (fun w' => w'.cell? ⟨c.sn, 0, none⟩ = some (sv S.seen) ∧ w'.cell? ⟨c.gb, 27 + x, none⟩ = some (sv (c.G.re x)) ∧ w'.cell? ⟨H, 0, none⟩ = some (.int .i64 (q : Int))) (fun w' => New V2 w') (by kernel_rfl) (by kernel_rfl) hS
        case h =>
          intro hHeld
          refine wpAnyH_take (i := 0) (oi := { dst := some 12, op := _, type := _, pos := _, after := _, guard := _ }) (v := ?_) rfl (by kernel_rfl) (by kernel_rfl) (by kernel_rfl) (fun _ _ _ h => h) (Or.inl ⟨by rfl, (by intro w hSw; (try dsimp only at hSw); go_simp; try with_reducible rfl)⟩) (by assumption) ?_
          (try simp only [Act.put, List.setIfInBounds_toArray, List.set_cons_zero, List.set_cons_succ])
          refine wpAnyH_take (i := 1) (oi := { dst := some 13, op := _, type := _, pos := _, after := _, guard := _ }) (v := ?_) rfl (by kernel_rfl) (by kernel_rfl) (by kernel_rfl) (fun _ _ _ h => h) (Or.inl ⟨by rfl, (by intro w hSw; (try dsimp only at hSw); go_simp; try with_reducible rfl)⟩) (by assumption) ?_
          (try simp only [Act.put, List.setIfInBounds_toArray, List.set_cons_zero, List.set_cons_succ])
          refine wpAnyH_ready (rs := [2]) (by kernel_rfl) (by simp) ?_
          refine AllReadyH.cons rfl (fun K hK => ?_) AllReadyH.nil
          go_simp
          go_at_call 70
          refine (HH1.out _).mono ?_
          rintro e w6 ⟨rfl, n6⟩
          have N6 := Lib.hid (show New V2 w6 from (New.refl V2).drew.trans n6)
          clear n6
          refine hK.out _ _ ?_ (fun hHeld => ?_)
          · exact ⟨(N6.out.cell HLT2.out.1).trans hS.1, (N6.out.cell HLT2.out.2.1).trans hS.2.1, (N6.out.cell HLT2.out.2.2).trans hS.2.2⟩
          clear hK K
          (try simp only [Act.put, List.setIfInBounds_toArray, List.set_cons_zero, List.set_cons_succ])
          refine wpAnyH_take (i := 3) (oi := { dst := some 15, op := _, type := _, pos := _, after := _, guard := _ }) (v := ?_) rfl (by kernel_rfl) (by kernel_rfl) (by kernel_rfl) (fun _ _ _ h => h) (Or.inl ⟨by rfl, (by intro w hSw; (try dsimp only at hSw); go_simp; try with_reducible rfl)⟩) (by assumption) ?_
          (try simp only [Act.put, List.setIfInBounds_toArray, List.set_cons_zero, List.set_cons_succ])
          refine wpAnyH_take (i := 4) (oi := { dst := some 16, op := _, type := _, pos := _, after := _, guard := _ }) (v := ?_) rfl (by kernel_rfl) (by kernel_rfl) (by kernel_rfl) (fun _ _ _ h => h) (Or.inl ⟨by rfl, (by intro w hSw; (try dsimp only at hSw); go_simp; try with_reducible rfl)⟩) (by assumption) ?_
          (try simp only [Act.put, List.setIfInBounds_toArray, List.set_cons_zero, List.set_cons_succ])
          refine wpAnyH_take (i := 5) (oi := { dst := some 17, op := _, type := _, pos := _, after := _, guard := _ }) (v := ?_) rfl (by kernel_rfl) (by kernel_rfl) (by kernel_rfl) (fun _ _ _ h => h) (Or.inl ⟨by rfl, (by intro w hSw; (try dsimp only at hSw); go_simp; try with_reducible rfl)⟩) (by assumption) ?_
          (try simp only [Act.put, List.setIfInBounds_toArray, List.set_cons_zero, List.set_cons_succ])
          refine wpAnyH_take (i := 6) (oi := { dst := some 18, op := _, type := _, pos := _, after := _, guard := _ }) (v := ?_) rfl (by kernel_rfl) (by kernel_rfl) (by kernel_rfl) (fun _ _ _ h => h) (Or.inl ⟨by rfl, (by intro w hSw; (try dsimp only at hSw); go_simp; try with_reducible rfl)⟩) (by assumption) ?_
          (try simp only [Act.put, List.setIfInBounds_toArray, List.set_cons_zero, List.set_cons_succ])
          refine wpAnyH_take (i := 7) (oi := { dst := some 19, op := _, type := _, pos := _, after := _, guard := _ }) (v := ?_) rfl (by kernel_rfl) (by kernel_rfl) (by kernel_rfl) (fun _ _ _ h => h) (Or.inl ⟨by rfl, (by intro w hSw; (try dsimp only at hSw); go_simp; try with_reducible rfl)⟩) (by assumption) ?_
          (try simp only [Act.put, List.setIfInBounds_toArray, List.set_cons_zero, List.set_cons_succ])
          refine wpAnyH_take (i := 8) (oi := { dst := some 20, op := _, type := _, pos := _, after := _, guard := _ }) (v := ?_) rfl (by kernel_rfl) (by kernel_rfl) (by kernel_rfl) (fun _ _ _ h => h) (Or.inl ⟨by rfl, (by intro w hSw; (try dsimp only at hSw); go_simp; try with_reducible rfl)⟩) (by assumption) ?_
          (try simp only [Act.put, List.setIfInBounds_toArray, List.set_cons_zero, List.set_cons_succ])
          refine wpAnyH_ready (rs := [9]) (by kernel_rfl) (by simp) ?_
          refine AllReadyH.cons rfl (fun K hK => ?_) AllReadyH.nil
          go_simp
          go_at_call 70
          refine (HH2.out _).mono ?_
          rintro e w7 ⟨rfl, n7⟩
          have N6 := Lib.hid (show New V2 w7 from N6.out.trans n7)
          clear n7
          refine hK.out _ _ ?_ (fun hHeld => ?_)
          · exact ⟨(N6.out.cell HLT2.out.1).trans hS.1, (N6.out.cell HLT2.out.2.1).trans hS.2.1, (N6.out.cell HLT2.out.2.2).trans hS.2.2⟩
          clear hK K
          (try simp only [Act.put, List.setIfInBounds_toArray, List.set_cons_zero, List.set_cons_succ])
          refine wpAnyH_take (i := 10) (oi := { dst := some 22, op := _, type := _, pos := _, after := _, guard := _ }) (v := ?_) rfl (by kernel_rfl) (by kernel_rfl) (by kernel_rfl) (fun _ _ _ h => h) (Or.inl ⟨by rfl, (by intro w hSw; (try dsimp only at hSw); go_simp; try with_reducible rfl)⟩) (by assumption) ?_
          (try simp only [Act.put, List.setIfInBounds_toArray, List.set_cons_zero, List.set_cons_succ])
          refine wpAnyH_take (i := 11) (oi := { dst := some 23, op := _, type := _, pos := _, after := _, guard := _ }) (v := ?_) rfl (by kernel_rfl) (by kernel_rfl) (by kernel_rfl) (fun _ _ _ h => h) (Or.inl ⟨by rfl, (by intro w hSw; (try dsimp only at hSw); go_simp; try with_reducible rfl)⟩) (by assumption) ?_
          (try simp only [Act.put, List.setIfInBounds_toArray, List.set_cons_zero, List.set_cons_succ])
          refine wpAnyH_done (by kernel_rfl) ?_ _
          exact ⟨rfl, N6.out⟩
        case hq =>
          rintro W3 hn3
          have N3 := Lib.hid hn3
          clear hn3 e1 e2 e3 hS
          gi_wp2
          exact RoundS.on (Mod.of_new N3.out) (HKP.out _ N3.out HE.out)
      case true =>
        rw [hr] at HH2
        have HB := Lib.hid hb
        have HR := Lib.hid hr
        clear hb hr
        gi_wp2
        apply region_act (fun w' => w'.cell? ⟨c.sn, 0, none⟩ = some (sv S.seen) ∧ w'.cell? ⟨c.gb, 27 + x, none⟩ = some (sv (c.G.re x)) ∧ w'.cell? ⟨H, 0, none⟩ = some (.int .i64 (q : Int))) (fun w' => New V2 w') (by kernel_rfl) (by kernel_rfl) hS
        case h =>
          intro hHeld
          refine wpAnyH_take (i := 0) (oi := { dst := some 12, op := _, type := _, pos := _, after := _, guard := _ }) (v := ?_) rfl (by kernel_rfl) (by kernel_rfl) (by kernel_rfl) (fun _ _ _ h => h) (Or.inl ⟨by rfl, (by intro w hSw; (try dsimp only at hSw); go_simp; try with_reducible rfl)⟩) (by assumption) ?_
          (try simp only [Act.put, List.setIfInBounds_toArray, List.set_cons_zero, List.set_cons_succ])
          refine wpAnyH_take (i := 1) (oi := { dst := some 13, op := _, type := _, pos := _, after := _, guard := _ }) (v := ?_) rfl (by kernel_rfl) (by kernel_rfl) (by kernel_rfl) (fun _ _ _ h => h) (Or.inl ⟨by rfl, (by intro w hSw; (try dsimp only at hSw); go_simp; try with_reducible rfl)⟩) (by assumption) ?_
          (try simp only [Act.put, List.setIfInBounds_toArray, List.set_cons_zero, List.set_cons_succ])
          refine wpAnyH_ready (rs := [2]) (by kernel_rfl) (by simp) ?_
          refine AllReadyH.cons rfl (fun K hK => ?_) AllReadyH.nil
          go_simp
          go_at_call 70
          refine (HH1.out _).mono ?_
          rintro e w6 ⟨rfl, n6⟩
          have N6 := Lib.hid (show New V2 w6 from (New.refl V2).drew.trans n6)
          clear n6
          refine hK.out _ _ ?_ (fun hHeld => ?_)
          · exact ⟨(N6.out.cell HLT2.out.1).trans hS.1, (N6.out.cell HLT2.out.2.1).trans hS.2.1, (N6.out.cell HLT2.out.2.2).trans hS.2.2⟩
          clear hK K
          (try simp only [Act.put, List.setIfInBounds_toArray, List.set_cons_zero, List.set_cons_succ])
          refine wpAnyH_take (i := 3) (oi := { dst := some 15, op := _, type := _, pos := _, after := _, guard := _ }) (v := ?_) rfl (by kernel_rfl) (by kernel_rfl) (by kernel_rfl) (fun _ _ _ h => h) (Or.inl ⟨by rfl, (by intro w hSw; (try dsimp only at hSw); go_simp; try with_reducible rfl)⟩) (by assumption) ?_
          (try simp only [Act.put, List.setIfInBounds_toArray, List.set_cons_zero, List.set_cons_succ])
          refine wpAnyH_take (i := 4) (oi := { dst := some 16, op := _, type := _, pos := _, after := _, guard := _ }) (v := ?_) rfl (by kernel_rfl) (by kernel_rfl) (by kernel_rfl) (fun _ _ _ h => h) (Or.inl ⟨by rfl, (by intro w hSw; (try dsimp only at hSw); go_simp; try with_reducible rfl)⟩) (by assumption) ?_
          (try simp only [Act.put, List.setIfInBounds_toArray, List.set_cons_zero, List.set_cons_succ])
          refine wpAnyH_take (i := 5) (oi := { dst := some 17, op := _, type := _, pos := _, after := _, guard := _ }) (v := ?_) rfl (by kernel_rfl) (by kernel_rfl) (by kernel_rfl) (fun _ _ _ h => h) (Or.inl ⟨by rfl, (by intro w hSw; (try dsimp only at hSw); go_simp; try with_reducible rfl)⟩) (by assumption) ?_
          (try simp only [Act.put, List.setIfInBounds_toArray, List.set_cons_zero, List.set_cons_succ])
          refine wpAnyH_take (i := 6) (oi := { dst := some 18, op := _, type := _, pos := _, after := _, guard := _ }) (v := ?_) rfl (by kernel_rfl) (by kernel_rfl) (by kernel_rfl) (fun _ _ _ h => h) (Or.inl ⟨by rfl, (by intro w hSw; (try dsimp only at hSw); go_simp; try with_reducible rfl)⟩) (by assumption) ?_
          (try simp only [Act.put, List.setIfInBounds_toArray, List.set_cons_zero, List.set_cons_succ])
          refine wpAnyH_take (i := 7) (oi := { dst := some 19, op := _, type := _, pos := _, after := _, guard := _ }) (v := ?_) rfl (by kernel_rfl) (by kernel_rfl) (by kernel_rfl) (fun _ _ _ h => h) (Or.inl ⟨by rfl, (by intro w hSw; (try dsimp only at hSw); go_simp; try with_reducible rfl)⟩) (by assumption) ?_
          (try simp only [Act.put, List.setIfInBounds_toArray, List.set_cons_zero, List.set_cons_succ])
          refine wpAnyH_take (i := 8) (oi := { dst := some 20, op := _, type := _, pos := _, after := _, guard := _ }) (v := ?_) rfl (by kernel_rfl) (by kernel_rfl) (by kernel_rfl) (fun _ _ _ h => h) (Or.inl ⟨by rfl, (by intro w hSw; (try dsimp only at hSw); go_simp; try with_reducible rfl)⟩) (by assumption) ?_
          (try simp only [Act.put, List.setIfInBounds_toArray, List.set_cons_zero, List.set_cons_succ])
          refine wpAnyH_ready (rs := [9]) (by kernel_rfl) (by simp) ?_
          refine AllReadyH.cons rfl (fun K hK => ?_) AllReadyH.nil
          go_simp
          go_at_call 70
          refine (HH2.out _).mono ?_
          rintro e w7 ⟨rfl, n7⟩
          have N6 := Lib.hid (show New V2 w7 from N6.out.trans n7)
          clear n7
          refine hK.out _ _ ?_ (fun hHeld => ?_)
          · exact ⟨(N6.out.cell HLT2.out.1).trans hS.1, (N6.out.cell HLT2.out.2.1).trans hS.2.1, (N6.out.cell HLT2.out.2.2).trans hS.2.2⟩
          clear hK K
          (try simp only [Act.put, List.setIfInBounds_toArray, List.set_cons_zero, List.set_cons_succ])
          refine wpAnyH_take (i := 10) (oi := { dst := some 22, op := _, type := _, pos := _, after := _, guard := _ }) (v := ?_) rfl (by kernel_rfl) (by kernel_rfl) (by kernel_rfl) (fun _ _ _ h => h) (Or.inl ⟨by rfl, (by intro w hSw; (try dsimp only at hSw); go_simp; try with_reducible rfl)⟩) (by assumption) ?_
          (try simp only [Act.put, List.setIfInBounds_toArray, List.set_cons_zero, List.set_cons_succ])
          refine wpAnyH_take (i := 11) (oi := { dst := some 23, op := _, type := _, pos := _, after := _, guard := _ }) (v := ?_) rfl (by kernel_rfl) (by kernel_rfl) (by kernel_rfl) (fun _ _ _ h => h) (Or.inl ⟨by rfl, (by intro w hSw; (try dsimp only at hSw); go_simp; try with_reducible rfl)⟩) (by assumption) ?_
          (try simp only [Act.put, List.setIfInBounds_toArray, List.set_cons_zero, List.set_cons_succ])
          refine wpAnyH_done (by kernel_rfl) ?_ _
          exact ⟨rfl, N6.out⟩
        case hq =>
          rintro W3 hn3
          have N3 := Lib.hid hn3
          obtain ⟨X, hX⟩ : ∃ X, 2 ^ x = X := ⟨_, rfl⟩
          have hX32 : X < 4294967296 := by rw [← hX]; exact pow_lt x (by omega)
          have HSI := Lib.hid (fun (w1 : World) => single_c x w1 (by omega))
          rw [hX] at HSI
          have HORR := Lib.hid (or32 S.seen X (by have := HOK.out.sn; omega) hX32)
          have HX := Lib.hid hX
          clear hn3 e1 e2 e3 hS hX
          have HF3 := Lib.hid (row_new HJS.out.se N3.out)
          have hS : W3.cell? ⟨c.sn, 0, none⟩ = some (sv S.seen) := (box_cell HF3.out).1
          have hBl : c.sn < W3.heap.size := World.block_lt_of_cell? _ _ hS
          gi_wp2
          apply region_last 4 (fun w' => w'.cell? ⟨c.sn, 0, none⟩ = some (sv S.seen)) (fun w' => ∃ W5, New W3 W5 ∧ w' = W5.setCell ⟨c.sn, 0, none⟩ (sv (S.seen ||| X))) (by kernel_rfl) (by kernel_rfl)
          case h =>
            have hHeld := (show W3.drew.cell? ⟨c.sn, 0, none⟩ = some (sv S.seen) from hS)
            refine G_take (i := 0) (x := { dst := some 24, op := _, type := _, pos := _, after := _, guard := _ }) (v := ?_) rfl (by kernel_rfl) (by kernel_rfl) (by kernel_rfl) (by kernel_rfl) (fun _ _ _ h => h) (Or.inl ⟨by rfl, (by intro w hSw; (try dsimp only at hSw); go_simp; try with_reducible rfl)⟩) hHeld ?_
            (try simp only [Act.put, List.setIfInBounds_toArray, List.set_cons_zero, List.set_cons_succ])
            refine G_take (i := 1) (x := { dst := some 25, op := _, type := _, pos := _, after := _, guard := _ }) (v := ?_) rfl (by kernel_rfl) (by kernel_rfl) (by kernel_rfl) (by kernel_rfl) (fun _ _ _ h => h) (Or.inl ⟨by rfl, (by intro w hSw; (try dsimp only at hSw); go_simp; try with_reducible rfl)⟩) hHeld ?_
            (try simp only [Act.put, List.setIfInBounds_toArray, List.set_cons_zero, List.set_cons_succ])
            refine G_one (i := 2) (x := { dst := some 26, op := _, type := _, pos := _, after := _, guard := _ }) (by kernel_rfl) rfl (by rfl) (fun K hK => ?_)
            go_simp
            go_at_call 91
            refine (HSI.out _).mono ?_
            rintro e w5 ⟨rfl, n5⟩
            have N5 := Lib.hid (show New W3 w5 from (New.refl W3).drew.trans n5)
            clear n5
            have f6 : w5.frozen? ⟨c.sn, 0, none⟩ = false := (box_cell (row_new HF3.out N5.out)).2
            have c6 := (N5.out.cell hBl).trans hS
            have hHeld := (N5.out.cell hBl).trans hS
            refine hK _ _ (.inr hHeld) ?_
            clear hK K
            (try simp only [Act.put, List.setIfInBounds_toArray, List.set_cons_zero, List.set_cons_succ])
            refine G_take (i := 3) (x := { dst := some 27, op := _, type := _, pos := _, after := _, guard := _ }) (v := ?_) rfl (by kernel_rfl) (by kernel_rfl) (by kernel_rfl) (by kernel_rfl) (fun _ _ _ h => h) (Or.inl ⟨by rfl, (by intro w hSw; (try dsimp only at hSw); go_simp; try with_reducible rfl)⟩) hHeld ?_
            (try simp only [Act.put, List.setIfInBounds_toArray, List.set_cons_zero, List.set_cons_succ])
            refine G_one (i := 4) (x := { dst := none, op := _, type := _, pos := _, after := _, guard := _ }) (by kernel_rfl) rfl (by rfl) (fun K hK => ?_)
            go_simp
            refine hK _ _ (.inl rfl) ?_
            clear hK K
            (try simp only [Act.put, List.setIfInBounds_toArray, List.set_cons_zero, List.set_cons_succ])
            refine G_done (by kernel_rfl) ?_ _
            exact ⟨rfl, w5, N5.out, congrArg (fun v => World.setCell w5 ⟨c.sn, 0, none⟩ (Value.int .u32 v)) HORR.out⟩
          case hq =>
            rintro _ ⟨W5, hn5, rfl⟩
            have hn35 := N3.out.trans hn5
            have hj5 := (HJS.out.new hn35).see HC.out (S.seen ||| X)
            obtain ⟨W6, hW6⟩ : ∃ W6 : World, Hid (W6 = W5.setCell ⟨c.sn, 0, none⟩ (sv (S.seen ||| X))) := ⟨_, Lib.hid rfl⟩
            rw [← hW6.out] at hj5 ⊢
            have HJ6 := Lib.hid hj5
            have HM6 := Lib.hid (show Mod (jm c) V2 W6 from by rw [hW6.out]; exact (Mod.of_new hn35).trans (Mod.setCell _ _ _ _ (.inl rfl)))
            have HH6 := Lib.hid (show W6.heap[H]? = some (.cells #[.int .i64 (q : Int)] 3 (0, 0)) ∧ W6.heap[H + 1]? = some (.cells #[.bool false] 4 (0, 0)) from by
              have h1 := HLT.out
              rw [hW6.out]
              exact ⟨(heap_setCell_other _ _ _ _ _ (by omega)).trans (row_new HQB.out hn35), (heap_setCell_other _ _ _ _ _ (by omega)).trans (row_new HRB.out hn35)⟩)
            have HZ6 := Lib.hid (show H + 3 ≤ W6.heap.size from Nat.le_trans HSZ.out HM6.out.size)
            have hok6 : MSt.ok ⟨S.seen ||| X, S.next⟩ := ⟨by have := or24 HOK.out.sn hx24; rw [HX.out] at this; exact this, HOK.out.nx⟩
            have HOK6 := Lib.hid hok6
            have HNF := Lib.hid (show nf c.s (S.seen ||| X) < f from by
              have a1 := nf_less HC.out.s24 HOK.out.sn HXS.out HB.out
              rw [HX.out] at a1
              have a2 := nf_mono (s := c.s) HC.out.s24 HST.out.sn HOK.out.sn HLE.out
              have := HN.out
              omega)
            have g1 : W6.cell? ⟨c.nb, x, none⟩ = some (.int .i64 (S.next x)) := hj5.ne.at x hx24
            have g2 : W6.cell? ⟨c.jb, 0, none⟩ = some c.fv := (box_cell hj5.js).1
            have HNX := Lib.hid (HOK.out.nx x)
            unfold JB.fv at g2
            have hG := And.intro g1 g2
            clear hn5 hn35 hj5 hS hBl hok6 g1 g2
            by_cases hneg : S.next x < 0
            case pos =>
              have hneg' : (S.next x < 0) = True := eq_true hneg
              have HD := Lib.hid (show joStep c.G.re q (joN c.G.re c.s f) (false, S) x = (true, ⟨S.seen ||| X, updI S.next x q⟩) from by rw [joStep_new HB.out HR.out hneg, HX.out])
              have HNG := Lib.hid hneg
              clear hneg
              gi_wp2
              apply region_act (fun w' => w'.cell? ⟨c.nb, x, none⟩ = some (.int .i64 (S.next x)) ∧ w'.cell? ⟨c.jb, 0, none⟩ = some (.func (.func 156) #[] #[.pointer (some ⟨c.sb, 0, none⟩), .pointer (some ⟨c.sn, 0, none⟩), .pointer (some ⟨c.gb, 0, none⟩), .pointer (some ⟨c.nb, 0, none⟩), .pointer (some ⟨c.jb, 0, none⟩)])) (fun w' => w' = W6.drew) (by kernel_rfl) (by kernel_rfl) hG
              case h =>
                intro hHeld
                refine wpAnyH_take (i := 0) (oi := { dst := some 28, op := _, type := _, pos := _, after := _, guard := _ }) (v := ?_) rfl (by kernel_rfl) (by kernel_rfl) (by kernel_rfl) (fun _ _ _ h => h) (Or.inl ⟨by rfl, (by intro w hSw; (try dsimp only at hSw); go_simp; try with_reducible rfl)⟩) (by assumption) ?_
                (try simp only [Act.put, List.setIfInBounds_toArray, List.set_cons_zero, List.set_cons_succ])
                refine wpAnyH_take (i := 1) (oi := { dst := some 29, op := _, type := _, pos := _, after := _, guard := _ }) (v := ?_) rfl (by kernel_rfl) (by kernel_rfl) (by kernel_rfl) (fun _ _ _ h => h) (Or.inl ⟨by rfl, (by intro w hSw; (try dsimp only at hSw); go_simp; try with_reducible rfl)⟩) (by assumption) ?_
                (try simp only [Act.put, List.setIfInBounds_toArray, List.set_cons_zero, List.set_cons_succ])
                refine wpAnyH_take (i := 2) (oi := { dst := some 30, op := _, type := _, pos := _, after := _, guard := _ }) (v := ?_) rfl (by kernel_rfl) (by kernel_rfl) (by kernel_rfl) (fun _ _ _ h => h) (Or.inl ⟨by rfl, (by intro w hSw; (try dsimp only at hSw); go_simp; try with_reducible rfl)⟩) (by assumption) ?_
                (try simp only [Act.put, List.setIfInBounds_toArray, List.set_cons_zero, List.set_cons_succ])
                refine wpAnyH_take (i := 3) (oi := { dst := some 31, op := _, type := _, pos := _, after := _, guard := _ }) (v := ?_) rfl (by kernel_rfl) (by kernel_rfl) (by kernel_rfl) (fun _ _ _ h => h) (Or.inl ⟨by rfl, (by intro w hSw; (try dsimp only at hSw); go_simp; try with_reducible rfl)⟩) (by assumption) ?_
                (try simp only [Act.put, List.setIfInBounds_toArray, List.set_cons_zero, List.set_cons_succ])
                refine wpAnyH_take (i := 4) (oi := { dst := some 32, op := _, type := _, pos := _, after := _, guard := _ }) (v := ?_) rfl (by kernel_rfl) (by kernel_rfl) (by kernel_rfl) (fun _ _ _ h => h) (Or.inl ⟨by rfl, (by intro w hSw; (try dsimp only at hSw); go_simp; try with_reducible rfl)⟩) (by assumption) ?_
                (try simp only [Act.put, List.setIfInBounds_toArray, List.set_cons_zero, List.set_cons_succ])
                refine wpAnyH_take (i := 5) (oi := { dst := some 33, op := _, type := _, pos := _, after := _, guard := _ }) (v := undef) rfl (by kernel_rfl) (by kernel_rfl) (by kernel_rfl) (fun _ _ _ h => h) (Or.inr ⟨by rfl, rfl⟩) (by assumption) ?_
                (try simp only [Act.put, List.setIfInBounds_toArray, List.set_cons_zero, List.set_cons_succ])
                refine wpAnyH_take (i := 6) (oi := { dst := some 34, op := _, type := _, pos := _, after := _, guard := _ }) (v := undef) rfl (by kernel_rfl) (by kernel_rfl) (by kernel_rfl) (fun _ _ _ h => h) (Or.inr ⟨by rfl, rfl⟩) (by assumption) ?_
                (try simp only [Act.put, List.setIfInBounds_toArray, List.set_cons_zero, List.set_cons_succ])
                refine wpAnyH_take (i := 7) (oi := { dst := some 35, op := _, type := _, pos := _, after := _, guard := _ }) (v := undef) rfl (by kernel_rfl) (by kernel_rfl) (by kernel_rfl) (fun _ _ _ h => h) (Or.inr ⟨by rfl, rfl⟩) (by assumption) ?_
                (try simp only [Act.put, List.setIfInBounds_toArray, List.set_cons_zero, List.set_cons_succ])
                refine wpAnyH_take (i := 8) (oi := { dst := some 36, op := _, type := _, pos := _, after := _, guard := _ }) (v := undef) rfl (by kernel_rfl) (by kernel_rfl) (by kernel_rfl) (fun _ _ _ h => h) (Or.inr ⟨by rfl, rfl⟩) (by assumption) ?_
                (try simp only [Act.put, List.setIfInBounds_toArray, List.set_cons_zero, List.set_cons_succ])
                refine wpAnyH_take (i := 9) (oi := { dst := some 37, op := _, type := _, pos := _, after := _, guard := _ }) (v := undef) rfl (by kernel_rfl) (by kernel_rfl) (by kernel_rfl) (fun _ _ _ h => h) (Or.inr ⟨by rfl, rfl⟩) (by assumption) ?_
                (try simp only [Act.put, List.setIfInBounds_toArray, List.set_cons_zero, List.set_cons_succ])
                refine wpAnyH_take (i := 10) (oi := { dst := some 38, op := _, type := _, pos := _, after := _, guard := _ }) (v := ?_) rfl (by kernel_rfl) (by kernel_rfl) (by kernel_rfl) (fun _ _ _ h => h) (Or.inl ⟨by rfl, (by intro w hSw; (try dsimp only at hSw); go_simp; try with_reducible rfl)⟩) (by assumption) ?_
                (try simp only [Act.put, List.setIfInBounds_toArray, List.set_cons_zero, List.set_cons_succ])
                refine wpAnyH_done (by kernel_rfl) ?_ _
                exact ⟨rfl, rfl⟩
              case hq =>
                rintro W7 hw7
                have M7 := Lib.hid (show Mod (jm c) W6 W7 from by rw [hw7]; exact Mod.of_new (New.refl W6).drew)
                have J7 := Lib.hid (show JSt c ⟨S.seen ||| X, S.next⟩ W7 from by rw [hw7]; exact HJ6.out.new (New.refl W6).drew)
                have HQ7 := Lib.hid (show W7.heap[H]? = some (.cells #[.int .i64 (q : Int)] 3 (0, 0)) from by rw [hw7]; exact HH6.out.1)
                have HR7 := Lib.hid (show W7.heap[H + 1]? = some (.cells #[.bool false] 4 (0, 0)) from by rw [hw7]; exact HH6.out.2)
                have HZ7 := Lib.hid (Nat.le_trans HZ6.out M7.out.size)
                clear hw7 hG
                have k1 : W7.cell? ⟨H, 0, none⟩ = some (.int .i64 (q : Int)) := (box_cell HQ7.out).1
                have k2 := J7.out.ne.at x hx24
                have k3 := J7.out.ne.froz x
                have k4 := (box_cell HR7.out).2
                have k5 := (box_cell HR7.out).1
                have k6 : (W7.setCell ⟨c.nb, x, none⟩ (.int .i64 (q : Int))).cell? ⟨H + 1, 0, none⟩ = some (.bool false) := by
                  have h1 := HLT.out
                  exact (box_cell (show (W7.setCell ⟨c.nb, x, none⟩ (.int .i64 (q : Int))).heap[H + 1]? = some (.cells #[.bool false] 4 (0, 0)) from (heap_setCell_other _ _ _ _ _ (by omega)).trans HR7.out)).1
                have k7 : (W7.setCell ⟨c.nb, x, none⟩ (.int .i64 (q : Int))).frozen? ⟨H + 1, 0, none⟩ = false := by
                  have h1 := HLT.out
                  exact (box_cell (show (W7.setCell ⟨c.nb, x, none⟩ (.int .i64 (q : Int))).heap[H + 1]? = some (.cells #[.bool false] 4 (0, 0)) from (heap_setCell_other _ _ _ _ _ (by omega)).trans HR7.out)).2
                gi_wp2
                refine RoundS.ret ((((HM6.out.trans M7.out)).mono (O' := fun k => k = c.sn ∨ k = c.nb ∨ k = H + 1) (fun k hk => hk.elim .inl (fun h => .inr (.inl h)))).trans ((Mod.setCell _ _ _ _ (.inr (.inl rfl))).trans (Mod.setCell _ _ _ _ (.inr (.inr rfl))))) ?_
                have h1 := HLT.out; have h2 := HTB.out
                have hj8 := (J7.out.put HC.out x (q : Int)).other (H + 1) 0 (.bool true) ⟨by omega, by omega, by omega, by omega, by omega⟩ (by omega)
                have hr8 : (W7.setCell ⟨c.nb, x, none⟩ (.int .i64 (q : Int))).heap[H + 1]? = some (.cells #[.bool false] 4 (0, 0)) := (heap_setCell_other _ _ _ _ _ (by omega)).trans HR7.out
                refine ⟨((HMD.out.trans (HM6.out.trans M7.out)).trans (Mod.setCell (O := jm c) _ _ _ _ (.inr rfl))).over (Mod.setCell (O := fun k => k = H + 1) _ _ _ _ rfl) HH.out (fun k hk => by omega), ?_, (heap_setCell_other _ _ _ _ _ (by omega)).trans ((heap_setCell_other _ _ _ _ _ (by omega)).trans HQ7.out), heap_setCell_same _ _ 0 _ hr8, by rw [HTo.out, HD.out]; rfl, by rw [HTo.out, HD.out]; exact hj8, .inr rfl⟩
                · have := HZ7.out; simpa [go_sem] using this
            case neg =>
              have hneg' : (S.next x < 0) = False := eq_false hneg
              obtain ⟨y, hy⟩ : ∃ y : Nat, S.next x = (y : Int) := ⟨(S.next x).toNat, by omega⟩
              have hy24 : y < 24 := by have := HNX.out; omega
              obtain ⟨⟨b, R⟩, hbR⟩ : ∃ r, joN c.G.re c.s f y ⟨S.seen ||| X, S.next⟩ = r := ⟨_, rfl⟩
              have HD := Lib.hid (show joStep c.G.re q (joN c.G.re c.s f) (false, S) x = if b then (true, ⟨R.seen, updI R.next x q⟩) else (false, R) from joStep_rec HB.out HR.out hneg (by rw [HX.out, hy]; exact hbR))
              have HKX := Lib.hid (show R.next x = S.next x from by
                have := joN_keep (re := c.G.re) HC.out.s24 (i := x) f y ⟨S.seen ||| X, S.next⟩ hy24 HOK6.out (by rw [← HX.out, or_has]; simp)
                rw [hbR] at this; exact this)
              have HCALL := Lib.hid (show ∀ V6, New W6 V6 → Calls Tryd.prog 156 #[.int .i64 (y : Int), .pointer (some ⟨c.sb, 0, none⟩), .pointer (some ⟨c.sn, 0, none⟩), .pointer (some ⟨c.gb, 0, none⟩), .pointer (some ⟨c.nb, 0, none⟩), .pointer (some ⟨c.jb, 0, none⟩)] V6 (fun e W' => e = .returned (.bool b) ∧ Mod (jm c) V6 W' ∧ JSt c R W') from fun V6 n6 => by
                have := HIH.out y ⟨S.seen ||| X, S.next⟩ V6 hy24 HOK6.out HNF.out (HJ6.out.new n6)
                unfold JoR at this
                rw [hbR] at this; exact this)
              have HHY := Lib.hid hy
              have hny : ((y : Int) < 0) = False := eq_false (by omega)
              clear hneg hbR
              rw [hy] at hG
              gi_wp2
              apply region_act (fun w' => w'.cell? ⟨c.nb, x, none⟩ = some (.int .i64 ((y : Int))) ∧ w'.cell? ⟨c.jb, 0, none⟩ = some (.func (.func 156) #[] #[.pointer (some ⟨c.sb, 0, none⟩), .pointer (some ⟨c.sn, 0, none⟩), .pointer (some ⟨c.gb, 0, none⟩), .pointer (some ⟨c.nb, 0, none⟩), .pointer (some ⟨c.jb, 0, none⟩)])) (fun w' => Mod (jm c) W6 w' ∧ JSt c R w') (by kernel_rfl) (by kernel_rfl) hG
              case h =>
                intro hHeld
                refine wpAnyH_take (i := 0) (oi := { dst := some 28, op := _, type := _, pos := _, after := _, guard := _ }) (v := ?_) rfl (by kernel_rfl) (by kernel_rfl) (by kernel_rfl) (fun _ _ _ h => h) (Or.inl ⟨by rfl, (by intro w hSw; (try dsimp only at hSw); go_simp; try with_reducible rfl)⟩) (by assumption) ?_
                (try simp only [Act.put, List.setIfInBounds_toArray, List.set_cons_zero, List.set_cons_succ])
                refine wpAnyH_take (i := 1) (oi := { dst := some 29, op := _, type := _, pos := _, after := _, guard := _ }) (v := ?_) rfl (by kernel_rfl) (by kernel_rfl) (by kernel_rfl) (fun _ _ _ h => h) (Or.inl ⟨by rfl, (by intro w hSw; (try dsimp only at hSw); go_simp; try with_reducible rfl)⟩) (by assumption) ?_
                (try simp only [Act.put, List.setIfInBounds_toArray, List.set_cons_zero, List.set_cons_succ])
                refine wpAnyH_take (i := 2) (oi := { dst := some 30, op := _, type := _, pos := _, after := _, guard := _ }) (v := ?_) rfl (by kernel_rfl) (by kernel_rfl) (by kernel_rfl) (fun _ _ _ h => h) (Or.inl ⟨by rfl, (by intro w hSw; (try dsimp only at hSw); go_simp; try with_reducible rfl)⟩) (by assumption) ?_
                (try simp only [Act.put, List.setIfInBounds_toArray, List.set_cons_zero, List.set_cons_succ])
                refine wpAnyH_take (i := 3) (oi := { dst := some 31, op := _, type := _, pos := _, after := _, guard := _ }) (v := ?_) rfl (by kernel_rfl) (by kernel_rfl) (by kernel_rfl) (fun _ _ _ h => h) (Or.inl ⟨by rfl, (by intro w hSw; (try dsimp only at hSw); go_simp; try with_reducible rfl)⟩) (by assumption) ?_
                (try simp only [Act.put, List.setIfInBounds_toArray, List.set_cons_zero, List.set_cons_succ])
                refine wpAnyH_take (i := 4) (oi := { dst := some 32, op := _, type := _, pos := _, after := _, guard := _ }) (v := ?_) rfl (by kernel_rfl) (by kernel_rfl) (by kernel_rfl) (fun _ _ _ h => h) (Or.inl ⟨by rfl, (by intro w hSw; (try dsimp only at hSw); go_simp; try with_reducible rfl)⟩) (by assumption) ?_
                (try simp only [Act.put, List.setIfInBounds_toArray, List.set_cons_zero, List.set_cons_succ])
                refine wpAnyH_take (i := 5) (oi := { dst := some 33, op := _, type := _, pos := _, after := _, guard := _ }) (v := ?_) rfl (by kernel_rfl) (by kernel_rfl) (by kernel_rfl) (fun _ _ _ h => h) (Or.inl ⟨by rfl, (by intro w hSw; (try dsimp only at hSw); go_simp; try with_reducible rfl)⟩) (by assumption) ?_
                (try simp only [Act.put, List.setIfInBounds_toArray, List.set_cons_zero, List.set_cons_succ])
                refine wpAnyH_take (i := 6) (oi := { dst := some 34, op := _, type := _, pos := _, after := _, guard := _ }) (v := ?_) rfl (by kernel_rfl) (by kernel_rfl) (by kernel_rfl) (fun _ _ _ h => h) (Or.inl ⟨by rfl, (by intro w hSw; (try dsimp only at hSw); go_simp; try with_reducible rfl)⟩) (by assumption) ?_
                (try simp only [Act.put, List.setIfInBounds_toArray, List.set_cons_zero, List.set_cons_succ])
                refine wpAnyH_take (i := 7) (oi := { dst := some 35, op := _, type := _, pos := _, after := _, guard := _ }) (v := ?_) rfl (by kernel_rfl) (by kernel_rfl) (by kernel_rfl) (fun _ _ _ h => h) (Or.inl ⟨by rfl, (by intro w hSw; (try dsimp only at hSw); go_simp; try with_reducible rfl)⟩) (by assumption) ?_
                (try simp only [Act.put, List.setIfInBounds_toArray, List.set_cons_zero, List.set_cons_succ])
                refine wpAnyH_take (i := 8) (oi := { dst := some 36, op := _, type := _, pos := _, after := _, guard := _ }) (v := ?_) rfl (by kernel_rfl) (by kernel_rfl) (by kernel_rfl) (fun _ _ _ h => h) (Or.inl ⟨by rfl, (by intro w hSw; (try dsimp only at hSw); go_simp; try with_reducible rfl)⟩) (by assumption) ?_
                (try simp only [Act.put, List.setIfInBounds_toArray, List.set_cons_zero, List.set_cons_succ])
                refine wpAnyH_ready (rs := [9]) (by kernel_rfl) (by simp) ?_
                refine AllReadyH.cons rfl (fun K hK => ?_) AllReadyH.nil
                go_simp
                go_at_call 156
                refine (HCALL.out _ (New.refl W6).drew).mono ?_
                rintro e w7 ⟨rfl, m7, j7⟩
                have M7 := Lib.hid (show Mod (jm c) W6 w7 from (Mod.of_new (New.refl W6).drew).trans m7)
                have J7 := Lib.hid j7
                have k7 := j7.ne.at x hx24
                rw [HKX.out, HHY.out] at k7
                have k8 := (box_cell j7.js).1
                unfold JB.fv at k8
                clear m7 j7
                refine hK.out _ _ ?_ (fun hHeld => ?_)
                · exact ⟨k7, k8⟩
                clear hK K
                (try simp only [Act.put, List.setIfInBounds_toArray, List.set_cons_zero, List.set_cons_succ])
                refine wpAnyH_take (i := 10) (oi := { dst := some 38, op := _, type := _, pos := _, after := _, guard := _ }) (v := ?_) rfl (by kernel_rfl) (by kernel_rfl) (by kernel_rfl) (fun _ _ _ h => h) (Or.inl ⟨by rfl, (by intro w hSw; (try dsimp only at hSw); go_simp; try with_reducible rfl)⟩) (by assumption) ?_
                (try simp only [Act.put, List.setIfInBounds_toArray, List.set_cons_zero, List.set_cons_succ])
                refine wpAnyH_done (by kernel_rfl) ?_ _
                exact ⟨rfl, M7.out, J7.out⟩
              case hq =>
                rintro W7 ⟨m7, j7⟩
                have M7 := Lib.hid m7
                have J7 := Lib.hid j7
                have HQ7 := Lib.hid (show W7.heap[H]? = some (.cells #[.int .i64 (q : Int)] 3 (0, 0)) from (m7.2 H (by have := HZ6.out; omega) (fun h => by have h1 := HLT.out; unfold jm at h; omega)).trans HH6.out.1)
                have HR7 := Lib.hid (show W7.heap[H + 1]? = some (.cells #[.bool false] 4 (0, 0)) from (m7.2 (H + 1) (by have := HZ6.out; omega) (fun h => by have h1 := HLT.out; unfold jm at h; omega)).trans HH6.out.2)
                have HZ7 := Lib.hid (Nat.le_trans HZ6.out m7.size)
                clear m7 j7 hG
                cases b
                case false =>
                  simp only [Bool.false_eq_true, if_false] at HD
                  gi_wp2
                  refine RoundS.on ((HM6.out.trans M7.out).mono fun k hk => hk.elim .inl (fun h => .inr (.inl h))) ?_
                  exact ⟨HMD.out.trans (HM6.out.trans M7.out), HZ7.out, HQ7.out, HR7.out, by rw [HTo.out, HD.out]; rfl, by rw [HTo.out, HD.out]; exact J7.out, .inl rfl⟩
                case true =>
                  simp only [if_true] at HD
                  have k1 : W7.cell? ⟨H, 0, none⟩ = some (.int .i64 (q : Int)) := (box_cell HQ7.out).1
                  have k2 := J7.out.ne.at x hx24
                  have k3 := J7.out.ne.froz x
                  have k4 := (box_cell HR7.out).2
                  have k5 := (box_cell HR7.out).1
                  have k6 : (W7.setCell ⟨c.nb, x, none⟩ (.int .i64 (q : Int))).cell? ⟨H + 1, 0, none⟩ = some (.bool false) := by
                    have h1 := HLT.out
                    exact (box_cell (show (W7.setCell ⟨c.nb, x, none⟩ (.int .i64 (q : Int))).heap[H + 1]? = some (.cells #[.bool false] 4 (0, 0)) from (heap_setCell_other _ _ _ _ _ (by omega)).trans HR7.out)).1
                  have k7 : (W7.setCell ⟨c.nb, x, none⟩ (.int .i64 (q : Int))).frozen? ⟨H + 1, 0, none⟩ = false := by
                    have h1 := HLT.out
                    exact (box_cell (show (W7.setCell ⟨c.nb, x, none⟩ (.int .i64 (q : Int))).heap[H + 1]? = some (.cells #[.bool false] 4 (0, 0)) from (heap_setCell_other _ _ _ _ _ (by omega)).trans HR7.out)).2
                  gi_wp2
                  refine RoundS.ret ((((HM6.out.trans M7.out)).mono (O' := fun k => k = c.sn ∨ k = c.nb ∨ k = H + 1) (fun k hk => hk.elim .inl (fun h => .inr (.inl h)))).trans ((Mod.setCell _ _ _ _ (.inr (.inl rfl))).trans (Mod.setCell _ _ _ _ (.inr (.inr rfl))))) ?_
                  have h1 := HLT.out; have h2 := HTB.out
                  have hj8 := (J7.out.put HC.out x (q : Int)).other (H + 1) 0 (.bool true) ⟨by omega, by omega, by omega, by omega, by omega⟩ (by omega)
                  have hr8 : (W7.setCell ⟨c.nb, x, none⟩ (.int .i64 (q : Int))).heap[H + 1]? = some (.cells #[.bool false] 4 (0, 0)) := (heap_setCell_other _ _ _ _ _ (by omega)).trans HR7.out
                  refine ⟨((HMD.out.trans (HM6.out.trans M7.out)).trans (Mod.setCell (O := jm c) _ _ _ _ (.inr rfl))).over (Mod.setCell (O := fun k => k = H + 1) _ _ _ _ rfl) HH.out (fun k hk => by omega), ?_, (heap_setCell_other _ _ _ _ _ (by omega)).trans ((heap_setCell_other _ _ _ _ _ (by omega)).trans HQ7.out), heap_setCell_same _ _ 0 _ hr8, by rw [HTo.out, HD.out]; rfl, by rw [HTo.out, HD.out]; exact hj8, .inr rfl⟩
                  · have := HZ7.out; simpa [go_sem] using this
  case hdone =>
    rw [q4]
    rintro V hi hT hd
    have HI := Lib.hid hi
    have HD := Lib.hid hd
    have c7 := box_cell hi.rb
    have hfl := hi.fl
    have HSZ := Lib.hid hi.sz
    clear hi hT hd
    gi_wp2
    refine leaves_marks [H + 3] _ (by simp) (fun D hD => ?_) (fun W9 hm => ?_)
    · simp at hD; rw [hD]; exact (heap_setCell_other _ _ _ _ _ (by omega)).trans HD.out
    · have h1 := HLT.out; have h2 := HTB.out
      have hrb := heap_setCell_same V (H + 1) 0 (.bool false) HI.out.rb
      have hX : Mod (fun k => k = H + 1 ∨ k = H + 3) V W9 := (Mod.setCell (O := fun q => q = H + 1 ∨ q = H + 3) _ _ _ _ (.inl rfl)).trans (hm.mono fun q hq => .inr (by simpa using hq))
      refine ⟨_, results_cell_one (b := false) rfl _ _ rfl (box_cell (v := .bool false) ((hm.2 (H + 1) (Array.getElem?_eq_some_iff.1 hrb).1 (fun h => by simp at h)).trans hrb)).1, ?_⟩
      exact ⟨by rw [HJN.out, hfl]; rfl, HI.out.md.over hX HH.out (fun k hk => by omega), by rw [HJN.out]; exact HI.out.js.over hX (fun k hk => ⟨by omega, by omega, by omega, by omega, by omega, by omega⟩)⟩
  case hstop =>
    rw [q4]
    rintro done pc V hi hpx hT hd
    rcases hi.pc with e | e
    · cases e
    obtain rfl : pc = .ret := by simpa using e
    have HI := Lib.hid hi
    have HD := Lib.hid hd
    have HPX := Lib.hid hpx
    have c7 := box_cell hi.rb
    have hfl := hi.fl
    have HSZ := Lib.hid hi.sz
    clear hi hT hd e hpx
    gi_wp2
    refine leaves_marks [H + 3] _ (by simp) (fun D hD => ?_) (fun W9 hm => ?_)
    · simp at hD; rw [hD]; exact HD.out
    · have h1 := HLT.out; have h2 := HTB.out
      have hX : Mod (fun k => k = H + 1 ∨ k = H + 3) V W9 := hm.mono fun q hq => .inr (by simpa using hq)
      obtain ⟨rest, hrest⟩ := HPX.out
      have hst := joTo_stop c.G.re c.s f q st done hfl rest
      rw [hrest] at hst
      refine ⟨_, results_cell_one (b := true) rfl _ _ rfl (box_cell (v := .bool true) ((hm.2 (H + 1) (Array.getElem?_eq_some_iff.1 HI.out.rb).1 (fun h => by simp at h)).trans HI.out.rb)).1, ?_⟩
      exact ⟨by rw [HJN.out, hst, hfl]; rfl, HI.out.md.over hX HH.out (fun k hk => by omega), by rw [HJN.out, hst]; exact HI.out.js.over hX (fun k hk => ⟨by omega, by omega, by omega, by omega, by omega, by omega⟩)⟩

theorem join_in (c : JB) (hc : c.ok) : ∀ (f q : Nat) (st : MSt) (W : World), q < 24 → st.ok → nf c.s st.seen < f → JSt c st W → Calls Tryd.prog 156 #[.int .i64 (q : Int), .pointer (some ⟨c.sb, 0, none⟩), .pointer (some ⟨c.sn, 0, none⟩), .pointer (some ⟨c.gb, 0, none⟩), .pointer (some ⟨c.nb, 0, none⟩), .pointer (some ⟨c.jb, 0, none⟩)] W (JoR c f q st W)
  | 0, _, _, _, _, _, h, _ => absurd h (Nat.not_lt_zero _)
  | f + 1, q, st, W, hq, hst, hn, hj => join_succ c hc f (join_in c hc f) q st W hq hst hn hj
end Go.Proofs.YtiejefehcpfkaaaDoor
