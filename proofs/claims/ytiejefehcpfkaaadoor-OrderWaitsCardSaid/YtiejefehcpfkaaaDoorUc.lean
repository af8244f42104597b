/- The first circle whose least place is given, as circleFrom returns it: ciN. Graphs of at most 24 places. -/
import Derived.Test.YtiejefehcpfkaaaDoorUb
import Derived.Sort.CutIn
set_option linter.unusedSimpArgs false
set_option linter.unusedVariables false
set_option maxRecDepth 100000
namespace Go.Proofs.YtiejefehcpfkaaaDoor
open Go.RowKit Go.Shelf

attribute [local go_sem] Oper.semAt_some

/-- a region within a round that ends in its operation number z; T tells what it leaves -/
theorem region_lastR {P : Program} {ops : Array Oper} {Q : Exit → Act → World → Prop} {lp n : Nat} {id : Nat} {a : Act} {w : World} (z : Nat) (S : World → Prop) (T : Act → World → Prop) (hm : P.follows .mixedOrders = true) (hd : noDefer ops = true)
    (h : wpAnyG P .any ops (QN T) S z ops.size (Array.replicate ops.size false) a w.drew) (hq : ∀ a' w', T a' w' → Q .normal a' w') : (Code.region id ops true).wpIn (Fence.wide.inRound lp) n P Q a w :=
  wpIn_mono (wpIn_region_any hm (anyIn_of_any (noDefer_spec hd) _ _ _ _ (any_of_G _ _ _ _ h))) (fun e a' w' h => by
    cases e with
    | normal => exact hq _ _ h
    | _ => exact h.elim)
def ciM (wb sb : Nat) (w : World) : Nat := (match w.cell? ⟨wb, 0, none⟩ with
  | some (.slice _ n _) => n
  | _ => 0) + nf24 (intOf ((w.cell? ⟨sb, 0, none⟩).getD undef)).toNat
theorem CiL.m {w : World} {H sb wb B : Nat} {G : Gph} {least : Nat} {q : List (List Nat)} {seen f : Nat} {P X : Nat → Prop} {V : World} (h : CiL w H sb wb B G least q seen f P X V) : ciM wb sb V = q.length + nf24 seen := by
  obtain ⟨qv, g, vs, g1, ⟨off, cap, cur, rfl, _⟩, g3, _⟩ := h.qs
  unfold ciM
  rw [(box_cell g1).1, (box_cell h.ss).1, ← g3.len]
  show vs.length + nf24 (Int.toNat (seen : Int)) = _
  rw [Int.toNat_natCast]
/-- the circle found, or none -/
def CirV (W : World) (base : Nat) (v : Value) (r : Option (List Nat)) : Prop := (r = none ∧ v = .slice none 0 0) ∨ ∃ l, r = some l ∧ l ≠ [] ∧ l.length ≤ 25 ∧ W.ownsRow base 3 1 v l.length (natCells l)

set_option maxHeartbeats 32000000 in
theorem circleFrom_c (G : Gph) (least : Nat) (w : World) (hG : G.ok) (haf : ∀ p, G.af p < 2 ^ 24) (hle : least < 24) (hT : Tab w) :
    Calls Tryd.prog 76 #[.agg G.cells.toArray, .int .i64 (least : Int)] w fun en w' => ∃ v, en = .returned v ∧ New w w' ∧ CirV w' w.heap.size v (ciN G.af least 49 [[least]] (fst (least + 1))) := by
  obtain ⟨H, hH⟩ : ∃ H, w.heap.size = H := ⟨_, rfl⟩
  obtain ⟨GC, hGC⟩ : ∃ GC, GC = G.cells.toArray := ⟨_, rfl⟩
  rw [← hGC]
  have HGC := Lib.hid hGC
  have HH := Lib.hid hH
  have HG := Lib.hid hG
  have HT := Lib.hid hT
  have HAF := Lib.hid haf
  have HTB := Lib.hid (show 0 < H from by rw [← hH]; exact hT.1)
  obtain ⟨F1, hF1⟩ : ∃ F1, fst (least + 1) = F1 := ⟨_, rfl⟩
  have hF24 : F1 < 2 ^ 24 := by rw [← hF1]; exact fst24 (by omega)
  have HFP := Lib.hid (show ∀ w1, Calls Tryd.prog 102 #[.int .i64 ((least : Int) + 1)] w1 fun e w' => e = .returned (sv F1) ∧ New w1 w' from fun w1 => by
    have := firstPatches_c (least + 1) w1 (by omega)
    rw [hF1, show ((least + 1 : Nat) : Int) = (least : Int) + 1 from by omega] at this
    exact this)
  rw [hF1]
  obtain ⟨RES, hRES⟩ : ∃ RES, ciN G.af least 49 [[least]] F1 = RES := ⟨_, rfl⟩
  rw [hRES]
  have HRES := Lib.hid hRES
  have HF24 := Lib.hid hF24
  have hle' : (least : Int) < 24 := by omega
  have HWP := Lib.hid (IntWalk.i64_in ((least : Int) + 1) (by omega))
  clear hG hT haf hGC hRES hF1 hF24
  refine (callsIn_wide (n := 5)).1 ?_
  refine callsIn_of_wp_marks Tryd.func76 rfl trivial ?_ rfl
  simp only [Tryd.ntmps76, List.size_toArray, List.length_cons, List.length_nil, Nat.reduceAdd, Nat.reduceSub, Array.replicate_succ, Array.replicate_zero, List.push_toArray, List.append_toArray, List.nil_append, List.cons_append]
  gi_wp2
  refine wpIn_scope ?_
  gi_wp2
  (try simp only [HWP.out])
  refine ⟨trivial, ?_⟩
  gi_at_call 102
  obtain ⟨W2, hW2⟩ : ∃ W2 : World, Hid (W2 = ((w.alloc (.cells GC 83)).alloc (.cells #[.int .i64 (least : Int)] 3)).alloc (.cells #[.slice none 0 0] 31)) := ⟨_, Lib.hid rfl⟩
  rw [← hW2.out]
  obtain ⟨q0, q1, q2⟩ : Gr W2 H G ∧ W2.heap[H + 1]? = some (.cells #[.int .i64 (least : Int)] 3 (0, 0)) ∧ W2.heap[H + 2]? = some (.cells #[.slice none 0 0] 31 (0, 0)) := by
    rw [hW2.out, ← HH.out]
    obtain ⟨a1, a2⟩ := alloc3_heap2 w (.cells GC 83) (.cells #[.int .i64 (least : Int)] 3)
    have hn := (New.refl ((w.alloc (.cells GC 83)).alloc (.cells #[.int .i64 (least : Int)] 3))).alloc (.cells #[.slice none 0 0] 31)
    refine ⟨?_, row_new a2 hn, ?_⟩
    · have := row_new a1 hn
      rw [HGC.out] at this ⊢; exact this
    · have := World.alloc_heap_new ((w.alloc (.cells GC 83)).alloc (.cells #[.int .i64 (least : Int)] 3)) (.cells #[.slice none 0 0] 31)
      simpa using this
  have hn2 : New w W2 := by rw [hW2.out]; exact (((New.refl _).alloc _).alloc _).alloc _
  have HZ2 := Lib.hid (show W2.heap.size = H + 3 from by rw [hW2.out, ← HH.out]; simp)
  refine ((callsIn_wide (n := 4)).2 (HFP.out _)).mono ?_
  rintro e w3 ⟨rfl, n3⟩
  have N3 := Lib.hid (hn2.trans n3)
  have HG3 := Lib.hid (q0.new n3)
  have HP3 := Lib.hid (row_new q1 n3)
  have HC3 := Lib.hid (row_new q2 n3)
  obtain ⟨sb, hsb⟩ : ∃ sb, w3.heap.size = sb := ⟨_, rfl⟩
  have HSB := Lib.hid (show H + 3 ≤ sb from by rw [← hsb, ← HZ2.out]; exact n3.size)
  have e1 : (w3.alloc (.cells #[sv F1] 79)).cell? ⟨H + 1, 0, none⟩ = some (.int .i64 (least : Int)) := (box_cell (row_new HP3.out ((New.refl w3).alloc _))).1
  clear n3 hn2 q0 q1 q2
  gi_wp2
  refine wpIn_label ?_
  gi_wp2
  obtain ⟨W0, hW0⟩ : ∃ W0 : World, Hid (W0 = ((((w3.alloc (.cells #[.int .u32 (F1 : Int)] 79)).alloc (.cells #[.int .i64 (least : Int)] 3)).alloc (.cells #[.slice (some ⟨sb + 1, 0, none⟩) 1 1] 31)).alloc (.cells #[.slice (some ⟨sb + 1 + 1, 0, none⟩) 1 1] 48))) := ⟨_, Lib.hid rfl⟩
  rw [← hW0.out]
  have HL0 := Lib.hid (show CiL w H sb (sb + 3) (H + 3) G least [[least]] F1 49 (fun k => k ∈ ([] : List Nat)) (fun _ => False) W0 from by
    obtain ⟨p1, p2, p3, p4, p5⟩ := alloc4_heap w3 (.cells #[.int .u32 (F1 : Int)] 79) (.cells #[.int .i64 (least : Int)] 3) (.cells #[.slice (some ⟨sb + 1, 0, none⟩) 1 1] 31) (.cells #[.slice (some ⟨sb + 1 + 1, 0, none⟩) 1 1] 48) sb hsb
    rw [← hW0.out] at p1 p2 p3 p4 p5
    have hn : New w3 W0 := by rw [hW0.out]; exact ((((New.refl _).alloc _).alloc _).alloc _).alloc _
    have hb := HSB.out
    have hnf := nf24_le HF24.out
    refine ⟨N3.out.trans hn, HG3.out.new hn, row_new HP3.out hn, row_new HC3.out hn, p1, ⟨HF24.out, fun l hl => ?_, ?_⟩, _, sb + 2, [.slice (some ⟨sb + 1, 0, none⟩) 1 1], p4, ⟨0, 1, _, rfl, by omega, p3, by simp, by simp, by unfold maxLen; omega, by simp⟩, ⟨⟨by simp [natCells], .inr ⟨sb + 1, 1, #[.int .i64 (least : Int)], rfl, by omega, p2, by simp, by unfold maxLen; omega, by simp, by simp [natCells]⟩⟩, trivial⟩, by simp, id, fun v hv b hb' => ?_⟩
    · have e : l = [least] := by simpa using hl
      subst e
      exact ⟨by simp, fun x hx => by simp at hx; omega, by simp; omega⟩
    · simp; omega
    · have e : v = .slice (some ⟨sb + 1, 0, none⟩) 1 1 := by simpa using hv
      subst e
      simp [Value.ownBlock] at hb'
      exact ⟨by simp, by omega⟩)
  clear e1 hsb
  refine wpIn_loop (fun a' w' => ∃ (f : Nat) (q : List (List Nat)) (seen : Nat) (Ds : List Nat) (u8 u9 u10 u11 u12 u13 u14 u15 u16 u17 u18 u19 u20 u21 u22 u23 u24 u25 u26 u27 u28 u29 u30 u31 u32 u33 u34 u35 u36 u37 u38 u39 u40 u41 u42 u43 u44 u45 u46 u47 u48 u49 u50 u51 u52 u53 u54 u55 : Value), (CiL w H sb (sb + 3) (H + 3) G least q seen f (fun k => k ∈ Ds) (fun _ => False) w' ∧ RES = ciN G.af least f q seen ∧ f ≤ 49 ∧ Ds.Nodup ∧ ∀ D ∈ Ds, w'.heap[D]? = some (.deferred (some [])) ∧ H + 3 ≤ D) ∧ a' = { tmps := #[.agg GC, .int .i64 (least : Int), .pointer (some ⟨H, 0, none⟩), .pointer (some ⟨H + 1, 0, none⟩), .slice none 0 0, .pointer (some ⟨H + 2, 0, none⟩), .pointer (some ⟨sb, 0, none⟩), .pointer (some ⟨sb + 3, 0, none⟩), u8, u9, u10, u11, u12, u13, u14, u15, u16, u17, u18, u19, u20, u21, u22, u23, u24, u25, u26, u27, u28, u29, u30, u31, u32, u33, u34, u35, u36, u37, u38, u39, u40, u41, u42, u43, u44, u45, u46, u47, u48, u49, u50, u51, u52, u53, u54, u55], defers := marks Ds }) (fun _ w' => ciM (sb + 3) sb w') ?_ ?_
  · exact ⟨49, [[least]], F1, [], _, _, _, _, _, _, _, _, _, _, _, _, _, _, _, _, _, _, _, _, _, _, _, _, _, _, _, _, _, _, _, _, _, _, _, _, _, _, _, _, _, _, _, _, _, _, _, _, ⟨HL0.out, HRES.out.symm, Nat.le_refl _, List.nodup_nil, fun D hD => by cases hD⟩, rfl⟩
  · rintro a' wr ⟨f, q, seen, Ds, u8, u9, u10, u11, u12, u13, u14, u15, u16, u17, u18, u19, u20, u21, u22, u23, u24, u25, u26, u27, u28, u29, u30, u31, u32, u33, u34, u35, u36, u37, u38, u39, u40, u41, u42, u43, u44, u45, u46, u47, u48, u49, u50, u51, u52, u53, u54, u55, ⟨hL, hres, hf49, hnd, hmk⟩, rfl⟩
    have HL := Lib.hid hL
    have HRS := Lib.hid hres
    have HF49 := Lib.hid hf49
    have HND := Lib.hid hnd
    have HMK := Lib.hid hmk
    obtain ⟨qv, g, vs, hw1, hw2, hw3, hw4, hw5, hw6⟩ := hL.qs
    clear hL hres hf49 hnd hmk
    dsimp only
    cases q with
    | nil =>
      obtain rfl : vs = [] := List.length_eq_zero_iff.1 hw3.len
      obtain ⟨off, cap, cur, rfl, _⟩ := hw2
      have c7 := (box_cell hw1).1
      have c5 := (box_cell HL.out.cr).1
      have HE := Lib.hid (show RES = none from by rw [HRS.out]; cases f <;> rfl)
      clear hw1 hw3 hw4 hw5 hw6
      gi_wp2
      refine leaves_marks Ds _ HND.out (fun k hk => (HMK.out k hk).1) (fun W9 hm => ?_)
      refine ⟨_, results_tmp rfl _ _ _, ?_⟩
      exact ⟨_, rfl, Mod.new HL.out.nw hm (fun k hk => by rw [HH.out]; have := (HMK.out k hk).2; omega), .inl ⟨HE.out, rfl⟩⟩
    | cons l q =>
      obtain ⟨f', rfl⟩ : ∃ f', f = f' + 1 := ⟨f - 1, by have := HL.out.ok.ql; simp at this; omega⟩
      obtain ⟨v0, vs, rfl⟩ : ∃ v0 vs', vs = v0 :: vs' := by
        have := hw3.len
        cases vs with
        | nil => simp at this
        | cons v vs => exact ⟨v, vs, rfl⟩
      obtain ⟨hv0, hw3⟩ := hw3
      have hlok := HL.out.ok.ne l (by simp)
      obtain ⟨L, hL⟩ : ∃ L, l.length = L + 1 := ⟨l.length - 1, by have := List.length_pos_iff.2 hlok.1; omega⟩
      obtain ⟨g0, c0, rfl⟩ : ∃ g0 c0, v0 = .slice (some ⟨g0, 0, none⟩) (L + 1) c0 := by
        rcases hv0.2 with ⟨_, h0⟩ | ⟨g0, c0, cur, e, _⟩
        · omega
        · exact ⟨g0, c0, by rw [e, hL]⟩
      obtain ⟨off, cap, rfl, hc0, htail⟩ := hw2.head
      obtain ⟨n, hn⟩ : ∃ n, vs.length = n := ⟨_, rfl⟩
      rw [hn] at hw1 htail
      obtain ⟨off2, hoff2⟩ : ∃ off2, off2 = (if cap = 0 then off else off + 1) := ⟨_, rfl⟩
      have hQ2 := htail off2 hoff2
      have HTAIL := Lib.hid (show ∀ W : World, (Instr.sliceAt 48 (.slice (some ⟨g, off, none⟩) (n + 1) (cap + 1)) (some (.int .i64 1)) none none).run Tryd.prog W = .ok (.slice (some ⟨g, off2, none⟩) n cap) W from fun W => by rw [hoff2]; exact run_tail g off n cap W)
      have hv0c := hv0
      rw [hL] at hv0c
      have hcl := own_cell hv0c (natCells_at l L (by omega))
      have hcl0 := hcl.1
      obtain ⟨la, hla⟩ : ∃ la, l.getD L 0 = la := ⟨_, rfl⟩
      rw [hla] at hcl0
      have hlast : lastN l = la := by rw [lastN_at hlok.1, hL]; exact hla
      have hla24 : la < 24 := by rw [← hlast]; exact lastN_24 hlok.1 hlok.2.1
      have hla24' : (la : Int) < 24 := by omega
      obtain ⟨s, hs⟩ : ∃ s, G.af la = s := ⟨_, rfl⟩
      have hs24 : s < 2 ^ 24 := by rw [← hs]; exact HAF.out la
      have hs32 : s < 4294967296 := by omega
      have hLb : (L : Int) < 25 := by have := hlok.2.2; omega
      have hg0B := hv0.lt g0 rfl
      have hgB := hw2.lt
      have hg0s : g0 ≠ sb ∧ g0 ≠ sb + 3 := ⟨own_type hv0 rfl HL.out.ss (by decide), own_type hv0 rfl hw1 (by decide)⟩
      have hgs : g ≠ sb ∧ g ≠ sb + 3 := by
        obtain ⟨off', cap', cur, _, _, c1, _⟩ := hw2
        refine ⟨fun e => ?_, fun e => ?_⟩
        · have := HL.out.ss; rw [← e, c1] at this; simp at this
        · have := hw1; rw [← e, c1] at this; simp at this
      obtain ⟨lb, hlb⟩ : ∃ lb, wr.heap.size = lb := ⟨_, rfl⟩
      have hwlt := (Array.getElem?_eq_some_iff.1 hw1).1
      have hslt := (Array.getElem?_eq_some_iff.1 HL.out.ss).1
      obtain ⟨W1, hW1⟩ : ∃ W1 : World, W1 = wr.alloc (.cells #[.slice (some ⟨g0, 0, none⟩) (L + 1) c0] 31) := ⟨_, rfl⟩
      have hn1 : New wr W1 := by rw [hW1]; exact (New.refl wr).alloc _
      have hx1 : W1.heap[lb]? = some (.cells #[.slice (some ⟨g0, 0, none⟩) (L + 1) c0] 31 (0, 0)) := by rw [hW1, ← hlb]; exact World.alloc_heap_new wr _
      obtain ⟨W2, hW2⟩ : ∃ W2 : World, W2 = W1.setCell ⟨sb + 3, 0, none⟩ (.slice (some ⟨g, off2, none⟩) n cap) := ⟨_, rfl⟩
      have hm2 : Mod (fun k => k = sb + 3) W1 W2 := by rw [hW2]; exact Mod.setCell _ _ _ _ rfl
      have kp2 : ∀ k o, k ≠ sb + 3 → W1.heap[k]? = some o → W2.heap[k]? = some o := fun k o hk e => (hm2.2 k (Array.getElem?_eq_some_iff.1 e).1 hk).trans e
      have hx2 := kp2 lb _ (by omega) hx1
      have hg2 : Gr W2 H G := kp2 _ _ (by have := HSB.out; omega) (HL.out.gr.new hn1)
      have ho2 : W2.ownsRow (H + 3) 3 1 (.slice (some ⟨g0, 0, none⟩) (L + 1) c0) l.length (natCells l) := own_keep (own_new hv0 hn1) (fun b hb => by
        simp [Value.ownBlock] at hb
        subst hb
        rw [hW2]
        exact heap_setCell_other _ _ _ _ _ hg0s.2)
      have hcl2 : W2.cell? ⟨g0, L, none⟩ = some (.int .i64 (la : Int)) := by
        have ho2c := ho2
        rw [hL] at ho2c
        have := (own_cell ho2c (natCells_at l L (by omega))).1
        rw [hla] at this; exact this
      have c7 := (box_cell hw1).1
      have d1 := box_cell (row_new hw1 hn1)
      have d2 := (box_cell hx2).1
      have d4 : W2.cell? ⟨H, 3 + la, none⟩ = some (sv s) := by rw [hg2.cell, ← hs]; exact Gph.at_af _ la hla24
      have HCI := Lib.hid (show CiL w H sb (sb + 3) (H + 3) G least q seen f' (fun k => k ∈ Ds ∨ k = lb) (fun k => (Value.slice (some ⟨g0, 0, none⟩) (L + 1) c0).ownBlock = some k) W2 from by
        have h := HL.out
        have hb := HSB.out
        have hp : W2.heap[sb + 3]? = some (.cells #[.slice (some ⟨g, off2, none⟩) n cap] 48 (0, 0)) := by rw [hW2]; exact heap_setCell_same _ _ 0 _ (row_new hw1 hn1)
        have hbi := h.ok
        refine ⟨Mod.new (h.nw.trans hn1) hm2 (fun k hk => by rw [hk, HH.out]; omega), hg2, kp2 _ _ (by omega) (row_new h.ps hn1), kp2 _ _ (by omega) (row_new h.cr hn1), kp2 _ _ (by omega) (row_new h.ss hn1), ⟨hbi.s24, fun x hx => hbi.ne x (by simp [hx]), by have := hbi.ql; simp at this; omega⟩, _, g, vs, hp, ?_, ?_, ?_, ?_, fun v hv b hb' => ?_⟩
        · rw [← hn] at hQ2 ⊢
          refine hQ2.keep ?_
          exact (hm2.2 g (Nat.lt_of_lt_of_le hgB.2 hn1.size) hgs.2).trans (hn1.below.block g hgB.2)
        · refine hw3.keep fun v hv b hb' hl => ?_
          obtain ⟨l3, ho⟩ := hw3.own v hv
          exact (hm2.2 b (Nat.lt_of_lt_of_le hl hn1.size) (own_type ho hb' hw1 (by decide))).trans (hn1.below.block b hl)
        · intro h'
          rcases h' with h' | h'
          · exact hw4 h'
          · omega
        · intro h'
          simp [Value.ownBlock] at h'
          exact (hw6 (.slice (some ⟨g0, 0, none⟩) (L + 1) c0) (by simp) g0 rfl).2 h'
        · have h6 := hw6 v (by simp [hv]) b hb'
          have hl6 := (hw3.lt v hv b hb').2
          exact ⟨fun h' => h'.elim h6.1 (fun e => by omega), h6.2⟩)
      have HOW := Lib.hid ho2
      have HLX := Lib.hid hx2
      have HMK2 := Lib.hid (show ∀ D' ∈ Ds, W2.heap[D']? = some (.deferred (some [])) from fun D' hD' => kp2 _ _ (fun e => by
        have h1 := (HMK.out D' hD').1
        rw [e, hw1] at h1
        cases h1) (row_new (HMK.out D' hD').1 hn1))
      have HST := Lib.hid (show biTo least l q seen (bitsOf s) = biTo least l q seen (bitsOf (G.af (lastN l))) from by rw [hlast, hs])
      have HLOK := Lib.hid hlok
      have HOKA := Lib.hid HL.out.ok
      have HLL := Lib.hid hL
      have HSZ := Lib.hid (show lb < W2.heap.size ∧ sb + 3 < lb from ⟨(Array.getElem?_eq_some_iff.1 hx2).1, by omega⟩)
      have HG0 := Lib.hid (show H + 3 ≤ g0 ∧ g0 < lb from ⟨hg0B.1, by omega⟩)
      have HDL := Lib.hid (show ∀ D' ∈ Ds, D' < lb from fun D' hD' => by rw [← hlb]; exact (Array.getElem?_eq_some_iff.1 (HMK.out D' hD').1).1)
      have HN12 := Lib.hid (show ciM (sb + 3) sb wr = (n + 1) + nf24 seen from by
        unfold ciM
        rw [c7, (box_cell HL.out.ss).1]
        show n + 1 + nf24 (Int.toNat (seen : Int)) = _
        rw [Int.toNat_natCast])
      have HNQ := Lib.hid (show q.length = n from by rw [← hn]; exact hw3.len.symm)
      have HPC := Lib.hid (fun (w1 : World) => (callsIn_wide (n := 4)).2 (patches_c s w1))
      have HS24 := Lib.hid hs24
      have HS32 := Lib.hid hs32
      have HW1 := Lib.hid hW1
      have HW2 := Lib.hid hW2
      have HD2 := Lib.hid d2
      have HD3 := Lib.hid hcl2
      have HD4 := Lib.hid d4
      rw [hW1] at d1
      clear hw1 hw2 hw3 hw4 hw5 hw6 hv0 hv0c hlok htail hQ2 hcl hcl0 hlast hs hg0B hgB hg0s hgs hn1 hx1 hm2 kp2 hx2 hg2 ho2 hwlt hslt hs24 hs32 hoff2 hn hL hla hW1 hW2 d2 hcl2 d4
      gi_upto_region 7 with (refine wpListIn_slice_run rfl 48 (.tmp 22) (.const (.int .i64 1)) rfl (HTAIL.out _) ?_)
      rw [← HW1.out, ← HW2.out]
      clear c7 d1 hc0
      have d2 := HD2.out
      have d3 := HD3.out
      have d4 := HD4.out
      gi_wp2
      refine ⟨trivial, ?_⟩
      gi_at_call 89
      refine (HPC.out _).mono ?_
      rintro e w4 ⟨rfl, rfl⟩
      clear d2 d3 d4
      gi_wp2
      obtain ⟨WQ, HWQ⟩ : ∃ WQ : World, Hid (WQ = W2.alloc (.cells #[sv s] 79)) := ⟨_, Lib.hid rfl⟩
      rw [← HWQ.out]
      obtain ⟨qs, qz⟩ : WQ.heap[W2.heap.size]? = some (.cells #[sv s] 79 (0, 0)) ∧ WQ.heap.size = W2.heap.size + 1 := by rw [HWQ.out]; exact ⟨World.alloc_heap_new W2 _, by simp⟩
      have hnQ : New W2 WQ := by rw [HWQ.out]; exact (New.refl W2).alloc _
      obtain ⟨D, hD⟩ : ∃ D, WQ.heap.size = D := ⟨_, rfl⟩
      have HDB := Lib.hid (show w.heap.size ≤ D ∧ H + 2 < D ∧ sb < D ∧ sb + 3 < D ∧ lb < D ∧ 0 < D from by
        have h1 := HSB.out; have h2 := HH.out; have h3 := HSZ.out; have h4 := HTB.out
        omega)
      have HDD := Lib.hid (show ∀ k ∈ Ds, k < D from fun k hk => by have := HDL.out k hk; have := HDB.out; omega)
      have HDV := Lib.hid (show ∀ b, (Value.slice (some ⟨g0, 0, none⟩) (L + 1) c0).ownBlock = some b → b < D from fun b hb => by simp [Value.ownBlock] at hb; have := HG0.out; have := HDB.out; omega)
      have HTQ := Lib.hid (HT.out.new (HCI.out.nw.trans hnQ))
      have HI0 := Lib.hid (show CiI w H sb (sb + 3) (H + 3) lb G least l q seen f' (.slice (some ⟨g0, 0, none⟩) (L + 1) c0) Ds D (plus D fun _ => False) [] none WQ from by
        refine ⟨fun k hk => ?_, by omega, HTQ.out, row_new HLX.out hnQ, own_new HOW.out hnQ, fun D' hD' => row_new (HMK2.out D' hD') hnQ, .inl ⟨rfl, rfl, HCI.out.mod (O := fun _ => False) (Mod.of_new hnQ) (fun _ h => h.elim) (fun k hk => ?_) (fun k hk => .inl hk)⟩⟩
        · rcases hk with hk | hk | hk
          · cases hk
          · omega
          · omega
        · rcases hk with (hk | hk | hk) | hk
          · cases hk
          · exact .inr (by omega)
          · exact .inr (by omega)
          · exact .inl hk)
      have hsb2 : W2.heap.size < WQ.heap.size := by omega
      have HSTB := Lib.hid (show ∀ P P' ps pc V V', CiI w H sb (sb + 3) (H + 3) lb G least l q seen f' (.slice (some ⟨g0, 0, none⟩) (L + 1) c0) Ds D P ps pc V → Mod P V V' → (∀ k, P' k → P k ∨ V.heap.size ≤ k) → CiI w H sb (sb + 3) (H + 3) lb G least l q seen f' (.slice (some ⟨g0, 0, none⟩) (L + 1) c0) Ds D P' ps pc V' from fun P P' ps pc V V' h hm ho => h.stable HDB.out HDD.out HDV.out hm ho)
      clear hnQ
      refine range_gen (n := 5) (by omega) rfl (enters_of Tryd.func140 (by kernel_rfl) rfl) (Elem := ElemP) (xs := bitsOf s) (E := tabE)
        (fun W1 hn1 _ => patches_it s W2.heap.size HS32.out W1 ((hn1.below.block _ hsb2).trans qs) (HTQ.out.new hn1)) (fun k hk => by have := HDB.out; unfold tabE at hk; omega) (by rintro x args O W rfl; rfl)
        (CiI w H sb (sb + 3) (H + 3) lb G least l q seen f' (.slice (some ⟨g0, 0, none⟩) (L + 1) c0) Ds D) (fun P P' ps pc V V' h hm ho => HSTB.out P P' ps pc V V' h hm ho) ?h0 ?hbody ?hdone ?hstop
      case h0 => rw [hD]; exact HI0.out
      case hbody =>
        rw [hD]
        rintro m O9 ps p args V hI rfl hpx hD1 hD0 ⟨r, hr⟩ hbnd
        have HI := Lib.hid hI
        have HBN := Lib.hid hbnd
        have hdl := (Array.getElem?_eq_some_iff.1 hr).1
        have HDL2 := Lib.hid hdl
        have hall : ∀ x ∈ ps ++ [p], x < 24 := fun x hx => low24 HS24.out (by obtain ⟨rest, hrest⟩ := hpx; rw [← hrest]; exact List.mem_append_left _ hx)
        have hp24 := hall p (by simp)
        have HOK9 := Lib.hid (biTo_ok (least := least) HOKA.out (ps ++ [p]) hall).1
        have HTo := Lib.hid (biTo_snoc least l q seen ps p)
        clear hI hD1 hD0 hr hbnd hdl hpx qs qz hsb2 hall
        gi_wp2
        refine ⟨Keep.refl _ _, ?_⟩
        intro V2 hb2 hs2 ho2 hr2
        have HSV := Lib.hid (show V.heap.size ≤ V2.heap.size from hb2.size)
        have HI2 := Lib.hid (HSTB.out (plus D O9) (plus D O9) ps none V V2 HI.out ⟨hb2, fun k hk h' => ho2 k (fun e => h' (.inr (.inr e)))⟩ (fun k hk => .inl hk))
        clear hb2 hs2 ho2 hr2
        rcases HI2.out.st with ⟨_, hfl, hCL⟩ | ⟨e, _⟩
        case inr => cases e
        obtain ⟨⟨b0, q1, seen1⟩, hr0⟩ : ∃ r, biTo least l q seen ps = r := ⟨_, rfl⟩
        rw [hr0] at hfl hCL HTo
        dsimp only at hCL
        obtain rfl : b0 = false := hfl
        rw [HTo.out] at HOK9
        have HCL := Lib.hid hCL
        have c1 := (box_cell hCL.ps).1
        have c6 := (box_cell hCL.ss).1
        have c8 := (box_cell HI2.out.lx).1
        have c5 := box_cell hCL.cr
        have HBN2 := Lib.hid (show ∀ k, plus D O9 k → k < V2.heap.size from fun k hk => by
          have := HSV.out
          have h2 := HDL2.out
          rcases hk with hk | hk | hk
          · have := HBN.out k hk; omega
          · omega
          · omega)
        have HKEEP := Lib.hid (show ∀ (e : Exit) (W3 : World) (pc : Option Code) (O : Nat → Prop), Mod O V2 W3 → (∀ k, O k → k < D ∧ k ≠ 0) → CiI w H sb (sb + 3) (H + 3) lb G least l q seen f' (.slice (some ⟨g0, 0, none⟩) (L + 1) c0) Ds D (plus D O9) (ps ++ [p]) pc W3 → (pc = none ∧ e = .normal ∨ pc = some .ret ∧ e = .ret ∨ ∃ id, pc = some (.exit id) ∧ e = .exit id) → RoundG D O9 tabE (CiI w H sb (sb + 3) (H + 3) lb G least l q seen f' (.slice (some ⟨g0, 0, none⟩) (L + 1) c0) Ds D) (ps ++ [p]) V2 e W3 from fun e W3 pc O hm ho hc he => ⟨Keep.of_mod hm fun k hk h' => by
          have h1 := ho k h'
          rcases hk with hk | hk
          · have := HI2.out.hi k hk; omega
          · exact h1.2 hk, pc, hc, he⟩)
        clear hr0 hCL
        by_cases hpl : p = least
        · have hEQ : ((p : Int) == (least : Int)) = true := by simp [hpl]
          have HSTEP := Lib.hid (show biStep least l (false, q1, seen1) p = (true, q1, seen1) from by unfold biStep; simp [hpl])
          clear hpl
          gi_wp2
          have hm : Mod (fun k => k = H + 2) V2 (V2.setCell ⟨H + 2, 0, none⟩ (.slice (some ⟨g0, 0, none⟩) (L + 1) c0)) := Mod.setCell _ _ _ _ rfl
          have kp : ∀ k o, k ≠ H + 2 → V2.heap[k]? = some o → (V2.setCell ⟨H + 2, 0, none⟩ (.slice (some ⟨g0, 0, none⟩) (L + 1) c0)).heap[k]? = some o := fun k o hk e => (hm.2 k (Array.getElem?_eq_some_iff.1 e).1 hk).trans e
          have h1 := HSB.out; have h2 := HH.out; have h3 := HSZ.out; have h4 := HTB.out; have h5 := HG0.out
          refine HKEEP.out _ _ (some (.exit 0)) _ hm (fun k hk => by have := HDB.out; omega) ⟨HI2.out.hi, Nat.le_trans HI2.out.sz hm.size, HI2.out.tb.keep (Keep.of_mod (O' := tabE) hm fun k hk h' => by unfold tabE at hk; omega) rfl, kp _ _ (by omega) HI2.out.lx, own_keep HI2.out.lo (fun b hb => hm.2 b (HI2.out.lo.lt b hb).2 (by have := (HI2.out.lo.lt b hb).1; omega)), fun D' hD' => kp _ _ (fun e => by
            have h6 := HI2.out.dm D' hD'
            rw [e, HCL.out.cr] at h6
            cases h6) (HI2.out.dm D' hD'), .inr ⟨rfl, by rw [HTo.out, HSTEP.out], Mod.new HCL.out.nw hm (fun k hk => by omega), heap_setCell_same _ _ 0 _ HCL.out.cr⟩⟩ (.inr (.inr ⟨0, rfl, rfl⟩))
        · have hEQ : ((p : Int) == (least : Int)) = false := by
            rw [beq_eq_false_iff_ne]; omega
          have HPL := Lib.hid hpl
          clear hpl
          have h24 := HCL.out.ok.s24
          cases hbt : seen1.testBit p
          case true =>
            have HSTEP := Lib.hid (show biStep least l (false, q1, seen1) p = (false, q1, seen1) from by unfold biStep; simp [HPL.out, hbt])
            have HHA := Lib.hid (show CallsIn (Fence.wide.inRound (D + 1)) (m - 1) Tryd.prog 70 #[sv seen1, .int .i64 (p : Int)] V2 (fun e w' => e = .returned (.bool true) ∧ New V2 w') from by
              have := has_c seen1 p V2 (by omega) (by omega)
              rw [hbt] at this
              exact CallsIn.inRound (D + 1) ((callsIn_wide (n := m - 1)).2 this))
            clear hbt
            gi_wp2
            refine ⟨trivial, fun h => by simp [Fence.wide] at h, ?_⟩
            refine HHA.out.mono ?_
            rintro e w7 ⟨rfl, n7⟩
            have N7 := Lib.hid n7
            clear n7 c1 c5 c6 c8
            gi_wp2
            have hi7 := HI2.out
            refine HKEEP.out _ _ none (fun _ => False) (Mod.of_new N7.out) (fun _ h => h.elim) ⟨hi7.hi, Nat.le_trans hi7.sz N7.out.size, hi7.tb.new N7.out, row_new hi7.lx N7.out, own_new hi7.lo N7.out, fun D' hD' => row_new (hi7.dm D' hD') N7.out, .inl ⟨rfl, by rw [HTo.out, HSTEP.out], by rw [HTo.out, HSTEP.out]; exact HCL.out.new N7.out⟩⟩ (.inl ⟨rfl, rfl⟩)
          case false =>
            obtain ⟨X, hX⟩ : ∃ X, 2 ^ p = X := ⟨_, rfl⟩
            have HSTEP := Lib.hid (show biStep least l (false, q1, seen1) p = (false, q1 ++ [l ++ [p]], seen1 ||| X) from by unfold biStep; simp [HPL.out, hbt, hX])
            have HHA := Lib.hid (show CallsIn (Fence.wide.inRound (D + 1)) (m - 1) Tryd.prog 70 #[sv seen1, .int .i64 (p : Int)] V2 (fun e w' => e = .returned (.bool false) ∧ New V2 w') from by
              have := has_c seen1 p V2 (by omega) (by omega)
              rw [hbt] at this
              exact CallsIn.inRound (D + 1) ((callsIn_wide (n := m - 1)).2 this))
            have hX32 : X < 4294967296 := by rw [← hX]; exact pow_lt p (by omega)
            have HSI := Lib.hid (fun (w1 : World) => single_c p w1 (by omega))
            rw [hX] at HSI
            have HORR := Lib.hid (or32 seen1 X (by omega) hX32)
            clear hbt hX
            gi_wp2
            refine ⟨trivial, fun h => by simp [Fence.wide] at h, ?_⟩
            refine HHA.out.mono ?_
            rintro e W3 ⟨rfl, n7⟩
            have N3 := Lib.hid n7
            have HF3 := Lib.hid (row_new HCL.out.ss n7)
            clear n7 c1 c5 c6 c8
            have hS : W3.cell? ⟨sb, 0, none⟩ = some (sv seen1) := (box_cell HF3.out).1
            have hBl : sb < W3.heap.size := World.block_lt_of_cell? _ _ hS
            gi_wp2
            apply region_last 4 (fun w' => w'.cell? ⟨sb, 0, none⟩ = some (sv seen1)) (fun w' => ∃ W5, New W3 W5 ∧ w' = W5.setCell ⟨sb, 0, none⟩ (sv (seen1 ||| X))) (by kernel_rfl) (by kernel_rfl)
            case h =>
              have hHeld := (show W3.drew.cell? ⟨sb, 0, none⟩ = some (sv seen1) from hS)
              refine G_take (i := 0) (x := { dst := some 43, op := _, type := _, pos := _, after := _, guard := _ }) (v := ?_) rfl (by kernel_rfl) (by kernel_rfl) (by kernel_rfl) (by kernel_rfl) (fun _ _ _ h => h) (Or.inl ⟨by rfl, (by intro w hSw; (try dsimp only at hSw); go_simp; try with_reducible rfl)⟩) hHeld ?_
              (try simp only [Act.put, List.setIfInBounds_toArray, List.set_cons_zero, List.set_cons_succ])
              refine G_take (i := 1) (x := { dst := some 44, op := _, type := _, pos := _, after := _, guard := _ }) (v := ?_) rfl (by kernel_rfl) (by kernel_rfl) (by kernel_rfl) (by kernel_rfl) (fun _ _ _ h => h) (Or.inl ⟨by rfl, (by intro w hSw; (try dsimp only at hSw); go_simp; try with_reducible rfl)⟩) hHeld ?_
              (try simp only [Act.put, List.setIfInBounds_toArray, List.set_cons_zero, List.set_cons_succ])
              refine G_one (i := 2) (x := { dst := some 45, op := _, type := _, pos := _, after := _, guard := _ }) (by kernel_rfl) rfl (by rfl) (fun K hK => ?_)
              go_simp
              go_at_call 91
              refine (HSI.out _).mono ?_
              rintro e w5 ⟨rfl, n5⟩
              have N5 := Lib.hid (show New W3 w5 from (New.refl W3).drew.trans n5)
              clear n5
              have f6 : w5.frozen? ⟨sb, 0, none⟩ = false := (box_cell (row_new HF3.out N5.out)).2
              have c6 := (N5.out.cell hBl).trans hS
              have hHeld := (N5.out.cell hBl).trans hS
              refine hK _ _ (.inr hHeld) ?_
              clear hK K
              (try simp only [Act.put, List.setIfInBounds_toArray, List.set_cons_zero, List.set_cons_succ])
              refine G_take (i := 3) (x := { dst := some 46, op := _, type := _, pos := _, after := _, guard := _ }) (v := ?_) rfl (by kernel_rfl) (by kernel_rfl) (by kernel_rfl) (by kernel_rfl) (fun _ _ _ h => h) (Or.inl ⟨by rfl, (by intro w hSw; (try dsimp only at hSw); go_simp; try with_reducible rfl)⟩) hHeld ?_
              (try simp only [Act.put, List.setIfInBounds_toArray, List.set_cons_zero, List.set_cons_succ])
              refine G_one (i := 4) (x := { dst := none, op := _, type := _, pos := _, after := _, guard := _ }) (by kernel_rfl) rfl (by rfl) (fun K hK => ?_)
              go_simp
              refine hK _ _ (.inl rfl) ?_
              clear hK K
              (try simp only [Act.put, List.setIfInBounds_toArray, List.set_cons_zero, List.set_cons_succ])
              refine G_done (by kernel_rfl) ?_ _
              exact ⟨rfl, w5, N5.out, congrArg (fun v => World.setCell w5 ⟨sb, 0, none⟩ (Value.int .u32 v)) HORR.out⟩
            case hq =>
              rintro _ ⟨W4, hn4, rfl⟩
              have hm5 : Mod (fun k => k = sb) V2 (W4.setCell ⟨sb, 0, none⟩ (sv (seen1 ||| X))) := (Mod.of_new (N3.out.trans hn4)).trans (Mod.setCell _ _ _ _ rfl)
              have hss : (W4.setCell ⟨sb, 0, none⟩ (sv (seen1 ||| X))).heap[sb]? = some (.cells #[sv (seen1 ||| X)] 79 (0, 0)) := heap_setCell_same _ _ 0 _ (row_new HF3.out hn4)
              obtain ⟨W5, hW5⟩ : ∃ W5, W5 = W4.setCell ⟨sb, 0, none⟩ (sv (seen1 ||| X)) := ⟨_, rfl⟩
              rw [← hW5] at hm5 hss ⊢
              obtain ⟨qv1, g1, vs1, hq1, hq2, hq3, hq4, hq5, hq6⟩ := HCL.out.qs
              have HM5 := Lib.hid hm5
              have HSS := Lib.hid hss
              have HQ1 := Lib.hid hq1
              have HQ2 := Lib.hid hq2
              have HQ3 := Lib.hid hq3
              have HQ4 := Lib.hid hq4
              have HQ5 := Lib.hid hq5
              have HQ6 := Lib.hid hq6
              have hgs : g1 ≠ sb := fun e => by
                obtain ⟨off', cap', cur, _, _, c1, _⟩ := hq2
                have := HCL.out.ss; rw [← e, c1] at this; simp at this
              have hq15 := (hm5.2 (sb + 3) (Array.getElem?_eq_some_iff.1 hq1).1 (by omega)).trans hq1
              have hlx5 := (hm5.2 lb (Array.getElem?_eq_some_iff.1 HI2.out.lx).1 (by have := HSZ.out; omega)).trans HI2.out.lx
              have hlo5 : W5.ownsRow (H + 3) 3 1 (.slice (some ⟨g0, 0, none⟩) (L + 1) c0) l.length (natCells l) := own_keep HI2.out.lo (fun b hb => hm5.2 b (HI2.out.lo.lt b hb).2 (own_type HI2.out.lo hb HCL.out.ss (by decide)))
              have hq25 : Qs W5 (H + 3) qv1 g1 vs1 := hq2.keep (hm5.2 g1 hq2.lt.2 hgs)
              obtain ⟨offq, capq, curq, eqv, _⟩ := id hq25
              have HQ25 := Lib.hid hq25
              have HQ15 := Lib.hid hq15
              have HLX5 := Lib.hid hlx5
              have HLO5 := Lib.hid hlo5
              have HVL := Lib.hid (show vs1.length ≤ 1000 from by have h1 := hq3.len; have h2 := HCL.out.ok.ql; have := HF49.out; omega)
              have hl25 : l.length ≤ 25 := by have := HLOK.out.2.2; omega
              have HCLO := Lib.hid (show ∀ w1, New W5 w1 → Calls Tryd.prog 134 #[(.slice (some ⟨g0, 0, none⟩) (L + 1) c0)] w1 fun en w' => ∃ v', en = .returned v' ∧ New w1 w' ∧ w'.ownsRow w1.heap.size 3 1 v' l.length (natCells l) from fun w1 hn => clone_c w1 (by omega) (own_new HLO5.out hn))
              obtain ⟨i0, hi, hz0, hz1, hz2⟩ := info_parts int_infoO
              have hS : W5.cell? ⟨sb + 3, 0, none⟩ = some (.slice (some ⟨g1, offq, none⟩) vs1.length capq) ∧ W5.cell? ⟨lb, 0, none⟩ = some (.slice (some ⟨g0, 0, none⟩) (L + 1) c0) := ⟨by have := (box_cell hq15).1; rw [eqv] at this; exact this, (box_cell hlx5).1⟩
              have HSCE := Lib.hid hS
              have HLT5 := Lib.hid (show sb + 3 < W5.heap.size ∧ lb < W5.heap.size ∧ g1 < W5.heap.size from ⟨(Array.getElem?_eq_some_iff.1 hq15).1, (Array.getElem?_eq_some_iff.1 hlx5).1, hq25.lt.2⟩)
              subst eqv
              clear hn4 hm5 hss hW5 hq1 hq2 hq3 hq4 hq5 hq6 hgs hq15 hlx5 hlo5 hq25 hS hBl
              gi_wp2
              have hS := HSCE.out
              apply region_lastR 8 (fun w' => w'.cell? ⟨sb + 3, 0, none⟩ = some (.slice (some ⟨g1, offq, none⟩) vs1.length capq) ∧ w'.cell? ⟨lb, 0, none⟩ = some (.slice (some ⟨g0, 0, none⟩) (L + 1) c0)) (fun _ w' => CiL w H sb (sb + 3) (H + 3) G least (q1 ++ [l ++ [p]]) (seen1 ||| X) f' (fun k => plus D O9 k ∨ k ∈ Ds ∨ k = lb) (fun k => (Value.slice (some ⟨g0, 0, none⟩) (L + 1) c0).ownBlock = some k) w' ∧ Mod (fun k => k = sb ∨ k = g1 ∨ k = sb + 3) V2 w') (by kernel_rfl) (by kernel_rfl)
              case h =>
                have hHeld := (show W5.drew.cell? ⟨sb + 3, 0, none⟩ = some (.slice (some ⟨g1, offq, none⟩) vs1.length capq) ∧ W5.drew.cell? ⟨lb, 0, none⟩ = some (.slice (some ⟨g0, 0, none⟩) (L + 1) c0) from hS)
                have A0 := Lib.hid ((New.refl W5).drew)
                refine G_take (i := 0) (x := { dst := some 47, op := _, type := _, pos := _, after := _, guard := _ }) (v := ?_) rfl (by kernel_rfl) (by kernel_rfl) (by kernel_rfl) (by kernel_rfl) (fun _ _ _ h => h) (Or.inl ⟨by rfl, (by intro w hSw; (try dsimp only at hSw); obtain ⟨hSa, hSb⟩ := hSw; go_simp; try with_reducible rfl)⟩) hHeld ?_
                (try simp only [Act.put, List.setIfInBounds_toArray, List.set_cons_zero, List.set_cons_succ])
                refine G_take (i := 1) (x := { dst := some 48, op := _, type := _, pos := _, after := _, guard := _ }) (v := ?_) rfl (by kernel_rfl) (by kernel_rfl) (by kernel_rfl) (by kernel_rfl) (fun _ _ _ h => h) (Or.inl ⟨by rfl, (by intro w hSw; (try dsimp only at hSw); obtain ⟨hSa, hSb⟩ := hSw; go_simp; try with_reducible rfl)⟩) hHeld ?_
                (try simp only [Act.put, List.setIfInBounds_toArray, List.set_cons_zero, List.set_cons_succ])
                refine G_take (i := 3) (x := { dst := some 50, op := _, type := _, pos := _, after := _, guard := _ }) (v := ?_) rfl (by kernel_rfl) (by kernel_rfl) (by kernel_rfl) (by kernel_rfl) (fun _ _ _ h => h) (Or.inl ⟨by rfl, (by intro w hSw; (try dsimp only at hSw); obtain ⟨hSa, hSb⟩ := hSw; go_simp; try with_reducible rfl)⟩) hHeld ?_
                (try simp only [Act.put, List.setIfInBounds_toArray, List.set_cons_zero, List.set_cons_succ])
                refine G_two (i := 2) (j := 4) (x := { dst := some 49, op := _, type := _, pos := _, after := _, guard := _ }) (y := { dst := some 51, op := _, type := _, pos := _, after := _, guard := _ }) (by kernel_rfl) rfl rfl (by rfl) (by rfl) (fun K hK => ?_) (fun K hK => ?_)
                · go_simp
                  go_at_call 134
                  refine (HCLO.out _ A0.out).mono ?_
                  rintro e w6 ⟨cv, rfl, n6, own6⟩
                  have N6 := Lib.hid (A0.out.trans n6)
                  have OW6 := Lib.hid (own_base own6 (show W5.heap.size ≤ _ from A0.out.size))
                  have hHeld := (show w6.cell? ⟨sb + 3, 0, none⟩ = some (.slice (some ⟨g1, offq, none⟩) vs1.length capq) ∧ w6.cell? ⟨lb, 0, none⟩ = some (.slice (some ⟨g0, 0, none⟩) (L + 1) c0) from ⟨(N6.out.cell HLT5.out.1).trans hS.1, (N6.out.cell HLT5.out.2.1).trans hS.2⟩)
                  refine hK _ _ (.inr hHeld) ?_
                  clear hK K n6 own6
                  (try simp only [Act.put, List.setIfInBounds_toArray, List.set_cons_zero, List.set_cons_succ])
                  refine G_one (i := 4) (x := { dst := some 51, op := _, type := _, pos := _, after := _, guard := _ }) (by kernel_rfl) rfl (by rfl) (fun K hK => ?_)
                  go_simp
                  obtain ⟨nb1, hnb1⟩ : ∃ nb, w6.heap.size = nb := ⟨_, rfl⟩
                  simp only [hnb1]
                  obtain ⟨w8, hwn⟩ : ∃ w8, w8 = w6.alloc (.cells #[.int .i64 (p : Int)] 3) := ⟨_, rfl⟩
                  rw [← hwn]
                  have hb1 : w8.heap[nb1]? = some (.cells #[.int .i64 (p : Int)] 3 (0, 0)) := by rw [hwn, ← hnb1]; exact World.alloc_heap_new w6 _
                  have n8 : New w6 w8 := by rw [hwn]; exact (New.refl _).alloc _
                  have N8 := Lib.hid (N6.out.trans n8)
                  have OW8 := Lib.hid (own_new OW6.out n8)
                  have HB1 := Lib.hid hb1
                  have hHeld := (show w8.cell? ⟨sb + 3, 0, none⟩ = some (.slice (some ⟨g1, offq, none⟩) vs1.length capq) ∧ w8.cell? ⟨lb, 0, none⟩ = some (.slice (some ⟨g0, 0, none⟩) (L + 1) c0) from ⟨(N8.out.cell HLT5.out.1).trans hS.1, (N8.out.cell HLT5.out.2.1).trans hS.2⟩)
                  refine hK _ _ (.inr hHeld) ?_
                  clear hK K n8 hb1 hwn hnb1
                  (try simp only [Act.put, List.setIfInBounds_toArray, List.set_cons_zero, List.set_cons_succ])
                  refine G_one (i := 5) (x := { dst := some 52, op := _, type := _, pos := _, after := _, guard := _ }) (by kernel_rfl) rfl (by rfl) (fun K hK => ?_)
                  refine wp_append_lies _ (.tmp 49) (.tmp 51) 31 rfl W5.heap.size 3 i0 _ 1 8 Tryd.underlying31 hi hz0 hz1 hz2 rfl (by decide) cv l.length (natCells l) rfl OW8.out _ 1 1 [.int .i64 (p : Int)] rfl rfl ?n1 ?n2 (by omega) (by unfold maxLen; omega) (by omega) N8.out.size _ rfl ?n3
                  case n1 =>
                    intro j u hj
                    cases j with
                    | zero => simp at hj; subst hj; exact (box_cell HB1.out).1
                    | succ j => simp at hj
                  case n2 => intro u hu; simp at hu; rw [hu]; rfl
                  case n3 =>
                    intro g9 cap9 w9 own9 grow9 hor9 hlt9
                    have hm9 := Mod.grown grow9 (fun b hb => hb)
                    have n9 : New W5 w9 := Mod.new N8.out hm9 (fun b hb => (OW8.out.lt b hb).1)
                    have N9 := Lib.hid n9
                    have OW9 := Lib.hid (show w9.ownsRow W5.heap.size 3 1 (.slice (some ⟨g9, 0, none⟩) (l.length + 1) cap9) (l ++ [p]).length (natCells (l ++ [p])) from by rw [natCells_snoc, List.length_append]; simpa using own9)
                    have hHeld := (show w9.cell? ⟨sb + 3, 0, none⟩ = some (.slice (some ⟨g1, offq, none⟩) vs1.length capq) ∧ w9.cell? ⟨lb, 0, none⟩ = some (.slice (some ⟨g0, 0, none⟩) (L + 1) c0) from ⟨(N9.out.cell HLT5.out.1).trans hS.1, (N9.out.cell HLT5.out.2.1).trans hS.2⟩)
                    refine hK _ _ (.inr hHeld) ?_
                    clear hK K own9 grow9 hor9 hlt9 hm9 n9
                    (try simp only [Act.put, List.setIfInBounds_toArray, List.set_cons_zero, List.set_cons_succ])
                    refine G_one (i := 6) (x := { dst := some 53, op := _, type := _, pos := _, after := _, guard := _ }) (by kernel_rfl) rfl (by rfl) (fun K hK => ?_)
                    go_simp
                    obtain ⟨nb2, hnb2⟩ : ∃ nb, w9.heap.size = nb := ⟨_, rfl⟩
                    simp only [hnb2]
                    obtain ⟨w10, hw10⟩ : ∃ w10, w10 = w9.alloc (.cells #[.slice (some ⟨g9, 0, none⟩) (l.length + 1) cap9] 31) := ⟨_, rfl⟩
                    rw [← hw10]
                    have hb2 : w10.heap[nb2]? = some (.cells #[.slice (some ⟨g9, 0, none⟩) (l.length + 1) cap9] 31 (0, 0)) := by rw [hw10, ← hnb2]; exact World.alloc_heap_new w9 _
                    have n10 : New w9 w10 := by rw [hw10]; exact (New.refl w9).alloc _
                    have N10 := Lib.hid (N9.out.trans n10)
                    have OW10 := Lib.hid (own_new OW9.out n10)
                    have HB2 := Lib.hid hb2
                    have hHeld := (show w10.cell? ⟨sb + 3, 0, none⟩ = some (.slice (some ⟨g1, offq, none⟩) vs1.length capq) ∧ w10.cell? ⟨lb, 0, none⟩ = some (.slice (some ⟨g0, 0, none⟩) (L + 1) c0) from ⟨(N10.out.cell HLT5.out.1).trans hS.1, (N10.out.cell HLT5.out.2.1).trans hS.2⟩)
                    refine hK _ _ (.inr hHeld) ?_
                    clear hK K hw10 hb2 n10 hnb2
                    (try simp only [Act.put, List.setIfInBounds_toArray, List.set_cons_zero, List.set_cons_succ])
                    refine G_one (i := 7) (x := { dst := some 54, op := _, type := _, pos := _, after := _, guard := _ }) (by kernel_rfl) rfl (by rfl) (fun K hK => ?_)
                    refine wp_append_qs w10 (.tmp 47) (.tmp 53) rfl rfl (HQ25.out.keep (N10.out.below.block g1 HLT5.out.2.2)) (by have h1 := HQ25.out.lt; have h2 := N10.out.size; omega) HVL.out nb2 1 (.slice (some ⟨g9, 0, none⟩) (l.length + 1) cap9) rfl (box_cell HB2.out).1 rfl ?_
                    intro v' g' w11 hv1 hv2 hv3
                    obtain ⟨off', cap', cur', ev, _⟩ := id hv1
                    rw [show (vs1 ++ [Value.slice (some ⟨g9, 0, none⟩) (l.length + 1) cap9]).length = vs1.length + 1 from by simp] at ev
                    subst ev
                    have hgs2 : g1 ≠ sb + 3 ∧ g1 ≠ lb := ⟨fun e => by { obtain ⟨o', c', u', _, _, c1, _⟩ := HQ2.out; rw [e, HQ1.out] at c1; simp at c1 }, fun e => HQ4.out (.inr (.inr e))⟩
                    have r1 := (hv2.2 (sb + 3) (Nat.lt_of_lt_of_le HLT5.out.1 N10.out.size) (fun e => hgs2.1 e.symm)).trans (row_new HQ15.out N10.out)
                    have r2 := (hv2.2 lb (Nat.lt_of_lt_of_le HLT5.out.2.1 N10.out.size) (fun e => hgs2.2 e.symm)).trans (row_new HLX5.out N10.out)
                    have c6 := (box_cell r1).1
                    have f6 := (box_cell r1).2
                    have HFIN := Lib.hid (HCL.out.push HH.out ⟨by omega, HSB.out, by have := HSB.out; omega⟩ HQ1.out HQ2.out HQ3.out HQ4.out HQ5.out HQ6.out HM5.out HSS.out N10.out OW10.out hv1 hv2 hv3 (show BiOk (q1 ++ [l ++ [p]]) (seen1 ||| X) f' from by have := HOK9.out; rw [HSTEP.out] at this; exact this) (fun k hk => by { rcases hk with hk | hk | hk; { exact HBN2.out k hk }; { exact (Array.getElem?_eq_some_iff.1 (HI2.out.dm k hk)).1 }; { rw [hk]; exact (Array.getElem?_eq_some_iff.1 HI2.out.lx).1 } }) (fun k hk => (HI2.out.lo.lt k hk).2) (by omega))
                    have hHeld := (show w11.cell? ⟨sb + 3, 0, none⟩ = some (.slice (some ⟨g1, offq, none⟩) vs1.length capq) ∧ w11.cell? ⟨lb, 0, none⟩ = some (.slice (some ⟨g0, 0, none⟩) (L + 1) c0) from ⟨c6, (box_cell r2).1⟩)
                    refine hK _ _ (.inr hHeld) ?_
                    clear hK K hv1 hv2 hv3
                    (try simp only [Act.put, List.setIfInBounds_toArray, List.set_cons_zero, List.set_cons_succ])
                    refine G_one (i := 8) (x := { dst := none, op := _, type := _, pos := _, after := _, guard := _ }) (by kernel_rfl) rfl (by rfl) (fun K hK => ?_)
                    go_simp
                    refine hK _ _ (.inl rfl) ?_
                    clear hK K
                    (try simp only [Act.put, List.setIfInBounds_toArray, List.set_cons_zero, List.set_cons_succ])
                    refine G_done (by kernel_rfl) ?_ _
                    exact HFIN.out
                · go_simp
                  obtain ⟨nb1, hnb1⟩ : ∃ nb, W5.heap.size = nb := ⟨_, rfl⟩
                  try simp only [hnb1]
                  obtain ⟨w6, hwn⟩ : ∃ w8, w8 = (W5.alloc (.cells #[.int .i64 (p : Int)] 3)).drew := ⟨_, rfl⟩
                  try rw [← hwn]
                  have hb1 : w6.heap[nb1]? = some (.cells #[.int .i64 (p : Int)] 3 (0, 0)) := by rw [hwn, ← hnb1]; exact World.alloc_heap_new W5 _
                  have n8 : New W5 w6 := by rw [hwn]; exact ((New.refl _).alloc _).drew
                  have N6 := Lib.hid n8
                  have HB0 := Lib.hid hb1
                  have hHeld := (show w6.cell? ⟨sb + 3, 0, none⟩ = some (.slice (some ⟨g1, offq, none⟩) vs1.length capq) ∧ w6.cell? ⟨lb, 0, none⟩ = some (.slice (some ⟨g0, 0, none⟩) (L + 1) c0) from ⟨(N6.out.cell HLT5.out.1).trans hS.1, (N6.out.cell HLT5.out.2.1).trans hS.2⟩)
                  refine hK _ _ (.inr hHeld) ?_
                  clear hK K n8 hb1 hwn hnb1
                  (try simp only [Act.put, List.setIfInBounds_toArray, List.set_cons_zero, List.set_cons_succ])
                  refine G_one (i := 2) (x := { dst := some 49, op := _, type := _, pos := _, after := _, guard := _ }) (by kernel_rfl) rfl (by rfl) (fun K hK => ?_)
                  go_simp
                  go_at_call 134
                  refine (HCLO.out _ N6.out).mono ?_
                  rintro e w8 ⟨cv, rfl, n8, own8⟩
                  have N8 := Lib.hid (N6.out.trans n8)
                  have OW8 := Lib.hid (own_base own8 (show W5.heap.size ≤ _ from N6.out.size))
                  have HB1 := Lib.hid (row_new HB0.out n8)
                  have hHeld := (show w8.cell? ⟨sb + 3, 0, none⟩ = some (.slice (some ⟨g1, offq, none⟩) vs1.length capq) ∧ w8.cell? ⟨lb, 0, none⟩ = some (.slice (some ⟨g0, 0, none⟩) (L + 1) c0) from ⟨(N8.out.cell HLT5.out.1).trans hS.1, (N8.out.cell HLT5.out.2.1).trans hS.2⟩)
                  refine hK _ _ (.inr hHeld) ?_
                  clear hK K n8 own8
                  (try simp only [Act.put, List.setIfInBounds_toArray, List.set_cons_zero, List.set_cons_succ])
                  refine G_one (i := 5) (x := { dst := some 52, op := _, type := _, pos := _, after := _, guard := _ }) (by kernel_rfl) rfl (by rfl) (fun K hK => ?_)
                  refine wp_append_lies _ (.tmp 49) (.tmp 51) 31 rfl W5.heap.size 3 i0 _ 1 8 Tryd.underlying31 hi hz0 hz1 hz2 rfl (by decide) cv l.length (natCells l) rfl OW8.out _ 1 1 [.int .i64 (p : Int)] rfl rfl ?n1 ?n2 (by omega) (by unfold maxLen; omega) (by omega) N8.out.size _ rfl ?n3
                  case n1 =>
                    intro j u hj
                    cases j with
                    | zero => simp at hj; subst hj; exact (box_cell HB1.out).1
                    | succ j => simp at hj
                  case n2 => intro u hu; simp at hu; rw [hu]; rfl
                  case n3 =>
                    intro g9 cap9 w9 own9 grow9 hor9 hlt9
                    have hm9 := Mod.grown grow9 (fun b hb => hb)
                    have n9 : New W5 w9 := Mod.new N8.out hm9 (fun b hb => (OW8.out.lt b hb).1)
                    have N9 := Lib.hid n9
                    have OW9 := Lib.hid (show w9.ownsRow W5.heap.size 3 1 (.slice (some ⟨g9, 0, none⟩) (l.length + 1) cap9) (l ++ [p]).length (natCells (l ++ [p])) from by rw [natCells_snoc, List.length_append]; simpa using own9)
                    have hHeld := (show w9.cell? ⟨sb + 3, 0, none⟩ = some (.slice (some ⟨g1, offq, none⟩) vs1.length capq) ∧ w9.cell? ⟨lb, 0, none⟩ = some (.slice (some ⟨g0, 0, none⟩) (L + 1) c0) from ⟨(N9.out.cell HLT5.out.1).trans hS.1, (N9.out.cell HLT5.out.2.1).trans hS.2⟩)
                    refine hK _ _ (.inr hHeld) ?_
                    clear hK K own9 grow9 hor9 hlt9 hm9 n9
                    (try simp only [Act.put, List.setIfInBounds_toArray, List.set_cons_zero, List.set_cons_succ])
                    refine G_one (i := 6) (x := { dst := some 53, op := _, type := _, pos := _, after := _, guard := _ }) (by kernel_rfl) rfl (by rfl) (fun K hK => ?_)
                    go_simp
                    obtain ⟨nb2, hnb2⟩ : ∃ nb, w9.heap.size = nb := ⟨_, rfl⟩
                    simp only [hnb2]
                    obtain ⟨w10, hw10⟩ : ∃ w10, w10 = w9.alloc (.cells #[.slice (some ⟨g9, 0, none⟩) (l.length + 1) cap9] 31) := ⟨_, rfl⟩
                    rw [← hw10]
                    have hb2 : w10.heap[nb2]? = some (.cells #[.slice (some ⟨g9, 0, none⟩) (l.length + 1) cap9] 31 (0, 0)) := by rw [hw10, ← hnb2]; exact World.alloc_heap_new w9 _
                    have n10 : New w9 w10 := by rw [hw10]; exact (New.refl w9).alloc _
                    have N10 := Lib.hid (N9.out.trans n10)
                    have OW10 := Lib.hid (own_new OW9.out n10)
                    have HB2 := Lib.hid hb2
                    have hHeld := (show w10.cell? ⟨sb + 3, 0, none⟩ = some (.slice (some ⟨g1, offq, none⟩) vs1.length capq) ∧ w10.cell? ⟨lb, 0, none⟩ = some (.slice (some ⟨g0, 0, none⟩) (L + 1) c0) from ⟨(N10.out.cell HLT5.out.1).trans hS.1, (N10.out.cell HLT5.out.2.1).trans hS.2⟩)
                    refine hK _ _ (.inr hHeld) ?_
                    clear hK K hw10 hb2 n10 hnb2
                    (try simp only [Act.put, List.setIfInBounds_toArray, List.set_cons_zero, List.set_cons_succ])
                    refine G_one (i := 7) (x := { dst := some 54, op := _, type := _, pos := _, after := _, guard := _ }) (by kernel_rfl) rfl (by rfl) (fun K hK => ?_)
                    refine wp_append_qs w10 (.tmp 47) (.tmp 53) rfl rfl (HQ25.out.keep (N10.out.below.block g1 HLT5.out.2.2)) (by have h1 := HQ25.out.lt; have h2 := N10.out.size; omega) HVL.out nb2 1 (.slice (some ⟨g9, 0, none⟩) (l.length + 1) cap9) rfl (box_cell HB2.out).1 rfl ?_
                    intro v' g' w11 hv1 hv2 hv3
                    obtain ⟨off', cap', cur', ev, _⟩ := id hv1
                    rw [show (vs1 ++ [Value.slice (some ⟨g9, 0, none⟩) (l.length + 1) cap9]).length = vs1.length + 1 from by simp] at ev
                    subst ev
                    have hgs2 : g1 ≠ sb + 3 ∧ g1 ≠ lb := ⟨fun e => by { obtain ⟨o', c', u', _, _, c1, _⟩ := HQ2.out; rw [e, HQ1.out] at c1; simp at c1 }, fun e => HQ4.out (.inr (.inr e))⟩
                    have r1 := (hv2.2 (sb + 3) (Nat.lt_of_lt_of_le HLT5.out.1 N10.out.size) (fun e => hgs2.1 e.symm)).trans (row_new HQ15.out N10.out)
                    have r2 := (hv2.2 lb (Nat.lt_of_lt_of_le HLT5.out.2.1 N10.out.size) (fun e => hgs2.2 e.symm)).trans (row_new HLX5.out N10.out)
                    have c6 := (box_cell r1).1
                    have f6 := (box_cell r1).2
                    have HFIN := Lib.hid (HCL.out.push HH.out ⟨by omega, HSB.out, by have := HSB.out; omega⟩ HQ1.out HQ2.out HQ3.out HQ4.out HQ5.out HQ6.out HM5.out HSS.out N10.out OW10.out hv1 hv2 hv3 (show BiOk (q1 ++ [l ++ [p]]) (seen1 ||| X) f' from by have := HOK9.out; rw [HSTEP.out] at this; exact this) (fun k hk => by { rcases hk with hk | hk | hk; { exact HBN2.out k hk }; { exact (Array.getElem?_eq_some_iff.1 (HI2.out.dm k hk)).1 }; { rw [hk]; exact (Array.getElem?_eq_some_iff.1 HI2.out.lx).1 } }) (fun k hk => (HI2.out.lo.lt k hk).2) (by omega))
                    have hHeld := (show w11.cell? ⟨sb + 3, 0, none⟩ = some (.slice (some ⟨g1, offq, none⟩) vs1.length capq) ∧ w11.cell? ⟨lb, 0, none⟩ = some (.slice (some ⟨g0, 0, none⟩) (L + 1) c0) from ⟨c6, (box_cell r2).1⟩)
                    refine hK _ _ (.inr hHeld) ?_
                    clear hK K hv1 hv2 hv3
                    (try simp only [Act.put, List.setIfInBounds_toArray, List.set_cons_zero, List.set_cons_succ])
                    refine G_one (i := 8) (x := { dst := none, op := _, type := _, pos := _, after := _, guard := _ }) (by kernel_rfl) rfl (by rfl) (fun K hK => ?_)
                    go_simp
                    refine hK _ _ (.inl rfl) ?_
                    clear hK K
                    (try simp only [Act.put, List.setIfInBounds_toArray, List.set_cons_zero, List.set_cons_succ])
                    refine G_done (by kernel_rfl) ?_ _
                    exact HFIN.out
              case hq =>
                rintro a11 W11 ⟨hc11, hm11⟩
                have HP := Lib.hid (show RoundG D O9 tabE (CiI w H sb (sb + 3) (H + 3) lb G least l q seen f' (.slice (some ⟨g0, 0, none⟩) (L + 1) c0) Ds D) (ps ++ [p]) V2 .normal W11 from by
                  have hi7 := HI2.out
                  have h1 := HSB.out; have h3 := HSZ.out; have h4 := HTB.out; have h5 := HG0.out
                  have hgl := HQ2.out.lt
                  have hno : ∀ k, (k = sb ∨ k = g1 ∨ k = sb + 3) → ¬ plus D O9 k ∧ k ≠ 0 ∧ k ≠ lb ∧ k ∉ Ds := fun k hk => by
                    rcases hk with e | e | e
                    · refine ⟨fun h' => by have := hi7.hi k h'; have := HDB.out; omega, by omega, by omega, fun h' => ?_⟩
                      have h6 := hi7.dm k h'
                      rw [e, HCL.out.ss] at h6; cases h6
                    · subst e
                      exact ⟨fun h' => HQ4.out (.inl h'), by omega, fun e => HQ4.out (.inr (.inr e)), fun h' => HQ4.out (.inr (.inl h'))⟩
                    · refine ⟨fun h' => by have := hi7.hi k h'; have := HDB.out; omega, by omega, by omega, fun h' => ?_⟩
                      have h6 := hi7.dm k h'
                      rw [e, HQ1.out] at h6; cases h6
                  refine ⟨Keep.of_mod hm11 fun k hk h' => ?_, none, ⟨hi7.hi, Nat.le_trans hi7.sz hm11.size, hi7.tb.keep (Keep.of_mod (O' := tabE) hm11 fun k hk h' => (hno k h').2.1 hk) rfl, (hm11.2 lb (Array.getElem?_eq_some_iff.1 hi7.lx).1 (fun h' => (hno lb h').2.2.1 rfl)).trans hi7.lx, own_keep hi7.lo (fun b hb => hm11.2 b (hi7.lo.lt b hb).2 (fun h' => ?_)), fun D' hD' => (hm11.2 D' (Array.getElem?_eq_some_iff.1 (hi7.dm D' hD')).1 (fun h' => (hno D' h').2.2.2 hD')).trans (hi7.dm D' hD'), .inl ⟨rfl, by rw [HTo.out, HSTEP.out], by rw [HTo.out, HSTEP.out]; exact hc11⟩⟩, .inl ⟨rfl, rfl⟩⟩
                  · rcases hk with hk | hk
                    · exact (hno k h').1 hk
                    · exact (hno k h').2.1 hk
                  · rcases h' with e | e | e
                    · exact own_type hi7.lo hb HCL.out.ss (by decide) e
                    · exact HQ5.out (by rw [← e]; exact hb)
                    · exact own_type hi7.lo hb HQ1.out (by decide) e)
                clear hc11 hm11 hS
                gi_wp2
                exact HP.out
      case hdone =>
        rw [hD]
        rintro O9 V hI hmk
        rcases hI.st with ⟨_, hfl, hCL⟩ | ⟨e, _⟩
        case inr => cases e
        obtain ⟨⟨b0, q9, seen9⟩, hr9⟩ : ∃ r, biTo least l q seen (bitsOf s) = r := ⟨_, rfl⟩
        rw [hr9] at hfl hCL
        dsimp only at hCL
        obtain rfl : b0 = false := hfl
        have HSTA := Lib.hid (show RES = ciN G.af least f' q9 seen9 from by
          rw [HRS.out]
          show (if (biTo least l q seen (bitsOf (G.af (lastN l)))).1 then _ else _) = _
          rw [← HST.out, hr9]; rfl)
        have HMS := Lib.hid (show q9.length + nf24 seen9 ≤ q.length + nf24 seen from by
          have hb := HOKA.out
          have h1 := (biTo_ok (least := least) (f := q.length + nf24 seen) (l := l) (q := q) (seen := seen) ⟨hb.s24, hb.ne, by simp; omega⟩ (bitsOf s) (fun x hx => low24 HS24.out hx)).1.ql
          rw [hr9] at h1
          exact h1)
        have HCL9 := Lib.hid hCL
        have HMK9 := Lib.hid hmk
        have HDM := Lib.hid hI.dm
        clear hI hmk hr9 hCL
        gi_wp2
        have hcl := HCL9.out.mod (P' := fun k => k ∈ D :: Ds) (X' := fun _ => False) (O := fun _ => False) (Mod.refl _ V) (fun _ h => h.elim) (fun k hk => .inl (by
          rcases List.mem_cons.1 hk with e | hk
          · exact .inl (.inr (.inl e))
          · exact .inr (.inl hk))) (fun _ h => h.elim)
        first | (refine ⟨⟨f', q9, seen9, D :: Ds, ⟨hcl, ?_, ?_, List.nodup_cons.2 ⟨fun h => by have := HDD.out D h; omega, HND.out⟩, fun D' hD' => ?_⟩, rfl⟩, ?_⟩) | (refine ⟨⟨f', q9, seen9, D :: Ds, _, _, _, _, _, _, _, _, _, _, _, _, _, _, _, _, _, _, _, _, _, _, _, _, _, _, _, _, _, _, _, _, _, _, _, _, _, _, _, _, _, _, _, _, _, _, _, _, ⟨hcl, ?_, ?_, List.nodup_cons.2 ⟨fun h => by have := HDD.out D h; omega, HND.out⟩, fun D' hD' => ?_⟩, rfl⟩, ?_⟩)
        · exact HSTA.out
        · have := HF49.out; omega
        · rcases List.mem_cons.1 hD' with e | hD'
          · rw [e]; exact ⟨HMK9.out, by have h1 := HSB.out; have h2 := HSZ.out; have h3 := HDB.out; omega⟩
          · exact ⟨HDM.out D' hD', (HMK.out D' hD').2⟩
        · show ciM (sb + 3) sb V < ciM (sb + 3) sb wr
          rw [HCL9.out.m, HN12.out]
          have h1 := HMS.out; have h2 := HNQ.out
          omega
      case hstop =>
        rw [hD]
        rintro O9 done pc V hI hpx hmk
        rcases hI.st with ⟨e, _⟩ | ⟨e, hfl, hnw, hcr⟩
        case inl => cases e
        obtain rfl : pc = .exit 0 := by simpa using e
        have HRE := Lib.hid (show RES = some l from by
          obtain ⟨rest, hrest⟩ := hpx
          have h1 := biTo_stop least l q seen done hfl rest
          rw [hrest] at h1
          rw [HRS.out]
          show (if (biTo least l q seen (bitsOf (G.af (lastN l)))).1 then _ else _) = _
          rw [← HST.out, h1, hfl]; rfl)
        have c5 := (box_cell hcr).1
        have HNW := Lib.hid hnw
        have HLO := Lib.hid hI.lo
        have HMK9 := Lib.hid hmk
        have HDM := Lib.hid hI.dm
        clear hI hmk hfl hnw hcr e hpx
        gi_wp2
        refine leaves_marks (D :: Ds) _ (List.nodup_cons.2 ⟨fun h => by have := HDD.out D h; omega, HND.out⟩) (fun k hk => ?_) (fun W9 hm => ?_)
        · rcases List.mem_cons.1 hk with e | hk
          · rw [e]; exact HMK9.out
          · exact HDM.out k hk
        · refine ⟨_, results_tmp rfl _ _ _, ?_⟩
          have hown := own_keep HLO.out (fun b hb => hm.2 b (HLO.out.lt b hb).2 (fun h' => by
            rcases List.mem_cons.1 h' with e | h'
            · exact own_mark HLO.out hb HMK9.out e
            · exact own_mark HLO.out hb (HDM.out b h') rfl))
          refine ⟨_, rfl, Mod.new HNW.out hm (fun k hk => ?_), .inr ⟨l, HRE.out, HLOK.out.1, by have := HLOK.out.2.2; omega, own_base hown (by rw [HH.out]; omega)⟩⟩
          rcases List.mem_cons.1 hk with e | hk
          · rw [e]; exact HDB.out.1
          · have := (HMK.out k hk).2; rw [HH.out]; omega
end Go.Proofs.YtiejefehcpfkaaaDoor
