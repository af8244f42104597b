/- PlanePieces returns true for every input, and its arguments read afterwards as before: the given statement, without a condition. -/
import Derived.Test.YtpdfbboagaflhaaGreatN10
import Derived.Deep.Slices
import Derived.Test.YtpdfbboagaflhaaGreatR03
import Derived.Deep.RegionHeld3
import Derived.Deep.RegionWith
import Derived.BigRegion
import Derived.LoopTactic
import Derived.Deep.AppendLies
import Derived.Deep.RegionLaw
import Derived.Laws.StructEq
import Derived.Test.YtpdfbboagaflhaaGreatM51
import Derived.Test.YtpdfbboagaflhaaGreatRows
import Derived.ProofKit
import Derived.OpenShut
import Derived.Lib.SmallJoins
import Derived.Carry

set_option linter.unusedSimpArgs false
set_option linter.unusedVariables false
set_option linter.constructorNameAsVariable false
set_option maxRecDepth 100000
namespace Go.Proofs.YtpdfbboagaflhaaGreat
open Go.ChangeShapes Go.WideShapes Go.ChangeAt Go.RowKit Go.Joins Go.Deep

section
variable {H : Type} {enc : TypeId × Value → H} {W : World} {base b0 fuel : Nat} {spare : Nat → Bool} {held : Bool} {v : Value} {d : DataW H} {p : List MemPlace}
theorem sg_trod {cs : List Value} {x : DataW H × List MemPlace} (h : DataW.trod enc Tryz.prog W base spare held fuel 30 cs = some x) :
    ∃ q : S4, cs = [.int .i64 q.1, .int .i64 q.2.1, .int .i64 q.2.2.1, .int .i64 q.2.2.2] := by
  obtain ⟨y0, y1, n, hx, hl, h0, h1⟩ := trod_struct2 Tryz.underlying30 h
  rw [cells_30] at hl
  obtain ⟨c0, c1, c2, c3, rfl⟩ := list_4 hl
  simp only [cells_23, List.drop, List.take] at h0 h1
  obtain ⟨a, b, e0, _, _, _⟩ := pt_trod h0
  obtain ⟨a', b', e1, _, _, _⟩ := pt_trod h1
  simp only [List.cons.injEq, and_true] at e0 e1
  obtain ⟨rfl, rfl⟩ := e0
  obtain ⟨rfl, rfl⟩ := e1
  exact ⟨(a, b, a', b'), rfl⟩
theorem open_segs (hv : Value.okWide Tryz.prog W .any b0 58 v) (h : DataW.Trod enc Tryz.prog W base spare held 58 v d p) :
    ∃ av n cap l, v = .slice av n cap ∧ l.length = n ∧ (0 < n → ∃ b off, av = some ⟨b, off, none⟩ ∧ Segs W b off n l) := by
  obtain ⟨av, n, cap, rfl⟩ := okWide_slice Tryz.underlying58 hv
  obtain ⟨fuel, hf⟩ := h
  rcases open_slice Tryz.underlying58 hf with ⟨hcs, _⟩ | ⟨a, len, cap', m, n', D, Pl, hcs, _, hlc, _, hm, _, hi⟩
  · simp only [Value.cells, List.cons.injEq, Value.slice.injEq, and_true] at hcs
    obtain ⟨rfl, rfl, rfl⟩ := hcs
    exact ⟨none, 0, 0, [], rfl, rfl, fun h => absurd h (by omega)⟩
  · simp only [Value.cells, List.cons.injEq, Value.slice.injEq, and_true] at hcs
    obtain ⟨rfl, rfl, rfl⟩ := hcs
    have hnm : n ≤ m := by rw [hm]; split <;> omega
    have hx : ∀ i, i < n → ∃ q : S4, W.cell? (a.add (i * 4)) = some (.int .i64 q.1) ∧ W.cell? (a.add (i * 4 + 1)) = some (.int .i64 q.2.1) ∧ W.cell? (a.add (i * 4 + 2)) = some (.int .i64 q.2.2.1) ∧ W.cell? (a.add (i * 4 + 3)) = some (.int .i64 q.2.2.2) := fun i hi' => by
      obtain ⟨cs', hc, ht⟩ := hi i (by omega)
      rw [cells_30] at hc
      obtain ⟨q, rfl⟩ := sg_trod ht
      obtain ⟨_, _, hat⟩ := World.cells?_some hc
      have g0 := hat 0 (by omega)
      have g1 := hat 1 (by omega)
      have g2 := hat 2 (by omega)
      have g3 := hat 3 (by omega)
      rw [add_add] at g0 g1 g2 g3
      exact ⟨q, by simpa using g0, by simpa using g1, by simpa using g2, by simpa using g3⟩
    obtain ⟨q, hq⟩ := choose_lt hx
    refine ⟨some a, n, cap, (List.range n).map q, rfl, by simp, fun h0 => ?_⟩
    obtain ⟨b, off, spot⟩ := a
    have hspot : spot = none := by simpa [Addr.add] using World.cell?_spot (hq 0 h0).1
    subst hspot
    have hcell : ∀ i, i < n → W.cell? ⟨b, off + i * 4, none⟩ = some (.int .i64 (q i).1) ∧ W.cell? ⟨b, off + i * 4 + 1, none⟩ = some (.int .i64 (q i).2.1) ∧ W.cell? ⟨b, off + i * 4 + 2, none⟩ = some (.int .i64 (q i).2.2.1) ∧ W.cell? ⟨b, off + i * 4 + 3, none⟩ = some (.int .i64 (q i).2.2.2) := fun i hi' => by
      obtain ⟨k0, k1, k2, k3⟩ := hq i hi'
      rw [add_plain] at k0 k1 k2 k3
      exact ⟨k0, k1, k2, k3⟩
    refine ⟨b, off, rfl, by simp, cell_lt (hcell 0 h0).1, fun i hi' => ?_⟩
    have e1 : q1 ((List.range n).map q) i = (q i).1 := by simp [q1, List.getD_eq_getElem?_getD, hi']
    have e2 : q2 ((List.range n).map q) i = (q i).2.1 := by simp [q2, List.getD_eq_getElem?_getD, hi']
    have e3 : q3 ((List.range n).map q) i = (q i).2.2.1 := by simp [q3, List.getD_eq_getElem?_getD, hi']
    have e4 : q4 ((List.range n).map q) i = (q i).2.2.2 := by simp [q4, List.getD_eq_getElem?_getD, hi']
    rw [e1, e2, e3, e4]
    exact hcell i hi'
end
end Go.Proofs.YtpdfbboagaflhaaGreat

set_option linter.unusedSimpArgs false
set_option linter.unusedVariables false
set_option maxRecDepth 100000
namespace Go.Proofs.YtpdfbboagaflhaaGreat
open Go.RowKit

/-- a result that is a list of segments -/
def SegsR (w : World) (v : Value) (R : List S4) : Prop := ∃ av cap, v = .slice av R.length cap ∧ R.length ≤ cap ∧ (0 < R.length → ∃ g, av = some ⟨g, 0, none⟩ ∧ Segs w g 0 R.length R)
theorem SegsR.new {w w' : World} {v : Value} {R : List S4} (h : SegsR w v R) (hn : New w w') : SegsR w' v R := by
  obtain ⟨av, cap, h1, hc, h2⟩ := h
  exact ⟨av, cap, h1, hc, fun h0 => by obtain ⟨g, h3, h4⟩ := h2 h0; exact ⟨g, h3, h4.new hn⟩⟩
/-- every list of segments -/
def SegsA (w : World) (av : Option Addr) (n : Nat) (l : List S4) : Prop := l.length = n ∧ (0 < n → ∃ b off, av = some ⟨b, off, none⟩ ∧ Segs w b off n l)
theorem SegsA.new {w w' : World} {av : Option Addr} {n : Nat} {l : List S4} (h : SegsA w av n l) (hn : New w w') : SegsA w' av n l :=
  ⟨h.1, fun h0 => by obtain ⟨b, off, h1, h2⟩ := h.2 h0; exact ⟨b, off, h1, h2.new hn⟩⟩
set_option maxHeartbeats 2000000 in
theorem insortS_nil (v : Option Addr) (c : Nat) (f : Value) (w : World) : Calls Tryz.prog 203 #[.slice v 0 c, .int .i64 0, .int .i64 0, f] w fun en w' => en = .returned (.tuple #[]) ∧ New w w' := by
  go_enter Tryz.func203, Tryz.ntmps203
  go_wp2_with fail
  go_loopw [8] (fun i wr => i = .int .i64 1 ∧ New w wr) (fun _ _ => 0)
  case atStart => exact ⟨by go_num, New.refl _⟩
  case round =>
    obtain ⟨rfl, hn⟩ := hrel
    have HN := Lib.hid hn
    clear hn
    go_wp2_with fail
    exact bodyPost_end (results_none rfl _ _ _) rfl ⟨rfl, HN.out⟩
set_option maxHeartbeats 2000000 in
theorem pdqS_nil (v : Option Addr) (c : Nat) (k : Int) (f : Value) (w : World) : Calls Tryz.prog 177 #[.slice v 0 c, .int .i64 0, .int .i64 0, .int .i64 k, f] w fun en w' => en = .returned (.tuple #[]) ∧ New w w' := by
  have HI := Lib.hid (insortS_nil v c f)
  go_enter Tryz.func177, Tryz.ntmps177
  go_wp2_with fail
  go_loopw [1, 2] (fun i j wr => (i = .int .i64 0 ∧ j = .int .i64 0) ∧ New w wr) (fun _ _ _ => 0)
  case atStart => exact ⟨⟨rfl, rfl⟩, New.refl _⟩
  case round =>
    obtain ⟨⟨rfl, rfl⟩, hn⟩ := hrel
    have HN := Lib.hid hn
    clear hn
    go_wp2_with (go_at_call 203; refine (HI.out _).mono ?_; rintro e w1 ⟨rfl, hn⟩; have HN1 := Lib.hid (HN.out.trans hn); clear hn)
    exact bodyPost_ret (results_none rfl _ _ _) rfl ⟨rfl, HN1.out⟩
set_option maxHeartbeats 2000000 in
theorem sortS_nil (v : Option Addr) (c : Nat) (w : World) : Calls Tryz.prog 138 #[.slice v 0 c, .func (.func 139) #[] #[]] w fun en w' => en = .returned (.tuple #[]) ∧ New w w' := by
  have HI := Lib.hid (fun k => pdqS_nil v c k (.func (.func 139) #[] #[]))
  have HL := Lib.hid (fun w1 : World => hlenH 0 w1 (by omega))
  go_enter Tryz.func138, Tryz.ntmps138
  go_wp2_with (first | (go_at_call 172; refine (HL.out _).mono ?_; rintro e w1 ⟨⟨k, rfl⟩, rfl⟩) | (go_at_call 177; refine (HI.out _ _).mono ?_; rintro e w1 ⟨rfl, hn⟩; have HN1 := Lib.hid hn; clear hn))
  exact bodyPost_end (results_none rfl _ _ _) rfl ⟨rfl, HN1.out⟩
set_option maxHeartbeats 2000000 in
theorem compactS_nil (v : Option Addr) (c : Nat) (w : World) : Calls Tryz.prog 140 #[.slice v 0 c] w fun en w' => en = .returned (.slice v 0 c) ∧ New w w' := by
  go_enter Tryz.func140, Tryz.ntmps140
  go_wp2_with fail
  go_ret; exact ⟨rfl, New.refl _⟩
set_option maxHeartbeats 1000000 in
theorem crossing_nil1 (v : Option Addr) (c : Nat) (w : World) : Calls Tryz.prog 64 #[.slice v 0 c] w fun en w' => en = .returned (.tuple #[.int .i64 0, .int .i64 0, .bool false, .int .i64 0]) ∧ New w w' := by
  have HC := Lib.hid (show ∀ w1 : World, Calls Tryz.prog 135 #[.slice v 0 c] w1 fun en w' => en = .returned (.int .i64 0) ∧ New w1 w' from fun w1 => by
    go_enter Tryz.func135, Tryz.ntmps135
    go_wp2_with fail
    refine wp_loop_rounds 1 ?_
    repeat any_goals (rw [rounds_succ]; go_wp2)
    go_ret; exact ⟨rfl, New.refl _⟩)
  go_enter Tryz.func64, Tryz.ntmps64
  go_wp2_with (go_at_call 135; refine (HC.out _).mono ?_; rintro e w1 ⟨rfl, pw, rfl⟩)
  refine wp_loop_rounds 1 ?_
  repeat any_goals (rw [rounds_succ]; go_wp2)
  refine bodyPost_ret (v := .tuple #[.int .i64 0, .int .i64 0, .bool false, .int .i64 0]) (by simp [results, Tryz.results64, go_sem]) rfl ⟨rfl, ?_⟩; (repeat (first | exact New.refl _ | apply New.alloc | apply New.aft | apply New.drew | refine New.setCell ?_ ?_ _)); all_goals (first | done | (simp [size_aft]; done) | (simp [size_aft]; omega))
set_option maxHeartbeats 2000000 in
theorem apart_nil (v : Option Addr) (c : Nat) (w : World) : Calls Tryz.prog 137 #[.slice v 0 c] w fun en w' => en = .returned (.int .i64 0) ∧ New w w' := by
  have HC := Lib.hid (crossing_nil1 v c)
  go_enter Tryz.func137, Tryz.ntmps137
  go_wp2_with (go_at_call 64; refine (HC.out _).mono ?_; rintro e w1 ⟨rfl, hn⟩; have HN1 := Lib.hid hn; clear hn)
  go_ret; exact ⟨rfl, HN1.out⟩
set_option maxHeartbeats 4000000 in
theorem split_nil (v : Option Addr) (c : Nat) (w : World) : Calls Tryz.prog 66 #[.slice v 0 c] w fun en w' => en = .returned (.tuple #[.slice none 0 0, .int .i64 0]) ∧ New w w' := by
  obtain ⟨i0, hi, hz0, hz1, hz2⟩ := info_parts info23
  have HA := Lib.hid (fun w1 : World => apart_nil v c w1)
  have HS := Lib.hid (fun w1 : World => sortS_nil none 0 w1)
  have HP := Lib.hid (fun w1 : World => compactS_nil none 0 w1)
  have hmk : ∀ w : World, (Instr.makeSlice 40 (.int .i64 0) (.int .i64 0)).run Tryz.prog w = .ok (.slice (some ⟨w.heap.size, 0, none⟩) 0 0) (w.alloc (.cells (madeCells (.agg #[.int .i64 0, .int .i64 0] : Value).cells (0 * 2)) 23)) := by
    intro w
    have := run_make (P := Tryz.prog) w 40 23 i0 _ Tryz.underlying40 hi hz0 .i64 .i64 0 0 (by omega) (by omega) (by rw [hz2]; omega) (by omega)
    rw [hz1] at this
    simpa using this
  go_enter Tryz.func66, Tryz.ntmps66
  go_wp2_with (go_at_call 137; refine (HA.out _).mono ?_; rintro e w1 ⟨rfl, hn⟩; have HN1 := Lib.hid hn; clear hn)
  go_loopw [22] (fun i wr => i = .int .i64 0 ∧ New w1 wr) (fun _ _ => 0)
  case atStart => exact ⟨rfl, (New.refl _).alloc _⟩
  case round =>
    obtain ⟨rfl, hn⟩ := hrel
    have HN2 := Lib.hid (HN1.out.trans hn)
    clear hn
    obtain ⟨wl, rfl⟩ : ∃ wl : World, wl = wr := ⟨_, rfl⟩
    go_wp2_with fail
    go_loopw [8, 36] (fun v i wr => (v = .slice none 0 0 ∧ i = .int .i64 0) ∧ New wl wr) (fun _ _ _ => 0)
    case atStart => exact ⟨⟨rfl, rfl⟩, New.refl _⟩
    case round =>
      obtain ⟨⟨rfl, rfl⟩, hn⟩ := hrel
      have HN3 := Lib.hid (HN2.out.trans hn)
      clear hn
      go_wp2_with (first | (go_at_call 138; refine (HS.out _).mono ?_; rintro e w3 ⟨rfl, hn⟩; have HN4 := Lib.hid (HN3.out.trans hn); clear hn) | (go_at_call 140; refine (HP.out _).mono ?_; rintro e w4 ⟨rfl, hn⟩; have HN5 := Lib.hid (HN4.out.trans hn); clear hn))
      go_ret2
      exact ⟨rfl, HN5.out⟩
set_option maxHeartbeats 4000000 in
theorem split_err (b off n c : Nat) (l : List S4) (E : Int) (w : World) (hl : n ≤ 1000000) (hw : Segs w b off n l) (hE : E ≠ 0) (hA : ∀ en, ApartIs l en → en = .returned (.int .i64 E)) : Calls Tryz.prog 66 #[.slice (some ⟨b, off, none⟩) n c] w fun en w' => en = .returned (.tuple #[.slice none 0 0, .int .i64 E]) ∧ New w w' := by
  have HCK := Lib.hid ((checkApart_c b off n c l w (by omega) hw).mono fun e w' h => (⟨hA e h.1, h.2⟩ : e = .returned (.int .i64 E) ∧ New w w'))
  have hq1 : (E == 0) = false := by simpa using hE
  have hq2 : (E != 0) = true := by simpa using hE
  clear hw hA hE
  go_enter Tryz.func66, Tryz.ntmps66
  go_wp2_with (first | (go_at_call 137; refine HCK.out.mono ?_; rintro e w1 ⟨rfl, hn1⟩; have HN1 := Lib.hid hn1; clear hn1))
  go_ret2
  exact ⟨rfl, HN1.out⟩
theorem okSegs_ck {l : List S4} (hk : ckSegs l = 0) : okSegs l = true := by
  unfold ckSegs at hk
  split at hk
  · cases hk
  · split at hk
    · assumption
    · cases hk
theorem split_good (b off n c : Nat) (l : List S4) (w : World) (h0 : 0 < n) (hl : n ≤ 400) (hw : Segs w b off n l) (hk : ckSegs l = 0) (hf : RowsFree l l.length l.length) : Calls Tryz.prog 66 #[.slice (some ⟨b, off, none⟩) n c] w fun en w' => ∃ r, en = .returned (.tuple #[r, .int .i64 0]) ∧ SegsR w' r (splitL l) ∧ New w w' := by
  have hok := okSegs_ck hk
  refine (split_yes b off n c l w h0 hl hw (fun i => ?_) (fun en h => ?_) (fun k hk => ?_)).mono ?_
  · by_cases hi : i < l.length
    · have := ckSegs_bd hk i hi; exact ⟨⟨this.1, this.2.1⟩, this.2.2.1, this.2.2.2⟩
    · simp [q1, q2, q3, q4, List.getD_eq_getElem?_getD, List.getElem?_eq_none (Nat.le_of_not_lt hi)]
  · rcases h with ⟨h1, _⟩ | ⟨_, _, h3⟩ | ⟨_, ⟨i, j, h3, h4, h5⟩, _⟩
    · exact absurd hk h1
    · exact h3
    · rw [hf i (by omega) j h3 h4] at h5; cases h5
  · have := pieces_pos hok (show k < l.length by rw [hw.1]; exact hk)
    rw [hw.1] at this; exact this
  · rintro en w' ⟨g, cap, rfl, ho, hn⟩
    exact ⟨_, rfl, ⟨_, cap, rfl, (own_cap ho).1, fun _ => ⟨g, rfl, segs_own ho rfl⟩⟩, hn⟩
theorem split_bad (b off n c : Nat) (l : List S4) (hl : n ≤ 1000000) (h : ¬ (ckSegs l = 0 ∧ RowsFree l l.length l.length)) : ∃ E : Int, E ≠ 0 ∧ ∀ w : World, Segs w b off n l → Calls Tryz.prog 66 #[.slice (some ⟨b, off, none⟩) n c] w fun en w' => en = .returned (.tuple #[.slice none 0 0, .int .i64 E]) ∧ New w w' := by
  by_cases hk : ckSegs l = 0
  · have hf : ¬ RowsFree l l.length l.length := fun hf => h ⟨hk, hf⟩
    refine ⟨10, by decide, fun w hw => split_err b off n c l 10 w hl hw (by decide) (fun en h => ?_)⟩
    rcases h with ⟨h1, _⟩ | ⟨_, h2, _⟩ | ⟨_, _, h3⟩
    · exact absurd hk h1
    · exact absurd h2 hf
    · exact h3
  · refine ⟨ckSegs l, hk, fun w hw => split_err b off n c l (ckSegs l) w hl hw hk (fun en h => ?_)⟩
    rcases h with ⟨_, h2⟩ | ⟨h1, _⟩ | ⟨h1, _⟩
    · exact h2
    · exact absurd h1 hk
    · exact absurd h1 hk

end Go.Proofs.YtpdfbboagaflhaaGreat

set_option linter.unusedSimpArgs false
set_option linter.unusedVariables false
set_option maxRecDepth 100000
namespace Go.Proofs.YtpdfbboagaflhaaGreat
open Go.RowKit

/-- whether a point is an end of one of the first k segments -/
def Hit (p : P2) (R : List S4) (k : Nat) : Prop := ∃ i, i < k ∧ (p = eA (segAt R i) ∨ p = eB (segAt R i))
theorem hit_zero (p : P2) (R : List S4) : ¬ Hit p R 0 := fun ⟨i, hi, _⟩ => absurd hi (Nat.not_lt_zero _)
theorem hit_succ (x y : Int) (R : List S4) (k : Nat) : Hit (x, y) R (k + 1) ↔ (Hit (x, y) R k ∨ (x = q1 R k ∧ y = q2 R k) ∨ (x = q3 R k ∧ y = q4 R k)) := by
  constructor
  · rintro ⟨i, hi, h⟩
    by_cases e : i = k
    · subst e
      right
      simpa [eA, eB, segAt] using h
    · left; exact ⟨i, by omega, h⟩
  · rintro (⟨i, hi, h⟩ | h)
    · exact ⟨i, by omega, h⟩
    · exact ⟨k, by omega, by simpa [eA, eB, segAt] using h⟩
/-- the sum of the first lengths -/
def sumTo (R : List S4) : Nat → Int
  | 0 => 0
  | k + 1 => sumTo R k + (max (q1 R k - q3 R k) (q3 R k - q1 R k) + max (q2 R k - q4 R k) (q4 R k - q2 R k))
theorem sumTo_F (R : List S4) : ∀ k, k ≤ R.length → sumTo R k = sumF (R.take k)
  | 0, _ => by simp [sumTo, sumF]
  | k + 1, h => by
    rw [List.take_succ_eq_append_getElem (by omega), sumF_app, ← segAt_get R k (by omega), sumTo, sumTo_F R k (by omega)]
    simp [sumF, lenS, dI, eA, eB, segAt]
theorem sumTo_bd {R : List S4} (h : ∀ i, i < R.length → okSeg (segAt R i) = true) : ∀ k, k ≤ R.length → 0 ≤ sumTo R k ∧ sumTo R k ≤ 20000 * (k : Int)
  | 0, _ => by simp [sumTo]
  | k + 1, hk => by
    have ih := sumTo_bd h k (by omega)
    have := okSeg_iff.1 (h k (by omega))
    unfold valid eA eB segAt at this
    simp only at this
    simp only [sumTo]
    omega
theorem len_two {a b c d : Int} (h1 : okP a b = true) (h2 : okP c d = true) : lenI [(a, b), (c, d)] = max (a - c) (c - a) + max (b - d) (d - b) := by
  rw [← lenI_yes (by simp [ckPts, okL, h1, h2])]
  simp [lenTo, distI, px, py]
/-- a slice of two points that is built -/
theorem two_pts {w : World} {a b c d : Int} : Pts (w.alloc (.cells #[.int .i64 a, .int .i64 b, .int .i64 c, .int .i64 d] 23)) w.heap.size 0 2 [(a, b), (c, d)] := by
  refine ⟨rfl, by simp, fun i hi => ?_⟩
  have : i = 0 ∨ i = 1 := by omega
  rcases this with rfl | rfl <;> simp [px, py, go_sem]

/-! two points are compared: one Bool -/
theorem fields_23 : ((Tryz.prog.fieldsOf 23).toList.map fun f => (f.type, f.offset, decide (f.name = "_"))) = [(3, 0, false), (3, 1, false)] := by kernel_rfl
theorem eql_bool (a b c d : Int) : ∃ e : Bool, ((e = true) = (a = c ∧ b = d)) ∧ ∀ w : World, (binOp .eql 23 (.agg #[.int .i64 a, .int .i64 b]) (.agg #[.int .i64 c, .int .i64 d])).run Tryz.prog w = .ok (.bool e) w := by
  refine ⟨a == c && b == d, by simp, fun w => ?_⟩
  have hs : Tryz.prog.underlying 23 = some (.struct (Tryz.prog.fieldsOf 23)) := by kernel_rfl
  have hp : Tryz.prog.stoodInHeld 23 = false := by kernel_rfl
  have hf := fields_23
  rw [run_eql_struct, run_equalIn_agg _ _ _ _ _ hs hp]
  generalize (Tryz.prog.fieldsOf 23).toList = F at *
  rcases F with _ | ⟨f, _ | ⟨g, _ | ⟨x, F⟩⟩⟩
  · simp at hf
  · simp at hf
  · simp only [List.map_cons, List.map_nil, List.cons.injEq, Prod.mk.injEq, and_true, decide_eq_false_iff_not] at hf
    obtain ⟨⟨h1, h2, h3⟩, h4, h5, h6⟩ := hf
    simp [go_sem, Op.eqFields, h1, h2, h3, h4, h5, h6, Tryz.underlying3]
    by_cases k1 : a = c <;> by_cases k2 : b = d <;> simp [k1, k2]
  · simp at hf

set_option maxHeartbeats 4000000 in
theorem pieces_long (v : Option Addr) (n c : Nat) (w : World) (hn : 40 < n) : Calls Tryz.prog 24 #[.slice v n c] w fun e w' => e = .returned (.bool true) ∧ New w w' := by
  have HL := Lib.hid alive_c
  have k1 : (40 : Int) < (n : Int) := by omega
  go_enter Tryz.func24, Tryz.ntmps24
  go_wp2_with (go_at_call 31; refine (HL.out _).mono ?_; rintro e w1 ⟨rfl, pw, rfl⟩)
  all_goals (go_ret; refine ⟨ret_bool (by simp), ?_⟩; (repeat (first | exact New.refl _ | apply New.alloc | apply New.aft | apply New.drew | refine New.setCell ?_ ?_ _)); all_goals (first | done | (simp [size_aft]; done) | (simp [size_aft]; omega)))

set_option maxHeartbeats 4000000 in
theorem pieces_err (v : Option Addr) (n c : Nat) (E : Int) (w : World) (hn : n ≤ 40) (hE : E ≠ 0) (HS : Hid (∀ w1 : World, New w w1 → Calls Tryz.prog 66 #[.slice v n c] w1 fun en w' => en = .returned (.tuple #[.slice none 0 0, .int .i64 E]) ∧ New w1 w')) : Calls Tryz.prog 24 #[.slice v n c] w fun e w' => e = .returned (.bool true) ∧ New w w' := by
  have HL := Lib.hid alive_c
  have k1 : ¬ (40 : Int) < (n : Int) := by omega
  have hq1 : (E == 0) = false := by simpa using hE
  have hq2 : (E != 0) = true := by simpa using hE
  clear hE
  go_enter Tryz.func24, Tryz.ntmps24
  go_wp2_with (first | (go_at_call 66; refine (HS.out _ (New.refl _)).mono ?_; rintro e w1 ⟨rfl, hn⟩; have N1 := Lib.hid hn; clear hn) | (go_at_call 31; refine (HL.out _).mono ?_; rintro e w2 ⟨rfl, hn⟩; have N2 := Lib.hid (N1.out.trans hn); clear hn))
  all_goals (go_ret; exact ⟨ret_bool (by simp), N2.out⟩)

set_option maxHeartbeats 16000000 in
theorem pieces_ok (b off n c : Nat) (l R : List S4) (w : World) (hn : n ≤ 40) (hw : Segs w b off n l) (hok : ∀ i, i < n → okSeg (segAt l i) = true) (hRok : ∀ i, i < R.length → okSeg (segAt R i) = true) (hR : R.length ≤ 100000) (hRpos : 0 < R.length)
    (HS : Hid (∀ w1 : World, New w w1 → Calls Tryz.prog 66 #[.slice (some ⟨b, off, none⟩) n c] w1 fun en w' => ∃ r, en = .returned (.tuple #[r, .int .i64 0]) ∧ SegsR w' r R ∧ New w1 w'))
    (hend : ∀ k, k < n → Hit (q1 l k, q2 l k) R R.length ∧ Hit (q3 l k, q4 l k) R R.length)
    (hmeet : ∀ i j, j < i → i < R.length → MeetI (q1 R i) (q2 R i) (q3 R i) (q4 R i) (q1 R j) (q2 R j) (q3 R j) (q4 R j) = 0 ∨ MeetI (q1 R i) (q2 R i) (q3 R i) (q4 R i) (q1 R j) (q2 R j) (q3 R j) (q4 R j) = 1)
    (hsum : sumTo l n = sumTo R R.length) : Calls Tryz.prog 24 #[.slice (some ⟨b, off, none⟩) n c] w fun e w' => e = .returned (.bool true) ∧ New w w' := by
  have HL := Lib.hid alive_c
  have HW := Lib.hid hw
  have HEND := Lib.hid hend
  have HMEET := Lib.hid hmeet
  have HSUM := Lib.hid hsum
  have HOK := Lib.hid hok
  have HROK := Lib.hid hRok
  have HSB := Lib.hid (sumTo_bd (R := l) (fun i hi => hok i (by rw [← hw.1]; exact hi)))
  have HRB := Lib.hid (sumTo_bd hRok)
  have HN := Lib.hid hw.1
  have HLN := Lib.hid (fun (b2 : Nat) (A1 A2 B1 B2 : Int) (w1 : World) (hp : Pts w1 b2 0 2 [(A1, A2), (B1, B2)]) => length_c b2 0 2 2 [(A1, A2), (B1, B2)] w1 (by omega) (by omega) hp)
  have HOKP := Lib.hid (show ∀ s : S4, okSeg s = true → okP s.1 s.2.1 = true ∧ okP s.2.2.1 s.2.2.2 = true from fun s h => by
    obtain ⟨h1, h2, _⟩ := okSeg_iff.1 h
    exact ⟨okP_iff.2 h1, okP_iff.2 h2⟩)
  have k1 : ¬ (40 : Int) < (n : Int) := by omega
  clear hw hend hmeet hsum hok hRok
  go_enter Tryz.func24, Tryz.ntmps24
  go_wp2_with (go_at_call 66; refine (HS.out _ (New.refl _)).mono ?_; rintro e w1 ⟨r, rfl, hr, hn1⟩; obtain ⟨av, cap, rfl, hcap, hr2⟩ := hr; obtain ⟨g, rfl, hg⟩ := hr2 hRpos; have SG := Lib.hid hg; have N1 := Lib.hid hn1; clear hr2 hg hn1)
  generalize hm : R.length = m at *
  have HM := Lib.hid hm
  clear hm
  go_loopw [5, 36] (fun s i wr => ∃ k : Nat, k ≤ n ∧ i = .int .i64 k ∧ s = .int .i64 (sumTo l k) ∧ New w1 wr) (fun _ i _ => n - (intOf i).toNat)
  case atStart => exact ⟨0, Nat.zero_le _, rfl, rfl, New.refl _⟩
  case round =>
    obtain ⟨wo, rfl⟩ : ∃ wo : World, wo = wr := ⟨_, rfl⟩
    obtain ⟨k, hk, rfl, rfl, hnew⟩ := hrel
    have NO := Lib.hid hnew
    have NOW := Lib.hid (N1.out.trans hnew)
    clear hnew
    by_cases hlt : k < n
    · have hkn : (k : Int) < (n : Int) := by omega
      obtain ⟨_, hb2, hcell⟩ := HW.out.new NOW.out
      obtain ⟨c1, c2, c3, c4⟩ := hcell k hlt
      clear hcell
      have hS := HSB.out k (by rw [HN.out]; omega)
      have HV := Lib.hid (HOKP.out _ (HOK.out k hlt))
      have hv := okSeg_iff.1 (HOK.out k hlt)
      have HEK := Lib.hid (HEND.out k hlt)
      have HSS := Lib.hid (show sumTo l (k + 1) = sumTo l k + (max (q1 l k - q3 l k) (q3 l k - q1 l k) + max (q2 l k - q4 l k) (q4 l k - q2 l k)) from rfl)
      unfold valid eA eB segAt at hv
      unfold segAt at HV
      simp only at hv HV
      obtain ⟨v1, v2, _⟩ := hv
      generalize q1 l k = A1 at *
      generalize q2 l k = A2 at *
      generalize q3 l k = B1 at *
      generalize q4 l k = B2 at *
      have HLV := Lib.hid (len_two HV.out.1 HV.out.2)
      have hD : 0 ≤ max (A1 - B1) (B1 - A1) + max (A2 - B2) (B2 - A2) ∧ max (A1 - B1) (B1 - A1) + max (A2 - B2) (B2 - A2) ≤ 20000 := by omega
      generalize max (A1 - B1) (B1 - A1) + max (A2 - B2) (B2 - A2) = D at *
      generalize sumTo l k = S at *
      have HBX := Lib.hid (show ∀ W : World, New (wo.alloc (.cells #[.int .i64 A1, .int .i64 A2, .int .i64 B1, .int .i64 B2] 30)) W → (W.cell? ⟨wo.heap.size, 0, none⟩ = some (.int .i64 A1) ∧ W.cell? ⟨wo.heap.size, 1, none⟩ = some (.int .i64 A2)) ∧ (W.cell? ⟨wo.heap.size, 2, none⟩ = some (.int .i64 B1) ∧ W.cell? ⟨wo.heap.size, 3, none⟩ = some (.int .i64 B2)) ∧ wo.heap.size < W.heap.size from fun W h => ⟨⟨(h.below.cell (p := ⟨wo.heap.size, 0, none⟩) (by simp)).trans (by simp [go_sem]), (h.below.cell (p := ⟨wo.heap.size, 1, none⟩) (by simp)).trans (by simp [go_sem])⟩, ⟨(h.below.cell (p := ⟨wo.heap.size, 2, none⟩) (by simp)).trans (by simp [go_sem]), (h.below.cell (p := ⟨wo.heap.size, 3, none⟩) (by simp)).trans (by simp [go_sem])⟩, by have := h.size; simp at this; omega⟩)
      have HP2 := Lib.hid (show Pts ((wo.alloc (.cells #[.int .i64 A1, .int .i64 A2, .int .i64 B1, .int .i64 B2] 30)).alloc (.cells #[.int .i64 A1, .int .i64 A2, .int .i64 B1, .int .i64 B2] 23)) (wo.heap.size + 1) 0 2 [(A1, A2), (B1, B2)] from by rw [show wo.heap.size + 1 = (wo.alloc (.cells #[.int .i64 A1, .int .i64 A2, .int .i64 B1, .int .i64 B2] 30)).heap.size by simp]; exact two_pts)
      clear v1 v2
      go_wp2_with (go_at_call 42; refine (HLN.out _ A1 A2 B1 B2 _ HP2.out).mono ?_; rintro e w2 ⟨rfl, hn2⟩; rw [HLV.out]; have N2 := Lib.hid (New.trans ((New.refl _).alloc _) hn2 : New (wo.alloc (.cells #[.int .i64 A1, .int .i64 A2, .int .i64 B1, .int .i64 B2] 30)) w2); clear hn2)
      go_loopw [8, 9, 50] (fun a b i wy => ∃ (j : Nat) (A B : Bool), j ≤ m ∧ i = .int .i64 j ∧ (a = .bool A ∧ b = .bool B) ∧ ((A = true ↔ Hit (A1, A2) R j) ∧ (B = true ↔ Hit (B1, B2) R j)) ∧ New w2 wy) (fun _ _ i _ => m - (intOf i).toNat)
      case atStart => exact ⟨0, false, false, Nat.zero_le _, rfl, ⟨rfl, rfl⟩, ⟨by simp [hit_zero], by simp [hit_zero]⟩, New.refl _⟩
      case round =>
        obtain ⟨wy, rfl⟩ : ∃ wy : World, wy = wr := ⟨_, rfl⟩
        obtain ⟨j, A, B, hj, rfl, ⟨rfl, rfl⟩, ⟨hA, hB⟩, hnew⟩ := hrel
        have NY := Lib.hid hnew
        have NYO := Lib.hid (N2.out.trans hnew)
        clear hnew
        by_cases hjm : j < m
        · have hjm2 : (j : Int) < (m : Int) := by omega
          obtain ⟨_, hg2, hcell⟩ := SG.out.new (NO.out.trans (((New.refl _).alloc _).trans NYO.out))
          obtain ⟨d1, d2, d3, d4⟩ := hcell j hjm
          clear hcell
          simp only [Nat.zero_add] at d1 d2 d3 d4
          have HSA := Lib.hid (hit_succ A1 A2 R j)
          have HSB2 := Lib.hid (hit_succ B1 B2 R j)
          generalize q1 R j = C1 at *
          generalize q2 R j = C2 at *
          generalize q3 R j = C3 at *
          generalize q4 R j = C4 at *
          obtain ⟨⟨x1, x2⟩, ⟨x3, x4⟩, x5⟩ := HBX.out _ NYO.out
          generalize Hit (A1, A2) R j = HA at *
          generalize Hit (B1, B2) R j = HB at *
          obtain ⟨e1, he1, hr1⟩ := eql_bool A1 A2 C1 C2
          obtain ⟨e2, he2, hr2⟩ := eql_bool A1 A2 C3 C4
          obtain ⟨e3, he3, hr3⟩ := eql_bool B1 B2 C1 C2
          obtain ⟨e4, he4, hr4⟩ := eql_bool B1 B2 C3 C4
          rw [← he1, ← he2] at HSA
          rw [← he3, ← he4] at HSB2
          clear he1 he2 he3 he4
          cases A
          · cases e1
            · cases e2
              · cases B
                · cases e3
                  · cases e4
                    · simp only [Bool.false_eq_true, false_iff, true_iff] at hA hB
                      go_wp2_with fail
                      go_roundw
                      case rel => exact ⟨j + 1, _, _, by omega, by go_num, ⟨rfl, rfl⟩, ⟨by rw [HSA.out]; simp [hA], by rw [HSB2.out]; simp [hB]⟩, NY.out.trans ((New.refl _).alloc _)⟩
                      case measure => simp [intOf]; omega
                    · simp only [Bool.false_eq_true, false_iff, true_iff] at hA hB
                      go_wp2_with fail
                      go_roundw
                      case rel => exact ⟨j + 1, _, _, by omega, by go_num, ⟨rfl, rfl⟩, ⟨by rw [HSA.out]; simp [hA], by rw [HSB2.out]; simp [hB]⟩, NY.out.trans ((New.refl _).alloc _)⟩
                      case measure => simp [intOf]; omega
                  · simp only [Bool.false_eq_true, false_iff, true_iff] at hA hB
                    go_wp2_with fail
                    go_roundw
                    case rel => exact ⟨j + 1, _, _, by omega, by go_num, ⟨rfl, rfl⟩, ⟨by rw [HSA.out]; simp [hA], by rw [HSB2.out]; simp [hB]⟩, NY.out.trans ((New.refl _).alloc _)⟩
                    case measure => simp [intOf]; omega
                · simp only [Bool.false_eq_true, false_iff, true_iff] at hA hB
                  go_wp2_with fail
                  go_roundw
                  case rel => exact ⟨j + 1, _, _, by omega, by go_num, ⟨rfl, rfl⟩, ⟨by rw [HSA.out]; simp [hA], by rw [HSB2.out]; simp [hB]⟩, NY.out.trans ((New.refl _).alloc _)⟩
                  case measure => simp [intOf]; omega
              · cases B
                · cases e3
                  · cases e4
                    · simp only [Bool.false_eq_true, false_iff, true_iff] at hA hB
                      go_wp2_with fail
                      go_roundw
                      case rel => exact ⟨j + 1, _, _, by omega, by go_num, ⟨rfl, rfl⟩, ⟨by rw [HSA.out]; simp [hA], by rw [HSB2.out]; simp [hB]⟩, NY.out.trans ((New.refl _).alloc _)⟩
                      case measure => simp [intOf]; omega
                    · simp only [Bool.false_eq_true, false_iff, true_iff] at hA hB
                      go_wp2_with fail
                      go_roundw
                      case rel => exact ⟨j + 1, _, _, by omega, by go_num, ⟨rfl, rfl⟩, ⟨by rw [HSA.out]; simp [hA], by rw [HSB2.out]; simp [hB]⟩, NY.out.trans ((New.refl _).alloc _)⟩
                      case measure => simp [intOf]; omega
                  · simp only [Bool.false_eq_true, false_iff, true_iff] at hA hB
                    go_wp2_with fail
                    go_roundw
                    case rel => exact ⟨j + 1, _, _, by omega, by go_num, ⟨rfl, rfl⟩, ⟨by rw [HSA.out]; simp [hA], by rw [HSB2.out]; simp [hB]⟩, NY.out.trans ((New.refl _).alloc _)⟩
                    case measure => simp [intOf]; omega
                · simp only [Bool.false_eq_true, false_iff, true_iff] at hA hB
                  go_wp2_with fail
                  go_roundw
                  case rel => exact ⟨j + 1, _, _, by omega, by go_num, ⟨rfl, rfl⟩, ⟨by rw [HSA.out]; simp [hA], by rw [HSB2.out]; simp [hB]⟩, NY.out.trans ((New.refl _).alloc _)⟩
                  case measure => simp [intOf]; omega
            · cases B
              · cases e3
                · cases e4
                  · simp only [Bool.false_eq_true, false_iff, true_iff] at hA hB
                    go_wp2_with fail
                    go_roundw
                    case rel => exact ⟨j + 1, _, _, by omega, by go_num, ⟨rfl, rfl⟩, ⟨by rw [HSA.out]; simp [hA], by rw [HSB2.out]; simp [hB]⟩, NY.out.trans ((New.refl _).alloc _)⟩
                    case measure => simp [intOf]; omega
                  · simp only [Bool.false_eq_true, false_iff, true_iff] at hA hB
                    go_wp2_with fail
                    go_roundw
                    case rel => exact ⟨j + 1, _, _, by omega, by go_num, ⟨rfl, rfl⟩, ⟨by rw [HSA.out]; simp [hA], by rw [HSB2.out]; simp [hB]⟩, NY.out.trans ((New.refl _).alloc _)⟩
                    case measure => simp [intOf]; omega
                · simp only [Bool.false_eq_true, false_iff, true_iff] at hA hB
                  go_wp2_with fail
                  go_roundw
                  case rel => exact ⟨j + 1, _, _, by omega, by go_num, ⟨rfl, rfl⟩, ⟨by rw [HSA.out]; simp [hA], by rw [HSB2.out]; simp [hB]⟩, NY.out.trans ((New.refl _).alloc _)⟩
                  case measure => simp [intOf]; omega
              · simp only [Bool.false_eq_true, false_iff, true_iff] at hA hB
                go_wp2_with fail
                go_roundw
                case rel => exact ⟨j + 1, _, _, by omega, by go_num, ⟨rfl, rfl⟩, ⟨by rw [HSA.out]; simp [hA], by rw [HSB2.out]; simp [hB]⟩, NY.out.trans ((New.refl _).alloc _)⟩
                case measure => simp [intOf]; omega
          · cases B
            · cases e3
              · cases e4
                · simp only [Bool.false_eq_true, false_iff, true_iff] at hA hB
                  go_wp2_with fail
                  go_roundw
                  case rel => exact ⟨j + 1, _, _, by omega, by go_num, ⟨rfl, rfl⟩, ⟨by rw [HSA.out]; simp [hA], by rw [HSB2.out]; simp [hB]⟩, NY.out.trans ((New.refl _).alloc _)⟩
                  case measure => simp [intOf]; omega
                · simp only [Bool.false_eq_true, false_iff, true_iff] at hA hB
                  go_wp2_with fail
                  go_roundw
                  case rel => exact ⟨j + 1, _, _, by omega, by go_num, ⟨rfl, rfl⟩, ⟨by rw [HSA.out]; simp [hA], by rw [HSB2.out]; simp [hB]⟩, NY.out.trans ((New.refl _).alloc _)⟩
                  case measure => simp [intOf]; omega
              · simp only [Bool.false_eq_true, false_iff, true_iff] at hA hB
                go_wp2_with fail
                go_roundw
                case rel => exact ⟨j + 1, _, _, by omega, by go_num, ⟨rfl, rfl⟩, ⟨by rw [HSA.out]; simp [hA], by rw [HSB2.out]; simp [hB]⟩, NY.out.trans ((New.refl _).alloc _)⟩
                case measure => simp [intOf]; omega
            · simp only [Bool.false_eq_true, false_iff, true_iff] at hA hB
              go_wp2_with fail
              go_roundw
              case rel => exact ⟨j + 1, _, _, by omega, by go_num, ⟨rfl, rfl⟩, ⟨by rw [HSA.out]; simp [hA], by rw [HSB2.out]; simp [hB]⟩, NY.out.trans ((New.refl _).alloc _)⟩
              case measure => simp [intOf]; omega
        · have hjm2 : ¬ (j : Int) < (m : Int) := by omega
          have hje : j = m := by omega
          have hA1 : A = true := hA.2 (by rw [hje]; exact HEK.out.1)
          have hB1 : B = true := hB.2 (by rw [hje]; exact HEK.out.2)
          subst hA1
          subst hB1
          clear hA hB
          go_wp2_with fail
          go_roundw
          case rel => exact ⟨k + 1, by omega, by go_num, by rw [HSS.out], NO.out.trans (((New.refl _).alloc _).trans (NYO.out.trans (by (repeat (first | exact New.refl _ | apply New.alloc | apply New.aft | apply New.drew | refine New.setCell ?_ ?_ _)); all_goals (first | done | (simp [size_aft]; done) | (simp [size_aft]; omega)))))⟩
          case measure => simp [intOf]; omega
    · have hkn : ¬ (k : Int) < (n : Int) := by omega
      obtain rfl : k = n := by omega
      obtain ⟨wo2, hwo2⟩ : ∃ wo2 : World, wo2 = wo := ⟨_, rfl⟩
      have HTOT := Lib.hid (show ∀ i, i ≤ m → sumTo l k - sumTo R i = (sumTo l k - sumTo R i) from fun _ _ => rfl)
      have hT := HSB.out k (by rw [HN.out]; omega)
      have HE := Lib.hid (show sumTo l k = sumTo R m from HSUM.out)
      clear hwo2
      generalize sumTo l k = T at *
      go_wp2_with fail
      go_loopw [5, 94] (fun s i wr => ∃ j : Nat, j ≤ m ∧ i = .int .i64 j ∧ s = .int .i64 (T - sumTo R j) ∧ New wo wr) (fun _ i _ => m - (intOf i).toNat)
      case atStart => exact ⟨0, Nat.zero_le _, rfl, by simp [sumTo], New.refl _⟩
      case round =>
        obtain ⟨wx, rfl⟩ : ∃ wx : World, wx = wr := ⟨_, rfl⟩
        obtain ⟨j, hj, rfl, rfl, hnew⟩ := hrel
        have NX := Lib.hid hnew
        have NXW := Lib.hid (NOW.out.trans hnew)
        clear hnew
        have hSR := HRB.out j hj
        by_cases hjm : j < m
        · have hjm2 : (j : Int) < (m : Int) := by omega
          obtain ⟨_, hg2, hcell⟩ := SG.out.new (NO.out.trans NX.out)
          obtain ⟨c1, c2, c3, c4⟩ := hcell j hjm
          clear hcell
          simp only [Nat.zero_add] at c1 c2 c3 c4
          have HV := Lib.hid (HOKP.out _ (HROK.out j hjm))
          have hv := okSeg_iff.1 (HROK.out j hjm)
          have HMJ := Lib.hid (fun (i : Nat) (h : i < j) => HMEET.out j i h hjm)
          have HSS := Lib.hid (show sumTo R (j + 1) = sumTo R j + (max (q1 R j - q3 R j) (q3 R j - q1 R j) + max (q2 R j - q4 R j) (q4 R j - q2 R j)) from rfl)
          unfold valid eA eB segAt at hv
          unfold segAt at HV
          simp only at hv HV
          obtain ⟨v1, v2, _⟩ := hv
          generalize q1 R j = A1 at *
          generalize q2 R j = A2 at *
          generalize q3 R j = B1 at *
          generalize q4 R j = B2 at *
          have HLV := Lib.hid (len_two HV.out.1 HV.out.2)
          have hD : 0 ≤ max (A1 - B1) (B1 - A1) + max (A2 - B2) (B2 - A2) ∧ max (A1 - B1) (B1 - A1) + max (A2 - B2) (B2 - A2) ≤ 20000 := by omega
          generalize max (A1 - B1) (B1 - A1) + max (A2 - B2) (B2 - A2) = D at *
          generalize sumTo R j = S at *
          have HBX := Lib.hid (show ∀ W : World, New (wx.alloc (.cells #[.int .i64 A1, .int .i64 A2, .int .i64 B1, .int .i64 B2] 30)) W → (W.cell? ⟨wx.heap.size, 0, none⟩ = some (.int .i64 A1) ∧ W.cell? ⟨wx.heap.size, 1, none⟩ = some (.int .i64 A2)) ∧ (W.cell? ⟨wx.heap.size, 2, none⟩ = some (.int .i64 B1) ∧ W.cell? ⟨wx.heap.size, 3, none⟩ = some (.int .i64 B2)) ∧ wx.heap.size < W.heap.size from fun W h => ⟨⟨(h.below.cell (p := ⟨wx.heap.size, 0, none⟩) (by simp)).trans (by simp [go_sem]), (h.below.cell (p := ⟨wx.heap.size, 1, none⟩) (by simp)).trans (by simp [go_sem])⟩, ⟨(h.below.cell (p := ⟨wx.heap.size, 2, none⟩) (by simp)).trans (by simp [go_sem]), (h.below.cell (p := ⟨wx.heap.size, 3, none⟩) (by simp)).trans (by simp [go_sem])⟩, by have := h.size; simp at this; omega⟩)
          have HP2 := Lib.hid (show Pts ((wx.alloc (.cells #[.int .i64 A1, .int .i64 A2, .int .i64 B1, .int .i64 B2] 30)).alloc (.cells #[.int .i64 A1, .int .i64 A2, .int .i64 B1, .int .i64 B2] 23)) (wx.heap.size + 1) 0 2 [(A1, A2), (B1, B2)] from by rw [show wx.heap.size + 1 = (wx.alloc (.cells #[.int .i64 A1, .int .i64 A2, .int .i64 B1, .int .i64 B2] 30)).heap.size by simp]; exact two_pts)
          have hjc : (j : Int) ≤ (cap : Int) := by omega
          have hjc2 : j ≤ cap := by omega
          clear v1 v2
          go_wp2_with (go_at_call 42; refine (HLN.out _ A1 A2 B1 B2 _ HP2.out).mono ?_; rintro e w2 ⟨rfl, hn2⟩; rw [HLV.out]; have N2 := Lib.hid (New.trans ((New.refl _).alloc _) hn2 : New (wx.alloc (.cells #[.int .i64 A1, .int .i64 A2, .int .i64 B1, .int .i64 B2] 30)) w2); clear hn2)
          go_loopw [111] (fun i wy => ∃ i2 : Nat, i2 ≤ j ∧ i = .int .i64 i2 ∧ New w2 wy) (fun i _ => j - (intOf i).toNat)
          case atStart => exact ⟨0, Nat.zero_le _, rfl, New.refl _⟩
          case round =>
            obtain ⟨wy, rfl⟩ : ∃ wy : World, wy = wr := ⟨_, rfl⟩
            obtain ⟨i2, hi2, rfl, hnew⟩ := hrel
            have NY := Lib.hid hnew
            have NYO := Lib.hid (N2.out.trans hnew)
            clear hnew
            by_cases hij : i2 < j
            · have hij2 : (i2 : Int) < (j : Int) := by omega
              obtain ⟨_, hg3, hcell⟩ := SG.out.new ((NO.out.trans NX.out).trans (((New.refl _).alloc _).trans NYO.out))
              obtain ⟨d1, d2, d3, d4⟩ := hcell i2 (by omega)
              clear hcell
              simp only [Nat.zero_add] at d1 d2 d3 d4
              have HME := Lib.hid (HMJ.out i2 hij)
              have HMC := Lib.hid (fun w1 : World => Meet_c A1 A2 B1 B2 (q1 R i2) (q2 R i2) (q3 R i2) (q4 R i2) w1)
              generalize q1 R i2 = C1 at *
              generalize q2 R i2 = C2 at *
              generalize q3 R i2 = C3 at *
              generalize q4 R i2 = C4 at *
              generalize MeetI A1 A2 B1 B2 C1 C2 C3 C4 = K at *
              obtain ⟨⟨x1, x2⟩, ⟨x3, x4⟩, x5⟩ := HBX.out _ NYO.out
              rcases HME.out with hK | hK
              · subst hK
                go_wp2_with (go_at_call 34; refine (HMC.out _).mono ?_; rintro e w3 ⟨rfl, hn3⟩; have N3 := Lib.hid (New.trans (by (repeat (first | exact New.refl _ | apply New.alloc | apply New.aft | apply New.drew | refine New.setCell ?_ ?_ _)); all_goals (first | done | (simp [size_aft]; done) | (simp [size_aft]; omega))) hn3 : New wy w3); clear hn3)
                go_roundw
                case rel => exact ⟨i2 + 1, by omega, by go_num, NY.out.trans N3.out⟩
                case measure => simp [intOf]; omega
              · subst hK
                go_wp2_with (go_at_call 34; refine (HMC.out _).mono ?_; rintro e w3 ⟨rfl, hn3⟩; have N3 := Lib.hid (New.trans (by (repeat (first | exact New.refl _ | apply New.alloc | apply New.aft | apply New.drew | refine New.setCell ?_ ?_ _)); all_goals (first | done | (simp [size_aft]; done) | (simp [size_aft]; omega))) hn3 : New wy w3); clear hn3)
                go_roundw
                case rel => exact ⟨i2 + 1, by omega, by go_num, NY.out.trans N3.out⟩
                case measure => simp [intOf]; omega
            · have hij2 : ¬ (i2 : Int) < (j : Int) := by omega
              go_wp2_with fail
              go_roundw
              case rel => exact ⟨j + 1, by omega, by go_num, by rw [HSS.out]; congr 1; omega, NX.out.trans (((New.refl _).alloc _).trans (NYO.out.trans (by (repeat (first | exact New.refl _ | apply New.alloc | apply New.aft | apply New.drew | refine New.setCell ?_ ?_ _)); all_goals (first | done | (simp [size_aft]; done) | (simp [size_aft]; omega)))))⟩
              case measure => simp [intOf]; omega
        · have hjm2 : ¬ (j : Int) < (m : Int) := by omega
          have hje : T - sumTo R j = 0 := by rw [show j = m by omega, ← HE.out]; omega
          rw [hje]
          clear hje
          go_wp2_with (go_at_call 31; refine (HL.out _).mono ?_; rintro e w3 ⟨rfl, hn3⟩; have N3 := Lib.hid (NXW.out.trans hn3); clear hn3)
          go_ret
          exact ⟨ret_bool (by simp), N3.out⟩

end Go.Proofs.YtpdfbboagaflhaaGreat

set_option linter.unusedSimpArgs false
set_option linter.unusedVariables false
set_option maxRecDepth 100000
namespace Go.Proofs.YtpdfbboagaflhaaGreat
open Go.RowKit

set_option maxHeartbeats 4000000 in
theorem pieces_none (v : Option Addr) (c : Nat) (w : World) : Calls Tryz.prog 24 #[.slice v 0 c] w fun e w' => e = .returned (.bool true) ∧ New w w' := by
  have HL := Lib.hid alive_c
  have HS := Lib.hid (fun w1 : World => split_nil v c w1)
  go_enter Tryz.func24, Tryz.ntmps24
  go_wp2_with (go_at_call 66; refine (HS.out _).mono ?_; rintro e w1 ⟨rfl, hn⟩; have N1 := Lib.hid hn; clear hn)
  go_loopw [5, 36] (fun s i wr => (s = .int .i64 0 ∧ i = .int .i64 0) ∧ New w1 wr) (fun _ _ _ => 0)
  case atStart => exact ⟨⟨rfl, rfl⟩, New.refl _⟩
  case round =>
    obtain ⟨wo, rfl⟩ : ∃ wo : World, wo = wr := ⟨_, rfl⟩
    obtain ⟨⟨rfl, rfl⟩, hn⟩ := hrel
    have N2 := Lib.hid (N1.out.trans hn)
    clear hn
    go_wp2_with fail
    go_loopw [5, 94] (fun s i wr => (s = .int .i64 0 ∧ i = .int .i64 0) ∧ New wo wr) (fun _ _ _ => 0)
    case atStart => exact ⟨⟨rfl, rfl⟩, New.refl _⟩
    case round =>
      obtain ⟨⟨rfl, rfl⟩, hn⟩ := hrel
      have N3 := Lib.hid (N2.out.trans hn)
      clear hn
      go_wp2_with (go_at_call 31; refine (HL.out _).mono ?_; rintro e w3 ⟨rfl, hn3⟩; have N4 := Lib.hid (N3.out.trans hn3); clear hn3)
      go_ret
      exact ⟨ret_bool (by simp), N4.out⟩
theorem sumTo_all (R : List S4) : sumTo R R.length = sumF R := by rw [sumTo_F R _ (Nat.le_refl _), List.take_length]
theorem planePieces_all (w : World) (av : Option Addr) (n c : Nat) (l : List S4) (hl : l.length = n) (hp : 0 < n → ∃ b off, av = some ⟨b, off, none⟩ ∧ Segs w b off n l) : Calls Tryz.prog 24 #[.slice av n c] w fun e w' => e = .returned (.bool true) ∧ New w w' := by
  by_cases hn : 40 < n
  · exact pieces_long av n c w hn
  · by_cases h0 : 0 < n
    · obtain ⟨b, off, rfl, hw⟩ := hp h0
      by_cases hg : ckSegs l = 0 ∧ RowsFree l l.length l.length
      · obtain ⟨hk, hf⟩ := hg
        have hok := okSegs_ck hk
        have hpos : 0 < (splitL l).length := by
          obtain ⟨i, hi, _⟩ := split_end hok hf (show 0 < l.length by omega) (.inl rfl)
          omega
        have hle : (splitL l).length ≤ 100000 := by
          rw [split_eq hok hf, sortS_length]
          have := partsTo_len l (endsTo l l.length) l.length
          rw [endsTo_length, hl] at this
          have h2 : n * (2 * n + 1) ≤ 40 * (2 * 40 + 1) := Nat.mul_le_mul (by omega) (by omega)
          rw [hl]; omega
        refine pieces_ok b off n c l (splitL l) w (by omega) hw (fun i hi => seg_ok hok (by rw [hl]; exact hi)) (fun i hi => split_okSeg hok hf hi) hle hpos
          (Lib.hid (fun w1 h1 => split_good b off n c l w1 h0 (by omega) (hw.new h1) hk hf)) (fun k hk => ⟨?_, ?_⟩) (fun i j hij hi => ?_) ?_
        · exact split_end hok hf (show k < l.length by rw [hl]; exact hk) (.inl rfl)
        · exact split_end hok hf (show k < l.length by rw [hl]; exact hk) (.inr rfl)
        · have h1 := split_okSeg hok hf hi
          have h2 := split_okSeg hok hf (show j < (splitL l).length by omega)
          have := split_meet hok hf hi (show j < (splitL l).length by omega) (by omega)
          unfold MeetI
          rw [if_pos ⟨h1, h2⟩]
          exact this
        · rw [← hl, sumTo_all, sumTo_all, split_sum hok hf]
      · obtain ⟨E, hE, hc⟩ := split_bad b off n c l (by omega) hg
        have hsw : ∀ w1 : World, New w w1 → Calls Tryz.prog 66 #[.slice (some ⟨b, off, none⟩) n c] w1 fun en w' => en = .returned (.tuple #[.slice none 0 0, .int .i64 E]) ∧ New w1 w' := fun w1 h1 => hc w1 (hw.new h1)
        exact pieces_err (some ⟨b, off, none⟩) n c E w (by omega) hE (Lib.hid hsw)
    · obtain rfl : n = 0 := by omega
      exact pieces_none av c w

end Go.Proofs.YtpdfbboagaflhaaGreat

set_option linter.unusedSimpArgs false
set_option linter.unusedVariables false
set_option linter.constructorNameAsVariable false
namespace Go.Proofs.YtpdfbboagaflhaaGreat
open Go.ChangeShapes Go.WideShapes Go.ChangeAt Go.RowKit Go.Joins
set_option maxRecDepth 100000

theorem jPi_wf : Rows.planePiecesRow.wf (OpenSpec.ofChange Rows.planePiecesSpec) = true := by kernel_rfl
theorem jPi_par : Tryz.f24.params.all (Tryz.prog.readableRec ·) = true := by kernel_rfl
theorem jPi_tie : namedTie Tryz.prog Rows.planePiecesRow.named Rows.planePiecesSpec.vars = true := by kernel_rfl
theorem jPi_st : (Rows.planePiecesRow.stops == []) = true := by kernel_rfl
theorem jPi_kn : (Rows.planePiecesRow.knobs == []) = true := by kernel_rfl
theorem jPi_inp : (Rows.planePiecesRow.inPlace == Tryz.prog.inPlace 24) = true := by kernel_rfl
theorem jPi_unf : (Rows.planePiecesRow.unfollowed == Tryz.prog.unfollowed 24) = true := by kernel_rfl
theorem jPi_rec : (Rows.planePiecesRow.recurses == Tryz.prog.recurses 24) = true := by kernel_rfl
theorem jPi_nam : (Rows.planePiecesRow.named == Tryz.prog.varsNamed 24) = true := by kernel_rfl
theorem jPi_maps : (Rows.planePiecesRow.maps == (Tryz.f24.params.toList ++ Rows.planePiecesSpec.plain.varTypes Tryz.prog).any (Tryz.prog.mapsRec ·)) = true := by kernel_rfl
theorem jPi_ifs : (Rows.planePiecesRow.ifaces == (Tryz.f24.params.toList ++ Rows.planePiecesSpec.plain.varTypes Tryz.prog).any (Tryz.prog.ifacesRec ·)) = true := by kernel_rfl
theorem jPi_mout : (Rows.planePiecesRow.mapsOut == Tryz.prog.mapsAmong Tryz.f24.resultTypes.toList) = true := by kernel_rfl
theorem jPi_loops : (Rows.planePiecesRow.loops == (Tryz.f24.params.toList ++ Rows.planePiecesSpec.plain.varTypes Tryz.prog).any (Tryz.prog.loopsFrom ·)) = true := by kernel_rfl
theorem jPi_wide : (Rows.planePiecesRow.wideKeys == (Tryz.f24.params.toList ++ Rows.planePiecesSpec.plain.varTypes Tryz.prog ++ Tryz.f24.resultTypes.toList).any (Tryz.prog.wideKeysFrom ·)) = true := by kernel_rfl
theorem jPi_vars : Rows.planePiecesSpec.vars.all (Tryz.prog.varReadable ·) = true := by kernel_rfl
theorem jPi_res : Tryz.f24.resultTypes.all (fun t => Tryz.prog.readableRec t && decide (t < Tryz.prog.types.size)) = true := by kernel_rfl
theorem jPi_iout : (Rows.planePiecesRow.ifacesOut == Tryz.f24.resultTypes.toList.any (Tryz.prog.ifacesRec ·)) = true := by kernel_rfl
theorem jPi_lout : (Rows.planePiecesRow.loopsOut == Tryz.f24.resultTypes.toList.any (Tryz.prog.loopsFrom ·)) = true := by kernel_rfl
theorem jPi_plain : (Rows.planePiecesRow.plainKeys == Tryz.prog.plainKeys) = true := by kernel_rfl
theorem jPi_short : Rows.planePiecesRow.shortTexts.isNone = true := by kernel_rfl
theorem jPi_lift0 : (Rows.planePiecesRow.lifted == false) = true := by kernel_rfl
theorem jPi_lift : (Rows.planePiecesRow.lifted == Tryz.prog.liftsFinal) = true := (congrArg (fun b => (Rows.planePiecesRow.lifted == b)) lift_is).trans jPi_lift0
theorem jPi_make0 : (some Make.cut == some Rows.planePiecesRow.make) = true := by kernel_rfl
theorem jPi_make : (Tryz.prog.make == some Rows.planePiecesRow.make) = true := (congrArg (fun b => (b == some Rows.planePiecesRow.make)) make_is).trans jPi_make0
theorem jPi_kinds : (Rows.planePiecesRow.kinds == (if Rows.planePiecesRow.domain.isEmpty then [] else Tryz.f24.params.toList.map fun t => match Tryz.prog.underlying t with | some (.int k) => some k | _ => none)) = true := by kernel_rfl
theorem jPi_pin : (Rows.planePiecesRow.pinned == Rows.planePiecesRow.pinnedBy) = true := by kernel_rfl
theorem jPi_veil : (Rows.planePiecesRow.veiled == (Tryz.f24.params.toList ++ Rows.planePiecesSpec.plain.varTypes Tryz.prog ++ Tryz.f24.resultTypes.toList).any (Tryz.prog.veiledRec ·)) = true := by kernel_rfl
theorem jPi_vfit : Rows.planePiecesRow.veiledFits Tryz.prog Tryz.f24.params.toList (Tryz.f24.params.toList ++ Rows.planePiecesSpec.plain.varTypes Tryz.prog ++ Tryz.f24.resultTypes.toList) = true := by kernel_rfl
theorem jPi_closed : joinedFacts Tryz.prog 24 Tryz.f24 Rows.planePiecesSpec Rows.planePiecesRow = true := (b_and (b_and (b_and (b_and (b_and (b_and (b_and (b_and (b_and (b_and (b_and (b_and (b_and (b_and (b_and (b_and (b_and (b_and (b_and (b_and (b_and (b_and (b_and (b_and (b_and (b_and (b_and (b_and (b_and (b_and (b_and jPi_wf jp_laid) jp_rowed) jPi_par) jPi_tie) jPi_st) jp_stops) jPi_kn) jp_knobs) jPi_inp) jPi_unf) jPi_rec) jPi_nam) jPi_maps) jPi_ifs) jPi_mout) jPi_loops) jPi_wide) jPi_vars) jPi_res) jPi_iout) jPi_lout) jPi_plain) jPi_short) jp_heard) jp_enter) jPi_lift) jPi_make) jPi_kinds) jPi_pin) jPi_veil) jPi_vfit)
theorem jPi_name : Tryz.prog.funcNamed Rows.planePiecesRow.func = some 24 := by kernel_rfl
theorem jPi_inst : Tryz.f24.isInstance Tryz.prog Rows.planePiecesRow.origin Rows.planePiecesRow.targs := of_decide_eq_true (by kernel_rfl)
theorem jPi_wrap : Tryz.f24.isWrapper Tryz.prog Rows.planePiecesRow.wrapper Rows.planePiecesRow.mainSum := by unfold Func.isWrapper; rw [if_neg (by decide +kernel)]; exact ⟨rfl, rfl⟩

set_option maxHeartbeats 2000000 in
theorem jPi_lifted (os : Os) (started : os.Started) (H : Type) (enc : TypeId × Value → H) :
    ReturnsInHanded {} Tryz.checked os 24 .any (Rows.planePiecesSpec.pre6 enc Tryz.prog Tryz.f24 Rows.planePiecesRow.domain false) (Rows.planePiecesSpec.post enc Tryz.prog Tryz.f24 false true false false) := by
  refine returnsInHanded_of_change (C := Tryz.checked) own_knob started (by kernel_rfl) Tryz.func24
    (ChangeSpec.witness6 (enc := enc) (C := Tryz.checked) false ⟨#[], #[.slice none 0 0], []⟩ 8 (by kernel_rfl) (by kernel_rfl) (by kernel_rfl) (by kernel_rfl)) ?_
  intro W base args ds gs before hval0 hW hcnd _
  have hval : ∀ (j : Nat) t v, Tryz.f24.params[j]? = some t → args[j]? = some v → Value.okWide Tryz.prog W .any base t v := hval0
  have hW' := hW
  obtain ⟨p, q, hA0, hV, rfl, hfz, hnd⟩ := hW
  have hA : DataW.TrodAll enc Tryz.prog W 0 (fun _ => true) true Tryz.f24.params.toList args.toList ds p := hA0
  rw [Tryz.params24] at hA hval
  obtain ⟨v0, vs0, d0, ds0, p0, q0, hargs, rfl, rfl, h0, r0⟩ := trodAll_cons hA
  obtain ⟨rfl, rfl, rfl⟩ := trodAll_nil r0
  obtain rfl : args = #[v0] := by cases args; simp_all
  obtain ⟨rfl, rfl⟩ := trodVars_none hV
  have hlt : ∀ x ∈ p0, x.block < W.heap.size := fun x hx => hW'.lt x (by simpa using hx)
  have g0 := h0
  obtain ⟨av0, n0, cap0, l0, rfl, hl0, hp0⟩ := open_segs (hval 0 58 v0 rfl rfl) h0
  clear hA0 hval0 hval
  refine (planePieces_all W av0 n0 cap0 l0 hl0 hp0).mono fun e W' ⟨he, hg⟩ => ?_
  subst he
  have t0 := Below.trod laidOut (by kernel_rfl) (of_decide_eq_true (by kernel_rfl)) g0 hg.below (fun x hx => hlt x (by simp [hx]))
  exact ⟨_, rfl, _, _, _, _, _, _, hW', trodAll_cons_mk (shut_bool Tryz.underlying4 _) trodAll_mk0, trodAll_cons_mk t0 trodAll_mk0, rfl, hg.below.frame _, fun h => by cases h⟩

/-- PlanePieces, as it is given -/
theorem planePieces_proved : Rows.PlanePiecesSaid :=
  OpenClaim.holds_of_wide 24 Tryz.f24 rfl rfl rfl rfl rfl rfl rfl ⟨rfl, rfl, rfl, rfl, rfl⟩ rfl rfl rfl rfl rfl jPi_name Tryz.func24 jPi_closed jPi_inst jPi_wrap
    (fun os started H enc _ => jPi_lifted os started H enc)

end Go.Proofs.YtpdfbboagaflhaaGreat
