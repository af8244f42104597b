/- The parts of a segment between points on it: what pieces computes. -/
import Derived.Test.YtpdfbboagaflhaaGreatM27
import Derived.Test.YtpdfbboagaflhaaGreatM28
import Derived.Test.YtpdfbboagaflhaaGreatM29
import Derived.Test.YtpdfbboagaflhaaGreatM06
import Derived.Test.YtpdfbboagaflhaaGreatM24
import Derived.RangeFuncNested
import Derived.RangeFuncBound
import Derived.RangeFuncCalls
import Derived.RangeFuncLeaves
import Derived.Shelf.Abstract
import Derived.Shelf.RegionOpen
import Derived.OwnWalkIn
import Derived.TacticsInMore
import Derived.LoopNIn
import Derived.LoopIn

namespace Go.Proofs.YtpdfbboagaflhaaGreat
open Go.RowKit

theorem own_base {w : World} {base base' : Nat} {e : TypeId} {size n : Nat} {v : Value} {xs : List Value} (h : w.ownsRow base e size v n xs) (hb : base' ≤ base) : w.ownsRow base' e size v n xs :=
  ⟨h.1, h.2.imp (fun h => h) fun ⟨x1, x2, x3, x4, x5, x6⟩ => ⟨x1, x2, x3, x4, Nat.le_trans hb x5, x6⟩⟩
/-- the ends of a segment, and the first k points that are on it -/
def cutsTo (l : List P2) (a b c d : Int) : Nat → List P2
  | 0 => [(a, b), (c, d)]
  | k + 1 => if onB (px l k) (py l k) a b c d then cutsTo l a b c d k ++ [(px l k, py l k)] else cutsTo l a b c d k
theorem cutsTo_le (l : List P2) (a b c d : Int) : ∀ k, 2 ≤ (cutsTo l a b c d k).length ∧ (cutsTo l a b c d k).length ≤ k + 2
  | 0 => by simp [cutsTo]
  | k + 1 => by have := cutsTo_le l a b c d k; simp only [cutsTo]; split; (simp; omega); omega
def cutsL (l : List P2) (a b c d : Int) : List P2 := ddTo (sortP (cutsTo l a b c d l.length)) (cutsTo l a b c d l.length).length
theorem ddTo_pos (l : List P2) : ∀ k, 0 < (ddTo l (k + 1)).length
  | 0 => by simp [ddTo]
  | k + 1 => by
    have := ddTo_pos l k
    rw [show ddTo l (k + 1 + 1) = if k + 1 = 0 ∨ same l (k + 1) k = false then ddTo l (k + 1) ++ [(px l (k + 1), py l (k + 1))] else ddTo l (k + 1) from rfl]
    split
    · simp
    · exact this
theorem cutsL_le (l : List P2) (a b c d : Int) : 1 ≤ (cutsL l a b c d).length ∧ (cutsL l a b c d).length ≤ l.length + 2 := by
  have h := cutsTo_le l a b c d l.length
  have h2 := ddTo_le (sortP (cutsTo l a b c d l.length)) (cutsTo l a b c d l.length).length
  refine ⟨?_, by unfold cutsL; omega⟩
  unfold cutsL
  obtain ⟨k, hk⟩ : ∃ k, (cutsTo l a b c d l.length).length = k + 1 := ⟨_, (show (cutsTo l a b c d l.length).length = (cutsTo l a b c d l.length).length - 1 + 1 by omega)⟩
  rw [hk]
  exact ddTo_pos _ k
/-- the first k segments between neighbours of a list -/
def pairsTo (l : List P2) (k : Nat) : List S4 := (List.range k).map fun i => (px l i, py l i, px l (i + 1), py l (i + 1))
theorem pairsTo_succ (l : List P2) (k : Nat) : pairsTo l (k + 1) = pairsTo l k ++ [(px l k, py l k, px l (k + 1), py l (k + 1))] := by simp [pairsTo, List.range_succ]
theorem pairsTo_length (l : List P2) (k : Nat) : (pairsTo l k).length = k := by simp [pairsTo]
def piecesL (l : List P2) (a b c d : Int) : List S4 := pairsTo (cutsL l a b c d) ((cutsL l a b c d).length - 1)

end Go.Proofs.YtpdfbboagaflhaaGreat

/- The strips between the X of the ends of segments, one after the other, as the closure of strips hands them to a loop's body. From one to 400 segments. -/
namespace Go.Proofs.YtpdfbboagaflhaaGreat
open Go.RowKit Go.Shelf

attribute [local go_sem] Oper.semAt_some

def xAt (l : List S4) (k : Nat) : Int := (endXsL l).getD k 0
theorem own_same {w w' : World} {base : Nat} {e : TypeId} {size g cap n : Nat} {xs : List Value} (h : w.ownsRow base e size (.slice (some ⟨g, 0, none⟩) n cap) n xs) (hh : w'.heap[g]? = w.heap[g]?) : w'.ownsRow base e size (.slice (some ⟨g, 0, none⟩) n cap) n xs := by
  obtain ⟨cur, h1, h2, h3, h4, h5, h6⟩ := own_parts h
  exact own_mk h.1 h1 (hh.trans h2) h3 h4 h5 h6
theorem own_slice {w : World} {base : Nat} {e : TypeId} {size n : Nat} {v : Value} {xs : List Value} (h : w.ownsRow base e size v n xs) : ∃ a c, v = .slice a n c := by
  rcases h.2 with ⟨h1, h2⟩ | ⟨g, cap, cur, h1, _⟩
  · exact ⟨none, 0, by rw [h1, h2]⟩
  · exact ⟨_, _, h1⟩
theorem size_drew' (w : World) : w.drew.heap.size = w.heap.size := rfl
theorem cell_same {w w' : World} {b o : Nat} (hh : w'.heap[b]? = w.heap[b]?) : w'.cell? ⟨b, o, none⟩ = w.cell? ⟨b, o, none⟩ := by simp [World.cell?, hh]
theorem inCells_at (l : List Int) (k : Nat) (h : k < l.length) : (inCells l)[k]? = some (.int .i64 (l.getD k 0)) := by
  simp [inCells, List.getElem?_map, List.getElem?_eq_getElem h, List.getD_eq_getElem?_getD]

/-- two blocks lie as they lay -/
def Keep2 (s b : Nat) (W W' : World) : Prop := W.heap.size ≤ W'.heap.size ∧ W'.heap[s]? = W.heap[s]? ∧ W'.heap[b]? = W.heap[b]?
theorem Keep2.refl (s b : Nat) (W : World) : Keep2 s b W W := ⟨Nat.le_refl _, rfl, rfl⟩
theorem Keep2.trans {s b : Nat} {X Y Z : World} (h : Keep2 s b X Y) (k : Keep2 s b Y Z) : Keep2 s b X Z := ⟨Nat.le_trans h.1 k.1, k.2.1.trans h.2.1, k.2.2.trans h.2.2⟩
theorem Keep2.new {s b : Nat} {X Y : World} (h : New X Y) (hs : s < X.heap.size) (hb : b < X.heap.size) : Keep2 s b X Y := by
  obtain ⟨_, _, _, h4, h5⟩ := h.below
  exact ⟨h4, h5 s hs, h5 b hb⟩
/-- what a round may not turn: the two blocks, and the block p -/
def Spares (s b p : Nat) (W W' : World) : Prop := Keep2 s b W W' ∧ W'.heap[p]? = W.heap[p]?

set_option maxRecDepth 100000 in
set_option maxHeartbeats 8000000 in
theorem strips1_in (n : Nat) (hn : 1 ≤ n) (lp Bs b off m cp : Nat) (l : List S4) (hm0 : 0 < m) (hm : m ≤ 400) (J : Nat → Nat → World → Prop) (W : World) (hBs : W.cell? ⟨Bs, 0, none⟩ = some (.slice (some ⟨b, off, none⟩) m cp)) (hBs0 : Bs < W.heap.size) (hw : Segs W b off m l)
    (h0 : ∀ p W', New W W' → W.heap.size ≤ p → p < W'.heap.size → J p 0 W')
    (hY : ∀ p k v W0 W1, J p k W0 → p < W0.heap.size → New W0 W1 → k + 1 < (endXsL l).length → W1.ownsRow W0.heap.size 3 1 v (spanTo l (xAt l k) (xAt l (k + 1)) m).length (inCells (spanTo l (xAt l k) (xAt l (k + 1)) m)) →
      YieldAt Fence.wide (n - 1) Tryz.prog lp #[.agg #[.int .i64 (xAt l k), .int .i64 (xAt l (k + 1)), v]] W1 fun e W' => e = .returned (.bool true) ∧ J p (k + 1) W' ∧ Spares Bs b p W1 W') :
    CallsIn Fence.wide n Tryz.prog 179 #[.func (.yield lp) #[] #[], .pointer (some ⟨Bs, 0, none⟩)] W fun e W' => (∃ v, e = .returned v) ∧ ∃ p W0, J p ((endXsL l).length - 1) W0 ∧ New W0 W' := by
  have HW := Lib.hid hw
  have HEX := Lib.hid (fun (w1 : World) (h1 : Segs w1 b off m l) => (callsIn_wide (n := n - 1)).2 (endXs_c b off m cp l w1 hm0 hm h1))
  refine callsIn_of_wp Tryz.func179 rfl trivial ?_ rfl
  simp only [Tryz.ntmps179, List.size_toArray, List.length_cons, List.length_nil, Nat.reduceAdd, Nat.reduceSub, Array.replicate_succ, Array.replicate_zero, List.push_toArray, List.append_toArray, List.nil_append, List.cons_append]
  gi_wp2_with (refine ⟨trivial, ?_⟩; gi_at_call 180; refine (HEX.out _ HW.out).mono ?_; rintro e w2 ⟨gx, cx, rfl, hox, hnx⟩; have HOX := Lib.hid hox; have HNX := Lib.hid hnx; clear hox hnx)
  have HY := Lib.hid hY
  have hgx := (HOX.out.lt gx rfl)
  have hb2 := HNX.out.size
  have HJ0 := Lib.hid (h0 gx w2 HNX.out hgx.1 hgx.2)
  clear hY h0
  have hMb : (endXsL l).length ≤ 800 := by
    have h1 := compact_le (sortI (xsTo l l.length))
    rw [sortI_length, xsTo_length, HW.out.1] at h1
    unfold endXsL
    rw [HW.out.1]
    omega
  generalize hM : (endXsL l).length = M at *
  have HM := Lib.hid hM
  clear hM
  gi_loopw [4] (fun i wr => ∃ (k : Nat) (W0 : World), 1 ≤ k ∧ k - 1 ≤ M - 1 ∧ i = .int .i64 k ∧ J gx (k - 1) W0 ∧ gx < W0.heap.size ∧ New W0 wr ∧ Keep2 Bs b W wr ∧ wr.ownsRow W.heap.size 3 1 (.slice (some ⟨gx, 0, none⟩) M cx) M (inCells (endXsL l)))
    (fun i _ => M - (intOf i).toNat)
  case atStart => exact ⟨1, w2, Nat.le_refl _, Nat.zero_le _, rfl, HJ0.out, hgx.2, New.refl _, Keep2.new HNX.out hBs0 HW.out.2.1, HOX.out⟩
  case round =>
    obtain ⟨i, W0, hi1, hiM, rfl, hJ, hgx0, hnw, hbw, hown⟩ := hrel
    have HJ := Lib.hid hJ
    have HNW := Lib.hid hnw
    have HBW := Lib.hid hbw
    have HOWN := Lib.hid hown
    clear hJ hnw hbw hown
    by_cases hlt : i < M
    · have c1 := (own_cell HOWN.out (inCells_at _ (i - 1) (by rw [HM.out]; omega))).1
      have c2 := (own_cell HOWN.out (inCells_at _ i (by rw [HM.out]; omega))).1
      have hbox : wr.cell? ⟨Bs, 0, none⟩ = some (.slice (some ⟨b, off, none⟩) m cp) := (cell_same HBW.out.2.1).trans hBs
      have HX1 := Lib.hid (show (endXsL l).getD (i - 1) 0 = xAt l (i - 1) from rfl)
      have HX2 := Lib.hid (show (endXsL l).getD i 0 = xAt l (i - 1 + 1) by rw [show i - 1 + 1 = i by omega]; rfl)
      rw [HX1.out] at c1
      rw [HX2.out] at c2
      have HYi := Lib.hid (fun v W1 h1 h2 => HY.out gx (i - 1) v W0 W1 HJ.out hgx0 h1 (by omega) h2)
      have HSEG := Lib.hid (show ∀ w9 : World, New wr w9 → Segs w9 b off m l from fun w9 h9 => by
        obtain ⟨a1, a2, a3⟩ := HW.out
        have hbl : b < wr.heap.size := Nat.lt_of_lt_of_le a2 HBW.out.1
        have hb9 := HBW.out.trans (Keep2.new h9 (Nat.lt_of_lt_of_le hBs0 HBW.out.1) hbl)
        exact ⟨a1, Nat.lt_of_lt_of_le a2 hb9.1, fun j hj => by
          obtain ⟨e1, e2, e3, e4⟩ := a3 j hj
          exact ⟨(cell_same hb9.2.2).trans e1, (cell_same hb9.2.2).trans e2, (cell_same hb9.2.2).trans e3, (cell_same hb9.2.2).trans e4⟩⟩)
      generalize xAt l (i - 1) = X1 at *
      generalize xAt l (i - 1 + 1) = X2 at *
      have HSP := Lib.hid (fun (w9 : World) (h9 : New wr w9) => (callsIn_wide (n := n - 1)).2 (spanning_c b off m cp l X1 X2 w9 (by omega) (HSEG.out w9 h9)))
      have hw1 : IntKind.i64.wrap ((i : Int) - 1) = (i : Int) - 1 := by rw [IntKind.wrap_i64]; omega
      have ht1 : (1 : Int) ≤ (i : Int) := by omega
      have hp1 : (0 : Int) ≤ (i : Int) - 1 := by omega
      have hq1 : ((i : Int) - 1).toNat = i - 1 := by omega
      have hl1 : (i : Int) - 1 < (M : Int) := by omega
      gi_wp2
      gi_region
      gi_wp2_with (refine ⟨trivial, ?_⟩; gi_at_call 181; refine (HSP.out _ ((New.refl _).drew)).mono ?_; rintro e w3 ⟨v, rfl, ho3, hn3⟩; obtain ⟨av, cv, rfl⟩ := own_slice ho3; obtain ⟨fn, tmps, assign, body, hy, hR⟩ := HYi.out _ w3 ((HNW.out.drew).trans hn3) (own_base ho3 (by have := HNW.out.size; simp; omega)); have HO3 := Lib.hid ho3; have HN3 := Lib.hid hn3; have HR := Lib.hid hR; clear ho3 hn3 hR)
      refine HR.out.mono ?_
      rintro e W3 ⟨rfl, hJ3, hk3⟩
      have HJ3 := Lib.hid hJ3
      have HK3 := Lib.hid hk3
      clear hJ3 hk3
      have hs3 := HK3.out.1.1
      have hs4 := HN3.out.size
      have hs5 := HNW.out.size
      simp only [size_drew'] at hs4
      gi_wp2
      go_roundw
      case rel => exact ⟨i + 1, W3, by omega, by omega, by go_num, by have := HJ3.out; rwa [show i - 1 + 1 = i by omega] at this, by have := HK3.out.1.1; omega, New.refl _, (HBW.out.trans (Keep2.new (((New.refl wr).drew).trans HN3.out) (Nat.lt_of_lt_of_le hBs0 HBW.out.1) (Nat.lt_of_lt_of_le HW.out.2.1 HBW.out.1))).trans HK3.out.1, own_same (own_new HOWN.out (((New.refl _).drew).trans HN3.out)) HK3.out.2⟩
      case measure => simp [intOf]; omega
    · have hiM2 : i - 1 = M - 1 := by omega
      gi_wp2
      go_end0
      exact ⟨⟨_, rfl⟩, gx, W0, by rw [HM.out, ← hiM2]; exact HJ.out, HNW.out⟩

end Go.Proofs.YtpdfbboagaflhaaGreat
