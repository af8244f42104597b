/- Whether points come twice, as repeats returns it. At most 1000000 points. -/
import Derived.Test.YtpdfbboagaflhaaGreatM12
import Derived.Maps.Own
import Derived.Maps.OwnSet
import Derived.Maps.Views
import Derived.DeepKeys5
import Derived.Deep.RegionHeld3
import Derived.BigRegion
import Derived.LoopTactic

namespace Go.Proofs.YtpdfbboagaflhaaGreat
open Go.RowKit

open Go.Maps
def ptLit (x y : Int) : Lit := .string (keyBytes [.int .i64 x, .int .i64 y])
theorem laidOut : laidOutB Tryz.prog = true := by kernel_rfl
theorem key23 : Tryz.prog.keyType 23 = true := by kernel_rfl
theorem keyed23 : Keyed Tryz.prog 23 := Keyed.of_law (deep_law_gate laidOut (of_decide_eq_true (by kernel_rfl)) (k := 23) (of_decide_eq_true (by kernel_rfl)) (by kernel_rfl) (by kernel_rfl))
theorem types_succ : ∃ m, Tryz.prog.types.size = m + 2 := ⟨237, by kernel_rfl⟩
theorem keyOf_pt (x y : Int) (hx : (Lit.int .i64 x).wf = true) (hy : (Lit.int .i64 y).wf = true) : keyOf Tryz.prog 23 (.agg #[.int .i64 x, .int .i64 y]) = some (ptLit x y) := by
  obtain ⟨m, hm⟩ := types_succ
  have c23 : Tryz.prog.cellsOf 23 = 2 := by kernel_rfl
  have c3 : Tryz.prog.cellsOf 3 = 1 := by kernel_rfl
  unfold keyOf
  simp only [Tryz.underlying23]
  rw [if_pos (by simp [key23, Value.formed, Tryz.underlying23, c23]), hm]
  simp [Program.keyLits, Tryz.underlying23, Tryz.underlying3, Value.cells, c23, c3, hx, hy, ptLit]
def keysTo (l : List P2) (k : Nat) : List Lit := (List.range k).map fun i => ptLit (px l i) (py l i)
theorem keysTo_succ (l : List P2) (k : Nat) : keysTo l (k + 1) = keysTo l k ++ [ptLit (px l k) (py l k)] := by simp [keysTo, List.range_succ]
/-- whether a point comes twice -/
def repI (l : List P2) : Bool := decide (((keysTo l l.length).foldl addKey []).length < l.length)

set_option maxHeartbeats 4000000 in
theorem repeats_c (b off n c : Nat) (l : List P2) (w : World) (hl : n ≤ 1000000) (hw : Pts w b off n l) (hok : okL l = true) :
    Calls Tryz.prog 106 #[.slice (some ⟨b, off, none⟩) n c] w fun en w' => en = .returned (.bool (repI l)) ∧ New w w' := by
  have HN := Lib.hid hw.1
  have HB := Lib.hid (okL_bd hok)
  obtain ⟨hwl, hb, hcell⟩ := hw
  clear hwl
  have hmm := @run_makeMap Tryz.prog
  go_enter Tryz.func106, Tryz.ntmps106
  go_wp2_with fail
  go_loopw [9] (fun i wr => ∃ k : Nat, k ≤ n ∧ i = .int .i64 k ∧ wr.ownsMap Tryz.prog 23 (plainElem (H := Unit) Tryz.prog 4) w.heap.size k (setOf (.lit (.bool true)) (keysTo l k)) ∧ New w wr) (fun i _ => n - (intOf i).toNat)
  case atStart => exact ⟨0, Nat.zero_le _, rfl, World.ownsMap_made _ _ _ _, (New.refl _).alloc _⟩
  case round =>
    obtain ⟨k, hk, rfl, hown, pr, rfl⟩ := hrel
    have HO := Lib.hid hown
    clear hown
    by_cases hlt : k < n
    · obtain ⟨c1, c2⟩ := hcell k hlt
      have hbd := HB.out k
      go_wp2_with (at_mapUpdate; refine wpList_mapUpdate_own _ rfl _ _ _ 157 rfl 23 4 keyed23 Tryz.underlying157 _ w.heap.size k _ rfl (HO.out.alloc _) (by unfold maxLen; omega) _ _ _ rfl rfl (keyOf_pt (px l k) (py l k) (WalkArith.wf_i64 (by omega)) (WalkArith.wf_i64 (by omega))) _ [] (plainElem_bool Tryz.underlying4 true) ?_; intro w2 hown2 hgrow2; have HO2 := Lib.hid hown2; have HG2 := Lib.hid hgrow2; clear hown2 hgrow2)
      go_roundw
      case rel => exact ⟨k + 1, by omega, by go_num, by rw [keysTo_succ, setOf_snoc]; exact HO2.out, .of_below ((((New.refl w).aft pr.d pr.os).alloc _).below.grown HG2.out (by rw [World.size_alloc, size_aft]; omega) (fun j hj => by cases hj; exact Nat.le_refl _))⟩
      case measure => simp [intOf]; omega
    · have hkn : k = n := by omega
      have hsz : Maps.size (setOf (H := Unit) (.lit (.bool true)) (keysTo l k)) = ((keysTo l k).foldl addKey []).length := size_setOf _ _ (fun x hx => by
        simp only [keysTo, List.mem_map] at hx
        obtain ⟨i, _, rfl⟩ := hx
        trivial)
      have hrep : repI l = decide (((Maps.size (setOf (H := Unit) (.lit (.bool true)) (keysTo l k)) : Nat) : Int) < (n : Int)) := by
        rw [hsz, repI, HN.out, hkn]; simp
      have HR := Lib.hid hrep
      clear hrep hsz hkn
      generalize hD : setOf (H := Unit) (.lit (.bool true)) (keysTo l k) = D at *
      generalize hS : Maps.size D = S at *
      have HS := Lib.hid hS
      clear hS hD
      go_wp2_with (at_len; refine wpList_len_own _ rfl _ 157 rfl 23 4 Tryz.underlying157 _ w.heap.size k D rfl HO.out ?_; rw [HS.out])
      go_ret
      exact ⟨ret_bool (by rw [HR.out]; simp), by (repeat (first | exact New.refl _ | apply New.alloc | apply New.aft | apply New.drew | refine New.setCell ?_ ?_ _)); all_goals (first | done | (simp [size_aft]; done) | (simp [size_aft]; omega))⟩

end Go.Proofs.YtpdfbboagaflhaaGreat
