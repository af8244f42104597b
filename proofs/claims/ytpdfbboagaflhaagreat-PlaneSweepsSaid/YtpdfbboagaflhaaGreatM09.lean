/- What edges returns: the segments from each point to the next one. From one to 1000000 points. -/
import Derived.Test.YtpdfbboagaflhaaGreatM08
import Derived.Deep.RegionHeld3
import Derived.BigRegion
import Derived.LoopTactic
import Derived.Deep.AppendLies
import Derived.Deep.RegionLaw

namespace Go.Proofs.YtpdfbboagaflhaaGreat
open Go.RowKit

theorem info30 : (Tryz.prog.info? 30).map (fun i => (i.zero, i.size, i.bytes)) = some (some (.agg #[.int .i64 0, .int .i64 0, .int .i64 0, .int .i64 0]), 4, 32) := by kernel_rfl
theorem info23 : (Tryz.prog.info? 23).map (fun i => (i.zero, i.size, i.bytes)) = some (some (.agg #[.int .i64 0, .int .i64 0]), 2, 16) := by kernel_rfl

abbrev S4 := Int × Int × Int × Int
def segCells (l : List S4) : List Value := l.flatMap fun s => [.int .i64 s.1, .int .i64 s.2.1, .int .i64 s.2.2.1, .int .i64 s.2.2.2]
def edgeAt (l : List P2) (k : Nat) : S4 := (px l k, py l k, px l ((k + 1) % l.length), py l ((k + 1) % l.length))
def edgesTo (l : List P2) (k : Nat) : List S4 := (List.range k).map (edgeAt l)
theorem edgesTo_succ (l : List P2) (k : Nat) : edgesTo l (k + 1) = edgesTo l k ++ [edgeAt l k] := by simp [edgesTo, List.range_succ]
theorem segCells_snoc (l : List S4) (s : S4) : segCells (l ++ [s]) = segCells l ++ [.int .i64 s.1, .int .i64 s.2.1, .int .i64 s.2.2.1, .int .i64 s.2.2.2] := by simp [segCells]

theorem new_grown {w X X0 w2 : World} {e : TypeId} {size n : Nat} {v : Value} {xs : List Value} (hX : New w X) (hg : X.grownBy w2 v.ownBlock) (ho : X0.ownsRow w.heap.size e size v n xs) : New w w2 :=
  .of_below (hX.below.grown hg hX.size (fun k hk => (ho.lt k hk).1))

theorem cells_new (W : World) (cs : List Value) (T : TypeId) (H : Nat) (hH : H = W.heap.size) : ∀ j u, cs[j]? = some u → (W.alloc (.cells cs.toArray T)).cell? ((⟨H, 0, none⟩ : Addr).add j) = some u := by
  intro j u hu
  have hadd : (⟨H, 0, none⟩ : Addr).add j = ⟨H, j, none⟩ := by unfold Addr.add; split <;> simp_all
  rw [hadd, World.cell?_alloc_at _ _ _ _ hH]
  simpa using hu

set_option maxHeartbeats 4000000 in
theorem edges_c (b off n c : Nat) (l : List P2) (w : World) (h0 : 0 < n) (hl : n ≤ 1000000) (hw : Pts w b off n l) :
    Calls Tryz.prog 109 #[.slice (some ⟨b, off, none⟩) n c] w fun en w' => ∃ g cap, en = .returned (.slice (some ⟨g, 0, none⟩) n cap) ∧ w'.ownsRow w.heap.size 30 4 (.slice (some ⟨g, 0, none⟩) n cap) n (segCells (edgesTo l n)) ∧ New w w' := by
  obtain ⟨i0, hi, hz0, hz1, hz2⟩ := info_parts info30
  obtain ⟨hn, hb, hcell⟩ := hw
  have HN := Lib.hid hn
  clear hn
  have hmk : ∀ w : World, (Instr.makeSlice 58 (.int .i64 0) (.int .i64 (n : Int))).run Tryz.prog w = .ok (.slice (some ⟨w.heap.size, 0, none⟩) 0 n) (w.alloc (.cells (madeCells (.agg #[.int .i64 0, .int .i64 0, .int .i64 0, .int .i64 0] : Value).cells (n * 4)) 30)) := by
    intro w
    have := run_make (P := Tryz.prog) w 58 30 i0 _ Tryz.underlying58 hi hz0 .i64 .i64 0 n (by omega) (by omega) (by rw [hz2]; omega) (by omega)
    rw [hz1] at this
    simpa using this
  go_enter Tryz.func109, Tryz.ntmps109
  go_wp2_with fail
  go_loopw [3, 11] (fun v i wr => ∃ k : Nat, k ≤ n ∧ i = .int .i64 k ∧ wr.ownsRow w.heap.size 30 4 v k (segCells (edgesTo l k)) ∧ New w wr) (fun _ i _ => n - (intOf i).toNat)
  case atStart => exact ⟨0, Nat.zero_le _, rfl, World.ownsRow_made _ _ _ (Nat.le_refl _) (by unfold maxLen; omega) (by simp [size_madeCells]), (New.refl w).alloc _⟩
  case round =>
    obtain ⟨k, hk, rfl, hown, pr, rfl⟩ := hrel
    have HO := Lib.hid hown
    clear hown
    by_cases hlt : k < n
    · obtain ⟨c1, c2⟩ := hcell k hlt
      by_cases hlast : k + 1 = n
      · obtain ⟨d1, d2⟩ := hcell 0 (by omega)
        simp only [Nat.zero_mul, Nat.add_zero] at d1 d2
        have hr : ((k : Int) + 1).tmod (n : Int) = 0 := by rw [show (k : Int) + 1 = (n : Int) by omega]; exact Int.tmod_self
        have hw1 : IntKind.i64.wrap ((k : Int) + 1) = (k : Int) + 1 := IntWalk.i64_in _ (by omega)
        have hnz : (n = 0) = False := eq_false (by omega)
        have HL := Lib.hid hlast
        clear hlast
        go_wp2_with fail
        go_region_law (first | (refine step_append_lies _ ?_ (.tmp 16) (.tmp 27) 58 ?_ w.heap.size 30 i0 _ 4 32 Tryz.underlying58 hi hz0 hz1 hz2 rfl (by omega) u3 k (segCells (edgesTo l k)) ?_ ?_ ⟨w.heap.size + pr.os.size + 1, 0, none⟩ 1 1 [.int .i64 (px l k), .int .i64 (py l k), .int .i64 (px l 0), .int .i64 (py l 0)] ?_ rfl ?_ ?_ (by omega) ?_ ?_ ?_ _ rfl ?_; exact rfl; exact rfl; exact rfl; exact (HO.out.alloc _).alloc _; exact rfl; (refine cells_new _ _ _ _ ?_); (simp [go_sem]); (intro u hu; simp at hu; rcases hu with rfl | rfl | rfl | rfl <;> rfl); (unfold maxLen; omega); omega; (simp [go_sem, Nat.add_assoc]); intro g cap w2 hown2 hgrow2 hor2 hlt2))
        all_goals
          have hnw : New w w2 := new_grown (by (repeat (first | exact New.refl _ | apply New.alloc | apply New.aft | apply New.drew | refine New.setCell ?_ ?_ _)); all_goals (first | done | (simp [size_aft]; done) | (simp [size_aft]; omega))) hgrow2 HO.out
          have HO2 := Lib.hid hown2
          clear hown2 hgrow2 hor2 hlt2 HO hr hw1 hnz
          obtain ⟨p2, rfl⟩ := hnw
          go_wp2_with fail
          go_roundw
          case rel => exact ⟨k + 1, by omega, by go_num, by rw [edgesTo_succ, segCells_snoc, show edgeAt l k = (px l k, py l k, px l 0, py l 0) by rw [edgeAt, HN.out, HL.out, Nat.mod_self]]; exact HO2.out, New.refl _ |>.aft _ _⟩
          case measure => simp [intOf]; omega
      · obtain ⟨d1, d2⟩ := hcell (k + 1) (by omega)
        have hr : ((k : Int) + 1).tmod (n : Int) = (k : Int) + 1 := Int.tmod_eq_of_lt (by omega) (by omega)
        have hw1 : IntKind.i64.wrap ((k : Int) + 1) = (k : Int) + 1 := IntWalk.i64_in _ (by omega)
        have hnz : (n = 0) = False := eq_false (by omega)
        have hge : (0 : Int) ≤ (k : Int) + 1 := by omega
        have hlt3 : (k : Int) + 1 < (n : Int) := by omega
        have htn : ((k : Int) + 1).toNat = k + 1 := by omega
        go_wp2_with fail
        go_region_law (first | (refine step_append_lies _ ?_ (.tmp 16) (.tmp 27) 58 ?_ w.heap.size 30 i0 _ 4 32 Tryz.underlying58 hi hz0 hz1 hz2 rfl (by omega) u3 k (segCells (edgesTo l k)) ?_ ?_ ⟨w.heap.size + pr.os.size + 1, 0, none⟩ 1 1 [.int .i64 (px l k), .int .i64 (py l k), .int .i64 (px l (k + 1)), .int .i64 (py l (k + 1))] ?_ rfl ?_ ?_ (by omega) ?_ ?_ ?_ _ rfl ?_; exact rfl; exact rfl; exact rfl; exact (HO.out.alloc _).alloc _; exact rfl; (refine cells_new _ _ _ _ ?_); (simp [go_sem]); (intro u hu; simp at hu; rcases hu with rfl | rfl | rfl | rfl <;> rfl); (unfold maxLen; omega); omega; (simp [go_sem, Nat.add_assoc]); intro g cap w2 hown2 hgrow2 hor2 hlt2))
        all_goals
          have hnw : New w w2 := new_grown (by (repeat (first | exact New.refl _ | apply New.alloc | apply New.aft | apply New.drew | refine New.setCell ?_ ?_ _)); all_goals (first | done | (simp [size_aft]; done) | (simp [size_aft]; omega))) hgrow2 HO.out
          have HO2 := Lib.hid hown2
          clear hown2 hgrow2 hor2 hlt2 HO hr hw1 hnz hge hlt3 htn
          obtain ⟨p2, rfl⟩ := hnw
          go_wp2_with fail
          go_roundw
          case rel => exact ⟨k + 1, by omega, by go_num, by rw [edgesTo_succ, segCells_snoc, show edgeAt l k = (px l k, py l k, px l (k + 1), py l (k + 1)) by rw [edgeAt, HN.out, Nat.mod_eq_of_lt (by omega)]]; exact HO2.out, New.refl _ |>.aft _ _⟩
          case measure => simp [intOf]; omega
    · go_wp2_with fail
      obtain rfl : k = n := by omega
      have HO3 := HO.out
      rcases HO3.2 with ⟨_, hk0⟩ | ⟨g, cap, cur, rfl, hg⟩
      · exact absurd hk0 (by omega)
      · go_ret
        exact ⟨g, cap, rfl, HO3, (New.refl _).aft _ _⟩

end Go.Proofs.YtpdfbboagaflhaaGreat
