/- What checkPoints returns. At most 1000000000 points. -/
import Derived.Test.YtpdfbboagaflhaaGreatM06
import Derived.Test.YtpdfbboagaflhaaGreatM07
import Derived.Deep.RegionHeld3
import Derived.BigRegion
import Derived.LoopTactic

namespace Go.Proofs.YtpdfbboagaflhaaGreat
open Go.RowKit

abbrev P2 := Int × Int
def px (l : List P2) (i : Nat) : Int := (l.getD i (0, 0)).1
def py (l : List P2) (i : Nat) : Int := (l.getD i (0, 0)).2
/-- a slice of points: its numbers lie in the cells of the block b from off on -/
def Pts (w : World) (b off n : Nat) (l : List P2) : Prop := l.length = n ∧ b < w.heap.size ∧ ∀ i, i < n → w.cell? ⟨b, off + i * 2, none⟩ = some (.int .i64 (px l i)) ∧ w.cell? ⟨b, off + i * 2 + 1, none⟩ = some (.int .i64 (py l i))
def okL (l : List P2) : Bool := l.all fun p => okP p.1 p.2
def ckPts (l : List P2) (most : Int) : Int := if most < l.length then 2 else if okL l then 0 else 1
theorem take_snoc (l : List P2) (k : Nat) (h : k < l.length) : l.take (k + 1) = l.take k ++ [(px l k, py l k)] := by
  rw [List.take_succ_eq_append_getElem h]; simp only [px, py, List.getD_eq_getElem?_getD, List.getElem?_eq_getElem h, Option.getD_some]
theorem okL_snoc (l : List P2) (k : Nat) (h : k < l.length) : okL (l.take (k + 1)) = (okL (l.take k) && okP (px l k) (py l k)) := by
  rw [take_snoc l k h]; simp [okL]
theorem okL_not (l : List P2) (k : Nat) (h : k < l.length) (hk : okP (px l k) (py l k) = false) : okL l = false := by
  rw [Bool.eq_false_iff]
  intro hh
  have h1 := List.all_eq_true.1 hh (l[k]) (List.getElem_mem h)
  simp [px, py, List.getD_eq_getElem?_getD, h] at hk
  simp [hk] at h1
theorem okL_at (l : List P2) (k : Nat) (h : k < l.length) (hh : okL l = true) : okP (px l k) (py l k) = true := by
  cases e : okP (px l k) (py l k)
  · rw [okL_not l k h e] at hh; cases hh
  · rfl

set_option maxHeartbeats 4000000 in
theorem checkPoints_c (b off n c : Nat) (l : List P2) (most : Int) (w : World) (hl : n ≤ 1000000000) (hw : Pts w b off n l) :
    Calls Tryz.prog 84 #[.slice (some ⟨b, off, none⟩) n c, .int .i64 most] w fun en w' => en = .returned (.int .i64 (ckPts l most)) ∧ New w w' := by
  obtain ⟨hn, hb, hcell⟩ := hw
  have HN := Lib.hid hn
  clear hn
  by_cases hm : most < (n : Int)
  · rw [show ckPts l most = 2 from if_pos (by rw [HN.out]; exact hm)]
    go_enter Tryz.func84, Tryz.ntmps84
    go_wp2_with fail
    all_goals (go_ret; refine ⟨rfl, ?_⟩; (repeat (first | exact New.refl _ | apply New.alloc | apply New.aft | apply New.drew | refine New.setCell ?_ ?_ _)); all_goals (first | done | (simp [size_aft]; done) | (simp [size_aft]; omega)))
  · go_enter Tryz.func84, Tryz.ntmps84
    go_wp2_with fail
    go_loopw [13] (fun i wr => ∃ k : Nat, k ≤ n ∧ i = .int .i64 k ∧ okL (l.take k) = true ∧ New w wr) (fun i _ => n - (intOf i).toNat)
    case atStart => exact ⟨0, Nat.zero_le _, rfl, by simp [okL], New.refl w⟩
    case round =>
      obtain ⟨k, hk, rfl, hok, pr, rfl⟩ := hrel
      have HOK := Lib.hid hok
      clear hok
      by_cases hlt : k < n
      · obtain ⟨c1, c2⟩ := hcell k hlt
        by_cases hv : okP (px l k) (py l k) = true
        · have e1 := okErr_yes hv
          go_wp2_with (go_at_call 29; refine (checkPoint_c _ _ _).mono ?_; rintro e w1 ⟨rfl, pw, rfl⟩)
          go_roundw
          case rel => exact ⟨k + 1, by omega, by go_num, by rw [okL_snoc l k (by rw [HN.out]; exact hlt), HOK.out, hv]; rfl, by (repeat (first | exact New.refl _ | apply New.alloc | apply New.aft | apply New.drew | refine New.setCell ?_ ?_ _)); all_goals (first | done | (simp [size_aft]; done) | (simp [size_aft]; omega))⟩
          case measure => simp [intOf]; omega
        · have e1 := okErr_no (by simpa using hv)
          go_wp2_with (go_at_call 29; refine (checkPoint_c _ _ _).mono ?_; rintro e w1 ⟨rfl, pw, rfl⟩)
          go_ret
          refine ⟨ret_int ?_, ?_⟩
          · rw [ckPts, if_neg (by rw [HN.out]; exact Int.not_lt.2 hm), okL_not l k (by rw [HN.out]; exact hlt) (by simpa using hv)]; rfl
          · (repeat (first | exact New.refl _ | apply New.alloc | apply New.aft | apply New.drew | refine New.setCell ?_ ?_ _)); all_goals (first | done | (simp [size_aft]; done) | (simp [size_aft]; omega))
      · go_wp2_with fail
        go_ret
        refine ⟨ret_int ?_, ?_⟩
        · have h1 : okL l = true := by
            have := HOK.out
            rwa [List.take_of_length_le (by rw [HN.out]; omega)] at this
          rw [ckPts, if_neg (by rw [HN.out]; exact Int.not_lt.2 hm), h1]; rfl
        · (repeat (first | exact New.refl _ | apply New.alloc | apply New.aft | apply New.drew | refine New.setCell ?_ ?_ _)); all_goals (first | done | (simp [size_aft]; done) | (simp [size_aft]; omega))

end Go.Proofs.YtpdfbboagaflhaaGreat
