/- The corners that are not straight, as bends returns them. At most 1000000 points. -/
import Derived.Test.YtpdfbboagaflhaaGreatM15
import Derived.Test.YtpdfbboagaflhaaGreatM20
import Derived.Deep.RegionHeld3
import Derived.BigRegion
import Derived.LoopTactic
import Derived.Deep.AppendLies
import Derived.Deep.RegionLaw

namespace Go.Proofs.YtpdfbboagaflhaaGreat
open Go.RowKit

theorem own_new {X W : World} {base e size n : Nat} {v : Value} {xs : List Value} (h : X.ownsRow base e size v n xs) (hn : New X W) : W.ownsRow base e size v n xs := by
  obtain ⟨h1, h2, h3, h4, h5⟩ := hn.below
  exact h.kept (row := none) ⟨h1, h2, h3, h4, fun k hk _ => h5 k hk⟩ (by cases v.ownBlock <;> simp)

def ptCells (l : List P2) : List Value := l.flatMap fun s => [.int .i64 s.1, .int .i64 s.2]
theorem ptCells_snoc (l : List P2) (a b : Int) : ptCells (l ++ [(a, b)]) = ptCells l ++ [.int .i64 a, .int .i64 b] := by simp [ptCells]
theorem ptCells_at (l : List P2) : ∀ (i : Nat), i < l.length → (ptCells l)[i * 2]? = some (.int .i64 (px l i)) ∧ (ptCells l)[i * 2 + 1]? = some (.int .i64 (py l i)) := by
  induction l with
  | nil => intro i h; simp at h
  | cons s l ih =>
    intro i h
    have e : ptCells (s :: l) = [.int .i64 s.1, .int .i64 s.2] ++ ptCells l := by simp [ptCells]
    cases i with
    | zero => rw [e]; exact ⟨rfl, rfl⟩
    | succ i =>
      have hh := ih i (by simpa using h)
      rw [e, show (i + 1) * 2 = i * 2 + 2 by omega]
      have f : ∀ j, ([Value.int .i64 s.1, .int .i64 s.2] ++ ptCells l)[i * 2 + 2 + j]? = (ptCells l)[i * 2 + j]? := by
        intro j
        rw [List.getElem?_append_right (by simp; omega)]
        congr 1; simp; omega
      have g1 := f 0; have g2 := f 1
      simp only [Nat.add_zero] at g1
      rw [g1, g2]
      simpa [px, py] using hh
theorem pts_own {w : World} {base g n cap : Nat} {l : List P2} (h : w.ownsRow base 23 2 (.slice (some ⟨g, 0, none⟩) n cap) n (ptCells l)) (hl : l.length = n) : Pts w g 0 n l := by
  refine ⟨hl, (h.lt g rfl).2, fun i hi => ?_⟩
  have hc := h.cells (g := g) rfl
  have hadd : ∀ j, (⟨g, 0, none⟩ : Addr).add j = ⟨g, j, none⟩ := by intro j; unfold Addr.add; split <;> simp_all
  obtain ⟨a1, a2⟩ := ptCells_at l i (by omega)
  have b1 := hc _ _ a1; have b2 := hc _ _ a2
  rw [hadd] at b1 b2
  simp only [Nat.zero_add]
  exact ⟨b1, b2⟩

def turnAt (l : List P2) (n k : Nat) : Int := turnI (px l ((k + n - 1) % n)) (py l ((k + n - 1) % n)) (px l k) (py l k) (px l ((k + 1) % n)) (py l ((k + 1) % n))
def bendsTo (l : List P2) (n : Nat) : Nat → List P2
  | 0 => []
  | k + 1 => if turnAt l n k = 0 then bendsTo l n k else bendsTo l n k ++ [(px l k, py l k)]
theorem bendsTo_le (l : List P2) (n : Nat) : ∀ k, (bendsTo l n k).length ≤ k
  | 0 => by simp [bendsTo]
  | k + 1 => by
    have := bendsTo_le l n k
    simp only [bendsTo]
    split <;> simp <;> omega

set_option maxHeartbeats 8000000 in
theorem bends_c (b off n c : Nat) (l : List P2) (w : World) (hl : n ≤ 1000000) (hw : Pts w b off n l) (hbd : bdL l) :
    Calls Tryz.prog 112 #[.slice (some ⟨b, off, none⟩) n c] w fun en w' => ∃ v, en = .returned v ∧ w'.ownsRow w.heap.size 23 2 v (bendsTo l n n).length (ptCells (bendsTo l n n)) ∧ New w w' := by
  obtain ⟨i0, hi, hz0, hz1, hz2⟩ := info_parts info23
  have HW := Lib.hid hw
  obtain ⟨hwl, hb, hcell⟩ := hw
  clear hwl
  go_enter Tryz.func112, Tryz.ntmps112
  go_wp2_with fail
  go_loopw [3, 11] (fun v i wr => ∃ k : Nat, k ≤ n ∧ i = .int .i64 k ∧ wr.ownsRow w.heap.size 23 2 v (bendsTo l n k).length (ptCells (bendsTo l n k)) ∧ New w wr) (fun _ i _ => n - (intOf i).toNat)
  case atStart => exact ⟨0, Nat.zero_le _, rfl, World.ownsRow_nil _ _ _ _, New.refl _⟩
  case round =>
    obtain ⟨k, hk, rfl, hown, pr, rfl⟩ := hrel
    have HO := Lib.hid hown
    have HLE := bendsTo_le l n k
    clear hown
    by_cases hlt : k < n
    · obtain ⟨c1, c2⟩ := hcell k hlt
      have g1 := hbd k
      have g2 := hbd ((k + n - 1) % n)
      have g3 := hbd ((k + 1) % n)
      by_cases ht : turnAt l n k = 0
      · have HT := Lib.hid ht
        have ht2 : turnI (px l ((k + n - 1) % n)) (py l ((k + n - 1) % n)) (px l k) (py l k) (px l ((k + 1) % n)) (py l ((k + 1) % n)) = 0 := ht
        clear ht
        go_wp2_with (first | (go_at_call 111; refine (around_c _ _ _ _ k l _ hlt hl (HW.out.new (by (repeat (first | exact New.refl _ | apply New.alloc | apply New.aft | apply New.drew | refine New.setCell ?_ ?_ _)); all_goals (first | done | (simp [size_aft]; done) | (simp [size_aft]; omega))))).mono ?_; rintro e w1 ⟨rfl, pw, rfl⟩) | (go_at_call 85; refine (turn_c _ _ _ _ _ _ _ ?_ ?_ ?_ ?_ ?_ ?_).mono ?_; omega; omega; omega; omega; omega; omega; rintro e w1 ⟨rfl, pw, rfl⟩))
        go_roundw
        case rel =>
          have e : bendsTo l n (k + 1) = bendsTo l n k := by simp only [bendsTo]; rw [if_pos HT.out]
          exact ⟨k + 1, by omega, by go_num, by rw [e]; exact own_new HO.out (by (repeat (first | exact New.refl _ | apply New.alloc | apply New.aft | apply New.drew | refine New.setCell ?_ ?_ _)); all_goals (first | done | (simp [size_aft]; done) | (simp [size_aft]; omega))), by (repeat (first | exact New.refl _ | apply New.alloc | apply New.aft | apply New.drew | refine New.setCell ?_ ?_ _)); all_goals (first | done | (simp [size_aft]; done) | (simp [size_aft]; omega))⟩
        case measure => simp [intOf]; omega
      · have HT := Lib.hid ht
        have ht2 : (turnI (px l ((k + n - 1) % n)) (py l ((k + n - 1) % n)) (px l k) (py l k) (px l ((k + 1) % n)) (py l ((k + 1) % n)) == 0) = false := by simpa [turnAt] using ht
        have ht3 : (turnI (px l ((k + n - 1) % n)) (py l ((k + n - 1) % n)) (px l k) (py l k) (px l ((k + 1) % n)) (py l ((k + 1) % n)) != 0) = true := by simpa [turnAt] using ht
        clear ht
        go_wp2_with (first | (go_at_call 111; refine (around_c _ _ _ _ k l _ hlt hl (HW.out.new (by (repeat (first | exact New.refl _ | apply New.alloc | apply New.aft | apply New.drew | refine New.setCell ?_ ?_ _)); all_goals (first | done | (simp [size_aft]; done) | (simp [size_aft]; omega))))).mono ?_; rintro e w1 ⟨rfl, pw, rfl⟩) | (go_at_call 85; refine (turn_c _ _ _ _ _ _ _ ?_ ?_ ?_ ?_ ?_ ?_).mono ?_; omega; omega; omega; omega; omega; omega; rintro e w1 ⟨rfl, pw, rfl⟩) | (at_builtin; refine wpList_append_lies _ rfl (.tmp 28) (.tmp 30) 40 rfl w.heap.size 23 i0 _ 2 16 Tryz.underlying40 hi hz0 hz1 hz2 rfl (by omega) u3 (bendsTo l n k).length (ptCells (bendsTo l n k)) rfl ?_ _ 1 1 [.int .i64 (px l k), .int .i64 (py l k)] rfl rfl ?_ ?_ (by omega) ?_ ?_ ?_ _ rfl ?_; exact own_new HO.out (by (repeat (first | exact New.refl _ | apply New.alloc | apply New.aft | apply New.drew | refine New.setCell ?_ ?_ _)); all_goals (first | done | (simp [size_aft]; done) | (simp [size_aft]; omega))); (refine cells_new _ _ _ _ ?_); (simp [go_sem]); (intro u hu; simp at hu; rcases hu with rfl | rfl <;> rfl); (unfold maxLen; omega); omega; (simp [go_sem, Nat.add_assoc]); intro g cap w2 hown2 hgrow2 hor2 hlt2; have HNW := Lib.hid (show New w w2 from new_grown (by (repeat (first | exact New.refl _ | apply New.alloc | apply New.aft | apply New.drew | refine New.setCell ?_ ?_ _)); all_goals (first | done | (simp [size_aft]; done) | (simp [size_aft]; omega))) hgrow2 HO.out); have HO2 := Lib.hid hown2; clear hown2 hgrow2 hor2 hlt2))
        go_roundw
        case rel =>
          have e : bendsTo l n (k + 1) = bendsTo l n k ++ [(px l k, py l k)] := by simp only [bendsTo]; rw [if_neg HT.out]
          exact ⟨k + 1, by omega, by go_num, by rw [e, ptCells_snoc, List.length_append]; exact HO2.out, HNW.out⟩
        case measure => simp [intOf]; omega
    · go_wp2_with fail
      have hkn : k = n := by omega
      go_ret
      have h1 := HO.out
      rw [hkn] at h1
      exact ⟨u3, rfl, h1, by (repeat (first | exact New.refl _ | apply New.alloc | apply New.aft | apply New.drew | refine New.setCell ?_ ?_ _)); all_goals (first | done | (simp [size_aft]; done) | (simp [size_aft]; omega))⟩

end Go.Proofs.YtpdfbboagaflhaaGreat
