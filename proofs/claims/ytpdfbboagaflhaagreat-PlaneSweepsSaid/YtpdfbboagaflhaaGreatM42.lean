/- The first ear, as firstEar returns it. At most 1000000 points. -/
import Derived.Test.YtpdfbboagaflhaaGreatM41
import Derived.Deep.LoopGhost
import Derived.Test.YtpdfbboagaflhaaGreatM15
import Derived.Deep.RegionHeld3
import Derived.BigRegion
import Derived.LoopTactic

namespace Go.Proofs.YtpdfbboagaflhaaGreat
open Go.RowKit

def earTurn (l : List P2) (n k : Nat) : Int := turnI (px l ((k + n - 1) % n)) (py l ((k + n - 1) % n)) (px l k) (py l k) (px l ((k + 1) % n)) (py l ((k + 1) % n))
def bars (l : List P2) (n k j : Nat) : Bool := !cornerB (px l j) (py l j) (px l ((k + n - 1) % n)) (py l ((k + n - 1) % n)) (px l k) (py l k) (px l ((k + 1) % n)) (py l ((k + 1) % n)) && inTriB (px l j) (py l j) (px l ((k + n - 1) % n)) (py l ((k + n - 1) % n)) (px l k) (py l k) (px l ((k + 1) % n)) (py l ((k + 1) % n))
def barTo (l : List P2) (n k m : Nat) : Bool := (List.range m).any (bars l n k)
def isEar (l : List P2) (n k : Nat) : Bool := earTurn l n k == 1 && !barTo l n k n
def earFrom (l : List P2) (n : Nat) : Nat → Nat → Nat
  | 0, _ => 0
  | m + 1, k => if isEar l n k then k else earFrom l n m (k + 1)
/-- the first ear -/
def earI (l : List P2) (n : Nat) : Nat := earFrom l n n 0
theorem barTo_succ (l : List P2) (n k m : Nat) : barTo l n k (m + 1) = (barTo l n k m || bars l n k m) := by simp [barTo, List.range_succ]
theorem barTo_at (l : List P2) (n k m M : Nat) (h : m < M) (ho : bars l n k m = true) : barTo l n k M = true := by
  rw [barTo, List.any_eq_true]; exact ⟨m, List.mem_range.2 h, ho⟩

set_option maxHeartbeats 8000000 in
theorem firstEar_c (b off n c : Nat) (l : List P2) (w : World) (hl : n ≤ 1000000) (hw : Pts w b off n l) (hbd : bdL l) :
    Calls Tryz.prog 129 #[.slice (some ⟨b, off, none⟩) n c] w fun en w' => en = .returned (.int .i64 ((earI l n : Nat) : Int)) ∧ New w w' := by
  have HW := Lib.hid hw
  obtain ⟨hwl, hb, hcell⟩ := hw
  have HC := Lib.hid hcell
  clear hwl hcell
  go_enter Tryz.func129, Tryz.ntmps129
  go_wp2
  go_step3
  go_wp2
  go_step3
  go_wp2
  go_loopg [3, 10] n (fun g s3 s10 wx => ∃ k : Nat, k + g = n ∧ s3 = .int .i64 0 ∧ s10 = .int .i64 k ∧ Hid (earFrom l n g k = earI l n) ∧ New w wx)
  case atStart => exact ⟨0, by omega, rfl, rfl, Lib.hid rfl, New.refl _⟩
  case round =>
    obtain ⟨k, hkg, rfl, rfl, HE, pr, rfl⟩ := hrel
    cases gk with
    | zero =>
      have hkn : ¬ ((k : Int) < (n : Int)) := by omega
      go_wp2_with fail
      (try rw [Exit.noGoto_ret])
      go_ret
      exact ⟨ret_int (by rw [← HE.out]; rfl), by (repeat (first | exact New.refl _ | apply New.alloc | apply New.aft | apply New.drew | refine New.setCell ?_ ?_ _)); all_goals (first | done | (simp [size_aft]; done) | (simp [size_aft]; omega))⟩
    | succ g =>
      have hlt : k < n := by omega
      have HKG := Lib.hid hkg
      clear hkg
      have b1 := hbd k
      have b2 := hbd ((k + n - 1) % n)
      have b3 := hbd ((k + 1) % n)
      by_cases ht : turnI (px l ((k + n - 1) % n)) (py l ((k + n - 1) % n)) (px l k) (py l k) (px l ((k + 1) % n)) (py l ((k + 1) % n)) = 1
      · have HT := Lib.hid ht
        have ht2 : (turnI (px l ((k + n - 1) % n)) (py l ((k + n - 1) % n)) (px l k) (py l k) (px l ((k + 1) % n)) (py l ((k + 1) % n)) != 1) = false := by simp [ht]
        clear ht
        go_wp2_with (first | (go_at_call 130; refine (triangleAt_c _ _ _ _ k l _ hlt hl (HW.out.new (by (repeat (first | exact New.refl _ | apply New.alloc | apply New.aft | apply New.drew | refine New.setCell ?_ ?_ _)); all_goals (first | done | (simp [size_aft]; done) | (simp [size_aft]; omega))))).mono ?_; rintro e w1 ⟨rfl, pt, rfl⟩) | (go_at_call 85; refine (turn_c _ _ _ _ _ _ _ ?_ ?_ ?_ ?_ ?_ ?_).mono ?_; omega; omega; omega; omega; omega; omega; rintro e w1 ⟨rfl, pw, rfl⟩))
        generalize hwo : Aft ((Aft w pt.d (pr.os ++ pt.os)).alloc _) pw.d pw.os = wo
        have x0 : wo.cell? ⟨w.heap.size + (pr.os.size + pt.os.size), 0, none⟩ = some (.int .i64 (px l ((k + n - 1) % n))) := by rw [← hwo]; simp [go_sem]
        have x1 : wo.cell? ⟨w.heap.size + (pr.os.size + pt.os.size), 1, none⟩ = some (.int .i64 (py l ((k + n - 1) % n))) := by rw [← hwo]; simp [go_sem]
        have x2 : wo.cell? ⟨w.heap.size + (pr.os.size + pt.os.size), 2, none⟩ = some (.int .i64 (px l k)) := by rw [← hwo]; simp [go_sem]
        have x3 : wo.cell? ⟨w.heap.size + (pr.os.size + pt.os.size), 3, none⟩ = some (.int .i64 (py l k)) := by rw [← hwo]; simp [go_sem]
        have x4 : wo.cell? ⟨w.heap.size + (pr.os.size + pt.os.size), 4, none⟩ = some (.int .i64 (px l ((k + 1) % n))) := by rw [← hwo]; simp [go_sem]
        have x5 : wo.cell? ⟨w.heap.size + (pr.os.size + pt.os.size), 5, none⟩ = some (.int .i64 (py l ((k + 1) % n))) := by rw [← hwo]; simp [go_sem]
        have hno : New w wo := by rw [← hwo]; (repeat (first | exact New.refl _ | apply New.alloc | apply New.aft | apply New.drew | refine New.setCell ?_ ?_ _)); all_goals (first | done | (simp [size_aft]; done) | (simp [size_aft]; omega))
        have xb : w.heap.size + (pr.os.size + pt.os.size) < wo.heap.size := by rw [← hwo]; simp [go_sem]
        have bwo : b < wo.heap.size := by have := hno.size; omega
        have HNO := Lib.hid hno
        clear hno hwo
        go_loopg [26] n (fun gi s26 wx => ∃ j : Nat, j + gi = n ∧ s26 = .int .i64 j ∧ Hid (barTo l n k j = false) ∧ New wo wx)
        case atStart => exact ⟨0, by omega, rfl, Lib.hid rfl, New.refl _⟩
        case round =>
          obtain ⟨j, hjg, rfl, HB, po, rfl⟩ := hrel
          cases gk with
          | zero =>
            have hjn : ¬ ((j : Int) < (n : Int)) := by omega
            have hjn2 : j = n := by omega
            have HJ := Lib.hid hjn2
            clear hjg hjn2
            go_wp2_with fail
            (try rw [Exit.noGoto_ret])
            go_ret
            refine ⟨ret_int ?_, HNO.out.trans (by (repeat (first | exact New.refl _ | apply New.alloc | apply New.aft | apply New.drew | refine New.setCell ?_ ?_ _)); all_goals (first | done | (simp [size_aft]; done) | (simp [size_aft]; omega)))⟩
            have e : isEar l n k = true := by
              have h1 := HB.out
              rw [HJ.out] at h1
              simp [isEar, earTurn, HT.out, h1]
            have h2 := HE.out
            rw [earFrom, e] at h2
            rw [← h2]; rfl
          | succ gi =>
            have hjn : j < n := by omega
            have HJG := Lib.hid hjg
            clear hjg
            obtain ⟨c1, c2⟩ := HC.out j hjn
            rw [← HNO.out.cell hb] at c1 c2
            have bj := hbd j
            have kb1 : w.heap.size + (pr.os.size + pt.os.size) < wo.heap.size + po.os.size := by omega
            have kb2 : w.heap.size + (pr.os.size + pt.os.size) < wo.heap.size + po.os.size + 1 := by omega
            by_cases hc1 : cornerB (px l j) (py l j) (px l ((k + n - 1) % n)) (py l ((k + n - 1) % n)) (px l k) (py l k) (px l ((k + 1) % n)) (py l ((k + 1) % n)) = true
            · have HBJ := Lib.hid (show bars l n k j = false by simp [bars, hc1])
              go_wp2_with (first | (go_at_call 174; refine (isCorner_c _ _ _ _ _ _ _ _ _).mono ?_; rintro e w1 ⟨rfl, pc, rfl⟩) | (go_at_call 175; refine (inTriangle_c _ _ _ _ _ _ _ _ _ ?_ ?_ ?_ ?_ ?_ ?_ ?_ ?_).mono ?_; omega; omega; omega; omega; omega; omega; omega; omega; rintro e w1 ⟨rfl, pi, rfl⟩))
              go_roundg gi
              case rel => exact ⟨j + 1, by have := HJG.out; omega, by go_num, Lib.hid (by rw [barTo_succ, HB.out, HBJ.out]; rfl), by (repeat (first | exact New.refl _ | apply New.alloc | apply New.aft | apply New.drew | refine New.setCell ?_ ?_ _)); all_goals (first | done | (simp [size_aft]; done) | (simp [size_aft]; omega))⟩
              case measure => omega
            · have hc2 : cornerB (px l j) (py l j) (px l ((k + n - 1) % n)) (py l ((k + n - 1) % n)) (px l k) (py l k) (px l ((k + 1) % n)) (py l ((k + 1) % n)) = false := by simpa using hc1
              clear hc1
              by_cases hi1 : inTriB (px l j) (py l j) (px l ((k + n - 1) % n)) (py l ((k + n - 1) % n)) (px l k) (py l k) (px l ((k + 1) % n)) (py l ((k + 1) % n)) = true
              · have HBJ := Lib.hid (show bars l n k j = true by simp [bars, hc2, hi1])
                go_wp2_with (first | (go_at_call 174; refine (isCorner_c _ _ _ _ _ _ _ _ _).mono ?_; rintro e w1 ⟨rfl, pc, rfl⟩) | (go_at_call 175; refine (inTriangle_c _ _ _ _ _ _ _ _ _ ?_ ?_ ?_ ?_ ?_ ?_ ?_ ?_).mono ?_; omega; omega; omega; omega; omega; omega; omega; omega; rintro e w1 ⟨rfl, pi, rfl⟩))
                go_roundg g
                case rel =>
                  have e : isEar l n k = false := by simp [isEar, barTo_at l n k j n hjn HBJ.out]
                  exact ⟨k + 1, by have := HKG.out; omega, rfl, by go_num, Lib.hid (by have := HE.out; rwa [earFrom, e] at this), HNO.out.trans (by (repeat (first | exact New.refl _ | apply New.alloc | apply New.aft | apply New.drew | refine New.setCell ?_ ?_ _)); all_goals (first | done | (simp [size_aft]; done) | (simp [size_aft]; omega)))⟩
                case measure => omega
              · have hi2 : inTriB (px l j) (py l j) (px l ((k + n - 1) % n)) (py l ((k + n - 1) % n)) (px l k) (py l k) (px l ((k + 1) % n)) (py l ((k + 1) % n)) = false := by simpa using hi1
                have HBJ := Lib.hid (show bars l n k j = false by simp [bars, hc2, hi2])
                clear hi1
                go_wp2_with (first | (go_at_call 174; refine (isCorner_c _ _ _ _ _ _ _ _ _).mono ?_; rintro e w1 ⟨rfl, pc, rfl⟩) | (go_at_call 175; refine (inTriangle_c _ _ _ _ _ _ _ _ _ ?_ ?_ ?_ ?_ ?_ ?_ ?_ ?_).mono ?_; omega; omega; omega; omega; omega; omega; omega; omega; rintro e w1 ⟨rfl, pi, rfl⟩))
                go_roundg gi
                case rel => exact ⟨j + 1, by have := HJG.out; omega, by go_num, Lib.hid (by rw [barTo_succ, HB.out, HBJ.out]; rfl), by (repeat (first | exact New.refl _ | apply New.alloc | apply New.aft | apply New.drew | refine New.setCell ?_ ?_ _)); all_goals (first | done | (simp [size_aft]; done) | (simp [size_aft]; omega))⟩
                case measure => omega
      · have HT := Lib.hid ht
        have ht2 : (turnI (px l ((k + n - 1) % n)) (py l ((k + n - 1) % n)) (px l k) (py l k) (px l ((k + 1) % n)) (py l ((k + 1) % n)) != 1) = true := by simpa using ht
        clear ht
        go_wp2_with (first | (go_at_call 130; refine (triangleAt_c _ _ _ _ k l _ hlt hl (HW.out.new (by (repeat (first | exact New.refl _ | apply New.alloc | apply New.aft | apply New.drew | refine New.setCell ?_ ?_ _)); all_goals (first | done | (simp [size_aft]; done) | (simp [size_aft]; omega))))).mono ?_; rintro e w1 ⟨rfl, pw, rfl⟩) | (go_at_call 85; refine (turn_c _ _ _ _ _ _ _ ?_ ?_ ?_ ?_ ?_ ?_).mono ?_; omega; omega; omega; omega; omega; omega; rintro e w1 ⟨rfl, pw, rfl⟩))
        go_roundg g
        case rel =>
          have e : isEar l n k = false := by simp [isEar, earTurn, HT.out]
          exact ⟨k + 1, by have := HKG.out; omega, rfl, by go_num, Lib.hid (by have := HE.out; rwa [earFrom, e] at this), by (repeat (first | exact New.refl _ | apply New.alloc | apply New.aft | apply New.drew | refine New.setCell ?_ ?_ _)); all_goals (first | done | (simp [size_aft]; done) | (simp [size_aft]; omega))⟩
        case measure => omega

end Go.Proofs.YtpdfbboagaflhaaGreat
