/- What compareSegs, vertical and checkSegs return. -/
import Derived.Test.YtpdfbboagaflhaaGreatM17
import Derived.Test.YtpdfbboagaflhaaGreatM15
import Derived.Deep.RegionHeld3
import Derived.Deep.RegionWith
import Derived.BigRegion
import Derived.LoopTactic

namespace Go.Proofs.YtpdfbboagaflhaaGreat
open Go.RowKit

def cmpPt (ax ay bx by' : Int) : Int := orI (cmpI ax bx) (cmpI ay by')
def cmpS (a b c d a' b' c' d' : Int) : Int := orI (cmpPt a b a' b') (cmpPt c d c' d')
theorem comparePt_c (ax ay bx by' : Int) (w : World) : Calls Tryz.prog 125 #[pv ax ay, pv bx by'] w fun e w' => e = .returned (.int .i64 (cmpPt ax ay bx by')) ∧ New w w' := comparePoints_c ax ay bx by' w
set_option maxHeartbeats 2000000 in
theorem compareSegs_c (a b c d a' b' c' d' : Int) (w : World) : Calls Tryz.prog 139 #[sv a b c d, sv a' b' c' d'] w fun e w' => e = .returned (.int .i64 (cmpS a b c d a' b' c' d')) ∧ New w w' := by
  have HA := Lib.hid (comparePt_c a b a' b')
  have HB := Lib.hid (comparePt_c c d c' d')
  rw [show cmpS a b c d a' b' c' d' = orI (cmpPt a b a' b') (cmpPt c d c' d') from rfl]
  generalize cmpPt a b a' b' = A at *
  generalize cmpPt c d c' d' = B at *
  go_enter Tryz.func139, Tryz.ntmps139
  go_wp2_with fail
  go_region_held3 (fun w' => w'.cell? ⟨w.heap.size, 0, none⟩ = some (.int .i64 a) ∧ w'.cell? ⟨w.heap.size, 1, none⟩ = some (.int .i64 b) ∧ w'.cell? ⟨w.heap.size, 2, none⟩ = some (.int .i64 c) ∧ w'.cell? ⟨w.heap.size, 3, none⟩ = some (.int .i64 d) ∧ w'.cell? ⟨w.heap.size + 1, 0, none⟩ = some (.int .i64 a') ∧ w'.cell? ⟨w.heap.size + 1, 1, none⟩ = some (.int .i64 b') ∧ w'.cell? ⟨w.heap.size + 1, 2, none⟩ = some (.int .i64 c') ∧ w'.cell? ⟨w.heap.size + 1, 3, none⟩ = some (.int .i64 d')) (first | (simp [go_sem]; done) | (simp [go_sem, *]; done) | (go_keep; done))
    (first | (go_at_call 125; (first | (with_reducible refine (HA.out _).mono ?_) | (with_reducible refine (HB.out _).mono ?_)); rintro e w1 ⟨rfl, pw, rfl⟩) | (go_at_call 173; refine (or_c A B _ _ ?_ ?_).mono ?_; simp [go_sem]; simp [go_sem]; rintro e w1 ⟨rfl, pw, rfl⟩))
  all_goals (go_wp2_with fail)
  all_goals (go_ret; refine ⟨rfl, ?_⟩; (repeat (first | exact New.refl _ | apply New.alloc | apply New.aft | apply New.drew | refine New.setCell ?_ ?_ _)); all_goals (first | done | (simp [size_aft]; done) | (simp [size_aft]; omega)))

set_option maxHeartbeats 1000000 in
theorem vertical_c (a b c d : Int) (w : World) : Calls Tryz.prog 184 #[sv a b c d] w fun e w' => e = .returned (.bool (a == c)) ∧ New w w' := by
  go_enter Tryz.func184, Tryz.ntmps184
  go_wp2
  go_ret; refine ⟨rfl, ?_⟩; (repeat (first | exact New.refl _ | apply New.alloc | apply New.aft | apply New.drew | refine New.setCell ?_ ?_ _)); all_goals (first | done | (simp [size_aft]; done) | (simp [size_aft]; omega))

def okSegs (l : List S4) : Bool := l.all fun s => okS s.1 s.2.1 s.2.2.1 s.2.2.2
def ckSegs (l : List S4) : Int := if 400 < (l.length : Int) then 2 else if okSegs l then 0 else 1
theorem take_snoc4 (l : List S4) (k : Nat) (h : k < l.length) : l.take (k + 1) = l.take k ++ [(q1 l k, q2 l k, q3 l k, q4 l k)] := by
  rw [List.take_succ_eq_append_getElem h]; simp only [q1, q2, q3, q4, List.getD_eq_getElem?_getD, List.getElem?_eq_getElem h, Option.getD_some]
theorem okSegs_snoc (l : List S4) (k : Nat) (h : k < l.length) : okSegs (l.take (k + 1)) = (okSegs (l.take k) && okS (q1 l k) (q2 l k) (q3 l k) (q4 l k)) := by
  rw [take_snoc4 l k h]; simp [okSegs]
theorem okSegs_not (l : List S4) (k : Nat) (h : k < l.length) (hk : okS (q1 l k) (q2 l k) (q3 l k) (q4 l k) = false) : okSegs l = false := by
  rw [Bool.eq_false_iff]
  intro hh
  have h1 := List.all_eq_true.1 hh (l[k]) (List.getElem_mem h)
  simp [q1, q2, q3, q4, List.getD_eq_getElem?_getD, h] at hk
  simp [hk] at h1
theorem okSegs_at (l : List S4) (k : Nat) (h : k < l.length) (hh : okSegs l = true) : okS (q1 l k) (q2 l k) (q3 l k) (q4 l k) = true := by
  cases e : okS (q1 l k) (q2 l k) (q3 l k) (q4 l k)
  · rw [okSegs_not l k h e] at hh; cases hh
  · rfl

set_option maxHeartbeats 4000000 in
theorem checkSegs_c (b off n c : Nat) (l : List S4) (w : World) (hl : n ≤ 1000000000) (hw : Segs w b off n l) :
    Calls Tryz.prog 135 #[.slice (some ⟨b, off, none⟩) n c] w fun en w' => en = .returned (.int .i64 (ckSegs l)) ∧ New w w' := by
  obtain ⟨hn, hb, hcell⟩ := hw
  have HN := Lib.hid hn
  clear hn
  by_cases hm : 400 < (n : Int)
  · rw [show ckSegs l = 2 from if_pos (by rw [HN.out]; exact hm)]
    go_enter Tryz.func135, Tryz.ntmps135
    go_wp2_with fail
    all_goals (go_ret; refine ⟨rfl, ?_⟩; (repeat (first | exact New.refl _ | apply New.alloc | apply New.aft | apply New.drew | refine New.setCell ?_ ?_ _)); all_goals (first | done | (simp [size_aft]; done) | (simp [size_aft]; omega)))
  · go_enter Tryz.func135, Tryz.ntmps135
    go_wp2_with fail
    go_loopw [10] (fun i wr => ∃ k : Nat, k ≤ n ∧ i = .int .i64 k ∧ okSegs (l.take k) = true ∧ New w wr) (fun i _ => n - (intOf i).toNat)
    case atStart => exact ⟨0, Nat.zero_le _, rfl, by simp [okSegs], New.refl w⟩
    case round =>
      obtain ⟨k, hk, rfl, hok, pr, rfl⟩ := hrel
      have HOK := Lib.hid hok
      clear hok
      by_cases hlt : k < n
      · obtain ⟨c1, c2, c3, c4⟩ := hcell k hlt
        have HV := Lib.hid (validSeg_c (q1 l k) (q2 l k) (q3 l k) (q4 l k))
        by_cases hv : okS (q1 l k) (q2 l k) (q3 l k) (q4 l k) = true
        · rw [hv] at HV
          go_wp2_with (go_at_call 88; refine (HV.out _).mono ?_; rintro e w1 ⟨rfl, pw, rfl⟩)
          go_roundw
          case rel => exact ⟨k + 1, by omega, by go_num, by rw [okSegs_snoc l k (by rw [HN.out]; exact hlt), HOK.out, hv]; rfl, by (repeat (first | exact New.refl _ | apply New.alloc | apply New.aft | apply New.drew | refine New.setCell ?_ ?_ _)); all_goals (first | done | (simp [size_aft]; done) | (simp [size_aft]; omega))⟩
          case measure => simp [intOf]; omega
        · have hv' : okS (q1 l k) (q2 l k) (q3 l k) (q4 l k) = false := by simpa using hv
          rw [hv'] at HV
          go_wp2_with (go_at_call 88; refine (HV.out _).mono ?_; rintro e w1 ⟨rfl, pw, rfl⟩)
          go_ret
          refine ⟨ret_int ?_, ?_⟩
          · rw [ckSegs, if_neg (by rw [HN.out]; exact Int.not_lt.2 hm), okSegs_not l k (by rw [HN.out]; exact hlt) hv']; rfl
          · (repeat (first | exact New.refl _ | apply New.alloc | apply New.aft | apply New.drew | refine New.setCell ?_ ?_ _)); all_goals (first | done | (simp [size_aft]; done) | (simp [size_aft]; omega))
      · go_wp2_with fail
        go_ret
        refine ⟨ret_int ?_, ?_⟩
        · have h1 : okSegs l = true := by
            have := HOK.out
            rwa [List.take_of_length_le (by rw [HN.out]; omega)] at this
          rw [ckSegs, if_neg (by rw [HN.out]; exact Int.not_lt.2 hm), h1]; rfl
        · (repeat (first | exact New.refl _ | apply New.alloc | apply New.aft | apply New.drew | refine New.setCell ?_ ?_ _)); all_goals (first | done | (simp [size_aft]; done) | (simp [size_aft]; omega))

end Go.Proofs.YtpdfbboagaflhaaGreat
