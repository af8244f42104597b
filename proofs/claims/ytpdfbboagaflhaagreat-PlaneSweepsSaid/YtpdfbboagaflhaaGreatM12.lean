/- Where a point is, as the functions where and passesRight return it. Numbers up to 40000 either way; from one to 1000000 points. -/
import Derived.Test.YtpdfbboagaflhaaGreatM10
import Derived.Deep.RegionHeld3
import Derived.BigRegion
import Derived.LoopTactic

namespace Go.Proofs.YtpdfbboagaflhaaGreat
open Go.RowKit

def passB (a b c d p q : Int) : Bool := if d < b then decide (d ≤ q) && decide (q < b) && (turnI c d a b p q == 1) else decide (b ≤ q) && decide (q < d) && (turnI a b c d p q == 1)
section
variable {a b c d p q : Int}
theorem pass_1 (h : d < b) (h1 : d ≤ q) (h2 : q < b) : (turnI c d a b p q == 1) = passB a b c d p q := by simp [passB, h, h1, h2]
theorem pass_2 (h : d < b) (h1 : q < d) : false = passB a b c d p q := by simp [passB, h]; omega
theorem pass_3 (h : d < b) (h2 : b ≤ q) : false = passB a b c d p q := by simp [passB, h]; omega
theorem pass_4 (h : ¬ d < b) (h1 : b ≤ q) (h2 : q < d) : (turnI a b c d p q == 1) = passB a b c d p q := by simp [passB, h, h1, h2]
theorem pass_5 (h : ¬ d < b) (h1 : q < b) : false = passB a b c d p q := by simp [passB, h]; omega
theorem pass_6 (h : ¬ d < b) (h2 : d ≤ q) : false = passB a b c d p q := by simp [passB, h]; omega
end

set_option maxHeartbeats 4000000 in
theorem passesRight_c (p q a b c d : Int) (w : World) (hp : -40000 ≤ p ∧ p ≤ 40000) (hq : -40000 ≤ q ∧ q ≤ 40000) (ha : -40000 ≤ a ∧ a ≤ 40000) (hb : -40000 ≤ b ∧ b ≤ 40000) (hc : -40000 ≤ c ∧ c ≤ 40000) (hd : -40000 ≤ d ∧ d ≤ 40000) :
    Calls Tryz.prog 169 #[sv a b c d, pv p q] w fun e w' => e = .returned (.bool (passB a b c d p q)) ∧ New w w' := by
  by_cases h : d < b
  · by_cases h1 : d ≤ q
    · by_cases h2 : q < b
      · rw [← pass_1 h h1 h2]
        go_enter Tryz.func169, Tryz.ntmps169
        go_wp2_with (go_at_call 85; refine (turn_c _ _ _ _ _ _ _ ?_ ?_ ?_ ?_ ?_ ?_).mono ?_; omega; omega; omega; omega; omega; omega; rintro e w1 ⟨rfl, pw, rfl⟩)
        all_goals (go_ret; refine ⟨rfl, ?_⟩; (repeat (first | exact New.refl _ | apply New.alloc | apply New.aft | apply New.drew | refine New.setCell ?_ ?_ _)); all_goals (first | done | (simp [size_aft]; done) | (simp [size_aft]; omega)))
      · rw [← pass_3 h (by omega)]
        go_enter Tryz.func169, Tryz.ntmps169
        go_wp2_with (go_at_call 85; refine (turn_c _ _ _ _ _ _ _ ?_ ?_ ?_ ?_ ?_ ?_).mono ?_; omega; omega; omega; omega; omega; omega; rintro e w1 ⟨rfl, pw, rfl⟩)
        all_goals (go_ret; refine ⟨rfl, ?_⟩; (repeat (first | exact New.refl _ | apply New.alloc | apply New.aft | apply New.drew | refine New.setCell ?_ ?_ _)); all_goals (first | done | (simp [size_aft]; done) | (simp [size_aft]; omega)))
    · rw [← pass_2 h (by omega)]
      go_enter Tryz.func169, Tryz.ntmps169
      go_wp2_with (go_at_call 85; refine (turn_c _ _ _ _ _ _ _ ?_ ?_ ?_ ?_ ?_ ?_).mono ?_; omega; omega; omega; omega; omega; omega; rintro e w1 ⟨rfl, pw, rfl⟩)
      all_goals (go_ret; refine ⟨rfl, ?_⟩; (repeat (first | exact New.refl _ | apply New.alloc | apply New.aft | apply New.drew | refine New.setCell ?_ ?_ _)); all_goals (first | done | (simp [size_aft]; done) | (simp [size_aft]; omega)))
  · by_cases h1 : b ≤ q
    · by_cases h2 : q < d
      · rw [← pass_4 h h1 h2]
        go_enter Tryz.func169, Tryz.ntmps169
        go_wp2_with (go_at_call 85; refine (turn_c _ _ _ _ _ _ _ ?_ ?_ ?_ ?_ ?_ ?_).mono ?_; omega; omega; omega; omega; omega; omega; rintro e w1 ⟨rfl, pw, rfl⟩)
        all_goals (go_ret; refine ⟨rfl, ?_⟩; (repeat (first | exact New.refl _ | apply New.alloc | apply New.aft | apply New.drew | refine New.setCell ?_ ?_ _)); all_goals (first | done | (simp [size_aft]; done) | (simp [size_aft]; omega)))
      · rw [← pass_6 h (by omega)]
        go_enter Tryz.func169, Tryz.ntmps169
        go_wp2_with (go_at_call 85; refine (turn_c _ _ _ _ _ _ _ ?_ ?_ ?_ ?_ ?_ ?_).mono ?_; omega; omega; omega; omega; omega; omega; rintro e w1 ⟨rfl, pw, rfl⟩)
        all_goals (go_ret; refine ⟨rfl, ?_⟩; (repeat (first | exact New.refl _ | apply New.alloc | apply New.aft | apply New.drew | refine New.setCell ?_ ?_ _)); all_goals (first | done | (simp [size_aft]; done) | (simp [size_aft]; omega)))
    · rw [← pass_5 h (by omega)]
      go_enter Tryz.func169, Tryz.ntmps169
      go_wp2_with (go_at_call 85; refine (turn_c _ _ _ _ _ _ _ ?_ ?_ ?_ ?_ ?_ ?_).mono ?_; omega; omega; omega; omega; omega; omega; rintro e w1 ⟨rfl, pw, rfl⟩)
      all_goals (go_ret; refine ⟨rfl, ?_⟩; (repeat (first | exact New.refl _ | apply New.alloc | apply New.aft | apply New.drew | refine New.setCell ?_ ?_ _)); all_goals (first | done | (simp [size_aft]; done) | (simp [size_aft]; omega)))

def onAt (L : List S4) (p q : Int) (k : Nat) : Bool := onB p q (q1 L k) (q2 L k) (q3 L k) (q4 L k)
def passAt (L : List S4) (p q : Int) (k : Nat) : Bool := passB (q1 L k) (q2 L k) (q3 L k) (q4 L k) p q
def oddTo (L : List S4) (p q : Int) : Nat → Bool
  | 0 => false
  | k + 1 => if passAt L p q k then !oddTo L p q k else oddTo L p q k
def anyOn (L : List S4) (p q : Int) (n : Nat) : Bool := (List.range n).any (onAt L p q)
def whereI (l : List P2) (p q : Int) : Int := if anyOn (edgesL l) p q l.length then 1 else if oddTo (edgesL l) p q l.length then 2 else 0
theorem anyOn_succ (L : List S4) (p q : Int) (k : Nat) : anyOn L p q (k + 1) = (anyOn L p q k || onAt L p q k) := by simp [anyOn, List.range_succ]
theorem anyOn_at (L : List S4) (p q : Int) (k n : Nat) (h : k < n) (ho : onAt L p q k = true) : anyOn L p q n = true := by
  rw [anyOn, List.any_eq_true]; exact ⟨k, List.mem_range.2 h, ho⟩
def bdL (l : List P2) : Prop := ∀ i, (-40000 ≤ px l i ∧ px l i ≤ 40000) ∧ (-40000 ≤ py l i ∧ py l i ≤ 40000)
theorem edgesL_bdL {l : List P2} (h : bdL l) (i : Nat) (hi : i < l.length) : (-40000 ≤ q1 (edgesL l) i ∧ q1 (edgesL l) i ≤ 40000) ∧ (-40000 ≤ q2 (edgesL l) i ∧ q2 (edgesL l) i ≤ 40000) ∧ (-40000 ≤ q3 (edgesL l) i ∧ q3 (edgesL l) i ≤ 40000) ∧ (-40000 ≤ q4 (edgesL l) i ∧ q4 (edgesL l) i ≤ 40000) := by
  obtain ⟨e1, e2, e3, e4⟩ := edgesL_at l i hi
  rw [e1, e2, e3, e4]
  exact ⟨(h i).1, (h i).2, (h _).1, (h _).2⟩
theorem bdL_of_ok {l : List P2} (h : okL l = true) : bdL l := fun i => by have := okL_bd h i; omega

set_option maxHeartbeats 4000000 in
theorem where_c (b off n c : Nat) (l : List P2) (p q : Int) (w : World) (h0 : 0 < n) (hl : n ≤ 1000000) (hw : Pts w b off n l) (hp : -40000 ≤ p ∧ p ≤ 40000) (hq : -40000 ≤ q ∧ q ≤ 40000) (hbd : bdL l) :
    Calls Tryz.prog 117 #[.slice (some ⟨b, off, none⟩) n c, pv p q] w fun en w' => en = .returned (.int .u8 (whereI l p q)) ∧ New w w' := by
  have HW := Lib.hid hw
  have HN := Lib.hid hw.1
  have HB := Lib.hid (edgesL_bdL hbd)
  clear hw hbd
  go_enter Tryz.func117, Tryz.ntmps117
  go_wp2_with fail
  refine (edges_s _ _ _ _ l _ h0 hl (HW.out.new ((New.refl w).alloc _))).mono ?_
  rintro e w2 ⟨g, cap, rfl, ⟨hsl, hgb, hsc⟩, hnew2⟩
  have k1 : w2.cell? ⟨w.heap.size, 0, none⟩ = some (.int .i64 p) := by rw [hnew2.cell (by simp)]; simp [go_sem]
  have k2 : w2.cell? ⟨w.heap.size, 1, none⟩ = some (.int .i64 q) := by rw [hnew2.cell (by simp)]; simp [go_sem]
  have kb : w.heap.size < w2.heap.size := by have := hnew2.size; simp at this; omega
  have HN2 := Lib.hid (((New.refl w).alloc _).trans hnew2)
  clear hnew2 hsl
  go_wp2_with fail
  go_loopw [5, 11] (fun v i wr => ∃ k : Nat, k ≤ n ∧ i = .int .i64 k ∧ v = .bool (oddTo (edgesL l) p q k) ∧ anyOn (edgesL l) p q k = false ∧ New w2 wr) (fun _ i _ => n - (intOf i).toNat)
  case atStart => exact ⟨0, Nat.zero_le _, rfl, rfl, rfl, New.refl _⟩
  case round =>
    obtain ⟨k, hk, rfl, rfl, hany, pr, rfl⟩ := hrel
    have HANY := Lib.hid hany
    clear hany
    have kb1 : w.heap.size < w2.heap.size + pr.os.size := by omega
    have kb2 : w.heap.size < w2.heap.size + pr.os.size + 1 := by omega
    by_cases hlt : k < n
    · obtain ⟨c1, c2, c3, c4⟩ := hsc k hlt
      simp only [Nat.zero_add] at c1 c2 c3 c4
      obtain ⟨b1, b2, b3, b4⟩ := HB.out k (by rw [HN.out]; exact hlt)
      by_cases ho : onAt (edgesL l) p q k = true
      · have HO := Lib.hid ho
        have ho2 : onB p q (q1 (edgesL l) k) (q2 (edgesL l) k) (q3 (edgesL l) k) (q4 (edgesL l) k) = true := ho
        clear ho
        go_wp2_with (go_at_call 89; refine (on_c _ _ _ _ _ _ _ ?_ ?_ ?_ ?_ ?_ ?_).mono ?_; omega; omega; omega; omega; omega; omega; rintro e w1 ⟨rfl, pw, rfl⟩)
        go_ret
        refine ⟨ret_int ?_, ?_⟩
        · rw [whereI, HN.out, anyOn_at _ _ _ k n hlt HO.out]; rfl
        · exact HN2.out.trans (by (repeat (first | exact New.refl _ | apply New.alloc | apply New.aft | apply New.drew | refine New.setCell ?_ ?_ _)); all_goals (first | done | (simp [size_aft]; done) | (simp [size_aft]; omega)))
      · have ho1 : onB p q (q1 (edgesL l) k) (q2 (edgesL l) k) (q3 (edgesL l) k) (q4 (edgesL l) k) = false := by simpa [onAt] using ho
        have HO := Lib.hid ho1
        clear ho
        by_cases hp1 : passB (q1 (edgesL l) k) (q2 (edgesL l) k) (q3 (edgesL l) k) (q4 (edgesL l) k) p q = true
        all_goals
          go_wp2_with (first | (go_at_call 89; refine (on_c _ _ _ _ _ _ _ ?_ ?_ ?_ ?_ ?_ ?_).mono ?_; omega; omega; omega; omega; omega; omega; rintro e w1 ⟨rfl, pw, rfl⟩) | (go_at_call 169; refine (passesRight_c _ _ _ _ _ _ _ ?_ ?_ ?_ ?_ ?_ ?_).mono ?_; omega; omega; omega; omega; omega; omega; rintro e w1 ⟨rfl, pw, rfl⟩))
          go_roundw
          case rel => exact ⟨k + 1, by omega, by go_num, by simp [oddTo, passAt, hp1], by rw [anyOn_succ, HANY.out]; exact HO.out, by (repeat (first | exact New.refl _ | apply New.alloc | apply New.aft | apply New.drew | refine New.setCell ?_ ?_ _)); all_goals (first | done | (simp [size_aft]; done) | (simp [size_aft]; omega))⟩
          case measure => simp [intOf]; omega
    · have hkn : k = n := by omega
      have HK := Lib.hid hkn
      clear hkn
      cases hodd : oddTo (edgesL l) p q k
      all_goals
        go_wp2_with fail
        go_ret
        refine ⟨ret_int ?_, HN2.out.trans (by (repeat (first | exact New.refl _ | apply New.alloc | apply New.aft | apply New.drew | refine New.setCell ?_ ?_ _)); all_goals (first | done | (simp [size_aft]; done) | (simp [size_aft]; omega)))⟩
        have HANY2 := HANY.out
        rw [HK.out] at HANY2 hodd
        rw [whereI, HN.out, HANY2]
        simp [hodd]

end Go.Proofs.YtpdfbboagaflhaaGreat
