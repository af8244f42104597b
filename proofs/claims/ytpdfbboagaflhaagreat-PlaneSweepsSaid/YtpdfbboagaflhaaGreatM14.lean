/- Whether edges meet only where they may, as bordersApart returns it. From one to 1000000 points. -/
import Derived.Test.YtpdfbboagaflhaaGreatM12
import Derived.Deep.RegionHeld3
import Derived.BigRegion
import Derived.LoopTactic

namespace Go.Proofs.YtpdfbboagaflhaaGreat
open Go.RowKit

def meetE (L : List S4) (i j : Nat) : Int := meetI (q1 L i) (q2 L i) (q3 L i) (q4 L i) (q1 L j) (q2 L j) (q3 L j) (q4 L j)
def wantI (n i j : Nat) : Int := if j = i + 1 ∨ (i = 0 ∧ j + 1 = n) then 1 else 0
theorem want_1 {n i j : Nat} (h : j = i + 1 ∨ (i = 0 ∧ j + 1 = n)) : wantI n i j = 1 := if_pos h
theorem want_0 {n i j : Nat} (h : ¬ (j = i + 1 ∨ (i = 0 ∧ j + 1 = n))) : wantI n i j = 0 := if_neg h
def RowOk (L : List S4) (n i m : Nat) : Prop := ∀ j, i < j → j < m → meetE L i j = wantI n i j
def RowsOk (L : List S4) (n k : Nat) : Prop := ∀ i, i < k → RowOk L n i n
theorem rowOk_start (L : List S4) (n i : Nat) : RowOk L n i (i + 1) := fun j h1 h2 => by omega
theorem rowOk_succ {L : List S4} {n i m : Nat} (h : RowOk L n i m) (he : meetE L i m = wantI n i m) : RowOk L n i (m + 1) := fun j h1 h2 => by
  by_cases e : j = m
  · subst e; exact he
  · exact h j h1 (by omega)
theorem rowsOk_succ {L : List S4} {n k : Nat} (h : RowsOk L n k) (he : RowOk L n k n) : RowsOk L n (k + 1) := fun i hi => by
  by_cases e : i = k
  · subst e; exact he
  · exact h i (by omega)
/-- whether the edges meet only where neighbours share a corner -/
def apartB (l : List P2) : Bool := (List.range l.length).all fun i => (List.range l.length).all fun j => !decide (i < j) || meetE (edgesL l) i j == wantI l.length i j
theorem apartB_iff (l : List P2) : apartB l = true ↔ RowsOk (edgesL l) l.length l.length := by
  simp only [apartB, List.all_eq_true, List.mem_range, Bool.or_eq_true, Bool.not_eq_true', decide_eq_false_iff_not, beq_iff_eq, RowsOk, RowOk]
  constructor
  · intro h i hi j h1 h2; rcases h i hi j h2 with h3 | h3
    · exact absurd h1 h3
    · exact h3
  · intro h i hi j h2
    by_cases h1 : i < j
    · exact .inr (h i hi j h1 h2)
    · exact .inl h1
theorem apartB_no {l : List P2} {i j : Nat} (h1 : i < j) (h2 : j < l.length) (h : meetE (edgesL l) i j ≠ wantI l.length i j) : apartB l = false := by
  rw [Bool.eq_false_iff]
  intro hh
  exact h ((apartB_iff l).1 hh i (by omega) j h1 h2)

set_option maxHeartbeats 8000000 in
theorem apart_c (b off n c : Nat) (l : List P2) (w : World) (h0 : 0 < n) (hl : n ≤ 1000000) (hw : Pts w b off n l) (hbd : bdL l) :
    Calls Tryz.prog 107 #[.slice (some ⟨b, off, none⟩) n c] w fun en w' => en = .returned (.bool (apartB l)) ∧ New w w' := by
  have HW := Lib.hid hw
  have HN := Lib.hid hw.1
  have HB := Lib.hid (edgesL_bdL hbd)
  clear hw hbd
  go_enter Tryz.func107, Tryz.ntmps107
  go_wp2_with fail
  refine (edges_s _ _ _ _ l _ h0 hl HW.out).mono ?_
  rintro e w2 ⟨g, cap, rfl, ⟨hsl, hgb, hsc⟩, hnew2⟩
  have HN2 := Lib.hid hnew2
  have HSC := Lib.hid hsc
  clear hnew2 hsl hsc
  go_wp2_with fail
  go_loopw [12] (fun i wr => ∃ k : Nat, k ≤ n ∧ i = .int .i64 k ∧ RowsOk (edgesL l) n k ∧ New w2 wr) (fun i _ => n - (intOf i).toNat)
  case atStart => exact ⟨0, Nat.zero_le _, rfl, fun i hi => absurd hi (Nat.not_lt_zero _), New.refl _⟩
  case round =>
    obtain ⟨k, hk, rfl, hrows, pr, rfl⟩ := hrel
    have HR := Lib.hid hrows
    clear hrows
    by_cases hlt : k < n
    · obtain ⟨c1, c2, c3, c4⟩ := HSC.out k hlt
      simp only [Nat.zero_add] at c1 c2 c3 c4
      obtain ⟨b1, b2, b3, b4⟩ := HB.out k (by rw [HN.out]; exact hlt)
      go_wp2_with fail
      generalize hwo : (Aft w2 pr.d pr.os).alloc _ = wo
      have x1 : wo.cell? ⟨w2.heap.size + pr.os.size, 0, none⟩ = some (.int .i64 (q1 (edgesL l) k)) := by rw [← hwo]; simp [go_sem]
      have x2 : wo.cell? ⟨w2.heap.size + pr.os.size, 1, none⟩ = some (.int .i64 (q2 (edgesL l) k)) := by rw [← hwo]; simp [go_sem]
      have x3 : wo.cell? ⟨w2.heap.size + pr.os.size, 2, none⟩ = some (.int .i64 (q3 (edgesL l) k)) := by rw [← hwo]; simp [go_sem]
      have x4 : wo.cell? ⟨w2.heap.size + pr.os.size, 3, none⟩ = some (.int .i64 (q4 (edgesL l) k)) := by rw [← hwo]; simp [go_sem]
      have xb : w2.heap.size + pr.os.size < wo.heap.size := by rw [← hwo]; simp [go_sem]
      have hgo : g < wo.heap.size := by omega
      have hno : New w2 wo := by rw [← hwo]; exact ((New.refl w2).aft _ _).alloc _
      have HNO := Lib.hid (HN2.out.trans hno)
      have HNO2 := Lib.hid hno
      clear hno hwo c1 c2 c3 c4
      go_loopw [6] (fun j wr => ∃ m : Nat, k + 1 ≤ m ∧ m ≤ n ∧ j = .int .i64 m ∧ RowOk (edgesL l) n k m ∧ New wo wr) (fun j _ => n - (intOf j).toNat)
      case atStart => exact ⟨k + 1, Nat.le_refl _, by omega, by go_num, rowOk_start _ _ _, New.refl _⟩
      case round =>
        obtain ⟨m, hm1, hm2, rfl, hrow, po, rfl⟩ := hrel
        have HM := Lib.hid hrow
        clear hrow
        by_cases hmn : m < n
        · obtain ⟨d1, d2, d3, d4⟩ := HSC.out m hmn
          rw [← HNO2.out.cell hgb] at d1 d2 d3 d4
          simp only [Nat.zero_add] at d1 d2 d3 d4
          obtain ⟨a1, a2, a3, a4⟩ := HB.out m (by rw [HN.out]; exact hmn)
          by_cases hw1 : m = k + 1
          · have hwI := Lib.hid (want_1 (n := n) (.inl hw1))
            have ht1 : ((m : Int) == (k : Int) + 1) = true := by simp; omega
            clear hw1
            by_cases he : meetI (q1 (edgesL l) k) (q2 (edgesL l) k) (q3 (edgesL l) k) (q4 (edgesL l) k) (q1 (edgesL l) m) (q2 (edgesL l) m) (q3 (edgesL l) m) (q4 (edgesL l) m) = 1
            · have HE := Lib.hid he
              have he2 : (meetI (q1 (edgesL l) k) (q2 (edgesL l) k) (q3 (edgesL l) k) (q4 (edgesL l) k) (q1 (edgesL l) m) (q2 (edgesL l) m) (q3 (edgesL l) m) (q4 (edgesL l) m) != 1) = false := by simp [he]
              clear he
              go_wp2_with fail
              first | refine wp_region_at2 (by kernel_rfl) (by kernel_rfl) ?_ | refine wp_region_at (by kernel_rfl) (by kernel_rfl) ?_
              repeat (go_big_quiet_step ((go_at_call 92; exact calls_new (meet_c _ _ _ _ _ _ _ _ _ (by omega) (by omega) (by omega) (by omega) (by omega) (by omega) (by omega) (by omega)))))
              refine wpQuiet_nil ?_
              rintro _ ⟨q, rfl⟩
              go_wp2_with fail
              go_roundw
              case rel => exact ⟨m + 1, by omega, by omega, by go_num, rowOk_succ HM.out (by rw [hwI.out]; exact HE.out), by (repeat (first | exact New.refl _ | apply New.alloc | apply New.aft | apply New.drew | refine New.setCell ?_ ?_ _)); all_goals (first | done | (simp [size_aft]; done) | (simp [size_aft]; omega))⟩
              case measure => simp [intOf]; omega
            · have he2 : (meetI (q1 (edgesL l) k) (q2 (edgesL l) k) (q3 (edgesL l) k) (q4 (edgesL l) k) (q1 (edgesL l) m) (q2 (edgesL l) m) (q3 (edgesL l) m) (q4 (edgesL l) m) != 1) = true := by simpa using he
              have HE := Lib.hid he
              clear he
              go_wp2_with fail
              first | refine wp_region_at2 (by kernel_rfl) (by kernel_rfl) ?_ | refine wp_region_at (by kernel_rfl) (by kernel_rfl) ?_
              repeat (go_big_quiet_step ((go_at_call 92; exact calls_new (meet_c _ _ _ _ _ _ _ _ _ (by omega) (by omega) (by omega) (by omega) (by omega) (by omega) (by omega) (by omega)))))
              refine wpQuiet_nil ?_
              rintro _ ⟨q, rfl⟩
              go_wp2_with fail
              go_ret
              refine ⟨ret_bool ?_, HNO.out.trans (by (repeat (first | exact New.refl _ | apply New.alloc | apply New.aft | apply New.drew | refine New.setCell ?_ ?_ _)); all_goals (first | done | (simp [size_aft]; done) | (simp [size_aft]; omega)))⟩
              exact (apartB_no (i := k) (j := m) (by omega) (by rw [HN.out]; exact hmn) (by rw [HN.out, hwI.out]; exact HE.out)).symm
          · by_cases hw2 : k = 0 ∧ m + 1 = n
            · have hwI := Lib.hid (want_1 (n := n) (i := k) (j := m) (.inr hw2))
              have ht1 : ((m : Int) == (k : Int) + 1) = false := by simp; omega
              have ht2 : ((k : Int) == 0) = true := by simp; omega
              have ht3 : ((m : Int) == (n : Int) - 1) = true := by simp; omega
              clear hw1 hw2
              by_cases he : meetI (q1 (edgesL l) k) (q2 (edgesL l) k) (q3 (edgesL l) k) (q4 (edgesL l) k) (q1 (edgesL l) m) (q2 (edgesL l) m) (q3 (edgesL l) m) (q4 (edgesL l) m) = 1
              · have HE := Lib.hid he
                have he2 : (meetI (q1 (edgesL l) k) (q2 (edgesL l) k) (q3 (edgesL l) k) (q4 (edgesL l) k) (q1 (edgesL l) m) (q2 (edgesL l) m) (q3 (edgesL l) m) (q4 (edgesL l) m) != 1) = false := by simp [he]
                clear he
                go_wp2_with fail
                first | refine wp_region_at2 (by kernel_rfl) (by kernel_rfl) ?_ | refine wp_region_at (by kernel_rfl) (by kernel_rfl) ?_
                repeat (go_big_quiet_step ((go_at_call 92; exact calls_new (meet_c _ _ _ _ _ _ _ _ _ (by omega) (by omega) (by omega) (by omega) (by omega) (by omega) (by omega) (by omega)))))
                refine wpQuiet_nil ?_
                rintro _ ⟨q, rfl⟩
                go_wp2_with fail
                go_roundw
                case rel => exact ⟨m + 1, by omega, by omega, by go_num, rowOk_succ HM.out (by rw [hwI.out]; exact HE.out), by (repeat (first | exact New.refl _ | apply New.alloc | apply New.aft | apply New.drew | refine New.setCell ?_ ?_ _)); all_goals (first | done | (simp [size_aft]; done) | (simp [size_aft]; omega))⟩
                case measure => simp [intOf]; omega
              · have he2 : (meetI (q1 (edgesL l) k) (q2 (edgesL l) k) (q3 (edgesL l) k) (q4 (edgesL l) k) (q1 (edgesL l) m) (q2 (edgesL l) m) (q3 (edgesL l) m) (q4 (edgesL l) m) != 1) = true := by simpa using he
                have HE := Lib.hid he
                clear he
                go_wp2_with fail
                first | refine wp_region_at2 (by kernel_rfl) (by kernel_rfl) ?_ | refine wp_region_at (by kernel_rfl) (by kernel_rfl) ?_
                repeat (go_big_quiet_step ((go_at_call 92; exact calls_new (meet_c _ _ _ _ _ _ _ _ _ (by omega) (by omega) (by omega) (by omega) (by omega) (by omega) (by omega) (by omega)))))
                refine wpQuiet_nil ?_
                rintro _ ⟨q, rfl⟩
                go_wp2_with fail
                go_ret
                refine ⟨ret_bool ?_, HNO.out.trans (by (repeat (first | exact New.refl _ | apply New.alloc | apply New.aft | apply New.drew | refine New.setCell ?_ ?_ _)); all_goals (first | done | (simp [size_aft]; done) | (simp [size_aft]; omega)))⟩
                exact (apartB_no (i := k) (j := m) (by omega) (by rw [HN.out]; exact hmn) (by rw [HN.out, hwI.out]; exact HE.out)).symm
            · have hwI := Lib.hid (want_0 (n := n) (i := k) (j := m) (by omega))
              have ht1 : ((m : Int) == (k : Int) + 1) = false := by simp; omega
              clear hw1
              by_cases hk0 : k = 0
              · have ht2 : ((k : Int) == 0) = true := by simp; omega
                have ht3 : ((m : Int) == (n : Int) - 1) = false := by simp; omega
                clear hw2 hk0
                by_cases he : meetI (q1 (edgesL l) k) (q2 (edgesL l) k) (q3 (edgesL l) k) (q4 (edgesL l) k) (q1 (edgesL l) m) (q2 (edgesL l) m) (q3 (edgesL l) m) (q4 (edgesL l) m) = 0
                · have HE := Lib.hid he
                  have he2 : (meetI (q1 (edgesL l) k) (q2 (edgesL l) k) (q3 (edgesL l) k) (q4 (edgesL l) k) (q1 (edgesL l) m) (q2 (edgesL l) m) (q3 (edgesL l) m) (q4 (edgesL l) m) != 0) = false := by simp [he]
                  clear he
                  go_wp2_with fail
                  first | refine wp_region_at2 (by kernel_rfl) (by kernel_rfl) ?_ | refine wp_region_at (by kernel_rfl) (by kernel_rfl) ?_
                  repeat (go_big_quiet_step ((go_at_call 92; exact calls_new (meet_c _ _ _ _ _ _ _ _ _ (by omega) (by omega) (by omega) (by omega) (by omega) (by omega) (by omega) (by omega)))))
                  refine wpQuiet_nil ?_
                  rintro _ ⟨q, rfl⟩
                  go_wp2_with fail
                  go_roundw
                  case rel => exact ⟨m + 1, by omega, by omega, by go_num, rowOk_succ HM.out (by rw [hwI.out]; exact HE.out), by (repeat (first | exact New.refl _ | apply New.alloc | apply New.aft | apply New.drew | refine New.setCell ?_ ?_ _)); all_goals (first | done | (simp [size_aft]; done) | (simp [size_aft]; omega))⟩
                  case measure => simp [intOf]; omega
                · have he2 : (meetI (q1 (edgesL l) k) (q2 (edgesL l) k) (q3 (edgesL l) k) (q4 (edgesL l) k) (q1 (edgesL l) m) (q2 (edgesL l) m) (q3 (edgesL l) m) (q4 (edgesL l) m) != 0) = true := by simpa using he
                  have HE := Lib.hid he
                  clear he
                  go_wp2_with fail
                  first | refine wp_region_at2 (by kernel_rfl) (by kernel_rfl) ?_ | refine wp_region_at (by kernel_rfl) (by kernel_rfl) ?_
                  repeat (go_big_quiet_step ((go_at_call 92; exact calls_new (meet_c _ _ _ _ _ _ _ _ _ (by omega) (by omega) (by omega) (by omega) (by omega) (by omega) (by omega) (by omega)))))
                  refine wpQuiet_nil ?_
                  rintro _ ⟨q, rfl⟩
                  go_wp2_with fail
                  go_ret
                  refine ⟨ret_bool ?_, HNO.out.trans (by (repeat (first | exact New.refl _ | apply New.alloc | apply New.aft | apply New.drew | refine New.setCell ?_ ?_ _)); all_goals (first | done | (simp [size_aft]; done) | (simp [size_aft]; omega)))⟩
                  exact (apartB_no (i := k) (j := m) (by omega) (by rw [HN.out]; exact hmn) (by rw [HN.out, hwI.out]; exact HE.out)).symm
              · have ht2 : ((k : Int) == 0) = false := by simp; omega
                clear hw2 hk0
                by_cases he : meetI (q1 (edgesL l) k) (q2 (edgesL l) k) (q3 (edgesL l) k) (q4 (edgesL l) k) (q1 (edgesL l) m) (q2 (edgesL l) m) (q3 (edgesL l) m) (q4 (edgesL l) m) = 0
                · have HE := Lib.hid he
                  have he2 : (meetI (q1 (edgesL l) k) (q2 (edgesL l) k) (q3 (edgesL l) k) (q4 (edgesL l) k) (q1 (edgesL l) m) (q2 (edgesL l) m) (q3 (edgesL l) m) (q4 (edgesL l) m) != 0) = false := by simp [he]
                  clear he
                  go_wp2_with fail
                  first | refine wp_region_at2 (by kernel_rfl) (by kernel_rfl) ?_ | refine wp_region_at (by kernel_rfl) (by kernel_rfl) ?_
                  repeat (go_big_quiet_step ((go_at_call 92; exact calls_new (meet_c _ _ _ _ _ _ _ _ _ (by omega) (by omega) (by omega) (by omega) (by omega) (by omega) (by omega) (by omega)))))
                  refine wpQuiet_nil ?_
                  rintro _ ⟨q, rfl⟩
                  go_wp2_with fail
                  go_roundw
                  case rel => exact ⟨m + 1, by omega, by omega, by go_num, rowOk_succ HM.out (by rw [hwI.out]; exact HE.out), by (repeat (first | exact New.refl _ | apply New.alloc | apply New.aft | apply New.drew | refine New.setCell ?_ ?_ _)); all_goals (first | done | (simp [size_aft]; done) | (simp [size_aft]; omega))⟩
                  case measure => simp [intOf]; omega
                · have he2 : (meetI (q1 (edgesL l) k) (q2 (edgesL l) k) (q3 (edgesL l) k) (q4 (edgesL l) k) (q1 (edgesL l) m) (q2 (edgesL l) m) (q3 (edgesL l) m) (q4 (edgesL l) m) != 0) = true := by simpa using he
                  have HE := Lib.hid he
                  clear he
                  go_wp2_with fail
                  first | refine wp_region_at2 (by kernel_rfl) (by kernel_rfl) ?_ | refine wp_region_at (by kernel_rfl) (by kernel_rfl) ?_
                  repeat (go_big_quiet_step ((go_at_call 92; exact calls_new (meet_c _ _ _ _ _ _ _ _ _ (by omega) (by omega) (by omega) (by omega) (by omega) (by omega) (by omega) (by omega)))))
                  refine wpQuiet_nil ?_
                  rintro _ ⟨q, rfl⟩
                  go_wp2_with fail
                  go_ret
                  refine ⟨ret_bool ?_, HNO.out.trans (by (repeat (first | exact New.refl _ | apply New.alloc | apply New.aft | apply New.drew | refine New.setCell ?_ ?_ _)); all_goals (first | done | (simp [size_aft]; done) | (simp [size_aft]; omega)))⟩
                  exact (apartB_no (i := k) (j := m) (by omega) (by rw [HN.out]; exact hmn) (by rw [HN.out, hwI.out]; exact HE.out)).symm
        · have hmn2 : m = n := by omega
          have HMN := Lib.hid hmn2
          clear hmn2
          go_wp2_with fail
          go_roundw
          case rel => exact ⟨k + 1, by omega, by go_num, rowsOk_succ HR.out (by rw [← HMN.out]; rw [HMN.out]; have := HM.out; rwa [HMN.out] at this), HNO2.out.trans (by (repeat (first | exact New.refl _ | apply New.alloc | apply New.aft | apply New.drew | refine New.setCell ?_ ?_ _)); all_goals (first | done | (simp [size_aft]; done) | (simp [size_aft]; omega)))⟩
          case measure => simp [intOf]; omega
    · go_wp2_with fail
      have hkn : k = n := by omega
      go_ret
      refine ⟨ret_bool ?_, HN2.out.trans (by (repeat (first | exact New.refl _ | apply New.alloc | apply New.aft | apply New.drew | refine New.setCell ?_ ?_ _)); all_goals (first | done | (simp [size_aft]; done) | (simp [size_aft]; omega)))⟩
      have h1 := HR.out
      rw [hkn, ← HN.out] at h1
      exact ((apartB_iff l).2 h1).symm

end Go.Proofs.YtpdfbboagaflhaaGreat
