/- What stops of the reference returns where nothing crosses: the parts of the way at which a corner lies on the segment. -/
import Derived.Test.YtpdfbboagaflhaaGreatM51
import Derived.Test.YtpdfbboagaflhaaGreatS33
import Derived.Deep.RegionHeld3
import Derived.Deep.RegionWith
import Derived.BigRegion
import Derived.LoopTactic
import Derived.Deep.AppendLies
import Derived.Deep.RegionLaw
import Derived.Test.YtpdfbboagaflhaaGreatS31
import Derived.Deep.DeepCutAuto

set_option linter.unusedSimpArgs false
set_option linter.unusedVariables false
set_option maxRecDepth 100000
namespace Go.Proofs.YtpdfbboagaflhaaGreat
open Go.RowKit

theorem px_sc (l : List P2) (K : Int) (k : Nat) (h : k < l.length) : px (l.map (Geo.sc K)) k = K * px l k ∧ py (l.map (Geo.sc K)) k = K * py l k := by
  simp [px, py, Geo.sc, List.getD_eq_getElem?_getD, h]
theorem cells_sc (l : List P2) (k : Nat) (h : k < l.length) : ptCells ((l.map (Geo.sc 2)).take (k + 1)) = ptCells ((l.map (Geo.sc 2)).take k) ++ [.int .i64 (px l k * 2), .int .i64 (py l k * 2)] := by
  rw [take_snoc _ _ (by simpa using h), ptCells_snoc, (px_sc l 2 k h).1, (px_sc l 2 k h).2, Int.mul_comm 2, Int.mul_comm 2]

set_option maxHeartbeats 16000000 in
theorem scaled_c (b0 off n cp : Nat) (l : List P2) (w : World) (h0 : 0 < n) (hl : n ≤ 1000000) (hw : Pts w b0 off n l) (hbd : bdL l) :
    Calls Tryz.prog 120 #[.slice (some ⟨b0, off, none⟩) n cp, .int .i64 2] w fun en w' => ∃ g cap, en = .returned (.slice (some ⟨g, 0, none⟩) n cap) ∧ Pts w' g 0 n (l.map (Geo.sc 2)) ∧ New w w' := by
  obtain ⟨i0, hi, hz0, hz1, hz2⟩ := info_parts info23
  have HW := Lib.hid hw
  have HN := Lib.hid hw.1
  obtain ⟨_, hb, hcell⟩ := hw
  have HB := Lib.hid hbd
  clear hbd
  have hmk : ∀ w : World, (Instr.makeSlice 40 (.int .i64 0) (.int .i64 (n : Int))).run Tryz.prog w = .ok (.slice (some ⟨w.heap.size, 0, none⟩) 0 n) (w.alloc (.cells (madeCells (.agg #[.int .i64 0, .int .i64 0] : Value).cells (n * 2)) 23)) := by
    intro w
    have := run_make (P := Tryz.prog) w 40 23 i0 _ Tryz.underlying40 hi hz0 .i64 .i64 0 n (by omega) (by omega) (by rw [hz2]; omega) (by omega)
    rw [hz1] at this
    simpa using this
  have hlen : (l.map (Geo.sc 2)).length = n := by rw [List.length_map, HN.out]
  go_enter Tryz.func120, Tryz.ntmps120
  go_wp2_with fail
  go_loopw [5, 13] (fun v i wr => ∃ k : Nat, k ≤ n ∧ i = .int .i64 k ∧ wr.ownsRow w.heap.size 23 2 v k (ptCells ((l.map (Geo.sc 2)).take k)) ∧ New w wr) (fun _ i _ => n - (intOf i).toNat)
  case atStart => exact ⟨0, Nat.zero_le _, rfl, (by have h := World.ownsRow_made (e := 23) (size := 2) (base := w.heap.size) w (madeCells #[.int .i64 0, .int .i64 0] (n * 2)) n (by simp) (by unfold maxLen; omega) (by simp [size_madeCells]); simpa [ptCells] using h), (New.refl _).alloc _⟩
  case round =>
    obtain ⟨k, hk, rfl, hown, hnew⟩ := hrel
    have HO := Lib.hid hown
    have HNEW := Lib.hid hnew
    clear hown hnew
    by_cases hlt : k < n
    · obtain ⟨c1, c2⟩ := ((HW.out.new HNEW.out).2.2) k hlt
      have hblt2 := (HW.out.new HNEW.out).2.1
      have b1 := HB.out k
      have HCM := Lib.hid (cells_sc l k (by rw [HN.out]; exact hlt))
      have m1 := mul_bd (px l k) 2 40000 2 (by omega) (by omega) (by omega) (by omega)
      have m2 := mul_bd (py l k) 2 40000 2 (by omega) (by omega) (by omega) (by omega)
      simp only [Int.reduceMul, Int.reduceNeg] at m1 m2
      have hsz := HNEW.out.size
      generalize px l k = X at *
      generalize py l k = Y at *
      go_wp2_with (at_builtin; refine wpList_append_lies _ rfl (.tmp 17) (.tmp 27) 40 rfl w.heap.size 23 i0 _ 2 16 Tryz.underlying40 hi hz0 hz1 hz2 rfl (by omega) _ k (ptCells ((l.map (Geo.sc 2)).take k)) rfl ?_ _ 1 1 [.int .i64 (X * 2), .int .i64 (Y * 2)] rfl rfl ?_ ?_ (by omega) ?_ ?_ ?_ _ rfl ?_; exact own_new HO.out (by (repeat (first | exact New.refl _ | apply New.alloc | apply New.aft | apply New.drew | refine New.setCell ?_ ?_ _)); all_goals (first | done | (simp [size_aft]; done) | (simp [size_aft]; omega))); (refine cells_new _ _ _ _ ?_); (simp [go_sem]); (intro u hu; simp at hu; rcases hu with rfl | rfl <;> rfl); (unfold maxLen; omega); omega; (simp [go_sem, Nat.add_assoc]; try omega); intro gg cap2 w2 hown2 hgrow2 hor2 hlt2; have HNW := Lib.hid (show New w w2 from new_grown (HNEW.out.trans (by (repeat (first | exact New.refl _ | apply New.alloc | apply New.aft | apply New.drew | refine New.setCell ?_ ?_ _)); all_goals (first | done | (simp [size_aft]; done) | (simp [size_aft]; omega)))) hgrow2 HO.out); have HO2 := Lib.hid hown2; clear hown2 hgrow2 hor2 hlt2)
      go_roundw
      case rel => exact ⟨k + 1, by omega, by go_num, by rw [HCM.out]; exact HO2.out, HNW.out⟩
      case measure => simp [intOf]; omega
    · obtain rfl : k = n := by omega
      have HO3 := HO.out
      rw [List.take_of_length_le (by omega)] at HO3
      have HO4 := HO3
      rcases HO3.2 with ⟨_, hk0⟩ | ⟨g, cap, cur, rfl, hg⟩
      · exact absurd hk0 (by omega)
      · have HPT := Lib.hid (pts_own HO4 hlen)
        clear HO HO3 HO4 hg
        go_wp2_with fail
        go_ret
        exact ⟨g, cap, rfl, HPT.out, HNEW.out⟩

end Go.Proofs.YtpdfbboagaflhaaGreat

set_option linter.unusedSimpArgs false
set_option linter.unusedVariables false
set_option maxRecDepth 100000
namespace Go.Proofs.YtpdfbboagaflhaaGreat
open Go.RowKit

theorem turn_K (a b c d p q : Int) {K : Int} (hK : 0 < K) : (turnI (a * K) (b * K) (c * K) (d * K) p q == 1) = decide (p * (d - b) < a * K * (d - b) + (c - a) * (q - b * K)) := by
  rw [turnI_sign]
  have e : (c * K - a * K) * (q - b * K) - (d * K - b * K) * (p - a * K) = K * (a * K * (d - b) + (c - a) * (q - b * K) - p * (d - b)) := by grind
  rw [e, Int.sign_mul, Int.sign_eq_one_of_pos hK, Int.one_mul]
  rcases sign_cases (a * K * (d - b) + (c - a) * (q - b * K) - p * (d - b)) with ⟨h, k⟩ | ⟨h, k⟩ | ⟨h, k⟩
  · rw [h, decide_eq_false (by omega)]; rfl
  · rw [h, decide_eq_false (by omega)]; rfl
  · rw [h, decide_eq_true (by omega)]; rfl
theorem oddTo_step {L : List S4} {p q : Int} {k : Nat} {O : Bool} (h : passAt L p q k = O) : oddTo L p q (k + 1) = (if O then !oddTo L p q k else oddTo L p q k) := by rw [← h]; rfl

set_option maxHeartbeats 16000000 in
theorem ref_enclosed_any (b off n c : Nat) (l : List P2) (p q K : Int) (w : World) (hl : n ≤ 1000000) (hw : Pts w b off n l) (hok : okL l = true) (hK : 0 < K ∧ K ≤ 200000000) (hp : -4000000000000 ≤ p ∧ p ≤ 4000000000000) (hq : -4000000000000 ≤ q ∧ q ≤ 4000000000000) :
    Calls Tryz.prog 170 #[.slice (some ⟨b, off, none⟩) n c, .int .i64 p, .int .i64 q, .int .i64 K] w fun en w' => en = .returned (.bool (oddTo (edgesL (l.map (Geo.sc K))) p q n)) ∧ New w w' := by
  have HW := Lib.hid hw
  have HN := Lib.hid hw.1
  have HED := Lib.hid (fun (k : Nat) (hk : k < n) (w1 : World) (h1 : New w w1) => ref_edge b off n c k l w1 hk hl (HW.out.new h1))
  have HB := Lib.hid (okL_bd hok)
  clear hw hok
  go_enter Tryz.func170, Tryz.ntmps170
  go_wp2_with fail
  go_loopw [9, 10] (fun v i wr => ∃ k : Nat, k ≤ n ∧ i = .int .i64 k ∧ v = .bool (oddTo (edgesL (l.map (Geo.sc K))) p q k) ∧ New w wr) (fun _ i _ => n - (intOf i).toNat)
  case atStart => exact ⟨0, Nat.zero_le _, rfl, rfl, New.refl _⟩
  case round =>
    obtain ⟨k, hk, rfl, rfl, pr, rfl⟩ := hrel
    by_cases hlt : k < n
    · have HE := Lib.hid (HED.out k hlt)
      have hpass : passAt (edgesL (l.map (Geo.sc K))) p q k = passB (px l k * K) (py l k * K) (px l ((k + 1) % n) * K) (py l ((k + 1) % n) * K) p q := by
        obtain ⟨x1, x2, x3, x4⟩ := edgesL_at (l.map (Geo.sc K)) k (by rw [List.length_map, HN.out]; exact hlt)
        rw [passAt, x1, x2, x3, x4, List.length_map, HN.out]
        have hm : (k + 1) % n < n := Nat.mod_lt _ (by omega)
        obtain ⟨y1, y2⟩ := px_sc l K k (by rw [HN.out]; exact hlt)
        obtain ⟨y3, y4⟩ := px_sc l K ((k + 1) % n) (by rw [HN.out]; exact hm)
        rw [y1, y2, y3, y4, Int.mul_comm K, Int.mul_comm K, Int.mul_comm K, Int.mul_comm K]
      have HS := Lib.hid (oddTo_step hpass)
      obtain ⟨b1, b2⟩ := HB.out k
      obtain ⟨b3, b4⟩ := HB.out ((k + 1) % n)
      clear hpass
      generalize oddTo (edgesL (l.map (Geo.sc K))) p q k = V at *
      generalize px l k = A at *
      generalize py l k = B at *
      generalize px l ((k + 1) % n) = C at *
      generalize py l ((k + 1) % n) = D at *
      obtain ⟨O, hO⟩ : ∃ O, O = passB (A * K) (B * K) (C * K) (D * K) p q := ⟨_, rfl⟩
      rw [← hO] at HS
      have hT1 := turn_K A B C D p q hK.1
      have hT2 := turn_K C D A B p q hK.1
      have i1 : D * K < B * K ↔ D < B := ⟨fun h => Int.lt_of_mul_lt_mul_right h (by omega), fun h => Int.mul_lt_mul_of_pos_right h hK.1⟩
      have n1 := mul_bd A K 10000 200000000 (by omega) (by omega) (by omega) (by omega)
      have n2 := mul_bd B K 10000 200000000 (by omega) (by omega) (by omega) (by omega)
      have n3 := mul_bd C K 10000 200000000 (by omega) (by omega) (by omega) (by omega)
      have n4 := mul_bd D K 10000 200000000 (by omega) (by omega) (by omega) (by omega)
      simp only [Int.reduceMul, Int.reduceNeg] at n1 n2 n3 n4
      have m1 := mul_bd (A * K) (D - B) 2000000000000 10000 (by omega) (by omega) (by omega) (by omega)
      have m2 := mul_bd (C - A) (q - B * K) 10000 6000000000000 (by omega) (by omega) (by omega) (by omega)
      have m3 := mul_bd p (D - B) 4000000000000 10000 (by omega) (by omega) (by omega) (by omega)
      have m4 := mul_bd (C * K) (B - D) 2000000000000 10000 (by omega) (by omega) (by omega) (by omega)
      have m5 := mul_bd (A - C) (q - D * K) 10000 6000000000000 (by omega) (by omega) (by omega) (by omega)
      have m6 := mul_bd p (B - D) 4000000000000 10000 (by omega) (by omega) (by omega) (by omega)
      simp only [Int.reduceMul, Int.reduceNeg] at m1 m2 m3 m4 m5 m6
      generalize hAK : A * K = AK at *
      generalize hBK : B * K = BK at *
      generalize hCK : C * K = CK at *
      generalize hDK : D * K = DK at *
      have hcase : (D < B ∧ q < DK) ∨ (D < B ∧ DK ≤ q ∧ BK ≤ q) ∨ (D < B ∧ DK ≤ q ∧ q < BK) ∨ (¬ D < B ∧ q < BK) ∨ (¬ D < B ∧ BK ≤ q ∧ DK ≤ q) ∨ (¬ D < B ∧ BK ≤ q ∧ q < DK) := by omega
      rcases hcase with ⟨g1, g2⟩ | ⟨g1, g2, g3⟩ | ⟨g1, g2, g3⟩ | ⟨g1, g2⟩ | ⟨g1, g2, g3⟩ | ⟨g1, g2, g3⟩
      · skip
        have HO := Lib.hid (show O = false from (by rw [hO, ← pass_2 (i1.2 g1) g2]))
        clear hT1 hT2 i1 hO
        go_wp2_with (go_at_call 110; refine (HE.out _ (by (repeat (first | exact New.refl _ | apply New.alloc | apply New.aft | apply New.drew | refine New.setCell ?_ ?_ _)); all_goals (first | done | (simp [size_aft]; done) | (simp [size_aft]; omega)))).mono ?_; rintro en w1 ⟨rfl, pw, rfl⟩)
        all_goals (try (exfalso; omega))
        all_goals go_roundw
        all_goals first
          | exact ⟨k + 1, by omega, by go_num, by rw [HS.out, HO.out]; rfl, by (repeat (first | exact New.refl _ | apply New.alloc | apply New.aft | apply New.drew | refine New.setCell ?_ ?_ _)); all_goals (first | done | (simp [size_aft]; done) | (simp [size_aft]; omega))⟩
          | (simp [intOf]; omega)
      · skip
        have HO := Lib.hid (show O = false from (by rw [hO, ← pass_3 (i1.2 g1) g3]))
        clear hT1 hT2 i1 hO
        go_wp2_with (go_at_call 110; refine (HE.out _ (by (repeat (first | exact New.refl _ | apply New.alloc | apply New.aft | apply New.drew | refine New.setCell ?_ ?_ _)); all_goals (first | done | (simp [size_aft]; done) | (simp [size_aft]; omega)))).mono ?_; rintro en w1 ⟨rfl, pw, rfl⟩)
        all_goals (try (exfalso; omega))
        all_goals go_roundw
        all_goals first
          | exact ⟨k + 1, by omega, by go_num, by rw [HS.out, HO.out]; rfl, by (repeat (first | exact New.refl _ | apply New.alloc | apply New.aft | apply New.drew | refine New.setCell ?_ ?_ _)); all_goals (first | done | (simp [size_aft]; done) | (simp [size_aft]; omega))⟩
          | (simp [intOf]; omega)
      · cases hT : decide (p * (B - D) < CK * (B - D) + (A - C) * (q - DK))
        · have hTn : ¬ (p * (B - D) < CK * (B - D) + (A - C) * (q - DK)) := of_decide_eq_false hT
          have HO := Lib.hid (show O = false from (by rw [hO, ← pass_1 (i1.2 g1) g2 g3, hT2, hT]))
          clear hT1 hT2 i1 hO
          go_wp2_with (go_at_call 110; refine (HE.out _ (by (repeat (first | exact New.refl _ | apply New.alloc | apply New.aft | apply New.drew | refine New.setCell ?_ ?_ _)); all_goals (first | done | (simp [size_aft]; done) | (simp [size_aft]; omega)))).mono ?_; rintro en w1 ⟨rfl, pw, rfl⟩)
          all_goals (try (exfalso; omega))
          all_goals go_roundw
          all_goals first
            | exact ⟨k + 1, by omega, by go_num, by rw [HS.out, HO.out]; rfl, by (repeat (first | exact New.refl _ | apply New.alloc | apply New.aft | apply New.drew | refine New.setCell ?_ ?_ _)); all_goals (first | done | (simp [size_aft]; done) | (simp [size_aft]; omega))⟩
            | (simp [intOf]; omega)
        · have hTy : p * (B - D) < CK * (B - D) + (A - C) * (q - DK) := of_decide_eq_true hT
          have HO := Lib.hid (show O = true from (by rw [hO, ← pass_1 (i1.2 g1) g2 g3, hT2, hT]))
          clear hT1 hT2 i1 hO
          go_wp2_with (go_at_call 110; refine (HE.out _ (by (repeat (first | exact New.refl _ | apply New.alloc | apply New.aft | apply New.drew | refine New.setCell ?_ ?_ _)); all_goals (first | done | (simp [size_aft]; done) | (simp [size_aft]; omega)))).mono ?_; rintro en w1 ⟨rfl, pw, rfl⟩)
          all_goals (try (exfalso; omega))
          all_goals go_roundw
          all_goals first
            | exact ⟨k + 1, by omega, by go_num, by rw [HS.out, HO.out]; rfl, by (repeat (first | exact New.refl _ | apply New.alloc | apply New.aft | apply New.drew | refine New.setCell ?_ ?_ _)); all_goals (first | done | (simp [size_aft]; done) | (simp [size_aft]; omega))⟩
            | (simp [intOf]; omega)
      · skip
        have HO := Lib.hid (show O = false from (by rw [hO, ← pass_5 (fun h => g1 (i1.1 h)) g2]))
        clear hT1 hT2 i1 hO
        go_wp2_with (go_at_call 110; refine (HE.out _ (by (repeat (first | exact New.refl _ | apply New.alloc | apply New.aft | apply New.drew | refine New.setCell ?_ ?_ _)); all_goals (first | done | (simp [size_aft]; done) | (simp [size_aft]; omega)))).mono ?_; rintro en w1 ⟨rfl, pw, rfl⟩)
        all_goals (try (exfalso; omega))
        all_goals go_roundw
        all_goals first
          | exact ⟨k + 1, by omega, by go_num, by rw [HS.out, HO.out]; rfl, by (repeat (first | exact New.refl _ | apply New.alloc | apply New.aft | apply New.drew | refine New.setCell ?_ ?_ _)); all_goals (first | done | (simp [size_aft]; done) | (simp [size_aft]; omega))⟩
          | (simp [intOf]; omega)
      · skip
        have HO := Lib.hid (show O = false from (by rw [hO, ← pass_6 (fun h => g1 (i1.1 h)) g3]))
        clear hT1 hT2 i1 hO
        go_wp2_with (go_at_call 110; refine (HE.out _ (by (repeat (first | exact New.refl _ | apply New.alloc | apply New.aft | apply New.drew | refine New.setCell ?_ ?_ _)); all_goals (first | done | (simp [size_aft]; done) | (simp [size_aft]; omega)))).mono ?_; rintro en w1 ⟨rfl, pw, rfl⟩)
        all_goals (try (exfalso; omega))
        all_goals go_roundw
        all_goals first
          | exact ⟨k + 1, by omega, by go_num, by rw [HS.out, HO.out]; rfl, by (repeat (first | exact New.refl _ | apply New.alloc | apply New.aft | apply New.drew | refine New.setCell ?_ ?_ _)); all_goals (first | done | (simp [size_aft]; done) | (simp [size_aft]; omega))⟩
          | (simp [intOf]; omega)
      · cases hT : decide (p * (D - B) < AK * (D - B) + (C - A) * (q - BK))
        · have hTn : ¬ (p * (D - B) < AK * (D - B) + (C - A) * (q - BK)) := of_decide_eq_false hT
          have HO := Lib.hid (show O = false from (by rw [hO, ← pass_4 (fun h => g1 (i1.1 h)) g2 g3, hT1, hT]))
          clear hT1 hT2 i1 hO
          go_wp2_with (go_at_call 110; refine (HE.out _ (by (repeat (first | exact New.refl _ | apply New.alloc | apply New.aft | apply New.drew | refine New.setCell ?_ ?_ _)); all_goals (first | done | (simp [size_aft]; done) | (simp [size_aft]; omega)))).mono ?_; rintro en w1 ⟨rfl, pw, rfl⟩)
          all_goals (try (exfalso; omega))
          all_goals go_roundw
          all_goals first
            | exact ⟨k + 1, by omega, by go_num, by rw [HS.out, HO.out]; rfl, by (repeat (first | exact New.refl _ | apply New.alloc | apply New.aft | apply New.drew | refine New.setCell ?_ ?_ _)); all_goals (first | done | (simp [size_aft]; done) | (simp [size_aft]; omega))⟩
            | (simp [intOf]; omega)
        · have hTy : p * (D - B) < AK * (D - B) + (C - A) * (q - BK) := of_decide_eq_true hT
          have HO := Lib.hid (show O = true from (by rw [hO, ← pass_4 (fun h => g1 (i1.1 h)) g2 g3, hT1, hT]))
          clear hT1 hT2 i1 hO
          go_wp2_with (go_at_call 110; refine (HE.out _ (by (repeat (first | exact New.refl _ | apply New.alloc | apply New.aft | apply New.drew | refine New.setCell ?_ ?_ _)); all_goals (first | done | (simp [size_aft]; done) | (simp [size_aft]; omega)))).mono ?_; rintro en w1 ⟨rfl, pw, rfl⟩)
          all_goals (try (exfalso; omega))
          all_goals go_roundw
          all_goals first
            | exact ⟨k + 1, by omega, by go_num, by rw [HS.out, HO.out]; rfl, by (repeat (first | exact New.refl _ | apply New.alloc | apply New.aft | apply New.drew | refine New.setCell ?_ ?_ _)); all_goals (first | done | (simp [size_aft]; done) | (simp [size_aft]; omega))⟩
            | (simp [intOf]; omega)
    · have HK := Lib.hid (show k = n by omega)
      go_wp2_with fail
      go_ret
      exact ⟨ret_bool (by rw [HK.out]), by (repeat (first | exact New.refl _ | apply New.alloc | apply New.aft | apply New.drew | refine New.setCell ?_ ?_ _)); all_goals (first | done | (simp [size_aft]; done) | (simp [size_aft]; omega))⟩

end Go.Proofs.YtpdfbboagaflhaaGreat

set_option linter.unusedSimpArgs false
set_option linter.unusedVariables false
set_option maxRecDepth 100000
namespace Go.Proofs.YtpdfbboagaflhaaGreat
open Go.RowKit

theorem any_snoc (f : Nat → Bool) (k : Nat) : (List.range (k + 1)).any f = ((List.range k).any f || f k) := by
  rw [List.range_succ, List.any_append]; simp
theorem any_hit {f : Nat → Bool} {k n : Nat} (h : k < n) (e : f k = true) : (List.range n).any f = true := List.any_eq_true.2 ⟨k, List.mem_range.2 h, e⟩

set_option maxHeartbeats 16000000 in
theorem ref_middle (b off n c : Nat) (l : List P2) (a1 a2 a3 a4 num den : Int) (w : World) (hl : n ≤ 1000000) (hw : Pts w b off n l) (hok : okL l = true) (h1 : 0 ≤ a1 ∧ a1 ≤ 10000) (h2 : 0 ≤ a2 ∧ a2 ≤ 10000) (h3 : 0 ≤ a3 ∧ a3 ≤ 10000) (h4 : 0 ≤ a4 ∧ a4 ≤ 10000) (hn : -200000000 ≤ num ∧ num ≤ 200000000) (hd : 0 < den ∧ den ≤ 200000000) :
    Calls Tryz.prog 122 #[.slice (some ⟨b, off, none⟩) n c, sv a1 a2 a3 a4, .int .i64 num, .int .i64 den] w fun en w' => en = .returned (.bool (Geo.middleB l (a1, a2, a3, a4) num den)) ∧ New w w' := by
  have HW := Lib.hid hw
  have HN := Lib.hid hw.1
  have hblt := hw.2.1
  have HED := Lib.hid (fun (k : Nat) (hk : k < n) (w1 : World) (h1 : New w w1) => ref_edge b off n c k l w1 hk hl (HW.out.new h1))
  have HB := Lib.hid (okL_bd hok)
  have n1 := mul_bd a1 den 10000 200000000 (by omega) (by omega) (by omega) (by omega)
  have n2 := mul_bd a2 den 10000 200000000 (by omega) (by omega) (by omega) (by omega)
  have n3 := mul_bd (a3 - a1) num 10000 200000000 (by omega) (by omega) (by omega) (by omega)
  have n4 := mul_bd (a4 - a2) num 10000 200000000 (by omega) (by omega) (by omega) (by omega)
  simp only [Int.reduceMul, Int.reduceNeg] at n1 n2 n3 n4
  have HEN := Lib.hid (fun (w1 : World) (h1 : New w w1) => ref_enclosed_any b off n c l (a1 * den + (a3 - a1) * num) (a2 * den + (a4 - a2) * num) den w1 hl (HW.out.new h1) hok hd (by omega) (by omega))
  have HAL := Lib.hid (show ∀ k, Geo.alongB l (a1, a2, a3, a4) num den k = ((((turnI a1 a2 a3 a4 (px l k) (py l k) == 0) && (turnI a1 a2 a3 a4 (px l ((k + 1) % n)) (py l ((k + 1) % n)) == 0)) && btwB (a1 * den + (a3 - a1) * num) (px l k * den) (px l ((k + 1) % n) * den)) && btwB (a2 * den + (a4 - a2) * num) (py l k * den) (py l ((k + 1) % n) * den)) from fun k => by rw [← HN.out]; rfl)
  have HMD := Lib.hid (show Geo.middleB l (a1, a2, a3, a4) num den = ((List.range n).any (Geo.alongB l (a1, a2, a3, a4) num den) || oddTo (edgesL (l.map (Geo.sc den))) (a1 * den + (a3 - a1) * num) (a2 * den + (a4 - a2) * num) n) by rw [← HN.out]; rfl)
  generalize Geo.middleB l (a1, a2, a3, a4) num den = M at *
  generalize Geo.alongB l (a1, a2, a3, a4) num den = f at *
  have HBX := Lib.hid (show ∀ W : World, New (w.alloc (.cells #[.int .i64 a1, .int .i64 a2, .int .i64 a3, .int .i64 a4] 30)) W → (W.cell? ⟨w.heap.size, 0, none⟩ = some (.int .i64 a1) ∧ W.cell? ⟨w.heap.size, 1, none⟩ = some (.int .i64 a2)) ∧ W.cell? ⟨w.heap.size, 2, none⟩ = some (.int .i64 a3) ∧ W.cell? ⟨w.heap.size, 3, none⟩ = some (.int .i64 a4) from fun W h => ⟨⟨(h.below.cell (p := ⟨w.heap.size, 0, none⟩) (by simp)).trans (by simp [go_sem]), (h.below.cell (p := ⟨w.heap.size, 1, none⟩) (by simp)).trans (by simp [go_sem])⟩, (h.below.cell (p := ⟨w.heap.size, 2, none⟩) (by simp)).trans (by simp [go_sem]), (h.below.cell (p := ⟨w.heap.size, 3, none⟩) (by simp)).trans (by simp [go_sem])⟩)
  have HW1 := Lib.hid (show New w (w.alloc (.cells #[.int .i64 a1, .int .i64 a2, .int .i64 a3, .int .i64 a4] 30)) from (New.refl w).alloc _)
  have HWS := Lib.hid (show (w.alloc (.cells #[.int .i64 a1, .int .i64 a2, .int .i64 a3, .int .i64 a4] 30)).heap.size = w.heap.size + 1 by simp)
  clear hw hok
  go_enter Tryz.func122, Tryz.ntmps122
  go_wp2_with fail
  go_loopw [11] (fun i wr => ∃ k : Nat, k ≤ n ∧ i = .int .i64 k ∧ (List.range k).any f = false ∧ New (w.alloc (.cells #[.int .i64 a1, .int .i64 a2, .int .i64 a3, .int .i64 a4] 30)) wr) (fun i _ => n - (intOf i).toNat)
  case atStart => exact ⟨0, Nat.zero_le _, rfl, rfl, New.refl _⟩
  case round =>
    obtain ⟨k, hk, rfl, han, pr, rfl⟩ := hrel
    have HNEW := Lib.hid (show New (w.alloc (.cells #[.int .i64 a1, .int .i64 a2, .int .i64 a3, .int .i64 a4] 30)) (Aft (w.alloc (.cells #[.int .i64 a1, .int .i64 a2, .int .i64 a3, .int .i64 a4] 30)) pr.d pr.os) from ⟨pr, rfl⟩)
    have HAN := Lib.hid han
    clear han
    by_cases hlt : k < n
    · have HE := Lib.hid (fun (w1 : World) (h1 : New (Aft (w.alloc (.cells #[.int .i64 a1, .int .i64 a2, .int .i64 a3, .int .i64 a4] 30)) pr.d pr.os) w1) => HED.out k hlt w1 (HW1.out.trans (HNEW.out.trans h1)))
      have HA := Lib.hid (HAL.out k)
      obtain ⟨b1, b2⟩ := HB.out k
      obtain ⟨b3, b4⟩ := HB.out ((k + 1) % n)
      generalize px l k = A at *
      generalize py l k = B at *
      generalize px l ((k + 1) % n) = C at *
      generalize py l ((k + 1) % n) = D at *
      have HT1 := Lib.hid (fun w1 => ref_turn a1 a2 a3 a4 A B w1 (by omega) (by omega) (by omega) (by omega) (by omega) (by omega))
      have HT2 := Lib.hid (fun w1 => ref_turn a1 a2 a3 a4 C D w1 (by omega) (by omega) (by omega) (by omega) (by omega) (by omega))
      have HB1 := Lib.hid (fun w1 => ref_between (a1 * den + (a3 - a1) * num) (A * den) (C * den) w1)
      have HB2 := Lib.hid (fun w1 => ref_between (a2 * den + (a4 - a2) * num) (B * den) (D * den) w1)
      have m1 := mul_bd A den 10000 200000000 (by omega) (by omega) (by omega) (by omega)
      have m2 := mul_bd B den 10000 200000000 (by omega) (by omega) (by omega) (by omega)
      have m3 := mul_bd C den 10000 200000000 (by omega) (by omega) (by omega) (by omega)
      have m4 := mul_bd D den 10000 200000000 (by omega) (by omega) (by omega) (by omega)
      simp only [Int.reduceMul, Int.reduceNeg] at m1 m2 m3 m4
      generalize turnI a1 a2 a3 a4 A B = T1 at *
      generalize turnI a1 a2 a3 a4 C D = T2 at *
      generalize btwB (a1 * den + (a3 - a1) * num) (A * den) (C * den) = B1 at *
      generalize btwB (a2 * den + (a4 - a2) * num) (B * den) (D * den) = B2 at *
      by_cases t1 : T1 = 0
      · obtain rfl := t1
        by_cases t2 : T2 = 0
        · obtain rfl := t2
          cases B1
          · have HFK := Lib.hid (show f k = false by rw [HA.out]; rfl)
            go_wp2_with (first | (go_at_call 110; refine (HE.out _ (by (repeat (first | exact New.refl _ | apply New.alloc | apply New.aft | apply New.drew | refine New.setCell ?_ ?_ _)); all_goals (first | done | (simp [size_aft]; done) | (simp [size_aft]; omega)))).mono ?_; rintro en w1 ⟨rfl, pw, rfl⟩) | (go_at_call 87; (with_reducible refine (HT1.out _).mono ?_); rintro en w1 ⟨rfl, pw, rfl⟩) | (go_at_call 87; (with_reducible refine (HT2.out _).mono ?_); rintro en w1 ⟨rfl, pw, rfl⟩) | (go_at_call 165; (with_reducible refine (HB1.out _).mono ?_); rintro en w1 ⟨rfl, pw, rfl⟩) | (go_at_call 165; (with_reducible refine (HB2.out _).mono ?_); rintro en w1 ⟨rfl, pw, rfl⟩))
            all_goals (try (exfalso; omega))
            all_goals go_roundw
            all_goals first
              | exact ⟨k + 1, by omega, by go_num, by rw [any_snoc, HAN.out, HFK.out]; rfl, by (repeat (first | exact New.refl _ | apply New.alloc | apply New.aft | apply New.drew | refine New.setCell ?_ ?_ _)); all_goals (first | done | (simp [size_aft]; done) | (simp [size_aft]; omega))⟩
              | (simp [intOf]; omega)
          · cases B2
            · have HFK := Lib.hid (show f k = false by rw [HA.out]; rfl)
              go_wp2_with (first | (go_at_call 110; refine (HE.out _ (by (repeat (first | exact New.refl _ | apply New.alloc | apply New.aft | apply New.drew | refine New.setCell ?_ ?_ _)); all_goals (first | done | (simp [size_aft]; done) | (simp [size_aft]; omega)))).mono ?_; rintro en w1 ⟨rfl, pw, rfl⟩) | (go_at_call 87; (with_reducible refine (HT1.out _).mono ?_); rintro en w1 ⟨rfl, pw, rfl⟩) | (go_at_call 87; (with_reducible refine (HT2.out _).mono ?_); rintro en w1 ⟨rfl, pw, rfl⟩) | (go_at_call 165; (with_reducible refine (HB1.out _).mono ?_); rintro en w1 ⟨rfl, pw, rfl⟩) | (go_at_call 165; (with_reducible refine (HB2.out _).mono ?_); rintro en w1 ⟨rfl, pw, rfl⟩))
              all_goals (try (exfalso; omega))
              all_goals go_roundw
              all_goals first
                | exact ⟨k + 1, by omega, by go_num, by rw [any_snoc, HAN.out, HFK.out]; rfl, by (repeat (first | exact New.refl _ | apply New.alloc | apply New.aft | apply New.drew | refine New.setCell ?_ ?_ _)); all_goals (first | done | (simp [size_aft]; done) | (simp [size_aft]; omega))⟩
                | (simp [intOf]; omega)
            · have HFK := Lib.hid (show M = true by rw [HMD.out, any_hit hlt (show f k = true by rw [HA.out]; rfl)]; rfl)
              go_wp2_with (first | (go_at_call 110; refine (HE.out _ (by (repeat (first | exact New.refl _ | apply New.alloc | apply New.aft | apply New.drew | refine New.setCell ?_ ?_ _)); all_goals (first | done | (simp [size_aft]; done) | (simp [size_aft]; omega)))).mono ?_; rintro en w1 ⟨rfl, pw, rfl⟩) | (go_at_call 87; (with_reducible refine (HT1.out _).mono ?_); rintro en w1 ⟨rfl, pw, rfl⟩) | (go_at_call 87; (with_reducible refine (HT2.out _).mono ?_); rintro en w1 ⟨rfl, pw, rfl⟩) | (go_at_call 165; (with_reducible refine (HB1.out _).mono ?_); rintro en w1 ⟨rfl, pw, rfl⟩) | (go_at_call 165; (with_reducible refine (HB2.out _).mono ?_); rintro en w1 ⟨rfl, pw, rfl⟩))
              all_goals (try (exfalso; omega))
              all_goals go_ret
              all_goals exact ⟨ret_bool HFK.out.symm, by (repeat (first | exact New.refl _ | apply New.alloc | apply New.aft | apply New.drew | refine New.setCell ?_ ?_ _)); all_goals (first | done | (simp [size_aft]; done) | (simp [size_aft]; omega))⟩
        · have HFK := Lib.hid (show f k = false by rw [HA.out]; simp [t2])
          have e2 : (T2 == 0) = false := by simpa using t2
          have e3 : decide (T2 = 0) = false := by simpa using t2
          go_wp2_with (first | (go_at_call 110; refine (HE.out _ (by (repeat (first | exact New.refl _ | apply New.alloc | apply New.aft | apply New.drew | refine New.setCell ?_ ?_ _)); all_goals (first | done | (simp [size_aft]; done) | (simp [size_aft]; omega)))).mono ?_; rintro en w1 ⟨rfl, pw, rfl⟩) | (go_at_call 87; (with_reducible refine (HT1.out _).mono ?_); rintro en w1 ⟨rfl, pw, rfl⟩) | (go_at_call 87; (with_reducible refine (HT2.out _).mono ?_); rintro en w1 ⟨rfl, pw, rfl⟩) | (go_at_call 165; (with_reducible refine (HB1.out _).mono ?_); rintro en w1 ⟨rfl, pw, rfl⟩) | (go_at_call 165; (with_reducible refine (HB2.out _).mono ?_); rintro en w1 ⟨rfl, pw, rfl⟩))
          all_goals (try (exfalso; omega))
          all_goals go_roundw
          all_goals first
            | exact ⟨k + 1, by omega, by go_num, by rw [any_snoc, HAN.out, HFK.out]; rfl, by (repeat (first | exact New.refl _ | apply New.alloc | apply New.aft | apply New.drew | refine New.setCell ?_ ?_ _)); all_goals (first | done | (simp [size_aft]; done) | (simp [size_aft]; omega))⟩
            | (simp [intOf]; omega)
      · have HFK := Lib.hid (show f k = false by rw [HA.out]; simp [t1])
        have e2 : (T1 == 0) = false := by simpa using t1
        have e3 : decide (T1 = 0) = false := by simpa using t1
        go_wp2_with (first | (go_at_call 110; refine (HE.out _ (by (repeat (first | exact New.refl _ | apply New.alloc | apply New.aft | apply New.drew | refine New.setCell ?_ ?_ _)); all_goals (first | done | (simp [size_aft]; done) | (simp [size_aft]; omega)))).mono ?_; rintro en w1 ⟨rfl, pw, rfl⟩) | (go_at_call 87; (with_reducible refine (HT1.out _).mono ?_); rintro en w1 ⟨rfl, pw, rfl⟩) | (go_at_call 87; (with_reducible refine (HT2.out _).mono ?_); rintro en w1 ⟨rfl, pw, rfl⟩) | (go_at_call 165; (with_reducible refine (HB1.out _).mono ?_); rintro en w1 ⟨rfl, pw, rfl⟩) | (go_at_call 165; (with_reducible refine (HB2.out _).mono ?_); rintro en w1 ⟨rfl, pw, rfl⟩))
        all_goals (try (exfalso; omega))
        all_goals go_roundw
        all_goals first
          | exact ⟨k + 1, by omega, by go_num, by rw [any_snoc, HAN.out, HFK.out]; rfl, by (repeat (first | exact New.refl _ | apply New.alloc | apply New.aft | apply New.drew | refine New.setCell ?_ ?_ _)); all_goals (first | done | (simp [size_aft]; done) | (simp [size_aft]; omega))⟩
          | (simp [intOf]; omega)
    · have HK := Lib.hid (show k = n by omega)
      have HRM := Lib.hid (show M = oddTo (edgesL (l.map (Geo.sc den))) (a1 * den + (a3 - a1) * num) (a2 * den + (a4 - a2) * num) n by rw [HMD.out, ← HK.out, HAN.out]; rfl)
      have HEN2 := Lib.hid (fun (w1 : World) (h1 : New (Aft (w.alloc (.cells #[.int .i64 a1, .int .i64 a2, .int .i64 a3, .int .i64 a4] 30)) pr.d pr.os) w1) => HEN.out w1 (HW1.out.trans (HNEW.out.trans h1)))
      go_wp2_with (go_at_call 170; refine (HEN2.out _ (by (repeat (first | exact New.refl _ | apply New.alloc | apply New.aft | apply New.drew | refine New.setCell ?_ ?_ _)); all_goals (first | done | (simp [size_aft]; done) | (simp [size_aft]; omega)))).mono ?_; rintro en w1 ⟨rfl, pw, rfl⟩)
      go_ret
      exact ⟨ret_bool HRM.out.symm, by (repeat (first | exact New.refl _ | apply New.alloc | apply New.aft | apply New.drew | refine New.setCell ?_ ?_ _)); all_goals (first | done | (simp [size_aft]; done) | (simp [size_aft]; omega))⟩

end Go.Proofs.YtpdfbboagaflhaaGreat

set_option linter.unusedSimpArgs false
set_option linter.unusedVariables false
set_option maxRecDepth 100000
namespace Go.Proofs.YtpdfbboagaflhaaGreat
open Go.RowKit

theorem info114 : (Tryz.prog.info? 114).map (fun i => (i.zero, i.size, i.bytes)) = some (some (.agg #[.int .i64 0, .int .i64 0]), 2, 16) := by kernel_rfl
theorem sign_bd (x : Int) : -1 ≤ Int.sign x ∧ Int.sign x ≤ 1 := by rcases sign_cases x with ⟨h, _⟩ | ⟨h, _⟩ | ⟨h, _⟩ <;> omega
theorem grown_keep {W X w5 : World} {row : Option Nat} (h : X.grownBy w5 row) (hn : New W X) {k : Nat} (hk : k < W.heap.size) (hne : some k ≠ row) (o : Nat) : w5.cell? ⟨k, o, none⟩ = W.cell? ⟨k, o, none⟩ := by
  have h1 := h.block k (Nat.lt_of_lt_of_le hk hn.size) hne
  rw [← hn.below.cell (p := ⟨k, o, none⟩) hk]
  simp only [World.cell?, h1]
set_option maxHeartbeats 1000000 in
theorem sign_c (x : Int) (w : World) : Calls Tryz.prog 164 #[.int .i64 x] w fun e w' => e = .returned (.int .i64 (Int.sign x)) ∧ w = w' := by
  rcases sign_cases x with ⟨h, k⟩ | ⟨h, k⟩ | ⟨h, k⟩
  all_goals
    rw [h]; clear h
    go_enter Tryz.func164, Tryz.ntmps164
    go_wp2
    all_goals (try (exfalso; omega))
    all_goals (go_ret; exact ⟨rfl, rfl⟩)

set_option maxHeartbeats 16000000 in
theorem ref_stops (b off n c : Nat) (l : List P2) (a1 a2 a3 a4 : Int) (w : World) (hl : n ≤ 900000) (hw : Pts w b off n l) (hok : okL l = true) (h1 : 0 ≤ a1 ∧ a1 ≤ 10000) (h2 : 0 ≤ a2 ∧ a2 ≤ 10000) (h3 : 0 ≤ a3 ∧ a3 ≤ 10000) (h4 : 0 ≤ a4 ∧ a4 ≤ 10000)
    (hnc : ∀ k, k < n → meetR a1 a2 a3 a4 (px l k) (py l k) (px l ((k + 1) % n)) (py l ((k + 1) % n)) ≠ 3) (hfl : ∀ k, (Geo.frTo l (a1, a2, a3, a4) k).length ≤ k + 2) :
    Calls Tryz.prog 121 #[.slice (some ⟨b, off, none⟩) n c, sv a1 a2 a3 a4] w fun en w' => ∃ g cap, en = .returned (.slice (some ⟨g, 0, none⟩) (Geo.frTo l (a1, a2, a3, a4) n).length cap) ∧ w'.ownsRow w.heap.size 114 2 (.slice (some ⟨g, 0, none⟩) (Geo.frTo l (a1, a2, a3, a4) n).length cap) (Geo.frTo l (a1, a2, a3, a4) n).length (ptCells (Geo.frTo l (a1, a2, a3, a4) n)) ∧ New w w' := by
  obtain ⟨i0, hi, hz0, hz1, hz2⟩ := info_parts info114
  have HW := Lib.hid hw
  have HN := Lib.hid hw.1
  have hblt := hw.2.1
  have HED := Lib.hid (fun (k : Nat) (hk : k < n) (w1 : World) (h1 : New w w1) => ref_edge b off n c k l w1 hk (by omega) (HW.out.new h1))
  have HB := Lib.hid (okL_bd hok)
  have HNC := Lib.hid hnc
  have HFL := Lib.hid hfl
  have HF0 := Lib.hid (show ∀ k, Geo.frTo l (a1, a2, a3, a4) (k + 1) = if onB (px l k) (py l k) a1 a2 a3 a4 then Geo.frTo l (a1, a2, a3, a4) k ++ [Geo.frP1 (a1, a2, a3, a4) (px l k, py l k)] else Geo.frTo l (a1, a2, a3, a4) k from fun k => rfl)
  have HFZ := Lib.hid (show Geo.frTo l (a1, a2, a3, a4) 0 = [(0, 1), (1, 1)] from rfl)
  have HP1 := Lib.hid (show ∀ x y, Geo.frP1 (a1, a2, a3, a4) (x, y) = if a3 - a1 ≠ 0 then ((x - a1) * Int.sign (a3 - a1), (a3 - a1) * Int.sign (a3 - a1)) else ((y - a2) * Int.sign (a4 - a2), (a4 - a2) * Int.sign (a4 - a2)) from fun x y => rfl)
  have HS1 := Lib.hid (fun w1 => sign_c (a3 - a1) w1)
  have HS2 := Lib.hid (fun w1 => sign_c (a4 - a2) w1)
  have sb1 := sign_bd (a3 - a1)
  have sb2 := sign_bd (a4 - a2)
  generalize Geo.frTo l (a1, a2, a3, a4) = F at *
  generalize Geo.frP1 (a1, a2, a3, a4) = P at *
  generalize Int.sign (a3 - a1) = S at *
  generalize Int.sign (a4 - a2) = S' at *
  have HOWN0 := Lib.hid (show ((w.alloc (.cells #[.int .i64 a1, .int .i64 a2, .int .i64 a3, .int .i64 a4] 30)).alloc (.cells #[.int .i64 0, .int .i64 1, .int .i64 1, .int .i64 1] 114)).ownsRow (w.alloc (.cells #[.int .i64 a1, .int .i64 a2, .int .i64 a3, .int .i64 a4] 30)).heap.size 114 2 (.slice (some ⟨w.heap.size + 1, 0, none⟩) 2 2) 2 (ptCells [(0, 1), (1, 1)]) from
    own_mk rfl (by simp) (by have := heap_alloc_new (w.alloc (.cells #[.int .i64 a1, .int .i64 a2, .int .i64 a3, .int .i64 a4] 30)) (.cells #[.int .i64 0, .int .i64 1, .int .i64 1, .int .i64 1] 114); simpa using this) (Nat.le_refl _) (by unfold maxLen; omega) rfl rfl)
  have HBX := Lib.hid (show ∀ W : World, New (w.alloc (.cells #[.int .i64 a1, .int .i64 a2, .int .i64 a3, .int .i64 a4] 30)) W → (W.cell? ⟨w.heap.size, 0, none⟩ = some (.int .i64 a1) ∧ W.cell? ⟨w.heap.size, 1, none⟩ = some (.int .i64 a2)) ∧ W.cell? ⟨w.heap.size, 2, none⟩ = some (.int .i64 a3) ∧ W.cell? ⟨w.heap.size, 3, none⟩ = some (.int .i64 a4) from fun W h => ⟨⟨(h.below.cell (p := ⟨w.heap.size, 0, none⟩) (by simp)).trans (by simp [go_sem]), (h.below.cell (p := ⟨w.heap.size, 1, none⟩) (by simp)).trans (by simp [go_sem])⟩, (h.below.cell (p := ⟨w.heap.size, 2, none⟩) (by simp)).trans (by simp [go_sem]), (h.below.cell (p := ⟨w.heap.size, 3, none⟩) (by simp)).trans (by simp [go_sem])⟩)
  have HW1 := Lib.hid (show New w (w.alloc (.cells #[.int .i64 a1, .int .i64 a2, .int .i64 a3, .int .i64 a4] 30)) from (New.refl w).alloc _)
  have HWS := Lib.hid (show (w.alloc (.cells #[.int .i64 a1, .int .i64 a2, .int .i64 a3, .int .i64 a4] 30)).heap.size = w.heap.size + 1 by simp)
  clear hw hok hnc hfl
  go_enter Tryz.func121, Tryz.ntmps121
  go_wp2_with fail
  go_loopw [7, 8] (fun v i wr => ∃ (k gc cc : Nat), k ≤ n ∧ i = .int .i64 k ∧ v = .slice (some ⟨gc, 0, none⟩) (F k).length cc ∧ wr.ownsRow (w.alloc (.cells #[.int .i64 a1, .int .i64 a2, .int .i64 a3, .int .i64 a4] 30)).heap.size 114 2 (.slice (some ⟨gc, 0, none⟩) (F k).length cc) (F k).length (ptCells (F k)) ∧ New (w.alloc (.cells #[.int .i64 a1, .int .i64 a2, .int .i64 a3, .int .i64 a4] 30)) wr) (fun _ i _ => n - (intOf i).toNat)
  case atStart => exact ⟨0, w.heap.size + 1, 2, Nat.zero_le _, rfl, by rw [HFZ.out]; rfl, by have := HOWN0.out; rw [HFZ.out]; exact this, (New.refl _).alloc _⟩
  case round =>
    obtain ⟨k, gc, cc, hk, rfl, rfl, hown, hnew⟩ := hrel
    obtain ⟨W2, rfl⟩ : ∃ W2 : World, W2 = wr := ⟨_, rfl⟩
    have HOWN := Lib.hid hown
    have HNEW := Lib.hid hnew
    have hlen := HFL.out k
    obtain ⟨⟨s1, s2⟩, s3, s4⟩ := HBX.out _ HNEW.out
    have hsz0 := HNEW.out.size
    rw [HWS.out] at hsz0
    have hlt0 : w.heap.size < W2.heap.size := by omega
    have hlt1 : ∀ c, (w.heap.size < W2.heap.size + c) = True := fun c => eq_true (by omega)
    have hlt2 : ∀ c, (w.heap.size < W2.heap.size + c + 1) = True := fun c => eq_true (by omega)
    have hlt3 : ∀ c, (w.heap.size < W2.heap.size + c + 1 + 1) = True := fun c => eq_true (by omega)
    clear hown hnew hsz0
    by_cases hlt : k < n
    · have HE := Lib.hid (fun (w1 : World) (h1 : New W2 w1) => HED.out k hlt w1 (HW1.out.trans (HNEW.out.trans h1)))
      have hnc := HNC.out k hlt
      have HSK := Lib.hid (HF0.out k)
      obtain ⟨b1, b2⟩ := HB.out k
      obtain ⟨b3, b4⟩ := HB.out ((k + 1) % n)
      have HPK := Lib.hid (HP1.out (px l k) (py l k))
      generalize px l k = X at *
      generalize py l k = Y at *
      generalize px l ((k + 1) % n) = C at *
      generalize py l ((k + 1) % n) = D at *
      have HON := Lib.hid (fun w1 => ref_on X Y a1 a2 a3 a4 w1 (by omega) (by omega) (by omega) (by omega) (by omega) (by omega))
      rw [onR_eq] at HON
      have HMT := Lib.hid (fun w1 => ref_meet a1 a2 a3 a4 X Y C D w1 h1 h2 h3 h4 b1 b2 b3 b4)
      generalize meetR a1 a2 a3 a4 X Y C D = MV at *
      generalize onB X Y a1 a2 a3 a4 = ON at *
      have q1 : (MV == 3) = false := by simpa using hnc
      have q2 : decide (MV = 3) = false := by simpa using hnc
      clear hnc
      have m1 := mul_bd (X - a1) S 10000 1 (by omega) (by omega) (by omega) (by omega)
      have m2 := mul_bd (a3 - a1) S 10000 1 (by omega) (by omega) (by omega) (by omega)
      have m3 := mul_bd (Y - a2) S' 10000 1 (by omega) (by omega) (by omega) (by omega)
      have m4 := mul_bd (a4 - a2) S' 10000 1 (by omega) (by omega) (by omega) (by omega)
      simp only [Int.reduceMul, Int.reduceNeg] at m1 m2 m3 m4
      generalize hm : (F k).length = m at *
      have HM := Lib.hid hm
      clear hm
      cases ON
      · have HS := Lib.hid (show F (k + 1) = F k by rw [HSK.out]; rfl)
        go_wp2_with (first | (go_at_call 110; refine (HE.out _ (by (repeat (first | exact New.refl _ | apply New.alloc | apply New.aft | apply New.drew | refine New.setCell ?_ ?_ _)); all_goals (first | done | (simp [size_aft]; done) | (simp [size_aft]; omega)))).mono ?_; rintro en w1 ⟨rfl, pw, rfl⟩) | (go_at_call 91; refine (HON.out _).mono ?_; rintro en w1 ⟨rfl, pw, rfl⟩) | (go_at_call 97; refine (HMT.out _).mono ?_; rintro en w1 ⟨rfl, pw, rfl⟩))
        go_roundw
        case rel => exact ⟨k + 1, gc, cc, by omega, by go_num, by rw [HS.out, HM.out], by rw [HS.out, HM.out]; exact own_new HOWN.out (by (repeat (first | exact New.refl _ | apply New.alloc | apply New.aft | apply New.drew | refine New.setCell ?_ ?_ _)); all_goals (first | done | (simp [size_aft]; done) | (simp [size_aft]; omega))), HNEW.out.trans (by (repeat (first | exact New.refl _ | apply New.alloc | apply New.aft | apply New.drew | refine New.setCell ?_ ?_ _)); all_goals (first | done | (simp [size_aft]; done) | (simp [size_aft]; omega)))⟩
        case measure => simp [intOf]; omega
      · by_cases hdx : a3 - a1 = 0
        · have HS := Lib.hid (show F (k + 1) = F k ++ [((Y - a2) * S', (a4 - a2) * S')] by rw [HSK.out, if_pos rfl, HPK.out, if_neg (fun h => h hdx)])
          have HL1 := Lib.hid (show (F (k + 1)).length = m + 1 by rw [HS.out, List.length_append, HM.out]; rfl)
          have q3 : ((a3 - a1) != 0) = false := by simpa using hdx
          have q4 : decide ((a3 - a1) = 0) = true := by simpa using hdx
          have q5 : ((a3 - a1) == 0) = true := by simpa using hdx
          clear hdx
          go_upto_region 13 with (first | (go_at_call 110; refine (HE.out _ (by (repeat (first | exact New.refl _ | apply New.alloc | apply New.aft | apply New.drew | refine New.setCell ?_ ?_ _)); all_goals (first | done | (simp [size_aft]; done) | (simp [size_aft]; omega)))).mono ?_; rintro en w1 ⟨rfl, pw1, rfl⟩) | (go_at_call 91; refine (HON.out _).mono ?_; rintro en w1 ⟨rfl, pw2, rfl⟩))
          have hwa : IntKind.i64.wrap (Y - a2) = Y - a2 := by rw [IntKind.wrap_i64]; omega
          have hwb : IntKind.i64.wrap ((Y - a2) * S') = (Y - a2) * S' := by rw [IntKind.wrap_i64]; omega
          have hwc : IntKind.i64.wrap ((a4 - a2) * S') = (a4 - a2) * S' := by rw [IntKind.wrap_i64]; omega
          have HK2 := Lib.hid (show m + 1 ≤ maxLen by unfold maxLen; omega)
          have HK3 := Lib.hid (show (m + 1) * 16 ≤ 140737488355328 by omega)
          have HBS := Lib.hid (show (w.alloc (.cells #[.int .i64 a1, .int .i64 a2, .int .i64 a3, .int .i64 a4] 30)).heap.size ≤ W2.heap.size by simp; omega)
          have gc1 := (HOWN.out.lt gc rfl).1
          have gc2 := (HOWN.out.lt gc rfl).2
          simp only [World.size_alloc] at gc1
          go_cut [7] from 33 to 139 (fun s7 wx => (∃ g5 cap5 : Nat, s7 = .slice (some ⟨g5, 0, none⟩) (m + 1) cap5 ∧ wx.ownsRow (w.alloc (.cells #[.int .i64 a1, .int .i64 a2, .int .i64 a3, .int .i64 a4] 30)).heap.size 114 2 (.slice (some ⟨g5, 0, none⟩) (m + 1) cap5) (m + 1) (ptCells (F k) ++ [.int .i64 ((Y - a2) * S'), .int .i64 ((a4 - a2) * S')])) ∧ New (w.alloc (.cells #[.int .i64 a1, .int .i64 a2, .int .i64 a3, .int .i64 a4] 30)) wx ∧ wx.cell? ⟨w.heap.size, 0, none⟩ = some (.int .i64 a1) ∧ wx.cell? ⟨w.heap.size, 1, none⟩ = some (.int .i64 a2) ∧ wx.cell? ⟨w.heap.size, 2, none⟩ = some (.int .i64 a3) ∧ wx.cell? ⟨w.heap.size, 3, none⟩ = some (.int .i64 a4) ∧ wx.cell? ⟨W2.heap.size + pw1.os.size, 0, none⟩ = some (.int .i64 X) ∧ wx.cell? ⟨W2.heap.size + pw1.os.size, 1, none⟩ = some (.int .i64 Y) ∧ wx.cell? ⟨W2.heap.size + pw1.os.size, 2, none⟩ = some (.int .i64 C) ∧ wx.cell? ⟨W2.heap.size + pw1.os.size, 3, none⟩ = some (.int .i64 D))
          case first =>
            go_region_law (first | (refine step_append_lies _ ?_ (.tmp 67) (.tmp 82) 112 ?_ (w.alloc (.cells #[.int .i64 a1, .int .i64 a2, .int .i64 a3, .int .i64 a4] 30)).heap.size 114 i0 _ 2 16 Tryz.underlying112 hi hz0 hz1 hz2 rfl (by omega) (.slice (some ⟨gc, 0, none⟩) m cc) m (ptCells (F k)) ?_ ?_ ⟨W2.heap.size + pw1.os.size + 1 + 1 + pw2.os.size, 0, none⟩ 1 1 [.int .i64 ((Y - a2) * S'), .int .i64 ((a4 - a2) * S')] ?_ rfl ?_ ?_ (by omega) ?_ ?_ ?_ _ rfl ?_; exact rfl; exact rfl; exact rfl; exact own_new HOWN.out (by (repeat (first | exact New.refl _ | apply New.alloc | apply New.aft | apply New.drew | refine New.setCell ?_ ?_ _)); all_goals (first | done | (simp [size_aft]; done) | (simp [size_aft]; omega))); exact rfl; (refine cells_new _ _ _ _ ?_); (simp [go_sem, Nat.add_assoc]); (intro u hu; simp at hu; rcases hu with rfl | rfl <;> rfl); exact HK2.out; exact HK3.out; (have := HBS.out; simp [go_sem] at this ⊢; omega); intro g5 cap5 w5 hown5 hgrow5 hor5 hlt5) | (go_simp; go_at_call 164; refine (HS2.out _).mono ?_; rintro e w' ⟨rfl, rfl⟩))
            all_goals
              have HNW5 := Lib.hid (show New (w.alloc (.cells #[.int .i64 a1, .int .i64 a2, .int .i64 a3, .int .i64 a4] 30)) w5 from new_grown (HNEW.out.trans (by (repeat (first | exact New.refl _ | apply New.alloc | apply New.aft | apply New.drew | refine New.setCell ?_ ?_ _)); all_goals (first | done | (simp [size_aft]; done) | (simp [size_aft]; omega)))) hgrow5 HOWN.out)
              have HO5 := Lib.hid hown5
              have KB := Lib.hid (fun o => grown_keep hgrow5 (W := W2) (by (repeat (first | exact New.refl _ | apply New.alloc | apply New.aft | apply New.drew | refine New.setCell ?_ ?_ _)); all_goals (first | done | (simp [size_aft]; done) | (simp [size_aft]; omega))) hlt0 (by intro e; simp [Value.ownBlock] at e; omega) o)
              have KE := Lib.hid (fun o => grown_keep hgrow5 (W := (Aft W2 pw1.d pw1.os).alloc (.cells #[.int .i64 X, .int .i64 Y, .int .i64 C, .int .i64 D] 30)) (k := W2.heap.size + pw1.os.size) (by (repeat (first | exact New.refl _ | apply New.alloc | apply New.aft | apply New.drew | refine New.setCell ?_ ?_ _)); all_goals (first | done | (simp [size_aft]; done) | (simp [size_aft]; omega))) (by simp [go_sem]) (by intro e; simp [Value.ownBlock] at e; omega) o)
              clear hown5 hgrow5 hor5 hlt5
              go_wp2_with fail
              go_meet
              exact ⟨⟨g5, cap5, rfl, HO5.out⟩, HNW5.out, (KB.out 0).trans s1, (KB.out 1).trans s2, (KB.out 2).trans s3, (KB.out 3).trans s4, (KE.out 0).trans (by simp [go_sem]), (KE.out 1).trans (by simp [go_sem]), (KE.out 2).trans (by simp [go_sem]), (KE.out 3).trans (by simp [go_sem])⟩
          case rest =>
            obtain ⟨wx, rfl⟩ : ∃ wx : World, wx = wc := ⟨_, rfl⟩
            obtain ⟨⟨g5, cap5, rfl, ho5⟩, hn5, r1, r2, r3, r4, r5, r6, r7, r8⟩ := hcut
            have HNW5 := Lib.hid hn5
            have HO5 := Lib.hid ho5
            clear ho5 hn5 hwa hwb hwc s1 s2 s3 s4
            go_wp2_with (go_at_call 97; refine (HMT.out _).mono ?_; rintro en w1 ⟨rfl, pw, rfl⟩)
            go_roundw
            case rel => exact ⟨k + 1, g5, cap5, by omega, by go_num, by rw [HL1.out], by rw [HL1.out, HS.out, ptCells_snoc]; exact own_new HO5.out (by (repeat (first | exact New.refl _ | apply New.alloc | apply New.aft | apply New.drew | refine New.setCell ?_ ?_ _)); all_goals (first | done | (simp [size_aft]; done) | (simp [size_aft]; omega))), HNW5.out.trans (by (repeat (first | exact New.refl _ | apply New.alloc | apply New.aft | apply New.drew | refine New.setCell ?_ ?_ _)); all_goals (first | done | (simp [size_aft]; done) | (simp [size_aft]; omega)))⟩
            case measure => simp [intOf]; omega
        · have HS := Lib.hid (show F (k + 1) = F k ++ [((X - a1) * S, (a3 - a1) * S)] by rw [HSK.out, if_pos rfl, HPK.out, if_pos hdx])
          have HL1 := Lib.hid (show (F (k + 1)).length = m + 1 by rw [HS.out, List.length_append, HM.out]; rfl)
          have q3 : ((a3 - a1) != 0) = true := by simpa using hdx
          have q4 : decide ((a3 - a1) = 0) = false := by simpa using hdx
          go_upto_region 12 with (first | (go_at_call 110; refine (HE.out _ (by (repeat (first | exact New.refl _ | apply New.alloc | apply New.aft | apply New.drew | refine New.setCell ?_ ?_ _)); all_goals (first | done | (simp [size_aft]; done) | (simp [size_aft]; omega)))).mono ?_; rintro en w1 ⟨rfl, pw1, rfl⟩) | (go_at_call 91; refine (HON.out _).mono ?_; rintro en w1 ⟨rfl, pw2, rfl⟩))
          have hwa : IntKind.i64.wrap (X - a1) = X - a1 := by rw [IntKind.wrap_i64]; omega
          have hwb : IntKind.i64.wrap ((X - a1) * S) = (X - a1) * S := by rw [IntKind.wrap_i64]; omega
          have hwc : IntKind.i64.wrap ((a3 - a1) * S) = (a3 - a1) * S := by rw [IntKind.wrap_i64]; omega
          have HK2 := Lib.hid (show m + 1 ≤ maxLen by unfold maxLen; omega)
          have HK3 := Lib.hid (show (m + 1) * 16 ≤ 140737488355328 by omega)
          have HBS := Lib.hid (show (w.alloc (.cells #[.int .i64 a1, .int .i64 a2, .int .i64 a3, .int .i64 a4] 30)).heap.size ≤ W2.heap.size by simp; omega)
          have gc1 := (HOWN.out.lt gc rfl).1
          have gc2 := (HOWN.out.lt gc rfl).2
          simp only [World.size_alloc] at gc1
          go_cut [7] from 33 to 139 (fun s7 wx => (∃ g5 cap5 : Nat, s7 = .slice (some ⟨g5, 0, none⟩) (m + 1) cap5 ∧ wx.ownsRow (w.alloc (.cells #[.int .i64 a1, .int .i64 a2, .int .i64 a3, .int .i64 a4] 30)).heap.size 114 2 (.slice (some ⟨g5, 0, none⟩) (m + 1) cap5) (m + 1) (ptCells (F k) ++ [.int .i64 ((X - a1) * S), .int .i64 ((a3 - a1) * S)])) ∧ New (w.alloc (.cells #[.int .i64 a1, .int .i64 a2, .int .i64 a3, .int .i64 a4] 30)) wx ∧ wx.cell? ⟨w.heap.size, 0, none⟩ = some (.int .i64 a1) ∧ wx.cell? ⟨w.heap.size, 1, none⟩ = some (.int .i64 a2) ∧ wx.cell? ⟨w.heap.size, 2, none⟩ = some (.int .i64 a3) ∧ wx.cell? ⟨w.heap.size, 3, none⟩ = some (.int .i64 a4) ∧ wx.cell? ⟨W2.heap.size + pw1.os.size, 0, none⟩ = some (.int .i64 X) ∧ wx.cell? ⟨W2.heap.size + pw1.os.size, 1, none⟩ = some (.int .i64 Y) ∧ wx.cell? ⟨W2.heap.size + pw1.os.size, 2, none⟩ = some (.int .i64 C) ∧ wx.cell? ⟨W2.heap.size + pw1.os.size, 3, none⟩ = some (.int .i64 D))
          case first =>
            go_region_law (first | (refine step_append_lies _ ?_ (.tmp 50) (.tmp 65) 112 ?_ (w.alloc (.cells #[.int .i64 a1, .int .i64 a2, .int .i64 a3, .int .i64 a4] 30)).heap.size 114 i0 _ 2 16 Tryz.underlying112 hi hz0 hz1 hz2 rfl (by omega) (.slice (some ⟨gc, 0, none⟩) m cc) m (ptCells (F k)) ?_ ?_ ⟨W2.heap.size + pw1.os.size + 1 + 1 + pw2.os.size, 0, none⟩ 1 1 [.int .i64 ((X - a1) * S), .int .i64 ((a3 - a1) * S)] ?_ rfl ?_ ?_ (by omega) ?_ ?_ ?_ _ rfl ?_; exact rfl; exact rfl; exact rfl; exact own_new HOWN.out (by (repeat (first | exact New.refl _ | apply New.alloc | apply New.aft | apply New.drew | refine New.setCell ?_ ?_ _)); all_goals (first | done | (simp [size_aft]; done) | (simp [size_aft]; omega))); exact rfl; (refine cells_new _ _ _ _ ?_); (simp [go_sem, Nat.add_assoc]); (intro u hu; simp at hu; rcases hu with rfl | rfl <;> rfl); exact HK2.out; exact HK3.out; (have := HBS.out; simp [go_sem] at this ⊢; omega); intro g5 cap5 w5 hown5 hgrow5 hor5 hlt5) | (go_simp; go_at_call 164; refine (HS1.out _).mono ?_; rintro e w' ⟨rfl, rfl⟩))
            all_goals
              have HNW5 := Lib.hid (show New (w.alloc (.cells #[.int .i64 a1, .int .i64 a2, .int .i64 a3, .int .i64 a4] 30)) w5 from new_grown (HNEW.out.trans (by (repeat (first | exact New.refl _ | apply New.alloc | apply New.aft | apply New.drew | refine New.setCell ?_ ?_ _)); all_goals (first | done | (simp [size_aft]; done) | (simp [size_aft]; omega)))) hgrow5 HOWN.out)
              have HO5 := Lib.hid hown5
              have KB := Lib.hid (fun o => grown_keep hgrow5 (W := W2) (by (repeat (first | exact New.refl _ | apply New.alloc | apply New.aft | apply New.drew | refine New.setCell ?_ ?_ _)); all_goals (first | done | (simp [size_aft]; done) | (simp [size_aft]; omega))) hlt0 (by intro e; simp [Value.ownBlock] at e; omega) o)
              have KE := Lib.hid (fun o => grown_keep hgrow5 (W := (Aft W2 pw1.d pw1.os).alloc (.cells #[.int .i64 X, .int .i64 Y, .int .i64 C, .int .i64 D] 30)) (k := W2.heap.size + pw1.os.size) (by (repeat (first | exact New.refl _ | apply New.alloc | apply New.aft | apply New.drew | refine New.setCell ?_ ?_ _)); all_goals (first | done | (simp [size_aft]; done) | (simp [size_aft]; omega))) (by simp [go_sem]) (by intro e; simp [Value.ownBlock] at e; omega) o)
              clear hown5 hgrow5 hor5 hlt5
              go_wp2_with fail
              go_meet
              exact ⟨⟨g5, cap5, rfl, HO5.out⟩, HNW5.out, (KB.out 0).trans s1, (KB.out 1).trans s2, (KB.out 2).trans s3, (KB.out 3).trans s4, (KE.out 0).trans (by simp [go_sem]), (KE.out 1).trans (by simp [go_sem]), (KE.out 2).trans (by simp [go_sem]), (KE.out 3).trans (by simp [go_sem])⟩
          case rest =>
            obtain ⟨wx, rfl⟩ : ∃ wx : World, wx = wc := ⟨_, rfl⟩
            obtain ⟨⟨g5, cap5, rfl, ho5⟩, hn5, r1, r2, r3, r4, r5, r6, r7, r8⟩ := hcut
            have HNW5 := Lib.hid hn5
            have HO5 := Lib.hid ho5
            clear ho5 hn5 hwa hwb hwc s1 s2 s3 s4
            go_wp2_with (go_at_call 97; refine (HMT.out _).mono ?_; rintro en w1 ⟨rfl, pw, rfl⟩)
            go_roundw
            case rel => exact ⟨k + 1, g5, cap5, by omega, by go_num, by rw [HL1.out], by rw [HL1.out, HS.out, ptCells_snoc]; exact own_new HO5.out (by (repeat (first | exact New.refl _ | apply New.alloc | apply New.aft | apply New.drew | refine New.setCell ?_ ?_ _)); all_goals (first | done | (simp [size_aft]; done) | (simp [size_aft]; omega))), HNW5.out.trans (by (repeat (first | exact New.refl _ | apply New.alloc | apply New.aft | apply New.drew | refine New.setCell ?_ ?_ _)); all_goals (first | done | (simp [size_aft]; done) | (simp [size_aft]; omega)))⟩
            case measure => simp [intOf]; omega
    · have hkn : k = n := by omega
      have HSZ := Lib.hid HNEW.out.size
      subst hkn
      go_wp2_with fail
      go_ret
      exact ⟨gc, cc, rfl, own_base HOWN.out (by have := HW1.out.size; omega), HW1.out.trans HNEW.out⟩

end Go.Proofs.YtpdfbboagaflhaaGreat
