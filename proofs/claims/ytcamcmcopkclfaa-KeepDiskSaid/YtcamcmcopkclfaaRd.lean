/- The reference's disk: Crash. -/
import Derived.Test.YtcamcmcopkclfaaRc
import Derived.WalkLawsBesides
set_option linter.unusedSimpArgs false
set_option linter.unusedVariables false
set_option maxRecDepth 100000
namespace Go.Proofs.Ytcamcmcopkclfaa
open Go.RowKit

theorem spl_short (L : List UInt8) (a : Nat) (c : List UInt8) (hc : c.length ≤ 64) (hl : (a + 1) * 64 ≤ L.length) : spl L (a * 64) c = spl L (a * 64) (c ++ (sect L a).drop c.length) := by
  have hs := sect_length L a hl
  unfold spl
  rw [List.length_append, List.length_drop, hs, show c.length + (64 - c.length) = 64 by omega]
  have e : L.drop (a * 64 + c.length) = (sect L a).drop c.length ++ L.drop (a * 64 + 64) := by
    unfold sect
    rw [List.drop_take, show a * 64 + 64 = (a * 64 + c.length) + (64 - c.length) by omega, ← List.drop_drop (i := 64 - c.length), ← List.drop_drop, List.take_append_drop]
  rw [e]
  simp [List.append_assoc]
/-- the string that a torn write leaves -/
theorem ext_take (X : List UInt8) (k : Nat) (hk : k ≤ X.length) : (⟨X.toArray⟩ : ByteArray).extract 0 k = ⟨(X.take k).toArray⟩ := by
  apply ByteArray.ext
  rw [ByteArray.data_extract]
  apply Array.ext'
  simp
theorem ext_drop (X : List UInt8) (k : Nat) : (⟨X.toArray⟩ : ByteArray).extract k (⟨X.toArray⟩ : ByteArray).size = ⟨(X.drop k).toArray⟩ := by
  have hs : (⟨X.toArray⟩ : ByteArray).size = X.length := by show X.toArray.size = _; simp
  rw [hs]
  apply ByteArray.ext
  rw [ByteArray.data_extract]
  apply Array.ext'
  simp [List.extract_eq_take_drop, List.take_of_length_le]
def KsR (w : World) (T : Nat) (v : Value) (ks : List Int) : Prop :=
  ∃ ad cap, v = .slice ad ks.length cap ∧ (0 < ks.length → ∃ g o, ad = some ⟨g, o, none⟩ ∧ w.rangeAt g o (ks.map (Value.int .i64)) ∧ g ≠ T)

set_option maxHeartbeats 8000000 in
theorem crashR_c {w : World} {base R n T tc : Nat} {pv kv : Value} {l : Int} {s : DS} {ks : List Int} (h : Rk w base R n (.slice (some ⟨T, 0, none⟩) n tc) pv l s) (hk : KsR w T kv ks) (hroom : s.pend.length ≤ 100000) (hks : ks.length ≤ 9223372036854775807) :
    Calls Try.prog 21 #[.pointer (some ⟨R, 0, none⟩), kv] w fun e w' => e = .returned (.tuple #[]) ∧ AfterR w base R n (.slice (some ⟨T, 0, none⟩) n tc) pv (s.crash ks) w' := by
  have HD := Lib.hid h
  obtain ⟨ka, kc, rfl, hkk⟩ := hk
  have HK := Lib.hid hkk
  obtain ⟨pa, pc, hpv⟩ := own_slice h.hp
  subst hpv
  obtain ⟨m, hm⟩ : ∃ m, m = s.pend.length := ⟨_, rfl⟩
  have Hm := Lib.hid hm
  obtain ⟨kn, hkn⟩ : ∃ kn, kn = ks.length := ⟨_, rfl⟩
  have Hkn := Lib.hid hkn
  have hc0 := h.c0
  have hc1 := h.c1
  rw [← hm] at hc1 hroom
  rw [← hkn] at hks ⊢
  have HC0 := Lib.hid hc0
  have HC1 := Lib.hid hc1
  have hn1 := h.n1
  have hRl := h.lt
  have hTR : ¬ T = R := fun e => h.nd (by rw [e]; rfl)
  have hRT : ¬ R = T := fun e => hTR e.symm
  clear hkk hm hkn h hc0 hc1
  go_enter Try.func21, Try.ntmps21
  go_wp2_with fail
  go_loopw [4] (fun i wr => ∃ k : Nat, k ≤ m ∧ i = .int .i64 (k : Int) ∧ RcW w wr T base n tc (crI s.dur s.pend ks k)) (fun i _ => m - (intOf i).toNat)
  case atStart => exact ⟨0, by omega, rfl, Mod.refl _ _, HD.out.hd⟩
  case round =>
    obtain ⟨j, hjm0, rfl, hcr⟩ := hrel
    obtain ⟨U1, rfl⟩ : ∃ U1 : World, U1 = wr := ⟨_, rfl⟩
    have HCR := Lib.hid hcr
    have c0 : U1.cell? ⟨R, 0, none⟩ = some (.slice (some ⟨T, 0, none⟩) n tc) := by rw [cell_same (hcr.md.2 R hRl hRT)]; exact HC0.out
    have c1 : U1.cell? ⟨R, 1, none⟩ = some (.slice pa m pc) := by rw [cell_same (hcr.md.2 R hRl hRT)]; exact HC1.out
    have hRU : R < U1.heap.size := Nat.lt_of_lt_of_le hRl hcr.md.size
    clear hcr
    by_cases hlt : j < m
    · have hjm : (j : Int) < (m : Int) := by omega
      have hjl : j < s.pend.length := by rw [← Hm.out]; omega
      obtain ⟨P, pc', hv, hPR, hPl, hPb, hP⟩ := HD.out.pForm j hjl
      injection hv with hv1 hv2 hv3
      subst hv1
      have hPT : ¬ P = T := fun e => HD.out.dp T rfl (by rw [← e]; rfl)
      obtain ⟨g0, g1⟩ := hP U1 (HCR.out.md.2 P hPl hPT)
      have hq := HD.out.ok s.pend[j] (List.getElem_mem hjl)
      have hlc := crI_length ks HD.out.len HD.out.ok j
      have hst : crI s.dur s.pend ks (j + 1) = spl (crI s.dur s.pend ks j) (s.pend[j].1 * 64) (s.pend[j].2.take (keepN ks j)) := by rw [crI, List.getElem?_eq_getElem hjl]
      obtain ⟨L, hL⟩ : ∃ L, L = keepN ks j := ⟨_, rfl⟩
      have hL64 : L ≤ 64 := by rw [hL]; exact keepN_le ks j
      have HL := Lib.hid hL
      rw [← hL] at hst
      have htl : (s.pend[j].2.take L).length = L := by rw [List.length_take, hq.2]; omega
      have hsc := sect_length (crI s.dur s.pend ks j) s.pend[j].1 (by rw [hlc]; have := hq.1; omega)
      rw [spl_short _ _ _ (by omega) (by rw [hlc]; have := hq.1; omega), htl] at hst
      have hset := dCs_spl n (crI s.dur s.pend ks j) s.pend[j].1 (s.pend[j].2.take L ++ (sect (crI s.dur s.pend ks j) s.pend[j].1).drop L) (by rw [List.length_append, htl, List.length_drop, hsc]; omega) hq.1 hlc
      rw [← hst] at hset
      obtain ⟨g2, g3⟩ : U1.cell? ⟨T, s.pend[j].1, none⟩ = some (strV (sect (crI s.dur s.pend ks j) s.pend[j].1)) ∧ U1.frozen? ⟨T, s.pend[j].1, none⟩ = false := own_cell HCR.out.hd (dCs_at n _ _ hq.1)
      have hA1 : (s.pend[j].1 : Int) < (n : Int) := by have := hq.1; omega
      obtain ⟨A, hA⟩ : ∃ A, A = s.pend[j].1 := ⟨_, rfl⟩
      obtain ⟨X, hX⟩ : ∃ X : ByteArray, X = ⟨s.pend[j].2.toArray⟩ := ⟨_, rfl⟩
      have hXs : X.size = 64 := by rw [hX]; show s.pend[j].2.toArray.size = 64; simpa using hq.2
      obtain ⟨Y, hY⟩ : ∃ Y : ByteArray, Y = ⟨(sect (crI s.dur s.pend ks j) s.pend[j].1).toArray⟩ := ⟨_, rfl⟩
      have hYs : Y.size = 64 := by rw [hY]; show (sect (crI s.dur s.pend ks j) s.pend[j].1).toArray.size = 64; simpa using hsc
      have HXY := Lib.hid (show X.extract 0 L ++ Y.extract L Y.size = ⟨(s.pend[j].2.take L ++ (sect (crI s.dur s.pend ks j) s.pend[j].1).drop L).toArray⟩ by rw [hX, hY, ext_take _ _ (by rw [hq.2]; exact hL64), ext_drop, str_add])
      have HSA := Lib.hid (show dCs n (crI s.dur s.pend ks (j + 1)) = (dCs n (crI s.dur s.pend ks j)).set A (.string (X.extract 0 L ++ Y.extract L Y.size)) by rw [hA, HXY.out]; exact hset)
      have g1' : U1.cell? ⟨P, j * 2 + 1, none⟩ = some (.string X) := by rw [g1, hX]; rfl
      have g2' : U1.cell? ⟨T, A, none⟩ = some (.string Y) := by rw [hA, g2, hY]; rfl
      have g3' : U1.frozen? ⟨T, A, none⟩ = false := by rw [hA]; exact g3
      rw [← hA] at g0 hA1
      have hA0 : (0 : Int) ≤ (A : Int) := by omega
      have HXs := Lib.hid hXs
      have HYs := Lib.hid hYs
      have hX1 : (X.size : Int) ≤ 64 := by omega
      have hX2 : (64 : Int) ≤ (X.size : Int) := by omega
      have hY1 : (Y.size : Int) ≤ 64 := by omega
      have hY2 : (64 : Int) ≤ (Y.size : Int) := by omega
      have hTl : T < U1.heap.size := World.block_lt_of_cell? _ _ g2'
      have hPl1 : P < U1.heap.size := World.block_lt_of_cell? _ _ g0
      clear hP hv2 hv3 hq hst hlc hset htl hsc hA hX hY hXs hYs HXY g1 g2 g3 hL hjl
      by_cases hkj : j < kn
      · have hkl : (j : Int) < (kn : Int) := by omega
        have hkw : (kn : Int) ≤ 9223372036854775807 := by omega
        obtain ⟨g, o, hka, hrg, hgT⟩ := HK.out (by rw [← Hkn.out]; omega)
        subst hka
        obtain ⟨x, hx⟩ : ∃ x, x = ks.getD j 0 := ⟨_, rfl⟩
        have hck : w.cell? ⟨g, o + j, none⟩ = some (.int .i64 x) := hrg j _ (by rw [List.getElem?_map, List.getElem?_eq_getElem (by rw [← Hkn.out]; exact hkj), hx]; simp [List.getD, List.getElem?_eq_getElem (show j < ks.length by rw [← Hkn.out]; exact hkj)])
        have hgl : g < w.heap.size := World.block_lt_of_cell? w _ hck
        have cK : U1.cell? ⟨g, o + j, none⟩ = some (.int .i64 x) := by rw [cell_same (HCR.out.md.2 g hgl hgT)]; exact hck
        have hLx : L = (min (max x 0) 64).toNat := by rw [HL.out, keepN, if_pos (by rw [← Hkn.out]; exact hkj), hx]
        clear hrg hx hck
        by_cases hx0 : x < 0
        · obtain rfl : L = 0 := by omega
          clear hLx
          go_wp2_with fail
          obtain ⟨H, hH⟩ : ∃ H, H = U1.heap.size := ⟨_, rfl⟩
          obtain ⟨w2, e2⟩ : ∃ w2, w2 = U1.alloc (.cells #[.int .i64 (A : Int), .string X] 65) := ⟨_, rfl⟩
          have hn2 : New U1 w2 := by rw [e2]; exact (New.refl _).alloc _
          have hb2 : w2.heap[H]? = some (.cells #[.int .i64 (A : Int), .string X] 65 (0, 0)) := by rw [e2, hH]; exact World.alloc_heap_new _ _
          have q0 : w2.cell? ⟨R, 0, none⟩ = some (.slice (some ⟨T, 0, none⟩) n tc) := by rw [cell_same (hn2.below.block R hRU)]; exact c0
          have q1 : w2.cell? ⟨H, 0, none⟩ = some (.int .i64 (A : Int)) := by rw [cell_of_row w2 H 0 _ _ _ hb2]; rfl
          have q2 : w2.cell? ⟨H, 1, none⟩ = some (.string X) := by rw [cell_of_row w2 H 1 _ _ _ hb2]; rfl
          have q3 : w2.cell? ⟨T, A, none⟩ = some (.string Y) := by rw [cell_same (hn2.below.block T hTl)]; exact g2'
          have q4 : w2.frozen? ⟨T, A, none⟩ = false := by simp only [World.frozen?, hn2.below.block T hTl]; exact g3'
          rw [← hH, ← e2]
          have HN2 := Lib.hid hn2
          clear e2 hH hn2 hb2 c0 c1 g0 g1' g2' g3'
          go_region
          have HCR2 := Lib.hid (show RcW w (w2.setCell ⟨T, A, none⟩ (.string Y)).drew T base n tc (crI s.dur s.pend ks (j + 1)) from by
            refine ⟨((HCR.out.md.trans (Mod.of_new HN2.out)).trans (Mod.setD w2 T A (.string Y))).trans (Mod.of_new (New.drew (New.refl _))), ?_⟩
            rw [HSA.out, show X.extract 0 0 ++ Y.extract 0 Y.size = Y by simp]
            exact own_new (own_set (own_new HCR.out.hd HN2.out) A (.string Y)) (New.drew (New.refl _)))
          go_wp2_with fail
          go_roundw
          case rel => exact ⟨j + 1, by omega, by go_num, HCR2.out⟩
          case measure => simp [intOf]; omega
        · by_cases hx1 : x ≤ 64
          · obtain rfl : x = (L : Int) := by omega
            clear hLx hx0
            go_wp2_with fail
            obtain ⟨H, hH⟩ : ∃ H, H = U1.heap.size := ⟨_, rfl⟩
            obtain ⟨w2, e2⟩ : ∃ w2, w2 = U1.alloc (.cells #[.int .i64 (A : Int), .string X] 65) := ⟨_, rfl⟩
            have hn2 : New U1 w2 := by rw [e2]; exact (New.refl _).alloc _
            have hb2 : w2.heap[H]? = some (.cells #[.int .i64 (A : Int), .string X] 65 (0, 0)) := by rw [e2, hH]; exact World.alloc_heap_new _ _
            have q0 : w2.cell? ⟨R, 0, none⟩ = some (.slice (some ⟨T, 0, none⟩) n tc) := by rw [cell_same (hn2.below.block R hRU)]; exact c0
            have q1 : w2.cell? ⟨H, 0, none⟩ = some (.int .i64 (A : Int)) := by rw [cell_of_row w2 H 0 _ _ _ hb2]; rfl
            have q2 : w2.cell? ⟨H, 1, none⟩ = some (.string X) := by rw [cell_of_row w2 H 1 _ _ _ hb2]; rfl
            have q3 : w2.cell? ⟨T, A, none⟩ = some (.string Y) := by rw [cell_same (hn2.below.block T hTl)]; exact g2'
            have q4 : w2.frozen? ⟨T, A, none⟩ = false := by simp only [World.frozen?, hn2.below.block T hTl]; exact g3'
            rw [← hH, ← e2]
            have HN2 := Lib.hid hn2
            clear e2 hH hn2 hb2 c0 c1 g0 g1' g2' g3'
            go_region
            have HCR2 := Lib.hid (show RcW w (w2.setCell ⟨T, A, none⟩ (.string (X.extract 0 L ++ Y.extract L Y.size))).drew T base n tc (crI s.dur s.pend ks (j + 1)) from by
              refine ⟨((HCR.out.md.trans (Mod.of_new HN2.out)).trans (Mod.setD w2 T A (.string (X.extract 0 L ++ Y.extract L Y.size)))).trans (Mod.of_new (New.drew (New.refl _))), ?_⟩
              rw [HSA.out]
              exact own_new (own_set (own_new HCR.out.hd HN2.out) A (.string (X.extract 0 L ++ Y.extract L Y.size))) (New.drew (New.refl _)))
            go_wp2_with fail
            go_roundw
            case rel => exact ⟨j + 1, by omega, by go_num, HCR2.out⟩
            case measure => simp [intOf]; omega
          · obtain rfl : L = 64 := by omega
            clear hLx hx0
            go_wp2_with fail
            obtain ⟨H, hH⟩ : ∃ H, H = U1.heap.size := ⟨_, rfl⟩
            obtain ⟨w2, e2⟩ : ∃ w2, w2 = U1.alloc (.cells #[.int .i64 (A : Int), .string X] 65) := ⟨_, rfl⟩
            have hn2 : New U1 w2 := by rw [e2]; exact (New.refl _).alloc _
            have hb2 : w2.heap[H]? = some (.cells #[.int .i64 (A : Int), .string X] 65 (0, 0)) := by rw [e2, hH]; exact World.alloc_heap_new _ _
            have q0 : w2.cell? ⟨R, 0, none⟩ = some (.slice (some ⟨T, 0, none⟩) n tc) := by rw [cell_same (hn2.below.block R hRU)]; exact c0
            have q1 : w2.cell? ⟨H, 0, none⟩ = some (.int .i64 (A : Int)) := by rw [cell_of_row w2 H 0 _ _ _ hb2]; rfl
            have q2 : w2.cell? ⟨H, 1, none⟩ = some (.string X) := by rw [cell_of_row w2 H 1 _ _ _ hb2]; rfl
            have q3 : w2.cell? ⟨T, A, none⟩ = some (.string Y) := by rw [cell_same (hn2.below.block T hTl)]; exact g2'
            have q4 : w2.frozen? ⟨T, A, none⟩ = false := by simp only [World.frozen?, hn2.below.block T hTl]; exact g3'
            rw [← hH, ← e2]
            have HN2 := Lib.hid hn2
            clear e2 hH hn2 hb2 c0 c1 g0 g1' g2' g3'
            go_region
            have HCR2 := Lib.hid (show RcW w (w2.setCell ⟨T, A, none⟩ (.string (X.extract 0 64 ++ Y.extract 64 Y.size))).drew T base n tc (crI s.dur s.pend ks (j + 1)) from by
              refine ⟨((HCR.out.md.trans (Mod.of_new HN2.out)).trans (Mod.setD w2 T A (.string (X.extract 0 64 ++ Y.extract 64 Y.size)))).trans (Mod.of_new (New.drew (New.refl _))), ?_⟩
              rw [HSA.out]
              exact own_new (own_set (own_new HCR.out.hd HN2.out) A (.string (X.extract 0 64 ++ Y.extract 64 Y.size))) (New.drew (New.refl _)))
            go_wp2_with fail
            go_roundw
            case rel => exact ⟨j + 1, by omega, by go_num, HCR2.out⟩
            case measure => simp [intOf]; omega
      · have hkl : (kn : Int) ≤ (j : Int) := by omega
        obtain rfl : L = 0 := by rw [HL.out, keepN, if_neg (by rw [← Hkn.out]; exact hkj)]
        go_wp2_with fail
        obtain ⟨H, hH⟩ : ∃ H, H = U1.heap.size := ⟨_, rfl⟩
        obtain ⟨w2, e2⟩ : ∃ w2, w2 = U1.alloc (.cells #[.int .i64 (A : Int), .string X] 65) := ⟨_, rfl⟩
        have hn2 : New U1 w2 := by rw [e2]; exact (New.refl _).alloc _
        have hb2 : w2.heap[H]? = some (.cells #[.int .i64 (A : Int), .string X] 65 (0, 0)) := by rw [e2, hH]; exact World.alloc_heap_new _ _
        have q0 : w2.cell? ⟨R, 0, none⟩ = some (.slice (some ⟨T, 0, none⟩) n tc) := by rw [cell_same (hn2.below.block R hRU)]; exact c0
        have q1 : w2.cell? ⟨H, 0, none⟩ = some (.int .i64 (A : Int)) := by rw [cell_of_row w2 H 0 _ _ _ hb2]; rfl
        have q2 : w2.cell? ⟨H, 1, none⟩ = some (.string X) := by rw [cell_of_row w2 H 1 _ _ _ hb2]; rfl
        have q3 : w2.cell? ⟨T, A, none⟩ = some (.string Y) := by rw [cell_same (hn2.below.block T hTl)]; exact g2'
        have q4 : w2.frozen? ⟨T, A, none⟩ = false := by simp only [World.frozen?, hn2.below.block T hTl]; exact g3'
        rw [← hH, ← e2]
        have HN2 := Lib.hid hn2
        clear e2 hH hn2 hb2 c0 c1 g0 g1' g2' g3'
        go_region
        have HCR2 := Lib.hid (show RcW w (w2.setCell ⟨T, A, none⟩ (.string Y)).drew T base n tc (crI s.dur s.pend ks (j + 1)) from by
          refine ⟨((HCR.out.md.trans (Mod.of_new HN2.out)).trans (Mod.setD w2 T A (.string Y))).trans (Mod.of_new (New.drew (New.refl _))), ?_⟩
          rw [HSA.out, show X.extract 0 0 ++ Y.extract 0 Y.size = Y by simp]
          exact own_new (own_set (own_new HCR.out.hd HN2.out) A (.string Y)) (New.drew (New.refl _)))
        go_wp2_with fail
        go_roundw
        case rel => exact ⟨j + 1, by omega, by go_num, HCR2.out⟩
        case measure => simp [intOf]; omega
    · obtain rfl : j = m := by omega
      have hRV : U1.heap[R]? = some (.cells (rCells (.slice (some ⟨T, 0, none⟩) n tc) (.slice pa s.pend.length pc) l s.down) 40 (0, 0)) := (HCR.out.md.2 R hRl hRT).trans HD.out.hR
      have d2 : U1.cell? ⟨R, 2, none⟩ = some (.int .i64 l) := by rw [cell_of_row U1 R 2 _ _ _ hRV]; rfl
      have d3 : U1.cell? ⟨R, 3, none⟩ = some (.bool s.down) := by rw [cell_of_row U1 R 3 _ _ _ hRV]; rfl
      have f1 : U1.frozen? ⟨R, 1, none⟩ = false := by simp [World.frozen?, hRV]
      have f2 : U1.frozen? ⟨R, 2, none⟩ = false := by simp [World.frozen?, hRV]
      have f3 : U1.frozen? ⟨R, 3, none⟩ = false := by simp [World.frozen?, hRV]
      clear hRV
      go_wp2_with fail
      refine bodyPost_end (v := .tuple #[]) (results_none rfl _ _ _) rfl ⟨rfl, ?_⟩
      exact crashR_end HD.out (by rw [← Hm.out]; exact HCR.out)
end Go.Proofs.Ytcamcmcopkclfaa
