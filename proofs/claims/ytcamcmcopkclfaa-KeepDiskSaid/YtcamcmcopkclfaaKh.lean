/- The disk: Crash. -/
import Derived.Test.YtcamcmcopkclfaaKg
import Derived.LoopTactic
import Derived.Deep.RegionLaw
import Derived.Deep.DeepCutAuto
import Derived.WalkLawsBesides
import Derived.WalkSpells
set_option linter.unusedSimpArgs false
set_option linter.unusedVariables false
set_option maxRecDepth 100000
namespace Go.Proofs.Ytcamcmcopkclfaa
open Go.RowKit

structure CrW (w wr : World) (S : Nat) (L : List UInt8) : Prop where
  md : Mod (fun k => k = S) w wr
  hS : wr.heap[S]? = some (.cells (bV L).toArray 60 (0, 0))

/-- one pending write, read out of the disk's list -/
structure Pnd (W : World) (P j : Nat) (PC : List Value) (a : Nat) (BF AF : List UInt8) : Prop where
  rg : W.rangeAt P (j * 129) PC
  eq : PC = .int .i64 (a : Int) :: (bV BF ++ bV AF)
  b64 : BF.length = 64
  a64 : AF.length = 64
theorem Pnd.len {W : World} {P j a : Nat} {PC : List Value} {BF AF : List UInt8} (h : Pnd W P j PC a BF AF) : PC.length = 129 := by rw [h.eq]; simp [h.b64, h.a64]
theorem Pnd.one {W : World} {P j a : Nat} {PC : List Value} {BF AF : List UInt8} (h : Pnd W P j PC a BF AF) : ∀ v ∈ PC, v.oneCell' = true := by
  intro v hv; rw [h.eq] at hv; simp only [List.mem_cons, List.mem_append] at hv
  rcases hv with rfl | hv | hv
  · rfl
  · exact bV_one _ v hv
  · exact bV_one _ v hv
theorem Dk.pnd {w : World} {base D S n : Nat} {pv : Value} {s : DS} (h : Dk w base D S n pv s) (j : Nat) (hj : j < s.pend.length) :
    ∃ P cap, pv = .slice (some ⟨P, 0, none⟩) s.pend.length cap ∧ P ≠ S ∧ P ≠ D ∧ P < w.heap.size ∧ ∀ W, W.heap[P]? = w.heap[P]? → Pnd W P j (pcell (cur s.dur (s.pend.take j)) s.pend[j]) s.pend[j].1 (sect (cur s.dur (s.pend.take j)) s.pend[j].1) s.pend[j].2 := by
  obtain ⟨P, cap, hv, hb, hlt⟩ := h.hP.form (by omega)
  refine ⟨P, cap, hv, fun e => h.nS (by rw [hv, e]; rfl), fun e => h.nD (by rw [hv, e]; rfl), hlt, fun W hW => ?_⟩
  have hP := h.hP
  rw [hv] at hP
  obtain ⟨cr, q1, q2, q3, q4, q5, q6⟩ := own_parts hP
  have hq := h.ok s.pend[j] (List.getElem_mem hj)
  have hl := cur_length h.len (okPd_take h.ok j)
  refine ⟨?_, rfl, sect_length _ _ (by rw [hl]; omega), hq.2⟩
  rw [← pcells_at h.len h.ok j hj]
  intro i v hv
  rw [cell_of_row W P (j * 129 + i) cr _ (0, 0) (hW.trans q2)]
  rw [← q6] at hv
  rw [List.getElem?_take] at hv
  split at hv
  · rw [List.getElem?_drop, List.getElem?_take] at hv
    split at hv
    · simpa using hv
    · cases hv
  · cases hv

theorem crash_after {w V : World} {base D S n : Nat} {pv : Value} {s : DS} {ks : List Int} (h : Dk w base D S n pv s) (hD : V.heap[D]? = some (.cells (dCells S n pv s) 52 (0, 0))) (hc : CrW w V S (crI s.dur s.pend ks s.pend.length)) :
    After w base D S n pv (s.crash ks) (((V.setCell ⟨D, 1, none⟩ (.slice none 0 0)).setCell ⟨D, 2, none⟩ (.bool false)).setCell ⟨D, 3, none⟩ (.bool false)) := by
  have m3 : Mod (fun k => k = D) V (((V.setCell ⟨D, 1, none⟩ (.slice none 0 0)).setCell ⟨D, 2, none⟩ (.bool false)).setCell ⟨D, 3, none⟩ (.bool false)) := ((Mod.setD _ _ _ _).trans (Mod.setD _ _ _ _)).trans (Mod.setD _ _ _ _)
  have hSV := (m3.2 S (Array.getElem?_eq_some_iff.1 hc.hS).1 (fun e => h.nDS e.symm)).trans hc.hS
  refine ⟨.slice none 0 0, (hc.md.mono fun _ h => .inr (.inl h)).trans (m3.mono fun _ h => .inl h), ?_, fun g hg => by simp [Value.ownBlock] at hg⟩
  refine ⟨by rw [heap_setCell_same _ _ _ _ (heap_setCell_same _ _ _ _ (heap_setCell_same _ _ _ _ hD))]; rfl, hSV, World.ownsRow_nil _ _ _ _, h.nDS, by simp [Value.ownBlock], by simp [Value.ownBlock], h.bD, h.bS, h.n0, h.n1, crI_length ks h.len h.ok _, by simp [okPd, DS.crash], h.cl, by simp [DS.crash]⟩

set_option maxHeartbeats 8000000 in
theorem crash_c {w : World} {base D S n : Nat} {pv kv : Value} {s : DS} {ks : List Int} (h : Dk w base D S n pv s) (hk : Ks w D S pv kv ks) (hroom : s.pend.length ≤ 100000) (hks : ks.length ≤ 9223372036854775807) :
    Calls Try.prog 13 #[.pointer (some ⟨D, 0, none⟩), kv] w fun e w' => e = .returned (.tuple #[]) ∧ After w base D S n pv (s.crash ks) w' := by
  have HD := Lib.hid h
  obtain ⟨ka, kc, rfl, hkk⟩ := hk
  have HK := Lib.hid hkk
  obtain ⟨pa, pc, hpv⟩ := own_slice h.hP
  subst hpv
  obtain ⟨m, hm⟩ : ∃ m, m = s.pend.length := ⟨_, rfl⟩
  have Hm := Lib.hid hm
  obtain ⟨kn, hkn⟩ : ∃ kn, kn = ks.length := ⟨_, rfl⟩
  have Hkn := Lib.hid hkn
  have hc0 := h.c0
  have hc1 := h.c1
  rw [← hm] at hc1 hroom
  rw [← hkn] at hks ⊢
  have HC0 := Lib.hid hc0
  have HC1 := Lib.hid hc1
  have hn1 := h.n1
  clear hkk hm hkn h hc0 
  go_enter Try.func13, Try.ntmps13
  go_wp2_with fail
  clear hc1
  go_loopw [4] (fun i wr => ∃ (e : Int) (k : Nat), k ≤ m ∧ e = (k : Int) - 1 ∧ i = .int .i64 e ∧ CrW w wr S (cur s.dur (s.pend.take k))) (fun i _ => (intOf i + 1).toNat)
  case atStart => exact ⟨_, m, Nat.le_refl _, rfl, rfl, Mod.refl _ _, by rw [Hm.out, List.take_length]; exact HD.out.hS⟩
  case round =>
    obtain ⟨e, k, hkm, he, rfl, hcr⟩ := hrel
    obtain ⟨U1, rfl⟩ : ∃ U1 : World, U1 = wr := ⟨_, rfl⟩
    have HCR := Lib.hid hcr
    have hDS := HD.out.nDS
    have hDl : D < w.heap.size := (Array.getElem?_eq_some_iff.1 HD.out.hD).1
    have c0 : U1.cell? ⟨D, 0, none⟩ = some (.slice (some ⟨S, 0, none⟩) n n) := by rw [cell_same (hcr.md.2 D hDl hDS)]; exact HC0.out
    have c1 : U1.cell? ⟨D, 1, none⟩ = some (.slice pa m pc) := by rw [cell_same (hcr.md.2 D hDl hDS)]; exact HC1.out
    clear hcr
    cases k with
    | zero =>
      obtain rfl : e = -1 := by omega
      clear he hkm
      go_wp2_with fail
      go_loopw [42] (fun i wr => ∃ k : Nat, k ≤ m ∧ i = .int .i64 (k : Int) ∧ CrW w wr S (crI s.dur s.pend ks k)) (fun i _ => m - (intOf i).toNat)
      case atStart => exact ⟨0, by omega, rfl, HCR.out⟩
      case round =>
        obtain ⟨j, hjm0, rfl, hcr2⟩ := hrel
        obtain ⟨V1, rfl⟩ : ∃ V1 : World, V1 = wr := ⟨_, rfl⟩
        have HCV := Lib.hid hcr2
        have hDl1 : D < V1.heap.size := Nat.lt_of_lt_of_le hDl hcr2.md.size
        have HC0V := Lib.hid (show V1.cell? ⟨D, 0, none⟩ = some (.slice (some ⟨S, 0, none⟩) n n) by rw [cell_same (hcr2.md.2 D hDl hDS)]; exact HC0.out)
        clear hcr2 c0 c1
        by_cases hlt : j < m
        · have hjm : (j : Int) < (m : Int) := by omega
          have hjl : j < s.pend.length := by rw [← Hm.out]; omega
          obtain ⟨P, cap, hv, hPS, hPD, hPl, hpn⟩ := HD.out.pnd j hjl
          have hp1 := hpn V1 (HCV.out.md.2 P hPl hPS)
          have hA : s.pend[j].1 < n := (HD.out.ok s.pend[j] (List.getElem_mem hjl)).1
          have hst : crI s.dur s.pend ks (j + 1) = spl (crI s.dur s.pend ks j) (s.pend[j].1 * 64) (s.pend[j].2.take (keepN ks j)) := by rw [crI, List.getElem?_eq_getElem hjl]
          obtain ⟨PC, hPC⟩ : ∃ PC, PC = pcell (cur s.dur (s.pend.take j)) s.pend[j] := ⟨_, rfl⟩
          obtain ⟨BF, hBF⟩ : ∃ BF, BF = sect (cur s.dur (s.pend.take j)) s.pend[j].1 := ⟨_, rfl⟩
          obtain ⟨AF, hAF⟩ : ∃ AF, AF = s.pend[j].2 := ⟨_, rfl⟩
          rw [← hPC, ← hBF, ← hAF] at hp1
          rw [← hAF] at hst
          obtain ⟨A, hAA⟩ : ∃ A, A = s.pend[j].1 := ⟨_, rfl⟩
          rw [← hAA] at hp1 hst hA
          injection hv with hv1 hv2 hv3
          subst hv1
          have HP := Lib.hid hp1
          have HST := Lib.hid hst
          have HLC := Lib.hid (crI_length ks HD.out.len HD.out.ok j)
          have hSl := (Array.getElem?_eq_some_iff.1 HCV.out.hS).1
          obtain ⟨H, hH⟩ : ∃ H, V1.heap.size = H := ⟨_, rfl⟩
          rw [hH] at hSl hDl1
          have HH := Lib.hid hH
          have hHS : H ≠ S := by omega
          have hAn : (A : Int) < (n : Int) := by omega
          have hA0 : (0 : Int) ≤ (A : Int) := by omega
          have hKR := HK.out
          obtain ⟨L, hL⟩ : ∃ L, L = keepN ks j := ⟨_, rfl⟩
          have hL64 : L ≤ 64 := by rw [hL]; exact keepN_le ks j
          have HL := Lib.hid hL
          clear hpn hp1 hst hPC hBF hAF hAA hv2 hv3 hH hjl hKR hL
          by_cases hkj : j < kn
          · have hkl : (j : Int) < (kn : Int) := by omega
            have hkw : (kn : Int) ≤ 9223372036854775807 := by omega
            obtain ⟨g, o, hka, hrg, hno⟩ := HK.out (by rw [← Hkn.out]; omega)
            subst hka
            have hgS : g ≠ S := fun e => hno (.inr (.inl e))
            obtain ⟨x, hx⟩ : ∃ x, x = ks.getD j 0 := ⟨_, rfl⟩
            have hck : w.cell? ⟨g, o + j, none⟩ = some (.int .i64 x) := hrg j _ (by rw [List.getElem?_map, List.getElem?_eq_getElem (by rw [← Hkn.out]; exact hkj), hx]; simp [List.getD, List.getElem?_eq_getElem (show j < ks.length by rw [← Hkn.out]; exact hkj)])
            have hgl : g < w.heap.size := World.block_lt_of_cell? w _ hck
            have HCK := Lib.hid hck
            have hLx : L = (min (max x 0) 64).toNat := by rw [HL.out, keepN, if_pos (by rw [← Hkn.out]; exact hkj), hx]
            clear hrg hno hx hck
            by_cases hx0 : x < 0
            · obtain rfl : L = 0 := by omega
              clear hLx
              go_wp2_with (first | (refine wpList_load_mid rfl 62 (.tmp 45) rfl P (j * 129) rfl PC _ HP.out.rg Try.underlying62 rfl (by rw [HP.out.len]; exact size62) ?_) | (refine wpList_alloc_z rfl 62 rfl Z62 zero62 ?_; rw [HH.out]) | (refine wpList_store_row rfl 62 (.tmp 7) (.tmp 46) rfl H PC.toArray rfl rfl 62 Z62 ?_ ?_ ?_ ?_ ?_; exact (by rw [← HH.out]; exact World.alloc_heap_new _ _); exact (by rw [List.size_toArray, HP.out.len]; exact size62); exact (show Z62.size = PC.length by rw [HP.out.len]; rfl); exact (all_oneCell_toArray HP.out.one); obtain ⟨w2, e2, n2, b2, s2⟩ : ∃ w2, w2 = (V1.alloc (.cells Z62 62)).setRow H PC.toArray ∧ New V1 w2 ∧ w2.heap[H]? = some (.cells PC.toArray 62 (0, 0)) ∧ w2.heap.size = H + 1 := ⟨_, rfl, made_row H HH.out _ _ _⟩; rw [← e2]; have N2 := Lib.hid n2; have B2 := Lib.hid b2; clear e2 n2 b2 s2; have c2 : w2.cell? ⟨D, 0, none⟩ = some (.slice (some ⟨S, 0, none⟩) n n) := (by rw [cell_same (N2.out.below.block D (by rw [HH.out]; exact hDl1))]; exact HC0V.out); have cH : w2.cell? ⟨H, 0, none⟩ = some (.int .i64 (A : Int)) := (by rw [cell_of_row w2 H 0 _ _ _ B2.out, HP.out.eq]; rfl); have cK : w2.cell? ⟨g, o + j, none⟩ = some (.int .i64 x) := (by rw [cell_same ((N2.out.below.block g (by have := HCV.out.md.size; omega)).trans (HCV.out.md.2 g hgl hgS))]; exact HCK.out)))
              have HS2 := Lib.hid (show w2.heap[S]? = some (.cells (bV (crI s.dur s.pend ks j)).toArray 60 (0, 0)) from (N2.out.below.block S (by rw [HH.out]; exact hSl)).trans HCV.out.hS)
              have hAl := HP.out.a64
              have HR2 := Lib.hid (show w2.rangeAt H 65 (bV AF) from by
                have := range_of_block B2.out 65 64
                rw [HP.out.eq, show 65 = 64 + 1 from rfl, List.drop_succ_cons, List.drop_append, List.drop_eq_nil_of_le (by rw [bV_length, HP.out.b64]; omega), bV_length, HP.out.b64, List.nil_append, Nat.sub_self, List.drop_zero, List.take_of_length_le (by rw [bV_length, hAl]; omega)] at this
                exact this)
              have HN := Lib.hid (show (bV (AF.take 0)).length = 0 by rw [bV_length, List.length_take, hAl]; omega)
              clear hAl
              go_region_law ((refine step_copy_mod rfl (.tmp 65) (.tmp 67) 33 33 rfl 5 Try.underlying33 size5 (some ⟨S, A * 64, none⟩) (some ⟨H, 65, none⟩) 0 64 64 64 rfl rfl S (A * 64) (bV (crI s.dur s.pend ks j)) 60 HS2.out (bV (AF.take 0)) (by rw [HN.out]; exact (Nat.min_eq_right (by omega)).symm) (fun hp => ⟨rfl, ⟨H, 65, none⟩, rfl, fun i v hv => by rw [Addr.add_mid]; exact HR2.out i v (by rw [bV_take, List.getElem?_take] at hv; split at hv; exact hv; cases hv)⟩) (by rw [HN.out, bV_length, HLC.out]; omega) (bV_one _) ?_; intro w9 hb9 hm9; have HCR9 := Lib.hid (show CrW w w9 S (crI s.dur s.pend ks (j + 1)) from ⟨((HCV.out.md.trans (Mod.of_new N2.out)).trans (Mod.of_new (New.drew (New.refl w2)))).trans hm9.out, by rw [hb9.out, splice_bV, HST.out, ← HL.out]⟩)))
              all_goals
                go_wp2_with fail
                go_roundw
                case rel => exact ⟨j + 1, by omega, by go_num, HCR9.out⟩
                case measure => simp [intOf]; omega
            · by_cases hx1 : x ≤ 64
              · obtain rfl : x = (L : Int) := by omega
                clear hLx hx0
                go_wp2_with (first | (refine wpList_load_mid rfl 62 (.tmp 45) rfl P (j * 129) rfl PC _ HP.out.rg Try.underlying62 rfl (by rw [HP.out.len]; exact size62) ?_) | (refine wpList_alloc_z rfl 62 rfl Z62 zero62 ?_; rw [HH.out]) | (refine wpList_store_row rfl 62 (.tmp 7) (.tmp 46) rfl H PC.toArray rfl rfl 62 Z62 ?_ ?_ ?_ ?_ ?_; exact (by rw [← HH.out]; exact World.alloc_heap_new _ _); exact (by rw [List.size_toArray, HP.out.len]; exact size62); exact (show Z62.size = PC.length by rw [HP.out.len]; rfl); exact (all_oneCell_toArray HP.out.one); obtain ⟨w2, e2, n2, b2, s2⟩ : ∃ w2, w2 = (V1.alloc (.cells Z62 62)).setRow H PC.toArray ∧ New V1 w2 ∧ w2.heap[H]? = some (.cells PC.toArray 62 (0, 0)) ∧ w2.heap.size = H + 1 := ⟨_, rfl, made_row H HH.out _ _ _⟩; rw [← e2]; have N2 := Lib.hid n2; have B2 := Lib.hid b2; clear e2 n2 b2 s2; have c2 : w2.cell? ⟨D, 0, none⟩ = some (.slice (some ⟨S, 0, none⟩) n n) := (by rw [cell_same (N2.out.below.block D (by rw [HH.out]; exact hDl1))]; exact HC0V.out); have cH : w2.cell? ⟨H, 0, none⟩ = some (.int .i64 (A : Int)) := (by rw [cell_of_row w2 H 0 _ _ _ B2.out, HP.out.eq]; rfl); have cK : w2.cell? ⟨g, o + j, none⟩ = some (.int .i64 (L : Int)) := (by rw [cell_same ((N2.out.below.block g (by have := HCV.out.md.size; omega)).trans (HCV.out.md.2 g hgl hgS))]; exact HCK.out)))
                have HS2 := Lib.hid (show w2.heap[S]? = some (.cells (bV (crI s.dur s.pend ks j)).toArray 60 (0, 0)) from (N2.out.below.block S (by rw [HH.out]; exact hSl)).trans HCV.out.hS)
                have hAl := HP.out.a64
                have HR2 := Lib.hid (show w2.rangeAt H 65 (bV AF) from by
                  have := range_of_block B2.out 65 64
                  rw [HP.out.eq, show 65 = 64 + 1 from rfl, List.drop_succ_cons, List.drop_append, List.drop_eq_nil_of_le (by rw [bV_length, HP.out.b64]; omega), bV_length, HP.out.b64, List.nil_append, Nat.sub_self, List.drop_zero, List.take_of_length_le (by rw [bV_length, hAl]; omega)] at this
                  exact this)
                have HN := Lib.hid (show (bV (AF.take L)).length = L by rw [bV_length, List.length_take, hAl]; omega)
                clear hAl
                go_region_law ((refine step_copy_mod rfl (.tmp 65) (.tmp 67) 33 33 rfl 5 Try.underlying33 size5 (some ⟨S, A * 64, none⟩) (some ⟨H, 65, none⟩) L 64 64 64 rfl rfl S (A * 64) (bV (crI s.dur s.pend ks j)) 60 HS2.out (bV (AF.take L)) (by rw [HN.out]; exact (Nat.min_eq_right hL64).symm) (fun hp => ⟨rfl, ⟨H, 65, none⟩, rfl, fun i v hv => by rw [Addr.add_mid]; exact HR2.out i v (by rw [bV_take, List.getElem?_take] at hv; split at hv; exact hv; cases hv)⟩) (by rw [HN.out, bV_length, HLC.out]; omega) (bV_one _) ?_; intro w9 hb9 hm9; have HCR9 := Lib.hid (show CrW w w9 S (crI s.dur s.pend ks (j + 1)) from ⟨((HCV.out.md.trans (Mod.of_new N2.out)).trans (Mod.of_new (New.drew (New.refl w2)))).trans hm9.out, by rw [hb9.out, splice_bV, HST.out, ← HL.out]⟩)))
                all_goals
                  go_wp2_with fail
                  go_roundw
                  case rel => exact ⟨j + 1, by omega, by go_num, HCR9.out⟩
                  case measure => simp [intOf]; omega
              · obtain rfl : L = 64 := by omega
                clear hLx hx0
                go_wp2_with (first | (refine wpList_load_mid rfl 62 (.tmp 45) rfl P (j * 129) rfl PC _ HP.out.rg Try.underlying62 rfl (by rw [HP.out.len]; exact size62) ?_) | (refine wpList_alloc_z rfl 62 rfl Z62 zero62 ?_; rw [HH.out]) | (refine wpList_store_row rfl 62 (.tmp 7) (.tmp 46) rfl H PC.toArray rfl rfl 62 Z62 ?_ ?_ ?_ ?_ ?_; exact (by rw [← HH.out]; exact World.alloc_heap_new _ _); exact (by rw [List.size_toArray, HP.out.len]; exact size62); exact (show Z62.size = PC.length by rw [HP.out.len]; rfl); exact (all_oneCell_toArray HP.out.one); obtain ⟨w2, e2, n2, b2, s2⟩ : ∃ w2, w2 = (V1.alloc (.cells Z62 62)).setRow H PC.toArray ∧ New V1 w2 ∧ w2.heap[H]? = some (.cells PC.toArray 62 (0, 0)) ∧ w2.heap.size = H + 1 := ⟨_, rfl, made_row H HH.out _ _ _⟩; rw [← e2]; have N2 := Lib.hid n2; have B2 := Lib.hid b2; clear e2 n2 b2 s2; have c2 : w2.cell? ⟨D, 0, none⟩ = some (.slice (some ⟨S, 0, none⟩) n n) := (by rw [cell_same (N2.out.below.block D (by rw [HH.out]; exact hDl1))]; exact HC0V.out); have cH : w2.cell? ⟨H, 0, none⟩ = some (.int .i64 (A : Int)) := (by rw [cell_of_row w2 H 0 _ _ _ B2.out, HP.out.eq]; rfl); have cK : w2.cell? ⟨g, o + j, none⟩ = some (.int .i64 x) := (by rw [cell_same ((N2.out.below.block g (by have := HCV.out.md.size; omega)).trans (HCV.out.md.2 g hgl hgS))]; exact HCK.out)))
                have HS2 := Lib.hid (show w2.heap[S]? = some (.cells (bV (crI s.dur s.pend ks j)).toArray 60 (0, 0)) from (N2.out.below.block S (by rw [HH.out]; exact hSl)).trans HCV.out.hS)
                have hAl := HP.out.a64
                have HR2 := Lib.hid (show w2.rangeAt H 65 (bV AF) from by
                  have := range_of_block B2.out 65 64
                  rw [HP.out.eq, show 65 = 64 + 1 from rfl, List.drop_succ_cons, List.drop_append, List.drop_eq_nil_of_le (by rw [bV_length, HP.out.b64]; omega), bV_length, HP.out.b64, List.nil_append, Nat.sub_self, List.drop_zero, List.take_of_length_le (by rw [bV_length, hAl]; omega)] at this
                  exact this)
                have HN := Lib.hid (show (bV (AF.take 64)).length = 64 by rw [bV_length, List.length_take, hAl]; omega)
                clear hAl
                go_region_law ((refine step_copy_mod rfl (.tmp 65) (.tmp 67) 33 33 rfl 5 Try.underlying33 size5 (some ⟨S, A * 64, none⟩) (some ⟨H, 65, none⟩) 64 64 64 64 rfl rfl S (A * 64) (bV (crI s.dur s.pend ks j)) 60 HS2.out (bV (AF.take 64)) (by rw [HN.out]; exact (Nat.min_eq_right (by omega)).symm) (fun hp => ⟨rfl, ⟨H, 65, none⟩, rfl, fun i v hv => by rw [Addr.add_mid]; exact HR2.out i v (by rw [bV_take, List.getElem?_take] at hv; split at hv; exact hv; cases hv)⟩) (by rw [HN.out, bV_length, HLC.out]; omega) (bV_one _) ?_; intro w9 hb9 hm9; have HCR9 := Lib.hid (show CrW w w9 S (crI s.dur s.pend ks (j + 1)) from ⟨((HCV.out.md.trans (Mod.of_new N2.out)).trans (Mod.of_new (New.drew (New.refl w2)))).trans hm9.out, by rw [hb9.out, splice_bV, HST.out, ← HL.out]⟩)))
                all_goals
                  go_wp2_with fail
                  go_roundw
                  case rel => exact ⟨j + 1, by omega, by go_num, HCR9.out⟩
                  case measure => simp [intOf]; omega
          · have hkl : (kn : Int) ≤ (j : Int) := by omega
            obtain rfl : L = 0 := by rw [HL.out, keepN, if_neg (by rw [← Hkn.out]; exact hkj)]
            go_wp2_with (first | (refine wpList_load_mid rfl 62 (.tmp 45) rfl P (j * 129) rfl PC _ HP.out.rg Try.underlying62 rfl (by rw [HP.out.len]; exact size62) ?_) | (refine wpList_alloc_z rfl 62 rfl Z62 zero62 ?_; rw [HH.out]) | (refine wpList_store_row rfl 62 (.tmp 7) (.tmp 46) rfl H PC.toArray rfl rfl 62 Z62 ?_ ?_ ?_ ?_ ?_; exact (by rw [← HH.out]; exact World.alloc_heap_new _ _); exact (by rw [List.size_toArray, HP.out.len]; exact size62); exact (show Z62.size = PC.length by rw [HP.out.len]; rfl); exact (all_oneCell_toArray HP.out.one); obtain ⟨w2, e2, n2, b2, s2⟩ : ∃ w2, w2 = (V1.alloc (.cells Z62 62)).setRow H PC.toArray ∧ New V1 w2 ∧ w2.heap[H]? = some (.cells PC.toArray 62 (0, 0)) ∧ w2.heap.size = H + 1 := ⟨_, rfl, made_row H HH.out _ _ _⟩; rw [← e2]; have N2 := Lib.hid n2; have B2 := Lib.hid b2; clear e2 n2 b2 s2; have c2 : w2.cell? ⟨D, 0, none⟩ = some (.slice (some ⟨S, 0, none⟩) n n) := (by rw [cell_same (N2.out.below.block D (by rw [HH.out]; exact hDl1))]; exact HC0V.out); have cH : w2.cell? ⟨H, 0, none⟩ = some (.int .i64 (A : Int)) := (by rw [cell_of_row w2 H 0 _ _ _ B2.out, HP.out.eq]; rfl)))
            have HS2 := Lib.hid (show w2.heap[S]? = some (.cells (bV (crI s.dur s.pend ks j)).toArray 60 (0, 0)) from (N2.out.below.block S (by rw [HH.out]; exact hSl)).trans HCV.out.hS)
            have hAl := HP.out.a64
            have HR2 := Lib.hid (show w2.rangeAt H 65 (bV AF) from by
              have := range_of_block B2.out 65 64
              rw [HP.out.eq, show 65 = 64 + 1 from rfl, List.drop_succ_cons, List.drop_append, List.drop_eq_nil_of_le (by rw [bV_length, HP.out.b64]; omega), bV_length, HP.out.b64, List.nil_append, Nat.sub_self, List.drop_zero, List.take_of_length_le (by rw [bV_length, hAl]; omega)] at this
              exact this)
            have HN := Lib.hid (show (bV (AF.take 0)).length = 0 by rw [bV_length, List.length_take, hAl]; omega)
            clear hAl
            go_region_law ((refine step_copy_mod rfl (.tmp 65) (.tmp 67) 33 33 rfl 5 Try.underlying33 size5 (some ⟨S, A * 64, none⟩) (some ⟨H, 65, none⟩) 0 64 64 64 rfl rfl S (A * 64) (bV (crI s.dur s.pend ks j)) 60 HS2.out (bV (AF.take 0)) (by rw [HN.out]; exact (Nat.min_eq_right (by omega)).symm) (fun hp => ⟨rfl, ⟨H, 65, none⟩, rfl, fun i v hv => by rw [Addr.add_mid]; exact HR2.out i v (by rw [bV_take, List.getElem?_take] at hv; split at hv; exact hv; cases hv)⟩) (by rw [HN.out, bV_length, HLC.out]; omega) (bV_one _) ?_; intro w9 hb9 hm9; have HCR9 := Lib.hid (show CrW w w9 S (crI s.dur s.pend ks (j + 1)) from ⟨((HCV.out.md.trans (Mod.of_new N2.out)).trans (Mod.of_new (New.drew (New.refl w2)))).trans hm9.out, by rw [hb9.out, splice_bV, HST.out, ← HL.out]⟩)))
            all_goals
              go_wp2_with fail
              go_roundw
              case rel => exact ⟨j + 1, by omega, by go_num, HCR9.out⟩
              case measure => simp [intOf]; omega
        · obtain rfl : j = m := by omega
          have hDV : V1.heap[D]? = some (.cells (dCells S n (.slice pa s.pend.length pc) s) 52 (0, 0)) := (HCV.out.md.2 D hDl hDS).trans HD.out.hD
          have d1 : V1.cell? ⟨D, 1, none⟩ = some (.slice pa s.pend.length pc) := by rw [cell_of_row V1 D 1 _ _ _ hDV]; rfl
          have d2 : V1.cell? ⟨D, 2, none⟩ = some (.bool s.down) := by rw [cell_of_row V1 D 2 _ _ _ hDV]; rfl
          have d3 : V1.cell? ⟨D, 3, none⟩ = some (.bool s.stops) := by rw [cell_of_row V1 D 3 _ _ _ hDV]; rfl
          have f1 : V1.frozen? ⟨D, 1, none⟩ = false := by simp [World.frozen?, hDV]
          have f2 : V1.frozen? ⟨D, 2, none⟩ = false := by simp [World.frozen?, hDV]
          have f3 : V1.frozen? ⟨D, 3, none⟩ = false := by simp [World.frozen?, hDV]
          have HDV := Lib.hid hDV
          clear hDV
          go_wp2_with fail
          refine bodyPost_end (v := .tuple #[]) (results_none rfl _ _ _) rfl ⟨rfl, ?_⟩
          exact crash_after HD.out HDV.out (by rw [← Hm.out]; exact HCV.out)
    | succ j =>
      obtain rfl : e = (j : Int) := by omega
      clear he
      have hjm : (j : Int) < (m : Int) := by omega
      have hjl : j < s.pend.length := by rw [← Hm.out]; omega
      obtain ⟨P, cap, hv, hPS, hPD, hPl, hpn⟩ := HD.out.pnd j hjl
      have hp1 := hpn U1 (HCR.out.md.2 P hPl hPS)
      have hun := cur_undo HD.out.len HD.out.ok j hjl
      have hA : s.pend[j].1 < n := (HD.out.ok s.pend[j] (List.getElem_mem hjl)).1
      obtain ⟨PC, hPC⟩ : ∃ PC, PC = pcell (cur s.dur (s.pend.take j)) s.pend[j] := ⟨_, rfl⟩
      obtain ⟨BF, hBF⟩ : ∃ BF, BF = sect (cur s.dur (s.pend.take j)) s.pend[j].1 := ⟨_, rfl⟩
      obtain ⟨AF, hAF⟩ : ∃ AF, AF = s.pend[j].2 := ⟨_, rfl⟩
      rw [← hPC, ← hBF, ← hAF] at hp1
      rw [← hBF] at hun
      obtain ⟨A, hAA⟩ : ∃ A, A = s.pend[j].1 := ⟨_, rfl⟩
      rw [← hAA] at hp1 hun hA
      injection hv with hv1 hv2 hv3
      subst hv1
      have HP := Lib.hid hp1
      have HUN := Lib.hid hun
      have hlc := cur_length HD.out.len (okPd_take HD.out.ok (j + 1))
      have HLC := Lib.hid hlc
      have hSl := (Array.getElem?_eq_some_iff.1 HCR.out.hS).1
      have hDl1 : D < U1.heap.size := Nat.lt_of_lt_of_le hDl HCR.out.md.size
      obtain ⟨H, hH⟩ : ∃ H, U1.heap.size = H := ⟨_, rfl⟩
      rw [hH] at hSl hDl1
      have HH := Lib.hid hH
      clear hpn hp1 hun hPC hBF hAF hAA hv2 hv3 hH hlc hjl
      go_wp2_with (first | (refine wpList_load_mid rfl 62 (.tmp 26) rfl P (j * 129) rfl PC _ HP.out.rg Try.underlying62 rfl (by rw [HP.out.len]; exact size62) ?_) | (refine wpList_alloc_z rfl 62 rfl Z62 zero62 ?_; rw [HH.out]) | (refine wpList_store_row rfl 62 (.tmp 5) (.tmp 27) rfl H PC.toArray rfl rfl 62 Z62 ?_ ?_ ?_ ?_ ?_; exact (by rw [← HH.out]; exact World.alloc_heap_new _ _); exact (by rw [List.size_toArray, HP.out.len]; exact size62); exact (show Z62.size = PC.length by rw [HP.out.len]; rfl); exact (all_oneCell_toArray HP.out.one); obtain ⟨w2, e2, n2, b2, s2⟩ : ∃ w2, w2 = (U1.alloc (.cells Z62 62)).setRow H PC.toArray ∧ New U1 w2 ∧ w2.heap[H]? = some (.cells PC.toArray 62 (0, 0)) ∧ w2.heap.size = H + 1 := ⟨_, rfl, made_row H HH.out _ _ _⟩; rw [← e2]; have N2 := Lib.hid n2; have B2 := Lib.hid b2; clear e2 n2 b2 s2))
      have c2 : w2.cell? ⟨D, 0, none⟩ = some (.slice (some ⟨S, 0, none⟩) n n) := by rw [cell_same (N2.out.below.block D (by rw [HH.out]; exact hDl1))]; exact c0
      have cH : w2.cell? ⟨H, 0, none⟩ = some (.int .i64 (A : Int)) := by rw [cell_of_row w2 H 0 _ _ _ B2.out, HP.out.eq]; rfl
      obtain ⟨VB, hVB⟩ : ∃ VB, VB = bV BF := ⟨_, rfl⟩
      have hVl : VB.length = 64 := by rw [hVB, bV_length, HP.out.b64]
      have hV1 : ∀ v ∈ VB, v.oneCell' = true := by rw [hVB]; exact bV_one _
      have r2 : w2.rangeAt H 1 VB := by
        have := range_of_block B2.out 1 64
        rw [HP.out.eq, List.drop_succ_cons, List.drop_zero, List.take_append_of_le_length (by rw [bV_length, HP.out.b64]; omega), List.take_of_length_le (by rw [bV_length, HP.out.b64]; omega)] at this
        rw [hVB]; exact this
      have S2 : w2.heap[S]? = some (.cells (bV (cur s.dur (s.pend.take (j + 1)))).toArray 60 (0, 0)) := (N2.out.below.block S (by rw [HH.out]; exact hSl)).trans HCR.out.hS
      have t2 : w2.there S (A * 64) 64 := there_of_block S2 _ _ (by rw [bV_length, HLC.out]; omega)
      have HS2 := Lib.hid S2
      have HVB := Lib.hid hVB
      have hi : (Try.prog.info? 60).map (·.size) = some VB.length := by rw [hVl]; exact size60
      have hu := Try.underlying60
      have hHS : H ≠ S := by omega
      have hAn : (A : Int) < (n : Int) := by omega
      clear c0 c1 S2 hVB
      go_region_held3 (fun w' => w'.cell? ⟨D, 0, none⟩ = some (.slice (some ⟨S, 0, none⟩) n n) ∧ w'.cell? ⟨H, 0, none⟩ = some (.int .i64 (A : Int)) ∧ w'.rangeAt H 1 VB ∧ w'.there S (A * 64) 64) ((go_split_ands; refine ⟨?_, ?_, ?_, ?_⟩ <;> first | assumption | (rw [World.cell?_setCells_out _ _ _ _ _ (fun e => absurd e hDS)]; assumption) | (rw [World.cell?_setCells_out _ _ _ _ _ (fun e => absurd e hHS)]; assumption) | (apply World.there_setCells; assumption) | (refine World.rangeAt_setCells_apart (by assumption) _ _ _ (by omega)))) (fail)
      obtain ⟨w4, e4⟩ : ∃ w4, w4 = w2.drew.setCells S (A * 64) VB := ⟨_, rfl⟩
      rw [← e4]
      have HCR2 := Lib.hid (show CrW w w4 S (cur s.dur (s.pend.take j)) from by
        refine ⟨?_, ?_⟩
        · rw [e4]
          exact ((HCR.out.md.trans (Mod.of_new N2.out)).trans (Mod.of_new (New.drew (New.refl w2)))).trans (mod_setCells VB w2.drew S (A * 64))
        · rw [e4, heap_setCells VB w2.drew S (A * 64) _ _ HS2.out (by rw [bV_length, HLC.out, hVl]; omega), HVB.out, splice_bV, HUN.out])
      clear e4 hu hi c2 cH r2 t2
      go_wp2_with fail
      go_roundw
      case rel => exact ⟨_, j, by omega, rfl, rfl, HCR2.out⟩
      case measure => first | (simp [intOf]; done) | (simp [intOf]; omega)

end Go.Proofs.Ytcamcmcopkclfaa
