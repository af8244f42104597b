/- The reference's disk: Flush, Crash. -/
import Derived.Test.YtcamcmcopkclfaaRb
import Derived.BigRegion
set_option linter.unusedSimpArgs false
set_option linter.unusedVariables false
set_option maxRecDepth 100000
namespace Go.Proofs.Ytcamcmcopkclfaa
open Go.RowKit

/-- the world in the midst of a loop over the pending writes: the durable strings are those of L -/
structure RcW (w wr : World) (T base n tc : Nat) (L : List UInt8) : Prop where
  md : Mod (fun k => k = T) w wr
  hd : wr.ownsRow base 9 1 (.slice (some ⟨T, 0, none⟩) n tc) n (dCs n L)

theorem flushR_end {w V : World} {base R n T tc : Nat} {pv : Value} {l : Int} {s : DS} (h : Rk w base R n (.slice (some ⟨T, 0, none⟩) n tc) pv l s) (hc : RcW w V T base n tc (cur s.dur s.pend)) :
    AfterR w base R n (.slice (some ⟨T, 0, none⟩) n tc) pv { s with dur := cur s.dur s.pend, pend := [] } (V.setCell ⟨R, 1, none⟩ (.slice none 0 0)) := by
  have hTR : T ≠ R := fun e => h.nd (by rw [e]; rfl)
  have hRV := (hc.md.2 R h.lt (fun e => hTR e.symm)).trans h.hR
  have hm := Mod.setD V R 1 (.slice none 0 0)
  refine ⟨_, .slice none 0 0, l, (hc.md.mono fun _ h => .inr (.inl (by rw [h]; rfl))).trans (hm.mono fun _ h => .inl h), ?_, fun _ h => .inl h, fun g hg => by simp [Value.ownBlock] at hg⟩
  exact ⟨by rw [heap_setCell_same _ _ _ _ hRV]; rfl, own_keep hc.hd fun g hg => heap_setCell_other _ _ _ _ _ (by simp [Value.ownBlock] at hg; omega), World.ownsRow_nil _ _ _ _, h.nd, by simp [Value.ownBlock], fun g hg => by simp [Value.ownBlock], h.bR, h.n0, h.n1, cur_length h.len h.ok, by simp [okPd], h.lb, h.ll, h.cs⟩

set_option maxHeartbeats 4000000 in
theorem flushR_c {w : World} {base R n : Nat} {dv pv : Value} {l : Int} {s : DS} (h : Rk w base R n dv pv l s) (hroom : s.pend.length ≤ 100000) :
    Calls Try.prog 18 #[.pointer (some ⟨R, 0, none⟩)] w fun e w' => e = .returned (.int .i64 s.flushE) ∧ AfterR w base R n dv pv s.flush w' := by
  have c3 := h.c3
  have HD := Lib.hid h
  unfold DS.flush DS.flushE
  cases hd : s.down
  · have HC := Lib.hid (call_c h hd)
    rw [hd] at c3
    simp only [Bool.false_eq_true, if_false]
    cases hf : s.fails
    · rw [hf] at HC
      simp only [Bool.false_eq_true, if_false]
      clear h hd hf
      go_enter Try.func18, Try.ntmps18
      go_wp2_with (first | (go_at_call 26; refine (HC.out).mono ?_; rintro e w1 ⟨rfl, hm1, l1, hk1⟩; have HM1 := Lib.hid hm1; have HK1 := Lib.hid hk1; clear hm1 hk1))
      clear c3
      obtain ⟨s1, hs1⟩ : ∃ s1, s1 = s.count := ⟨_, rfl⟩
      have hk1 := HK1.out
      rw [← hs1] at hk1
      have HS1 := Lib.hid hs1
      have hroom1 : s1.pend.length ≤ 100000 := by rw [hs1]; exact hroom
      clear hs1 hroom
      obtain ⟨T, tc, hdv, hTR, hTl, hTb, hT⟩ := hk1.dForm
      subst hdv
      obtain ⟨pa, pc, hpv⟩ := own_slice hk1.hp
      subst hpv
      obtain ⟨m, hm⟩ : ∃ m, m = s1.pend.length := ⟨_, rfl⟩
      have hm' : s1.pend.length = m := hm.symm
      have HK2 := Lib.hid hk1
      have c0w := Lib.hid hk1.c0
      have c1w := hk1.c1
      rw [hm'] at c1w
      have HC1 := Lib.hid c1w
      have Hm := Lib.hid hm
      have hRl := hk1.lt
      have hn1 := hk1.n1
      rw [← hm] at hroom1
      clear hk1 hT hm hm' c1w
      go_loopw [3] (fun i wr => ∃ k : Nat, k ≤ m ∧ i = .int .i64 (k : Int) ∧ RcW w1 wr T base n tc (cur s1.dur (s1.pend.take k))) (fun i _ => m - (intOf i).toNat)
      case atStart => exact ⟨0, by omega, rfl, Mod.refl _ _, HK2.out.hd⟩
      case round =>
        obtain ⟨k, hk, rfl, hcr⟩ := hrel
        obtain ⟨U1, rfl⟩ : ∃ U1 : World, U1 = wr := ⟨_, rfl⟩
        have HCR := Lib.hid hcr
        have c0 : U1.cell? ⟨R, 0, none⟩ = some (.slice (some ⟨T, 0, none⟩) n tc) := by rw [cell_same (hcr.md.2 R hRl (fun e => hTR e.symm))]; exact c0w.out
        have c1 : U1.cell? ⟨R, 1, none⟩ = some (.slice pa m pc) := by rw [cell_same (hcr.md.2 R hRl (fun e => hTR e.symm))]; exact HC1.out
        have hUl := hcr.md.size
        have hRU : R < U1.heap.size := by omega
        clear hcr
        by_cases hlt : k < m
        · have hlt' : (k : Int) < (m : Int) := by omega
          have hkl : k < s1.pend.length := by rw [← Hm.out]; omega
          obtain ⟨P, pc', hv, hPR, hPl, hPb, hP⟩ := HK2.out.pForm k hkl
          injection hv with hv1 hv2 hv3
          subst hv1
          have hPT : P ≠ T := fun e => HK2.out.dp T rfl (by rw [← e]; rfl)
          obtain ⟨g0, g1⟩ := hP U1 (HCR.out.md.2 P hPl hPT)
          have hq := HK2.out.ok s1.pend[k] (List.getElem_mem hkl)
          have hst := cur_take_succ s1.dur s1.pend k hkl
          have hlc := cur_length HK2.out.len (okPd_take HK2.out.ok k)
          have hset := dCs_spl n (cur s1.dur (s1.pend.take k)) s1.pend[k].1 s1.pend[k].2 hq.2 hq.1 hlc
          rw [← hst] at hset
          have g2 : U1.cell? ⟨T, s1.pend[k].1, none⟩ = some (strV (sect (cur s1.dur (s1.pend.take k)) s1.pend[k].1)) ∧ U1.frozen? ⟨T, s1.pend[k].1, none⟩ = false := own_cell HCR.out.hd (dCs_at n _ _ hq.1)
          obtain ⟨g2, g3⟩ := g2
          have HST := Lib.hid hset
          have hA1 : (s1.pend[k].1 : Int) < (n : Int) := by have := hq.1; omega
          obtain ⟨A, hA⟩ : ∃ A, A = s1.pend[k].1 := ⟨_, rfl⟩
          obtain ⟨X, hX⟩ : ∃ X : ByteArray, X = ⟨s1.pend[k].2.toArray⟩ := ⟨_, rfl⟩
          have HXX := Lib.hid (show strV s1.pend[k].2 = .string X by rw [hX]; rfl)
          rw [HXX.out] at g1
          have HSA := Lib.hid (show dCs n (cur s1.dur (s1.pend.take (k + 1))) = (dCs n (cur s1.dur (s1.pend.take k))).set A (.string X) by rw [hA, ← HXX.out]; exact HST.out)
          obtain ⟨Y, hY⟩ : ∃ Y : ByteArray, Y = ⟨(sect (cur s1.dur (s1.pend.take k)) s1.pend[k].1).toArray⟩ := ⟨_, rfl⟩
          have HYY := Lib.hid (show strV (sect (cur s1.dur (s1.pend.take k)) s1.pend[k].1) = .string Y by rw [hY]; rfl)
          rw [HYY.out] at g2
          rw [← hA] at g0 g2 g3 hA1
          have hA0 : (0 : Int) ≤ (A : Int) := by omega
          clear hP hv2 hv3 hq hst hlc hset hkl hA hX hY HST HXX HYY
          have hPT' : ¬ P = T := hPT
          have hRT' : ¬ R = T := fun e => hTR e.symm
          go_wp2_with fail
          go_region_held3 (fun w' => w'.cell? ⟨R, 0, none⟩ = some (.slice (some ⟨T, 0, none⟩) n tc) ∧ w'.cell? ⟨R, 1, none⟩ = some (.slice (some ⟨P, 0, none⟩) m pc) ∧ w'.cell? ⟨P, k * 2, none⟩ = some (.int .i64 (A : Int)) ∧ w'.cell? ⟨P, k * 2 + 1, none⟩ = some (.string X)) ((refine ⟨?_, ?_, ?_, ?_⟩; (first | (rw [cell_same (heap_setCell_other _ _ _ _ _ hRT')]; exact c0) | (rw [World.cell?_drew, cell_same (heap_setCell_other _ _ _ _ _ hRT')]; exact c0) | exact c0 | (rw [World.cell?_drew]; exact c0)); (first | (rw [cell_same (heap_setCell_other _ _ _ _ _ hRT')]; exact c1) | (rw [World.cell?_drew, cell_same (heap_setCell_other _ _ _ _ _ hRT')]; exact c1) | exact c1 | (rw [World.cell?_drew]; exact c1)); (first | (rw [cell_same (heap_setCell_other _ _ _ _ _ hPT')]; exact g0) | (rw [World.cell?_drew, cell_same (heap_setCell_other _ _ _ _ _ hPT')]; exact g0) | exact g0 | (rw [World.cell?_drew]; exact g0)); (first | (rw [cell_same (heap_setCell_other _ _ _ _ _ hPT')]; exact g1) | (rw [World.cell?_drew, cell_same (heap_setCell_other _ _ _ _ _ hPT')]; exact g1) | exact g1 | (rw [World.cell?_drew]; exact g1)))) (fail)
          have HCR2 := Lib.hid (show RcW w1 (U1.setCell ⟨T, A, none⟩ (.string X)).drew T base n tc (cur s1.dur (s1.pend.take (k + 1))) from by
            refine ⟨(HCR.out.md.trans (Mod.setD U1 T A (.string X))).trans (Mod.of_new (New.drew (New.refl _))), ?_⟩
            rw [HSA.out]
            exact own_new (own_set HCR.out.hd A (.string X)) (New.drew (New.refl _)))
          go_wp2_with fail
          go_roundw
          case rel => exact ⟨k + 1, by omega, by go_num, HCR2.out⟩
          case measure => simp [intOf]; omega
        · obtain rfl : k = m := by omega
          have f1 : U1.frozen? ⟨R, 1, none⟩ = false := by simp only [World.frozen?, HCR.out.md.2 R hRl (fun e => hTR e.symm)]; exact HK2.out.fz 1
          have HE := Lib.hid (show s1.pend.take k = s1.pend by rw [Hm.out, List.take_length])
          go_wp2_with fail
          go_ret
          have hs1 := HS1.out
          have hr := HCR.out
          rw [HE.out] at hr
          subst hs1
          have he := flushR_end HK2.out hr
          exact ⟨rfl, AfterR.trans HM1.out he⟩
    · rw [hf] at HC
      simp only [if_true]
      clear h hd hf
      go_enter Try.func18, Try.ntmps18
      go_wp2_with (first | (go_at_call 26; refine (HC.out).mono ?_; rintro e w1 ⟨rfl, hm1, l1, hk1⟩; have HM1 := Lib.hid hm1; have HK1 := Lib.hid hk1; clear hm1 hk1))
      go_ret
      exact ⟨rfl, AfterR.ofR HM1.out HK1.out⟩
  · rw [hd] at c3
    simp only [if_true]
    clear h hd
    go_enter Try.func18, Try.ntmps18
    go_wp2_with fail
    go_ret
    exact ⟨rfl, AfterR.same HD.out⟩

theorem crashR_end {w V : World} {base R n T tc : Nat} {pv : Value} {l : Int} {s : DS} {ks : List Int} (h : Rk w base R n (.slice (some ⟨T, 0, none⟩) n tc) pv l s) (hc : RcW w V T base n tc (crI s.dur s.pend ks s.pend.length)) :
    AfterR w base R n (.slice (some ⟨T, 0, none⟩) n tc) pv (s.crash ks) (((V.setCell ⟨R, 1, none⟩ (.slice none 0 0)).setCell ⟨R, 2, none⟩ (.int .i64 (-1))).setCell ⟨R, 3, none⟩ (.bool false)) := by
  have hTR : T ≠ R := fun e => h.nd (by rw [e]; rfl)
  have hRV := (hc.md.2 R h.lt (fun e => hTR e.symm)).trans h.hR
  have hm : Mod (fun k => k = R) V (((V.setCell ⟨R, 1, none⟩ (.slice none 0 0)).setCell ⟨R, 2, none⟩ (.int .i64 (-1))).setCell ⟨R, 3, none⟩ (.bool false)) := ((Mod.setD _ _ _ _).trans (Mod.setD _ _ _ _)).trans (Mod.setD _ _ _ _)
  refine ⟨_, .slice none 0 0, -1, (hc.md.mono fun _ h => .inr (.inl (by rw [h]; rfl))).trans (hm.mono fun _ h => .inl h), ?_, fun _ h => .inl h, fun g hg => by simp [Value.ownBlock] at hg⟩
  refine ⟨by rw [heap_setCell_same _ _ _ _ (heap_setCell_same _ _ _ _ (heap_setCell_same _ _ _ _ hRV))]; rfl, ?_, World.ownsRow_nil _ _ _ _, h.nd, by simp [Value.ownBlock], fun g hg => by simp [Value.ownBlock], h.bR, h.n0, h.n1, crI_length ks h.len h.ok _, by simp [okPd, DS.crash], by omega, by simp [DS.crash], by simp [DS.crash]⟩
  refine own_keep hc.hd fun g hg => hm.2 g (hc.hd.lt g hg).2 ?_
  simp [Value.ownBlock] at hg; omega
end Go.Proofs.Ytcamcmcopkclfaa
