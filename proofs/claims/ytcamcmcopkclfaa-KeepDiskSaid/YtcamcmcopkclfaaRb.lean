/- The reference's disk: Read, Write. -/
import Derived.Test.YtcamcmcopkclfaaRa
set_option linter.unusedSimpArgs false
set_option linter.unusedVariables false
set_option maxRecDepth 100000
namespace Go.Proofs.Ytcamcmcopkclfaa
open Go.RowKit

/-- what the reference's Read answers -/
def refS (s : DS) (n : Nat) (a : Int) : Value := if refI s n a ≠ 0 then strV [] else strV (sect (cur s.dur s.pend) a.toNat)
/-- the list of durable strings, as it lies in memory -/
theorem Rk.dForm {w : World} {base R n : Nat} {dv pv : Value} {l : Int} {s : DS} (h : Rk w base R n dv pv l s) : ∃ T tc, dv = .slice (some ⟨T, 0, none⟩) n tc ∧ T ≠ R ∧ T < w.heap.size ∧ base ≤ T ∧ ∀ W : World, W.heap[T]? = w.heap[T]? → ∀ a, a < n → W.cell? ⟨T, a, none⟩ = some (strV (sect s.dur a)) := by
  obtain ⟨T, tc, hv, hb, hlt⟩ := h.hd.form (by have := h.n0; omega)
  refine ⟨T, tc, hv, fun e => h.nd (by rw [hv, e]; rfl), hlt, hb, fun W hW a ha => ?_⟩
  have hd := h.hd
  rw [hv] at hd
  rw [cell_same hW]
  exact (own_cell hd (dCs_at n s.dur a ha)).1
theorem Rk.pForm {w : World} {base R n : Nat} {dv pv : Value} {l : Int} {s : DS} (h : Rk w base R n dv pv l s) (k : Nat) (hk : k < s.pend.length) : ∃ P pc, pv = .slice (some ⟨P, 0, none⟩) s.pend.length pc ∧ P ≠ R ∧ P < w.heap.size ∧ base ≤ P ∧ ∀ W : World, W.heap[P]? = w.heap[P]? → W.cell? ⟨P, k * 2, none⟩ = some (.int .i64 (s.pend[k].1 : Int)) ∧ W.cell? ⟨P, k * 2 + 1, none⟩ = some (strV s.pend[k].2) := by
  obtain ⟨P, pc, hv, hb, hlt⟩ := h.hp.form (by omega)
  refine ⟨P, pc, hv, fun e => h.np (by rw [hv, e]; rfl), hlt, hb, fun W hW => ?_⟩
  have hp := h.hp
  rw [hv] at hp
  rw [cell_same hW, cell_same hW]
  exact ⟨(own_cell hp (pCs_at0 _ k hk)).1, (own_cell hp (pCs_at1 _ k hk)).1⟩

set_option maxHeartbeats 4000000 in
theorem readR_c {w : World} {base R n : Nat} {dv pv : Value} {l : Int} {s : DS} (h : Rk w base R n dv pv l s) (a : Int) (hroom : s.pend.length ≤ 100000) :
    Calls Try.prog 16 #[.pointer (some ⟨R, 0, none⟩), .int .i64 a] w fun e w' => e = .returned (.tuple #[refS s n a, .int .i64 (refI s n a)]) ∧ w = w' := by
  have c0 := h.c0
  have c1 := h.c1
  have c3 := h.c3
  have hn1 := h.n1
  have HD := Lib.hid h
  obtain ⟨T, tc, rfl, hTR, hTl, hTb, hT⟩ := h.dForm
  unfold refS refI
  cases hd : s.down
  · rw [hd] at c3
    by_cases h1 : a < 0
    · simp only [Bool.false_eq_true, if_false, if_pos (Or.inl h1)]
      clear h hd hT
      go_enter Try.func16, Try.ntmps16
      go_wp2_with fail
      go_ret2
      exact ⟨rfl, rfl⟩
    · by_cases h2 : (n : Int) ≤ a
      · simp only [Bool.false_eq_true, if_false, if_pos (Or.inr h2)]
        clear h hd hT
        go_enter Try.func16, Try.ntmps16
        go_wp2_with fail
        go_ret2
        exact ⟨rfl, rfl⟩
      · obtain ⟨k, rfl⟩ : ∃ k : Nat, a = k := ⟨a.toNat, by omega⟩
        have hkn : k < n := by omega
        have hkn' : (k : Int) < (n : Int) := by omega
        have hk0 : (0 : Int) ≤ (k : Int) := by omega
        simp only [Bool.false_eq_true, if_false, if_neg (show ¬ ((k : Int) < 0 ∨ (n : Int) ≤ k) by omega), Int.toNat_natCast, ne_eq, not_true_eq_false]
        have ct := hT w rfl k hkn
        obtain ⟨pa, pc, hpv⟩ := own_slice h.hp
        subst hpv
        obtain ⟨m, hm⟩ : ∃ m, m = s.pend.length := ⟨_, rfl⟩
        have Hm := Lib.hid hm
        rw [← hm] at c1 hroom
        clear h hd hT h1 h2 hm
        unfold strV at ct
        go_enter Try.func16, Try.ntmps16
        go_wp2_with fail
        go_loop [6, 7] (fun x i => ∃ j : Nat, j ≤ m ∧ i = .int .i64 (j : Int) ∧ x = strV (sect (cur s.dur (s.pend.take j)) k)) (fun _ i => m - (intOf i).toNat)
        case atStart => exact ⟨0, by omega, rfl, rfl⟩
        case round =>
          obtain ⟨j, hj, rfl, rfl⟩ := hrel
          by_cases hlt : j < m
          · have hlt' : (j : Int) < (m : Int) := by omega
            have hjl : j < s.pend.length := by rw [← Hm.out]; omega
            obtain ⟨P, pc', hv, hPR, hPl, hPb, hP⟩ := HD.out.pForm j hjl
            obtain ⟨g0, g1⟩ := hP w rfl
            have hq := HD.out.ok s.pend[j] (List.getElem_mem hjl)
            have hst := cur_take_succ s.dur s.pend j hjl
            have hlc := cur_length HD.out.len (okPd_take HD.out.ok j)
            injection hv with hv1 hv2 hv3
            subst hv1
            by_cases he : s.pend[j].1 = k
            · have hX : sect (cur s.dur (s.pend.take (j + 1))) k = s.pend[j].2 := by rw [hst, ← he]; exact sect_same _ _ _ hq.2 (by rw [hlc]; omega)
              have HX := Lib.hid hX
              rw [he] at g0
              unfold strV at g1 ⊢
              generalize hQ : s.pend[j].2 = Q at *
              clear hP hv2 hv3 hq hst hlc hX he hjl hQ
              go_wp2_with fail
              go_round
              case rel => exact ⟨j + 1, by omega, by go_num, by rw [HX.out]⟩
              case measure => simp [intOf]; omega
            · have hX : sect (cur s.dur (s.pend.take (j + 1))) k = sect (cur s.dur (s.pend.take j)) k := by rw [hst]; exact sect_other _ _ _ _ hq.2 he (by rw [hlc]; omega)
              have HX := Lib.hid hX
              have hne : ((s.pend[j].1 : Int) == (k : Int)) = false := by simp; omega
              generalize (s.pend[j].1 : Int) = A at *
              unfold strV
              clear hP hv2 hv3 hq hst hlc hX he hjl g1
              go_wp2_with fail
              go_round
              case rel => exact ⟨j + 1, by omega, by go_num, by rw [HX.out]⟩
              case measure => simp [intOf]; omega
          · obtain rfl : j = m := by omega
            have HE := Lib.hid (show s.pend.take j = s.pend by rw [Hm.out, List.take_length])
            unfold strV
            go_wp2_with fail
            go_ret2
            exact ⟨by rw [HE.out]; rfl, rfl⟩
  · rw [hd] at c3
    simp only [if_true]
    clear h hd hT
    go_enter Try.func16, Try.ntmps16
    go_wp2_with fail
    go_ret2
    exact ⟨rfl, rfl⟩

theorem wroteR_after {w w1 X w4 : World} {base R n a g cp : Nat} {dv pv : Value} {l : Int} {s : DS} {b : List UInt8} (hm1 : Mod (fun k => k = R) w w1) (hk : Rk w1 base R n dv pv l s.count) (hX : New w1 X) (hl : b.length ≤ 64) (ha : a < n)
    (hown : w4.ownsRow base 65 2 (.slice (some ⟨g, 0, none⟩) (s.pend.length + 1) cp) (s.pend.length + 1) (pCs s.pend ++ [.int .i64 (a : Int), strV (pad b)])) (hgrow : X.grownBy w4 pv.ownBlock) (hat : pv.ownBlock = some g ∨ g = X.heap.size) :
    AfterR w base R n dv pv (s.wrote a b) (w4.setCell ⟨R, 1, none⟩ (.slice (some ⟨g, 0, none⟩) (s.pend.length + 1) cp)) := by
  have l1 := hk.lt
  have hsX := hX.size
  have m14 : Mod (fun k => pv.ownBlock = some k) w1 w4 := (Mod.of_new hX).trans (Mod.grown hgrow fun g hg => hg)
  have hR4 : w4.heap[R]? = some (.cells (rCells dv pv l s.count.down) 40 (0, 0)) := (m14.2 R l1 hk.np).trans hk.hR
  have hgR : g ≠ R := by
    rcases hat with h | h
    · intro e; exact hk.np (by rw [h, e])
    · omega
  have hgd : ∀ x, dv.ownBlock = some x → x ≠ g := fun x hx e => by
    rcases hat with h | h
    · exact hk.dp x hx (by rw [h, e])
    · have := (hk.hd.lt x hx).2; omega
  refine ⟨dv, .slice (some ⟨g, 0, none⟩) (s.pend.length + 1) cp, l, ?_, ?_, fun g h => .inl h, ?_⟩
  · exact ((hm1.mono fun _ h => .inl h).trans (m14.mono fun _ h => .inr (.inr h))).trans ((Mod.setD _ _ _ _).mono fun _ h => .inl h)
  · refine ⟨by rw [heap_setCell_same _ _ _ _ hR4]; rfl, ?_, ?_, hk.nd, by simp [Value.ownBlock]; exact hgR, fun x hx => by simp [Value.ownBlock]; exact fun e => hgd x hx e.symm, hk.bR, hk.n0, hk.n1, hk.len, ?_, hk.lb, hk.ll, hk.cs⟩
    · refine own_keep hk.hd fun x hx => ?_
      rw [heap_setCell_other _ _ _ _ _ (fun e => hk.nd (by rw [hx, e]))]
      exact m14.2 x (hk.hd.lt x hx).2 (hk.dp x hx)
    · show World.ownsRow _ _ _ _ _ (s.pend ++ [(a, pad b)]).length (pCs (s.pend ++ [(a, pad b)]))
      rw [List.length_append, List.length_singleton, pCs_snoc]
      exact own_keep hown fun g' hg' => heap_setCell_other _ _ _ _ _ (by simp [Value.ownBlock] at hg'; omega)
    · intro q hq
      show q.1 < n ∧ q.2.length = 64
      simp only [DS.wrote, List.mem_append, List.mem_singleton] at hq
      rcases hq with hq | rfl
      · exact hk.ok q hq
      · exact ⟨ha, pad_length hl⟩
  · intro g' hg'
    simp only [Value.ownBlock, Option.some.injEq] at hg'
    subst hg'
    rcases hat with h | h
    · exact .inl h
    · right; have := hm1.size; omega

theorem putInfo : ∃ i0, Try.prog.info? 65 = some i0 ∧ i0.size = 2 ∧ i0.bytes = 24 ∧ i0.zero = some (.agg #[.int .i64 0, .string ⟨#[]⟩]) := by
  have h1 : (Try.prog.info? 65).map (·.zero) = some (some (.agg #[.int .i64 0, .string ⟨#[]⟩])) := by kernel_rfl
  have h2 : (Try.prog.info? 65).map (·.size) = some 2 := by kernel_rfl
  have h3 : (Try.prog.info? 65).map (·.bytes) = some 24 := by kernel_rfl
  cases hq : Try.prog.info? 65 with
  | none => rw [hq] at h1; simp at h1
  | some i => rw [hq] at h1 h2 h3; simp only [Option.map_some, Option.some.injEq] at h1 h2 h3; exact ⟨i, rfl, h2, h3, h1⟩

set_option maxHeartbeats 4000000 in
theorem writeR_c {w : World} {base R n : Nat} {dv pv : Value} {l : Int} {s : DS} (h : Rk w base R n dv pv l s) (a : Int) (b : List UInt8) (hlen : b.length ≤ 9223372036854775807) (hroom : s.pend.length ≤ 1000) :
    Calls Try.prog 17 #[.pointer (some ⟨R, 0, none⟩), .int .i64 a, strV b] w fun e w' => e = .returned (.int .i64 (s.writeE n a b)) ∧ AfterR w base R n dv pv (s.write n a b) w' := by
  have c0 := h.c0
  have c3 := h.c3
  have hn1 := h.n1
  have HD := Lib.hid h
  obtain ⟨T, tc, rfl, hTR, hTl, hTb, hT⟩ := h.dForm
  have hsz : (⟨b.toArray⟩ : ByteArray).size = b.length := by show b.toArray.size = _; simp
  unfold DS.write DS.writeE
  by_cases h0 : refI s n a = 0
  · obtain ⟨hdn, ha0, ha1⟩ := refI_zero h0
    rw [hdn] at c3
    simp only [h0, ne_eq, not_true_eq_false, if_false]
    by_cases h1 : 64 < b.length
    · have hl : (64 : Int) < ((⟨b.toArray⟩ : ByteArray).size : Int) := by omega
      simp only [if_pos h1]
      unfold strV
      generalize (⟨b.toArray⟩ : ByteArray) = B at *
      clear h hT h0 hdn h1 hsz
      go_enter Try.func17, Try.ntmps17
      go_wp2_with fail
      go_ret
      exact ⟨rfl, AfterR.same HD.out⟩
    · have hl : ((⟨b.toArray⟩ : ByteArray).size : Int) ≤ 64 := by omega
      simp only [if_neg h1]
      have HC := Lib.hid (call_c h hdn)
      cases hf : s.fails
      · rw [hf] at HC
        simp only [Bool.false_eq_true, if_false]
        obtain ⟨k, rfl⟩ : ∃ k : Nat, a = k := ⟨a.toNat, by omega⟩
        have HPD := Lib.hid (fun w => padded_c b (by omega) w)
        have hbl : b.length ≤ 64 := by omega
        have HBL := Lib.hid hbl
        have HKN := Lib.hid (show k < n by omega)
        rw [Int.toNat_natCast]
        obtain ⟨pa, pc, hpv⟩ := own_slice h.hp
        subst hpv
        obtain ⟨m, hm⟩ : ∃ m, m = s.pend.length := ⟨_, rfl⟩
        have Hm := Lib.hid hm
        rw [← hm] at hroom
        obtain ⟨i0, hi0, his, hib, hiz⟩ := putInfo
        have HI := Lib.hid hi0
        have HIS := Lib.hid his
        have HIB := Lib.hid hib
        have HIZ := Lib.hid hiz
        have hRb := h.bR
        unfold strV at HPD ⊢
        obtain ⟨PB, hPB⟩ : ∃ PB : ByteArray, PB = ⟨(pad b).toArray⟩ := ⟨_, rfl⟩
        rw [← hPB] at HPD
        have HPB := Lib.hid hPB
        obtain ⟨B, hB⟩ : ∃ B : ByteArray, B = ⟨b.toArray⟩ := ⟨_, rfl⟩
        rw [← hB] at HPD hl ⊢
        clear h hT h0 hdn hf h1 hsz hm hi0 his hib hiz hPB hB hbl
        go_enter Try.func17, Try.ntmps17
        go_wp2_with (first | (go_at_call 26; refine (HC.out).mono ?_; rintro e w1 ⟨rfl, hm1, l1, hk1⟩; have HM1 := Lib.hid hm1; have HK1 := Lib.hid hk1; have c1 := hk1.c1; rw [← Hm.out] at c1; have f1 := hk1.fz 1; have hRl := hk1.lt; clear hm1 hk1))
        have HOn := Lib.hid (show ∀ X, New w1 X → X.ownsRow base 65 2 (.slice pa m pc) m (pCs s.pend) from fun X hX => by rw [Hm.out]; exact own_new HK1.out.hp hX)
        have HG := Lib.hid (show ∀ X Y, New w1 X → X.grownBy Y (Value.slice pa m pc).ownBlock → Y.heap[R]? = w1.heap[R]? from fun X Y hX hY => (hY.block R (Nat.lt_of_lt_of_le hRl hX.size) (fun e => HK1.out.np (by rw [← Hm.out]; exact e.symm))).trans (hX.below.block R hRl))
        have HW := Lib.hid (show ∀ (X Y : World) (g cp : Nat), New w1 X → Y.ownsRow base 65 2 (.slice (some ⟨g, 0, none⟩) (m + 1) cp) (m + 1) (pCs s.pend ++ [.int .i64 (k : Int), .string PB]) → X.grownBy Y (Value.slice pa m pc).ownBlock → ((Value.slice pa m pc).ownBlock = some g ∨ g = X.heap.size) → AfterR w base R n (.slice (some ⟨T, 0, none⟩) n tc) (.slice pa s.pend.length pc) (s.wrote k b) (Y.setCell ⟨R, 1, none⟩ (.slice (some ⟨g, 0, none⟩) (m + 1) cp)) from by
          intro X Y g cp hX ho hg hat
          have hm := Hm.out
          subst hm
          exact wroteR_after HM1.out HK1.out hX HBL.out HKN.out (by unfold strV; rw [← HPB.out]; exact ho) hg hat)
        go_region_law (first | (refine step_append_lies _ rfl (.tmp 32) (.tmp 37) 38 rfl base 65 i0 _ 2 24 Try.underlying38 HI.out HIZ.out HIS.out HIB.out rfl (by omega) (.slice pa m pc) m (pCs s.pend) rfl (HOn.out _ (by (repeat (first | exact New.refl _ | apply New.alloc | apply New.drew)))) ⟨w1.heap.size, 0, none⟩ 1 1 [.int .i64 (k : Int), .string PB] rfl rfl (fun j u hu => cells_new w1 _ _ _ rfl j u hu) (by intro u hu; simp at hu; rcases hu with rfl | rfl <;> rfl) (by omega) (by unfold maxLen; omega) (by omega) (by simp; omega) _ rfl ?_; intro g4 cap4 w4 hown4 hgrow4 hat4 hlt4; have HF4 := Lib.hid (HW.out _ _ _ _ (by (repeat (first | exact New.refl _ | apply New.alloc | apply New.drew))) hown4 hgrow4 hat4); have h4 := HG.out _ _ (by (repeat (first | exact New.refl _ | apply New.alloc | apply New.drew))) hgrow4; have c4 : w4.cell? ⟨R, 1, none⟩ = some (.slice pa m pc) := (by rw [cell_same h4]; exact c1); have f4 : w4.frozen? ⟨R, 1, none⟩ = false := (by simp only [World.frozen?, h4]; exact f1); clear hown4 hgrow4 hat4 hlt4 h4) | (go_simp; go_at_call 25; refine (HPD.out _).mono ?_; rintro e w' ⟨rfl, rfl⟩))
        all_goals (go_wp2_with fail)
        all_goals go_ret
        all_goals exact ⟨rfl, HF4.out⟩
      · rw [hf] at HC
        simp only [if_true]
        unfold strV
        generalize (⟨b.toArray⟩ : ByteArray) = B at *
        clear h hT h0 hdn hf h1 hsz
        go_enter Try.func17, Try.ntmps17
        go_wp2_with (first | (go_at_call 26; refine (HC.out).mono ?_; rintro e w1 ⟨rfl, hm1, l1, hk1⟩; have HM1 := Lib.hid hm1; have HK1 := Lib.hid hk1; clear hm1 hk1))
        go_ret
        exact ⟨rfl, AfterR.ofR HM1.out HK1.out⟩
  · rw [if_pos h0, if_pos h0]
    have hR : refI s n a = if s.down = true then 90 else if a < 0 ∨ (n : Int) ≤ a then 1 else 0 := rfl
    rw [hR] at h0 ⊢
    unfold strV
    generalize (⟨b.toArray⟩ : ByteArray) = B at *
    cases hd : s.down
    · rw [hd] at c3 h0
      simp only [Bool.false_eq_true, if_false] at h0 ⊢
      by_cases h1 : a < 0
      · rw [if_pos (Or.inl h1)]
        clear h hd hT h0 hR hsz
        go_enter Try.func17, Try.ntmps17
        go_wp2_with fail
        go_ret
        exact ⟨rfl, AfterR.same HD.out⟩
      · have h2 : (n : Int) ≤ a := by
          by_cases h : (n : Int) ≤ a
          · exact h
          · exact absurd (if_neg (by omega)) h0
        rw [if_pos (Or.inr h2)]
        clear h hd hT h0 hR hsz
        go_enter Try.func17, Try.ntmps17
        go_wp2_with fail
        go_ret
        exact ⟨rfl, AfterR.same HD.out⟩
    · rw [hd] at c3
      simp only [if_true]
      clear h hd hT h0 hR hsz
      go_enter Try.func17, Try.ntmps17
      go_wp2_with fail
      go_ret
      exact ⟨rfl, AfterR.same HD.out⟩
end Go.Proofs.Ytcamcmcopkclfaa
