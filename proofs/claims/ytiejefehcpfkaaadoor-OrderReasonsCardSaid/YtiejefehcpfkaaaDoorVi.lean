/- The law OrderReasons: what the reasons of an order say. Any problem, number and list. -/
import Derived.Test.YtiejefehcpfkaaaDoorVa
import Derived.Test.YtiejefehcpfkaaaDoorUk
set_option linter.unusedSimpArgs false
set_option linter.unusedVariables false
set_option maxRecDepth 100000
namespace Go.Proofs.YtiejefehcpfkaaaDoor
open Go.RowKit Go.Shelf

attribute [local go_sem] Oper.semAt_some

theorem reaCells_at : ∀ (rs : List (Int × Int × Int)) (k : Nat), k < rs.length → (reaCells rs)[k * 3]? = some (.int .i64 (rs.getD k (0, 0, 0)).1) ∧ (reaCells rs)[k * 3 + 1]? = some (.int .i64 (rs.getD k (0, 0, 0)).2.1) ∧ (reaCells rs)[k * 3 + 2]? = some (.int .u8 (rs.getD k (0, 0, 0)).2.2)
  | r :: rs, 0, _ => by simp [reaCells]
  | r :: rs, k + 1, h => by
    have ih := reaCells_at rs k (by simpa using h)
    have e : ∀ j, (reaCells (r :: rs))[(k + 1) * 3 + j]? = (reaCells rs)[k * 3 + j]? := fun j => by
      show ([Value.int .i64 r.1, .int .i64 r.2.1, .int .u8 r.2.2] ++ reaCells rs)[(k + 1) * 3 + j]? = _
      rw [List.getElem?_append_right (by simp; omega)]
      congr 1
      simp; omega
    have e0 := e 0
    rw [Nat.add_zero, Nat.add_zero] at e0
    rw [e0, e 1, e 2]
    simpa using ih
set_option maxHeartbeats 4000000 in
theorem last_c {w : World} {n : Nat} {d : Nat → Int} (b c : Nat) (hI : Iv w b n d) (hn : n ≤ 1000) (hd : ∀ k, k < n → -1 ≤ d k ∧ d k ≤ 4611686018427387904) :
    Calls Tryd.prog 66 #[.slice (some ⟨b, 0, none⟩) n c] w fun en w' => en = .returned (.int .i64 (lastM d n)) ∧ New w w' := by
  have HI := Lib.hid hI
  have HD := Lib.hid hd
  have H0 := Lib.hid (show lastM d 0 = -1 from rfl)
  have HS := Lib.hid (show ∀ k, lastM d (k + 1) = max (lastM d k) (d k) from fun _ => rfl)
  have HBD := Lib.hid (fun k (hk : k ≤ n) => (⟨(lastM_ge (d := d) k).2, lastM_le (d := d) (M := 4611686018427387904) k (by omega) (fun i hi => (hd i (by omega)).2)⟩ : -1 ≤ lastM d k ∧ lastM d k ≤ 4611686018427387904))
  clear hI hd
  generalize lastM d = la at *
  go_enter Tryd.func66, Tryd.ntmps66
  go_wp2_with fail
  go_loopw [3, 8] (fun m i wr => ∃ k : Nat, k ≤ n ∧ i = .int .i64 k ∧ m = .int .i64 (la k) ∧ New w wr) (fun _ i _ => n - (intOf i).toNat)
  case atStart => exact ⟨0, Nat.zero_le _, rfl, by rw [H0.out], New.refl _⟩
  case round =>
    obtain ⟨k, hk, rfl, rfl, hnew⟩ := hrel
    have HNEW := Lib.hid hnew
    clear hnew
    by_cases hlt : k < n
    · have hk1 : (k : Int) < (n : Int) := by omega
      have c1 : wr.cell? ⟨b, k, none⟩ = some (.int .i64 (d k)) := (HNEW.out.cell HI.out.lt).trans (HI.out.at k hlt)
      have hb1 := HBD.out k hk
      have hb2 := HD.out k hlt
      have HSk := Lib.hid (HS.out k)
      generalize la k = x at *
      generalize d k = y at *
      by_cases hxy : x < y
      · have HMX := Lib.hid (show max x y = y by omega)
        go_wp2_with fail
        go_roundw
        case rel => exact ⟨k + 1, by omega, by go_num, by rw [HSk.out, HMX.out], HNEW.out⟩
        case measure => simp [intOf]; omega
      · have HMX := Lib.hid (show max x y = x by omega)
        go_wp2_with fail
        go_roundw
        case rel => exact ⟨k + 1, by omega, by go_num, by rw [HSk.out, HMX.out], HNEW.out⟩
        case measure => simp [intOf]; omega
    · have ht : ¬ ((k : Int) < (n : Int)) := by omega
      obtain rfl : n = k := by omega
      go_wp2_with fail
      go_ret
      exact ⟨rfl, HNEW.out⟩
set_option maxHeartbeats 16000000 in
theorem OrderReasons_c {w : World} {v : Value} {o : Prb} {av nv : Value} (h : PrbA w v o av nv) (hT : Tab w) (d : Int) (lv : Option Addr) (lc : Nat) (l : List Int) (hcap : l.length ≤ lc) (hP : Ins w lv l) :
    Calls Tryd.prog 17 #[v, .int .i64 d, .slice lv l.length lc] w fun en w' => en = .returned (.bool true) ∧ New w w' := by
  have HSL := Lib.hid (fun (w1 : World) (hn : New w w1) => slim_c (h.pv.new hn))
  have HAL := Lib.hid (fun (w1 : World) (hn : New w w1) => alive_c w1 (hT.new hn))
  have hv := h.eq
  obtain ⟨x1, x2, x3, x4, e1, e2⟩ := h.sh
  have H0 := h
  rw [e1, e2] at hv
  subst hv
  obtain ⟨H, hH⟩ : ∃ H, w.heap.size = H := ⟨_, rfl⟩
  have HB := Lib.hid (show (w.alloc (.cells #[.int .i64 o.n, .slice x1 o.A.length x2, .slice x3 o.B.length x4] 24)).heap[H]? = some (.cells #[.int .i64 o.n, .slice x1 o.A.length x2, .slice x3 o.B.length x4] 24 (0, 0)) from by rw [← hH]; exact World.alloc_heap_new w _)
  by_cases hsl : (decide ((o.A.length : Int) ≤ 600) && decide ((o.B.length : Int) ≤ 300)) = false
  · rw [hsl] at HSL
    clear H0 h hP hT e1 e2 hsl
    go_enter Tryd.func17, Tryd.ntmps17
    go_wp2_with (first | (go_at_call 20; (with_reducible refine (HSL.out _ ?_).mono ?_); (· exact (New.refl w).alloc _); rintro e w6 ⟨rfl, n6⟩; have N6 := Lib.hid (((New.refl w).alloc _).trans n6); clear n6) | (go_at_call 21; (with_reducible refine (HAL.out _ ?_).mono ?_); (· exact N6.out); rintro e w9 ⟨rfl, n9⟩; have N9 := Lib.hid (N6.out.trans n9); clear n9))
    go_ret
    exact ⟨rfl, N9.out⟩
  rw [Bool.not_eq_false] at hsl
  rw [hsl] at HSL
  clear hsl
  by_cases h24 : (l.length : Int) > 24
  · clear H0 h hP hT e1 e2
    generalize l.length = N at *
    go_enter Tryd.func17, Tryd.ntmps17
    go_wp2_with (first | (go_at_call 20; (with_reducible refine (HSL.out _ ?_).mono ?_); (· exact (New.refl w).alloc _); rintro e w6 ⟨rfl, n6⟩; have N6 := Lib.hid (((New.refl w).alloc _).trans n6); clear n6) | (go_at_call 21; (with_reducible refine (HAL.out _ ?_).mono ?_); (· exact N6.out); rintro e w9 ⟨rfl, n9⟩; have N9 := Lib.hid (N6.out.trans n9); clear n9))
    go_ret
    exact ⟨rfl, N9.out⟩
  have hl : l.length ≤ 24 := by omega
  by_cases hc : dryO o av nv d l = 0
  · obtain ⟨hdry, hio⟩ : dryI o d = 0 ∧ ioB (opG o av nv) l = true := by
      unfold dryO at hc
      split at hc
      · rename_i h; exact absurd hc h
      · rename_i h
        cases hb : ioB (opG o av nv) l
        · rw [hb] at hc; cases hc
        · exact ⟨by simpa using h, rfl⟩
    obtain ⟨hk, hd0, hd1⟩ := dryI_chk hdry
    obtain ⟨dn, rfl⟩ : ∃ dn : Nat, d = dn := ⟨d.toNat, by omega⟩
    have hf := ioB_facts hio
    have hGn : (opG o av nv).n = l.length := hf.1.symm
    have HRE := Lib.hid (fun (w1 : World) (hn : New w w1) => reasons_good (H0.new hn) dn lv lc l (by omega) hcap (hP.new hn) (hT.new hn) hc)
    have HDA := Lib.hid (fun (w1 : World) (hn : New w w1) => days_good (H0.new hn) dn lv lc l (by omega) (hP.new hn) (hT.new hn) hc)
    rw [hGn] at HDA
    have hbd := erF_bd (show dn ≤ 30 by omega) hio l.length (Nat.le_refl _)
    have HBD := Lib.hid (fun k (hk : k < l.length) => (⟨by have := (hbd k).1; omega, by have := (hbd k).2; omega⟩ : -1 ≤ erF (opG o av nv) dn l l.length k ∧ erF (opG o av nv) dn l l.length k ≤ 4611686018427387904))
    have hNE := opG_ne (o := o) av nv hk
    by_cases hl0 : l.length = 0
    · have hrs : reasonsL (opG o av nv) dn l = [] := by unfold reasonsL; rw [hl0]; rfl
      rw [hrs] at HRE
      have hl0' : ((l.length : Int) == 0) = true := by rw [hl0]; rfl
      have hl24 : ¬ ((l.length : Int) > 24) := by omega
      clear H0 h hP hT e1 e2 HBD hbd hNE hf hio hrs hc hdry hl0
      go_enter Tryd.func17, Tryd.ntmps17
      go_wp2_with (first | (go_at_call 20; (with_reducible refine (HSL.out _ ?_).mono ?_); (· exact (New.refl w).alloc _); rintro e w6 ⟨rfl, n6⟩; have N6 := Lib.hid (((New.refl w).alloc _).trans n6); have HB6 := Lib.hid (row_new HB.out n6); have c0 : w6.cell? ⟨H, 0, none⟩ = some (.int .i64 o.n) := (cell_of_row w6 H 0 _ _ _ HB6.out).trans rfl; have c1 : w6.cell? ⟨H, 1, none⟩ = some (.slice x1 o.A.length x2) := (cell_of_row w6 H 1 _ _ _ HB6.out).trans rfl; have c2 : w6.cell? ⟨H, 2, none⟩ = some (.slice x3 o.B.length x4) := (cell_of_row w6 H 2 _ _ _ HB6.out).trans rfl; have hHl : H < w6.heap.size := (Array.getElem?_eq_some_iff.1 HB6.out).1; clear n6) | (go_at_call 59; (with_reducible refine (HRE.out _ ?_).mono ?_); (· exact N6.out); rintro e w7 ⟨u, rfl, n7, own7⟩; obtain ⟨ua, uc, rfl⟩ := own_slice own7; have N7 := Lib.hid (N6.out.trans n7); clear c0 c1 c2 hHl; have HB7 := Lib.hid (row_new HB6.out n7); have c0 : w7.cell? ⟨H, 0, none⟩ = some (.int .i64 o.n) := (cell_of_row w7 H 0 _ _ _ HB7.out).trans rfl; have c1 : w7.cell? ⟨H, 1, none⟩ = some (.slice x1 o.A.length x2) := (cell_of_row w7 H 1 _ _ _ HB7.out).trans rfl; have c2 : w7.cell? ⟨H, 2, none⟩ = some (.slice x3 o.B.length x4) := (cell_of_row w7 H 2 _ _ _ HB7.out).trans rfl; have hHl : H < w7.heap.size := (Array.getElem?_eq_some_iff.1 HB7.out).1; clear n7 own7) | (go_at_call 55; (with_reducible refine (HDA.out _ ?_).mono ?_); (· exact N7.out); rintro e w8 ⟨bD, cD, rfl, n8, _, _⟩; have N8 := Lib.hid (N7.out.trans n8); clear n8) | (go_at_call 21; (with_reducible refine (HAL.out _ ?_).mono ?_); (· exact N8.out); rintro e w9 ⟨rfl, n9⟩; have N9 := Lib.hid (N8.out.trans n9); clear n9))
      go_ret
      exact ⟨rfl, N9.out⟩
    · have hOKR := reasons_ok (dry := dn) hio hNE (by omega)
      have HLAST := Lib.hid (last_er (dry := dn) hio (by omega))
      have HSB := Lib.hid (fun k hk => sum_bd (dry := dn) hio (by omega) (by omega) hOKR k hk)
      have HALLS := Lib.hid (sum_all hOKR)
      have HS0 := Lib.hid (show sumR dn (reasonsL (opG o av nv) dn l) 0 = 0 from rfl)
      have HSS := Lib.hid (show ∀ k, sumR dn (reasonsL (opG o av nv) dn l) (k + 1) = sumR dn (reasonsL (opG o av nv) dn l) k + (if ((reasonsL (opG o av nv) dn l).getD k (0, 0, 0)).2.2 = 2 then (dn : Int) + 1 else if ((reasonsL (opG o av nv) dn l).getD k (0, 0, 0)).2.2 = 1 then 1 else 0) from fun _ => rfl)
      rw [hGn] at HLAST
      have hrp := hOKR.pos
      have HFST := Lib.hid hOKR.fst
      have HAT := Lib.hid hOKR.at'
      have HF2 := Lib.hid hf.2
      have HRL := Lib.hid (show (reasonsL (opG o av nv) dn l).length ≤ 24 from Nat.le_trans (rsL_len _ _) hl)
      obtain ⟨bl, ol, rfl, gl0, hcc0⟩ := hP (by omega)
      have HCC := Lib.hid hcc0
      have HGL := Lib.hid gl0
      have hGN2 : (opG o av nv).n ≤ 24 := by omega
      clear hcc0 gl0 hOKR
      have HCA := Lib.hid (reaCells_at (reasonsL (opG o av nv) dn l))
      clear H0 h hP hT e1 e2 hbd hNE hio hc hdry hf hk
      rw [hGn] at HF2
      generalize sumR dn (reasonsL (opG o av nv) dn l) = sm at *
      generalize reasonsL (opG o av nv) dn l = rs at *
      generalize erF (opG o av nv) dn l l.length = D at *
      clear hGn hGN2
      generalize hN : l.length = N at *
      generalize hM : rs.length = M at *
      have HNL := Lib.hid hN
      clear hN hM
      have uN : ((N : Int) - 1) = ((N - 1 : Nat) : Int) := by omega
      have uN1 : ((N - 1 : Nat) : Int) < (N : Int) := by omega
      have hl24 : ¬ ((N : Int) > 24) := by omega
      have hl0' : ((N : Int) == 0) = false := by simp; omega
      have hm0 : ((M : Int) == 0) = false := by simp; omega
      have hm1 : (0 : Int) < (M : Int) := by omega
      have hml := HRL.out
      have hmi : (M : Int) ≤ 24 := by omega
      go_enter Tryd.func17, Tryd.ntmps17
      go_upto_region 9 with (first | (go_at_call 20; (with_reducible refine (HSL.out _ ?_).mono ?_); (· exact (New.refl w).alloc _); rintro e w6 ⟨rfl, n6⟩; have N6 := Lib.hid (((New.refl w).alloc _).trans n6); have HB6 := Lib.hid (row_new HB.out n6); have c0 : w6.cell? ⟨H, 0, none⟩ = some (.int .i64 o.n) := (cell_of_row w6 H 0 _ _ _ HB6.out).trans rfl; have c1 : w6.cell? ⟨H, 1, none⟩ = some (.slice x1 o.A.length x2) := (cell_of_row w6 H 1 _ _ _ HB6.out).trans rfl; have c2 : w6.cell? ⟨H, 2, none⟩ = some (.slice x3 o.B.length x4) := (cell_of_row w6 H 2 _ _ _ HB6.out).trans rfl; have hHl : H < w6.heap.size := (Array.getElem?_eq_some_iff.1 HB6.out).1; clear n6) | (go_at_call 59; (with_reducible refine (HRE.out _ ?_).mono ?_); (· exact N6.out); rintro e w7 ⟨u, rfl, n7, own7⟩; obtain ⟨gr, ur, rfl, _, hgr7⟩ := own7.form hrp; have O7 := Lib.hid own7; have HGR7 := Lib.hid hgr7; have N7 := Lib.hid (N6.out.trans n7); clear c0 c1 c2 hHl; have HB7 := Lib.hid (row_new HB6.out n7); have c0 : w7.cell? ⟨H, 0, none⟩ = some (.int .i64 o.n) := (cell_of_row w7 H 0 _ _ _ HB7.out).trans rfl; have c1 : w7.cell? ⟨H, 1, none⟩ = some (.slice x1 o.A.length x2) := (cell_of_row w7 H 1 _ _ _ HB7.out).trans rfl; have c2 : w7.cell? ⟨H, 2, none⟩ = some (.slice x3 o.B.length x4) := (cell_of_row w7 H 2 _ _ _ HB7.out).trans rfl; have hHl : H < w7.heap.size := (Array.getElem?_eq_some_iff.1 HB7.out).1; clear n7 own7 hgr7) | (go_at_call 55; (with_reducible refine (HDA.out _ ?_).mono ?_); (· exact N7.out); rintro e w8 ⟨bD, cD, rfl, n8, _, iv8⟩; have N8 := Lib.hid (N7.out.trans n8); have I8 := Lib.hid iv8; have O8 := Lib.hid (own_new O7.out n8); have HGR8 := Lib.hid (Nat.lt_of_lt_of_le HGR7.out n8.size); clear n8 iv8))
      have d0 : w8.cell? ⟨gr, 0, none⟩ = some (.int .i64 (nI l (N - 1))) := by
        have := (own_cell O8.out (HCA.out 0 hrp).1).1
        rw [HFST.out] at this; exact this
      have d1 : w8.cell? ⟨bl, ol + (N - 1), none⟩ = some (.int .i64 (nI l (N - 1))) := (N8.out.cell HGL.out).trans (HCC.out (N - 1) (by first | omega | (rw [HNL.out]; omega)))
      have hg1 := HGR8.out
      have hg2 : bl < w8.heap.size := Nat.lt_of_lt_of_le HGL.out N8.out.size
      first | refine wp_region_at2 (by kernel_rfl) (by kernel_rfl) ?_ | refine wp_region_at (by kernel_rfl) (by kernel_rfl) ?_
      repeat (go_big_quiet_step (fail))
      refine wpQuiet_nil ?_
      rintro U8 hq
      have HN8 := Lib.hid (show New w8 U8 from hq)
      clear hq d0 d1 hg1 hg2
      have NU := Lib.hid (N8.out.trans HN8.out)
      have OU := Lib.hid (own_new O8.out HN8.out)
      have IU := Lib.hid (show Iv U8 bD N D from row_new I8.out HN8.out)
      have HGU := Lib.hid (Nat.lt_of_lt_of_le HGR8.out HN8.out.size)
      clear c0 c1 c2 hHl
      go_wp2_with fail
      go_loopw [11, 78] (fun s i wr => ∃ k : Nat, k ≤ M ∧ i = .int .i64 k ∧ s = .int .i64 (sm k) ∧ New U8 wr) (fun _ i _ => M - (intOf i).toNat)
      case atStart => exact ⟨0, Nat.zero_le _, rfl, by rw [HS0.out], New.refl _⟩
      case round =>
        obtain ⟨k, hk, rfl, rfl, hnew⟩ := hrel
        have HNEW := Lib.hid hnew
        clear hnew
        by_cases hlt : k < M
        · have hk1 : (k : Int) < (M : Int) := by omega
          obtain ⟨a, ha, ep, hcs⟩ := HAT.out k hlt
          obtain ⟨q0, q1, q2⟩ := HCA.out k hlt
          have hP0 := HF2.out a ha
          have c1 := (own_cell (own_new OU.out HNEW.out) q0).1
          have c2 := (own_cell (own_new OU.out HNEW.out) q1).1
          have c3 := (own_cell (own_new OU.out HNEW.out) q2).1
          have hgw : gr < wr.heap.size := Nat.lt_of_lt_of_le HGU.out HNEW.out.size
          have HSk := Lib.hid (HSS.out k)
          have hsb := HSB.out k hk
          have hsb2 := HSB.out (k + 1) hlt
          have cD : wr.cell? ⟨bD, (nI l a).toNat, none⟩ = some (.int .i64 (D (nI l a).toNat)) := (HNEW.out.cell IU.out.lt).trans (IU.out.at _ (by omega))
          have hdw : bD < wr.heap.size := Nat.lt_of_lt_of_le IU.out.lt HNEW.out.size
          rw [ep] at c1
          clear q0 q1 q2
          obtain ⟨B, hB⟩ : ∃ B, wr.heap.size = B := ⟨_, rfl⟩
          obtain ⟨p, hp⟩ : ∃ p : Nat, nI l a = p := ⟨(nI l a).toNat, by omega⟩
          rw [hp] at c1 cD hP0 hcs
          simp only [Int.toNat_natCast] at cD hcs
          clear hp ep
          have hpN : (p : Int) < (N : Int) := hP0.2
          by_cases hlast : k + 1 = M
          · rw [if_pos hlast] at hcs
            obtain ⟨h0, h1, h2⟩ := hcs
            rw [h1] at c2
            rw [h0] at c3 HSk
            rw [h2] at cD
            have hx1 : ¬ ((k : Int) + 1 < (M : Int)) := by omega
            have hx2 : ((k : Int) == (M : Int) - 1) = true := by simp; omega
            have hpn0 : ¬ ((p : Int) < 0) := by omega
            have hpn1 : ¬ ((p : Int) ≥ (N : Int)) := by omega
            clear hlast hP0 h0 h1 h2
            go_upto_region 15 with fail
            first | refine wp_region_at2 (by kernel_rfl) (by kernel_rfl) ?_ | refine wp_region_at (by kernel_rfl) (by kernel_rfl) ?_
            repeat (go_big_quiet_step (fail))
            refine wpQuiet_nil ?_
            rintro U9 hq
            have HN9 := Lib.hid (show New (wr.alloc (.cells #[.int .i64 (p : Int), .int .i64 (-1), .int .u8 0] 75)) U9 from hq)
            clear hq c1 c2 c3
            have HX9 := Lib.hid (row_new (show (wr.alloc (.cells #[.int .i64 (p : Int), .int .i64 (-1), .int .u8 0] 75)).heap[B]? = some (.cells #[.int .i64 (p : Int), .int .i64 (-1), .int .u8 0] 75 (0, 0)) from by rw [← hB]; exact World.alloc_heap_new wr _) HN9.out)
            have HW9 := Lib.hid (show New wr U9 from ((New.refl wr).alloc _).trans HN9.out)
            have c1 : U9.cell? ⟨B, 0, none⟩ = some (.int .i64 (p : Int)) := (cell_of_row U9 B 0 _ _ _ HX9.out).trans rfl
            have c2 : U9.cell? ⟨B, 1, none⟩ = some (.int .i64 (-1)) := (cell_of_row U9 B 1 _ _ _ HX9.out).trans rfl
            have c3 : U9.cell? ⟨B, 2, none⟩ = some (.int .u8 0) := (cell_of_row U9 B 2 _ _ _ HX9.out).trans rfl
            have c4 : U9.cell? ⟨bD, p, none⟩ = some (.int .i64 0) := (HW9.out.cell hdw).trans cD
            clear cD hB
            go_wp2_with fail
            go_roundw
            case rel => exact ⟨k + 1, by omega, by go_num, by rw [HSk.out]; simp, HNEW.out.trans HW9.out⟩
            case measure => simp [intOf]; omega
          · rw [if_neg hlast] at hcs
            obtain ⟨b, hb, h1, h2, h3⟩ := hcs
            have hF0 := HF2.out b hb
            obtain ⟨f, hf⟩ : ∃ f : Nat, nI l b = f := ⟨(nI l b).toNat, by omega⟩
            have c5 := (own_cell (own_new OU.out HNEW.out) (HCA.out (k + 1) (by omega)).1).1
            rw [h2] at c5
            rw [hf] at h1 c5 hF0 h3
            rw [h1] at c2
            have c6 : wr.cell? ⟨gr, k * 3 + 3, none⟩ = some (.int .i64 (f : Int)) := by rw [← c5]; congr 2; omega
            have hgB : gr < B := by omega
            have hgB1 : gr < B + 1 := by omega
            have hx1 : (k : Int) + 1 < (M : Int) := by omega
            have hx2 : ((k : Int) == (M : Int) - 1) = false := by simp; omega
            have hpn0 : ¬ ((p : Int) < 0) := by omega
            have hpn1 : ¬ ((p : Int) ≥ (N : Int)) := by omega
            have hfn0 : ¬ ((f : Int) < 0) := by omega
            have hfn1 : ¬ ((f : Int) ≥ (N : Int)) := by omega
            clear hlast hP0 hF0 h1 h2 hf cD
            rcases h3 with ⟨h4, h5⟩ | ⟨h4, h5⟩
            all_goals rw [h4] at c3 HSk
            · simp only [if_true] at HSk
              clear h4 h5
              have hw1 : IntKind.i64.wrap ((dn : Int) + 1) = (dn : Int) + 1 := IntWalk.i64_in _ (by omega)
              have hw2 : IntKind.i64.wrap (sm k + ((dn : Int) + 1)) = sm k + ((dn : Int) + 1) := IntWalk.i64_in _ (by omega)
              go_upto_region 15 with fail
              first | refine wp_region_at2 (by kernel_rfl) (by kernel_rfl) ?_ | refine wp_region_at (by kernel_rfl) (by kernel_rfl) ?_
              repeat (go_big_quiet_step (fail))
              refine wpQuiet_nil ?_
              rintro U9 hq
              have HN9 := Lib.hid (show New (wr.alloc (.cells #[.int .i64 (p : Int), .int .i64 (f : Int), .int .u8 2] 75)) U9 from hq)
              clear hq c1 c2 c3 c5 c6 hgB hgB1
              have HX9 := Lib.hid (row_new (show (wr.alloc (.cells #[.int .i64 (p : Int), .int .i64 (f : Int), .int .u8 2] 75)).heap[B]? = some (.cells #[.int .i64 (p : Int), .int .i64 (f : Int), .int .u8 2] 75 (0, 0)) from by rw [← hB]; exact World.alloc_heap_new wr _) HN9.out)
              have HW9 := Lib.hid (show New wr U9 from ((New.refl wr).alloc _).trans HN9.out)
              have c1 : U9.cell? ⟨B, 0, none⟩ = some (.int .i64 (p : Int)) := (cell_of_row U9 B 0 _ _ _ HX9.out).trans rfl
              have c2 : U9.cell? ⟨B, 1, none⟩ = some (.int .i64 (f : Int)) := (cell_of_row U9 B 1 _ _ _ HX9.out).trans rfl
              have c3 : U9.cell? ⟨B, 2, none⟩ = some (.int .u8 2) := (cell_of_row U9 B 2 _ _ _ HX9.out).trans rfl
              clear hB
              go_wp2_with fail
              go_roundw
              case rel => exact ⟨k + 1, by omega, by go_num, by rw [HSk.out], HNEW.out.trans HW9.out⟩
              case measure => simp [intOf]; omega
            · have h6 : ¬ ((1 : Int) = 2) := by omega
              simp only [if_true, if_neg h6] at HSk
              clear h4 h5
              have hw2 : IntKind.i64.wrap (sm k + 1) = sm k + 1 := IntWalk.i64_in _ (by omega)
              go_upto_region 15 with fail
              first | refine wp_region_at2 (by kernel_rfl) (by kernel_rfl) ?_ | refine wp_region_at (by kernel_rfl) (by kernel_rfl) ?_
              repeat (go_big_quiet_step (fail))
              refine wpQuiet_nil ?_
              rintro U9 hq
              have HN9 := Lib.hid (show New (wr.alloc (.cells #[.int .i64 (p : Int), .int .i64 (f : Int), .int .u8 1] 75)) U9 from hq)
              clear hq c1 c2 c3 c5 c6 hgB hgB1
              have HX9 := Lib.hid (row_new (show (wr.alloc (.cells #[.int .i64 (p : Int), .int .i64 (f : Int), .int .u8 1] 75)).heap[B]? = some (.cells #[.int .i64 (p : Int), .int .i64 (f : Int), .int .u8 1] 75 (0, 0)) from by rw [← hB]; exact World.alloc_heap_new wr _) HN9.out)
              have HW9 := Lib.hid (show New wr U9 from ((New.refl wr).alloc _).trans HN9.out)
              have c1 : U9.cell? ⟨B, 0, none⟩ = some (.int .i64 (p : Int)) := (cell_of_row U9 B 0 _ _ _ HX9.out).trans rfl
              have c2 : U9.cell? ⟨B, 1, none⟩ = some (.int .i64 (f : Int)) := (cell_of_row U9 B 1 _ _ _ HX9.out).trans rfl
              have c3 : U9.cell? ⟨B, 2, none⟩ = some (.int .u8 1) := (cell_of_row U9 B 2 _ _ _ HX9.out).trans rfl
              clear hB
              go_wp2_with fail
              go_roundw
              case rel => exact ⟨k + 1, by omega, by go_num, by rw [HSk.out], HNEW.out.trans HW9.out⟩
              case measure => simp [intOf]; omega
        · have ht : ¬ ((k : Int) < (M : Int)) := by omega
          obtain rfl : M = k := by omega
          have HLC := Lib.hid (fun (w1 : World) (hn : New wr w1) => last_c bD cD (show Iv w1 bD N D from row_new IU.out (HNEW.out.trans hn)) (by omega) HBD.out)
          have HAL2 := Lib.hid (fun (w1 : World) (hn : New wr w1) => HAL.out w1 ((NU.out.trans HNEW.out).trans hn))
          have heq : (sm M == lastM D N) = true := by rw [HALLS.out, HLAST.out]; simp
          have HNW := Lib.hid (NU.out.trans HNEW.out)
          generalize sm M = S at *
          generalize lastM D N = T at *
          go_wp2_with (first | (go_at_call 21; (with_reducible refine (HAL2.out _ ?_).mono ?_); (· exact New.refl _); rintro e w9 ⟨rfl, n9⟩; have N9 := Lib.hid n9; clear n9) | (go_at_call 66; (with_reducible refine (HLC.out _ ?_).mono ?_); (· exact N9.out); rintro e w10 ⟨rfl, n10⟩; have N10 := Lib.hid (N9.out.trans n10); clear n10))
          go_ret
          exact ⟨rfl, HNW.out.trans N10.out⟩
  · have HRE := Lib.hid (fun (w1 : World) (hn : New w w1) => reasons_bad (H0.new hn) d lv lc l (by omega) (hP.new hn) hc)
    have HDA := Lib.hid (fun (w1 : World) (hn : New w w1) => days_bad (H0.new hn) d lv lc l (by omega) (hP.new hn) hc)
    have he : (dryO o av nv d l != 0) = true := by simpa using hc
    have hl24 : ¬ ((l.length : Int) > 24) := by omega
    clear H0 h hP hT e1 e2 hc h24
    generalize dryO o av nv d l = E at *
    generalize l.length = N at *
    go_enter Tryd.func17, Tryd.ntmps17
    go_wp2_with (first | (go_at_call 20; (with_reducible refine (HSL.out _ ?_).mono ?_); (· exact (New.refl w).alloc _); rintro e w6 ⟨rfl, n6⟩; have N6 := Lib.hid (((New.refl w).alloc _).trans n6); have HB6 := Lib.hid (row_new HB.out n6); have c0 : w6.cell? ⟨H, 0, none⟩ = some (.int .i64 o.n) := (cell_of_row w6 H 0 _ _ _ HB6.out).trans rfl; have c1 : w6.cell? ⟨H, 1, none⟩ = some (.slice x1 o.A.length x2) := (cell_of_row w6 H 1 _ _ _ HB6.out).trans rfl; have c2 : w6.cell? ⟨H, 2, none⟩ = some (.slice x3 o.B.length x4) := (cell_of_row w6 H 2 _ _ _ HB6.out).trans rfl; have hHl : H < w6.heap.size := (Array.getElem?_eq_some_iff.1 HB6.out).1; clear n6) | (go_at_call 59; (with_reducible refine (HRE.out _ ?_).mono ?_); (· exact N6.out); rintro e w7 ⟨rfl, n7⟩; have N7 := Lib.hid (N6.out.trans n7); clear c0 c1 c2 hHl; have HB7 := Lib.hid (row_new HB6.out n7); have c0 : w7.cell? ⟨H, 0, none⟩ = some (.int .i64 o.n) := (cell_of_row w7 H 0 _ _ _ HB7.out).trans rfl; have c1 : w7.cell? ⟨H, 1, none⟩ = some (.slice x1 o.A.length x2) := (cell_of_row w7 H 1 _ _ _ HB7.out).trans rfl; have c2 : w7.cell? ⟨H, 2, none⟩ = some (.slice x3 o.B.length x4) := (cell_of_row w7 H 2 _ _ _ HB7.out).trans rfl; have hHl : H < w7.heap.size := (Array.getElem?_eq_some_iff.1 HB7.out).1; clear n7) | (go_at_call 55; (with_reducible refine (HDA.out _ ?_).mono ?_); (· exact N7.out); rintro e w8 ⟨rfl, n8⟩; have N8 := Lib.hid (N7.out.trans n8); clear n8) | (go_at_call 21; (with_reducible refine (HAL.out _ ?_).mono ?_); (· exact N8.out); rintro e w9 ⟨rfl, n9⟩; have N9 := Lib.hid (N8.out.trans n9); clear n9))
    go_ret
    exact ⟨rfl, N9.out⟩
end Go.Proofs.YtiejefehcpfkaaaDoor
