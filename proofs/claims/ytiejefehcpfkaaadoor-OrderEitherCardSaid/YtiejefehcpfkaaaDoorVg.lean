/- CheckCircle of the program, at any list. -/
import Derived.Test.YtiejefehcpfkaaaDoorVd
set_option linter.unusedSimpArgs false
set_option linter.unusedVariables false
set_option maxRecDepth 100000
namespace Go.Proofs.YtiejefehcpfkaaaDoor
open Go.RowKit Go.Shelf

attribute [local go_sem] Oper.semAt_some

theorem okS_lt {G : Gph} {l : List Int} (hG : G.n ≤ 24) : ∀ {k : Nat}, (List.range k).all (okS G l) = true → laidF l k < 4294967296
  | 0, _ => by simp [laidF]
  | k + 1, h => by
    rw [all_snoc, Bool.and_eq_true] at h
    have h2 := h.2
    unfold okS at h2
    simp only [Bool.and_eq_true, decide_eq_true_eq] at h2
    simp only [laidF]
    exact or_lt (okS_lt hG h.1) (pow_lt _ (by omega))
set_option maxHeartbeats 16000000 in
theorem set_c (G : Gph) (av : Option Addr) (cap : Nat) (l : List Int) (w : World) (hG : G.ok) (hl : l.length ≤ 17592186044415) (hP : Ins w av l) :
    Calls Tryd.prog 81 #[.agg G.cells.toArray, .slice av l.length cap] w fun en w' => en = .returned (.tuple #[sv (if setB G l then laidF l l.length else 0), .bool (setB G l)]) ∧ New w w' := by
  have HP := Lib.hid hP
  have HOK := Lib.hid hG
  have HR := Lib.hid (show setB G l = (List.range l.length).all (okS G l) from rfl)
  have HO := Lib.hid (show ∀ k, okS G l k = ((decide (0 ≤ nI l k) && decide (nI l k < (G.n : Int))) && !((laidF l k).testBit (nI l k).toNat)) from fun _ => rfl)
  have HLT := Lib.hid (fun k (h : (List.range k).all (okS G l) = true) => okS_lt (l := l) hG.n24 h)
  have HL0 := Lib.hid (show laidF l 0 = 0 from rfl)
  have HLS := Lib.hid (show ∀ k, laidF l (k + 1) = laidF l k ||| 2 ^ (nI l k).toNat from fun _ => rfl)
  have h24 := hG.n24
  clear hP hG
  generalize hN : l.length = N at *
  have HNL := Lib.hid hN
  clear hN
  generalize setB G l = R at *
  generalize okS G l = ok at *
  generalize laidF l = la at *
  obtain ⟨H, hH⟩ : ∃ H, w.heap.size = H := ⟨_, rfl⟩
  have HG0 := Lib.hid (Gr.box w G)
  have HH := Lib.hid hH
  obtain ⟨GC, hGC⟩ : ∃ GC, GC = G.cells.toArray := ⟨_, rfl⟩
  rw [← hGC] at HG0 ⊢
  have HGC := Lib.hid hGC
  clear hGC
  obtain ⟨RS, hRS⟩ : ∃ RS, (if R = true then la N else 0) = RS := ⟨_, rfl⟩
  have HRES := Lib.hid (fun (b : Bool) (x : Nat) (hb : R = b) (hx : b = true → x = la N) (hx0 : b = false → x = 0) => (by
    have e : x = RS := by
      rw [← hRS]
      cases b
      · rw [hb, hx0 rfl]; rfl
      · rw [hb, hx rfl]; rfl
    rw [e, hb] : (Value.tuple #[sv x, .bool b]) = Value.tuple #[sv RS, .bool R]))
  rw [hRS]
  clear hRS
  go_enter Tryd.func81, Tryd.ntmps81
  go_wp2_with fail
  go_loopw [6, 11] (fun s i wr => ∃ k : Nat, k ≤ N ∧ i = .int .i64 k ∧ s = sv (la k) ∧ (List.range k).all ok = true ∧ New w wr ∧ Gr wr H G) (fun _ i _ => N - (intOf i).toNat)
  case atStart => exact ⟨0, Nat.zero_le _, rfl, by rw [HL0.out]; rfl, rfl, (New.refl _).alloc _, by have := HG0.out; rw [hH] at this; exact this⟩
  case round =>
    obtain ⟨k, hk, rfl, rfl, hall, hnew, hgr⟩ := hrel
    have HALL := Lib.hid hall
    have HNEW := Lib.hid hnew
    have HGR := Lib.hid hgr
    have hlk := HLT.out k hall
    clear hall hnew hgr hH
    by_cases hlt : k < N
    · obtain ⟨b, off, rfl, gl, hcc⟩ := HP.out.new HNEW.out (by rw [HNL.out]; omega)
      have c1 := hcc k (by rw [HNL.out]; omega)
      have hk1 : (k : Int) < (N : Int) := by omega
      have HOk := Lib.hid (HO.out k)
      have HLk := Lib.hid (HLS.out k)
      have HSN := Lib.hid (all_snoc ok k)
      have HMS := Lib.hid (fun (e : ok k = false) => (by rw [HR.out, all_miss hlt e] : R = false))
      have HIP := Lib.hid (fun w1 : World => isPatch_c G (nI l k) w1)
      clear hcc
      generalize nI l k = x at *
      generalize hLA : la k = L at *
      have HLA := Lib.hid hLA
      clear hLA
      by_cases u1 : 0 ≤ x ∧ x < G.n
      · obtain ⟨p, rfl⟩ : ∃ p : Nat, x = p := ⟨x.toNat, by omega⟩
        have p24 : p < 24 := by omega
        have p24' : (p : Int) < 24 := by omega
        have htt : (true && true) = true := rfl
        rw [decide_eq_true u1.1, decide_eq_true u1.2, htt] at HOk HIP
        simp only [Int.toNat_natCast] at HOk HLk
        have HHA := Lib.hid (fun w1 : World => has_c L p w1 hlk (by omega))
        have HSI := Lib.hid (fun w1 : World => single_c p w1 (by omega))
        have HOR := Lib.hid (or32 L (2 ^ p) hlk (pow_lt p (by omega)))
        generalize 2 ^ p = X at *
        cases hb : L.testBit p
        · rw [hb] at HHA HOk
          clear hb
          have HV := Lib.hid (show ok k = true from HOk.out)
          go_wp2_with (first | (refine wpList_load_row rfl 83 (.tmp 2) rfl H rfl 83 _ (0, 0) _ HGR.out Tryd.underlying83 rfl (graph_sizeG _) ?_) | (go_at_call 69; refine (HIP.out _).mono ?_; rintro e w6 ⟨rfl, n6⟩; have N6 := Lib.hid n6; clear n6) | (go_at_call 70; refine (HHA.out _).mono ?_; rintro e w7 ⟨rfl, n7⟩; have N7 := Lib.hid n7; clear n7) | (go_at_call 91; refine (HSI.out _).mono ?_; rintro e w9 ⟨rfl, n9⟩; have N9 := Lib.hid n9; clear n9))
          go_roundw
          case rel => exact ⟨k + 1, by omega, by go_num, by rw [HLk.out]; exact congrArg (Value.int .u32) HOR.out, by rw [HSN.out, HALL.out, HV.out]; rfl, HNEW.out.trans (N6.out.trans (N7.out.trans N9.out)), HGR.out.new (N6.out.trans (N7.out.trans N9.out))⟩
          case measure => simp [intOf]; omega
        · rw [hb] at HHA HOk
          clear hb
          have HF := Lib.hid (show R = false from HMS.out (by rw [HOk.out]; rfl))
          go_wp2_with (first | (refine wpList_load_row rfl 83 (.tmp 2) rfl H rfl 83 _ (0, 0) _ HGR.out Tryd.underlying83 rfl (graph_sizeG _) ?_) | (go_at_call 69; refine (HIP.out _).mono ?_; rintro e w6 ⟨rfl, n6⟩; have N6 := Lib.hid n6; clear n6) | (go_at_call 70; refine (HHA.out _).mono ?_; rintro e w7 ⟨rfl, n7⟩; have N7 := Lib.hid n7; clear n7))
          go_ret2
          exact ⟨congrArg Ending.returned (HRES.out false 0 HF.out (fun h => by cases h) (fun _ => rfl)), HNEW.out.trans (N6.out.trans N7.out)⟩
      · have hb : (decide (0 ≤ x) && decide (x < (G.n : Int))) = false := by rw [Bool.and_eq_false_iff, decide_eq_false_iff_not, decide_eq_false_iff_not]; omega
        rw [hb] at HOk HIP
        have HF := Lib.hid (show R = false from HMS.out (by rw [HOk.out]; rfl))
        clear hb u1
        go_wp2_with (first | (refine wpList_load_row rfl 83 (.tmp 2) rfl H rfl 83 _ (0, 0) _ HGR.out Tryd.underlying83 rfl (graph_sizeG _) ?_) | (go_at_call 69; refine (HIP.out _).mono ?_; rintro e w6 ⟨rfl, n6⟩; have N6 := Lib.hid n6; clear n6))
        go_ret2
        exact ⟨congrArg Ending.returned (HRES.out false 0 HF.out (fun h => by cases h) (fun _ => rfl)), HNEW.out.trans N6.out⟩
    · have ht : ¬ ((k : Int) < (N : Int)) := by omega
      obtain rfl : N = k := by omega
      have HF := Lib.hid (show R = true by rw [HR.out, HALL.out])
      go_wp2_with fail
      go_ret2
      exact ⟨congrArg Ending.returned (HRES.out true _ HF.out (fun _ => rfl) (fun h => by cases h)), HNEW.out⟩
set_option maxHeartbeats 16000000 in
theorem CheckCircle_c {w : World} {v : Value} {o : Prb} {av nv : Value} (h : PrbA w v o av nv) (lv : Option Addr) (lc : Nat) (l : List Int) (hl : l.length ≤ 17592186044415) (hP : Ins w lv l) :
    Calls Tryd.prog 29 #[v, .slice lv l.length lc] w fun en w' => en = .returned (.bool (decide (chkI o = 0) && chcB (opG o av nv) l)) ∧ New w w' := by
  have HO := Lib.hid (fun (w1 : World) (hn : New w w1) => open_c (h.new hn))
  have hOK := opR_ok h.sh
  have hv := h.eq
  obtain ⟨x1, x2, x3, x4, e1, e2⟩ := h.sh
  clear h
  have HOK := Lib.hid hOK
  by_cases hc : chkI o = 0
  · rw [opR_good hc] at HO HOK hOK
    have HAF := Lib.hid (opG_af (o := o) av nv hc)
    rw [decide_eq_true hc, Bool.true_and]
    rw [hc] at HO
    have HSE := Lib.hid (fun (w1 : World) (hn : New w w1) => set_c (opG o av nv) lv lc l w1 hOK hl (hP.new hn))
    have h24 := hOK.n24
    clear hOK hc
    generalize opG o av nv = RG at *
    have HP := Lib.hid hP
    obtain ⟨R, hR⟩ : ∃ R, chcB RG l = R := ⟨_, rfl⟩
    rw [hR]
    have HR := Lib.hid (show ((decide (2 ≤ l.length) && setB RG l) && (List.range l.length).all (stepB RG l)) = R from hR)
    have HST := Lib.hid (show ∀ i, stepB RG l i = (RG.af (nI l (prevN l.length i)).toNat).testBit (nI l i).toNat from fun _ => rfl)
    have HIN := Lib.hid (fun (hs : setB RG l = true) (k : Nat) (hk : k < l.length) => (setB_at hs hk).1)
    have HIN2 := Lib.hid (fun (hs : setB RG l = true) (k : Nat) (hk : k < l.length) => (setB_at hs hk).2.1)
    clear hR hP
    generalize hN : l.length = N at *
    have HNL := Lib.hid hN
    clear hN
    generalize stepB RG l = ok at *
    subst hv
    subst e1 e2
    by_cases u1 : (N : Int) < 2
    · have HF := Lib.hid (show false = R by rw [← HR.out, decide_eq_false (show ¬ 2 ≤ N by omega)]; rfl)
      clear HSE
      go_enter Tryd.func29, Tryd.ntmps29
      go_wp2_with (first | (go_at_call 68; (with_reducible refine (HO.out _ ?_).mono ?_); (repeat (first | exact New.refl _ | apply New.alloc)); rintro e w6 ⟨rfl, n6⟩; have HN := Lib.hid (((New.refl w).alloc _).trans n6); clear n6) | (refine wpList_store_graph rfl (.tmp 5) (.tmp 15) rfl rfl rfl HOK.out ?_; intro w7 n7 g7; obtain ⟨g, hg⟩ : ∃ g, w6.heap.size = g := ⟨_, rfl⟩; simp only [hg] at g7 ⊢; have N7 := Lib.hid (HN.out.trans n7); have G7 := Lib.hid g7; clear n7 g7))
      go_ret
      exact ⟨ret_bool HF.out, N7.out⟩
    · have HR2 := Lib.hid (show (setB RG l && (List.range N).all ok) = R by rw [← HR.out, decide_eq_true (show 2 ≤ N by omega), Bool.true_and])
      cases hs : setB RG l
      · rw [hs] at HSE HR2
        have HF := Lib.hid (show false = R from HR2.out)
        clear HIN HIN2 hs
        simp only [Bool.false_eq_true, if_false] at HSE
        go_enter Tryd.func29, Tryd.ntmps29
        go_wp2_with (first | (go_at_call 68; (with_reducible refine (HO.out _ ?_).mono ?_); (repeat (first | exact New.refl _ | apply New.alloc)); rintro e w6 ⟨rfl, n6⟩; have HN := Lib.hid (((New.refl w).alloc _).trans n6); clear n6) | (refine wpList_store_graph rfl (.tmp 5) (.tmp 15) rfl rfl rfl HOK.out ?_; intro w7 n7 g7; obtain ⟨g, hg⟩ : ∃ g, w6.heap.size = g := ⟨_, rfl⟩; simp only [hg] at g7 ⊢; have N7 := Lib.hid (HN.out.trans n7); have G7 := Lib.hid g7; clear n7 g7) | (refine wpList_want_graph (.tmp 5) rfl rfl g rfl G7.out ?_) | (go_at_call 81; (with_reducible refine (HSE.out _ ?_).mono ?_); (· exact N7.out); rintro e w8 ⟨rfl, n8⟩; have N8 := Lib.hid (N7.out.trans n8); clear n8))
        go_ret
        exact ⟨ret_bool HF.out, N8.out⟩
      · rw [hs] at HSE HR2
        rw [Bool.true_and] at HR2
        have HI := Lib.hid (HIN.out hs)
        have HI2 := Lib.hid (HIN2.out hs)
        clear HIN HIN2 hs
        simp only [if_true] at HSE
        generalize laidF l N = LF at *
        obtain ⟨b, off, rfl, gl0, hcc0⟩ := HP.out (by rw [HNL.out]; omega)
        have HCC := Lib.hid hcc0
        have HGL := Lib.hid gl0
        clear hcc0 gl0
        have HLAST := Lib.hid (HCC.out (N - 1) (by rw [HNL.out]; omega))
        have uN : ((N : Int) - 1) = ((N - 1 : Nat) : Int) := by omega
        have uN1 : ((N - 1 : Nat) : Int) < (N : Int) := by omega
        have uN0 : (0 : Int) ≤ ((N - 1 : Nat) : Int) := by omega
        go_enter Tryd.func29, Tryd.ntmps29
        go_wp2_with (first | (go_at_call 68; (with_reducible refine (HO.out _ ?_).mono ?_); (repeat (first | exact New.refl _ | apply New.alloc)); rintro e w6 ⟨rfl, n6⟩; have HN := Lib.hid (((New.refl w).alloc _).trans n6); clear n6) | (refine wpList_store_graph rfl (.tmp 5) (.tmp 15) rfl rfl rfl HOK.out ?_; intro w7 n7 g7; obtain ⟨g, hg⟩ : ∃ g, w6.heap.size = g := ⟨_, rfl⟩; simp only [hg] at g7 ⊢; have N7 := Lib.hid (HN.out.trans n7); have G7 := Lib.hid g7; clear n7 g7) | (refine wpList_want_graph (.tmp 5) rfl rfl g rfl G7.out ?_) | (go_at_call 81; (with_reducible refine (HSE.out _ ?_).mono ?_); (· exact N7.out); rintro e w8 ⟨rfl, n8⟩; have N8 := Lib.hid (N7.out.trans n8); have G8 := Lib.hid (G7.out.new n8); have c8 : w8.cell? ⟨b, off + (N - 1), none⟩ = some (.int .i64 (nI l (N - 1))) := (N8.out.cell HGL.out).trans HLAST.out; clear n8))
        go_loopw [9, 40] (fun q i wr => ∃ k : Nat, k ≤ N ∧ i = .int .i64 k ∧ q = .int .i64 (nI l (prevN N k)) ∧ (List.range k).all ok = true ∧ New w wr ∧ Gr wr g RG) (fun _ i _ => N - (intOf i).toNat)
        case atStart => exact ⟨0, Nat.zero_le _, rfl, rfl, rfl, N8.out, G8.out⟩
        case round =>
          clear c8
          obtain ⟨k, hk, rfl, rfl, hall, hnew, hgr⟩ := hrel
          have HALL := Lib.hid hall
          have HNEW := Lib.hid hnew
          have HGR := Lib.hid hgr
          clear hall hnew hgr
          by_cases hlt : k < N
          · have c1 : wr.cell? ⟨b, off + k, none⟩ = some (.int .i64 (nI l k)) := (HNEW.out.cell HGL.out).trans (HCC.out k (by rw [HNL.out]; omega))
            have hk1 : (k : Int) < (N : Int) := by omega
            have HOk := Lib.hid (HST.out k)
            have HSN := Lib.hid (all_snoc ok k)
            have HMS := Lib.hid (fun (e : ok k = false) => (by rw [← HR2.out, all_miss hlt e] : R = false))
            have hp1 := HI.out k hlt
            have hp2 := HI2.out k hlt
            have hpl : prevN N k < N := by unfold prevN; split <;> omega
            have hq1 := HI.out _ hpl
            have hq2 := HI2.out _ hpl
            have HNX := Lib.hid (show prevN N (k + 1) = k by unfold prevN; simp)
            obtain ⟨p, hp⟩ : ∃ p : Nat, nI l k = p := ⟨(nI l k).toNat, by omega⟩
            obtain ⟨q, hq⟩ : ∃ q : Nat, nI l (prevN N k) = q := ⟨(nI l (prevN N k)).toNat, by omega⟩
            have HPK := Lib.hid hp
            rw [hp] at c1 HOk hp1 hp2
            rw [hq] at HOk hq1 hq2 ⊢
            clear hp hq hpl
            have p24 : p < 24 := by omega
            have q24 : q < 24 := by omega
            have q24' : (q : Int) < 24 := by omega
            simp only [Int.toNat_natCast] at HOk
            have c2 : wr.cell? ⟨g, 3 + q, none⟩ = some (sv (RG.af q)) := by rw [HGR.out.cell]; exact Gph.at_af _ q q24
            have hgl : g < wr.heap.size := HGR.out.lt
            have haf := HAF.out q
            have HHA := Lib.hid (fun w1 : World => has_c (RG.af q) p w1 (by omega) (by omega))
            cases hb : (RG.af q).testBit p
            · rw [hb] at HHA HOk
              clear hb
              have HF := Lib.hid (show false = R from (HMS.out HOk.out).symm)
              generalize RG.af q = X at *
              go_wp2_with (go_at_call 70; refine (HHA.out _).mono ?_; rintro e w9 ⟨rfl, n9⟩; have N9 := Lib.hid n9; clear n9)
              go_ret
              exact ⟨ret_bool HF.out, HNEW.out.trans N9.out⟩
            · rw [hb] at HHA HOk
              clear hb
              have HV := Lib.hid (show ok k = true from HOk.out)
              generalize RG.af q = X at *
              go_wp2_with (go_at_call 70; refine (HHA.out _).mono ?_; rintro e w9 ⟨rfl, n9⟩; have N9 := Lib.hid n9; clear n9)
              go_roundw
              case rel => exact ⟨k + 1, by omega, by go_num, by rw [HNX.out, HPK.out], by rw [HSN.out, HALL.out, HV.out]; rfl, HNEW.out.trans N9.out, HGR.out.new N9.out⟩
              case measure => simp [intOf]; omega
          · have ht : ¬ ((k : Int) < (N : Int)) := by omega
            obtain rfl : N = k := by omega
            have HF := Lib.hid (show true = R by rw [← HR2.out, HALL.out])
            go_wp2_with fail
            go_ret
            exact ⟨ret_bool HF.out, HNEW.out⟩
  · have he : (chkI o != 0) = true := by simpa using hc
    rw [decide_eq_false hc, Bool.false_and]
    clear hP hOK hc
    generalize chkI o = E at *
    generalize opR o av nv = RG at *
    subst hv
    subst e1 e2
    go_enter Tryd.func29, Tryd.ntmps29
    go_wp2_with (first | (go_at_call 68; (with_reducible refine (HO.out _ ?_).mono ?_); (repeat (first | exact New.refl _ | apply New.alloc)); rintro e w6 ⟨rfl, n6⟩; have HN := Lib.hid (((New.refl w).alloc _).trans n6); clear n6) | (refine wpList_store_graph rfl (.tmp 5) (.tmp 15) rfl rfl rfl HOK.out ?_; intro w7 n7 g7; obtain ⟨g, hg⟩ : ∃ g, w6.heap.size = g := ⟨_, rfl⟩; simp only [hg] at g7 ⊢; have N7 := Lib.hid (HN.out.trans n7); have G7 := Lib.hid g7; clear n7 g7))
    go_ret
    exact ⟨rfl, N7.out⟩
end Go.Proofs.YtiejefehcpfkaaaDoor
