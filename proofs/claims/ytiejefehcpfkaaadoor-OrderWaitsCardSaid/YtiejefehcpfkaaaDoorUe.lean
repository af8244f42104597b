/- The first circle of a problem, as Circle returns it. · The numbers at the chapter's sample: all of them closed. -/
import Derived.Test.YtiejefehcpfkaaaDoorUc
import Derived.Test.YtiejefehcpfkaaaDoorTr

section
set_option linter.unusedSimpArgs false
set_option linter.unusedVariables false
set_option maxRecDepth 100000
namespace Go.Proofs.YtiejefehcpfkaaaDoor
open Go.RowKit Go.Shelf

attribute [local go_sem] Oper.semAt_some

theorem afF_low {n : Int} {L : List (Int × Int)} (h : arB n L = true) (hn : n ≤ 24) : ∀ k, k ≤ L.length → ∀ p i, (afF L k p).testBit i = true → i < n.toNat
  | 0, _, p, i, hb => by simp [afF] at hb
  | k + 1, hk, p, i, hb => by
    have ih := afF_low h hn k (by omega)
    have hp := arB_in h k (by omega)
    simp only [afF, addL, upd] at hb
    split at hb
    · rw [Nat.testBit_or, Bool.or_eq_true] at hb
      rcases hb with hb | hb
      · exact ih _ i hb
      · rw [Nat.testBit_two_pow] at hb
        have e : bN L k = i := by simpa using hb
        unfold bN at e
        omega
    · exact ih _ i hb
theorem opG_af {o : Prb} (av nv : Value) (h : chkI o = 0) : ∀ p, (opG o av nv).af p < 2 ^ 24 := fun p => by
  obtain ⟨h1, h2, h3, _⟩ := chkI_zero h
  refine Nat.lt_pow_two_of_testBit _ fun i hi => ?_
  cases hb : ((opG o av nv).af p).testBit i
  · rfl
  · have := afF_low h2 (by omega) _ (Nat.le_refl _) p i hb
    omega
theorem neq_nil (w : World) (a : Option Addr) (l c : Nat) : (binOp .neq 31 (.slice a l c) (.slice none 0 0)).run Tryd.prog w = .ok (.bool (!a.isNone)) w := by
  simp [binOp, run_equal_slice_nil w _ _ a l c Tryd.underlying31]
/-- the lesser one of two circles -/
def betC (r : Option (List Nat)) (c : Option (List Nat)) : Option (List Nat) := match c, r with
  | none, r => r
  | some l, none => some l
  | some l, some f => if clI (ints l) (ints f) < 0 then some l else some f
def cirF (G : Gph) : Nat → Option (List Nat)
  | 0 => none
  | k + 1 => betC (cirF G k) (ciN G.af k 49 [[k]] (fst (k + 1)))
/-- the first circle, if there is one -/
def circO (G : Gph) : Option (List Nat) := cirF G G.n
theorem CirV.new {W W' : World} {base : Nat} {v : Value} {r : Option (List Nat)} (h : CirV W base v r) (hn : New W W') : CirV W' base v r := by
  rcases h with ⟨h1, h2⟩ | ⟨l, h1, h2, h3, h4⟩
  · exact .inl ⟨h1, h2⟩
  · exact .inr ⟨l, h1, h2, h3, own_new h4 hn⟩
theorem CirV.shape {W : World} {base : Nat} {v : Value} {r : Option (List Nat)} (h : CirV W base v r) : ∃ a n c, v = .slice a n c ∧ a.isNone = r.isNone := by
  rcases h with ⟨h1, h2⟩ | ⟨l, h1, h2, h3, h4⟩
  · exact ⟨_, _, _, h2, by rw [h1]; rfl⟩
  · rcases h4.2 with ⟨_, h0⟩ | ⟨g, cap, cur, e, _⟩
    · exact absurd (List.length_eq_zero_iff.1 h0) h2
    · exact ⟨_, _, _, e, by rw [h1]; rfl⟩
theorem CirV.base {W : World} {b b' : Nat} {v : Value} {r : Option (List Nat)} (h : CirV W b v r) (hb : b' ≤ b) : CirV W b' v r := by
  rcases h with ⟨h1, h2⟩ | ⟨l, h1, h2, h3, h4⟩
  · exact .inl ⟨h1, h2⟩
  · exact .inr ⟨l, h1, h2, h3, own_base h4 hb⟩
theorem CirV.sl {W : World} {base : Nat} {v : Value} {l : List Nat} (h : CirV W base v (some l)) : SlI W v (ints l) ∧ l.length ≤ 25 := by
  rcases h with ⟨h1, _⟩ | ⟨l', h1, h2, h3, h4⟩
  · cases h1
  · obtain rfl : l = l' := by simpa using h1
    exact ⟨SlI.of_own h4, h3⟩

set_option maxHeartbeats 16000000 in
theorem Circle_bad {w : World} {v : Value} {o : Prb} {av nv : Value} (h : PrbA w v o av nv) (hc : chkI o ≠ 0) :
    Calls Tryd.prog 26 #[v] w fun en w' => en = .returned (.tuple #[.slice none 0 0, .bool false]) ∧ New w w' := by
  have HO := Lib.hid (fun (w1 : World) (hn : New w w1) => open_c (h.new hn))
  have HOK := Lib.hid (opR_ok h.sh)
  have hv := h.eq
  obtain ⟨x1, x2, x3, x4, e1, e2⟩ := h.sh
  clear h
  have he : (chkI o != 0) = true := by simpa using hc
  clear hc
  generalize chkI o = E at *
  generalize opR o av nv = RG at *
  subst hv
  subst e1 e2
  go_enter Tryd.func26, Tryd.ntmps26
  go_wp2_with (first | (go_at_call 68; (with_reducible refine (HO.out _ ?_).mono ?_); (repeat (first | exact New.refl _ | apply New.alloc)); rintro e w6 ⟨rfl, n6⟩; have HN := Lib.hid (((New.refl w).alloc _).trans n6); clear n6) | (refine wpList_store_graph rfl (.tmp 4) (.tmp 12) rfl rfl rfl HOK.out ?_; intro w7 n7 g7; obtain ⟨g, hg⟩ : ∃ g, w6.heap.size = g := ⟨_, rfl⟩; simp only [hg] at g7 ⊢; have N7 := Lib.hid (HN.out.trans n7); have G7 := Lib.hid g7; clear n7 g7))
  go_ret2
  exact ⟨rfl, N7.out⟩
set_option maxHeartbeats 16000000 in
theorem Circle_good {w : World} {v : Value} {o : Prb} {av nv : Value} (h : PrbA w v o av nv) (hT : Tab w) (hc : chkI o = 0) :
    Calls Tryd.prog 26 #[v] w fun en w' => ∃ u, en = .returned (.tuple #[u, .bool (circO (opG o av nv)).isSome]) ∧ New w w' ∧ CirV w' w.heap.size u (circO (opG o av nv)) := by
  have HO := Lib.hid (fun (w1 : World) (hn : New w w1) => open_c (h.new hn))
  have hOK := opR_ok h.sh
  have hv := h.eq
  obtain ⟨x1, x2, x3, x4, e1, e2⟩ := h.sh
  clear h
  rw [opR_good hc] at hOK
  rw [hc, opR_good hc] at HO
  have HAF := Lib.hid (opG_af (o := o) av nv hc)
  have HOK := Lib.hid hOK
  have HT := Lib.hid hT
  clear hT hc
  generalize opG o av nv = RG at *
  have HCF := Lib.hid (fun (k : Nat) (w1 : World) (hk : k < 24) (hn : New w w1) => circleFrom_c RG k w1 hOK HAF.out hk (HT.out.new hn))
  have hn24 := hOK.n24
  clear hOK
  obtain ⟨CO, hCO⟩ : ∃ CO, circO RG = CO := ⟨_, rfl⟩
  have HCO := Lib.hid hCO
  rw [hCO]
  clear hCO
  subst hv
  subst e1 e2
  have qe := eql_nil
  have qn := neq_nil
  obtain ⟨H, hH⟩ : ∃ H, w.heap.size = H := ⟨_, rfl⟩
  have HH := Lib.hid hH
  clear hH
  go_enter Tryd.func26, Tryd.ntmps26
  go_wp2_with (first | (go_at_call 68; (with_reducible refine (HO.out _ ?_).mono ?_); (repeat (first | exact New.refl _ | apply New.alloc)); rintro e w6 ⟨rfl, n6⟩; have HN := Lib.hid (((New.refl w).alloc _).trans n6); clear n6) | (refine wpList_store_graph rfl (.tmp 4) (.tmp 12) rfl rfl rfl HOK.out ?_; intro w7 n7 g7; obtain ⟨g, hg⟩ : ∃ g, w6.heap.size = g := ⟨_, rfl⟩; simp only [hg] at g7 ⊢; have N7 := Lib.hid (HN.out.trans n7); have G7 := Lib.hid g7; have c0 := g7.n; clear n7 g7))
  go_loopw [6, 19] (fun v6 v19 wr => ∃ (k : Nat), v19 = .int .i64 (k : Int) ∧ k ≤ RG.n ∧ New w wr ∧ Gr wr g RG ∧ CirV wr H v6 (cirF RG k)) (fun _ v19 _ => RG.n - (intOf v19).toNat)
  case atStart => exact ⟨0, rfl, Nat.zero_le _, N7.out, G7.out, .inl ⟨rfl, rfl⟩⟩
  case round =>
    obtain ⟨k, rfl, hk, hnew, hgr, hcv⟩ := hrel
    obtain ⟨a, n, c, rfl, ha⟩ := hcv.shape
    have HNEW := Lib.hid hnew
    have HGR := Lib.hid hgr
    have HCV := Lib.hid hcv
    clear hnew hgr hcv
    by_cases hlt : k < RG.n
    · have ht : (k : Int) < (RG.n : Int) := by omega
      have hk24 : k < 24 := by omega
      have hnk : (RG.n : Int) ≤ 24 := by omega
      have HCA := Lib.hid (HCF.out k wr hk24 HNEW.out)
      have HSTEP := Lib.hid (show cirF RG (k + 1) = betC (cirF RG k) (ciN RG.af k 49 [[k]] (fst (k + 1))) from rfl)
      obtain ⟨r, hr⟩ : ∃ r, cirF RG k = r := ⟨_, rfl⟩
      obtain ⟨cc, hcc⟩ : ∃ cc, ciN RG.af k 49 [[k]] (fst (k + 1)) = cc := ⟨_, rfl⟩
      rw [hcc] at HCA
      rw [hcc, hr] at HSTEP
      rw [hr] at HCV ha
      clear hr hcc
      go_upto_region 9 with (first | (refine wpList_get_graph rfl (.tmp 4) rfl g rfl HGR.out ?_) | (go_at_call 76; refine HCA.out.mono ?_; rintro e w8 ⟨lv, rfl, n8, cv8⟩; have N8 := Lib.hid n8; have HC8 := Lib.hid (cv8.base (show H ≤ wr.heap.size from by rw [← HH.out]; exact HNEW.out.size)); obtain ⟨a8, m8, c8, rfl, ha8⟩ := cv8.shape; clear n8 cv8))
      cases cc with
      | none =>
        obtain rfl : a8 = none := by cases a8 <;> simp at ha8 ⊢
        go_wp2_with fail
        go_roundw
        case rel => exact ⟨k + 1, by go_num, by omega, HNEW.out.trans N8.out, HGR.out.new N8.out, by rw [HSTEP.out]; exact HCV.out.new N8.out⟩
        case measure => simp [intOf]; omega
      | some l =>
        obtain ⟨p8, rfl⟩ : ∃ p8, a8 = some p8 := by cases a8 <;> simp at ha8 ⊢
        cases r with
        | none =>
          obtain rfl : a = none := by cases a <;> simp at ha ⊢
          go_wp2_with fail
          go_roundw
          case rel => exact ⟨k + 1, by go_num, by omega, HNEW.out.trans N8.out, HGR.out.new N8.out, by rw [HSTEP.out]; exact HC8.out⟩
          case measure => simp [intOf]; omega
        | some f =>
          obtain ⟨p1, rfl⟩ : ∃ p1, a = some p1 := by cases a <;> simp at ha ⊢
          obtain ⟨z, hz⟩ : ∃ z, clI (ints l) (ints f) = z := ⟨_, rfl⟩
          have HCMP := Lib.hid (show Calls Tryd.prog 77 #[.slice (some p8) m8 c8, .slice (some p1) n c, .func (.func 78) #[] #[]] w8 fun en w' => en = .returned (.int .i64 z) ∧ New w8 w' from by
            have h1 := HC8.out.sl
            have h2 := (HCV.out.new N8.out).sl
            have := compareLists_c h1.1 h2.1 (by rw [ints_len]; omega) (by rw [ints_len]; omega)
            rw [hz] at this; exact this)
          by_cases hz0 : z < 0
          · have HS2 := Lib.hid (show cirF RG (k + 1) = some l from by rw [HSTEP.out]; show (if clI (ints l) (ints f) < 0 then some l else some f) = _; rw [hz, if_pos hz0])
            clear hz
            go_wp2_with (go_at_call 77; refine HCMP.out.mono ?_; rintro e w9 ⟨rfl, n9⟩; have N9 := Lib.hid (N8.out.trans n9); have HC9 := Lib.hid (HC8.out.new n9); clear n9)
            go_roundw
            case rel => exact ⟨k + 1, by go_num, by omega, HNEW.out.trans N9.out, HGR.out.new N9.out, by rw [HS2.out]; exact HC9.out⟩
            case measure => simp [intOf]; omega
          · have HS2 := Lib.hid (show cirF RG (k + 1) = some f from by rw [HSTEP.out]; show (if clI (ints l) (ints f) < 0 then some l else some f) = _; rw [hz, if_neg hz0])
            clear hz
            go_wp2_with (go_at_call 77; refine HCMP.out.mono ?_; rintro e w9 ⟨rfl, n9⟩; have N9 := Lib.hid (N8.out.trans n9); clear n9)
            go_roundw
            case rel => exact ⟨k + 1, by go_num, by omega, HNEW.out.trans N9.out, HGR.out.new N9.out, by rw [HS2.out]; exact HCV.out.new N9.out⟩
            case measure => simp [intOf]; omega
    · have ht : ¬ ((k : Int) < (RG.n : Int)) := by omega
      obtain rfl : RG.n = k := by omega
      have HRES := Lib.hid (show CO = cirF RG RG.n from HCO.out.symm)
      obtain ⟨r, hr⟩ : ∃ r, cirF RG RG.n = r := ⟨_, rfl⟩
      rw [hr] at HCV ha HRES
      cases r with
      | none =>
        obtain rfl : a = none := by cases a <;> simp at ha ⊢
        go_wp2_with fail
        go_ret2
        exact ⟨_, by rw [HRES.out]; rfl, HNEW.out, by rw [HH.out, HRES.out]; exact HCV.out⟩
      | some f =>
        obtain ⟨p1, rfl⟩ : ∃ p1, a = some p1 := by cases a <;> simp at ha ⊢
        go_wp2_with fail
        go_ret2
        exact ⟨_, by rw [HRES.out]; rfl, HNEW.out, by rw [HH.out, HRES.out]; exact HCV.out⟩
end Go.Proofs.YtiejefehcpfkaaaDoor
end

section
set_option linter.unusedSimpArgs false
set_option linter.unusedVariables false
set_option maxRecDepth 100000
namespace Go.Proofs.YtiejefehcpfkaaaDoor
open Go.RowKit Go.Shelf

/-- the sample with one arc more: a circle -/
def rndP : Prb := ⟨4, [(0, 1), (0, 2), (1, 3), (3, 0)], [(0, 1), (1, 2), (2, 3)]⟩
def nv0 : Value := .slice none 0 0
theorem al_chk : chkI samP = 0 := by decide +kernel
theorem al_few : fewI samP = 0 := by decide +kernel
theorem al_ord (av nv : Value) : ordI samP av nv = 0 := by kernel_rfl
theorem al_dry (av nv : Value) : dryO samP av nv 2 [0, 1, 2, 3] = 0 := by kernel_rfl
theorem al_wai (av nv : Value) : waitI samP av nv 2 = 0 := by kernel_rfl
theorem al_first (av nv : Value) : firstO (opG samP av nv) = [0, 1, 2, 3] := by kernel_rfl
theorem al_cnt (av nv : Value) : cntG (opG samP av nv) = 3 := by kernel_rfl
theorem al_nth (av nv : Value) : nthG (opG samP av nv) 1 = [0, 1, 3, 2] := by kernel_rfl
theorem al_free (av nv : Value) : freeO (opG samP av nv) = [1, 2] := by kernel_rfl
theorem al_days (av nv : Value) : (List.range 4).map (erF (opG samP av nv) 2 [0, 1, 2, 3] 4) = [0, 3, 6, 9] := by kernel_rfl
theorem al_rea (av nv : Value) : reasonsL (opG samP av nv) 2 [0, 1, 2, 3] = [(3, 2, 2), (2, 1, 2), (1, 0, 2), (0, -1, 0)] := by kernel_rfl
theorem al_st1 (av nv : Value) : stI samP av nv 0 3 = 1 := by kernel_rfl
theorem al_st2 (av nv : Value) : stI samP av nv 3 1 = 2 := by kernel_rfl
theorem al_so (av nv : Value) : (soRun (opG samP av nv) 2 (none, 2001) (ordG (opG samP av nv))).1 = some [0, 2, 1, 3] := by kernel_rfl
theorem al_wd (av nv : Value) : (List.range 4).map (erF (opG samP av nv) 2 (ints [0, 2, 1, 3]) 4) = [0, 4, 1, 5] := by kernel_rfl
theorem al_chk2 : chkI rndP = 0 := by decide +kernel
theorem al_circ (av nv : Value) : circO (opG rndP av nv) = some [0, 1, 3] := by kernel_rfl
end Go.Proofs.YtiejefehcpfkaaaDoor
end
