/- The graph of a problem with drying days and an order, and the earliest days, as openDryOrder and Days return them. Lists of any length that memory takes. -/
import Derived.Test.YtiejefehcpfkaaaDoorSo
import Derived.Test.YtiejefehcpfkaaaDoorSk
set_option linter.unusedSimpArgs false
set_option linter.unusedVariables false
set_option maxRecDepth 100000
namespace Go.Proofs.YtiejefehcpfkaaaDoor
open Go.RowKit Go.Shelf

attribute [local go_sem] Oper.semAt_some

/-- the error of openDryOrder -/
def dryO (o : Prb) (av nv : Value) (d : Int) (l : List Int) : Int := if dryI o d ≠ 0 then dryI o d else if ioB (opG o av nv) l then 0 else 1
theorem dryI_chk {o : Prb} {d : Int} (h : dryI o d = 0) : chkI o = 0 ∧ 0 ≤ d ∧ d ≤ 30 := by
  unfold dryI at h
  split at h
  · rename_i hc; exact absurd h hc
  · rename_i hc
    split at h
    · cases h
    · exact ⟨by omega, by omega, by omega⟩
theorem ofG_bad {o : Prb} {av nv : Value} {e : Int} (h : e ≠ 0) : ofG o av nv e = G0 := by
  unfold ofG; rw [if_neg h]; split <;> rfl
theorem ofG_good {o : Prb} {av nv : Value} (h : chkI o = 0) : ofG o av nv 0 = opG o av nv := by
  unfold ofG; rw [if_pos h]; rfl
theorem opR_good {o : Prb} {av nv : Value} (h : chkI o = 0) : opR o av nv = opG o av nv := by
  unfold opR; rw [if_pos h]

set_option maxHeartbeats 8000000 in
theorem openDryOrder_c {w : World} {v : Value} {o : Prb} {av nv : Value} (h : PrbA w v o av nv) (d : Int) (lv : Option Addr) (lc : Nat) (l : List Int) (hl : l.length ≤ 17592186044415) (hP : Ins w lv l) :
    Calls Tryd.prog 118 #[v, .int .i64 d, .slice lv l.length lc] w fun en w' => en = .returned (.tuple #[.agg (ofG o av nv (dryO o av nv d l)).cells.toArray, .int .i64 (dryO o av nv d l)]) ∧ New w w' := by
  have HO := Lib.hid (fun (w1 : World) (hn : New w w1) => openDry_c (h.new hn) d)
  have HZ1 := Lib.hid built_zero
  rw [← zc_graph] at HZ1
  have hOK := opR_ok h.sh
  have hv := h.eq
  obtain ⟨x1, x2, x3, x4, e1, e2⟩ := h.sh
  clear h
  obtain ⟨H, hH⟩ : ∃ H, w.heap.size = H := ⟨_, rfl⟩
  have HH := Lib.hid hH
  by_cases hc : dryI o d = 0
  · obtain ⟨hk, _, _⟩ := dryI_chk hc
    rw [opR_good hk] at hOK
    rw [hc, ofG_good hk] at HO
    have HOK := Lib.hid hOK
    have HIS := Lib.hid (fun (w1 : World) (hn : New w w1) => isOrder_c (opG o av nv) lv lc l w1 hOK hl (hP.new hn))
    clear hP hOK
    cases hb : ioB (opG o av nv) l
    · have hF : dryO o av nv d l = 1 := by unfold dryO; rw [if_neg (by simpa using hc), hb]; rfl
      rw [hF, ofG_bad (by omega)]
      rw [hb] at HIS
      clear hF hb hc hk
      generalize opG o av nv = RG at *
      subst hv
      subst e1 e2
      go_enter Tryd.func118, Tryd.ntmps118
      go_wp2_with (first | (go_at_call 122; (with_reducible refine (HO.out _ ?_).mono ?_); (repeat (first | exact New.refl _ | apply New.alloc)); rintro e w6 ⟨rfl, n6⟩; have HN := Lib.hid ((((New.refl w).alloc _).alloc _).trans n6); have R6 := Lib.hid (two_heap HH.out n6); have c6 := two_cell HH.out n6 0; simp at c6; clear n6) | (refine wpList_store_graph rfl (.tmp 8) (.tmp 14) rfl rfl rfl HOK.out ?_; intro w7 n7 g7; obtain ⟨g, hg⟩ : ∃ g, w6.heap.size = g := ⟨_, rfl⟩; simp only [hg] at g7 ⊢; have N7 := Lib.hid n7; have G7 := Lib.hid g7; have R7 := Lib.hid (row_new R6.out n7); clear c6 n7 g7) | (refine wpList_get_graph rfl (.tmp 8) rfl g rfl G7.out ?_) | (go_at_call 87; (with_reducible refine (HIS.out _ ?_).mono ?_); (· exact HN.out.trans N7.out); rintro e w8 ⟨rfl, n8⟩; have G8 := Lib.hid (G7.out.new n8); have R8 := Lib.hid (row_new R7.out n8); have N8 := Lib.hid (HN.out.trans (N7.out.trans n8)); clear n8) | (refine wpList_built rfl 83 _ rfl _ HZ1.out ?_) | (refine wpList_put_zero rfl (.tmp 6) (.tmp 24) rfl (H + 1) rfl rfl R8.out ?_))
      refine bodyPost_ret (ret_zero rfl _ _ (H + 1) rfl R8.out) rfl ?_
      exact ⟨rfl, N8.out⟩
    · have hF : dryO o av nv d l = 0 := by unfold dryO; rw [if_neg (by simpa using hc), hb]; rfl
      rw [hF, ofG_good hk]
      rw [hb] at HIS
      clear hF hb hc hk
      generalize opG o av nv = RG at *
      subst hv
      subst e1 e2
      go_enter Tryd.func118, Tryd.ntmps118
      go_wp2_with (first | (go_at_call 122; (with_reducible refine (HO.out _ ?_).mono ?_); (repeat (first | exact New.refl _ | apply New.alloc)); rintro e w6 ⟨rfl, n6⟩; have HN := Lib.hid ((((New.refl w).alloc _).alloc _).trans n6); have R6 := Lib.hid (two_heap HH.out n6); have c6 := two_cell HH.out n6 0; simp at c6; clear n6) | (refine wpList_store_graph rfl (.tmp 8) (.tmp 14) rfl rfl rfl HOK.out ?_; intro w7 n7 g7; obtain ⟨g, hg⟩ : ∃ g, w6.heap.size = g := ⟨_, rfl⟩; simp only [hg] at g7 ⊢; have N7 := Lib.hid n7; have G7 := Lib.hid g7; have R7 := Lib.hid (row_new R6.out n7); clear c6 n7 g7) | (refine wpList_get_graph rfl (.tmp 8) rfl g rfl G8.out ?_) | (refine wpList_get_graph rfl (.tmp 8) rfl g rfl G7.out ?_) | (go_at_call 87; (with_reducible refine (HIS.out _ ?_).mono ?_); (· exact HN.out.trans N7.out); rintro e w8 ⟨rfl, n8⟩; have G8 := Lib.hid (G7.out.new n8); have R8 := Lib.hid (row_new R7.out n8); have N8 := Lib.hid (HN.out.trans (N7.out.trans n8)); clear n8) | (refine wpList_put_graph rfl (.tmp 6) (.tmp 25) rfl (H + 1) rfl rfl HOK.out R8.out ?_))
      refine bodyPost_ret (results_row_tmp rfl _ _ (H + 1) _ _ _ _ rfl (setRow_heap _ _ _ _ _ _ R8.out) Tryd.underlying83 rfl (graph_sizeG _)) rfl ?_
      exact ⟨rfl, N8.out.setRow (by rw [HH.out]; omega) _⟩
  · have hF : dryO o av nv d l = dryI o d := by unfold dryO; rw [if_pos hc]
    have he : (dryI o d != 0) = true := by simpa using hc
    have HOK := Lib.hid (show G0.ok from G0_ok)
    rw [hF, ofG_bad hc]
    rw [ofG_bad hc] at HO
    clear hF hc hP hOK
    generalize dryI o d = E at *
    subst hv
    subst e1 e2
    go_enter Tryd.func118, Tryd.ntmps118
    go_wp2_with (first | (go_at_call 122; (with_reducible refine (HO.out _ ?_).mono ?_); (repeat (first | exact New.refl _ | apply New.alloc)); rintro e w6 ⟨rfl, n6⟩; have HN := Lib.hid ((((New.refl w).alloc _).alloc _).trans n6); have R6 := Lib.hid (two_heap HH.out n6); have c6 := two_cell HH.out n6 0; simp at c6; clear n6) | (refine wpList_store_graph rfl (.tmp 8) (.tmp 14) rfl rfl rfl HOK.out ?_; intro w7 n7 g7; obtain ⟨g, hg⟩ : ∃ g, w6.heap.size = g := ⟨_, rfl⟩; simp only [hg] at g7 ⊢; have N7 := Lib.hid n7; have G7 := Lib.hid g7; have R7 := Lib.hid (row_new R6.out n7); clear c6 n7 g7) | (refine wpList_built rfl 83 _ rfl _ HZ1.out ?_) | (refine wpList_put_zero rfl (.tmp 6) (.tmp 18) rfl (H + 1) rfl rfl R7.out ?_))
    refine bodyPost_ret (ret_zero rfl _ _ (H + 1) rfl R7.out) rfl ?_
    exact ⟨rfl, HN.out.trans N7.out⟩

set_option maxHeartbeats 8000000 in
theorem days_good {w : World} {v : Value} {o : Prb} {av nv : Value} (h : PrbA w v o av nv) (d : Int) (lv : Option Addr) (lc : Nat) (l : List Int) (hl : l.length ≤ 17592186044415) (hP : Ins w lv l) (hT : Tab w) (hc : dryO o av nv d l = 0) :
    Calls Tryd.prog 55 #[v, .int .i64 d, .slice lv l.length lc] w fun en w' => ∃ b c, en = .returned (.tuple #[.slice (some ⟨b, 0, none⟩) (opG o av nv).n c, .int .i64 0]) ∧ New w w' ∧ w.heap.size ≤ b ∧ Iv w' b (opG o av nv).n (erF (opG o av nv) d l (opG o av nv).n) := by
  have HO := Lib.hid (fun (w1 : World) (hn : New w w1) => openDryOrder_c (h.new hn) d lv lc l hl (hP.new hn))
  have hOK := opR_ok h.sh
  have hv := h.eq
  obtain ⟨x1, x2, x3, x4, e1, e2⟩ := h.sh
  clear h
  have hd : dryI o d = 0 ∧ ioB (opG o av nv) l = true := by
    unfold dryO at hc
    split at hc
    · rename_i h; exact absurd hc h
    · rename_i h
      cases hb : ioB (opG o av nv) l
      · rw [hb] at hc; cases hc
      · exact ⟨by simpa using h, rfl⟩
  obtain ⟨hk, hd0, hd1⟩ := dryI_chk hd.1
  rw [opR_good hk] at hOK
  rw [hc, ofG_good hk] at HO
  obtain ⟨dn, rfl⟩ : ∃ dn : Nat, d = dn := ⟨d.toNat, by omega⟩
  have HOK := Lib.hid hOK
  have HEA := Lib.hid (fun (w1 : World) (hn : New w w1) => earliest_c (opG o av nv) dn lv lc l w1 hOK hd.2 (by omega) (hP.new hn) (hT.new hn))
  clear hP hOK hT hd hk hc hd0 hd1
  generalize opG o av nv = RG at *
  subst hv
  subst e1 e2
  go_enter Tryd.func55, Tryd.ntmps55
  go_wp2_with (first | (go_at_call 118; (with_reducible refine (HO.out _ ?_).mono ?_); (repeat (first | exact New.refl _ | apply New.alloc)); rintro e w6 ⟨rfl, n6⟩; have HN := Lib.hid (((New.refl w).alloc _).trans n6); clear n6) | (refine wpList_store_graph rfl (.tmp 8) (.tmp 15) rfl rfl rfl HOK.out ?_; intro w7 n7 g7; obtain ⟨g, hg⟩ : ∃ g, w6.heap.size = g := ⟨_, rfl⟩; simp only [hg] at g7 ⊢; have N7 := Lib.hid (HN.out.trans n7); have G7 := Lib.hid g7; clear n7 g7) | (refine wpList_get_graph rfl (.tmp 8) rfl g rfl G7.out ?_) | (go_at_call 119; (with_reducible refine (HEA.out _ ?_).mono ?_); (· exact N7.out); rintro e w8 ⟨b8, c8, rfl, n8, z8, iv8⟩; have N8 := Lib.hid (N7.out.trans n8); have Z8 := Lib.hid (Nat.le_trans N7.out.size z8); have I8 := Lib.hid iv8; clear n8 z8 iv8))
  go_ret2
  exact ⟨b8, c8, rfl, N8.out, Z8.out, I8.out⟩
set_option maxHeartbeats 8000000 in
theorem days_bad {w : World} {v : Value} {o : Prb} {av nv : Value} (h : PrbA w v o av nv) (d : Int) (lv : Option Addr) (lc : Nat) (l : List Int) (hl : l.length ≤ 17592186044415) (hP : Ins w lv l) (hc : dryO o av nv d l ≠ 0) :
    Calls Tryd.prog 55 #[v, .int .i64 d, .slice lv l.length lc] w fun en w' => en = .returned (.tuple #[.slice none 0 0, .int .i64 (dryO o av nv d l)]) ∧ New w w' := by
  have HO := Lib.hid (fun (w1 : World) (hn : New w w1) => openDryOrder_c (h.new hn) d lv lc l hl (hP.new hn))
  have hv := h.eq
  obtain ⟨x1, x2, x3, x4, e1, e2⟩ := h.sh
  clear h
  have he : (dryO o av nv d l != 0) = true := by simpa using hc
  have HOK := Lib.hid (show G0.ok from G0_ok)
  rw [ofG_bad hc] at HO
  clear hP hc
  generalize dryO o av nv d l = E at *
  subst hv
  subst e1 e2
  go_enter Tryd.func55, Tryd.ntmps55
  go_wp2_with (first | (go_at_call 118; (with_reducible refine (HO.out _ ?_).mono ?_); (repeat (first | exact New.refl _ | apply New.alloc)); rintro e w6 ⟨rfl, n6⟩; have HN := Lib.hid (((New.refl w).alloc _).trans n6); clear n6) | (refine wpList_store_graph rfl (.tmp 8) (.tmp 15) rfl rfl rfl HOK.out ?_; intro w7 n7 g7; obtain ⟨g, hg⟩ : ∃ g, w6.heap.size = g := ⟨_, rfl⟩; simp only [hg] at g7 ⊢; have N7 := Lib.hid (HN.out.trans n7); have G7 := Lib.hid g7; clear n7 g7))
  go_ret2
  exact ⟨rfl, N7.out⟩
end Go.Proofs.YtiejefehcpfkaaaDoor
