/- The reference's ready. Lists of any length that memory takes. · The reference's check of an order. Lists of any length that memory takes. · CheckOrder of both sides. Lists of any length that memory takes. · Both sides' checks of an order say the same. Plain lemmas. -/
import Derived.Test.YtiejefehcpfkaaaDoorTn

section
set_option linter.unusedSimpArgs false
set_option linter.unusedVariables false
set_option maxRecDepth 100000
namespace Go.Proofs.YtiejefehcpfkaaaDoor
open Go.RowKit Go.Shelf

attribute [local go_sem] Oper.semAt_some

def rdOne (o : Prb) (l : List Int) (p : Int) (i : Nat) : Bool := !(decide (pB o.A i = p) && !hasR l (pA o.A i))
def rdyR (o : Prb) (l : List Int) (p : Int) : Bool := !hasR l p && (List.range o.A.length).all (rdOne o l p)
set_option maxHeartbeats 8000000 in
theorem rready_c {w : World} {v u : Value} {o : Prb} {l : List Int} (h : PrbV w v o) (hu : SlI w u l) (hl : l.length ≤ 17592186044415) (p : Int) :
    Calls Tryd.prog 86 #[v, u, .int .i64 p] w fun en w' => en = .returned (.bool (rdyR o l p)) ∧ New w w' := by
  obtain ⟨⟨av, ac, nv, nc, rfl, h1, h2⟩, h3, h4⟩ := h
  have HP := Lib.hid h1
  have HHA := Lib.hid (fun (w1 : World) (hn : New w w1) (x : Int) => rhas_c x (hu.new hn) hl)
  clear h1 h2 h4
  obtain ⟨au, cu, rfl, _⟩ := hu
  obtain ⟨R, hR⟩ : ∃ R, rdyR o l p = R := ⟨_, rfl⟩
  rw [hR]
  have HR := Lib.hid (show (!hasR l p && (List.range o.A.length).all (rdOne o l p)) = R from hR)
  have HON := Lib.hid (show ∀ i, rdOne o l p i = !(decide (pB o.A i = p) && !hasR l (pA o.A i)) from fun _ => rfl)
  clear hR
  generalize hN : o.A.length = N at *
  have HN := Lib.hid hN
  clear hN
  generalize rdOne o l p = one at *
  generalize o.B.length = M at *
  generalize o.n = n at *
  obtain ⟨H, hH⟩ : ∃ H, w.heap.size = H := ⟨_, rfl⟩
  have HH := Lib.hid hH
  have HB0 := Lib.hid (show (w.alloc (.cells #[.int .i64 n, .slice av N ac, .slice nv M nc] 24)).heap[H]? = some (.cells #[.int .i64 n, .slice av N ac, .slice nv M nc] 24 (0, 0)) from by rw [← hH]; exact World.alloc_heap_new w _)
  have HHP := Lib.hid (HHA.out (w.alloc (.cells #[.int .i64 n, .slice av N ac, .slice nv M nc] 24)) ((New.refl _).alloc _) p)
  cases hp : hasR l p
  · rw [hp] at HHP HR
    clear hp
    go_enter Tryd.func86, Tryd.ntmps86
    go_wp2_with (go_at_call 82; refine HHP.out.mono ?_; rintro e w4 ⟨rfl, n4⟩; have N4 := Lib.hid n4; clear n4)
    go_loopw [7] (fun i wr => ∃ k : Nat, k ≤ N ∧ i = .int .i64 k ∧ New w wr ∧ wr.heap[H]? = some (.cells #[.int .i64 n, .slice av N ac, .slice nv M nc] 24 (0, 0)) ∧ (List.range k).all one = true) (fun i _ => N - (intOf i).toNat)
    case atStart => exact ⟨0, Nat.zero_le _, rfl, ((New.refl _).alloc _).trans N4.out, row_new HB0.out N4.out, rfl⟩
    case round =>
      obtain ⟨k, hk, rfl, hnew, hbx, hall⟩ := hrel
      have HNEW := Lib.hid hnew
      have HALL := Lib.hid hall
      have HBX := Lib.hid hbx
      have c0 : wr.cell? ⟨H, 1, none⟩ = some (.slice av N ac) := (cell_of_row wr H 1 _ _ _ hbx).trans rfl
      clear hnew hall hbx
      by_cases hlt : k < N
      · obtain ⟨bb, off, rfl, gl, hcc⟩ := HP.out.new HNEW.out (by rw [HN.out]; omega)
        obtain ⟨c1, c2⟩ := hcc k (by rw [HN.out]; omega)
        have hk1 : (k : Int) < (N : Int) := by omega
        have HSN := Lib.hid (all_snoc one k)
        have HOK := Lib.hid (HON.out k)
        have HMS := Lib.hid (fun (e : one k = false) => (by rw [← HR.out, all_miss hlt e]; rfl : R = false))
        clear hcc
        generalize pA o.A k = x at *
        generalize pB o.A k = y at *
        have HHX := Lib.hid (HHA.out wr HNEW.out x)
        by_cases he : y = p
        · have hyp : (y == p) = true := by simpa using he
          rw [decide_eq_true he] at HOK
          clear he
          cases hx : hasR l x
          · rw [hx] at HHX HOK
            have HF := Lib.hid (show R = false from HMS.out HOK.out)
            clear hx
            go_wp2_with (go_at_call 82; refine HHX.out.mono ?_; rintro e w5 ⟨rfl, n5⟩; have N5 := Lib.hid n5; clear n5)
            go_ret
            exact ⟨by rw [HF.out]; rfl, HNEW.out.trans N5.out⟩
          · rw [hx] at HHX HOK
            have HV := Lib.hid (show one k = true from HOK.out)
            clear hx
            go_wp2_with (go_at_call 82; refine HHX.out.mono ?_; rintro e w5 ⟨rfl, n5⟩; have N5 := Lib.hid n5; clear n5)
            go_roundw
            case rel => exact ⟨k + 1, by omega, by go_num, HNEW.out.trans N5.out, row_new HBX.out N5.out, by rw [HSN.out, HALL.out, HV.out]; rfl⟩
            case measure => simp [intOf]; omega
        · have hyp : (y == p) = false := by simpa using he
          rw [decide_eq_false he] at HOK
          have HV := Lib.hid (show one k = true from HOK.out)
          clear he
          go_wp2_with fail
          go_roundw
          case rel => exact ⟨k + 1, by omega, by go_num, HNEW.out, HBX.out, by rw [HSN.out, HALL.out, HV.out]; rfl⟩
          case measure => simp [intOf]; omega
      · obtain rfl : k = N := by omega
        have hk1 : ¬ (k : Int) < (k : Int) := by omega
        have HT := Lib.hid (show R = true from by rw [← HR.out, HALL.out]; rfl)
        go_wp2_with fail
        go_ret
        exact ⟨by rw [HT.out]; rfl, HNEW.out⟩
  · rw [hp] at HHP HR
    have HF := Lib.hid (show R = false from by rw [← HR.out]; rfl)
    clear hp
    go_enter Tryd.func86, Tryd.ntmps86
    go_wp2_with (go_at_call 82; refine HHP.out.mono ?_; rintro e w4 ⟨rfl, n4⟩; have N4 := Lib.hid n4; clear n4)
    go_ret
    exact ⟨by rw [HF.out]; rfl, ((New.refl _).alloc _).trans N4.out⟩
end Go.Proofs.YtiejefehcpfkaaaDoor
end

section
set_option linter.unusedSimpArgs false
set_option linter.unusedVariables false
set_option maxRecDepth 100000
namespace Go.Proofs.YtiejefehcpfkaaaDoor
open Go.RowKit Go.Shelf

attribute [local go_sem] Oper.semAt_some

def orOne (o : Prb) (l : List Int) (i : Nat) : Bool := (decide (0 ≤ nI l i) && decide (nI l i < o.n)) && rdyR o (l.take i) (nI l i)
def ordR (o : Prb) (l : List Int) : Bool := decide ((l.length : Int) = o.n) && (List.range l.length).all (orOne o l)
set_option maxHeartbeats 16000000 in
theorem rordered_c {w : World} {v : Value} {o : Prb} (h : PrbV w v o) (au : Option Addr) (cu : Nat) (l : List Int) (hP : Ins w au l) (hcap : l.length ≤ cu) (hl : l.length ≤ 17592186044415) :
    Calls Tryd.prog 88 #[v, .slice au l.length cu] w fun en w' => en = .returned (.bool (ordR o l)) ∧ New w w' := by
  have HRD0 := Lib.hid (fun (w1 : World) (hn : New w w1) (k : Nat) (hk : k ≤ l.length) (x : Int) => rready_c (l := l.take k) (u := .slice au k cu) (h.new hn) ⟨au, cu, by rw [List.length_take, Nat.min_eq_left hk], ins_take (hP.new hn) k hk⟩ (by rw [List.length_take]; omega) x)
  have HP := Lib.hid hP
  obtain ⟨⟨av, ac, nv, nc, rfl, h1, h2⟩, h3, h4⟩ := h
  clear h1 h2 h3 h4 hP
  obtain ⟨R, hR⟩ : ∃ R, ordR o l = R := ⟨_, rfl⟩
  rw [hR]
  have HR := Lib.hid (show (decide ((l.length : Int) = o.n) && (List.range l.length).all (orOne o l)) = R from hR)
  have HON := Lib.hid (show ∀ i, orOne o l i = ((decide (0 ≤ nI l i) && decide (nI l i < o.n)) && rdyR o (l.take i) (nI l i)) from fun _ => rfl)
  clear hR
  generalize hN : l.length = N at *
  have HN := Lib.hid hN
  clear hN
  generalize orOne o l = one at *
  generalize o.A.length = LA at *
  generalize o.B.length = LB at *
  have HNO := Lib.hid (show o.n = o.n from rfl)
  obtain ⟨n, hn⟩ : ∃ n, o.n = n := ⟨_, rfl⟩
  rw [hn] at HRD0 HR HON ⊢
  clear hn HNO
  obtain ⟨H, hH⟩ : ∃ H, w.heap.size = H := ⟨_, rfl⟩
  have HH := Lib.hid hH
  have HB0 := Lib.hid (show (w.alloc (.cells #[.int .i64 n, .slice av LA ac, .slice nv LB nc] 24)).heap[H]? = some (.cells #[.int .i64 n, .slice av LA ac, .slice nv LB nc] 24 (0, 0)) from by rw [← hH]; exact World.alloc_heap_new w _)
  by_cases hnl : (N : Int) = n
  · have hnl' : ((N : Int) != n) = false := by simpa using hnl
    rw [decide_eq_true hnl, Bool.true_and] at HR
    clear hnl
    go_enter Tryd.func88, Tryd.ntmps88
    go_wp2_with fail
    go_loopw [5] (fun i wr => ∃ k : Nat, k ≤ N ∧ i = .int .i64 k ∧ New w wr ∧ wr.heap[H]? = some (.cells #[.int .i64 n, .slice av LA ac, .slice nv LB nc] 24 (0, 0)) ∧ (List.range k).all one = true) (fun i _ => N - (intOf i).toNat)
    case atStart => exact ⟨0, Nat.zero_le _, rfl, (New.refl _).alloc _, HB0.out, rfl⟩
    case round =>
      obtain ⟨k, hk, rfl, hnew, hbx, hall⟩ := hrel
      obtain ⟨U1, rfl⟩ : ∃ U1 : World, U1 = wr := ⟨_, rfl⟩
      have HNEW := Lib.hid hnew
      have HALL := Lib.hid hall
      have HBX := Lib.hid hbx
      have c0 : U1.cell? ⟨H, 0, none⟩ = some (.int .i64 n) := (cell_of_row U1 H 0 _ _ _ hbx).trans rfl
      have c1 : U1.cell? ⟨H, 1, none⟩ = some (.slice av LA ac) := (cell_of_row U1 H 1 _ _ _ hbx).trans rfl
      have c2 : U1.cell? ⟨H, 2, none⟩ = some (.slice nv LB nc) := (cell_of_row U1 H 2 _ _ _ hbx).trans rfl
      have hHl : H < U1.heap.size := World.block_lt_of_cell? _ _ c0
      clear hnew hall hbx
      by_cases hlt : k < N
      · obtain ⟨bb, off, rfl, gl, hcc⟩ := HP.out.new HNEW.out (by rw [HN.out]; omega)
        have c3 := hcc k (by rw [HN.out]; omega)
        have hk1 : (k : Int) < (N : Int) := by omega
        have hk2 : (k : Int) ≤ (cu : Int) := by omega
        have HSN := Lib.hid (all_snoc one k)
        have HOK := Lib.hid (HON.out k)
        have HMS := Lib.hid (fun (e : one k = false) => (by rw [← HR.out, all_miss hlt e] : R = false))
        have HRD := Lib.hid (fun (W1 : World) (hn : New U1 W1) => HRD0.out W1 (HNEW.out.trans hn) k hk (nI l k))
        clear hcc
        generalize nI l k = x at *
        by_cases u1 : x < 0
        · have HF := Lib.hid (show R = false from HMS.out (by rw [HOK.out, decide_eq_false (show ¬ 0 ≤ x by omega)]; rfl))
          have u1' : ¬ x ≥ 0 := by omega
          clear HRD
          go_upto_region 6 with fail
          first | refine wp_region_at2 (by kernel_rfl) (by kernel_rfl) ?_ | refine wp_region_at (by kernel_rfl) (by kernel_rfl) ?_
          repeat (go_big_quiet_step (fail))
          refine wpQuiet_nil ?_
          rintro U3 hq3
          have HN3 := Lib.hid (show New U1 U3 from hq3)
          clear hq3
          go_wp2_with fail
          go_ret
          exact ⟨by rw [HF.out]; rfl, HNEW.out.trans HN3.out⟩
        · have u1' : x ≥ 0 := by omega
          by_cases u2 : n ≤ x
          · have HF := Lib.hid (show R = false from HMS.out (by rw [HOK.out, decide_eq_false (show ¬ x < n by omega), Bool.and_false]; rfl))
            have u2' : ¬ x < n := by omega
            clear HRD
            go_upto_region 6 with fail
            first | refine wp_region_at2 (by kernel_rfl) (by kernel_rfl) ?_ | refine wp_region_at (by kernel_rfl) (by kernel_rfl) ?_
            repeat (go_big_quiet_step (fail))
            refine wpQuiet_nil ?_
            rintro U3 hq3
            have HN3 := Lib.hid (show New U1 U3 from hq3)
            clear hq3
            go_wp2_with fail
            go_ret
            exact ⟨by rw [HF.out]; rfl, HNEW.out.trans HN3.out⟩
          · have u2' : x < n := by omega
            rw [decide_eq_true (show 0 ≤ x by omega), decide_eq_true u2'] at HOK
            cases hr : rdyR o (l.take k) x
            · rw [hr] at HRD HOK
              have HF := Lib.hid (show R = false from HMS.out HOK.out)
              clear hr
              go_upto_region 6 with fail
              first | refine wp_region_at2 (by kernel_rfl) (by kernel_rfl) ?_ | refine wp_region_at (by kernel_rfl) (by kernel_rfl) ?_
              repeat (go_big_quiet_step (first | (go_at_call 86; (with_reducible exact calls_new (HRD.out _ (by (repeat (first | exact New.refl _ | apply New.alloc | apply New.aft | apply New.drew))))))))
              refine wpQuiet_nil ?_
              rintro U3 hq3
              have HN3 := Lib.hid (show New U1 U3 from hq3)
              clear hq3
              go_wp2_with fail
              go_ret
              exact ⟨by rw [HF.out]; rfl, HNEW.out.trans HN3.out⟩
            · rw [hr] at HRD HOK
              have HV := Lib.hid (show one k = true from HOK.out)
              clear hr
              go_upto_region 6 with fail
              first | refine wp_region_at2 (by kernel_rfl) (by kernel_rfl) ?_ | refine wp_region_at (by kernel_rfl) (by kernel_rfl) ?_
              repeat (go_big_quiet_step (first | (go_at_call 86; (with_reducible exact calls_new (HRD.out _ (by (repeat (first | exact New.refl _ | apply New.alloc | apply New.aft | apply New.drew))))))))
              refine wpQuiet_nil ?_
              rintro U3 hq3
              have HN3 := Lib.hid (show New U1 U3 from hq3)
              clear hq3
              go_wp2_with fail
              go_roundw
              case rel => exact ⟨k + 1, by omega, by go_num, HNEW.out.trans HN3.out, row_new HBX.out HN3.out, by rw [HSN.out, HALL.out, HV.out]; rfl⟩
              case measure => simp [intOf]; omega
      · obtain rfl : k = N := by omega
        have hk1 : ¬ (k : Int) < (k : Int) := by omega
        have HT := Lib.hid (show R = true from by rw [← HR.out]; exact HALL.out)
        go_wp2_with fail
        go_ret
        exact ⟨by rw [HT.out]; rfl, HNEW.out⟩
  · have hnl' : ((N : Int) != n) = true := by simpa using hnl
    rw [decide_eq_false hnl, Bool.false_and] at HR
    clear hnl
    go_enter Tryd.func88, Tryd.ntmps88
    go_wp2_with fail
    go_ret
    exact ⟨by rw [← HR.out]; rfl, (New.refl _).alloc _⟩
end Go.Proofs.YtiejefehcpfkaaaDoor
end

section
set_option linter.unusedSimpArgs false
set_option linter.unusedVariables false
set_option maxRecDepth 100000
namespace Go.Proofs.YtiejefehcpfkaaaDoor
open Go.RowKit Go.Shelf

attribute [local go_sem] Oper.semAt_some

set_option maxHeartbeats 8000000 in
theorem CheckOrder_c {w : World} {v : Value} {o : Prb} {av nv : Value} (h : PrbA w v o av nv) (lv : Option Addr) (lc : Nat) (l : List Int) (hl : l.length ≤ 17592186044415) (hP : Ins w lv l) :
    Calls Tryd.prog 33 #[v, .slice lv l.length lc] w fun en w' => en = .returned (.tuple #[.bool (decide (chkI o = 0) && ioB (opG o av nv) l), .int .i64 (chkI o)]) ∧ New w w' := by
  have HO := Lib.hid (fun (w1 : World) (hn : New w w1) => open_c (h.new hn))
  have hOK := opR_ok h.sh
  have hv := h.eq
  obtain ⟨x1, x2, x3, x4, e1, e2⟩ := h.sh
  clear h
  have HOK := Lib.hid hOK
  by_cases hc : chkI o = 0
  · rw [opR_good hc] at HO HOK hOK
    have HIS := Lib.hid (fun (w1 : World) (hn : New w w1) => isOrder_c (opG o av nv) lv lc l w1 hOK hl (hP.new hn))
    rw [decide_eq_true hc, Bool.true_and, hc]
    rw [hc] at HO
    clear hP hOK hc
    generalize ioB (opG o av nv) l = b at *
    generalize opG o av nv = RG at *
    subst hv
    subst e1 e2
    go_enter Tryd.func33, Tryd.ntmps33
    go_wp2_with (first | (go_at_call 68; (with_reducible refine (HO.out _ ?_).mono ?_); (repeat (first | exact New.refl _ | apply New.alloc)); rintro e w6 ⟨rfl, n6⟩; have HN := Lib.hid (((New.refl w).alloc _).trans n6); clear n6) | (refine wpList_store_graph rfl (.tmp 6) (.tmp 11) rfl rfl rfl HOK.out ?_; intro w7 n7 g7; obtain ⟨g, hg⟩ : ∃ g, w6.heap.size = g := ⟨_, rfl⟩; simp only [hg] at g7 ⊢; have N7 := Lib.hid (HN.out.trans n7); have G7 := Lib.hid g7; clear n7 g7) | (refine wpList_want_graph (.tmp 6) rfl rfl g rfl G7.out ?_) | (go_at_call 87; (with_reducible refine (HIS.out _ ?_).mono ?_); (· exact N7.out); rintro e w8 ⟨rfl, n8⟩; have N8 := Lib.hid (N7.out.trans n8); clear n8))
    go_ret2
    exact ⟨rfl, N8.out⟩
  · have he : (chkI o == 0) = false := by simpa using hc
    rw [decide_eq_false hc, Bool.false_and]
    clear hP hOK hc
    generalize chkI o = E at *
    generalize opR o av nv = RG at *
    subst hv
    subst e1 e2
    go_enter Tryd.func33, Tryd.ntmps33
    go_wp2_with (first | (go_at_call 68; (with_reducible refine (HO.out _ ?_).mono ?_); (repeat (first | exact New.refl _ | apply New.alloc)); rintro e w6 ⟨rfl, n6⟩; have HN := Lib.hid (((New.refl w).alloc _).trans n6); clear n6) | (refine wpList_store_graph rfl (.tmp 6) (.tmp 11) rfl rfl rfl HOK.out ?_; intro w7 n7 g7; obtain ⟨g, hg⟩ : ∃ g, w6.heap.size = g := ⟨_, rfl⟩; simp only [hg] at g7 ⊢; have N7 := Lib.hid (HN.out.trans n7); have G7 := Lib.hid g7; clear n7 g7))
    go_ret2
    exact ⟨rfl, N7.out⟩
set_option maxHeartbeats 8000000 in
theorem rCheckOrder_c {w : World} {v : Value} {o : Prb} (h : PrbV w v o) (lv : Option Addr) (lc : Nat) (l : List Int) (hP : Ins w lv l) (hcap : l.length ≤ lc) (hl : l.length ≤ 17592186044415) :
    Calls Tryd.prog 34 #[v, .slice lv l.length lc] w fun en w' => en = .returned (.tuple #[.bool (decide (chkI o = 0) && ordR o l), .int .i64 (chkI o)]) ∧ New w w' := by
  have HC := Lib.hid (fun (w1 : World) (hn : New w w1) => rcheck_c v o w1 (h.new hn))
  have HD := Lib.hid (fun (w1 : World) (hn : New w w1) => rordered_c (h.new hn) lv lc l (hP.new hn) hcap hl)
  rw [rchk_eq] at HC
  obtain ⟨⟨av, ac, nv, nc, rfl, h1, h2⟩, h3, h4⟩ := h
  obtain ⟨H, hH⟩ : ∃ H, w.heap.size = H := ⟨_, rfl⟩
  have hB0 : (w.alloc (.cells #[.int .i64 o.n, .slice av o.A.length ac, .slice nv o.B.length nc] 24)).heap[H]? = some (.cells #[.int .i64 o.n, .slice av o.A.length ac, .slice nv o.B.length nc] 24 (0, 0)) := by rw [← hH]; exact World.alloc_heap_new w _
  have HB := Lib.hid hB0
  clear h1 h2 h3 h4 hP hB0
  by_cases hc : chkI o = 0
  · rw [decide_eq_true hc, Bool.true_and, hc]
    rw [hc] at HC
    clear hc
    generalize ordR o l = b at *
    go_enter Tryd.func34, Tryd.ntmps34
    go_wp2_with (first | (go_at_call 24; (with_reducible refine (HC.out _ ?_).mono ?_); (· exact (New.refl w).alloc _); rintro e w6 ⟨rfl, n6⟩; have N6 := Lib.hid (((New.refl w).alloc _).trans n6); have c0 := (cell_of_row w6 H 0 _ _ _ (row_new HB.out n6)).trans rfl; have c1 := (cell_of_row w6 H 1 _ _ _ (row_new HB.out n6)).trans rfl; have c2 := (cell_of_row w6 H 2 _ _ _ (row_new HB.out n6)).trans rfl; clear n6) | (go_at_call 88; (with_reducible refine (HD.out _ ?_).mono ?_); (· exact N6.out); rintro e w7 ⟨rfl, n7⟩; have N7 := Lib.hid (N6.out.trans n7); clear n7))
    go_ret2
    exact ⟨rfl, N7.out⟩
  · have he : (chkI o != 0) = true := by simpa using hc
    rw [decide_eq_false hc, Bool.false_and]
    clear hc
    generalize chkI o = E at *
    go_enter Tryd.func34, Tryd.ntmps34
    go_wp2_with (go_at_call 24; (with_reducible refine (HC.out _ ?_).mono ?_); (· exact (New.refl w).alloc _); rintro e w6 ⟨rfl, n6⟩; have N6 := Lib.hid (((New.refl w).alloc _).trans n6); clear n6)
    go_ret2
    exact ⟨rfl, N6.out⟩
end Go.Proofs.YtiejefehcpfkaaaDoor
end

section
set_option linter.unusedSimpArgs false
set_option linter.unusedVariables false
set_option maxRecDepth 100000
namespace Go.Proofs.YtiejefehcpfkaaaDoor
open Go.RowKit Go.Shelf

theorem hasR_iff {l : List Int} {x : Int} : hasR l x = true ↔ ∃ j, j < l.length ∧ nI l j = x := by
  unfold hasR
  rw [List.any_eq_true]
  constructor
  · rintro ⟨j, hj, e⟩; exact ⟨j, List.mem_range.1 hj, by simpa using e⟩
  · rintro ⟨j, hj, e⟩; exact ⟨j, List.mem_range.2 hj, by simpa using e⟩
theorem laid_iff {l : List Int} {k q : Nat} : (laidF l k).testBit q = true ↔ ∃ j, j < k ∧ (nI l j).toNat = q :=
  ⟨laid_bit, fun ⟨j, hj, e⟩ => e ▸ laid_has hj⟩
theorem be_iff {L : List (Int × Int)} {p q : Nat} : ∀ {k : Nat}, (beF L k p).testBit q = true ↔ ∃ i, i < k ∧ bN L i = p ∧ aN L i = q
  | 0 => by simp [beF]
  | k + 1 => by
    have ih := @be_iff L p q k
    simp only [beF, addL, upd]
    constructor
    · intro h
      split at h
      · rename_i e
        rw [Nat.testBit_or, Bool.or_eq_true, Nat.testBit_two_pow] at h
        rcases h with h | h
        · rw [← e] at h
          obtain ⟨i, h1, h2⟩ := ih.1 h
          exact ⟨i, by omega, h2⟩
        · exact ⟨k, by omega, e.symm, by simpa using h⟩
      · obtain ⟨i, h1, h2⟩ := ih.1 h; exact ⟨i, by omega, h2⟩
    · rintro ⟨i, h1, h2, h3⟩
      split
      · rename_i e
        rw [Nat.testBit_or, Bool.or_eq_true, Nat.testBit_two_pow]
        by_cases e2 : i = k
        · subst e2; right; simpa using h3
        · left; rw [← e]; exact ih.2 ⟨i, by omega, h2, h3⟩
      · rename_i e
        by_cases e2 : i = k
        · subst e2; exact absurd h2.symm e
        · exact ih.2 ⟨i, by omega, h2, h3⟩
theorem wo_zero {a b : Nat} (ha : a < 4294967296) (hb : b < 4294967296) : (wo a b == 0) = true ↔ ∀ q, a.testBit q = true → b.testBit q = true := by
  rw [beq_iff_eq]
  constructor
  · intro h q hq
    have := congrArg (fun x => x.testBit q) h
    simp only [wo_bit a b q ha hb, hq, Nat.zero_testBit, Bool.true_and, Bool.not_eq_false'] at this
    exact this
  · intro h
    apply Nat.eq_of_testBit_eq
    intro q
    rw [wo_bit a b q ha hb, Nat.zero_testBit]
    cases hq : a.testBit q
    · rfl
    · rw [h q hq]; rfl
theorem has_take {l : List Int} {k : Nat} (hk : k ≤ l.length) (h0 : ∀ j, j < k → 0 ≤ nI l j) {x : Int} (hx : 0 ≤ x) : hasR (l.take k) x = true ↔ (laidF l k).testBit x.toNat = true := by
  rw [hasR_iff, laid_iff, List.length_take, Nat.min_eq_left hk]
  constructor
  · rintro ⟨j, hj, e⟩
    rw [nI_take hj] at e
    exact ⟨j, hj, by rw [e]⟩
  · rintro ⟨j, hj, e⟩
    exact ⟨j, hj, by rw [nI_take hj]; have := h0 j hj; omega⟩
theorem opG_ok_be {o : Prb} {av nv : Value} (hc : chkI o = 0) (p : Nat) : (opG o av nv).be p < 4294967296 := beF_lt (chk_in hc).1 _ (Nat.le_refl _) p
theorem ok_one {o : Prb} (av nv : Value) (hc : chkI o = 0) {l : List Int} {k : Nat} (hk : k < l.length) (h0 : ∀ j, j < k → 0 ≤ nI l j) (hlt : laidF l k < 4294967296) : okO (opG o av nv) l k = orOne o l k := by
  obtain ⟨c1, c2, c3, _⟩ := chkI_zero hc
  have hgn : ((opG o av nv).n : Int) = o.n := by show ((o.n.toNat : Nat) : Int) = o.n; omega
  have hbe := (opG_ok_be (av := av) (nv := nv) hc)
  unfold okO orOne rdyR
  rw [hgn]
  by_cases hx : 0 ≤ nI l k ∧ nI l k < o.n
  · rw [decide_eq_true hx.1, decide_eq_true hx.2]
    simp only [Bool.and_self, Bool.true_and]
    rw [Bool.eq_iff_iff, Bool.and_eq_true, Bool.and_eq_true]
    have ht := has_take (Nat.le_of_lt hk) h0 hx.1
    refine and_congr ?_ ?_
    · simp only [Bool.not_eq_true', ← Bool.not_eq_true]
      exact not_congr ht.symm
    · rw [wo_zero (hbe _) hlt, List.all_eq_true]
      constructor
      · intro h i hi
        have hi' := List.mem_range.1 hi
        have hp := arB_in c2 i hi'
        unfold rdOne
        by_cases e : pB o.A i = nI l k
        · have : (laidF l k).testBit (aN o.A i) = true := h _ (be_iff.2 ⟨i, hi', by unfold bN; rw [e], rfl⟩)
          have := (has_take (Nat.le_of_lt hk) h0 hp.1.1).2 this
          simp [this]
        · simp [e]
      · intro h q hq
        obtain ⟨i, hi, e1, e2⟩ := be_iff.1 hq
        have hp := arB_in c2 i hi
        have h3 := h i (List.mem_range.2 hi)
        unfold rdOne at h3
        have e3 : pB o.A i = nI l k := by unfold bN at e1; omega
        simp only [e3, decide_true, Bool.true_and, Bool.not_not] at h3
        have := (has_take (Nat.le_of_lt hk) h0 hp.1.1).1 h3
        rw [← e2]; exact this
  · have hd : (decide (0 ≤ nI l k) && decide (nI l k < o.n)) = false := by
      rw [Bool.and_eq_false_iff]
      rcases Decidable.not_and_iff_or_not.1 hx with h | h
      · left; simpa using h
      · right; simpa using h
    rw [hd]; simp
/-- both checks of an order say the same -/
theorem ord_eq {o : Prb} (av nv : Value) (hc : chkI o = 0) (l : List Int) : ordR o l = ioB (opG o av nv) l := by
  obtain ⟨c1, c2, c3, _⟩ := chkI_zero hc
  have hgn : ((opG o av nv).n : Int) = o.n := by show ((o.n.toNat : Nat) : Int) = o.n; omega
  have hn24 : (opG o av nv).n ≤ 24 := by show o.n.toNat ≤ 24; omega
  unfold ordR ioB
  rw [hgn]
  congr 1
  have key : ∀ k, k ≤ l.length → (List.range k).all (orOne o l) = (List.range k).all (okO (opG o av nv) l) := by
    intro k
    induction k with
    | zero => intro _; rfl
    | succ k ih =>
      intro hk
      rw [all_snoc, all_snoc, ih (by omega)]
      cases hb : (List.range k).all (okO (opG o av nv) l)
      · rfl
      · rw [ok_one av nv hc (by omega) (fun j hj => ?_) (laidF_lt hn24 hb)]
        have := List.all_eq_true.1 hb j (List.mem_range.2 hj)
        unfold okO at this
        simp only [Bool.and_eq_true, decide_eq_true_eq] at this
        exact this.1.1.1
  exact key _ (Nat.le_refl _)
end Go.Proofs.YtiejefehcpfkaaaDoor
end
