/- Levels of the reference, at any problem; First and Levels with an error. -/
import Derived.Test.YtiejefehcpfkaaaDoorVh
import Derived.Test.YtiejefehcpfkaaaDoorVk
set_option linter.unusedSimpArgs false
set_option linter.unusedVariables false
set_option maxRecDepth 100000
namespace Go.Proofs.YtiejefehcpfkaaaDoor
open Go.RowKit Go.Shelf

attribute [local go_sem] Oper.semAt_some

theorem gF_io {o : Prb} {av nv : Value} (hc : chkI o = 0) (ha : ∃ a ac b bc, av = .slice a o.A.length ac ∧ nv = .slice b o.B.length bc) (h : (gF o av nv).length = (opG o av nv).n) : ioB (opG o av nv) (ints (gF o av nv)) = true :=
  ordG_io (opG_ok hc ha) (opG_low av nv hc) (gS_mem _ _ _ h)
theorem rlIn_other {o : Prb} {l : List Int} {i q : Nat} {d : Nat → Int} (hq : q ≠ (nI l i).toNat) (k : Nat) : rlIn o l i d k q = d q := by
  rw [rlIn_fold, fold_other hq]
set_option maxHeartbeats 8000000 in
theorem rFirst_bad {w : World} {v : Value} {o : Prb} (h : PrbV w v o) (hc : chkI o ≠ 0) :
    Calls Tryd.prog 32 #[v] w fun en w' => en = .returned (.tuple #[.slice none 0 0, .int .i64 (chkI o)]) ∧ New w w' := by
  have HC := Lib.hid (fun (w1 : World) (hn : New w w1) => rcheck_c v o w1 (h.new hn))
  rw [rchk_eq] at HC
  obtain ⟨⟨av, ac, nv, nc, rfl, h1, h2⟩, h3, h4⟩ := h
  have he : (chkI o != 0) = true := by simpa using hc
  clear h1 h2 h3 h4 hc
  generalize chkI o = E at *
  go_enter Tryd.func32, Tryd.ntmps32
  go_wp2_with (go_at_call 24; (with_reducible refine (HC.out _ ?_).mono ?_); (· exact (New.refl w).alloc _); rintro e w6 ⟨rfl, n6⟩; have N6 := Lib.hid (((New.refl w).alloc _).trans n6); clear n6)
  go_ret2
  exact ⟨rfl, N6.out⟩
set_option maxHeartbeats 8000000 in
theorem rLevels_bad {w : World} {v : Value} {o : Prb} (h : PrbV w v o) (hc : chkI o ≠ 0) :
    Calls Tryd.prog 36 #[v] w fun en w' => en = .returned (.tuple #[.slice none 0 0, .int .i64 (chkI o)]) ∧ New w w' := by
  have HC := Lib.hid (fun (w1 : World) (hn : New w w1) => rFirst_bad (h.new hn) hc)
  obtain ⟨⟨av, ac, nv, nc, rfl, h1, h2⟩, h3, h4⟩ := h
  have he : (chkI o != 0) = true := by simpa using hc
  clear h1 h2 h3 h4 hc
  generalize chkI o = E at *
  go_enter Tryd.func36, Tryd.ntmps36
  go_wp2_with (go_at_call 32; (with_reducible refine (HC.out _ ?_).mono ?_); (· exact (New.refl w).alloc _); rintro e w6 ⟨rfl, n6⟩; have N6 := Lib.hid (((New.refl w).alloc _).trans n6); clear n6)
  go_ret2
  exact ⟨rfl, N6.out⟩
set_option maxHeartbeats 8000000 in
theorem Levels_bad {w : World} {v : Value} {o : Prb} {av nv : Value} (h : PrbA w v o av nv) (hc : ordI o av nv ≠ 0) :
    Calls Tryd.prog 35 #[v] w fun en w' => en = .returned (.tuple #[.slice none 0 0, .int .i64 (ordI o av nv)]) ∧ New w w' := by
  have HO := Lib.hid (fun (w1 : World) (hn : New w w1) => openOrdered_c (h.new hn))
  have HOK := Lib.hid (opR_ok h.sh)
  have hv := h.eq
  obtain ⟨x1, x2, x3, x4, e1, e2⟩ := h.sh
  clear h
  have he : (ordI o av nv != 0) = true := by simpa using hc
  clear hc
  generalize ordI o av nv = E at *
  generalize opR o av nv = RG at *
  subst hv
  subst e1 e2
  go_enter Tryd.func35, Tryd.ntmps35
  go_wp2_with (first | (go_at_call 84; (with_reducible refine (HO.out _ ?_).mono ?_); (repeat (first | exact New.refl _ | apply New.alloc)); rintro e w6 ⟨rfl, n6⟩; have HN := Lib.hid (((New.refl w).alloc _).trans n6); clear n6) | (refine wpList_store_graph rfl (.tmp 4) (.tmp 13) rfl rfl rfl HOK.out ?_; intro w7 n7 g7; obtain ⟨g, hg⟩ : ∃ g, w6.heap.size = g := ⟨_, rfl⟩; simp only [hg] at g7 ⊢; have N7 := Lib.hid (HN.out.trans n7); have G7 := Lib.hid g7; clear n7 g7))
  go_ret2
  exact ⟨rfl, N7.out⟩
structure RlL (w wr : World) (H b n : Nat) (BX : Obj) (l : List Int) (fa : Option Addr) (d : Nat → Int) : Prop where
  nw : New w wr
  bx : wr.heap[H]? = some BX
  iv : Iv wr b n d
  hb : w.heap.size ≤ H ∧ H < b
  fs : 0 < l.length → ∃ fb, fa = some ⟨fb, 0, none⟩ ∧ H < fb ∧ fb < b ∧ ∀ i, i < l.length → wr.cell? ⟨fb, i, none⟩ = some (.int .i64 (nI l i))
theorem RlL.new {w wr W : World} {H b n : Nat} {BX : Obj} {l : List Int} {fa : Option Addr} {d : Nat → Int} (h : RlL w wr H b n BX l fa d) (hn : New wr W) : RlL w W H b n BX l fa d :=
  ⟨h.nw.trans hn, row_new h.bx hn, row_new h.iv hn, h.hb, fun h0 => by
    obtain ⟨fb, e, h1, h2, h3⟩ := h.fs h0
    exact ⟨fb, e, h1, h2, fun i hi => (hn.cell (Nat.lt_trans h2 h.iv.lt)).trans (h3 i hi)⟩⟩
theorem RlL.put {w wr : World} {H b n : Nat} {BX : Obj} {l : List Int} {fa : Option Addr} {d : Nat → Int} (h : RlL w wr H b n BX l fa d) (p : Nat) (x : Int) : RlL w (wr.setCell ⟨b, p, none⟩ (.int .i64 x)) H b n BX l fa (updI d p x) := by
  have hb := h.hb
  refine ⟨h.nw.setCell (by show w.heap.size ≤ b; omega) _, (heap_setCell_other _ _ _ _ _ (show H ≠ b by omega)).trans h.bx, h.iv.put p x, hb, fun h0 => ?_⟩
  obtain ⟨fb, e, h1, h2, h3⟩ := h.fs h0
  refine ⟨fb, e, h1, h2, fun i hi => ?_⟩
  have := h3 i hi
  simp only [World.cell?] at this ⊢
  rw [heap_setCell_other _ _ _ _ _ (show fb ≠ b by omega)]; exact this

set_option maxHeartbeats 16000000 in
theorem rLevels_c {w : World} {v : Value} {o : Prb} {av nv : Value} (h : PrbA w v o av nv) (hc : chkI o = 0) :
    Calls Tryd.prog 36 #[v] w fun en w' => ∃ u E, en = .returned (.tuple #[u, .int .i64 E]) ∧ New w w' ∧
      (((gF o av nv).length = (opG o av nv).n ∧ E = 0 ∧ ∃ b c, u = .slice (some ⟨b, 0, none⟩) (opG o av nv).n c ∧ Iv w' b (opG o av nv).n (rlF o (ints (gF o av nv)) (opG o av nv).n)) ∨ ((gF o av nv).length ≠ (opG o av nv).n ∧ E = 50 ∧ u = .slice none 0 0)) := by
  have HFI := Lib.hid (fun (w1 : World) (hn : New w w1) => rFirst_c (h.new hn) hc)
  have HAR := Lib.hid (fun (w1 : World) (hn : New w w1) (a b : Int) => rarc_c (h.pv.new hn) a b)
  obtain ⟨n, hn⟩ : ∃ n, (opG o av nv).n = n := ⟨_, rfl⟩
  have h24 : n ≤ 24 := by have := (chkI_zero hc).1; have e : (opG o av nv).n = o.n.toNat := rfl; omega
  have hon : o.n = (n : Int) := by have := (chkI_zero hc).1; have e : (opG o av nv).n = o.n.toNat := rfl; omega
  have HGI := Lib.hid (fun (hl : (gF o av nv).length = n) => gF_io hc h.sh (by rw [hn]; exact hl))
  have HIN := Lib.hid (fun (hl : (gF o av nv).length = n) (k : Nat) (hk : k < n) => (by
    have := (ioB_facts (HGI.out hl)).2 k (by rw [ints_len]; omega)
    rw [hn] at this; exact this : 0 ≤ nI (ints (gF o av nv)) k ∧ nI (ints (gF o av nv)) k < (n : Int)))
  have HNE := Lib.hid (fun (hl : (gF o av nv).length = n) (j k : Nat) (hj : j < k) (hk : k < n) => io_ne (HGI.out hl) hj (by rw [ints_len]; omega))
  have HBD := Lib.hid (fun (hl : (gF o av nv).length = n) (k : Nat) (hk : k ≤ n) => (by
    have e := rlF_eq hc (HGI.out hl) k (by rw [ints_len]; omega)
    rw [e]; exact lvF_bd hc (HGI.out hl) k (by rw [ints_len]; omega) : ∀ q, 0 ≤ rlF o (ints (gF o av nv)) k q ∧ rlF o (ints (gF o av nv)) k q ≤ 31 * k))
  have HL0 := Lib.hid (show rlF o (ints (gF o av nv)) 0 = fun _ => 0 from rfl)
  have HLS := Lib.hid (show ∀ i, rlF o (ints (gF o av nv)) (i + 1) = rlIn o (ints (gF o av nv)) i (rlF o (ints (gF o av nv)) i) i from fun _ => rfl)
  have HI0 := Lib.hid (show ∀ i d, rlIn o (ints (gF o av nv)) i d 0 = d from fun _ _ => rfl)
  have HIS := Lib.hid (show ∀ i d k, rlIn o (ints (gF o av nv)) i d (k + 1) = if arcR o (nI (ints (gF o av nv)) k) (nI (ints (gF o av nv)) i) then stepQ 0 (nI (ints (gF o av nv)) i).toNat (rlIn o (ints (gF o av nv)) i d k) (nI (ints (gF o av nv)) k).toNat else rlIn o (ints (gF o av nv)) i d k from fun _ _ _ => rfl)
  have HIO := Lib.hid (fun (i q : Nat) (d : Nat → Int) (hq : q ≠ (nI (ints (gF o av nv)) i).toNat) (k : Nat) => rlIn_other (o := o) hq k (d := d))
  have HFL := Lib.hid (ints_len (gF o av nv))
  have HFS := Lib.hid (fun (w1 : World) (v1 : Value) (base : Nat) (own : w1.ownsRow base 3 1 v1 (gF o av nv).length (natCells (gF o av nv))) => SlI.of_own own)
  obtain ⟨⟨⟨a1, ac, n1, nc, rfl, h1, h2⟩, h3, h4⟩, h5, h6⟩ := h
  clear h1 h2 h3 h4 h5 h6 hc HGI
  rw [hn] at HFI ⊢
  clear hn
  rw [hon] at HFI HAR ⊢
  clear hon
  generalize o.A.length = LA at *
  generalize o.B.length = LB at *
  generalize gF o av nv = FO at *
  obtain ⟨l, hl⟩ : ∃ l, ints FO = l := ⟨_, rfl⟩
  rw [hl] at HIN HBD HL0 HLS HI0 HIS HIO HNE HFL HFS ⊢
  generalize rlIn o l = rin at *
  generalize rlF o l = rf at *
  clear hl
  obtain ⟨H, hH⟩ : ∃ H, w.heap.size = H := ⟨_, rfl⟩
  have HH := Lib.hid hH
  have HB0 := Lib.hid (show (w.alloc (.cells #[.int .i64 (n : Int), .slice a1 LA ac, .slice n1 LB nc] 24)).heap[H]? = some (.cells #[.int .i64 (n : Int), .slice a1 LA ac, .slice n1 LB nc] 24 (0, 0)) from by rw [← hH]; exact World.alloc_heap_new w _)
  have hmk := make_iv n (by omega)
  by_cases hlen : FO.length = n
  · have HFI2 := Lib.hid (fun (w1 : World) (hn : New w w1) => (HFI.out w1 hn).mono (fun e w' hh => (by
      obtain ⟨u, E, h1, h2, h3 | h3⟩ := hh
      · exact ⟨u, by rw [h1, h3.2.1], h2, h3.2.2⟩
      · exact absurd hlen h3.1 : ∃ u, e = .returned (.tuple #[u, .int .i64 0]) ∧ New w1 w' ∧ w'.ownsRow w1.heap.size 3 1 u FO.length (natCells FO))))
    have HLEN := Lib.hid hlen
    have hln : l.length = n := by rw [HFL.out]; exact hlen
    have HLN := Lib.hid hln
    have HIN := Lib.hid (HIN.out hlen)
    have HNE := Lib.hid (HNE.out hlen)
    have HBD := Lib.hid (HBD.out hlen)
    clear HFI hlen hln
    go_enter Tryd.func36, Tryd.ntmps36
    go_upto_region 4 with (go_at_call 32; (with_reducible refine (HFI2.out _ ?_).mono ?_); (· exact (New.refl w).alloc _); rintro e w6 ⟨u6, rfl, n6, own6⟩; have N6 := Lib.hid (((New.refl w).alloc _).trans n6); have HB6 := Lib.hid (row_new HB0.out n6); have O6 := Lib.hid own6; obtain ⟨fa, fc, rfl, fi6⟩ := HFS.out _ _ _ own6; rw [HLN.out]; have FI6 := Lib.hid fi6; clear n6 own6 fi6)
    have c0 : w6.cell? ⟨H, 0, none⟩ = some (.int .i64 (n : Int)) := (cell_of_row w6 H 0 _ _ _ HB6.out).trans rfl
    have hHl : H < w6.heap.size := World.block_lt_of_cell? _ _ c0
    obtain ⟨b, hb⟩ : ∃ b, w6.heap.size = b := ⟨_, rfl⟩
    have HBB := Lib.hid hb
    have HR0 := Lib.hid (show RlL w (w6.alloc (.cells (iv n fun _ => 0).toArray 3)) H b n (.cells #[.int .i64 (n : Int), .slice a1 LA ac, .slice n1 LB nc] 24 (0, 0)) l fa (rf 0) from by
      have hn := (New.refl w6).alloc (.cells (iv n fun _ => 0).toArray 3)
      refine ⟨N6.out.trans hn, row_new HB6.out hn, ?_, ⟨by have := HH.out; omega, by omega⟩, fun h0 => ?_⟩
      · rw [HL0.out]; unfold Iv; rw [← hb]; exact World.alloc_heap_new w6 _
      · obtain ⟨fb, off, e, hlt, hcc⟩ := FI6.out h0
        subst e
        rcases O6.out.2 with ⟨e, _⟩ | ⟨g', cap', cur', e, hge, _⟩
        · cases e
        · injection e with e1 e2 e3
          injection e1 with e1
          injection e1 with e1 e4
          subst e1
          subst e4
          refine ⟨fb, rfl, by have := HH.out; simp at hge; omega, by omega, fun i hi => ?_⟩
          have := hcc i hi
          rw [Nat.zero_add] at this
          exact (hn.cell hlt).trans this)
    go_wp2_with fail
    clear c0 hHl hmk
    go_loopw [7] (fun v7 wr => ∃ i : Nat, i ≤ n ∧ v7 = .int .i64 i ∧ RlL w wr H b n (.cells #[.int .i64 (n : Int), .slice a1 LA ac, .slice n1 LB nc] 24 (0, 0)) l fa (rf i)) (fun v7 _ => n - (intOf v7).toNat)
    case atStart => exact ⟨0, Nat.zero_le _, rfl, HR0.out⟩
    case round =>
      obtain ⟨i, hi, rfl, hR⟩ := hrel
      have HR := Lib.hid hR
      clear hR
      obtain ⟨U1, rfl⟩ : ∃ U1 : World, U1 = wr := ⟨_, rfl⟩
      by_cases hlt : i < n
      · have hi1 : (i : Int) < (n : Int) := by omega
        obtain ⟨fb, rfl, hfb1, hfb2, hcc⟩ := HR.out.fs (by rw [HLN.out]; omega)
        clear hcc
        have hbd := HBD.out i (by omega)
        have HIi := Lib.hid (HIN.out i hlt)
        obtain ⟨p, hp⟩ : ∃ p : Nat, nI l i = p := ⟨(nI l i).toNat, by have := HIi.out; omega⟩
        have HPI := Lib.hid hp
        have hpn : p < n := by have := HIi.out; omega
        have hpn' : (p : Int) < (n : Int) := by omega
        have HSi := Lib.hid (HLS.out i)
        obtain ⟨d0, hd0⟩ : ∃ d0, rf i = d0 := ⟨_, rfl⟩
        rw [hd0] at hbd HSi HR
        clear hp hd0
        go_wp2_with fail
        go_loopw [8] (fun v8 w2 => ∃ k : Nat, k ≤ i ∧ v8 = .int .i64 k ∧ RlL w w2 H b n (.cells #[.int .i64 (n : Int), .slice a1 LA ac, .slice n1 LB nc] 24 (0, 0)) l (some ⟨fb, 0, none⟩) (rin i d0 k)) (fun v8 _ => i - (intOf v8).toNat)
        case atStart => exact ⟨0, Nat.zero_le _, rfl, by rw [HI0.out]; exact HR.out⟩
        case round =>
          obtain ⟨k, hk, rfl, hR2⟩ := hrel
          obtain ⟨U2, rfl⟩ : ∃ U2 : World, U2 = wr := ⟨_, rfl⟩
          have HR2 := Lib.hid hR2
          clear hR2 HR
          by_cases hki : k < i
          · have hk1 : (k : Int) < (i : Int) := by omega
            have hk2 : (k : Int) < (n : Int) := by omega
            obtain ⟨fb', e', _, _, hcc⟩ := HR2.out.fs (by rw [HLN.out]; omega)
            obtain rfl : fb = fb' := by injection e' with e'; injection e' with e'
            have c1 := hcc i (by rw [HLN.out]; omega)
            have c2 := hcc k (by rw [HLN.out]; omega)
            rw [HPI.out] at c1
            have HIk := Lib.hid (HIN.out k (by omega))
            obtain ⟨q, hq⟩ : ∃ q : Nat, nI l k = q := ⟨(nI l k).toNat, by have := HIk.out; omega⟩
            have hqn : q < n := by have := HIk.out; omega
            have hqn' : (q : Int) < (n : Int) := by omega
            have HSk := Lib.hid (HIS.out i d0 k)
            have hqp : q ≠ p := fun e => by have := HNE.out k i hki hlt; rw [HPI.out, hq, e] at this; exact this rfl
            have hdq : rin i d0 k q = d0 q := HIO.out i q d0 (by rw [HPI.out, Int.toNat_natCast]; exact hqp) k
            have hbq := hbd q
            rw [HPI.out, hq] at HSk
            rw [hq] at c2
            simp only [Int.toNat_natCast] at HSk
            have hBX := HR2.out.bx
            have e0 : U2.cell? ⟨H, 0, none⟩ = some (.int .i64 (n : Int)) := (cell_of_row U2 H 0 _ _ _ hBX).trans rfl
            have e1 : U2.cell? ⟨H, 1, none⟩ = some (.slice a1 LA ac) := (cell_of_row U2 H 1 _ _ _ hBX).trans rfl
            have e2 : U2.cell? ⟨H, 2, none⟩ = some (.slice n1 LB nc) := (cell_of_row U2 H 2 _ _ _ hBX).trans rfl
            have hHl : H < U2.heap.size := World.block_lt_of_cell? _ _ e0
            have hfl : fb < U2.heap.size := World.block_lt_of_cell? _ _ c1
            have HARC := Lib.hid (fun (w1 : World) (hn : New U2 w1) => HAR.out w1 (HR2.out.nw.trans hn) (q : Int) (p : Int))
            clear hcc e' hq hBX
            cases ha : arcR o (q : Int) (p : Int)
            · rw [ha] at HARC HSk
              simp only [Bool.false_eq_true, if_false] at HSk
              clear ha
              go_upto_region 11 with fail
              first | refine wp_region_at2 (by kernel_rfl) (by kernel_rfl) ?_ | refine wp_region_at (by kernel_rfl) (by kernel_rfl) ?_
              repeat (go_big_quiet_step (first | (go_at_call 83; (with_reducible exact calls_new (HARC.out _ (by (repeat (first | exact New.refl _ | apply New.alloc | apply New.aft | apply New.drew))))))))
              refine wpQuiet_nil ?_
              rintro U3 hq3
              have HN3 := Lib.hid (show New U2 U3 from hq3)
              clear hq3
              go_wp2_with fail
              go_roundw
              case rel => exact ⟨k + 1, by omega, by go_num, by rw [HSk.out]; exact HR2.out.new HN3.out⟩
              case measure => simp [intOf]; omega
            · rw [ha] at HARC HSk
              simp only [if_true] at HSk
              clear ha
              go_upto_region 11 with fail
              first | refine wp_region_at2 (by kernel_rfl) (by kernel_rfl) ?_ | refine wp_region_at (by kernel_rfl) (by kernel_rfl) ?_
              repeat (go_big_quiet_step (first | (go_at_call 83; (with_reducible exact calls_new (HARC.out _ (by (repeat (first | exact New.refl _ | apply New.alloc | apply New.aft | apply New.drew))))))))
              refine wpQuiet_nil ?_
              rintro U3 hq3
              have HN3 := Lib.hid (show New U2 U3 from hq3)
              have HR3 := Lib.hid (HR2.out.new HN3.out)
              have d1 : U3.cell? ⟨fb, i, none⟩ = some (.int .i64 (p : Int)) := (HN3.out.cell hfl).trans c1
              have d2 : U3.cell? ⟨fb, k, none⟩ = some (.int .i64 (q : Int)) := (HN3.out.cell hfl).trans c2
              clear hq3 c1 c2 e0 e1 e2 hHl hfl
              obtain ⟨d, hd⟩ : ∃ d, rin i d0 k = d := ⟨_, rfl⟩
              rw [hd] at HSk HR3 hdq
              rw [← hdq] at hbq
              have hw1 : IntKind.i64.wrap (d q + 1) = d q + 1 := IntWalk.i64_in _ (by omega)
              have HFX := Lib.hid (show stepQ 0 p d q = updI d p (max (d p) (d q + 1)) by unfold stepQ; rw [Int.add_zero])
              have hS : U3.cell? ⟨fb, i, none⟩ = some (.int .i64 (p : Int)) ∧ U3.cell? ⟨fb, k, none⟩ = some (.int .i64 (q : Int)) ∧ U3.cell? ⟨b, p, none⟩ = some (.int .i64 (d p)) ∧ U3.cell? ⟨b, q, none⟩ = some (.int .i64 (d q)) ∧ U3.frozen? ⟨b, p, none⟩ = false := ⟨d1, d2, HR3.out.iv.at p hpn, HR3.out.iv.at q hqn, HR3.out.iv.froz p⟩
              clear d1 d2 hd hdq
              go_upto_region 13 with fail
              apply wp_region_lastP 22 (fun w' => w'.cell? ⟨fb, i, none⟩ = some (.int .i64 (p : Int)) ∧ w'.cell? ⟨fb, k, none⟩ = some (.int .i64 (q : Int)) ∧ w'.cell? ⟨b, p, none⟩ = some (.int .i64 (d p)) ∧ w'.cell? ⟨b, q, none⟩ = some (.int .i64 (d q)) ∧ w'.frozen? ⟨b, p, none⟩ = false) (fun w' => w' = U3.drew.setCell ⟨b, p, none⟩ (.int .i64 (max (d p) (d q + 1)))) (by kernel_rfl)
              case h =>
                have hHeld := (show _ from hS)
                refine G_take (i := 0) (x := { dst := some 43, op := _, type := _, pos := _, after := _, guard := _ }) (v := ?_) rfl (by kernel_rfl) (by kernel_rfl) (by kernel_rfl) (by kernel_rfl) (fun _ _ _ h => h) (Or.inl ⟨by rfl, (by intro w hSw; (try dsimp only at hSw); obtain ⟨s1, s2, s3, s4, s5⟩ := hSw; go_simp; try with_reducible rfl)⟩) hHeld ?_
                (try simp only [Act.put, List.setIfInBounds_toArray, List.set_cons_zero, List.set_cons_succ])
                refine G_take (i := 1) (x := { dst := some 44, op := _, type := _, pos := _, after := _, guard := _ }) (v := ?_) rfl (by kernel_rfl) (by kernel_rfl) (by kernel_rfl) (by kernel_rfl) (fun _ _ _ h => h) (Or.inl ⟨by rfl, (by intro w hSw; (try dsimp only at hSw); obtain ⟨s1, s2, s3, s4, s5⟩ := hSw; go_simp; try with_reducible rfl)⟩) hHeld ?_
                (try simp only [Act.put, List.setIfInBounds_toArray, List.set_cons_zero, List.set_cons_succ])
                refine G_take (i := 2) (x := { dst := some 45, op := _, type := _, pos := _, after := _, guard := _ }) (v := ?_) rfl (by kernel_rfl) (by kernel_rfl) (by kernel_rfl) (by kernel_rfl) (fun _ _ _ h => h) (Or.inl ⟨by rfl, (by intro w hSw; (try dsimp only at hSw); obtain ⟨s1, s2, s3, s4, s5⟩ := hSw; go_simp; try with_reducible rfl)⟩) hHeld ?_
                (try simp only [Act.put, List.setIfInBounds_toArray, List.set_cons_zero, List.set_cons_succ])
                refine G_take (i := 3) (x := { dst := some 46, op := _, type := _, pos := _, after := _, guard := _ }) (v := ?_) rfl (by kernel_rfl) (by kernel_rfl) (by kernel_rfl) (by kernel_rfl) (fun _ _ _ h => h) (Or.inl ⟨by rfl, (by intro w hSw; (try dsimp only at hSw); obtain ⟨s1, s2, s3, s4, s5⟩ := hSw; go_simp; try with_reducible rfl)⟩) hHeld ?_
                (try simp only [Act.put, List.setIfInBounds_toArray, List.set_cons_zero, List.set_cons_succ])
                refine G_take (i := 4) (x := { dst := some 47, op := _, type := _, pos := _, after := _, guard := _ }) (v := ?_) rfl (by kernel_rfl) (by kernel_rfl) (by kernel_rfl) (by kernel_rfl) (fun _ _ _ h => h) (Or.inl ⟨by rfl, (by intro w hSw; (try dsimp only at hSw); obtain ⟨s1, s2, s3, s4, s5⟩ := hSw; go_simp; try with_reducible rfl)⟩) hHeld ?_
                (try simp only [Act.put, List.setIfInBounds_toArray, List.set_cons_zero, List.set_cons_succ])
                refine G_take (i := 5) (x := { dst := some 48, op := _, type := _, pos := _, after := _, guard := _ }) (v := ?_) rfl (by kernel_rfl) (by kernel_rfl) (by kernel_rfl) (by kernel_rfl) (fun _ _ _ h => h) (Or.inl ⟨by rfl, (by intro w hSw; (try dsimp only at hSw); obtain ⟨s1, s2, s3, s4, s5⟩ := hSw; go_simp; try with_reducible rfl)⟩) hHeld ?_
                (try simp only [Act.put, List.setIfInBounds_toArray, List.set_cons_zero, List.set_cons_succ])
                refine G_take (i := 6) (x := { dst := some 49, op := _, type := _, pos := _, after := _, guard := _ }) (v := ?_) rfl (by kernel_rfl) (by kernel_rfl) (by kernel_rfl) (by kernel_rfl) (fun _ _ _ h => h) (Or.inl ⟨by rfl, (by intro w hSw; (try dsimp only at hSw); obtain ⟨s1, s2, s3, s4, s5⟩ := hSw; go_simp; try with_reducible rfl)⟩) hHeld ?_
                (try simp only [Act.put, List.setIfInBounds_toArray, List.set_cons_zero, List.set_cons_succ])
                refine G_take (i := 7) (x := { dst := some 50, op := _, type := _, pos := _, after := _, guard := _ }) (v := ?_) rfl (by kernel_rfl) (by kernel_rfl) (by kernel_rfl) (by kernel_rfl) (fun _ _ _ h => h) (Or.inl ⟨by rfl, (by intro w hSw; (try dsimp only at hSw); obtain ⟨s1, s2, s3, s4, s5⟩ := hSw; go_simp; try with_reducible rfl)⟩) hHeld ?_
                (try simp only [Act.put, List.setIfInBounds_toArray, List.set_cons_zero, List.set_cons_succ])
                refine G_take (i := 8) (x := { dst := some 51, op := _, type := _, pos := _, after := _, guard := _ }) (v := ?_) rfl (by kernel_rfl) (by kernel_rfl) (by kernel_rfl) (by kernel_rfl) (fun _ _ _ h => h) (Or.inl ⟨by rfl, (by intro w hSw; (try dsimp only at hSw); obtain ⟨s1, s2, s3, s4, s5⟩ := hSw; go_simp; try with_reducible rfl)⟩) hHeld ?_
                (try simp only [Act.put, List.setIfInBounds_toArray, List.set_cons_zero, List.set_cons_succ])
                refine G_take (i := 9) (x := { dst := some 52, op := _, type := _, pos := _, after := _, guard := _ }) (v := ?_) rfl (by kernel_rfl) (by kernel_rfl) (by kernel_rfl) (by kernel_rfl) (fun _ _ _ h => h) (Or.inl ⟨by rfl, (by intro w hSw; (try dsimp only at hSw); obtain ⟨s1, s2, s3, s4, s5⟩ := hSw; go_simp; try with_reducible rfl)⟩) hHeld ?_
                (try simp only [Act.put, List.setIfInBounds_toArray, List.set_cons_zero, List.set_cons_succ])
                refine G_take (i := 10) (x := { dst := some 53, op := _, type := _, pos := _, after := _, guard := _ }) (v := ?_) rfl (by kernel_rfl) (by kernel_rfl) (by kernel_rfl) (by kernel_rfl) (fun _ _ _ h => h) (Or.inl ⟨by rfl, (by intro w hSw; (try dsimp only at hSw); obtain ⟨s1, s2, s3, s4, s5⟩ := hSw; go_simp; try with_reducible rfl)⟩) hHeld ?_
                (try simp only [Act.put, List.setIfInBounds_toArray, List.set_cons_zero, List.set_cons_succ])
                refine G_take (i := 11) (x := { dst := some 54, op := _, type := _, pos := _, after := _, guard := _ }) (v := ?_) rfl (by kernel_rfl) (by kernel_rfl) (by kernel_rfl) (by kernel_rfl) (fun _ _ _ h => h) (Or.inl ⟨by rfl, (by intro w hSw; (try dsimp only at hSw); obtain ⟨s1, s2, s3, s4, s5⟩ := hSw; go_simp; try with_reducible rfl)⟩) hHeld ?_
                (try simp only [Act.put, List.setIfInBounds_toArray, List.set_cons_zero, List.set_cons_succ])
                refine G_take (i := 12) (x := { dst := some 55, op := _, type := _, pos := _, after := _, guard := _ }) (v := ?_) rfl (by kernel_rfl) (by kernel_rfl) (by kernel_rfl) (by kernel_rfl) (fun _ _ _ h => h) (Or.inl ⟨by rfl, (by intro w hSw; (try dsimp only at hSw); obtain ⟨s1, s2, s3, s4, s5⟩ := hSw; go_simp; try with_reducible rfl)⟩) hHeld ?_
                (try simp only [Act.put, List.setIfInBounds_toArray, List.set_cons_zero, List.set_cons_succ])
                refine G_take (i := 13) (x := { dst := some 56, op := _, type := _, pos := _, after := _, guard := _ }) (v := ?_) rfl (by kernel_rfl) (by kernel_rfl) (by kernel_rfl) (by kernel_rfl) (fun _ _ _ h => h) (Or.inl ⟨by rfl, (by intro w hSw; (try dsimp only at hSw); obtain ⟨s1, s2, s3, s4, s5⟩ := hSw; go_simp; try with_reducible rfl)⟩) hHeld ?_
                (try simp only [Act.put, List.setIfInBounds_toArray, List.set_cons_zero, List.set_cons_succ])
                refine G_take (i := 14) (x := { dst := some 57, op := _, type := _, pos := _, after := _, guard := _ }) (v := ?_) rfl (by kernel_rfl) (by kernel_rfl) (by kernel_rfl) (by kernel_rfl) (fun _ _ _ h => h) (Or.inl ⟨by rfl, (by intro w hSw; (try dsimp only at hSw); obtain ⟨s1, s2, s3, s4, s5⟩ := hSw; go_simp; try with_reducible rfl)⟩) hHeld ?_
                (try simp only [Act.put, List.setIfInBounds_toArray, List.set_cons_zero, List.set_cons_succ])
                refine G_take (i := 15) (x := { dst := some 58, op := _, type := _, pos := _, after := _, guard := _ }) (v := ?_) rfl (by kernel_rfl) (by kernel_rfl) (by kernel_rfl) (by kernel_rfl) (fun _ _ _ h => h) (Or.inl ⟨by rfl, (by intro w hSw; (try dsimp only at hSw); obtain ⟨s1, s2, s3, s4, s5⟩ := hSw; go_simp; try with_reducible rfl)⟩) hHeld ?_
                (try simp only [Act.put, List.setIfInBounds_toArray, List.set_cons_zero, List.set_cons_succ])
                refine G_take (i := 16) (x := { dst := some 59, op := _, type := _, pos := _, after := _, guard := _ }) (v := ?_) rfl (by kernel_rfl) (by kernel_rfl) (by kernel_rfl) (by kernel_rfl) (fun _ _ _ h => h) (Or.inl ⟨by rfl, (by intro w hSw; (try dsimp only at hSw); obtain ⟨s1, s2, s3, s4, s5⟩ := hSw; go_simp; try with_reducible rfl)⟩) hHeld ?_
                (try simp only [Act.put, List.setIfInBounds_toArray, List.set_cons_zero, List.set_cons_succ])
                refine G_take (i := 17) (x := { dst := some 60, op := _, type := _, pos := _, after := _, guard := _ }) (v := ?_) rfl (by kernel_rfl) (by kernel_rfl) (by kernel_rfl) (by kernel_rfl) (fun _ _ _ h => h) (Or.inl ⟨by rfl, (by intro w hSw; (try dsimp only at hSw); obtain ⟨s1, s2, s3, s4, s5⟩ := hSw; go_simp; try with_reducible rfl)⟩) hHeld ?_
                (try simp only [Act.put, List.setIfInBounds_toArray, List.set_cons_zero, List.set_cons_succ])
                refine G_take (i := 18) (x := { dst := some 61, op := _, type := _, pos := _, after := _, guard := _ }) (v := ?_) rfl (by kernel_rfl) (by kernel_rfl) (by kernel_rfl) (by kernel_rfl) (fun _ _ _ h => h) (Or.inl ⟨by rfl, (by intro w hSw; (try dsimp only at hSw); obtain ⟨s1, s2, s3, s4, s5⟩ := hSw; go_simp; try with_reducible rfl)⟩) hHeld ?_
                (try simp only [Act.put, List.setIfInBounds_toArray, List.set_cons_zero, List.set_cons_succ])
                refine G_take (i := 19) (x := { dst := some 62, op := _, type := _, pos := _, after := _, guard := _ }) (v := ?_) rfl (by kernel_rfl) (by kernel_rfl) (by kernel_rfl) (by kernel_rfl) (fun _ _ _ h => h) (Or.inl ⟨by rfl, (by intro w hSw; (try dsimp only at hSw); obtain ⟨s1, s2, s3, s4, s5⟩ := hSw; go_simp; try with_reducible rfl)⟩) hHeld ?_
                (try simp only [Act.put, List.setIfInBounds_toArray, List.set_cons_zero, List.set_cons_succ])
                refine G_take (i := 20) (x := { dst := some 63, op := _, type := _, pos := _, after := _, guard := _ }) (v := ?_) rfl (by kernel_rfl) (by kernel_rfl) (by kernel_rfl) (by kernel_rfl) (fun _ _ _ h => h) (Or.inl ⟨by rfl, (by intro w hSw; (try dsimp only at hSw); obtain ⟨s1, s2, s3, s4, s5⟩ := hSw; go_simp; try with_reducible rfl)⟩) hHeld ?_
                (try simp only [Act.put, List.setIfInBounds_toArray, List.set_cons_zero, List.set_cons_succ])
                refine G_take (i := 21) (x := { dst := some 64, op := _, type := _, pos := _, after := _, guard := _ }) (v := ?_) rfl (by kernel_rfl) (by kernel_rfl) (by kernel_rfl) (by kernel_rfl) (fun _ _ _ h => h) (Or.inl ⟨by rfl, (by intro w hSw; (try dsimp only at hSw); obtain ⟨s1, s2, s3, s4, s5⟩ := hSw; go_simp; try with_reducible rfl)⟩) hHeld ?_
                (try simp only [Act.put, List.setIfInBounds_toArray, List.set_cons_zero, List.set_cons_succ])
                refine G_one (i := 22) (x := { dst := none, op := _, type := _, pos := _, after := _, guard := _ }) (by kernel_rfl) rfl (by rfl) (fun K hK => ?_)
                go_simp
                refine hK _ _ (.inl rfl) ?_
                clear hK K
                (try simp only [Act.put, List.setIfInBounds_toArray, List.set_cons_zero, List.set_cons_succ])
                refine G_done (by kernel_rfl) ?_ _
                exact ⟨rfl, rfl⟩
              case hq =>
                rintro _ rfl
                clear hS
                go_wp2_with fail
                go_roundw
                case rel => exact ⟨k + 1, by omega, by go_num, by rw [HSk.out, HFX.out]; exact (HR3.out.new (New.refl U3).drew).put p _⟩
                case measure => simp [intOf]; omega
          · obtain rfl : k = i := by omega
            have hk1 : ¬ (k : Int) < (k : Int) := by omega
            go_wp2_with fail
            go_roundw
            case rel => exact ⟨k + 1, by omega, by go_num, by rw [HSi.out]; exact HR2.out⟩
            case measure => simp [intOf]; omega
      · obtain rfl : i = n := by omega
        have hi1 : ¬ (i : Int) < (i : Int) := by omega
        go_wp2_with fail
        go_ret2
        exact ⟨_, _, rfl, HR.out.nw, .inl ⟨HLEN.out, rfl, by first | exact ⟨b, ⟨_, rfl⟩, HR.out.iv⟩ | exact ⟨b, _, rfl, HR.out.iv⟩⟩⟩
  · have HFI2 := Lib.hid (fun (w1 : World) (hn : New w w1) => (HFI.out w1 hn).mono (fun e w' hh => (by
      obtain ⟨u, E, h1, h2, h3 | h3⟩ := hh
      · exact absurd h3.1 hlen
      · exact ⟨by rw [h1, h3.2.1, h3.2.2], h2⟩ : e = .returned (.tuple #[.slice none 0 0, .int .i64 50]) ∧ New w1 w')))
    have HLEN := Lib.hid hlen
    clear HFI hlen hmk
    go_enter Tryd.func36, Tryd.ntmps36
    go_wp2_with (go_at_call 32; (with_reducible refine (HFI2.out _ ?_).mono ?_); (· exact (New.refl w).alloc _); rintro e w6 ⟨rfl, n6⟩; have N6 := Lib.hid (((New.refl w).alloc _).trans n6); clear n6)
    go_ret2
    exact ⟨_, _, rfl, N6.out, .inr ⟨HLEN.out, rfl, rfl⟩⟩
end Go.Proofs.YtiejefehcpfkaaaDoor
