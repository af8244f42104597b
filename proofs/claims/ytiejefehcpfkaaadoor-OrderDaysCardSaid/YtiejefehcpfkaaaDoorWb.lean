/- The law OrderDays: both sides' days, checks of days, and reasons are the same. Any problem, number and lists. -/
import Derived.Test.YtiejefehcpfkaaaDoorWa
import Derived.Test.YtiejefehcpfkaaaDoorVy
import Derived.Test.YtiejefehcpfkaaaDoorUk
import Derived.Test.YtiejefehcpfkaaaDoorTs
set_option linter.unusedSimpArgs false
set_option linter.unusedVariables false
set_option maxRecDepth 100000
namespace Go.Proofs.YtiejefehcpfkaaaDoor
open Go.RowKit Go.Shelf

attribute [local go_sem] Oper.semAt_some

theorem reaC_at : ∀ (rs : List (Int × Int × Int)) (k : Nat), k < rs.length → (reaCells rs)[k * 3]? = some (.int .i64 (rs.getD k (0, 0, 0)).1) ∧ (reaCells rs)[k * 3 + 1]? = some (.int .i64 (rs.getD k (0, 0, 0)).2.1) ∧ (reaCells rs)[k * 3 + 2]? = some (.int .u8 (rs.getD k (0, 0, 0)).2.2)
  | r :: rs, 0, _ => by simp [reaCells]
  | r :: rs, k + 1, h => by
    have ih := reaC_at rs k (by simpa using h)
    have e : ∀ j, (reaCells (r :: rs))[(k + 1) * 3 + j]? = (reaCells rs)[k * 3 + j]? := fun j => by
      show ([Value.int .i64 r.1, .int .i64 r.2.1, .int .u8 r.2.2] ++ reaCells rs)[(k + 1) * 3 + j]? = _
      rw [List.getElem?_append_right (by simp; omega)]
      congr 1
      simp; omega
    have e0 := e 0
    rw [Nat.add_zero, Nat.add_zero] at e0
    rw [e0, e 1, e 2]
    simpa using ih
theorem box3 {w : World} {H : Nat} {a b c : Value} {T : TypeId} (h : w.heap[H]? = some (.cells #[a, b, c] T (0, 0))) : w.cell? ⟨H, 0, none⟩ = some a ∧ w.cell? ⟨H, 1, none⟩ = some b ∧ w.cell? ⟨H, 2, none⟩ = some c ∧ H < w.heap.size :=
  ⟨(cell_of_row w H 0 _ _ _ h).trans rfl, (cell_of_row w H 1 _ _ _ h).trans rfl, (cell_of_row w H 2 _ _ _ h).trans rfl, (Array.getElem?_eq_some_iff.1 h).1⟩
/-- a row of reasons in memory -/
def SlR (w : World) (v : Value) (rs : List (Int × Int × Int)) : Prop := ∃ base, w.ownsRow base 75 3 v rs.length (reaCells rs)
theorem SlR.new {w w' : World} {v : Value} {rs : List (Int × Int × Int)} (h : SlR w v rs) (hn : New w w') : SlR w' v rs := by
  obtain ⟨b, h⟩ := h
  exact ⟨b, own_new h hn⟩
theorem SlR.nil (w : World) : SlR w (.slice none 0 0) [] := ⟨0, own_nilz _ _ _ _⟩
/-- the reasons, none where there is an error -/
def reL (o : Prb) (av nv : Value) (d : Int) (l : List Int) : List (Int × Int × Int) := if dryO o av nv d l = 0 then reasonsL (opG o av nv) d l else []
theorem reL_len {o : Prb} {av nv : Value} {d : Int} {l : List Int} : (reL o av nv d l).length ≤ 24 := by
  unfold reL
  split
  · rename_i h
    obtain ⟨hk, _, hio⟩ := dryO_good h
    have h1 := rsL_len (G := opG o av nv) (dry := d) (l := l) (D := erF (opG o av nv) d l l.length) l.length ((l.length : Int) - 1)
    have h2 := (ioB_facts hio).1
    have h3 := n24z (o := o) av nv hk
    show (rsL (opG o av nv) d l (erF (opG o av nv) d l l.length) l.length ((l.length : Int) - 1)).length ≤ 24
    omega
  · simp
theorem Reasons_all {w : World} {v : Value} {o : Prb} {av nv : Value} (h : PrbA w v o av nv) (hT : Tab w) (d : Int) (lv : Option Addr) (lc : Nat) (l : List Int) (hP : Ins w lv l) (hcap : l.length ≤ lc) (hl : l.length ≤ 17592186044415) :
    Calls Tryd.prog 59 #[v, .int .i64 d, .slice lv l.length lc] w fun en w' => ∃ u, en = .returned (.tuple #[u, .int .i64 (dryO o av nv d l)]) ∧ New w w' ∧ SlR w' u (reL o av nv d l) := by
  unfold reL
  by_cases hc : dryO o av nv d l = 0
  · rw [if_pos hc, hc]
    exact (reasons_good h d lv lc l hl hcap hP hT hc).mono fun e w' ⟨u, h1, h2, h3⟩ => ⟨u, h1, h2, _, h3⟩
  · rw [if_neg hc]
    exact (reasons_bad h d lv lc l hl hP hc).mono fun e w' ⟨h1, h2⟩ => ⟨_, h1, h2, SlR.nil w'⟩
set_option maxHeartbeats 8000000 in
theorem rReasons_all {w : World} {v : Value} {o : Prb} {av nv : Value} (h : PrbA w v o av nv) (d : Int) (lv : Option Addr) (lc : Nat) (l : List Int) (hP : Ins w lv l) (hcap : l.length ≤ lc) (hl : l.length ≤ 17592186044415) :
    Calls Tryd.prog 60 #[v, .int .i64 d, .slice lv l.length lc] w fun en w' => ∃ u, en = .returned (.tuple #[u, .int .i64 (dryO o av nv d l)]) ∧ New w w' ∧ SlR w' u (reL o av nv d l) := by
  unfold reL
  by_cases hc : dryO o av nv d l = 0
  · rw [if_pos hc, hc]
    exact (rReasons_c h d lv lc l hP hcap hl hc).mono fun e w' ⟨u, h1, h2, h3⟩ => ⟨u, h1, h2, _, h3⟩
  · rw [if_neg hc]
    have HC := Lib.hid (fun (w1 : World) (hn : New w w1) => rdried_c (h.new hn) d lv lc l (hP.new hn) hcap hl)
    obtain ⟨⟨⟨a1, ac, n1, nc, rfl, h1, h2⟩, h3, h4⟩, h5, h6⟩ := h
    have he : (dryO o av nv d l != 0) = true := by simpa using hc
    clear hc hP h1 h2 h3 h4 h5 h6
    generalize dryO o av nv d l = E at *
    generalize l.length = N at *
    go_enter Tryd.func60, Tryd.ntmps60
    go_wp2_with (go_at_call 120; (with_reducible refine (HC.out _ ?_).mono ?_); (· exact (New.refl w).alloc _); rintro e w6 ⟨rfl, n6⟩; have N6 := Lib.hid (((New.refl w).alloc _).trans n6); clear n6)
    go_ret2
    exact ⟨_, rfl, N6.out, SlR.nil _⟩
theorem rCheckDays_all {w : World} {v : Value} {o : Prb} {av nv : Value} (h : PrbA w v o av nv) (d : Int) (lv : Option Addr) (lc : Nat) (l : List Int) (hP : Ins w lv l) (hl : l.length ≤ 17592186044415) :
    Calls Tryd.prog 58 #[v, .int .i64 d, .slice lv l.length lc] w fun en w' => en = .returned (.tuple #[.bool (decide (dryI o d = 0) && kpB o (opG o av nv).n d l), .int .i64 (dryI o d)]) ∧ New w w' := by
  have := rCheckDays_c h d lv lc l hl hP
  by_cases hc : chkI o = 0
  · rw [rck_eq av nv hc] at this; exact this
  · have hd : ¬ dryI o d = 0 := fun e => hc (dryI_chk e).1
    rw [decide_eq_false hd, Bool.false_and] at this ⊢; exact this
set_option maxHeartbeats 8000000 in
theorem SameReasons_c {w : World} {u v : Value} (rs : List (Int × Int × Int)) (hu : SlR w u rs) (hv : SlR w v rs) (hl : rs.length ≤ 1000) :
    Calls Tryd.prog 61 #[u, v] w fun en w' => en = .returned (.bool true) ∧ New w w' := by
  obtain ⟨bu, hu⟩ := hu
  obtain ⟨bv, hv⟩ := hv
  have HCA := Lib.hid (reaC_at rs)
  generalize hN : rs.length = N at *
  rcases Nat.eq_zero_or_pos N with h0 | h0
  · obtain ⟨au, cu, rfl⟩ := own_slice hu
    obtain ⟨av, cv, rfl⟩ := own_slice hv
    have h1 : ¬ ((0 : Int) < (N : Int)) := by omega
    clear hu hv hN h0
    go_enter Tryd.func61, Tryd.ntmps61
    go_wp2_with fail
    go_loopw [5] (fun i wr => i = .int .i64 0 ∧ New w wr) (fun _ _ => 0)
    case atStart => exact ⟨rfl, New.refl w⟩
    case round =>
      obtain ⟨rfl, hnew⟩ := hrel
      go_wp2_with fail
      go_ret
      exact ⟨rfl, hnew⟩
  · obtain ⟨gu, cu, rfl, _, hgu⟩ := hu.form h0
    obtain ⟨gv, cv, rfl, _, hgv⟩ := hv.form h0
    have OU := Lib.hid hu
    have OV := Lib.hid hv
    clear hu hv hN
    go_enter Tryd.func61, Tryd.ntmps61
    go_wp2_with fail
    go_loopw [5] (fun i wr => ∃ k : Nat, k ≤ N ∧ i = .int .i64 (k : Int) ∧ New w wr) (fun i _ => N - (intOf i).toNat)
    case atStart => exact ⟨0, Nat.zero_le _, rfl, New.refl w⟩
    case round =>
      obtain ⟨k, hk, rfl, hnew⟩ := hrel
      obtain ⟨U2, rfl⟩ : ∃ U2 : World, U2 = wr := ⟨_, rfl⟩
      have N2 := Lib.hid hnew
      clear hnew
      by_cases hlt : k < N
      · have hk1 : (k : Int) < (N : Int) := by omega
        obtain ⟨q0, q1, q2⟩ := HCA.out k hlt
        have c1 := (own_cell (own_new OU.out N2.out) q0).1
        have c2 := (own_cell (own_new OU.out N2.out) q1).1
        have c3 := (own_cell (own_new OU.out N2.out) q2).1
        have d1 := (own_cell (own_new OV.out N2.out) q0).1
        have d2 := (own_cell (own_new OV.out N2.out) q1).1
        have d3 := (own_cell (own_new OV.out N2.out) q2).1
        have hg1 : gu < U2.heap.size := Nat.lt_of_lt_of_le hgu N2.out.size
        have hg2 : gv < U2.heap.size := Nat.lt_of_lt_of_le hgv N2.out.size
        generalize (rs.getD k (0, 0, 0)).1 = r1 at *
        generalize (rs.getD k (0, 0, 0)).2.1 = r2 at *
        generalize (rs.getD k (0, 0, 0)).2.2 = r3 at *
        clear q0 q1 q2
        go_upto_region 6 with fail
        first | refine wp_region_at2 (by kernel_rfl) (by kernel_rfl) ?_ | refine wp_region_at (by kernel_rfl) (by kernel_rfl) ?_
        repeat (go_big_quiet_step (fail))
        refine wpQuiet_nil ?_
        rintro U4 hq4
        have HN4 := Lib.hid (show New U2 U4 from hq4)
        clear hq4 c1 c2 c3 d1 d2 d3
        go_wp2_with fail
        go_roundw
        case rel => exact ⟨k + 1, by omega, by go_num, N2.out.trans HN4.out⟩
        case measure => simp [intOf]; omega
      · have hk1 : ¬ (k : Int) < (N : Int) := by omega
        go_wp2_with fail
        go_ret
        exact ⟨rfl, N2.out⟩

set_option maxHeartbeats 16000000 in
theorem OrderDays_c {w : World} {v : Value} {o : Prb} {av nv : Value} (h : PrbA w v o av nv) (hT : Tab w) (d : Int) (lv : Option Addr) (lc : Nat) (l : List Int) (hcap : l.length ≤ lc) (hP : Ins w lv l) (mv : Option Addr) (mc : Nat) (m : List Int) (hmcap : m.length ≤ mc) (hPm : Ins w mv m) :
    Calls Tryd.prog 10 #[v, .int .i64 d, .slice lv l.length lc, .slice mv m.length mc] w fun en w' => en = .returned (.bool true) ∧ New w w' := by
  have HSL := Lib.hid (fun (w1 : World) (hn : New w w1) => slim_c (h.pv.new hn))
  have HAL := Lib.hid (fun (w1 : World) (hn : New w w1) => alive_c w1 (hT.new hn))
  have hv := h.eq
  obtain ⟨x1, x2, x3, x4, e1, e2⟩ := h.sh
  have H0 := h
  rw [e1, e2] at hv
  subst hv
  obtain ⟨H, hH⟩ : ∃ H, w.heap.size = H := ⟨_, rfl⟩
  have HB := Lib.hid (show (w.alloc (.cells #[.int .i64 o.n, .slice x1 o.A.length x2, .slice x3 o.B.length x4] 24)).heap[H]? = some (.cells #[.int .i64 o.n, .slice x1 o.A.length x2, .slice x3 o.B.length x4] 24 (0, 0)) from by rw [← hH]; exact World.alloc_heap_new w _)
  have hcs : (decide ((o.A.length : Int) ≤ 600) && decide ((o.B.length : Int) ≤ 300)) = false ∨ (decide ((o.A.length : Int) ≤ 600) && decide ((o.B.length : Int) ≤ 300)) = true ∧ ((l.length : Int) > 30 ∨ ¬ (l.length : Int) > 30 ∧ ((m.length : Int) > 30 ∨ ¬ (m.length : Int) > 30)) := by
    cases (decide ((o.A.length : Int) ≤ 600) && decide ((o.B.length : Int) ≤ 300))
    · exact .inl rfl
    · exact .inr ⟨rfl, (Classical.em _).imp id fun h => ⟨h, Classical.em _⟩⟩
  rcases hcs with hsl | ⟨hsl, h30 | ⟨h30, m30 | m30⟩⟩
  all_goals rw [hsl] at HSL
  all_goals clear hsl
  iterate 3
    · clear H0 h hP hPm hT e1 e2 hcap hmcap
      generalize l.length = N at *
      generalize m.length = M at *
      go_enter Tryd.func10, Tryd.ntmps10
      go_wp2_with (first | (go_at_call 20; (with_reducible refine (HSL.out _ ?_).mono ?_); (· exact (New.refl w).alloc _); rintro e w6 ⟨rfl, n6⟩; have N6 := Lib.hid (((New.refl w).alloc _).trans n6); clear n6) | (go_at_call 21; (with_reducible refine (HAL.out _ ?_).mono ?_); (· exact N6.out); rintro e w9 ⟨rfl, n9⟩; have N9 := Lib.hid (N6.out.trans n9); clear n9))
      go_ret
      exact ⟨rfl, N9.out⟩
  have hl : l.length ≤ 17592186044415 := by omega
  have hm : m.length ≤ 17592186044415 := by omega
  have HDA := Lib.hid (fun (w1 : World) (hn : New w w1) => Days_all (H0.new hn) (hT.new hn) d lv lc l (hP.new hn) hl)
  have HRD := Lib.hid (fun (w1 : World) (hn : New w w1) => rDays_all (H0.new hn) d lv lc l (hP.new hn) hcap hl)
  have HCD := Lib.hid (fun (w1 : World) (hn : New w w1) => CheckDays_c (H0.new hn) d mv mc m hm (hPm.new hn))
  have HRC := Lib.hid (fun (w1 : World) (hn : New w w1) => rCheckDays_all (H0.new hn) d mv mc m (hPm.new hn) hm)
  have HRE := Lib.hid (fun (w1 : World) (hn : New w w1) => Reasons_all (H0.new hn) (hT.new hn) d lv lc l (hP.new hn) hcap hl)
  have HRR := Lib.hid (fun (w1 : World) (hn : New w w1) => rReasons_all (H0.new hn) d lv lc l (hP.new hn) hcap hl)
  have HSI := Lib.hid (fun (w1 : World) (u1 u2 : Value) (m : List Int) (h1 : SlI w1 u1 m) (h2 : SlI w1 u2 m) (h3 : m.length ≤ 17592186044415) => same_ok m h1 h2 h3)
  have HSR := Lib.hid (fun (w1 : World) (u1 u2 : Value) (m : List (Int × Int × Int)) (h1 : SlR w1 u1 m) (h2 : SlR w1 u2 m) (h3 : m.length ≤ 1000) => SameReasons_c m h1 h2 h3)
  have HDL := Lib.hid (show (daL o av nv d l).length ≤ 17592186044415 by have := daL_len (o := o) (av := av) (nv := nv) (d := d) (l := l); omega)
  have HLL := Lib.hid (show (reL o av nv d l).length ≤ 1000 by have := reL_len (o := o) (av := av) (nv := nv) (d := d) (l := l); omega)
  generalize daL o av nv d l = DL at *
  generalize reL o av nv d l = RL at *
  generalize (decide (dryI o d = 0) && kpB o (opG o av nv).n d m) = cb at *
  generalize dryI o d = EC at *
  generalize dryO o av nv d l = EO at *
  clear H0 h hP hPm hT e1 e2 hcap hmcap hl hm
  generalize l.length = N at *
  generalize m.length = M at *
  go_enter Tryd.func10, Tryd.ntmps10
  go_upto_region 9 with (first | (go_at_call 20; (with_reducible refine (HSL.out _ ?_).mono ?_); (· exact (New.refl w).alloc _); rintro e w6 ⟨rfl, n6⟩; have N6 := Lib.hid (((New.refl w).alloc _).trans n6); have HB6 := Lib.hid (row_new HB.out n6); obtain ⟨c0, c1, c2, hHl⟩ := box3 HB6.out; clear n6) | (go_at_call 55; (with_reducible refine (HDA.out _ ?_).mono ?_); (· exact N6.out); rintro e w7 ⟨u7, rfl, n7, sl7⟩; have N7 := Lib.hid (N6.out.trans n7); have HB7 := Lib.hid (row_new HB6.out n7); have SL7 := Lib.hid sl7; have HNW7 := Lib.hid n7; clear c0 c1 c2 hHl sl7; obtain ⟨c0, c1, c2, hHl⟩ := box3 HB7.out; clear n7) | (go_at_call 56; (with_reducible refine (HRD.out _ ?_).mono ?_); (· exact N7.out); rintro e w8 ⟨u8, rfl, n8, sl8⟩; have N8 := Lib.hid (N7.out.trans n8); have HB8 := Lib.hid (row_new HB7.out n8); have SL8 := Lib.hid sl8; have HNW8 := Lib.hid n8; clear c0 c1 c2 hHl sl8; obtain ⟨c0, c1, c2, hHl⟩ := box3 HB8.out; clear n8) | (go_at_call 57; (with_reducible refine (HCD.out _ ?_).mono ?_); (· exact N8.out); rintro e w9 ⟨rfl, n9⟩; have N9 := Lib.hid (N8.out.trans n9); have HB9 := Lib.hid (row_new HB8.out n9); clear c0 c1 c2 hHl; obtain ⟨c0, c1, c2, hHl⟩ := box3 HB9.out; have HNW9 := Lib.hid n9; clear n9) | (go_at_call 58; (with_reducible refine (HRC.out _ ?_).mono ?_); (· exact N9.out); rintro e w10 ⟨rfl, n10⟩; have N10 := Lib.hid (N9.out.trans n10); have HB10 := Lib.hid (row_new HB9.out n10); clear c0 c1 c2 hHl; obtain ⟨c0, c1, c2, hHl⟩ := box3 HB10.out; have HNW10 := Lib.hid n10; clear n10) | (go_at_call 59; (with_reducible refine (HRE.out _ ?_).mono ?_); (· exact N10.out); rintro e w11 ⟨u11, rfl, n11, sl11⟩; have N11 := Lib.hid (N10.out.trans n11); have HB11 := Lib.hid (row_new HB10.out n11); have SL11 := Lib.hid sl11; have HNW11 := Lib.hid n11; clear c0 c1 c2 hHl sl11; obtain ⟨c0, c1, c2, hHl⟩ := box3 HB11.out; clear n11) | (go_at_call 60; (with_reducible refine (HRR.out _ ?_).mono ?_); (· exact N11.out); rintro e w12 ⟨u12, rfl, n12, sl12⟩; have N12 := Lib.hid (N11.out.trans n12); have HB12 := Lib.hid (row_new HB11.out n12); have SL12 := Lib.hid sl12; have HNW12 := Lib.hid n12; clear c0 c1 c2 hHl sl12; obtain ⟨c0, c1, c2, hHl⟩ := box3 HB12.out; clear n12))
  have K7 := Lib.hid (HNW8.out.trans (HNW9.out.trans (HNW10.out.trans (HNW11.out.trans HNW12.out))))
  have K8 := Lib.hid (HNW9.out.trans (HNW10.out.trans (HNW11.out.trans HNW12.out)))
  clear c0 c1 c2 hHl
  go_wp2_with (first | (go_at_call 21; (with_reducible refine (HAL.out _ ?_).mono ?_); (· exact N12.out); rintro e w13 ⟨rfl, n13⟩; have M7 := Lib.hid (K7.out.trans n13); have M8 := Lib.hid (K8.out.trans n13); have M11 := Lib.hid (HNW12.out.trans n13); have M12 := Lib.hid n13; have N13 := Lib.hid (N12.out.trans n13); clear n13) | (go_at_call 28; (with_reducible refine (HSI.out _ _ _ _ (SL7.out.new M7.out) (SL8.out.new M8.out) HDL.out).mono ?_); rintro e w14 ⟨rfl, n14⟩; have N14 := Lib.hid n14; clear n14) | (go_at_call 61; (with_reducible refine (HSR.out _ _ _ _ (SL11.out.new (M11.out.trans N14.out)) (SL12.out.new (M12.out.trans N14.out)) HLL.out).mono ?_); rintro e w15 ⟨rfl, n15⟩; have N15 := Lib.hid n15; clear n15))
  all_goals go_ret
  all_goals first | exact ⟨rfl, N13.out.trans (N14.out.trans N15.out)⟩ | trivial
end Go.Proofs.YtiejefehcpfkaaaDoor
