/- The law OrderFirsts: both sides' first orders, checks of an order, and levels are the same. Any problem and list. -/
import Derived.Test.YtiejefehcpfkaaaDoorVr
import Derived.Test.YtiejefehcpfkaaaDoorUk
set_option linter.unusedSimpArgs false
set_option linter.unusedVariables false
set_option maxRecDepth 100000
namespace Go.Proofs.YtiejefehcpfkaaaDoor
open Go.RowKit Go.Shelf

attribute [local go_sem] Oper.semAt_some

theorem SlI.nil (w : World) : SlI w (.slice none 0 0) [] := ⟨none, 0, rfl, fun h => absurd h (by simp)⟩
/-- the first order, none where there is an error -/
def fiL (o : Prb) (av nv : Value) : List Int := if ordI o av nv = 0 then ints (firstO (opG o av nv)) else []
/-- the levels, none where there is an error -/
def leL (o : Prb) (av nv : Value) : List Int := if ordI o av nv = 0 then (List.range (opG o av nv).n).map (lvF (opG o av nv) (ints (firstO (opG o av nv))) (opG o av nv).n) else []
theorem ordI_fifty {o : Prb} {av nv : Value} (hc : chkI o = 0) (h : ordI o av nv ≠ 0) : ordI o av nv = 50 ∧ cirB (opG o av nv).re (opG o av nv).n = true := by
  unfold ordI at h ⊢
  rw [if_neg (by rw [hc]; simp)] at h ⊢
  cases hb : cirB (opG o av nv).re (opG o av nv).n
  · rw [hb] at h; exact absurd rfl h
  · exact ⟨rfl, rfl⟩
theorem n24 {o : Prb} (av nv : Value) (hc : chkI o = 0) : (opG o av nv).n ≤ 24 := by have := (chkI_zero hc).1; show o.n.toNat ≤ 24; omega
theorem fiL_len {o : Prb} {av nv : Value} (ha : ∃ a ac b bc, av = .slice a o.A.length ac ∧ nv = .slice b o.B.length bc) : (fiL o av nv).length ≤ 24 := by
  unfold fiL
  split
  · rename_i h
    obtain ⟨hc, hcir⟩ := ordI_good h
    rw [(ioB_facts (first_io hc ha hcir)).1]; exact n24 av nv hc
  · simp
theorem leL_len {o : Prb} {av nv : Value} : (leL o av nv).length ≤ 24 := by
  unfold leL
  split
  · rename_i h
    simpa using n24 av nv (ordI_good h).1
  · simp
theorem First_all {w : World} {v : Value} {o : Prb} {av nv : Value} (h : PrbA w v o av nv) (hT : Tab w) :
    Calls Tryd.prog 31 #[v] w fun en w' => ∃ u, en = .returned (.tuple #[u, .int .i64 (ordI o av nv)]) ∧ New w w' ∧ SlI w' u (fiL o av nv) := by
  unfold fiL
  by_cases hc : ordI o av nv = 0
  · rw [if_pos hc, hc]
    exact (First_good h hT hc).mono fun e w' ⟨u, h1, h2, h3⟩ => ⟨u, h1, h2, SlI.of_own h3⟩
  · rw [if_neg hc]
    exact (First_bad h hc).mono fun e w' ⟨h1, h2⟩ => ⟨_, h1, h2, SlI.nil w'⟩
theorem rFirst_all {w : World} {v : Value} {o : Prb} {av nv : Value} (h : PrbA w v o av nv) :
    Calls Tryd.prog 32 #[v] w fun en w' => ∃ u, en = .returned (.tuple #[u, .int .i64 (ordI o av nv)]) ∧ New w w' ∧ SlI w' u (fiL o av nv) := by
  unfold fiL
  by_cases hk : chkI o = 0
  · by_cases hc : ordI o av nv = 0
    · rw [if_pos hc, hc]
      obtain ⟨e1, e2⟩ := gF_first av nv hk (ordI_good hc).2
      refine (rFirst_c h hk).mono fun e w' ⟨u, E, h1, h2, h3⟩ => ?_
      rcases h3 with ⟨_, rfl, h3⟩ | ⟨h3, _⟩
      · rw [e1] at h3; exact ⟨u, h1, h2, SlI.of_own h3⟩
      · exact absurd e2 h3
    · rw [if_neg hc]
      obtain ⟨e1, e2⟩ := ordI_fifty hk hc
      rw [e1]
      refine (rFirst_c h hk).mono fun e w' ⟨u, E, h1, h2, h3⟩ => ?_
      rcases h3 with ⟨h3, _⟩ | ⟨_, rfl, rfl⟩
      · exact absurd h3 (gF_stuck hk h.sh e2)
      · exact ⟨_, h1, h2, SlI.nil w'⟩
  · have ho : ordI o av nv = chkI o := by unfold ordI; rw [if_pos hk]
    rw [if_neg (by rw [ho]; exact hk), ho]
    exact (rFirst_bad h.pv hk).mono fun e w' ⟨h1, h2⟩ => ⟨_, h1, h2, SlI.nil w'⟩
theorem Levels_all {w : World} {v : Value} {o : Prb} {av nv : Value} (h : PrbA w v o av nv) (hT : Tab w) :
    Calls Tryd.prog 35 #[v] w fun en w' => ∃ u, en = .returned (.tuple #[u, .int .i64 (ordI o av nv)]) ∧ New w w' ∧ SlI w' u (leL o av nv) := by
  unfold leL
  by_cases hc : ordI o av nv = 0
  · rw [if_pos hc, hc]
    exact (Levels_good h hT hc).mono fun e w' ⟨b, c, h1, h2, h3, h4⟩ => ⟨_, h1, h2, SlI.of_iv h4⟩
  · rw [if_neg hc]
    exact (Levels_bad h hc).mono fun e w' ⟨h1, h2⟩ => ⟨_, h1, h2, SlI.nil w'⟩
theorem rLevels_all {w : World} {v : Value} {o : Prb} {av nv : Value} (h : PrbA w v o av nv) :
    Calls Tryd.prog 36 #[v] w fun en w' => ∃ u, en = .returned (.tuple #[u, .int .i64 (ordI o av nv)]) ∧ New w w' ∧ SlI w' u (leL o av nv) := by
  unfold leL
  by_cases hk : chkI o = 0
  · by_cases hc : ordI o av nv = 0
    · rw [if_pos hc, hc]
      obtain ⟨e1, e2⟩ := gF_first av nv hk (ordI_good hc).2
      refine (rLevels_c h hk).mono fun e w' ⟨u, E, h1, h2, h3⟩ => ?_
      rcases h3 with ⟨_, rfl, b, c, rfl, h3⟩ | ⟨h3, _⟩
      · rw [e1] at h3
        rw [rlF_eq hk (first_io hk h.sh (ordI_good hc).2) _ (by rw [(ioB_facts (first_io hk h.sh (ordI_good hc).2)).1]; exact Nat.le_refl _)] at h3
        exact ⟨_, h1, h2, SlI.of_iv h3⟩
      · exact absurd e2 h3
    · rw [if_neg hc]
      obtain ⟨e1, e2⟩ := ordI_fifty hk hc
      rw [e1]
      refine (rLevels_c h hk).mono fun e w' ⟨u, E, h1, h2, h3⟩ => ?_
      rcases h3 with ⟨h3, _⟩ | ⟨_, rfl, rfl⟩
      · exact absurd h3 (gF_stuck hk h.sh e2)
      · exact ⟨_, h1, h2, SlI.nil w'⟩
  · have ho : ordI o av nv = chkI o := by unfold ordI; rw [if_pos hk]
    rw [if_neg (by rw [ho]; exact hk), ho]
    exact (rLevels_bad h.pv hk).mono fun e w' ⟨h1, h2⟩ => ⟨_, h1, h2, SlI.nil w'⟩
theorem rCheckOrder_all {w : World} {v : Value} {o : Prb} {av nv : Value} (h : PrbA w v o av nv) (lv : Option Addr) (lc : Nat) (l : List Int) (hP : Ins w lv l) (hcap : l.length ≤ lc) (hl : l.length ≤ 17592186044415) :
    Calls Tryd.prog 34 #[v, .slice lv l.length lc] w fun en w' => en = .returned (.tuple #[.bool (decide (chkI o = 0) && ioB (opG o av nv) l), .int .i64 (chkI o)]) ∧ New w w' := by
  have := rCheckOrder_c h.pv lv lc l hP hcap hl
  by_cases hc : chkI o = 0
  · rw [ord_eq av nv hc] at this; exact this
  · rw [decide_eq_false hc, Bool.false_and] at this ⊢; exact this

set_option maxHeartbeats 16000000 in
theorem OrderFirsts_c {w : World} {v : Value} {o : Prb} {av nv : Value} (h : PrbA w v o av nv) (hT : Tab w) (lv : Option Addr) (lc : Nat) (l : List Int) (hcap : l.length ≤ lc) (hP : Ins w lv l) :
    Calls Tryd.prog 5 #[v, .slice lv l.length lc] w fun en w' => en = .returned (.bool true) ∧ New w w' := by
  have HSL := Lib.hid (fun (w1 : World) (hn : New w w1) => slim_c (h.pv.new hn))
  have HAL := Lib.hid (fun (w1 : World) (hn : New w w1) => alive_c w1 (hT.new hn))
  have hv := h.eq
  obtain ⟨x1, x2, x3, x4, e1, e2⟩ := h.sh
  have H0 := h
  rw [e1, e2] at hv
  subst hv
  obtain ⟨H, hH⟩ : ∃ H, w.heap.size = H := ⟨_, rfl⟩
  have HB := Lib.hid (show (w.alloc (.cells #[.int .i64 o.n, .slice x1 o.A.length x2, .slice x3 o.B.length x4] 24)).heap[H]? = some (.cells #[.int .i64 o.n, .slice x1 o.A.length x2, .slice x3 o.B.length x4] 24 (0, 0)) from by rw [← hH]; exact World.alloc_heap_new w _)
  by_cases hsl : (decide ((o.A.length : Int) ≤ 600) && decide ((o.B.length : Int) ≤ 300)) = false
  · rw [hsl] at HSL
    clear H0 h hP hT e1 e2 hsl
    go_enter Tryd.func5, Tryd.ntmps5
    go_wp2_with (first | (go_at_call 20; (with_reducible refine (HSL.out _ ?_).mono ?_); (· exact (New.refl w).alloc _); rintro e w6 ⟨rfl, n6⟩; have N6 := Lib.hid (((New.refl w).alloc _).trans n6); clear n6) | (go_at_call 21; (with_reducible refine (HAL.out _ ?_).mono ?_); (· exact N6.out); rintro e w9 ⟨rfl, n9⟩; have N9 := Lib.hid (N6.out.trans n9); clear n9))
    go_ret
    exact ⟨rfl, N9.out⟩
  rw [Bool.not_eq_false] at hsl
  rw [hsl] at HSL
  clear hsl
  by_cases h30 : (l.length : Int) > 30
  · clear H0 h hP hT e1 e2
    generalize l.length = N at *
    go_enter Tryd.func5, Tryd.ntmps5
    go_wp2_with (first | (go_at_call 20; (with_reducible refine (HSL.out _ ?_).mono ?_); (· exact (New.refl w).alloc _); rintro e w6 ⟨rfl, n6⟩; have N6 := Lib.hid (((New.refl w).alloc _).trans n6); clear n6) | (go_at_call 21; (with_reducible refine (HAL.out _ ?_).mono ?_); (· exact N6.out); rintro e w9 ⟨rfl, n9⟩; have N9 := Lib.hid (N6.out.trans n9); clear n9))
    go_ret
    exact ⟨rfl, N9.out⟩
  have hl : l.length ≤ 17592186044415 := by omega
  have HFI := Lib.hid (fun (w1 : World) (hn : New w w1) => First_all (H0.new hn) (hT.new hn))
  have HRF := Lib.hid (fun (w1 : World) (hn : New w w1) => rFirst_all (H0.new hn))
  have HCO := Lib.hid (fun (w1 : World) (hn : New w w1) => CheckOrder_c (H0.new hn) lv lc l hl (hP.new hn))
  have HRC := Lib.hid (fun (w1 : World) (hn : New w w1) => rCheckOrder_all (H0.new hn) lv lc l (hP.new hn) hcap hl)
  have HLE := Lib.hid (fun (w1 : World) (hn : New w w1) => Levels_all (H0.new hn) (hT.new hn))
  have HRL := Lib.hid (fun (w1 : World) (hn : New w w1) => rLevels_all (H0.new hn))
  have HSI := Lib.hid (fun (w1 : World) (u1 u2 : Value) (m : List Int) (h1 : SlI w1 u1 m) (h2 : SlI w1 u2 m) (h3 : m.length ≤ 17592186044415) => same_ok m h1 h2 h3)
  have HFL := Lib.hid (show (fiL o av nv).length ≤ 17592186044415 by have := fiL_len H0.sh; omega)
  have HLL := Lib.hid (show (leL o av nv).length ≤ 17592186044415 by have := leL_len (o := o) (av := av) (nv := nv); omega)
  generalize fiL o av nv = FL at *
  generalize leL o av nv = LL at *
  generalize (decide (chkI o = 0) && ioB (opG o av nv) l) = cb at *
  generalize chkI o = EC at *
  generalize ordI o av nv = EO at *
  clear H0 h hP hT e1 e2 hcap
  generalize l.length = N at *
  go_enter Tryd.func5, Tryd.ntmps5
  go_upto_region 9 with (first | (go_at_call 20; (with_reducible refine (HSL.out _ ?_).mono ?_); (· exact (New.refl w).alloc _); rintro e w6 ⟨rfl, n6⟩; have N6 := Lib.hid (((New.refl w).alloc _).trans n6); have HB6 := Lib.hid (row_new HB.out n6); have c0 : w6.cell? ⟨H, 0, none⟩ = some (.int .i64 o.n) := (cell_of_row w6 H 0 _ _ _ HB6.out).trans rfl; have c1 : w6.cell? ⟨H, 1, none⟩ = some (.slice x1 o.A.length x2) := (cell_of_row w6 H 1 _ _ _ HB6.out).trans rfl; have c2 : w6.cell? ⟨H, 2, none⟩ = some (.slice x3 o.B.length x4) := (cell_of_row w6 H 2 _ _ _ HB6.out).trans rfl; have hHl : H < w6.heap.size := (Array.getElem?_eq_some_iff.1 HB6.out).1; clear n6) | (go_at_call 31; (with_reducible refine (HFI.out _ ?_).mono ?_); (· exact N6.out); rintro e w7 ⟨u7, rfl, n7, sl7⟩; have N7 := Lib.hid (N6.out.trans n7); have HB7 := Lib.hid (row_new HB6.out n7); have SL7 := Lib.hid sl7; have HNW7 := Lib.hid n7; clear c0 c1 c2 hHl sl7; have c0 : w7.cell? ⟨H, 0, none⟩ = some (.int .i64 o.n) := (cell_of_row w7 H 0 _ _ _ HB7.out).trans rfl; have c1 : w7.cell? ⟨H, 1, none⟩ = some (.slice x1 o.A.length x2) := (cell_of_row w7 H 1 _ _ _ HB7.out).trans rfl; have c2 : w7.cell? ⟨H, 2, none⟩ = some (.slice x3 o.B.length x4) := (cell_of_row w7 H 2 _ _ _ HB7.out).trans rfl; have hHl : H < w7.heap.size := (Array.getElem?_eq_some_iff.1 HB7.out).1; clear n7) | (go_at_call 32; (with_reducible refine (HRF.out _ ?_).mono ?_); (· exact N7.out); rintro e w8 ⟨u8, rfl, n8, sl8⟩; have N8 := Lib.hid (N7.out.trans n8); have HB8 := Lib.hid (row_new HB7.out n8); have SL8 := Lib.hid sl8; have HNW8 := Lib.hid n8; clear c0 c1 c2 hHl sl8; have c0 : w8.cell? ⟨H, 0, none⟩ = some (.int .i64 o.n) := (cell_of_row w8 H 0 _ _ _ HB8.out).trans rfl; have c1 : w8.cell? ⟨H, 1, none⟩ = some (.slice x1 o.A.length x2) := (cell_of_row w8 H 1 _ _ _ HB8.out).trans rfl; have c2 : w8.cell? ⟨H, 2, none⟩ = some (.slice x3 o.B.length x4) := (cell_of_row w8 H 2 _ _ _ HB8.out).trans rfl; have hHl : H < w8.heap.size := (Array.getElem?_eq_some_iff.1 HB8.out).1; clear n8) | (go_at_call 33; (with_reducible refine (HCO.out _ ?_).mono ?_); (· exact N8.out); rintro e w9 ⟨rfl, n9⟩; have N9 := Lib.hid (N8.out.trans n9); have HB9 := Lib.hid (row_new HB8.out n9); clear c0 c1 c2 hHl; have c0 : w9.cell? ⟨H, 0, none⟩ = some (.int .i64 o.n) := (cell_of_row w9 H 0 _ _ _ HB9.out).trans rfl; have c1 : w9.cell? ⟨H, 1, none⟩ = some (.slice x1 o.A.length x2) := (cell_of_row w9 H 1 _ _ _ HB9.out).trans rfl; have c2 : w9.cell? ⟨H, 2, none⟩ = some (.slice x3 o.B.length x4) := (cell_of_row w9 H 2 _ _ _ HB9.out).trans rfl; have hHl : H < w9.heap.size := (Array.getElem?_eq_some_iff.1 HB9.out).1; have HNW9 := Lib.hid n9; clear n9) | (go_at_call 34; (with_reducible refine (HRC.out _ ?_).mono ?_); (· exact N9.out); rintro e w10 ⟨rfl, n10⟩; have N10 := Lib.hid (N9.out.trans n10); have HB10 := Lib.hid (row_new HB9.out n10); clear c0 c1 c2 hHl; have c0 : w10.cell? ⟨H, 0, none⟩ = some (.int .i64 o.n) := (cell_of_row w10 H 0 _ _ _ HB10.out).trans rfl; have c1 : w10.cell? ⟨H, 1, none⟩ = some (.slice x1 o.A.length x2) := (cell_of_row w10 H 1 _ _ _ HB10.out).trans rfl; have c2 : w10.cell? ⟨H, 2, none⟩ = some (.slice x3 o.B.length x4) := (cell_of_row w10 H 2 _ _ _ HB10.out).trans rfl; have hHl : H < w10.heap.size := (Array.getElem?_eq_some_iff.1 HB10.out).1; have HNW10 := Lib.hid n10; clear n10) | (go_at_call 35; (with_reducible refine (HLE.out _ ?_).mono ?_); (· exact N10.out); rintro e w11 ⟨u11, rfl, n11, sl11⟩; have N11 := Lib.hid (N10.out.trans n11); have HB11 := Lib.hid (row_new HB10.out n11); have SL11 := Lib.hid sl11; have HNW11 := Lib.hid n11; clear c0 c1 c2 hHl sl11; have c0 : w11.cell? ⟨H, 0, none⟩ = some (.int .i64 o.n) := (cell_of_row w11 H 0 _ _ _ HB11.out).trans rfl; have c1 : w11.cell? ⟨H, 1, none⟩ = some (.slice x1 o.A.length x2) := (cell_of_row w11 H 1 _ _ _ HB11.out).trans rfl; have c2 : w11.cell? ⟨H, 2, none⟩ = some (.slice x3 o.B.length x4) := (cell_of_row w11 H 2 _ _ _ HB11.out).trans rfl; have hHl : H < w11.heap.size := (Array.getElem?_eq_some_iff.1 HB11.out).1; clear n11) | (go_at_call 36; (with_reducible refine (HRL.out _ ?_).mono ?_); (· exact N11.out); rintro e w12 ⟨u12, rfl, n12, sl12⟩; have N12 := Lib.hid (N11.out.trans n12); have HB12 := Lib.hid (row_new HB11.out n12); have SL12 := Lib.hid sl12; have HNW12 := Lib.hid n12; clear c0 c1 c2 hHl sl12; have c0 : w12.cell? ⟨H, 0, none⟩ = some (.int .i64 o.n) := (cell_of_row w12 H 0 _ _ _ HB12.out).trans rfl; have c1 : w12.cell? ⟨H, 1, none⟩ = some (.slice x1 o.A.length x2) := (cell_of_row w12 H 1 _ _ _ HB12.out).trans rfl; have c2 : w12.cell? ⟨H, 2, none⟩ = some (.slice x3 o.B.length x4) := (cell_of_row w12 H 2 _ _ _ HB12.out).trans rfl; have hHl : H < w12.heap.size := (Array.getElem?_eq_some_iff.1 HB12.out).1; clear n12))
  have K7 := Lib.hid (HNW8.out.trans (HNW9.out.trans (HNW10.out.trans (HNW11.out.trans HNW12.out))))
  have K8 := Lib.hid (HNW9.out.trans (HNW10.out.trans (HNW11.out.trans HNW12.out)))
  clear c0 c1 c2 hHl
  go_wp2_with (first | (go_at_call 21; (with_reducible refine (HAL.out _ ?_).mono ?_); (· exact N12.out); rintro e w13 ⟨rfl, n13⟩; have M7 := Lib.hid (K7.out.trans n13); have M8 := Lib.hid (K8.out.trans n13); have M11 := Lib.hid (HNW12.out.trans n13); have M12 := Lib.hid n13; have N13 := Lib.hid (N12.out.trans n13); clear n13) | (go_at_call 28; (with_reducible refine (HSI.out _ _ _ _ (SL7.out.new M7.out) (SL8.out.new M8.out) HFL.out).mono ?_); rintro e w14 ⟨rfl, n14⟩; have N14 := Lib.hid n14; clear n14) | (go_at_call 28; (with_reducible refine (HSI.out _ _ _ _ (SL11.out.new (M11.out.trans N14.out)) (SL12.out.new (M12.out.trans N14.out)) HLL.out).mono ?_); rintro e w15 ⟨rfl, n15⟩; have N15 := Lib.hid n15; clear n15))
  all_goals go_ret
  all_goals first | exact ⟨rfl, N13.out.trans (N14.out.trans N15.out)⟩ | trivial
end Go.Proofs.YtiejefehcpfkaaaDoor
