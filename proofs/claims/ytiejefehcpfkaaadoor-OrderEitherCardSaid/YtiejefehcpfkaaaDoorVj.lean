/- The law OrderEither: there is an order or a shortest circle. Any problem and list. -/
import Derived.Test.YtiejefehcpfkaaaDoorVg
import Derived.Test.YtiejefehcpfkaaaDoorUk
set_option linter.unusedSimpArgs false
set_option linter.unusedVariables false
set_option maxRecDepth 100000
namespace Go.Proofs.YtiejefehcpfkaaaDoor
open Go.RowKit Go.Shelf

attribute [local go_sem] Oper.semAt_some

set_option maxHeartbeats 16000000 in
theorem OrderEither_c {w : World} {v : Value} {o : Prb} {av nv : Value} (h : PrbA w v o av nv) (hT : Tab w) (lv : Option Addr) (lc : Nat) (l : List Int) (hcap : l.length ≤ lc) (hP : Ins w lv l) :
    Calls Tryd.prog 12 #[v, .slice lv l.length lc] w fun en w' => en = .returned (.bool true) ∧ New w w' := by
  have HSL := Lib.hid (fun (w1 : World) (hn : New w w1) => slim_c (h.pv.new hn))
  have HAL := Lib.hid (fun (w1 : World) (hn : New w w1) => alive_c w1 (hT.new hn))
  have hv := h.eq
  obtain ⟨x1, x2, x3, x4, e1, e2⟩ := h.sh
  have H0 := h
  rw [e1, e2] at hv
  subst hv
  obtain ⟨H, hH⟩ : ∃ H, w.heap.size = H := ⟨_, rfl⟩
  have HB := Lib.hid (show (w.alloc (.cells #[.int .i64 o.n, .slice x1 o.A.length x2, .slice x3 o.B.length x4] 24)).heap[H]? = some (.cells #[.int .i64 o.n, .slice x1 o.A.length x2, .slice x3 o.B.length x4] 24 (0, 0)) from by rw [← hH]; exact World.alloc_heap_new w _)
  by_cases hsl : (decide ((o.A.length : Int) ≤ 600) && decide ((o.B.length : Int) ≤ 300)) = false
  · rw [hsl] at HSL
    clear H0 h hP hT e1 e2 hsl
    go_enter Tryd.func12, Tryd.ntmps12
    go_wp2_with (first | (go_at_call 20; (with_reducible refine (HSL.out _ ?_).mono ?_); (· exact (New.refl w).alloc _); rintro e w6 ⟨rfl, n6⟩; have N6 := Lib.hid (((New.refl w).alloc _).trans n6); clear n6) | (go_at_call 21; (with_reducible refine (HAL.out _ ?_).mono ?_); (· exact N6.out); rintro e w9 ⟨rfl, n9⟩; have N9 := Lib.hid (N6.out.trans n9); clear n9))
    go_ret
    exact ⟨rfl, N9.out⟩
  rw [Bool.not_eq_false] at hsl
  rw [hsl] at HSL
  clear hsl
  by_cases h30 : (l.length : Int) > 30
  · clear H0 h hP hT e1 e2
    generalize l.length = N at *
    go_enter Tryd.func12, Tryd.ntmps12
    go_wp2_with (first | (go_at_call 20; (with_reducible refine (HSL.out _ ?_).mono ?_); (· exact (New.refl w).alloc _); rintro e w6 ⟨rfl, n6⟩; have N6 := Lib.hid (((New.refl w).alloc _).trans n6); clear n6) | (go_at_call 21; (with_reducible refine (HAL.out _ ?_).mono ?_); (· exact N6.out); rintro e w9 ⟨rfl, n9⟩; have N9 := Lib.hid (N6.out.trans n9); clear n9))
    go_ret
    exact ⟨rfl, N9.out⟩
  have hl : l.length ≤ 17592186044415 := by omega
  have HCK := Lib.hid (fun (w1 : World) (hn : New w w1) => check_c _ o w1 (h.pv.new hn))
  by_cases hc : chkI o = 0
  · rw [hc] at HCK
    have HCL := Lib.hid (fun (w1 : World) (hn : New w w1) => CheckCircle_c (H0.new hn) lv lc l hl (hP.new hn))
    have HOL := Lib.hid (fun (w1 : World) (hn : New w w1) => CheckOrder_c (H0.new hn) lv lc l hl (hP.new hn))
    rw [decide_eq_true hc, Bool.true_and] at HCL HOL
    rw [hc] at HOL
    have HCI := Lib.hid (fun (w1 : World) (hn : New w w1) => Circle_good (H0.new hn) (hT.new hn) hc)
    cases hcir : cirB (opG o av nv).re (opG o av nv).n
    · -- no circle
      have ho : ordI o av nv = 0 := by unfold ordI; rw [if_neg (by rw [hc]; simp), hcir]; rfl
      have hcn : circO (opG o av nv) = none := by
        cases he : circO (opG o av nv) with
        | none => rfl
        | some c => have := cir_of_circ av nv hc (by rw [he]; rfl); rw [hcir] at this; cases this
      have hcl : chcB (opG o av nv) l = false := by
        cases hb : chcB (opG o av nv) l
        · rfl
        · obtain ⟨c, hc1, _⟩ := chc_least av nv hc hb
          rw [hcn] at hc1; cases hc1
      rw [hcn] at HCI
      rw [hcl] at HCL
      have HFI := Lib.hid (fun (w1 : World) (hn : New w w1) => First_good (H0.new hn) (hT.new hn) ho)
      have HFO := Lib.hid (fun (w1 : World) (hn : New w w1) (fa : Option Addr) (fc : Nat) (hi : Ins w1 fa (ints (firstO (opG o av nv)))) => (by
        have := CheckOrder_c (H0.new hn) fa fc (ints (firstO (opG o av nv))) (by rw [(ioB_facts (first_io hc H0.sh hcir)).1]; have := (chkI_zero hc).1; show o.n.toNat ≤ _; omega) hi
        rw [first_io hc H0.sh hcir, decide_eq_true hc, hc] at this
        exact this : Calls Tryd.prog 33 #[.agg #[.int .i64 o.n, .slice x1 o.A.length x2, .slice x3 o.B.length x4], .slice fa (ints (firstO (opG o av nv))).length fc] w1 fun en w' => en = .returned (.tuple #[.bool true, .int .i64 0]) ∧ New w1 w'))
      generalize ioB (opG o av nv) l = ob at *
      generalize firstO (opG o av nv) = FO at *
      clear H0 h hP hT e1 e2 ho hcn hcl hcir hc
      generalize l.length = N at *
      go_enter Tryd.func12, Tryd.ntmps12
      go_wp2_with (first | (go_at_call 20; (with_reducible refine (HSL.out _ ?_).mono ?_); (· exact (New.refl w).alloc _); rintro e w6 ⟨rfl, n6⟩; have N6 := Lib.hid (((New.refl w).alloc _).trans n6); have HB6 := Lib.hid (row_new HB.out n6); have c0 : w6.cell? ⟨H, 0, none⟩ = some (.int .i64 o.n) := (cell_of_row w6 H 0 _ _ _ HB6.out).trans rfl; have c1 : w6.cell? ⟨H, 1, none⟩ = some (.slice x1 o.A.length x2) := (cell_of_row w6 H 1 _ _ _ HB6.out).trans rfl; have c2 : w6.cell? ⟨H, 2, none⟩ = some (.slice x3 o.B.length x4) := (cell_of_row w6 H 2 _ _ _ HB6.out).trans rfl; have hHl : H < w6.heap.size := (Array.getElem?_eq_some_iff.1 HB6.out).1; clear n6) | (go_at_call 23; (with_reducible refine (HCK.out _ ?_).mono ?_); (· exact N6.out); rintro e w7 ⟨rfl, n7⟩; have N7 := Lib.hid (N6.out.trans n7); have HB7 := Lib.hid (row_new HB6.out n7); clear c0 c1 c2 hHl; have c0 : w7.cell? ⟨H, 0, none⟩ = some (.int .i64 o.n) := (cell_of_row w7 H 0 _ _ _ HB7.out).trans rfl; have c1 : w7.cell? ⟨H, 1, none⟩ = some (.slice x1 o.A.length x2) := (cell_of_row w7 H 1 _ _ _ HB7.out).trans rfl; have c2 : w7.cell? ⟨H, 2, none⟩ = some (.slice x3 o.B.length x4) := (cell_of_row w7 H 2 _ _ _ HB7.out).trans rfl; have hHl : H < w7.heap.size := (Array.getElem?_eq_some_iff.1 HB7.out).1; clear n7) | (go_at_call 31; (with_reducible refine (HFI.out _ ?_).mono ?_); (· exact N7.out); rintro e w10 ⟨u10, rfl, n10, own10⟩; have N10 := Lib.hid (N7.out.trans n10); have HB10 := Lib.hid (row_new HB7.out n10); obtain ⟨fa, fc, rfl, fi10⟩ := SlI.of_own own10; have FI10 := Lib.hid fi10; clear c0 c1 c2 hHl own10 fi10; have c0 : w10.cell? ⟨H, 0, none⟩ = some (.int .i64 o.n) := (cell_of_row w10 H 0 _ _ _ HB10.out).trans rfl; have c1 : w10.cell? ⟨H, 1, none⟩ = some (.slice x1 o.A.length x2) := (cell_of_row w10 H 1 _ _ _ HB10.out).trans rfl; have c2 : w10.cell? ⟨H, 2, none⟩ = some (.slice x3 o.B.length x4) := (cell_of_row w10 H 2 _ _ _ HB10.out).trans rfl; have hHl : H < w10.heap.size := (Array.getElem?_eq_some_iff.1 HB10.out).1; clear n10) | (go_at_call 26; (with_reducible refine (HCI.out _ ?_).mono ?_); (· exact N10.out); rintro e w11 ⟨u11, rfl, n11, cv11⟩; have N11 := Lib.hid (N10.out.trans n11); have HB11 := Lib.hid (row_new HB10.out n11); obtain ⟨ca, cn, cc, rfl, _⟩ := cv11.shape; have FI11 := Lib.hid (FI10.out.new n11); clear c0 c1 c2 hHl cv11; have c0 : w11.cell? ⟨H, 0, none⟩ = some (.int .i64 o.n) := (cell_of_row w11 H 0 _ _ _ HB11.out).trans rfl; have c1 : w11.cell? ⟨H, 1, none⟩ = some (.slice x1 o.A.length x2) := (cell_of_row w11 H 1 _ _ _ HB11.out).trans rfl; have c2 : w11.cell? ⟨H, 2, none⟩ = some (.slice x3 o.B.length x4) := (cell_of_row w11 H 2 _ _ _ HB11.out).trans rfl; have hHl : H < w11.heap.size := (Array.getElem?_eq_some_iff.1 HB11.out).1; clear n11) | (go_at_call 33; (with_reducible refine (HFO.out _ ?_ _ _ FI11.out).mono ?_); (· exact N11.out); rintro e w12 ⟨rfl, n12⟩; have N12 := Lib.hid (N11.out.trans n12); have N12b := Lib.hid n12; have HB12 := Lib.hid (row_new HB11.out n12); clear c0 c1 c2 hHl FI11; have c0 : w12.cell? ⟨H, 0, none⟩ = some (.int .i64 o.n) := (cell_of_row w12 H 0 _ _ _ HB12.out).trans rfl; have c1 : w12.cell? ⟨H, 1, none⟩ = some (.slice x1 o.A.length x2) := (cell_of_row w12 H 1 _ _ _ HB12.out).trans rfl; have c2 : w12.cell? ⟨H, 2, none⟩ = some (.slice x3 o.B.length x4) := (cell_of_row w12 H 2 _ _ _ HB12.out).trans rfl; have hHl : H < w12.heap.size := (Array.getElem?_eq_some_iff.1 HB12.out).1; clear n12) | (go_at_call 29; (with_reducible refine (HCL.out _ ?_).mono ?_); (· exact N12.out); rintro e w13 ⟨rfl, n13⟩; have N13 := Lib.hid (N12.out.trans n13); have HB13 := Lib.hid (row_new HB12.out n13); clear c0 c1 c2 hHl; have c0 : w13.cell? ⟨H, 0, none⟩ = some (.int .i64 o.n) := (cell_of_row w13 H 0 _ _ _ HB13.out).trans rfl; have c1 : w13.cell? ⟨H, 1, none⟩ = some (.slice x1 o.A.length x2) := (cell_of_row w13 H 1 _ _ _ HB13.out).trans rfl; have c2 : w13.cell? ⟨H, 2, none⟩ = some (.slice x3 o.B.length x4) := (cell_of_row w13 H 2 _ _ _ HB13.out).trans rfl; have hHl : H < w13.heap.size := (Array.getElem?_eq_some_iff.1 HB13.out).1; clear n13) | (go_at_call 33; (with_reducible refine (HOL.out _ ?_).mono ?_); (· exact N13.out); rintro e w14 ⟨rfl, n14⟩; have N14 := Lib.hid (N13.out.trans n14); clear n14) | (go_at_call 21; (with_reducible refine (HAL.out _ ?_).mono ?_); (· exact N14.out); rintro e w9 ⟨rfl, n9⟩; have N9 := Lib.hid (N14.out.trans n9); clear n9))
      all_goals (first | (cases ob) | skip)
      all_goals go_ret
      all_goals exact ⟨rfl, N9.out⟩
    · -- a circle
      have ho : ordI o av nv = 50 := by unfold ordI; rw [if_neg (by rw [hc]; simp), hcir]; rfl
      obtain ⟨c, hcs⟩ := Option.isSome_iff_exists.1 (circ_of_cir av nv hc hcir)
      have hio : ioB (opG o av nv) l = false := by
        cases hb : ioB (opG o av nv) l
        · rfl
        · have := io_no av nv hc hb; rw [hcir] at this; cases this
      have hlen : chcB (opG o av nv) l = true → 2 ≤ l.length ∧ ¬ (((ints c).length : Int) > (l.length : Int)) ∧ stI o av nv (nI l 0) (nI l 1) = 3 := fun hb => by
        obtain ⟨c', h1, h2⟩ := chc_least av nv hc hb
        rw [hcs] at h1
        obtain rfl : c = c' := by simpa using h1
        exact ⟨(chc_arcs hb).1, by rw [ints_len]; omega, chc_stand av nv hc hb⟩
      rw [hcs] at HCI
      rw [hio] at HOL
      have HFI := Lib.hid (fun (w1 : World) (hn : New w w1) => First_bad (H0.new hn) (show ordI o av nv ≠ 0 by rw [ho]; decide))
      rw [ho] at HFI
      have HFO := Lib.hid (fun (w1 : World) (hn : New w w1) => (by
        have := CheckOrder_c (H0.new hn) none 0 [] (by simp) (fun h => absurd h (by simp))
        rw [hc, decide_eq_true rfl, Bool.true_and] at this
        exact this : Calls Tryd.prog 33 #[.agg #[.int .i64 o.n, .slice x1 o.A.length x2, .slice x3 o.B.length x4], .slice none 0 0] w1 fun en w' => en = .returned (.tuple #[.bool (ioB (opG o av nv) []), .int .i64 0]) ∧ New w1 w'))
      have hcok := circ_ok av nv hc hcs
      have HCC := Lib.hid (fun (w1 : World) (hn : New w w1) (fa : Option Addr) (fc : Nat) (hi : Ins w1 fa (ints c)) (hcl : (ints c).length ≤ 25) => (by
        have := CheckCircle_c (H0.new hn) fa fc (ints c) (by omega) hi
        rw [hcok, decide_eq_true hc] at this
        exact this : Calls Tryd.prog 29 #[.agg #[.int .i64 o.n, .slice x1 o.A.length x2, .slice x3 o.B.length x4], .slice fa (ints c).length fc] w1 fun en w' => en = .returned (.bool true) ∧ New w1 w'))
      have HSD := Lib.hid (fun (w1 : World) (hn : New w w1) => standing_c (H0.new hn) (nI l 0) (nI l 1))
      generalize ioB (opG o av nv) [] = eb at *
      cases hcl : chcB (opG o av nv) l
      · rw [hcl] at HCL
        clear H0 h hP hT e1 e2 ho hcs hio hlen hcok hcl hcir hc HSD
        generalize hCL : (ints c).length = CL at *
        generalize l.length = N at *
        go_enter Tryd.func12, Tryd.ntmps12
        go_wp2_with (first | (go_at_call 20; (with_reducible refine (HSL.out _ ?_).mono ?_); (· exact (New.refl w).alloc _); rintro e w6 ⟨rfl, n6⟩; have N6 := Lib.hid (((New.refl w).alloc _).trans n6); have HB6 := Lib.hid (row_new HB.out n6); have c0 : w6.cell? ⟨H, 0, none⟩ = some (.int .i64 o.n) := (cell_of_row w6 H 0 _ _ _ HB6.out).trans rfl; have c1 : w6.cell? ⟨H, 1, none⟩ = some (.slice x1 o.A.length x2) := (cell_of_row w6 H 1 _ _ _ HB6.out).trans rfl; have c2 : w6.cell? ⟨H, 2, none⟩ = some (.slice x3 o.B.length x4) := (cell_of_row w6 H 2 _ _ _ HB6.out).trans rfl; have hHl : H < w6.heap.size := (Array.getElem?_eq_some_iff.1 HB6.out).1; clear n6) | (go_at_call 23; (with_reducible refine (HCK.out _ ?_).mono ?_); (· exact N6.out); rintro e w7 ⟨rfl, n7⟩; have N7 := Lib.hid (N6.out.trans n7); have HB7 := Lib.hid (row_new HB6.out n7); clear c0 c1 c2 hHl; have c0 : w7.cell? ⟨H, 0, none⟩ = some (.int .i64 o.n) := (cell_of_row w7 H 0 _ _ _ HB7.out).trans rfl; have c1 : w7.cell? ⟨H, 1, none⟩ = some (.slice x1 o.A.length x2) := (cell_of_row w7 H 1 _ _ _ HB7.out).trans rfl; have c2 : w7.cell? ⟨H, 2, none⟩ = some (.slice x3 o.B.length x4) := (cell_of_row w7 H 2 _ _ _ HB7.out).trans rfl; have hHl : H < w7.heap.size := (Array.getElem?_eq_some_iff.1 HB7.out).1; clear n7) | (go_at_call 31; (with_reducible refine (HFI.out _ ?_).mono ?_); (· exact N7.out); rintro e w10 ⟨rfl, n10⟩; have N10 := Lib.hid (N7.out.trans n10); have HB10 := Lib.hid (row_new HB7.out n10); clear c0 c1 c2 hHl; have c0 : w10.cell? ⟨H, 0, none⟩ = some (.int .i64 o.n) := (cell_of_row w10 H 0 _ _ _ HB10.out).trans rfl; have c1 : w10.cell? ⟨H, 1, none⟩ = some (.slice x1 o.A.length x2) := (cell_of_row w10 H 1 _ _ _ HB10.out).trans rfl; have c2 : w10.cell? ⟨H, 2, none⟩ = some (.slice x3 o.B.length x4) := (cell_of_row w10 H 2 _ _ _ HB10.out).trans rfl; have hHl : H < w10.heap.size := (Array.getElem?_eq_some_iff.1 HB10.out).1; clear n10) | (go_at_call 26; (with_reducible refine (HCI.out _ ?_).mono ?_); (· exact N10.out); rintro e w11 ⟨u11, rfl, n11, cv11⟩; have N11 := Lib.hid (N10.out.trans n11); have HB11 := Lib.hid (row_new HB10.out n11); obtain ⟨⟨ca, cc, rfl, ci11⟩, cl11⟩ := CirV.sl cv11; have CI11 := Lib.hid ci11; have CL11 := Lib.hid (show (ints c).length ≤ 25 by rw [ints_len]; exact cl11); rw [hCL]; clear c0 c1 c2 hHl cv11 ci11 cl11; have c0 : w11.cell? ⟨H, 0, none⟩ = some (.int .i64 o.n) := (cell_of_row w11 H 0 _ _ _ HB11.out).trans rfl; have c1 : w11.cell? ⟨H, 1, none⟩ = some (.slice x1 o.A.length x2) := (cell_of_row w11 H 1 _ _ _ HB11.out).trans rfl; have c2 : w11.cell? ⟨H, 2, none⟩ = some (.slice x3 o.B.length x4) := (cell_of_row w11 H 2 _ _ _ HB11.out).trans rfl; have hHl : H < w11.heap.size := (Array.getElem?_eq_some_iff.1 HB11.out).1; clear n11) | (go_at_call 33; (with_reducible refine (HFO.out _ ?_).mono ?_); (· exact N11.out); rintro e w12 ⟨rfl, n12⟩; have N12 := Lib.hid (N11.out.trans n12); have N12b := Lib.hid n12; have HB12 := Lib.hid (row_new HB11.out n12); clear c0 c1 c2 hHl; have c0 : w12.cell? ⟨H, 0, none⟩ = some (.int .i64 o.n) := (cell_of_row w12 H 0 _ _ _ HB12.out).trans rfl; have c1 : w12.cell? ⟨H, 1, none⟩ = some (.slice x1 o.A.length x2) := (cell_of_row w12 H 1 _ _ _ HB12.out).trans rfl; have c2 : w12.cell? ⟨H, 2, none⟩ = some (.slice x3 o.B.length x4) := (cell_of_row w12 H 2 _ _ _ HB12.out).trans rfl; have hHl : H < w12.heap.size := (Array.getElem?_eq_some_iff.1 HB12.out).1; clear n12) | (go_at_call 29; (with_reducible refine (HCC.out _ ?_ _ _ (CI11.out.new N12b.out) ?_).mono ?_); (· exact N12.out); (· exact hCL ▸ CL11.out); rintro e w13 ⟨rfl, n13⟩; have N13 := Lib.hid (N12.out.trans n13); have HB13 := Lib.hid (row_new HB12.out n13); clear c0 c1 c2 hHl; have c0 : w13.cell? ⟨H, 0, none⟩ = some (.int .i64 o.n) := (cell_of_row w13 H 0 _ _ _ HB13.out).trans rfl; have c1 : w13.cell? ⟨H, 1, none⟩ = some (.slice x1 o.A.length x2) := (cell_of_row w13 H 1 _ _ _ HB13.out).trans rfl; have c2 : w13.cell? ⟨H, 2, none⟩ = some (.slice x3 o.B.length x4) := (cell_of_row w13 H 2 _ _ _ HB13.out).trans rfl; have hHl : H < w13.heap.size := (Array.getElem?_eq_some_iff.1 HB13.out).1; clear n13) | (go_at_call 29; (with_reducible refine (HCL.out _ ?_).mono ?_); (· exact N13.out); rintro e w14 ⟨rfl, n14⟩; have N14 := Lib.hid (N13.out.trans n14); have HB14 := Lib.hid (row_new HB13.out n14); clear c0 c1 c2 hHl; have c0 : w14.cell? ⟨H, 0, none⟩ = some (.int .i64 o.n) := (cell_of_row w14 H 0 _ _ _ HB14.out).trans rfl; have c1 : w14.cell? ⟨H, 1, none⟩ = some (.slice x1 o.A.length x2) := (cell_of_row w14 H 1 _ _ _ HB14.out).trans rfl; have c2 : w14.cell? ⟨H, 2, none⟩ = some (.slice x3 o.B.length x4) := (cell_of_row w14 H 2 _ _ _ HB14.out).trans rfl; have hHl : H < w14.heap.size := (Array.getElem?_eq_some_iff.1 HB14.out).1; clear n14) | (go_at_call 33; (with_reducible refine (HOL.out _ ?_).mono ?_); (· exact N14.out); rintro e w15 ⟨rfl, n15⟩; have N15 := Lib.hid (N14.out.trans n15); clear n15) | (go_at_call 21; (with_reducible refine (HAL.out _ ?_).mono ?_); (· exact N15.out); rintro e w9 ⟨rfl, n9⟩; have N9 := Lib.hid (N15.out.trans n9); clear n9))
        go_ret
        exact ⟨rfl, N9.out⟩
      · rw [hcl] at HCL
        obtain ⟨hl2, hle, hst⟩ := hlen hcl
        rw [hst] at HSD
        obtain ⟨bl, ol, rfl, gl0, hcc0⟩ := hP (by omega)
        have HC0 := Lib.hid (hcc0 0 (by omega))
        have HC1 := Lib.hid (hcc0 1 (by omega))
        have HGL := Lib.hid gl0
        clear H0 h hT e1 e2 ho hcs hio hlen hcok hcl hcir hc hst gl0 hcc0
        generalize nI l 0 = la at *
        generalize nI l 1 = lb at *
        generalize hCL : (ints c).length = CL at *
        generalize l.length = N at *
        have hn0 : (0 : Int) < (N : Int) := by omega
        have hn1 : (1 : Int) < (N : Int) := by omega
        have hgd : decide ((N : Int) < (CL : Int)) = false := decide_eq_false (by omega)
        have hgd2 : decide (N < CL) = false := decide_eq_false (by omega)
        clear hle
        go_enter Tryd.func12, Tryd.ntmps12
        go_upto_region 13 with (first | (go_at_call 20; (with_reducible refine (HSL.out _ ?_).mono ?_); (· exact (New.refl w).alloc _); rintro e w6 ⟨rfl, n6⟩; have N6 := Lib.hid (((New.refl w).alloc _).trans n6); have HB6 := Lib.hid (row_new HB.out n6); have c0 : w6.cell? ⟨H, 0, none⟩ = some (.int .i64 o.n) := (cell_of_row w6 H 0 _ _ _ HB6.out).trans rfl; have c1 : w6.cell? ⟨H, 1, none⟩ = some (.slice x1 o.A.length x2) := (cell_of_row w6 H 1 _ _ _ HB6.out).trans rfl; have c2 : w6.cell? ⟨H, 2, none⟩ = some (.slice x3 o.B.length x4) := (cell_of_row w6 H 2 _ _ _ HB6.out).trans rfl; have hHl : H < w6.heap.size := (Array.getElem?_eq_some_iff.1 HB6.out).1; clear n6) | (go_at_call 23; (with_reducible refine (HCK.out _ ?_).mono ?_); (· exact N6.out); rintro e w7 ⟨rfl, n7⟩; have N7 := Lib.hid (N6.out.trans n7); have HB7 := Lib.hid (row_new HB6.out n7); clear c0 c1 c2 hHl; have c0 : w7.cell? ⟨H, 0, none⟩ = some (.int .i64 o.n) := (cell_of_row w7 H 0 _ _ _ HB7.out).trans rfl; have c1 : w7.cell? ⟨H, 1, none⟩ = some (.slice x1 o.A.length x2) := (cell_of_row w7 H 1 _ _ _ HB7.out).trans rfl; have c2 : w7.cell? ⟨H, 2, none⟩ = some (.slice x3 o.B.length x4) := (cell_of_row w7 H 2 _ _ _ HB7.out).trans rfl; have hHl : H < w7.heap.size := (Array.getElem?_eq_some_iff.1 HB7.out).1; clear n7) | (go_at_call 31; (with_reducible refine (HFI.out _ ?_).mono ?_); (· exact N7.out); rintro e w10 ⟨rfl, n10⟩; have N10 := Lib.hid (N7.out.trans n10); have HB10 := Lib.hid (row_new HB7.out n10); clear c0 c1 c2 hHl; have c0 : w10.cell? ⟨H, 0, none⟩ = some (.int .i64 o.n) := (cell_of_row w10 H 0 _ _ _ HB10.out).trans rfl; have c1 : w10.cell? ⟨H, 1, none⟩ = some (.slice x1 o.A.length x2) := (cell_of_row w10 H 1 _ _ _ HB10.out).trans rfl; have c2 : w10.cell? ⟨H, 2, none⟩ = some (.slice x3 o.B.length x4) := (cell_of_row w10 H 2 _ _ _ HB10.out).trans rfl; have hHl : H < w10.heap.size := (Array.getElem?_eq_some_iff.1 HB10.out).1; clear n10) | (go_at_call 26; (with_reducible refine (HCI.out _ ?_).mono ?_); (· exact N10.out); rintro e w11 ⟨u11, rfl, n11, cv11⟩; have N11 := Lib.hid (N10.out.trans n11); have HB11 := Lib.hid (row_new HB10.out n11); obtain ⟨⟨ca, cc, rfl, ci11⟩, cl11⟩ := CirV.sl cv11; have CI11 := Lib.hid ci11; have CL11 := Lib.hid (show (ints c).length ≤ 25 by rw [ints_len]; exact cl11); rw [hCL]; clear c0 c1 c2 hHl cv11 ci11 cl11; have c0 : w11.cell? ⟨H, 0, none⟩ = some (.int .i64 o.n) := (cell_of_row w11 H 0 _ _ _ HB11.out).trans rfl; have c1 : w11.cell? ⟨H, 1, none⟩ = some (.slice x1 o.A.length x2) := (cell_of_row w11 H 1 _ _ _ HB11.out).trans rfl; have c2 : w11.cell? ⟨H, 2, none⟩ = some (.slice x3 o.B.length x4) := (cell_of_row w11 H 2 _ _ _ HB11.out).trans rfl; have hHl : H < w11.heap.size := (Array.getElem?_eq_some_iff.1 HB11.out).1; clear n11) | (go_at_call 33; (with_reducible refine (HFO.out _ ?_).mono ?_); (· exact N11.out); rintro e w12 ⟨rfl, n12⟩; have N12 := Lib.hid (N11.out.trans n12); have N12b := Lib.hid n12; have HB12 := Lib.hid (row_new HB11.out n12); clear c0 c1 c2 hHl; have c0 : w12.cell? ⟨H, 0, none⟩ = some (.int .i64 o.n) := (cell_of_row w12 H 0 _ _ _ HB12.out).trans rfl; have c1 : w12.cell? ⟨H, 1, none⟩ = some (.slice x1 o.A.length x2) := (cell_of_row w12 H 1 _ _ _ HB12.out).trans rfl; have c2 : w12.cell? ⟨H, 2, none⟩ = some (.slice x3 o.B.length x4) := (cell_of_row w12 H 2 _ _ _ HB12.out).trans rfl; have hHl : H < w12.heap.size := (Array.getElem?_eq_some_iff.1 HB12.out).1; clear n12) | (go_at_call 29; (with_reducible refine (HCC.out _ ?_ _ _ (CI11.out.new N12b.out) ?_).mono ?_); (· exact N12.out); (· exact hCL ▸ CL11.out); rintro e w13 ⟨rfl, n13⟩; have N13 := Lib.hid (N12.out.trans n13); have HB13 := Lib.hid (row_new HB12.out n13); clear c0 c1 c2 hHl; have c0 : w13.cell? ⟨H, 0, none⟩ = some (.int .i64 o.n) := (cell_of_row w13 H 0 _ _ _ HB13.out).trans rfl; have c1 : w13.cell? ⟨H, 1, none⟩ = some (.slice x1 o.A.length x2) := (cell_of_row w13 H 1 _ _ _ HB13.out).trans rfl; have c2 : w13.cell? ⟨H, 2, none⟩ = some (.slice x3 o.B.length x4) := (cell_of_row w13 H 2 _ _ _ HB13.out).trans rfl; have hHl : H < w13.heap.size := (Array.getElem?_eq_some_iff.1 HB13.out).1; clear n13) | (go_at_call 29; (with_reducible refine (HCL.out _ ?_).mono ?_); (· exact N13.out); rintro e w14 ⟨rfl, n14⟩; have N14 := Lib.hid (N13.out.trans n14); have HB14 := Lib.hid (row_new HB13.out n14); clear c0 c1 c2 hHl; have c0 : w14.cell? ⟨H, 0, none⟩ = some (.int .i64 o.n) := (cell_of_row w14 H 0 _ _ _ HB14.out).trans rfl; have c1 : w14.cell? ⟨H, 1, none⟩ = some (.slice x1 o.A.length x2) := (cell_of_row w14 H 1 _ _ _ HB14.out).trans rfl; have c2 : w14.cell? ⟨H, 2, none⟩ = some (.slice x3 o.B.length x4) := (cell_of_row w14 H 2 _ _ _ HB14.out).trans rfl; have hHl : H < w14.heap.size := (Array.getElem?_eq_some_iff.1 HB14.out).1; clear n14))
        have HSD2 := Lib.hid (fun (w1 : World) (hn : New w14 w1) => HSD.out w1 (N14.out.trans hn))
        have d0 : w14.cell? ⟨bl, ol + 0, none⟩ = some (.int .i64 la) := (N14.out.cell HGL.out).trans HC0.out
        have d1 : w14.cell? ⟨bl, ol + 1, none⟩ = some (.int .i64 lb) := (N14.out.cell HGL.out).trans HC1.out
        rw [Nat.add_zero] at d0
        have hg1 : bl < w14.heap.size := Nat.lt_of_lt_of_le HGL.out N14.out.size
        first | refine wp_region_at2 (by kernel_rfl) (by kernel_rfl) ?_ | refine wp_region_at (by kernel_rfl) (by kernel_rfl) ?_
        repeat (go_big_quiet_step (first | (go_at_call 22; (with_reducible exact calls_new (HSD2.out _ (by (repeat (first | exact New.refl _ | apply New.alloc | apply New.aft | apply New.drew))))))))
        refine wpQuiet_nil ?_
        rintro U8 hq
        have HN8 := Lib.hid (show New w14 U8 from hq)
        clear hq d0 d1 hg1 hn0 hn1
        have N15 := Lib.hid (N14.out.trans HN8.out)
        have HB15 := Lib.hid (row_new HB14.out HN8.out)
        clear c0 c1 c2 hHl
        have c0 : U8.cell? ⟨H, 0, none⟩ = some (.int .i64 o.n) := (cell_of_row U8 H 0 _ _ _ HB15.out).trans rfl
        have c1 : U8.cell? ⟨H, 1, none⟩ = some (.slice x1 o.A.length x2) := (cell_of_row U8 H 1 _ _ _ HB15.out).trans rfl
        have c2 : U8.cell? ⟨H, 2, none⟩ = some (.slice x3 o.B.length x4) := (cell_of_row U8 H 2 _ _ _ HB15.out).trans rfl
        have hHl : H < U8.heap.size := (Array.getElem?_eq_some_iff.1 HB15.out).1
        go_wp2_with (first | (go_at_call 33; (with_reducible refine (HOL.out _ ?_).mono ?_); (· exact N15.out); rintro e w16 ⟨rfl, n16⟩; have N16 := Lib.hid (N15.out.trans n16); clear n16) | (go_at_call 21; (with_reducible refine (HAL.out _ ?_).mono ?_); (· exact N16.out); rintro e w9 ⟨rfl, n9⟩; have N9 := Lib.hid (N16.out.trans n9); clear n9))
        go_ret
        exact ⟨rfl, N9.out⟩
  · have ho : ordI o av nv = chkI o := by unfold ordI; rw [if_pos hc]
    have HFI := Lib.hid (fun (w1 : World) (hn : New w w1) => First_bad (H0.new hn) (show ordI o av nv ≠ 0 by rw [ho]; exact hc))
    have HCI := Lib.hid (fun (w1 : World) (hn : New w w1) => Circle_bad (H0.new hn) hc)
    rw [ho] at HFI
    have he : (chkI o != 0) = true := by simpa using hc
    have hee : (chkI o == chkI o) = true := by simp
    clear H0 h hP hT e1 e2 ho hc
    generalize chkI o = E at *
    generalize l.length = N at *
    go_enter Tryd.func12, Tryd.ntmps12
    go_wp2_with (first | (go_at_call 20; (with_reducible refine (HSL.out _ ?_).mono ?_); (· exact (New.refl w).alloc _); rintro e w6 ⟨rfl, n6⟩; have N6 := Lib.hid (((New.refl w).alloc _).trans n6); have HB6 := Lib.hid (row_new HB.out n6); have c0 : w6.cell? ⟨H, 0, none⟩ = some (.int .i64 o.n) := (cell_of_row w6 H 0 _ _ _ HB6.out).trans rfl; have c1 : w6.cell? ⟨H, 1, none⟩ = some (.slice x1 o.A.length x2) := (cell_of_row w6 H 1 _ _ _ HB6.out).trans rfl; have c2 : w6.cell? ⟨H, 2, none⟩ = some (.slice x3 o.B.length x4) := (cell_of_row w6 H 2 _ _ _ HB6.out).trans rfl; have hHl : H < w6.heap.size := (Array.getElem?_eq_some_iff.1 HB6.out).1; clear n6) | (go_at_call 23; (with_reducible refine (HCK.out _ ?_).mono ?_); (· first | exact N9.out | exact N6.out); rintro e w7 ⟨rfl, n7⟩; (first | (have N12 := Lib.hid (N9.out.trans n7)) | (have N7 := Lib.hid (N6.out.trans n7); have HB7 := Lib.hid (row_new HB6.out n7); clear c0 c1 c2 hHl; have c0 : w7.cell? ⟨H, 0, none⟩ = some (.int .i64 o.n) := (cell_of_row w7 H 0 _ _ _ HB7.out).trans rfl; have c1 : w7.cell? ⟨H, 1, none⟩ = some (.slice x1 o.A.length x2) := (cell_of_row w7 H 1 _ _ _ HB7.out).trans rfl; have c2 : w7.cell? ⟨H, 2, none⟩ = some (.slice x3 o.B.length x4) := (cell_of_row w7 H 2 _ _ _ HB7.out).trans rfl; have hHl : H < w7.heap.size := (Array.getElem?_eq_some_iff.1 HB7.out).1)); clear n7) | (go_at_call 31; (with_reducible refine (HFI.out _ ?_).mono ?_); (· exact N7.out); rintro e w10 ⟨rfl, n10⟩; have N10 := Lib.hid (N7.out.trans n10); have HB10 := Lib.hid (row_new HB7.out n10); clear c0 c1 c2 hHl; have c0 : w10.cell? ⟨H, 0, none⟩ = some (.int .i64 o.n) := (cell_of_row w10 H 0 _ _ _ HB10.out).trans rfl; have c1 : w10.cell? ⟨H, 1, none⟩ = some (.slice x1 o.A.length x2) := (cell_of_row w10 H 1 _ _ _ HB10.out).trans rfl; have c2 : w10.cell? ⟨H, 2, none⟩ = some (.slice x3 o.B.length x4) := (cell_of_row w10 H 2 _ _ _ HB10.out).trans rfl; have hHl : H < w10.heap.size := (Array.getElem?_eq_some_iff.1 HB10.out).1; clear n10) | (go_at_call 26; (with_reducible refine (HCI.out _ ?_).mono ?_); (· exact N10.out); rintro e w11 ⟨rfl, n11⟩; have N11 := Lib.hid (N10.out.trans n11); have HB11 := Lib.hid (row_new HB10.out n11); clear c0 c1 c2 hHl; have c0 : w11.cell? ⟨H, 0, none⟩ = some (.int .i64 o.n) := (cell_of_row w11 H 0 _ _ _ HB11.out).trans rfl; have c1 : w11.cell? ⟨H, 1, none⟩ = some (.slice x1 o.A.length x2) := (cell_of_row w11 H 1 _ _ _ HB11.out).trans rfl; have c2 : w11.cell? ⟨H, 2, none⟩ = some (.slice x3 o.B.length x4) := (cell_of_row w11 H 2 _ _ _ HB11.out).trans rfl; have hHl : H < w11.heap.size := (Array.getElem?_eq_some_iff.1 HB11.out).1; clear n11) | (go_at_call 21; (with_reducible refine (HAL.out _ ?_).mono ?_); (· exact N11.out); rintro e w9 ⟨rfl, n9⟩; have N9 := Lib.hid (N11.out.trans n9); have HB9 := Lib.hid (row_new HB11.out n9); clear c0 c1 c2 hHl; have c0 : w9.cell? ⟨H, 0, none⟩ = some (.int .i64 o.n) := (cell_of_row w9 H 0 _ _ _ HB9.out).trans rfl; have c1 : w9.cell? ⟨H, 1, none⟩ = some (.slice x1 o.A.length x2) := (cell_of_row w9 H 1 _ _ _ HB9.out).trans rfl; have c2 : w9.cell? ⟨H, 2, none⟩ = some (.slice x3 o.B.length x4) := (cell_of_row w9 H 2 _ _ _ HB9.out).trans rfl; have hHl : H < w9.heap.size := (Array.getElem?_eq_some_iff.1 HB9.out).1; clear n9))
    go_ret
    exact ⟨rfl, N12.out⟩
end Go.Proofs.YtiejefehcpfkaaaDoor
