/- The reference's Standing: both sides' Standings say the same. Any problem that memory takes. -/
import Derived.Test.YtiejefehcpfkaaaDoorUi
set_option linter.unusedSimpArgs false
set_option linter.unusedVariables false
set_option maxRecDepth 100000
namespace Go.Proofs.YtiejefehcpfkaaaDoor
open Go.RowKit Go.Shelf

attribute [local go_sem] Oper.semAt_some

set_option maxHeartbeats 8000000 in
theorem rstanding_c {w : World} {v : Value} {o : Prb} {av nv : Value} (h : PrbA w v o av nv) (a b : Int) : Calls Tryd.prog 25 #[v, .int .i64 a, .int .i64 b] w fun en w' => en = .returned (.int .u8 (stI o av nv a b)) ∧ New w w' := by
  have HC := Lib.hid (fun (w1 : World) (hn : New w w1) => rcheck_c v o w1 (h.pv.new hn))
  rw [rchk_eq] at HC
  have hR : stI o av nv a b = if chkI o ≠ 0 then 0 else if !(decide (0 ≤ a) && decide (a < o.n)) || !(decide (0 ≤ b) && decide (b < o.n)) || decide (a = b) then 0
    else st4 (((opG o av nv).re a.toNat).testBit b.toNat) (((opG o av nv).re b.toNat).testBit a.toNat) := rfl
  have HCH := Lib.hid (fun (hc : chkI o = 0) (w1 : World) (hn : New w w1) => rchained_c (h.pv.new hn) hc)
  have hv := h.eq
  obtain ⟨x1, x2, x3, x4, e1, e2⟩ := h.sh
  rw [e1, e2] at hv
  subst hv
  clear h
  obtain ⟨H, hH⟩ : ∃ H, w.heap.size = H := ⟨_, rfl⟩
  have HB := Lib.hid (show (w.alloc (.cells #[.int .i64 o.n, .slice x1 o.A.length x2, .slice x3 o.B.length x4] 24)).heap[H]? = some (.cells #[.int .i64 o.n, .slice x1 o.A.length x2, .slice x3 o.B.length x4] 24 (0, 0)) from by rw [← hH]; exact World.alloc_heap_new w _)
  by_cases hc : chkI o = 0
  · have hn := (chkI_zero hc).1
    rw [if_neg (by simpa using hc)] at hR
    have hre : ∀ p, (opG o av nv).re p = chM (afF o.A o.A.length) o.n.toNat o.n.toNat p := fun _ => rfl
    rw [hre, hre] at hR
    clear hre
    have HCH := Lib.hid (HCH.out hc)
    rw [hc] at HC
    generalize stI o av nv a b = R at *
    clear hc e1 e2
    obtain ⟨n, hN⟩ : ∃ n, o.n.toNat = n := ⟨_, rfl⟩
    have hoN : o.n = (n : Int) := by omega
    rw [hN] at HCH hR
    rw [hoN] at HC HCH HB hR ⊢
    clear hn hN hoN
    have HR := Lib.hid hR
    clear hR
    have BADR : ((!(decide (0 ≤ a) && decide (a < (n : Int))) || !(decide (0 ≤ b) && decide (b < (n : Int))) || decide (a = b)) = true) → (0 : Int) = R := fun e => by rw [HR.out, if_pos e]
    by_cases u1 : a < 0
    · have HF := Lib.hid (BADR (by rw [decide_eq_false (show ¬ 0 ≤ a by omega)]; rfl))
      clear BADR HR
      go_enter Tryd.func25, Tryd.ntmps25
      go_wp2_with (go_at_call 24; (with_reducible refine (HC.out _ ?_).mono ?_); (· exact (New.refl w).alloc _); rintro e w6 ⟨rfl, n6⟩; have N6 := Lib.hid (((New.refl w).alloc _).trans n6); have HB6 := Lib.hid (row_new HB.out n6); have c0 := (cell_of_row w6 H 0 _ _ _ HB6.out).trans rfl; have c1 := (cell_of_row w6 H 1 _ _ _ HB6.out).trans rfl; have c2 := (cell_of_row w6 H 2 _ _ _ HB6.out).trans rfl; clear n6)
      go_ret
      exact ⟨by rw [← HF.out]; rfl, N6.out⟩
    · by_cases u2 : a ≥ (n : Int)
      · have HF := Lib.hid (BADR (by rw [decide_eq_false (show ¬ a < (n : Int) by omega)]; simp))
        clear BADR HR
        go_enter Tryd.func25, Tryd.ntmps25
        go_wp2_with (go_at_call 24; (with_reducible refine (HC.out _ ?_).mono ?_); (· exact (New.refl w).alloc _); rintro e w6 ⟨rfl, n6⟩; have N6 := Lib.hid (((New.refl w).alloc _).trans n6); have HB6 := Lib.hid (row_new HB.out n6); have c0 := (cell_of_row w6 H 0 _ _ _ HB6.out).trans rfl; have c1 := (cell_of_row w6 H 1 _ _ _ HB6.out).trans rfl; have c2 := (cell_of_row w6 H 2 _ _ _ HB6.out).trans rfl; clear n6)
        go_ret
        exact ⟨by rw [← HF.out]; rfl, N6.out⟩
      · by_cases u3 : b < 0
        · have HF := Lib.hid (BADR (by rw [decide_eq_false (show ¬ 0 ≤ b by omega)]; simp))
          clear BADR HR
          go_enter Tryd.func25, Tryd.ntmps25
          go_wp2_with (go_at_call 24; (with_reducible refine (HC.out _ ?_).mono ?_); (· exact (New.refl w).alloc _); rintro e w6 ⟨rfl, n6⟩; have N6 := Lib.hid (((New.refl w).alloc _).trans n6); have HB6 := Lib.hid (row_new HB.out n6); have c0 := (cell_of_row w6 H 0 _ _ _ HB6.out).trans rfl; have c1 := (cell_of_row w6 H 1 _ _ _ HB6.out).trans rfl; have c2 := (cell_of_row w6 H 2 _ _ _ HB6.out).trans rfl; clear n6)
          go_ret
          exact ⟨by rw [← HF.out]; rfl, N6.out⟩
        · by_cases u4 : b ≥ (n : Int)
          · have HF := Lib.hid (BADR (by rw [decide_eq_false (show ¬ b < (n : Int) by omega)]; simp))
            clear BADR HR
            go_enter Tryd.func25, Tryd.ntmps25
            go_wp2_with (go_at_call 24; (with_reducible refine (HC.out _ ?_).mono ?_); (· exact (New.refl w).alloc _); rintro e w6 ⟨rfl, n6⟩; have N6 := Lib.hid (((New.refl w).alloc _).trans n6); have HB6 := Lib.hid (row_new HB.out n6); have c0 := (cell_of_row w6 H 0 _ _ _ HB6.out).trans rfl; have c1 := (cell_of_row w6 H 1 _ _ _ HB6.out).trans rfl; have c2 := (cell_of_row w6 H 2 _ _ _ HB6.out).trans rfl; clear n6)
            go_ret
            exact ⟨by rw [← HF.out]; rfl, N6.out⟩
          · by_cases u5 : a = b
            · have HF := Lib.hid (BADR (by rw [decide_eq_true u5]; simp))
              have u5' : (a == b) = true := by simpa using u5
              clear u5
              clear BADR HR
              go_enter Tryd.func25, Tryd.ntmps25
              go_wp2_with (go_at_call 24; (with_reducible refine (HC.out _ ?_).mono ?_); (· exact (New.refl w).alloc _); rintro e w6 ⟨rfl, n6⟩; have N6 := Lib.hid (((New.refl w).alloc _).trans n6); have HB6 := Lib.hid (row_new HB.out n6); have c0 := (cell_of_row w6 H 0 _ _ _ HB6.out).trans rfl; have c1 := (cell_of_row w6 H 1 _ _ _ HB6.out).trans rfl; have c2 := (cell_of_row w6 H 2 _ _ _ HB6.out).trans rfl; clear n6)
              go_ret
              exact ⟨by rw [← HF.out]; rfl, N6.out⟩
            · have u5' : (a == b) = false := by simpa using u5
              have HR2 := Lib.hid (show R = st4 ((chM (afF o.A o.A.length) n n a.toNat).testBit b.toNat) ((chM (afF o.A o.A.length) n n b.toNat).testBit a.toNat) from by
                rw [HR.out, if_neg]
                rw [decide_eq_true (show 0 ≤ a by omega), decide_eq_true (show a < (n : Int) by omega), decide_eq_true (show 0 ≤ b by omega), decide_eq_true (show b < (n : Int) by omega), decide_eq_false u5]
                simp)
              clear HR BADR u5
              obtain ⟨A, rfl⟩ : ∃ A : Nat, a = A := ⟨a.toNat, by omega⟩
              obtain ⟨B, rfl⟩ : ∃ B : Nat, b = B := ⟨b.toNat, by omega⟩
              simp only [Int.toNat_natCast] at HR2
              have hA : A < n := by omega
              have hB : B < n := by omega
              have hA' : (A : Int) < (n : Int) := by omega
              have hB' : (B : Int) < (n : Int) := by omega
              rw [chain_eq o.A o.A.length n hA hB, chain_eq o.A o.A.length n hB hA] at HR2
              obtain ⟨X, hX⟩ : ∃ X, wsN n (rA o.A o.A.length) n A B = X := ⟨_, rfl⟩
              obtain ⟨Y, hY⟩ : ∃ Y, wsN n (rA o.A o.A.length) n B A = Y := ⟨_, rfl⟩
              rw [hX, hY] at HR2
              have HX := Lib.hid hX
              have HY := Lib.hid hY
              clear hX hY
              go_enter Tryd.func25, Tryd.ntmps25
              go_upto_region 4 with (first | (go_at_call 24; (with_reducible refine (HC.out _ ?_).mono ?_); (· exact (New.refl w).alloc _); rintro e w6 ⟨rfl, n6⟩; have N6 := Lib.hid (((New.refl w).alloc _).trans n6); have HB6 := Lib.hid (row_new HB.out n6); have c0 := (cell_of_row w6 H 0 _ _ _ HB6.out).trans rfl; have c1 := (cell_of_row w6 H 1 _ _ _ HB6.out).trans rfl; have c2 := (cell_of_row w6 H 2 _ _ _ HB6.out).trans rfl; clear n6) | (go_at_call 75; (with_reducible refine (HCH.out _ ?_).mono ?_); (· exact N6.out); rintro e w7 ⟨tb, rb, rfl, hM⟩; have HM := Lib.hid hM; have k1 := HM.out.row (a := A) hA hA; have k2 := HM.out.row (a := B) hB hB; have k3 := (HM.out.bit (a := A) (b := B) hA hB).1; have k4 := (HM.out.bit (a := B) (b := A) hB hA).1; rw [HX.out] at k3; rw [HY.out] at k4; clear hM))
              cases X <;> cases Y
              all_goals
                go_wp2_with fail
                go_ret
                exact ⟨by rw [HR2.out]; rfl, N6.out.trans HM.out.nw⟩
  · have he : (chkI o != 0) = true := by simpa using hc
    rw [if_pos (by simpa using hc)] at hR
    have HF := Lib.hid (show (0 : Int) = stI o av nv a b from hR.symm)
    clear hR hc HCH
    generalize stI o av nv a b = R at *
    generalize chkI o = E at *
    go_enter Tryd.func25, Tryd.ntmps25
    go_wp2_with (go_at_call 24; (with_reducible refine (HC.out _ ?_).mono ?_); (· exact (New.refl w).alloc _); rintro e w6 ⟨rfl, n6⟩; have N6 := Lib.hid (((New.refl w).alloc _).trans n6); have HB6 := Lib.hid (row_new HB.out n6); have c0 := (cell_of_row w6 H 0 _ _ _ HB6.out).trans rfl; have c1 := (cell_of_row w6 H 1 _ _ _ HB6.out).trans rfl; have c2 := (cell_of_row w6 H 2 _ _ _ HB6.out).trans rfl; clear n6)
    go_ret
    exact ⟨by rw [← HF.out]; rfl, N6.out⟩
end Go.Proofs.YtiejefehcpfkaaaDoor
