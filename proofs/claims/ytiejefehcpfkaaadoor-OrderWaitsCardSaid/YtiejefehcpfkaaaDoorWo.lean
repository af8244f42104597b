/- Wait of the reference, at any problem and number. -/
import Derived.Test.YtiejefehcpfkaaaDoorWn
set_option linter.unusedSimpArgs false
set_option linter.unusedVariables false
set_option maxRecDepth 100000
namespace Go.Proofs.YtiejefehcpfkaaaDoor
open Go.RowKit Go.Shelf

attribute [local go_sem] Oper.semAt_some

theorem two_one {w : World} {A B : Obj} {H : Nat} (hH : w.heap.size = H) : ((w.alloc A).alloc B).heap[H]? = some A := by
  rw [← hH]; exact row_new (World.alloc_heap_new w A) ((New.refl _).alloc B)
set_option maxHeartbeats 8000000 in
theorem rWait_bad {w : World} {v : Value} {o : Prb} {av nv : Value} (h : PrbA w v o av nv) (d : Int) (hw : waitI o av nv d ≠ 0) :
    Calls Tryd.prog 63 #[v, .int .i64 d] w fun en w' => en = .returned (.tuple #[.agg #[.slice none 0 0, .slice none 0 0], .int .i64 (waitI o av nv d)]) ∧ New w w' := by
  have HCK := Lib.hid (fun (w1 : World) (hn : New w w1) => rcheck_c v o w1 (h.pv.new hn))
  rw [rchk_eq] at HCK
  have HCI := Lib.hid (fun (hc : chkI o = 0) (w1 : World) (hn : New w w1) => rcircular_c (h.new hn) hc)
  obtain ⟨⟨⟨a1, ac, n1, nc, rfl, h1, h2⟩, h3, h4⟩, h5, h6⟩ := h
  clear h1 h2 h3 h4 h5 h6
  obtain ⟨H, hH⟩ : ∃ H, w.heap.size = H := ⟨_, rfl⟩
  have HH := Lib.hid hH
  by_cases hk : chkI o = 0
  · rw [hk] at HCK
    by_cases hd : d < 0 ∨ 30 < d
    · have hF : waitI o av nv d = 1 := by unfold waitI dryI; rw [if_neg (show ¬ chkI o ≠ 0 by simpa using hk), if_pos hd, if_pos (by simp)]
      rw [hF]
      clear HCI hk hF hw
      generalize o.A.length = LA at *
      generalize o.B.length = LB at *
      by_cases hd0 : d < 0
      · clear hd
        go_enter Tryd.func63, Tryd.ntmps63
        go_wp2_with (first | (go_at_call 24; (with_reducible refine (HCK.out _ ?_).mono ?_); (· exact ((New.refl w).alloc _).alloc _); rintro e w6 ⟨rfl, n6⟩; have N6 := Lib.hid ((((New.refl w).alloc _).alloc _).trans n6); have R6 := Lib.hid (two_heap HH.out n6); have HB6 := Lib.hid (row_new (two_one HH.out) n6); obtain ⟨c0, c1, c2, hHl⟩ := box3w HB6.out; clear n6) | (refine wpList_store_row rfl 61 (.tmp 4) (.tmp 24) rfl (H + 1) #[_, _] rfl rfl _ #[_, _] R6.out sched_size rfl (slices_one _ _ _ _ _ _) ?_))
        refine bodyPost_ret (results_row_tmp rfl _ _ (H + 1) _ #[_, _] _ _ rfl (setRow_heap _ _ _ _ _ _ R6.out) Tryd.underlying61 rfl sched_size) rfl ?_
        exact ⟨rfl, N6.out.setRow (by rw [HH.out]; omega) _⟩
      · have hd30 : d > 30 := by omega
        clear hd
        go_enter Tryd.func63, Tryd.ntmps63
        go_wp2_with (first | (go_at_call 24; (with_reducible refine (HCK.out _ ?_).mono ?_); (· exact ((New.refl w).alloc _).alloc _); rintro e w6 ⟨rfl, n6⟩; have N6 := Lib.hid ((((New.refl w).alloc _).alloc _).trans n6); have R6 := Lib.hid (two_heap HH.out n6); have HB6 := Lib.hid (row_new (two_one HH.out) n6); obtain ⟨c0, c1, c2, hHl⟩ := box3w HB6.out; clear n6) | (refine wpList_store_row rfl 61 (.tmp 4) (.tmp 24) rfl (H + 1) #[_, _] rfl rfl _ #[_, _] R6.out sched_size rfl (slices_one _ _ _ _ _ _) ?_))
        refine bodyPost_ret (results_row_tmp rfl _ _ (H + 1) _ #[_, _] _ _ rfl (setRow_heap _ _ _ _ _ _ R6.out) Tryd.underlying61 rfl sched_size) rfl ?_
        exact ⟨rfl, N6.out.setRow (by rw [HH.out]; omega) _⟩
    · have hdI : dryI o d = 0 := by unfold dryI; rw [if_neg (by simpa using hk), if_neg hd]
      have hd0 : ¬ d < 0 := by omega
      have hd1 : ¬ d > 30 := by omega
      by_cases h8 : 8 < o.n
      · have hF : waitI o av nv d = 2 := by unfold waitI; rw [if_neg (by simpa using hdI), if_pos h8]
        rw [hF]
        have h8' : o.n > 8 := h8
        clear HCI hk hF hw hd hdI h8
        generalize o.A.length = LA at *
        generalize o.B.length = LB at *
        go_enter Tryd.func63, Tryd.ntmps63
        go_wp2_with (first | (go_at_call 24; (with_reducible refine (HCK.out _ ?_).mono ?_); (· exact ((New.refl w).alloc _).alloc _); rintro e w6 ⟨rfl, n6⟩; have N6 := Lib.hid ((((New.refl w).alloc _).alloc _).trans n6); have R6 := Lib.hid (two_heap HH.out n6); have HB6 := Lib.hid (row_new (two_one HH.out) n6); obtain ⟨c0, c1, c2, hHl⟩ := box3w HB6.out; clear n6) | (refine wpList_store_row rfl 61 (.tmp 4) (.tmp 28) rfl (H + 1) #[_, _] rfl rfl _ #[_, _] R6.out sched_size rfl (slices_one _ _ _ _ _ _) ?_))
        refine bodyPost_ret (results_row_tmp rfl _ _ (H + 1) _ #[_, _] _ _ rfl (setRow_heap _ _ _ _ _ _ R6.out) Tryd.underlying61 rfl sched_size) rfl ?_
        exact ⟨rfl, N6.out.setRow (by rw [HH.out]; omega) _⟩
      · have hcir : cirB (opG o av nv).re (opG o av nv).n = true := by
          cases hb : cirB (opG o av nv).re (opG o av nv).n
          · exfalso; apply hw; unfold waitI; rw [if_neg (by simpa using hdI), if_neg h8, hb]; rfl
          · rfl
        have hF : waitI o av nv d = 50 := by unfold waitI; rw [if_neg (by simpa using hdI), if_neg h8, hcir]; rfl
        rw [hF]
        have h8' : ¬ o.n > 8 := h8
        have HCJ := Lib.hid (HCI.out hk)
        rw [hcir] at HCJ
        clear HCI hk hF hw hd hdI h8 hcir
        generalize o.A.length = LA at *
        generalize o.B.length = LB at *
        go_enter Tryd.func63, Tryd.ntmps63
        go_wp2_with (first | (go_at_call 24; (with_reducible refine (HCK.out _ ?_).mono ?_); (· exact ((New.refl w).alloc _).alloc _); rintro e w6 ⟨rfl, n6⟩; have N6 := Lib.hid ((((New.refl w).alloc _).alloc _).trans n6); have R6 := Lib.hid (two_heap HH.out n6); have HB6 := Lib.hid (row_new (two_one HH.out) n6); obtain ⟨c0, c1, c2, hHl⟩ := box3w HB6.out; clear n6) | (go_at_call 95; (with_reducible refine (HCJ.out _ ?_).mono ?_); (· exact N6.out); rintro e w7 ⟨rfl, n7⟩; have N7 := Lib.hid (N6.out.trans n7); have R7 := Lib.hid (row_new R6.out n7); clear n7) | (refine wpList_store_row rfl 61 (.tmp 4) (.tmp 32) rfl (H + 1) #[_, _] rfl rfl _ #[_, _] R7.out sched_size rfl (slices_one _ _ _ _ _ _) ?_))
        refine bodyPost_ret (results_row_tmp rfl _ _ (H + 1) _ #[_, _] _ _ rfl (setRow_heap _ _ _ _ _ _ R7.out) Tryd.underlying61 rfl sched_size) rfl ?_
        exact ⟨rfl, N7.out.setRow (by rw [HH.out]; omega) _⟩
  · have hF : waitI o av nv d = chkI o := by unfold waitI dryI; rw [if_pos hk, if_pos hk]
    have he : (chkI o != 0) = true := by simpa using hk
    rw [hF]
    clear HCI hk hF hw
    generalize chkI o = E at *
    generalize o.A.length = LA at *
    generalize o.B.length = LB at *
    go_enter Tryd.func63, Tryd.ntmps63
    go_wp2_with (first | (go_at_call 24; (with_reducible refine (HCK.out _ ?_).mono ?_); (· exact ((New.refl w).alloc _).alloc _); rintro e w6 ⟨rfl, n6⟩; have N6 := Lib.hid ((((New.refl w).alloc _).alloc _).trans n6); have R6 := Lib.hid (two_heap HH.out n6); have HB6 := Lib.hid (row_new (two_one HH.out) n6); obtain ⟨c0, c1, c2, hHl⟩ := box3w HB6.out; clear n6) | (refine wpList_store_row rfl 61 (.tmp 4) (.tmp 16) rfl (H + 1) #[_, _] rfl rfl _ #[_, _] R6.out sched_size rfl (slices_one _ _ _ _ _ _) ?_))
    refine bodyPost_ret (results_row_tmp rfl _ _ (H + 1) _ #[_, _] _ _ rfl (setRow_heap _ _ _ _ _ _ R6.out) Tryd.underlying61 rfl sched_size) rfl ?_
    exact ⟨rfl, N6.out.setRow (by rw [HH.out]; omega) _⟩
end Go.Proofs.YtiejefehcpfkaaaDoor
