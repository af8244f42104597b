/- The schedule that ends first, as Wait returns it. Lists of any length that memory takes. · The sample of the laws; the place of a number in a list. -/
import Derived.Test.YtiejefehcpfkaaaDoorTa

section
set_option linter.unusedSimpArgs false
set_option linter.unusedVariables false
set_option maxRecDepth 100000
namespace Go.Proofs.YtiejefehcpfkaaaDoor
open Go.RowKit Go.Shelf

attribute [local go_sem] Oper.semAt_some

theorem BestV.slO {G : Gph} {dry H : Nat} {O : Nat → Prop} {V : World} {best : Option (List Nat)} {sO sD : Value} (h : BestV G dry H O V best sO sD) : ∃ a l c, sO = .slice a l c := by
  cases best with
  | none => exact ⟨_, _, _, h.1⟩
  | some x => obtain ⟨a, c, e⟩ := own_slice h.1.1; exact ⟨_, _, _, e⟩
theorem BestV.slD {G : Gph} {dry H : Nat} {O : Nat → Prop} {V : World} {best : Option (List Nat)} {sO sD : Value} (h : BestV G dry H O V best sO sD) : ∃ a l c, sD = .slice a l c := by
  cases best with
  | none => exact ⟨_, _, _, h.2⟩
  | some x => obtain ⟨_, b, c, e, _⟩ := h; exact ⟨_, _, _, e⟩
theorem slices_one (a b : Option Addr) (l c l' c' : Nat) : (#[Value.slice a l c, Value.slice b l' c'].all (·.oneCell')) = true := by
  simp
  exact ⟨rfl, rfl⟩
theorem Mod.setRow (w : World) (g : Nat) (cs : Array Value) : Mod (fun q => q = g) w (w.setRow g cs) :=
  ⟨⟨rfl, rfl, rfl, by simp [World.setRow], fun k hk => by omega⟩, fun k hk hn => setRow_other _ _ _ _ hn⟩
/-- the error of Wait -/
def waitI (o : Prb) (av nv : Value) (d : Int) : Int := if dryI o d ≠ 0 then dryI o d else if 8 < o.n then 2 else if cirB (opG o av nv).re (opG o av nv).n then 50 else 0
set_option maxHeartbeats 8000000 in
theorem Wait_bad {w : World} {v : Value} {o : Prb} {av nv : Value} (h : PrbA w v o av nv) (d : Int) (hw : waitI o av nv d ≠ 0) :
    Calls Tryd.prog 62 #[v, .int .i64 d] w fun en w' => en = .returned (.tuple #[.agg #[.slice none 0 0, .slice none 0 0], .int .i64 (waitI o av nv d)]) ∧ New w w' := by
  have HO := Lib.hid (fun (w1 : World) (hn : New w w1) => openDry_c (h.new hn) d)
  have hOK := opR_ok h.sh
  have hv := h.eq
  obtain ⟨x1, x2, x3, x4, e1, e2⟩ := h.sh
  clear h
  obtain ⟨H, hH⟩ : ∃ H, w.heap.size = H := ⟨_, rfl⟩
  have HH := Lib.hid hH
  by_cases hc : dryI o d = 0
  · obtain ⟨hk, _, _⟩ := dryI_chk hc
    rw [opR_good hk] at hOK
    rw [hc, ofG_good hk] at HO
    have hn0 : ((opG o av nv).n : Int) = o.n := by obtain ⟨h1, _⟩ := chkI_zero hk; show ((o.n.toNat : Nat) : Int) = o.n; omega
    by_cases h8 : 8 < o.n
    · have hF : waitI o av nv d = 2 := by unfold waitI; rw [if_neg (by simpa using hc), if_pos h8]
      rw [hF]
      have h8' : ((opG o av nv).n : Int) > 8 := by omega
      have HOK := Lib.hid hOK
      clear hF hw hc hk hOK hn0 h8
      generalize opG o av nv = RG at *
      subst hv
      subst e1 e2
      go_enter Tryd.func62, Tryd.ntmps62
      go_wp2_with (first | (go_at_call 122; (with_reducible refine (HO.out _ ?_).mono ?_); (repeat (first | exact New.refl _ | apply New.alloc)); rintro e w6 ⟨rfl, n6⟩; have HN := Lib.hid ((((New.refl w).alloc _).alloc _).trans n6); have R6 := Lib.hid (two_heap HH.out n6); clear n6) | (refine wpList_store_graph rfl (.tmp 6) (.tmp 13) rfl rfl rfl HOK.out ?_; intro w7 n7 g7; obtain ⟨g, hg⟩ : ∃ g, w6.heap.size = g := ⟨_, rfl⟩; simp only [hg] at g7 ⊢; have N7 := Lib.hid (HN.out.trans n7); have G7 := Lib.hid g7; have R7 := Lib.hid (row_new R6.out n7); have cN := g7.n; clear n7 g7) | (refine wpList_store_row rfl 61 (.tmp 4) (.tmp 23) rfl (H + 1) #[_, _] rfl rfl _ #[_, _] R7.out sched_size rfl (slices_one _ _ _ _ _ _) ?_))
      refine bodyPost_ret (results_row_tmp rfl _ _ (H + 1) _ #[_, _] _ _ rfl (setRow_heap _ _ _ _ _ _ R7.out) Tryd.underlying61 rfl sched_size) rfl ?_
      exact ⟨rfl, N7.out.setRow (by rw [HH.out]; omega) _⟩
    · have hcir : cirB (opG o av nv).re (opG o av nv).n = true := by
        cases hb : cirB (opG o av nv).re (opG o av nv).n
        · exfalso; apply hw; unfold waitI; rw [if_neg (by simpa using hc), if_neg h8, hb]; rfl
        · rfl
      have hF : waitI o av nv d = 50 := by unfold waitI; rw [if_neg (by simpa using hc), if_neg h8, hcir]; rfl
      rw [hF]
      have h8' : ¬ ((opG o av nv).n : Int) > 8 := by omega
      have HOK := Lib.hid hOK
      have HCK := Lib.hid (fun w1 : World => checkOrdered_c (opG o av nv) w1 hOK)
      rw [hcir] at HCK
      clear hF hw hc hk hOK hn0 h8 hcir
      generalize opG o av nv = RG at *
      subst hv
      subst e1 e2
      go_enter Tryd.func62, Tryd.ntmps62
      go_wp2_with (first | (go_at_call 122; (with_reducible refine (HO.out _ ?_).mono ?_); (repeat (first | exact New.refl _ | apply New.alloc)); rintro e w6 ⟨rfl, n6⟩; have HN := Lib.hid ((((New.refl w).alloc _).alloc _).trans n6); have R6 := Lib.hid (two_heap HH.out n6); clear n6) | (refine wpList_store_graph rfl (.tmp 6) (.tmp 13) rfl rfl rfl HOK.out ?_; intro w7 n7 g7; obtain ⟨g, hg⟩ : ∃ g, w6.heap.size = g := ⟨_, rfl⟩; simp only [hg] at g7 ⊢; have N7 := Lib.hid (HN.out.trans n7); have G7 := Lib.hid g7; have R7 := Lib.hid (row_new R6.out n7); have cN := g7.n; clear n7 g7) | (refine wpList_get_graph rfl (.tmp 6) rfl g rfl G7.out ?_) | (go_at_call 127; refine (HCK.out _).mono ?_; rintro e w8 ⟨rfl, n8⟩; have N8 := Lib.hid (N7.out.trans n8); have G8 := Lib.hid (G7.out.new n8); have R8 := Lib.hid (row_new R7.out n8); clear n8) | (refine wpList_store_row rfl 61 (.tmp 4) (.tmp 28) rfl (H + 1) #[_, _] rfl rfl _ #[_, _] R8.out sched_size rfl (slices_one _ _ _ _ _ _) ?_))
      refine bodyPost_ret (results_row_tmp rfl _ _ (H + 1) _ #[_, _] _ _ rfl (setRow_heap _ _ _ _ _ _ R8.out) Tryd.underlying61 rfl sched_size) rfl ?_
      exact ⟨rfl, N8.out.setRow (by rw [HH.out]; omega) _⟩
  · have hF : waitI o av nv d = dryI o d := by unfold waitI; rw [if_pos hc]
    have he : (dryI o d != 0) = true := by simpa using hc
    have HOK := Lib.hid (show G0.ok from G0_ok)
    rw [hF]
    rw [ofG_bad hc] at HO
    clear hF hc hw hOK
    generalize dryI o d = E at *
    subst hv
    subst e1 e2
    go_enter Tryd.func62, Tryd.ntmps62
    go_wp2_with (first | (go_at_call 122; (with_reducible refine (HO.out _ ?_).mono ?_); (repeat (first | exact New.refl _ | apply New.alloc)); rintro e w6 ⟨rfl, n6⟩; have HN := Lib.hid ((((New.refl w).alloc _).alloc _).trans n6); have R6 := Lib.hid (two_heap HH.out n6); clear n6) | (refine wpList_store_graph rfl (.tmp 6) (.tmp 13) rfl rfl rfl HOK.out ?_; intro w7 n7 g7; obtain ⟨g, hg⟩ : ∃ g, w6.heap.size = g := ⟨_, rfl⟩; simp only [hg] at g7 ⊢; have N7 := Lib.hid (HN.out.trans n7); have G7 := Lib.hid g7; have R7 := Lib.hid (row_new R6.out n7); have cN := g7.n; clear n7 g7) | (refine wpList_store_row rfl 61 (.tmp 4) (.tmp 17) rfl (H + 1) #[_, _] rfl rfl _ #[_, _] R7.out sched_size rfl (slices_one _ _ _ _ _ _) ?_))
    refine bodyPost_ret (results_row_tmp rfl _ _ (H + 1) _ #[_, _] _ _ rfl (setRow_heap _ _ _ _ _ _ R7.out) Tryd.underlying61 rfl sched_size) rfl ?_
    exact ⟨rfl, N7.out.setRow (by rw [HH.out]; omega) _⟩
set_option maxHeartbeats 8000000 in
theorem Wait_good {w : World} {v : Value} {o : Prb} {av nv : Value} (h : PrbA w v o av nv) (hT : Tab w) (d : Nat) (hw : waitI o av nv d = 0) :
    Calls Tryd.prog 62 #[v, .int .i64 (d : Int)] w fun en w' => ∃ sO sD, en = .returned (.tuple #[.agg #[sO, sD], .int .i64 0]) ∧ New w w' ∧ BestV (opG o av nv) d w.heap.size (fun _ => False) w' (soRun (opG o av nv) d (none, 2001) (ordG (opG o av nv))).1 sO sD := by
  have HO := Lib.hid (fun (w1 : World) (hn : New w w1) => openDry_c (h.new hn) (d : Int))
  have hOK := opR_ok h.sh
  have hv := h.eq
  obtain ⟨x1, x2, x3, x4, e1, e2⟩ := h.sh
  clear h
  obtain ⟨H, hH⟩ : ∃ H, w.heap.size = H := ⟨_, rfl⟩
  have HH := Lib.hid hH
  have hc : dryI o d = 0 := by
    by_cases hc : dryI o d = 0
    · exact hc
    · unfold waitI at hw; rw [if_pos hc] at hw; exact hw
  have h8 : ¬ 8 < o.n := by
    intro h8
    unfold waitI at hw; rw [if_neg (by simpa using hc), if_pos h8] at hw; cases hw
  have hcir : cirB (opG o av nv).re (opG o av nv).n = false := by
    cases hb : cirB (opG o av nv).re (opG o av nv).n
    · rfl
    · unfold waitI at hw; rw [if_neg (by simpa using hc), if_neg h8, hb] at hw; cases hw
  obtain ⟨hk, hd0, hd1⟩ := dryI_chk hc
  rw [opR_good hk] at hOK
  rw [hc, ofG_good hk] at HO
  have hn0 : ((opG o av nv).n : Int) = o.n := by obtain ⟨h1, _⟩ := chkI_zero hk; show ((o.n.toNat : Nat) : Int) = o.n; omega
  have h8' : ¬ ((opG o av nv).n : Int) > 8 := by omega
  have HOK := Lib.hid hOK
  have HCK := Lib.hid (fun w1 : World => checkOrdered_c (opG o av nv) w1 hOK)
  rw [hcir] at HCK
  have HSO := Lib.hid (fun (w1 : World) (hn : New w w1) => soonest_c (opG o av nv) d w1 hOK (opG_low av nv hk) (by omega) (hT.new hn))
  clear hw hc hk hOK hn0 h8 hcir hT hd0 hd1
  generalize opG o av nv = RG at *
  subst hv
  subst e1 e2
  go_enter Tryd.func62, Tryd.ntmps62
  go_wp2_with (first | (go_at_call 122; (with_reducible refine (HO.out _ ?_).mono ?_); (repeat (first | exact New.refl _ | apply New.alloc)); rintro e w6 ⟨rfl, n6⟩; have HN := Lib.hid ((((New.refl w).alloc _).alloc _).trans n6); have R6 := Lib.hid (two_heap HH.out n6); clear n6) | (refine wpList_store_graph rfl (.tmp 6) (.tmp 13) rfl rfl rfl HOK.out ?_; intro w7 n7 g7; obtain ⟨g, hg⟩ : ∃ g, w6.heap.size = g := ⟨_, rfl⟩; simp only [hg] at g7 ⊢; have N7 := Lib.hid (HN.out.trans n7); have G7 := Lib.hid g7; have R7 := Lib.hid (row_new R6.out n7); have cN := g7.n; clear n7 g7) | (refine wpList_get_graph rfl (.tmp 6) rfl g rfl G8.out ?_) | (refine wpList_get_graph rfl (.tmp 6) rfl g rfl G7.out ?_) | (go_at_call 127; refine (HCK.out _).mono ?_; rintro e w8 ⟨rfl, n8⟩; have N8 := Lib.hid (N7.out.trans n8); have G8 := Lib.hid (G7.out.new n8); have R8 := Lib.hid (row_new R7.out n8); clear n8) | (go_at_call 128; (with_reducible refine (HSO.out _ ?_).mono ?_); (· exact N8.out); rintro e w9 ⟨sO, sD, rfl, n9, b9⟩; have N9 := Lib.hid (N8.out.trans n9); have R9 := Lib.hid (row_new R8.out n9); have B9 := Lib.hid b9; obtain ⟨aO, lO, pO, rfl⟩ := b9.slO; obtain ⟨aD, lD, pD, rfl⟩ := b9.slD; have Z8 := Lib.hid (N8.out.size); clear n9 b9) | (refine wpList_store_row rfl 61 (.tmp 4) (.tmp 32) rfl (H + 1) #[_, _] rfl rfl _ #[_, _] R9.out sched_size rfl (slices_one _ _ _ _ _ _) ?_))
  refine bodyPost_ret (results_row_tmp rfl _ _ (H + 1) _ #[_, _] _ _ rfl (setRow_heap _ _ _ _ _ _ R9.out) Tryd.underlying61 rfl sched_size) rfl ?_
  have hz := Z8.out
  have hh := HH.out
  have hl := (Array.getElem?_eq_some_iff.1 R8.out).1
  refine ⟨_, _, rfl, N9.out.setRow (by rw [HH.out]; omega) _, ?_⟩
  exact ((B9.out.more (O' := fun q => q = H + 1) (Nat.le_refl _) (fun q hq => .inr (by omega))).stable (Mod.setRow _ _ _) (O' := fun _ => False) (fun q hq => hq.elim)).more (by omega) (fun q hq => hq.elim)
end Go.Proofs.YtiejefehcpfkaaaDoor
end

section
set_option linter.unusedSimpArgs false
set_option linter.unusedVariables false
set_option maxRecDepth 100000
namespace Go.Proofs.YtiejefehcpfkaaaDoor
open Go.RowKit Go.Shelf

attribute [local go_sem] Oper.semAt_some

def samP : Prb := ⟨4, [(0, 1), (0, 2), (1, 3)], [(0, 1), (1, 2), (2, 3)]⟩
theorem ord_size : (Tryd.prog.info? 24).map (·.size) = some 3 := by kernel_rfl
set_option maxHeartbeats 8000000 in
theorem sample_c (w : World) : Calls Tryd.prog 67 #[] w fun en w' => ∃ v av nv, en = .returned v ∧ New w w' ∧ PrbA w' v samP av nv := by
  obtain ⟨H, hH⟩ : ∃ H, w.heap.size = H := ⟨_, rfl⟩
  go_enter Tryd.func67, Tryd.ntmps67
  go_wp2_with fail
  obtain ⟨WS, HWS⟩ : ∃ WS : World, WS = (((w.alloc (.cells #[.int .i64 4, .slice (some ⟨H + 1, 0, none⟩) 3 3, .slice (some ⟨H + 1 + 1, 0, none⟩) 3 3] 24)).alloc (.cells #[.int .i64 0, .int .i64 1, .int .i64 0, .int .i64 2, .int .i64 1, .int .i64 3] 67)).alloc (.cells #[.int .i64 0, .int .i64 1, .int .i64 1, .int .i64 2, .int .i64 2, .int .i64 3] 67)) := ⟨_, rfl⟩
  rw [← HWS]
  obtain ⟨q1, q2⟩ := alloc3_heap2 w (.cells #[.int .i64 4, .slice (some ⟨H + 1, 0, none⟩) 3 3, .slice (some ⟨H + 1 + 1, 0, none⟩) 3 3] 24) (.cells #[.int .i64 0, .int .i64 1, .int .i64 0, .int .i64 2, .int .i64 1, .int .i64 3] 67)
  have hn : New ((w.alloc (.cells #[.int .i64 4, .slice (some ⟨H + 1, 0, none⟩) 3 3, .slice (some ⟨H + 1 + 1, 0, none⟩) 3 3] 24)).alloc (.cells #[.int .i64 0, .int .i64 1, .int .i64 0, .int .i64 2, .int .i64 1, .int .i64 3] 67)) WS := by rw [HWS]; exact (New.refl _).alloc _
  have q1 := row_new q1 hn
  have q2 := row_new q2 hn
  have q3 : WS.heap[H + 2]? = some (.cells #[.int .i64 0, .int .i64 1, .int .i64 1, .int .i64 2, .int .i64 2, .int .i64 3] 67 (0, 0)) := by
    have := World.alloc_heap_new ((w.alloc (.cells #[.int .i64 4, .slice (some ⟨H + 1, 0, none⟩) 3 3, .slice (some ⟨H + 1 + 1, 0, none⟩) 3 3] 24)).alloc (.cells #[.int .i64 0, .int .i64 1, .int .i64 0, .int .i64 2, .int .i64 1, .int .i64 3] 67)) (.cells #[.int .i64 0, .int .i64 1, .int .i64 1, .int .i64 2, .int .i64 2, .int .i64 3] 67)
    rw [← HWS, World.size_alloc, World.size_alloc, hH] at this; exact this
  rw [hH] at q1 q2
  have hnw : New w WS := by rw [HWS]; exact (((New.refl _).alloc _).alloc _).alloc _
  clear HWS hn
  refine bodyPost_ret (results_cell_row rfl _ _ H _ #[_, _, _] _ _ rfl q1 Tryd.underlying24 rfl ord_size) rfl ?_
  refine ⟨_, .slice (some ⟨H + 1, 0, none⟩) 3 3, .slice (some ⟨H + 1 + 1, 0, none⟩) 3 3, rfl, hnw, ⟨⟨_, _, _, _, rfl, fun _ => ⟨H + 1, 0, rfl, (Array.getElem?_eq_some_iff.1 q2).1, fun i hi => ?_⟩, fun _ => ⟨H + 1 + 1, 0, rfl, (Array.getElem?_eq_some_iff.1 q3).1, fun i hi => ?_⟩⟩, by decide, by decide⟩, ⟨_, _, _, _, rfl, rfl⟩, rfl⟩
  · have hi' : i = 0 ∨ i = 1 ∨ i = 2 := by have : i < 3 := hi; omega
    rcases hi' with rfl | rfl | rfl <;> exact ⟨(cell_of_row _ _ _ _ _ _ q2).trans rfl, (cell_of_row _ _ _ _ _ _ q2).trans rfl⟩
  · have hi' : i = 0 ∨ i = 1 ∨ i = 2 := by have : i < 3 := hi; omega
    rcases hi' with rfl | rfl | rfl <;> exact ⟨(cell_of_row _ _ _ _ _ _ q3).trans rfl, (cell_of_row _ _ _ _ _ _ q3).trans rfl⟩

/-- the first place from k on, of f places, at which l has x -/
def idxG (l : List Int) (x : Int) : Nat → Nat → Int
  | 0, _ => -1
  | f + 1, k => if nI l k = x then k else idxG l x f (k + 1)
def idxF (l : List Int) (x : Int) : Int := idxG l x l.length 0
set_option maxHeartbeats 8000000 in
theorem index_c {w : World} (av : Option Addr) (cap : Nat) (l : List Int) (x : Int) (hl : l.length ≤ 17592186044415) (hP : Ins w av l) :
    Calls Tryd.prog 126 #[.slice av l.length cap, .int .i64 x] w fun en w' => en = .returned (.int .i64 (idxF l x)) ∧ New w w' := by
  have HP := Lib.hid hP
  have H0 := Lib.hid (show idxG l x (l.length - 0) 0 = idxF l x from rfl)
  have HS := Lib.hid (show ∀ f k, idxG l x (f + 1) k = if nI l k = x then (k : Int) else idxG l x f (k + 1) from fun _ _ => rfl)
  have HZ := Lib.hid (show ∀ k, idxG l x 0 k = -1 from fun _ => rfl)
  clear hP
  generalize idxF l x = R at *
  generalize idxG l x = ig at *
  generalize hN : l.length = N at *
  have HN := Lib.hid hN
  clear hN
  go_enter Tryd.func126, Tryd.ntmps126
  go_wp2_with fail
  go_loopw [8] (fun i wr => ∃ k : Nat, k ≤ N ∧ i = .int .i64 k ∧ New w wr ∧ ig (N - k) k = R) (fun i _ => N - (intOf i).toNat)
  case atStart => exact ⟨0, Nat.zero_le _, rfl, New.refl _, H0.out⟩
  case round =>
    obtain ⟨k, hk, rfl, hnew, hig⟩ := hrel
    have HNEW := Lib.hid hnew
    have HIG := Lib.hid hig
    clear hnew hig
    by_cases hlt : k < N
    · obtain ⟨b, off, rfl, gl, hcc⟩ := HP.out.new HNEW.out (by rw [HN.out]; omega)
      have c1 := hcc k (by rw [HN.out]; omega)
      have hk1 : (k : Int) < (N : Int) := by omega
      have HST := Lib.hid (show (if nI l k = x then (k : Int) else ig (N - (k + 1)) (k + 1)) = R from by
        have := HIG.out
        rw [show N - k = (N - (k + 1)) + 1 by omega, HS.out] at this; exact this)
      clear hcc
      generalize nI l k = y at *
      by_cases he : y = x
      · rw [if_pos he] at HST
        have hxy : (x == y) = true := by simpa using he.symm
        clear he
        go_wp2_with fail
        go_ret
        exact ⟨by rw [← HST.out]; rfl, HNEW.out⟩
      · rw [if_neg he] at HST
        have hxy : (x == y) = false := by simpa using fun h => he h.symm
        clear he
        go_wp2_with fail
        go_roundw
        case rel => exact ⟨k + 1, by omega, by go_num, HNEW.out, HST.out⟩
        case measure => simp [intOf]; omega
    · obtain rfl : k = N := by omega
      have hk1 : ¬ (k : Int) < (k : Int) := by omega
      have HR := Lib.hid (show R = -1 from by have := HIG.out; rw [Nat.sub_self, HZ.out] at this; exact this.symm)
      go_wp2_with fail
      go_ret
      exact ⟨by rw [HR.out]; rfl, HNEW.out⟩
end Go.Proofs.YtiejefehcpfkaaaDoor
end
