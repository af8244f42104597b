/- Counter, and how many orders a problem has, as Count returns it. Problems of at most 12 patches. -/
import Derived.Test.YtiejefehcpfkaaaDoorTx
set_option linter.unusedSimpArgs false
set_option linter.unusedVariables false
set_option maxRecDepth 100000
namespace Go.Proofs.YtiejefehcpfkaaaDoor
open Go.RowKit Go.Shelf Go.Maps

attribute [local go_sem] Oper.semAt_some

/-- v is a counter of G -/
def IsCnt (base : Nat) (G : Gph) (v : Value) (W : World) : Prop := ∃ (c : CB) (D : DataW Unit) (n : Nat), v = c.fv ∧ c.ok ∧ c.G = G ∧ CSt c D n W ∧ base ≤ c.mb ∧ base ≤ c.gb ∧ base ≤ c.cb ∧ base ≤ c.M
set_option maxHeartbeats 8000000 in
theorem counter_c (G : Gph) (w : World) (hG : G.ok) (hT : Tab w) : Calls Tryd.prog 97 #[.agg G.cells.toArray] w fun e w' => ∃ v, e = .returned v ∧ New w w' ∧ IsCnt w.heap.size G v w' := by
  obtain ⟨H, hH⟩ : ∃ H, w.heap.size = H := ⟨_, rfl⟩
  have hmm := @run_makeMap Tryd.prog
  have HG := Lib.hid hG
  have HT := Lib.hid hT
  have HH := Lib.hid hH
  have HOW := Lib.hid (World.ownsMap_made (H := Unit) (w.alloc (.cells G.cells.toArray 83)) Tryd.prog 79 (plainElem Tryd.prog 3))
  have HSZ := Lib.hid (show (w.alloc (.cells G.cells.toArray 83)).heap.size = H + 1 from by rw [← hH]; simp)
  rw [HSZ.out] at HOW
  have HK := Lib.hid (sL_key (s := 0) (by omega))
  clear hG hT
  go_enter Tryd.func97, Tryd.ntmps97
  go_wp2_with (refine wpList_insert_own _ rfl _ _ _ 142 rfl 79 3 keyed_set Tryd.underlying142 _ (H + 1) 0 (.map []) rfl HOW.out (by decide) _ _ _ rfl rfl HK.out _ [] (plainElem_int Tryd.underlying3 (by decide)) ?_; intro w1 hown1 hgrow1)
  have HM1 := Lib.hid (show Mod (fun q => q = H + 1) ((w.alloc (.cells G.cells.toArray 83)).alloc (.map #[] 0)) w1 from Mod.grown hgrow1 (fun q hq => by simpa using hq.symm))
  have HO1 := Lib.hid hown1
  clear hgrow1 hown1
  go_ret
  have hsz1 : H + 2 ≤ w1.heap.size := by have := HM1.out.size; simp [HSZ.out] at this; have h := HSZ.out; simp at h; omega
  obtain ⟨q1, q2⟩ := alloc3_heap2 w1 (.cells #[.map (some (H + 1))] 142) (.cells #[.func (.func 142) #[] #[.pointer (some ⟨w1.heap.size, 0, none⟩), .pointer (some ⟨H, 0, none⟩), .pointer (some ⟨w1.heap.size + 1, 0, none⟩)]] 111)
  have hn1 : New w w1 := Mod.new (((New.refl w).alloc _).alloc _) HM1.out (fun k hk => by rw [HH.out]; omega)
  have hn2 := ((New.refl w1).alloc (.cells #[.map (some (H + 1))] 142)).alloc (.cells #[.func (.func 142) #[] #[.pointer (some ⟨w1.heap.size, 0, none⟩), .pointer (some ⟨H, 0, none⟩), .pointer (some ⟨w1.heap.size + 1, 0, none⟩)]] 111)
  have hg1 : Gr w1 H G := (HM1.out.2 H (by simp; have := HH.out; omega) (by omega)).trans (by
    have := (Gr.box w G).new ((New.refl _).alloc (.map #[] 0))
    rw [HH.out] at this; exact this)
  have hTB : 0 < H := by have := HT.out.1; rw [HH.out] at this; exact this
  refine ⟨_, rfl, hn1.trans hn2, ⟨w1.heap.size, H, w1.heap.size + 1, H + 1, G⟩, _, 1, rfl, ⟨HG.out, by dsimp only; omega, by dsimp only; omega⟩, rfl, ⟨q1, hg1.new hn2, q2, ownsMap_mod HO1.out (Mod.of_new (O := fun _ => False) hn2) id, kn_first _, HT.out.new (hn1.trans hn2)⟩, ?_, ?_, ?_, ?_⟩
  all_goals (dsimp only; have := HH.out; omega)

theorem IsCnt.new {base : Nat} {G : Gph} {v : Value} {W W' : World} (h : IsCnt base G v W) (hn : New W W') : IsCnt base G v W' := by
  obtain ⟨c, D, n, a1, a2, a3, a4, a5⟩ := h
  exact ⟨c, D, n, a1, a2, a3, a4.new hn, a5⟩
/-- how many orders a graph has -/
def cntG (G : Gph) : Nat := cnS G.be (fst G.n)
theorem fewI_zero {o : Prb} (h : fewI o = 0) : chkI o = 0 ∧ o.n ≤ 12 := by
  unfold fewI at h
  split at h
  · rename_i hc; exact absurd h hc
  · rename_i hc
    split at h
    · cases h
    · exact ⟨by simpa using hc, by omega⟩
theorem few_bits {o : Prb} {av nv : Value} (h : fewI o = 0) (hok : (opG o av nv).ok) : (bitsOf (fst (opG o av nv).n)).length ≤ 12 := by
  rw [bits_fst hok.n24, List.length_range]
  have := (fewI_zero h).2
  show o.n.toNat ≤ 12
  omega
set_option maxHeartbeats 8000000 in
theorem Count_good {w : World} {v : Value} {o : Prb} {av nv : Value} (h : PrbA w v o av nv) (hT : Tab w) (hc : fewI o = 0) :
    Calls Tryd.prog 42 #[v] w fun en w' => en = .returned (.tuple #[.int .i64 (cntG (opG o av nv) : Int), .int .i64 0]) ∧ New w w' := by
  have HO := Lib.hid (fun (w1 : World) (hn : New w w1) => openFew_c (h.new hn))
  have hOK := opR_ok h.sh
  have hv := h.eq
  obtain ⟨x1, x2, x3, x4, e1, e2⟩ := h.sh
  clear h
  have hk := (fewI_zero hc).1
  rw [opR_good hk] at hOK
  have HB12 := Lib.hid (few_bits hc hOK)
  rw [hc, ofG_good hk] at HO
  have HOK := Lib.hid hOK
  have HT := Lib.hid hT
  clear hT hk hc
  generalize opG o av nv = RG at *
  have HA24 := Lib.hid (fst24 hOK.n24)
  have HAL := Lib.hid (fun (w1 : World) => all_c RG w1 hOK)
  have HCO := Lib.hid (fun (w1 : World) (hn : New w w1) => counter_c RG w1 hOK (HT.out.new hn))
  clear hOK
  obtain ⟨cn, hcn⟩ : ∃ cn, cntG RG = cn := ⟨_, rfl⟩
  have HCN := Lib.hid hcn
  rw [hcn]
  obtain ⟨AL, hAL⟩ : ∃ AL, fst RG.n = AL := ⟨_, rfl⟩
  rw [hAL] at HAL HA24 HB12
  have HALE := Lib.hid hAL
  clear hAL hcn
  have HCA := Lib.hid (show ∀ (c : CB) (D : DataW Unit) (n : Nat) (w1 : World), c.ok → c.G = RG → CSt c D n w1 → Calls Tryd.prog 142 #[sv AL, .pointer (some ⟨c.mb, 0, none⟩), .pointer (some ⟨c.gb, 0, none⟩), .pointer (some ⟨c.cb, 0, none⟩)] w1 (fun e W' => e = .returned (.int .i64 (cn : Int)) ∧ Mod (fun q => q = c.M) w1 W') from fun c D n w1 a1 a2 a3 => by
    have := count_in c a1 _ AL D n w1 HB12.out HA24.out rfl a3
    refine this.mono ?_
    rintro e W' ⟨b1, b2, _⟩
    refine ⟨?_, b2⟩
    rw [b1, a2, ← HCN.out, ← HALE.out]; rfl)
  subst hv
  subst e1 e2
  go_enter Tryd.func42, Tryd.ntmps42
  go_upto_region 4 with (first | (go_at_call 96; (with_reducible refine (HO.out _ ?_).mono ?_); (repeat (first | exact New.refl _ | apply New.alloc)); rintro e w6 ⟨rfl, n6⟩; have HN := Lib.hid (((New.refl w).alloc _).trans n6); clear n6) | (refine wpList_store_graph rfl (.tmp 4) (.tmp 9) rfl rfl rfl HOK.out ?_; intro w7 n7 g7; obtain ⟨g, hg⟩ : ∃ g, w6.heap.size = g := ⟨_, rfl⟩; simp only [hg] at g7 ⊢; have N7 := Lib.hid (HN.out.trans n7); have G7 := Lib.hid g7; clear n7 g7))
  refine wp_region_noPanic ?_
  refine wp_region_held_drew (S := fun w' => Gr w' g RG) (by kernel_rfl) (show Gr w7.drew g RG from G7.out) (fun hHeld => ?_)
  refine wpAnyH_take (i := 0) rfl (by kernel_rfl) (by kernel_rfl) (by kernel_rfl) (fun _ _ _ h => h) (yieldsIf_load_mid (by rfl) 83 (.tmp 4) rfl g 0 rfl RG.cells _ (fun w hw => Gr.whole hw) Tryd.underlying83 rfl (by rw [Gph.len]; exact graph_size)) (by assumption) ?_
  (try simp only [Act.put, List.setIfInBounds_toArray, List.set_cons_zero, List.set_cons_succ])
  refine wpAnyH_take (i := 2) rfl (by kernel_rfl) (by kernel_rfl) (by kernel_rfl) (fun _ _ _ h => h) (yieldsIf_load_mid (by rfl) 83 (.tmp 4) rfl g 0 rfl RG.cells _ (fun w hw => Gr.whole hw) Tryd.underlying83 rfl (by rw [Gph.len]; exact graph_size)) (by assumption) ?_
  (try simp only [Act.put, List.setIfInBounds_toArray, List.set_cons_zero, List.set_cons_succ])
  refine wpAnyH_ready (rs := [1]) (by kernel_rfl) (by simp) ?_
  refine AllReadyH.cons rfl (fun K hK => ?_) AllReadyH.nil
  go_simp
  go_at_call 97
  refine (HCO.out _ (N7.out.drew)).mono ?_
  rintro e w8 ⟨fv, rfl, n8, cI⟩
  have N8 := Lib.hid (show New w w8 from (N7.out.drew).trans n8)
  have CI8 := Lib.hid cI
  have G8 := Lib.hid (show Gr w8 g RG from (show Gr w7.drew g RG from G7.out).new n8)
  have HN7S := Lib.hid (show w.heap.size ≤ w7.drew.heap.size from N7.out.size)
  have HGL := Lib.hid (show g < w7.drew.heap.size from G7.out.lt)
  refine hK.out _ _ G8.out (fun hHeld => ?_)
  clear hK K n8 cI
  (try simp only [Act.put, List.setIfInBounds_toArray, List.set_cons_zero, List.set_cons_succ])
  refine wpAnyH_ready (rs := [3]) (by kernel_rfl) (by simp) ?_
  refine AllReadyH.cons rfl (fun K hK => ?_) AllReadyH.nil
  go_simp
  go_at_call 98
  refine (HAL.out _).mono ?_
  rintro e w9 ⟨rfl, n9⟩
  have N9 := Lib.hid (N8.out.trans n9)
  have CI := Lib.hid (CI8.out.new n9)
  have G9 := Lib.hid (G8.out.new n9)
  refine hK.out _ _ G9.out (fun hHeld => ?_)
  clear hK K n9
  (try simp only [Act.put, List.setIfInBounds_toArray, List.set_cons_zero, List.set_cons_succ])
  obtain ⟨c, D, n, rfl, cok, cG, cst, b1, b2, b3, b4⟩ := CI.out
  unfold CB.fv
  refine wpAnyH_ready (rs := [4]) (by kernel_rfl) (by simp) ?_
  refine AllReadyH.cons rfl (fun K hK => ?_) AllReadyH.nil
  go_simp
  go_at_call 142
  refine (HCA.out c D n _ cok cG cst).mono ?_
  rintro e w10 ⟨rfl, m10⟩
  have hn10 : New w w10 := Mod.new N9.out m10 (fun k hk => by rw [hk]; exact Nat.le_trans HN7S.out b4)
  refine hK.out _ _ ((m10.2 g (G9.out).lt (fun e => by have h1 := (G9.out).lt; have h2 := HGL.out; omega)).trans G9.out) (fun hHeld => ?_)
  clear hK K
  (try simp only [Act.put, List.setIfInBounds_toArray, List.set_cons_zero, List.set_cons_succ])
  refine wpAnyH_take (i := 5) (oi := { dst := some 2, op := _, type := _, pos := _, after := _, guard := _ }) (v := ?_) rfl (by kernel_rfl) (by kernel_rfl) (by kernel_rfl) (fun _ _ _ h => h) (Or.inl ⟨by rfl, (by intro w hSw; (try dsimp only at hSw); go_simp; try with_reducible rfl)⟩) (by assumption) ?_
  (try simp only [Act.put, List.setIfInBounds_toArray, List.set_cons_zero, List.set_cons_succ])
  refine wpAnyH_take (i := 6) (oi := { dst := some 3, op := _, type := _, pos := _, after := _, guard := _ }) (v := ?_) rfl (by kernel_rfl) (by kernel_rfl) (by kernel_rfl) (fun _ _ _ h => h) (Or.inl ⟨by rfl, (by intro w hSw; (try dsimp only at hSw); go_simp; try with_reducible rfl)⟩) (by assumption) ?_
  (try simp only [Act.put, List.setIfInBounds_toArray, List.set_cons_zero, List.set_cons_succ])
  refine wpAnyH_done (by kernel_rfl) ?_ _
  refine NoPanic.normal ?_
  go_wp2_with fail
  go_ret2
  exact ⟨rfl, hn10⟩
end Go.Proofs.YtiejefehcpfkaaaDoor
