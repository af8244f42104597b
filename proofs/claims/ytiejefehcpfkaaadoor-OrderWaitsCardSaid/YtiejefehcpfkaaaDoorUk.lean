/- The calls whose results the chapter states: alive answers yes. · The law OrderChecks. Any problem that memory takes. -/
import Derived.Test.YtiejefehcpfkaaaDoorUe
import Derived.Test.YtiejefehcpfkaaaDoorUj

section
set_option linter.unusedSimpArgs false
set_option linter.unusedVariables false
set_option maxRecDepth 100000
namespace Go.Proofs.YtiejefehcpfkaaaDoor
open Go.RowKit Go.Shelf

attribute [local go_sem] Oper.semAt_some

theorem pair_info : (Tryd.prog.info? 67).map (fun i => (i.zero, i.size, i.bytes)) = some (some (.agg #[.int .i64 0, .int .i64 0]), 2, 16) := by kernel_rfl
theorem ins_block {W : World} {b : Nat} {l : List Int} (h : W.heap[b]? = some (.cells (l.map fun x => Value.int .i64 x).toArray 3 (0, 0))) : Ins W (some ⟨b, 0, none⟩) l := fun _ => by
  refine ⟨b, 0, rfl, (Array.getElem?_eq_some_iff.1 h).1, fun i hi => ?_⟩
  rw [cell_of_row W b _ _ _ _ h]
  simp [nI, List.getElem?_map, List.getElem?_eq_getElem hi, List.getD_eq_getElem?_getD]

theorem sl_block {W : World} {b c : Nat} {l : List Int} (h : W.heap[b]? = some (.cells (l.map fun x => Value.int .i64 x).toArray 3 (0, 0))) : SlI W (.slice (some ⟨b, 0, none⟩) l.length c) l := ⟨_, c, rfl, ins_block h⟩
theorem same_ok {w : World} {u v : Value} (l : List Int) (hu : SlI w u l) (hv : SlI w v l) (hl : l.length ≤ 17592186044415) : Calls Tryd.prog 28 #[u, v] w fun en w' => en = .returned (.bool true) ∧ New w w' := by
  have := SameInts_c hu hv hl hl
  rw [beq_self_eq_true] at this
  exact this
set_option maxHeartbeats 32000000 in
theorem alive_c (w : World) (hT : Tab w) : Calls Tryd.prog 21 #[] w fun e w' => e = .returned (.bool true) ∧ New w w' := by
  have HT := Lib.hid hT
  clear hT
  go_enter Tryd.func21, Tryd.ntmps21
  go_upto_region 2 with (go_at_call 67; refine (sample_c _).mono ?_; rintro e w1 ⟨v, av, nv, rfl, n1, hp⟩; obtain ⟨x1, x2, x3, x4, e1, e2⟩ := hp.sh; have hv := hp.eq; subst e1 e2; subst hv; have N1 := Lib.hid n1; have HP1 := Lib.hid hp; clear n1 hp)
  obtain ⟨b1, hb1⟩ : ∃ b1, w1.heap.size = b1 := ⟨_, rfl⟩
  obtain ⟨w2, hw2⟩ : ∃ w2, w2 = w1.alloc (.cells #[.int .i64 samP.n, .slice x1 samP.A.length x2, .slice x3 samP.B.length x4] 24) := ⟨_, rfl⟩
  have n2 : New w1 w2 := by rw [hw2]; exact (New.refl _).alloc _
  have HR2 := Lib.hid (show w2.heap[b1]? = some (.cells #[.int .i64 samP.n, .slice x1 samP.A.length x2, .slice x3 samP.B.length x4] 24 (0, 0)) from by rw [hw2, ← hb1]; exact World.alloc_heap_new w1 _)
  have HP2 := Lib.hid (HP1.out.new n2)
  have N2 := Lib.hid (N1.out.trans n2)
  simp only [hb1]
  rw [← hw2]
  clear hw2 n2 hb1
  go_upto_region 3 with (first | (refine wpList_load_row rfl 24 (.tmp 1) rfl b1 rfl 24 #[_, _, _] (0, 0) _ HR2.out Tryd.underlying24 rfl ord_size ?_) | (go_at_call 31; refine (First_good HP2.out (HT.out.new N2.out) (al_ord _ _)).mono ?_; rintro e w3 ⟨u, rfl, n, own⟩))
  have HR3 := Lib.hid (row_new HR2.out n)
  have HP3 := Lib.hid (HP2.out.new n)
  have N3 := Lib.hid (N2.out.trans n)
  rw [al_first] at own
  have OF3 := Lib.hid (SlI.of_own own)
  obtain ⟨fa, fc, rfl⟩ := own_slice own
  clear n own
  go_upto_region 4 with (first | (refine wpList_load_row rfl 24 (.tmp 1) rfl b1 rfl 24 #[_, _, _] (0, 0) _ HR3.out Tryd.underlying24 rfl ord_size ?_) | (go_at_call 42; refine (Count_good HP3.out (HT.out.new N3.out) al_few).mono ?_; rintro e w4 ⟨rfl, n⟩))
  have HR4 := Lib.hid (row_new HR3.out n)
  have HP4 := Lib.hid (HP3.out.new n)
  have N4 := Lib.hid (N3.out.trans n)
  have OF4 := Lib.hid (OF3.out.new n)
  simp only [al_cnt]
  clear n
  go_upto_region 5 with (first | (refine wpList_load_row rfl 24 (.tmp 1) rfl b1 rfl 24 #[_, _, _] (0, 0) _ HR4.out Tryd.underlying24 rfl ord_size ?_) | (go_at_call 62; refine (Wait_good HP4.out (HT.out.new N4.out) 2 (al_wai _ _)).mono ?_; rintro e w5 ⟨sO, sD, rfl, n, hbest⟩; rw [al_so] at hbest; obtain ⟨⟨o1, _⟩, bD, cD, rfl, _, _, iv⟩ := hbest; obtain ⟨aO, cO, rfl⟩ := own_slice o1))
  have HR5 := Lib.hid (row_new HR4.out n)
  have HP5 := Lib.hid (HP4.out.new n)
  have N5 := Lib.hid (N4.out.trans n)
  have OF5 := Lib.hid (OF4.out.new n)
  have OW5 := Lib.hid (SlI.of_own o1)
  have OD5 := Lib.hid (show SlI w5 (.slice (some ⟨bD, 0, none⟩) (opG samP (.slice x1 samP.A.length x2) (.slice x3 samP.B.length x4)).n cD) [0, 4, 1, 5] from al_wd (.slice x1 samP.A.length x2) (.slice x3 samP.B.length x4) ▸ SlI.of_iv (c := cD) iv)
  clear n o1 iv
  obtain ⟨bW, hbW⟩ : ∃ b, w5.heap.size = b := ⟨_, rfl⟩
  obtain ⟨w6, hw6⟩ : ∃ w', w' = w5.alloc (.cells #[.slice aO 4 cO, (.slice (some ⟨bD, 0, none⟩) (opG samP (.slice x1 samP.A.length x2) (.slice x3 samP.B.length x4)).n cD)] 61) := ⟨_, rfl⟩
  have n : New w5 w6 := by rw [hw6]; exact (New.refl _).alloc _
  have RW6 := Lib.hid (show w6.heap[bW]? = some (.cells #[.slice aO 4 cO, (.slice (some ⟨bD, 0, none⟩) (opG samP (.slice x1 samP.A.length x2) (.slice x3 samP.B.length x4)).n cD)] 61 (0, 0)) from by rw [hw6, ← hbW]; exact World.alloc_heap_new w5 _)
  have HR6 := Lib.hid (row_new HR5.out n)
  have HP6 := Lib.hid (HP5.out.new n)
  have N6 := Lib.hid (N5.out.trans n)
  have OF6 := Lib.hid (OF5.out.new n)
  have OW6 := Lib.hid (OW5.out.new n)
  have OD6 := Lib.hid (OD5.out.new n)
  simp only [hbW]
  rw [← hw6]
  clear hw6 n hbW
  go_upto_region 6 with (first | (refine wpList_load_row rfl 24 (.tmp 1) rfl b1 rfl 24 #[_, _, _] (0, 0) _ HR6.out Tryd.underlying24 rfl ord_size ?_) | (go_at_call 55; refine (days_good (HP6.out.new ((New.refl w6).alloc _)) 2 (some ⟨w6.heap.size, 0, none⟩) 4 [0, 1, 2, 3] (by decide) (ins_block (World.alloc_heap_new w6 _)) (HT.out.new (N6.out.trans ((New.refl w6).alloc _))) (al_dry _ _)).mono ?_; rintro e w7 ⟨bE, cE, rfl, n, _, ivE⟩))
  replace n := ((New.refl w6).alloc _).trans n
  have HR7 := Lib.hid (row_new HR6.out n)
  have HP7 := Lib.hid (HP6.out.new n)
  have N7 := Lib.hid (N6.out.trans n)
  have OF7 := Lib.hid (OF6.out.new n)
  have OW7 := Lib.hid (OW6.out.new n)
  have OD7 := Lib.hid (OD6.out.new n)
  have RW7 := Lib.hid (row_new RW6.out n)
  have OE7 := Lib.hid (show SlI w7 (.slice (some ⟨bE, 0, none⟩) (opG samP (.slice x1 samP.A.length x2) (.slice x3 samP.B.length x4)).n cE) [0, 3, 6, 9] from al_days (.slice x1 samP.A.length x2) (.slice x3 samP.B.length x4) ▸ SlI.of_iv (c := cE) ivE)
  clear n ivE
  go_upto_region 7 with (first | (refine wpList_load_row rfl 24 (.tmp 1) rfl b1 rfl 24 #[_, _, _] (0, 0) _ HR7.out Tryd.underlying24 rfl ord_size ?_) | (go_at_call 59; refine (reasons_good (HP7.out.new ((New.refl w7).alloc _)) 2 (some ⟨w7.heap.size, 0, none⟩) 4 [0, 1, 2, 3] (by decide) (by decide) (ins_block (World.alloc_heap_new w7 _)) (HT.out.new (N7.out.trans ((New.refl w7).alloc _))) (al_dry _ _)).mono ?_; rintro e w8 ⟨u, rfl, n, ownr⟩; rw [al_rea] at ownr; obtain ⟨aR, cR, rfl⟩ := own_slice ownr))
  replace n := ((New.refl w7).alloc _).trans n
  have HR8 := Lib.hid (row_new HR7.out n)
  have HP8 := Lib.hid (HP7.out.new n)
  have N8 := Lib.hid (N7.out.trans n)
  have OF8 := Lib.hid (OF7.out.new n)
  have OW8 := Lib.hid (OW7.out.new n)
  have OD8 := Lib.hid (OD7.out.new n)
  have OE8 := Lib.hid (OE7.out.new n)
  have RW8 := Lib.hid (row_new RW7.out n)
  have OR8 := Lib.hid ownr
  clear n ownr
  go_upto_region 8 with (first | (refine wpList_load_row rfl 24 (.tmp 1) rfl b1 rfl 24 #[_, _, _] (0, 0) _ HR8.out Tryd.underlying24 rfl ord_size ?_) | (go_at_call 48; refine (Free_good HP8.out (HT.out.new N8.out) (al_ord _ _)).mono ?_; rintro e w9 ⟨u, rfl, n, ownf⟩; rw [al_free] at ownf; obtain ⟨aF, cF, rfl⟩ := own_slice ownf))
  have HR9 := Lib.hid (row_new HR8.out n)
  have HP9 := Lib.hid (HP8.out.new n)
  have N9 := Lib.hid (N8.out.trans n)
  have OF9 := Lib.hid (OF8.out.new n)
  have OW9 := Lib.hid (OW8.out.new n)
  have OD9 := Lib.hid (OD8.out.new n)
  have OE9 := Lib.hid (OE8.out.new n)
  have RW9 := Lib.hid (row_new RW8.out n)
  have OR9 := Lib.hid (own_new OR8.out n)
  have OV9 := Lib.hid (SlI.of_own ownf)
  clear n ownf
  go_upto_region 9 with (first | (refine wpList_load_row rfl 24 (.tmp 1) rfl b1 rfl 24 #[_, _, _] (0, 0) _ HR9.out Tryd.underlying24 rfl ord_size ?_) | (go_at_call 46; refine (Nth_good HP9.out (HT.out.new N9.out) al_few 1 (by rw [al_cnt]; decide)).mono ?_; rintro e w10 ⟨u, rfl, n, ownn⟩; rw [al_nth] at ownn; obtain ⟨aN, cN, rfl⟩ := own_slice ownn))
  have HR10 := Lib.hid (row_new HR9.out n)
  have HP10 := Lib.hid (HP9.out.new n)
  have N10 := Lib.hid (N9.out.trans n)
  have OF10 := Lib.hid (OF9.out.new n)
  have OW10 := Lib.hid (OW9.out.new n)
  have OD10 := Lib.hid (OD9.out.new n)
  have OE10 := Lib.hid (OE9.out.new n)
  have OV10 := Lib.hid (OV9.out.new n)
  have RW10 := Lib.hid (row_new RW9.out n)
  have OR10 := Lib.hid (own_new OR9.out n)
  have ON10 := Lib.hid (SlI.of_own ownn)
  clear n ownn
  go_upto_region 10 with (first | (refine wpList_load_row rfl 24 (.tmp 1) rfl b1 rfl 24 #[_, _, _] (0, 0) _ HR10.out Tryd.underlying24 rfl ord_size ?_))
  obtain ⟨b2, hb2⟩ : ∃ b, w10.heap.size = b := ⟨_, rfl⟩
  obtain ⟨w11, hw11⟩ : ∃ w', w' = w10.alloc (.cells #[.int .i64 samP.n, .slice x1 samP.A.length x2, .slice x3 samP.B.length x4] 24) := ⟨_, rfl⟩
  have n : New w10 w11 := by rw [hw11]; exact (New.refl _).alloc _
  have RB11 := Lib.hid (show w11.heap[b2]? = some (.cells #[.int .i64 samP.n, .slice x1 samP.A.length x2, .slice x3 samP.B.length x4] 24 (0, 0)) from by rw [hw11, ← hb2]; exact World.alloc_heap_new w10 _)
  have HR11 := Lib.hid (row_new HR10.out n)
  have HP11 := Lib.hid (HP10.out.new n)
  have N11 := Lib.hid (N10.out.trans n)
  have OF11 := Lib.hid (OF10.out.new n)
  have OW11 := Lib.hid (OW10.out.new n)
  have OD11 := Lib.hid (OD10.out.new n)
  have OE11 := Lib.hid (OE10.out.new n)
  have OV11 := Lib.hid (OV10.out.new n)
  have ON11 := Lib.hid (ON10.out.new n)
  have RW11 := Lib.hid (row_new RW10.out n)
  have NB := Lib.hid n
  have HB2E := Lib.hid hb2
  simp only [hb2]
  rw [← hw11]
  clear hw11 n hb2
  obtain ⟨av', ac', nv', nc', e, hPA, hPB⟩ := HP11.out.pv.sh
  simp only [Value.agg.injEq, Array.mk.injEq, List.cons.injEq, Value.slice.injEq, true_and, and_true] at e
  obtain ⟨⟨rfl, rfl⟩, rfl, rfl⟩ := e
  obtain ⟨bA, oA, rfl, hbA, hcA⟩ := hPA (by decide)
  obtain ⟨e0, he0⟩ : ∃ e, w11.heap.size = e := ⟨_, rfl⟩
  have nE : New w11 (w11.alloc (.cells #[] 67)) := (New.refl _).alloc _
  have HOE := Lib.hid (show (w11.alloc (.cells #[] 67)).ownsRow e0 67 2 (.slice (some ⟨e0, 0, none⟩) 0 0) 0 [] from by rw [← he0]; exact World.ownsRow_made w11 #[] 0 (Nat.le_refl _) (by decide) rfl)
  have c1 : (w11.alloc (.cells #[] 67)).cell? ⟨b1, 1, none⟩ = some (.slice (some ⟨bA, oA, none⟩) samP.A.length x2) := by rw [cell_of_row _ _ _ _ _ _ (row_new HR11.out nE)]; rfl
  have HNW := Lib.hid (show ∀ j u, [Value.int .i64 0, .int .i64 1, .int .i64 0, .int .i64 2, .int .i64 1, .int .i64 3][j]? = some u → (w11.alloc (.cells #[] 67)).cell? ((⟨bA, oA, none⟩ : Addr).add j) = some u from fun j u hu => by
    have hadd : (⟨bA, oA, none⟩ : Addr).add j = ⟨bA, oA + j, none⟩ := by unfold Addr.add; split <;> simp_all
    rw [hadd, nE.cell hbA]
    have h0 := hcA 0 (by decide); have h1 := hcA 1 (by decide); have h2 := hcA 2 (by decide)
    have hj : j < 6 := (List.getElem?_eq_some_iff.1 hu).1
    have hj' : j = 0 ∨ j = 1 ∨ j = 2 ∨ j = 3 ∨ j = 4 ∨ j = 5 := by omega
    rcases hj' with rfl | rfl | rfl | rfl | rfl | rfl <;> simp at hu <;> subst hu <;> first | exact h0.1 | exact h0.2 | exact h1.1 | exact h1.2 | exact h2.1 | exact h2.2)
  have HNO := Lib.hid (show ∀ u ∈ [Value.int .i64 0, .int .i64 1, .int .i64 0, .int .i64 2, .int .i64 1, .int .i64 3], u.oneCell' = true from by simp [Value.oneCell'])
  have HE0 := Lib.hid he0
  have HB2L := Lib.hid (show b2 < e0 from by rw [← he0]; exact (Array.getElem?_eq_some_iff.1 RB11.out).1)
  obtain ⟨i0, hi, hz0, hz1, hz2⟩ := info_parts pair_info
  clear hPA hPB hbA hcA nE
  go_upto_region 11 with (first | (at_builtin; refine wpList_append_lies _ rfl (.tmp 60) (.tmp 62) 22 rfl e0 67 i0 _ 2 16 Tryd.underlying22 hi hz0 hz1 hz2 rfl (by decide) (.slice (some ⟨e0, 0, none⟩) 0 0) 0 [] rfl HOE.out ⟨bA, oA, none⟩ 3 x2 [.int .i64 0, .int .i64 1, .int .i64 0, .int .i64 2, .int .i64 1, .int .i64 3] rfl rfl HNW.out HNO.out (by omega) (by unfold maxLen; omega) (by omega) (by rw [World.size_alloc, HE0.out]; omega) _ rfl ?_; intro g5 cap5 v12 own12 grow12 hor12 hlt12; have O12 := Lib.hid own12; have M12 := Lib.hid (Mod.grown grow12 (O := fun q => q = e0) (fun q hq => by simpa [Value.ownBlock] using hq.symm)); have HG5 := Lib.hid (show g5 = e0 ∨ g5 = e0 + 1 from hor12.elim (fun h => .inl (by simpa [Value.ownBlock] using h.symm)) (fun h => .inr (by rw [h, World.size_alloc, HE0.out]))); clear own12 grow12 hor12 hlt12 c1) | (at_builtin; refine wpList_append_lies _ rfl (.tmp 63) (.tmp 65) 22 rfl e0 67 i0 _ 2 16 Tryd.underlying22 hi hz0 hz1 hz2 rfl (by decide) (.slice (some ⟨g5, 0, none⟩) (0 + 3) cap5) (0 + 3) ([] ++ [.int .i64 0, .int .i64 1, .int .i64 0, .int .i64 2, .int .i64 1, .int .i64 3]) rfl (own_new O12.out ((New.refl _).alloc _)) ⟨v12.heap.size, 0, none⟩ 1 1 [.int .i64 3, .int .i64 0] rfl rfl (World.news_of_block (World.alloc_heap_new v12 _)) (by simp [Value.oneCell']) (by omega) (by unfold maxLen; omega) (by omega) (by have := M12.out.size; simp at this ⊢; have := HE0.out; omega) _ rfl ?_; intro g6 cap6 v13 own13 grow13 hor13 hlt13; have O13 := Lib.hid own13; have M13 := Lib.hid (Mod.grown grow13 (O := fun q => q = g5) (fun q hq => by simpa [Value.ownBlock] using hq.symm)); have r12 := (M12.out.2 b2 (by have := HB2L.out; simp; have := HE0.out; omega) (by have := HB2L.out; omega)).trans (row_new RB11.out ((New.refl _).alloc _)); have r13 := (M13.out.2 b2 (Nat.lt_of_lt_of_le (Array.getElem?_eq_some_iff.1 r12).1 (by simp)) (by have := HB2L.out; have := HG5.out; omega)).trans (row_new r12 ((New.refl _).alloc (.cells #[.int .i64 3, .int .i64 0] 67))); have R13 := Lib.hid r13; have c13 : v13.cell? ⟨b2, 1, none⟩ = some (.slice (some ⟨bA, oA, none⟩) samP.A.length x2) := (by rw [cell_of_row _ _ _ _ _ _ r13]; rfl); have f13 : v13.frozen? ⟨b2, 1, none⟩ = false := (by simp [World.frozen?, r13]); clear own13 grow13 hor13 hlt13 r12 r13))
  obtain ⟨w12, hw12⟩ : ∃ w', w' = v13.setCell ⟨b2, 1, none⟩ (.slice (some ⟨g6, 0, none⟩) 4 cap6) := ⟨_, rfl⟩
  rw [← hw12]
  have MX : Mod (fun q => b2 ≤ q) w11 w12 := by
    have h1 := HB2L.out
    refine (Mod.of_new ((New.refl w11).alloc (.cells #[] 67))).trans ((M12.out.mono fun q hq => by omega).trans ((Mod.of_new ((New.refl v12).alloc (.cells #[.int .i64 3, .int .i64 0] 67))).trans ((M13.out.mono fun q hq => by have := HG5.out; omega).trans ?_)))
    rw [hw12]
    exact Mod.setCell _ _ _ _ (Nat.le_refl _)
  have n : New w10 w12 := Mod.new NB.out MX (fun q hq => by have := HB2E.out; omega)
  have HR12 := Lib.hid (row_new HR10.out n)
  have HP12 := Lib.hid (HP10.out.new n)
  have N12 := Lib.hid (N10.out.trans n)
  have OF12 := Lib.hid (OF10.out.new n)
  have OW12 := Lib.hid (OW10.out.new n)
  have OD12 := Lib.hid (OD10.out.new n)
  have OE12 := Lib.hid (OE10.out.new n)
  have OV12 := Lib.hid (OV10.out.new n)
  have ON12 := Lib.hid (ON10.out.new n)
  have RW12 := Lib.hid (row_new RW10.out n)
  have OR12 := Lib.hid (own_new OR10.out n)
  have RB12 := Lib.hid (show w12.heap[b2]? = some (.cells #[.int .i64 rndP.n, .slice (some ⟨g6, 0, none⟩) rndP.A.length cap6, .slice x3 rndP.B.length x4] 24 (0, 0)) from by rw [hw12]; exact heap_setCell_same _ _ 1 _ R13.out)
  have hg6 : e0 ≤ g6 := (own_parts O13.out).choose_spec.1
  have OA := own_keep (w' := w12) O13.out (fun b hb => by
    simp [Value.ownBlock] at hb
    rw [hw12]
    exact heap_setCell_other _ _ _ _ _ (by have := HB2L.out; omega))
  have HQ12 := Lib.hid (show PrbA w12 (.agg #[.int .i64 rndP.n, .slice (some ⟨g6, 0, none⟩) rndP.A.length cap6, .slice x3 rndP.B.length x4]) rndP (.slice (some ⟨g6, 0, none⟩) rndP.A.length cap6) (.slice x3 rndP.B.length x4) from by
    obtain ⟨av', ac', nv', nc', e, hPA, hPB⟩ := HP12.out.pv.sh
    simp only [Value.agg.injEq, Array.mk.injEq, List.cons.injEq, Value.slice.injEq, true_and, and_true] at e
    obtain ⟨⟨rfl, rfl⟩, rfl, rfl⟩ := e
    refine ⟨⟨⟨_, _, _, _, rfl, fun _ => ⟨g6, 0, rfl, ?_, fun j hj => ?_⟩, hPB⟩, by decide, by decide⟩, ⟨_, _, _, _, rfl, rfl⟩, rfl⟩
    · have h := OA.lt g6 rfl
      exact h.2
    · have hj' : j = 0 ∨ j = 1 ∨ j = 2 ∨ j = 3 := by have : j < 4 := hj; omega
      rcases hj' with rfl | rfl | rfl | rfl <;> exact ⟨(own_cell OA rfl).1, (own_cell OA rfl).1⟩)
  clear hw12 MX n hg6 OA c13 f13 hi hz0 hz1 hz2
  go_upto_region 12 with (first | (refine wpList_load_row rfl 24 (.tmp 16) rfl b2 rfl 24 #[_, _, _] (0, 0) _ RB12.out Tryd.underlying24 rfl ord_size ?_) | (go_at_call 26; refine (Circle_good HQ12.out (HT.out.new N12.out) al_chk2).mono ?_; rintro e w13 ⟨u, rfl, n, cv⟩; simp only [al_circ] at cv ⊢; obtain ⟨aC, nC, cC, rfl, _⟩ := cv.shape))
  have HR13 := Lib.hid (row_new HR12.out n)
  have HP13 := Lib.hid (HP12.out.new n)
  have N13 := Lib.hid (N12.out.trans n)
  have OF13 := Lib.hid (OF12.out.new n)
  have OW13 := Lib.hid (OW12.out.new n)
  have OD13 := Lib.hid (OD12.out.new n)
  have OE13 := Lib.hid (OE12.out.new n)
  have OV13 := Lib.hid (OV12.out.new n)
  have ON13 := Lib.hid (ON12.out.new n)
  have RW13 := Lib.hid (row_new RW12.out n)
  have RB13 := Lib.hid (row_new RB12.out n)
  have OR13 := Lib.hid (own_new OR12.out n)
  have OC13 := Lib.hid cv.sl.1
  clear n cv
  go_upto_region 14 with fail
  have HS1 := Lib.hid (show Calls Tryd.prog 28 #[.slice fa 4 fc, .slice (some ⟨w13.heap.size, 0, none⟩) 4 4] (w13.alloc (.cells #[.int .i64 0, .int .i64 1, .int .i64 2, .int .i64 3] 3)) (fun e w' => e = .returned (.bool true) ∧ New (w13.alloc (.cells #[.int .i64 0, .int .i64 1, .int .i64 2, .int .i64 3] 3)) w') from same_ok [0, 1, 2, 3] (OF13.out.new ((New.refl w13).alloc _)) (sl_block (l := [0, 1, 2, 3]) (c := 4) (World.alloc_heap_new w13 (.cells #[.int .i64 0, .int .i64 1, .int .i64 2, .int .i64 3] 3))) (by decide))
  go_upto_region 15 with (first | (go_at_call 28; (with_reducible refine HS1.out.mono ?_); rintro e w14 ⟨rfl, n⟩; replace n := ((New.refl w13).alloc _).trans n; have HR14 := Lib.hid (row_new HR13.out n); have HP14 := Lib.hid (HP13.out.new n); have N14 := Lib.hid (N13.out.trans n); have OF14 := Lib.hid (OF13.out.new n); have OW14 := Lib.hid (OW13.out.new n); have OD14 := Lib.hid (OD13.out.new n); have OE14 := Lib.hid (OE13.out.new n); have OV14 := Lib.hid (OV13.out.new n); have ON14 := Lib.hid (ON13.out.new n); have OC14 := Lib.hid (OC13.out.new n); have RW14 := Lib.hid (row_new RW13.out n); have RB14 := Lib.hid (row_new RB13.out n); have OR14 := Lib.hid (own_new OR13.out n); clear n; have HS2 := Lib.hid (show Calls Tryd.prog 28 #[.slice aN 4 cN, .slice (some ⟨w14.heap.size, 0, none⟩) 4 4] (w14.alloc (.cells #[.int .i64 0, .int .i64 1, .int .i64 3, .int .i64 2] 3)) (fun e w' => e = .returned (.bool true) ∧ New (w14.alloc (.cells #[.int .i64 0, .int .i64 1, .int .i64 3, .int .i64 2] 3)) w') from same_ok [0, 1, 3, 2] (ON14.out.new ((New.refl w14).alloc _)) (sl_block (l := [0, 1, 3, 2]) (c := 4) (World.alloc_heap_new w14 (.cells #[.int .i64 0, .int .i64 1, .int .i64 3, .int .i64 2] 3))) (by decide))) | (go_at_call 28; (with_reducible refine HS2.out.mono ?_); rintro e w15 ⟨rfl, n⟩; replace n := ((New.refl w14).alloc _).trans n; have HR15 := Lib.hid (row_new HR14.out n); have HP15 := Lib.hid (HP14.out.new n); have N15 := Lib.hid (N14.out.trans n); have OF15 := Lib.hid (OF14.out.new n); have OW15 := Lib.hid (OW14.out.new n); have OD15 := Lib.hid (OD14.out.new n); have OE15 := Lib.hid (OE14.out.new n); have OV15 := Lib.hid (OV14.out.new n); have ON15 := Lib.hid (ON14.out.new n); have OC15 := Lib.hid (OC14.out.new n); have RW15 := Lib.hid (row_new RW14.out n); have RB15 := Lib.hid (row_new RB14.out n); have OR15 := Lib.hid (own_new OR14.out n); clear n; have HS3 := Lib.hid (show Calls Tryd.prog 28 #[.slice aF 2 cF, .slice (some ⟨w15.heap.size, 0, none⟩) 2 2] (w15.alloc (.cells #[.int .i64 1, .int .i64 2] 3)) (fun e w' => e = .returned (.bool true) ∧ New (w15.alloc (.cells #[.int .i64 1, .int .i64 2] 3)) w') from same_ok [1, 2] (OV15.out.new ((New.refl w15).alloc _)) (sl_block (l := [1, 2]) (c := 2) (World.alloc_heap_new w15 (.cells #[.int .i64 1, .int .i64 2] 3))) (by decide))) | (go_at_call 28; (with_reducible refine HS3.out.mono ?_); rintro e w16 ⟨rfl, n⟩; replace n := ((New.refl w15).alloc _).trans n; have HR16 := Lib.hid (row_new HR15.out n); have HP16 := Lib.hid (HP15.out.new n); have N16 := Lib.hid (N15.out.trans n); have OF16 := Lib.hid (OF15.out.new n); have OW16 := Lib.hid (OW15.out.new n); have OD16 := Lib.hid (OD15.out.new n); have OE16 := Lib.hid (OE15.out.new n); have OV16 := Lib.hid (OV15.out.new n); have ON16 := Lib.hid (ON15.out.new n); have OC16 := Lib.hid (OC15.out.new n); have RW16 := Lib.hid (row_new RW15.out n); have RB16 := Lib.hid (row_new RB15.out n); have OR16 := Lib.hid (own_new OR15.out n); clear n; have HS4 := Lib.hid (show Calls Tryd.prog 28 #[.slice aC nC cC, .slice (some ⟨w16.heap.size, 0, none⟩) 3 3] (w16.alloc (.cells #[.int .i64 0, .int .i64 1, .int .i64 3] 3)) (fun e w' => e = .returned (.bool true) ∧ New (w16.alloc (.cells #[.int .i64 0, .int .i64 1, .int .i64 3] 3)) w') from same_ok [0, 1, 3] (OC16.out.new ((New.refl w16).alloc _)) (sl_block (l := [0, 1, 3]) (c := 3) (World.alloc_heap_new w16 (.cells #[.int .i64 0, .int .i64 1, .int .i64 3] 3))) (by decide))) | (go_at_call 28; (with_reducible refine HS4.out.mono ?_); rintro e w17 ⟨rfl, n⟩; replace n := ((New.refl w16).alloc _).trans n; have HR17 := Lib.hid (row_new HR16.out n); have HP17 := Lib.hid (HP16.out.new n); have N17 := Lib.hid (N16.out.trans n); have OF17 := Lib.hid (OF16.out.new n); have OW17 := Lib.hid (OW16.out.new n); have OD17 := Lib.hid (OD16.out.new n); have OE17 := Lib.hid (OE16.out.new n); have OV17 := Lib.hid (OV16.out.new n); have ON17 := Lib.hid (ON16.out.new n); have OC17 := Lib.hid (OC16.out.new n); have RW17 := Lib.hid (row_new RW16.out n); have RB17 := Lib.hid (row_new RB16.out n); have OR17 := Lib.hid (own_new OR16.out n); clear n))
  have HS5 := Lib.hid (show Calls Tryd.prog 28 #[(.slice (some ⟨bE, 0, none⟩) (opG samP (.slice (some ⟨bA, oA, none⟩) samP.A.length x2) (.slice x3 samP.B.length x4)).n cE), .slice (some ⟨w17.heap.size, 0, none⟩) 4 4] (w17.alloc (.cells #[.int .i64 0, .int .i64 3, .int .i64 6, .int .i64 9] 3)) (fun e w' => e = .returned (.bool true) ∧ New (w17.alloc (.cells #[.int .i64 0, .int .i64 3, .int .i64 6, .int .i64 9] 3)) w') from same_ok [0, 3, 6, 9] (OE17.out.new ((New.refl w17).alloc _)) (sl_block (l := [0, 3, 6, 9]) (c := 4) (World.alloc_heap_new w17 (.cells #[.int .i64 0, .int .i64 3, .int .i64 6, .int .i64 9] 3))) (by decide))
  go_upto_region 16 with (first | (go_at_call 28; (with_reducible refine HS5.out.mono ?_); rintro e w18 ⟨rfl, n⟩; replace n := ((New.refl w17).alloc _).trans n; have HR18 := Lib.hid (row_new HR17.out n); have HP18 := Lib.hid (HP17.out.new n); have N18 := Lib.hid (N17.out.trans n); have OF18 := Lib.hid (OF17.out.new n); have OW18 := Lib.hid (OW17.out.new n); have OD18 := Lib.hid (OD17.out.new n); have OE18 := Lib.hid (OE17.out.new n); have OV18 := Lib.hid (OV17.out.new n); have ON18 := Lib.hid (ON17.out.new n); have OC18 := Lib.hid (OC17.out.new n); have RW18 := Lib.hid (row_new RW17.out n); have RB18 := Lib.hid (row_new RB17.out n); have OR18 := Lib.hid (own_new OR17.out n); have cw0 : w18.cell? ⟨bW, 0, none⟩ = some (.slice aO 4 cO) := (by rw [cell_of_row _ _ _ _ _ _ RW18.out]; rfl); clear n; have HS6 := Lib.hid (show Calls Tryd.prog 28 #[.slice aO 4 cO, .slice (some ⟨w18.heap.size, 0, none⟩) 4 4] (w18.alloc (.cells #[.int .i64 0, .int .i64 2, .int .i64 1, .int .i64 3] 3)) (fun e w' => e = .returned (.bool true) ∧ New (w18.alloc (.cells #[.int .i64 0, .int .i64 2, .int .i64 1, .int .i64 3] 3)) w') from same_ok [0, 2, 1, 3] (OW18.out.new ((New.refl w18).alloc _)) (sl_block (l := [0, 2, 1, 3]) (c := 4) (World.alloc_heap_new w18 (.cells #[.int .i64 0, .int .i64 2, .int .i64 1, .int .i64 3] 3))) (by decide))) | (go_at_call 28; (with_reducible refine HS6.out.mono ?_); rintro e w19 ⟨rfl, n⟩; replace n := ((New.refl w18).alloc _).trans n; have HR19 := Lib.hid (row_new HR18.out n); have HP19 := Lib.hid (HP18.out.new n); have N19 := Lib.hid (N18.out.trans n); have OF19 := Lib.hid (OF18.out.new n); have OW19 := Lib.hid (OW18.out.new n); have OD19 := Lib.hid (OD18.out.new n); have OE19 := Lib.hid (OE18.out.new n); have OV19 := Lib.hid (OV18.out.new n); have ON19 := Lib.hid (ON18.out.new n); have OC19 := Lib.hid (OC18.out.new n); have RW19 := Lib.hid (row_new RW18.out n); have RB19 := Lib.hid (row_new RB18.out n); have OR19 := Lib.hid (own_new OR18.out n); clear cw0; have cw1 : w19.cell? ⟨bW, 1, none⟩ = some (.slice (some ⟨bD, 0, none⟩) (opG samP (.slice (some ⟨bA, oA, none⟩) samP.A.length x2) (.slice x3 samP.B.length x4)).n cD) := (by rw [cell_of_row _ _ _ _ _ _ RW19.out]; rfl); clear n; have HS7 := Lib.hid (show Calls Tryd.prog 28 #[(.slice (some ⟨bD, 0, none⟩) (opG samP (.slice (some ⟨bA, oA, none⟩) samP.A.length x2) (.slice x3 samP.B.length x4)).n cD), .slice (some ⟨w19.heap.size, 0, none⟩) 4 4] (w19.alloc (.cells #[.int .i64 0, .int .i64 4, .int .i64 1, .int .i64 5] 3)) (fun e w' => e = .returned (.bool true) ∧ New (w19.alloc (.cells #[.int .i64 0, .int .i64 4, .int .i64 1, .int .i64 5] 3)) w') from same_ok [0, 4, 1, 5] (OD19.out.new ((New.refl w19).alloc _)) (sl_block (l := [0, 4, 1, 5]) (c := 4) (World.alloc_heap_new w19 (.cells #[.int .i64 0, .int .i64 4, .int .i64 1, .int .i64 5] 3))) (by decide))) | (go_at_call 28; (with_reducible refine HS7.out.mono ?_); rintro e w20 ⟨rfl, n⟩; replace n := ((New.refl w19).alloc _).trans n; have HR20 := Lib.hid (row_new HR19.out n); have HP20 := Lib.hid (HP19.out.new n); have N20 := Lib.hid (N19.out.trans n); have OF20 := Lib.hid (OF19.out.new n); have OW20 := Lib.hid (OW19.out.new n); have OD20 := Lib.hid (OD19.out.new n); have OE20 := Lib.hid (OE19.out.new n); have OV20 := Lib.hid (OV19.out.new n); have ON20 := Lib.hid (ON19.out.new n); have OC20 := Lib.hid (OC19.out.new n); have RW20 := Lib.hid (row_new RW19.out n); have RB20 := Lib.hid (row_new RB19.out n); have OR20 := Lib.hid (own_new OR19.out n); clear cw1; clear n))
  obtain ⟨gR, rfl⟩ : ∃ gR, aR = some ⟨gR, 0, none⟩ := by
    rcases OR20.out.2 with ⟨_, h0⟩ | ⟨gR, cap, cur, e, _⟩
    · exact absurd h0 (by decide)
    · exact ⟨gR, by simpa using (Value.slice.inj e).1⟩
  have r0 : w20.cell? ⟨gR, 0, none⟩ = some (.int .i64 (3)) := (own_cell OR20.out (j := 0) rfl).1
  have r1 : w20.cell? ⟨gR, 1, none⟩ = some (.int .i64 (2)) := (own_cell OR20.out (j := 1) rfl).1
  have r2 : w20.cell? ⟨gR, 2, none⟩ = some (.int .u8 2) := (own_cell OR20.out (j := 2) rfl).1
  have r9 : w20.cell? ⟨gR, 9, none⟩ = some (.int .i64 (0)) := (own_cell OR20.out (j := 9) rfl).1
  have r10 : w20.cell? ⟨gR, 10, none⟩ = some (.int .i64 (-1)) := (own_cell OR20.out (j := 10) rfl).1
  have r11 : w20.cell? ⟨gR, 11, none⟩ = some (.int .u8 0) := (own_cell OR20.out (j := 11) rfl).1
  have k0 : w20.cell? ⟨b1, 0, none⟩ = some (.int .i64 samP.n) := (by rw [cell_of_row _ _ _ _ _ _ HR20.out]; rfl)
  have k1 : w20.cell? ⟨b1, 1, none⟩ = some (.slice (some ⟨bA, oA, none⟩) samP.A.length x2) := (by rw [cell_of_row _ _ _ _ _ _ HR20.out]; rfl)
  have k2 : w20.cell? ⟨b1, 2, none⟩ = some (.slice x3 samP.B.length x4) := (by rw [cell_of_row _ _ _ _ _ _ HR20.out]; rfl)
  have ST1 := Lib.hid (show Calls Tryd.prog 22 #[(.agg #[.int .i64 samP.n, .slice (some ⟨bA, oA, none⟩) samP.A.length x2, .slice x3 samP.B.length x4]), .int .i64 0, .int .i64 3] w20 (fun e w' => e = .returned (.int .u8 1) ∧ New w20 w') from (by have h := standing_c HP20.out 0 3; rw [al_st1] at h; exact h))
  go_wp2_with (first | (go_at_call 22; (with_reducible refine ST1.out.mono ?_); rintro e w21 ⟨rfl, n⟩; have HR21 := Lib.hid (row_new HR20.out n); have HP21 := Lib.hid (HP20.out.new n); have N21 := Lib.hid (N20.out.trans n); clear n k0 k1 k2; have k0 : w21.cell? ⟨b1, 0, none⟩ = some (.int .i64 samP.n) := (by rw [cell_of_row _ _ _ _ _ _ HR21.out]; rfl); have k1 : w21.cell? ⟨b1, 1, none⟩ = some (.slice (some ⟨bA, oA, none⟩) samP.A.length x2) := (by rw [cell_of_row _ _ _ _ _ _ HR21.out]; rfl); have k2 : w21.cell? ⟨b1, 2, none⟩ = some (.slice x3 samP.B.length x4) := (by rw [cell_of_row _ _ _ _ _ _ HR21.out]; rfl); have ST2 := Lib.hid (show Calls Tryd.prog 22 #[(.agg #[.int .i64 samP.n, .slice (some ⟨bA, oA, none⟩) samP.A.length x2, .slice x3 samP.B.length x4]), .int .i64 3, .int .i64 1] w21 (fun e w' => e = .returned (.int .u8 2) ∧ New w21 w') from (by have h := standing_c HP21.out 3 1; rw [al_st2] at h; exact h))) | (go_at_call 22; (with_reducible refine ST2.out.mono ?_); rintro e w22 ⟨rfl, n⟩; have N22 := Lib.hid (N21.out.trans n)))
  go_ret
  exact ⟨rfl, N22.out⟩
end Go.Proofs.YtiejefehcpfkaaaDoor
end

section
set_option linter.unusedSimpArgs false
set_option linter.unusedVariables false
set_option maxRecDepth 100000
namespace Go.Proofs.YtiejefehcpfkaaaDoor
open Go.RowKit Go.Shelf

attribute [local go_sem] Oper.semAt_some

/-- both directions of a pair -/
theorem st_pair (o : Prb) (av nv : Value) (a b : Int) : (stI o av nv a b = 0 ∧ stI o av nv b a = 0) ∨ (stI o av nv a b = 3 ∧ stI o av nv b a = 3) ∨ (stI o av nv a b = 1 ∧ stI o av nv b a = 2) ∨ (stI o av nv a b = 2 ∧ stI o av nv b a = 1) := by
  unfold stI
  by_cases hc : chkI o ≠ 0
  · rw [if_pos hc, if_pos hc]; exact .inl ⟨rfl, rfl⟩
  · rw [if_neg hc, if_neg hc]
    generalize ((opG o av nv).re a.toNat).testBit b.toNat = x
    generalize ((opG o av nv).re b.toNat).testBit a.toNat = y
    by_cases ha : (decide (0 ≤ a) && decide (a < o.n)) = true
    · by_cases hb : (decide (0 ≤ b) && decide (b < o.n)) = true
      · by_cases he : a = b
        · subst he
          rw [ha]; simp
        · rw [ha, hb, decide_eq_false he, decide_eq_false (Ne.symm he)]
          cases x <;> cases y <;> simp [st4]
      · rw [Bool.not_eq_true] at hb
        rw [ha, hb]; simp
    · rw [Bool.not_eq_true] at ha
      rw [ha]; simp
set_option maxHeartbeats 4000000 in
theorem slim_c {w : World} {v : Value} {o : Prb} (h : PrbV w v o) : Calls Tryd.prog 20 #[v] w fun en w' => en = .returned (.bool (decide ((o.A.length : Int) ≤ 600) && decide ((o.B.length : Int) ≤ 300))) ∧ New w w' := by
  obtain ⟨⟨av, ac, nv, nc, rfl, h1, h2⟩, h3, h4⟩ := h
  clear h1 h2
  generalize o.A.length = LA at *
  generalize o.B.length = LB at *
  by_cases u1 : (LA : Int) ≤ 600
  · rw [decide_eq_true u1]
    by_cases u2 : (LB : Int) ≤ 300
    · rw [decide_eq_true u2]
      go_enter Tryd.func20, Tryd.ntmps20
      go_wp2_with fail
      go_ret
      exact ⟨rfl, (New.refl _).alloc _⟩
    · rw [decide_eq_false u2]
      go_enter Tryd.func20, Tryd.ntmps20
      go_wp2_with fail
      go_ret
      exact ⟨rfl, (New.refl _).alloc _⟩
  · rw [decide_eq_false u1]
    go_enter Tryd.func20, Tryd.ntmps20
    go_wp2_with fail
    go_ret
    exact ⟨rfl, (New.refl _).alloc _⟩
set_option maxHeartbeats 16000000 in
theorem OrderChecks_c {w : World} {v : Value} {o : Prb} {av nv : Value} (h : PrbA w v o av nv) (hT : Tab w) (a b : Int) :
    Calls Tryd.prog 3 #[v, .int .i64 a, .int .i64 b] w fun en w' => en = .returned (.bool true) ∧ New w w' := by
  have HSL := Lib.hid (fun (w1 : World) (hn : New w w1) => slim_c (h.pv.new hn))
  have HAL := Lib.hid (fun (w1 : World) (hn : New w w1) => alive_c w1 (hT.new hn))
  have HSA := Lib.hid (fun (w1 : World) (hn : New w w1) => standing_c (h.new hn) a b)
  have HSB := Lib.hid (fun (w1 : World) (hn : New w w1) => standing_c (h.new hn) b a)
  have HCK := Lib.hid (fun (w1 : World) (hn : New w w1) => check_c v o w1 (h.pv.new hn))
  have HRC := Lib.hid (fun (w1 : World) (hn : New w w1) => rcheck_c v o w1 (h.pv.new hn))
  have HRS := Lib.hid (fun (w1 : World) (hn : New w w1) => rstanding_c (h.new hn) a b)
  rw [rchk_eq] at HRC
  have hp := st_pair o av nv a b
  have hv := h.eq
  obtain ⟨x1, x2, x3, x4, e1, e2⟩ := h.sh
  rw [e1, e2] at hv
  subst hv
  clear h hT e1 e2
  obtain ⟨H, hH⟩ : ∃ H, w.heap.size = H := ⟨_, rfl⟩
  have HB := Lib.hid (show (w.alloc (.cells #[.int .i64 o.n, .slice x1 o.A.length x2, .slice x3 o.B.length x4] 24)).heap[H]? = some (.cells #[.int .i64 o.n, .slice x1 o.A.length x2, .slice x3 o.B.length x4] 24 (0, 0)) from by rw [← hH]; exact World.alloc_heap_new w _)
  generalize (decide ((o.A.length : Int) ≤ 600) && decide ((o.B.length : Int) ≤ 300)) = sl at *
  generalize chkI o = E at *
  generalize stI o av nv a b = S1 at *
  generalize stI o av nv b a = S2 at *
  cases sl
  · clear HSA HSB HCK HRC HRS hp
    go_enter Tryd.func3, Tryd.ntmps3
    go_wp2_with (first | (go_at_call 20; (with_reducible refine (HSL.out _ ?_).mono ?_); (· exact (New.refl w).alloc _); rintro e w6 ⟨rfl, n6⟩; have N6 := Lib.hid (((New.refl w).alloc _).trans n6); have HB6 := Lib.hid (row_new HB.out n6); have c0 : w6.cell? ⟨H, 0, none⟩ = some (.int .i64 o.n) := (cell_of_row w6 H 0 _ _ _ HB6.out).trans rfl; have c1 : w6.cell? ⟨H, 1, none⟩ = some (.slice x1 o.A.length x2) := (cell_of_row w6 H 1 _ _ _ HB6.out).trans rfl; have c2 : w6.cell? ⟨H, 2, none⟩ = some (.slice x3 o.B.length x4) := (cell_of_row w6 H 2 _ _ _ HB6.out).trans rfl; have hHl : H < w6.heap.size := (Array.getElem?_eq_some_iff.1 HB6.out).1; clear n6) | (go_at_call 21; (with_reducible refine (HAL.out _ ?_).mono ?_); (· exact N6.out); rintro e w9 ⟨rfl, n9⟩; have N9 := Lib.hid (N6.out.trans n9); clear n9))
    go_ret
    exact ⟨rfl, N9.out⟩
  · go_enter Tryd.func3, Tryd.ntmps3
    go_upto_region 3 with (go_at_call 20; (with_reducible refine (HSL.out _ ?_).mono ?_); (· exact (New.refl w).alloc _); rintro e w6 ⟨rfl, n6⟩; have N6 := Lib.hid (((New.refl w).alloc _).trans n6); have HB6 := Lib.hid (row_new HB.out n6); have c0 : w6.cell? ⟨H, 0, none⟩ = some (.int .i64 o.n) := (cell_of_row w6 H 0 _ _ _ HB6.out).trans rfl; have c1 : w6.cell? ⟨H, 1, none⟩ = some (.slice x1 o.A.length x2) := (cell_of_row w6 H 1 _ _ _ HB6.out).trans rfl; have c2 : w6.cell? ⟨H, 2, none⟩ = some (.slice x3 o.B.length x4) := (cell_of_row w6 H 2 _ _ _ HB6.out).trans rfl; have hHl : H < w6.heap.size := (Array.getElem?_eq_some_iff.1 HB6.out).1; clear n6)
    have HSA6 := Lib.hid (fun (W1 : World) (hn : New w6 W1) => HSA.out W1 (N6.out.trans hn))
    have HSB6 := Lib.hid (fun (W1 : World) (hn : New w6 W1) => HSB.out W1 (N6.out.trans hn))
    clear HSA HSB
    first | refine wp_region_at2 (by kernel_rfl) (by kernel_rfl) ?_ | refine wp_region_at (by kernel_rfl) (by kernel_rfl) ?_
    repeat (go_big_quiet_step (first | (go_at_call 22; (with_reducible exact calls_new (HSA6.out _ (by (repeat (first | exact New.refl _ | apply New.alloc | apply New.aft | apply New.drew)))))) | (go_at_call 22; (with_reducible exact calls_new (HSB6.out _ (by (repeat (first | exact New.refl _ | apply New.alloc | apply New.aft | apply New.drew))))))))
    refine wpQuiet_nil ?_
    rintro U7 hq
    have HN7 := Lib.hid (show New w6 U7 from hq)
    clear hq
    have N7 := Lib.hid (N6.out.trans HN7.out)
    have HB7 := Lib.hid (row_new HB6.out HN7.out)
    clear c0 c1 c2 hHl
    have c0 : U7.cell? ⟨H, 0, none⟩ = some (.int .i64 o.n) := (cell_of_row U7 H 0 _ _ _ HB7.out).trans rfl
    have c1 : U7.cell? ⟨H, 1, none⟩ = some (.slice x1 o.A.length x2) := (cell_of_row U7 H 1 _ _ _ HB7.out).trans rfl
    have c2 : U7.cell? ⟨H, 2, none⟩ = some (.slice x3 o.B.length x4) := (cell_of_row U7 H 2 _ _ _ HB7.out).trans rfl
    have hHl : H < U7.heap.size := (Array.getElem?_eq_some_iff.1 HB7.out).1
    have HCK7 := Lib.hid (fun (W1 : World) (hn : New U7 W1) => HCK.out W1 (N7.out.trans hn))
    have HRC7 := Lib.hid (fun (W1 : World) (hn : New U7 W1) => HRC.out W1 (N7.out.trans hn))
    have HRS7 := Lib.hid (fun (W1 : World) (hn : New U7 W1) => HRS.out W1 (N7.out.trans hn))
    clear HCK HRC HRS HSA6 HSB6
    go_upto_region 4 with fail
    first | refine wp_region_at2 (by kernel_rfl) (by kernel_rfl) ?_ | refine wp_region_at (by kernel_rfl) (by kernel_rfl) ?_
    repeat (go_big_quiet_step (first | (go_at_call 23; (with_reducible exact calls_new (HCK7.out _ (by (repeat (first | exact New.refl _ | apply New.alloc | apply New.aft | apply New.drew)))))) | (go_at_call 24; (with_reducible exact calls_new (HRC7.out _ (by (repeat (first | exact New.refl _ | apply New.alloc | apply New.aft | apply New.drew)))))) | (go_at_call 25; (with_reducible exact calls_new (HRS7.out _ (by (repeat (first | exact New.refl _ | apply New.alloc | apply New.aft | apply New.drew))))))))
    refine wpQuiet_nil ?_
    rintro U8 hq
    have HN8 := Lib.hid (show New U7 U8 from hq)
    clear hq
    have N8 := Lib.hid (N7.out.trans HN8.out)
    rcases hp with ⟨rfl, rfl⟩ | ⟨rfl, rfl⟩ | ⟨rfl, rfl⟩ | ⟨rfl, rfl⟩
    all_goals
      go_wp2_with (go_at_call 21; (with_reducible refine (HAL.out _ ?_).mono ?_); (· exact N8.out); rintro e w9 ⟨rfl, n9⟩; have N9 := Lib.hid (N8.out.trans n9); clear n9)
      go_ret
      exact ⟨rfl, N9.out⟩
end Go.Proofs.YtiejefehcpfkaaaDoor
end
