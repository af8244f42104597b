/- The disk: Write where it writes. -/
import Derived.Test.YtcamcmcopkclfaaKd
set_option linter.unusedSimpArgs false
set_option linter.unusedVariables false
set_option maxRecDepth 100000
namespace Go.Proofs.Ytcamcmcopkclfaa
open Go.RowKit

theorem Dk.keep {O : Nat → Prop} {w w' : World} {base D S n : Nat} {pv : Value} {s : DS} (h : Dk w base D S n pv s) (hm : Mod O w w') (h1 : ¬ O D) (h2 : ¬ O S) (h3 : ∀ g, pv.ownBlock = some g → ¬ O g) : Dk w' base D S n pv s :=
  ⟨(hm.2 D (Array.getElem?_eq_some_iff.1 h.hD).1 h1).trans h.hD, (hm.2 S (Array.getElem?_eq_some_iff.1 h.hS).1 h2).trans h.hS, own_keep h.hP fun g hg => hm.2 g (h.hP.lt g hg).2 (h3 g hg), h.nDS, h.nD, h.nS, h.bD, h.bS, h.n0, h.n1, h.len, h.ok, h.cl, h.cs⟩
/-- a variable that is made and filled at once -/
theorem made_row {w : World} (H : Nat) (hH : w.heap.size = H) (Z B : Array Value) (t : TypeId) : New w ((w.alloc (.cells Z t)).setRow H B) ∧ ((w.alloc (.cells Z t)).setRow H B).heap[H]? = some (.cells B t (0, 0)) ∧ ((w.alloc (.cells Z t)).setRow H B).heap.size = H + 1 := by
  subst hH
  refine ⟨New.of_below ⟨rfl, rfl, rfl, by simp, fun k hk => ?_⟩, setRow_heap _ _ Z _ _ _ (World.alloc_heap_new w _), by simp⟩
  rw [setRow_other _ _ _ _ (by omega)]
  exact Below.heap_alloc _ _ _ hk

theorem wpAny_step {P : Program} {md : Region.Mode} {ops : Array Oper} {Q : Exit → Act → World → Prop} {fuel : Nat} {listed : Array Bool} {a : Act} {w : World} (i : Nat) (o : Oper) (hr : Region.ready md ops listed = [i]) (ho : ops[i]? = some o) (hw : Region.wanted o (yielded ops a.tmps) = true)
    (h : ∀ K : Act → World → Prop, (∀ a w, wpAny P md ops Q fuel (listed.setIfInBounds i true) a w → K a w) → Oper.wp P o a w K Q) : wpAny P md ops Q (fuel + 1) listed a w :=
  wpAny_ready hr (by simp) (AllReady.cons ho (fun K hK => by rw [if_pos hw]; exact h K hK) AllReady.nil)
theorem wpAny_step2 {P : Program} {md : Region.Mode} {ops : Array Oper} {Q : Exit → Act → World → Prop} {fuel : Nat} {listed : Array Bool} {a : Act} {w : World} (i j : Nat) (o p : Oper) (hr : Region.ready md ops listed = [i, j]) (ho : ops[i]? = some o) (hp : ops[j]? = some p) (hw : Region.wanted o (yielded ops a.tmps) = true) (hv : Region.wanted p (yielded ops a.tmps) = true)
    (h : ∀ K : Act → World → Prop, (∀ a w, wpAny P md ops Q fuel (listed.setIfInBounds i true) a w → K a w) → Oper.wp P o a w K Q)
    (k : ∀ K : Act → World → Prop, (∀ a w, wpAny P md ops Q fuel (listed.setIfInBounds j true) a w → K a w) → Oper.wp P p a w K Q) : wpAny P md ops Q (fuel + 1) listed a w :=
  wpAny_ready hr (by simp) (AllReady.cons ho (fun K hK => by rw [if_pos hw]; exact h K hK) (AllReady.cons hp (fun K hK => by rw [if_pos hv]; exact k K hK) AllReady.nil))
theorem wp_load_cell {P : Program} {op : Oper} {a : Act} {w : World} {K : Act → World → Prop} {Q : Exit → Act → World → Prop} (ty : TypeId) (x : Operand) (ho : op.op = .load ty x)
    (ad : Addr) (hx : a.eval x = .pointer (some ad)) (v : Value) (hc : w.cell? ad = some v) (d : TypeDesc) (hu : P.underlying ty = some d) (hd : d.isRow = false) (h : K (a.put op.dst v) w) : op.wp P a w K Q := by
  have hagg : (isAgg ty).run P w = .ok false w := by
    unfold isAgg
    rw [Sem.run_bind, run_underlying hu w]
    cases d <;> simp_all
  unfold Oper.wp execOp
  simp [ho, hx, Instr.loadAt, Instr.sureAddr, Sem.run_bind, Sem.run_pure, Result.andThen_ok, loadVar, hagg, run_load, hc]
  exact h

theorem wp_buildSlice1 {P : Program} {op : Oper} {a : Act} {w : World} {K : Act → World → Prop} {Q : Exit → Act → World → Prop} (t e : TypeId) (x : Operand) (ho : op.op = .buildSlice t 1 #[(0, x)])
    (cells : Array Value) (hx : a.eval x = .agg cells) (hu : P.underlying t = some (.slice e)) (i : TypeInfo) (hi : P.info? e = some i) (hs : i.size = cells.size) (Z : Array Value) (hz : i.zero = some (.agg Z)) (h0 : 0 < cells.size) (hb : cells.size ≤ 16777216)
    (h : K (a.put op.dst (.slice (some ⟨w.heap.size, 0, none⟩) 1 1)) (w.alloc (.cells cells e))) : op.wp P a w K Q := by
  have hf : ∀ cs : Array Value, cs.size = cells.size → Array.foldl (fun (cs : Array Value) (x : Value × Nat) => cs.setIfInBounds x.2 x.1) cs cells.zipIdx 0 cells.size = cells := by
    intro cs hcs
    have := fill_zip cells 0 cs (by omega)
    simp only [Nat.zero_add] at this
    rw [show cells.size = cells.zipIdx.size by simp, this]
    apply Array.ext'
    simp [splice, List.drop_eq_nil_of_le, hcs]
  have hn : ¬ 16777216 < cells.size := by omega
  have hne : cells.size ≠ 0 := by omega
  unfold Oper.wp execOp
  simp [ho, hx, Instr.buildSlice, run_underlying hu, sizeOf, typeInfo, hi, hs, zeroValue, hz, hn, hne, Instr.fill, Value.cells, newRow, Sem.run_bind, Sem.run_pure, Result.andThen_ok, Oper.upon]
  rw [hf _ (by simp)]
  exact h

theorem splice_bV (L : List UInt8) (o : Nat) (c : List UInt8) : splice (bV L) o (bV c) = bV (spl L o c) := by
  simp [splice, spl, bV, List.append_assoc]
/-- what Write leaves, out of its steps -/
theorem wrote_after {w w1 w2 w3 w4 wb w5 : World} {base D S n H a g cp : Nat} {pv : Value} {s : DS} {b : List UInt8} {BM : List Value} (hm1 : Mod (fun k => k = D) w w1) (hn2 : New w1 w2) (hm3 : Mod (fun k => k = H) w2 w3) (hH : w1.heap.size = H)
    (hk : Dk w3 base D S n pv s.count) (e4 : w4 = w3.drew.setCells S (a * 64) (bV (pad b))) (eb : wb = w4.drew.alloc (.cells BM.toArray 62)) (hBM : BM = pcell (cur s.dur s.pend) (a, pad b)) (hl : b.length ≤ 64) (ha : a < n)
    (hown : w5.ownsRow base 62 129 (.slice (some ⟨g, 0, none⟩) (s.pend.length + 1) cp) (s.pend.length + 1) (pcells s.dur s.pend ++ BM)) (hgrow : wb.grownBy w5 pv.ownBlock) (hat : pv.ownBlock = some g ∨ g = wb.heap.size) :
    After w base D S n pv (s.wrote a b) (w5.setCell ⟨D, 1, none⟩ (.slice (some ⟨g, 0, none⟩) (s.pend.length + 1) cp)) := by
  have l1 := (Array.getElem?_eq_some_iff.1 hk.hD).1
  have l2 := (Array.getElem?_eq_some_iff.1 hk.hS).1
  have l3 : ∀ g, pv.ownBlock = some g → g < w3.heap.size := fun g hg => (hk.hP.lt g hg).2
  have hpl := pad_length hl
  have hS4 : w4.heap[S]? = some (.cells (bV (spl (cur s.dur s.pend) (a * 64) (pad b))).toArray 60 (0, 0)) := by
    rw [e4, heap_setCells _ w3.drew S (a * 64) (bV (cur s.dur s.pend)) _ hk.hS (by rw [bV_length, bV_length, hpl]; have := hk.lenC; simp only [DS.count] at this; rw [this]; omega), splice_bV]
  have m34 : Mod (fun k => k = S) w3 w4 := by rw [e4]; exact (Mod.of_new (New.drew (New.refl w3))).trans (mod_setCells _ w3.drew S _)
  have m4b : Mod (fun _ => False) w4 wb := by rw [eb]; exact Mod.of_new ((New.drew (New.refl w4)).alloc _)
  have m45 : Mod (fun k => pv.ownBlock = some k) w4 w5 := (m4b.mono (fun _ h => h.elim)).trans (Mod.grown hgrow fun g hg => hg)
  have sz : w3.heap.size ≤ w5.heap.size := Nat.le_trans m34.size m45.size
  have sb : w3.heap.size ≤ wb.heap.size := Nat.le_trans m34.size m4b.size
  have hD5 : w5.heap[D]? = some (.cells (dCells S n pv s.count) 52 (0, 0)) :=
    (m45.2 D (Nat.lt_of_lt_of_le l1 m34.size) hk.nD).trans ((m34.2 D l1 hk.nDS).trans hk.hD)
  have hS5 := (m45.2 S (Nat.lt_of_lt_of_le l2 m34.size) hk.nS).trans hS4
  have hgD : g ≠ D := by
    rcases hat with h | h
    · intro e; exact hk.nD (by rw [h, e])
    · omega
  have hgS : g ≠ S := by
    rcases hat with h | h
    · intro e; exact hk.nS (by rw [h, e])
    · omega
  have s23 : w1.heap.size ≤ w3.heap.size := Nat.le_trans hn2.size hm3.size
  have mfull : Mod (OD D S pv) w (w5.setCell ⟨D, 1, none⟩ (.slice (some ⟨g, 0, none⟩) (s.pend.length + 1) cp)) := by
    have a1 : Mod (OD D S pv) w w1 := hm1.mono fun _ h => .inl h
    have a2 : Mod (fun k => k = D ∨ k = H) w w3 := ((hm1.mono fun _ h => .inl h).trans (Mod.of_new hn2)).trans (hm3.mono fun _ h => .inr h)
    have a3 : Mod (OD D S pv) w w3 := ⟨a2.1, fun k hkk hn => a2.2 k hkk (fun h => by
      rcases h with h | h
      · exact hn (.inl h)
      · have := hm1.size; omega)⟩
    exact ((a3.trans (m34.mono fun _ h => .inr (.inl h))).trans (m45.mono fun _ h => .inr (.inr h))).trans ((Mod.setD _ _ _ _).mono fun _ h => .inl h)
  refine ⟨.slice (some ⟨g, 0, none⟩) (s.pend.length + 1) cp, mfull, ?_, ?_⟩
  · refine ⟨by rw [heap_setCell_same _ _ _ _ hD5]; rfl, ?_, ?_, hk.nDS, by simp [Value.ownBlock]; exact hgD, by simp [Value.ownBlock]; exact hgS, hk.bD, hk.bS, hk.n0, hk.n1, hk.len, ?_, hk.cl, hk.cs⟩
    · rw [heap_setCell_other _ _ _ _ _ (fun e => hk.nDS e.symm), hS5]
      show _ = some (Obj.cells (bV (cur s.dur (s.pend ++ [(a, pad b)]))).toArray _ _)
      rw [cur_snoc]
    · show World.ownsRow _ _ _ _ _ (s.pend ++ [(a, pad b)]).length (pcells s.dur (s.pend ++ [(a, pad b)]))
      rw [List.length_append, List.length_singleton, pcells_snoc, ← hBM]
      exact own_keep hown fun g' hg' => heap_setCell_other _ _ _ _ _ (by simp [Value.ownBlock] at hg'; omega)
    · intro q hq
      show q.1 < n ∧ q.2.length = 64
      simp only [DS.wrote, List.mem_append, List.mem_singleton] at hq
      rcases hq with hq | rfl
      · exact hk.ok q hq
      · exact ⟨ha, hpl⟩
  · intro g' hg'
    simp only [Value.ownBlock, Option.some.injEq] at hg'
    subst hg'
    rcases hat with h | h
    · exact .inl h
    · right; have := hm1.size; omega

set_option maxHeartbeats 4000000 in
theorem write_yes {w : World} {base D S n : Nat} {pv : Value} {s : DS} {b : List UInt8} (h : Dk w base D S n pv s) (a : Nat) (ad : Option Addr) (cap : Nat) (hb : Bs w D (.slice ad b.length cap) b) (hr : refI s n (a : Int) = 0) (hl : b.length ≤ 64) (hf : s.fails = false) (hroom : s.pend.length ≤ 1000) :
    Calls Try.prog 11 #[.pointer (some ⟨D, 0, none⟩), .int .i64 (a : Int), .slice ad b.length cap] w fun e w' => e = .returned (.int .i64 0) ∧ After w base D S n pv (s.wrote a b) w' := by
  have HR := Lib.hid (refusal_c h (a : Int))
  obtain ⟨hdn, ha0, ha⟩ := refI_zero hr
  have HF := Lib.hid (fails_c h hdn)
  rw [hr] at HR
  have HD := Lib.hid h
  unfold DS.fails at hf
  rw [hf] at HF
  have hl' : (b.length : Int) ≤ 64 := by omega
  have HB := Lib.hid hb
  obtain ⟨m, hm⟩ : ∃ m, m = b.length := ⟨_, rfl⟩
  have hmn : b.length = Nat.min m 64 := by rw [hm]; exact (Nat.min_eq_left hl).symm
  rw [← hm] at hl' HB ⊢
  have Hm := Lib.hid hm
  have Hmn := Lib.hid hmn
  have hLC := h.lenC
  obtain ⟨CS, hCS⟩ : ∃ CS, CS = bV (sect (cur s.dur s.pend) a) := ⟨_, rfl⟩
  have hCl : CS.length = 64 := by rw [hCS, bV_length, sect_length _ _ (by omega)]
  have hR : ∀ w1, Dk w1 base D S n pv s.count → w1.rangeAt S (a * 64) CS := fun w1 hk => by
    have := range_of_block hk.hS (a * 64) 64
    rw [hCS]; simpa [sect, bV, DS.count] using this
  have HRg := Lib.hid hR
  obtain ⟨BL, hBL⟩ : ∃ BL : List Value, BL = .int .i64 (a : Int) :: (CS ++ bV (List.replicate 64 0)) := ⟨_, rfl⟩
  have HBl := Lib.hid (show BL.length = 129 by rw [hBL]; simp [hCl])
  have HBu := Lib.hid (show Try.prog.built 62 [(0, .int .i64 (a : Int)), (1, .agg CS.toArray)] = some BL.toArray by rw [hBL]; exact built62 (a : Int) CS hCl)
  have HB1 := Lib.hid (show ∀ v ∈ BL, v.oneCell' = true by
    intro v hv; rw [hBL, hCS] at hv; simp only [List.mem_cons, List.mem_append] at hv
    rcases hv with rfl | hv | hv
    · rfl
    · exact bV_one _ v hv
    · exact bV_one _ v hv)
  have HPos := Lib.hid (show ∀ w1 w2, Mod (fun k => k = D) w w1 → New w1 w2 → 0 < (bV b).length → ∃ ad', ad = some ad' ∧ ∀ j v, (bV b)[j]? = some v → w2.cell? (ad'.add j) = some v by
    intro w1 w2 hm1 hn2 hp
    obtain ⟨ad1, cap1, he, hb1⟩ := hb
    rw [bV_length] at hp
    obtain ⟨g, o, had, hrg, hgD⟩ := hb1 hp
    injection he with e1 e2 e3
    refine ⟨⟨g, o, none⟩, by rw [e1, had], fun j v hv => ?_⟩
    rw [Addr.add_mid]
    exact (range_mod (range_mod hrg hm1 (fun e => hgD e)) (Mod.of_new (O := fun _ => False) hn2) (fun h => h)) j v hv)
  obtain ⟨AF, hAF⟩ : ∃ AF, AF = bV (pad b) := ⟨_, rfl⟩
  have hAl : AF.length = 64 := by rw [hAF, bV_length, pad_length hl]
  have hA1 : ∀ v ∈ AF, v.oneCell' = true := by rw [hAF]; exact bV_one _
  obtain ⟨BM, hBM⟩ : ∃ BM : List Value, BM = .int .i64 (a : Int) :: (CS ++ AF) := ⟨_, rfl⟩
  have HSp := Lib.hid (show splice BL 65 (bV b) = BM by
    rw [hBM, hBL, hAF]
    simp only [splice, pad, bV_append, bV_length]
    have e1 : (Value.int .i64 (a : Int) :: (CS ++ bV (List.replicate 64 0))).take 65 = .int .i64 (a : Int) :: CS := by
      rw [List.take_succ_cons, List.take_append_of_le_length (by omega), List.take_of_length_le (by omega)]
    have e2 : (Value.int .i64 (a : Int) :: (CS ++ bV (List.replicate 64 0))).drop (65 + b.length) = bV (List.replicate (64 - b.length) 0) := by
      rw [show 65 + b.length = (64 + b.length) + 1 by omega, List.drop_succ_cons, List.drop_append, List.drop_eq_nil_of_le (by omega), List.nil_append, hCl, show 64 + b.length - 64 = b.length by omega, ← bV_drop]
      congr 1
      rw [List.drop_replicate]
    rw [e1, e2]; simp)
  have HBm := Lib.hid (show BM.length = 129 by rw [hBM]; simp [hCl, hAl])
  have HM1 := Lib.hid (show ∀ v ∈ BM, v.oneCell' = true by
    intro v hv; rw [hBM, hCS] at hv; simp only [List.mem_cons, List.mem_append] at hv
    rcases hv with rfl | hv | hv
    · rfl
    · exact bV_one _ v hv
    · exact hA1 v hv)
  have HAf := Lib.hid (show (BM.drop 65).take 64 = AF by
    rw [hBM, show 65 = 64 + 1 from rfl, List.drop_succ_cons, List.drop_append, List.drop_eq_nil_of_le (by omega), hCl]; simp; exact List.take_of_length_le (by omega))
  have HAF := Lib.hid hAF
  have HAl := Lib.hid hAl
  have HA1 := Lib.hid hA1
  have HBM := Lib.hid hBM
  have hDS : D ≠ S := HD.out.nDS
  clear hAF hAl hA1 hBM
  have HCS := Lib.hid hCS
  have HBL := Lib.hid hBL
  have HCl := Lib.hid hCl
  clear hf hr hdn h hb hm hl hR hCS hBL hCl hLC hmn
  go_enter Try.func11, Try.ntmps11
  go_wp2_with (first | (go_at_call 22; refine (HR.out).mono ?_; rintro e w' ⟨rfl, rfl⟩) | (go_at_call 23; refine (HF.out).mono ?_; rintro e w1 ⟨rfl, hm, hk⟩; have c0 := hk.c0; have HM := Lib.hid hm; have HK := Lib.hid hk; obtain ⟨H, hH⟩ : ∃ H, w1.heap.size = H := ⟨_, rfl⟩; have HH := Lib.hid hH; clear hm hk hH) | (refine wpList_load_mid rfl 60 (.tmp 26) rfl S (a * 64) rfl CS (.array 64 5) (HRg.out _ HK.out) Try.underlying60 rfl (by rw [HCl.out]; exact size60) ?_) | (refine wpList_built rfl 62 _ rfl BL.toArray (by simp only [List.map_toArray, List.map_cons, List.map_nil]; exact HBu.out) ?_) | (refine wpList_alloc_z rfl 62 rfl Z62 zero62 ?_; rw [HH.out]) | (refine wpList_store_row rfl 62 (.tmp 8) (.tmp 28) rfl H BL.toArray rfl rfl 62 Z62 ?_ ?_ ?_ ?_ ?_; exact (by rw [← HH.out]; exact World.alloc_heap_new _ _); exact (by rw [List.size_toArray, HBl.out]; exact size62); exact (show Z62.size = BL.length by rw [HBl.out]; rfl); exact (all_oneCell_toArray HB1.out); obtain ⟨w2, e2, n2, b2, s2⟩ : ∃ w2, w2 = (w1.alloc (.cells Z62 62)).setRow H BL.toArray ∧ New w1 w2 ∧ w2.heap[H]? = some (.cells BL.toArray 62 (0, 0)) ∧ w2.heap.size = H + 1 := ⟨_, rfl, made_row H HH.out _ _ _⟩; rw [← e2]; have N2 := Lib.hid n2; have B2 := Lib.hid b2; have S2 := Lib.hid s2; clear e2 n2 b2 s2) | (refine wpList_copy_mod rfl (.tmp 30) (.tmp 31) 33 33 rfl 5 Try.underlying33 size5 (some ⟨H, 65, none⟩) ad 64 64 m cap rfl rfl H 65 BL 62 B2.out (bV b) (by rw [bV_length]; exact Hmn.out) (fun hp => ⟨rfl, HPos.out _ _ HM.out N2.out hp⟩) (by rw [bV_length, HBl.out, ← Hm.out]; omega) (bV_one b) ?_; intro w3 hb3 hm3; have B3 := Lib.hid (show w3.heap[H]? = some (.cells BM.toArray 62 (0, 0)) by rw [← HSp.out]; exact hb3.out); have M3 := hm3; clear hb3 hm3))
  have K3 := Lib.hid (show Dk w3 base D S n pv s.count from by
    have k1 := HK.out
    have l1 := (Array.getElem?_eq_some_iff.1 k1.hD).1
    have l2 := (Array.getElem?_eq_some_iff.1 k1.hS).1
    have l3 : ∀ g, pv.ownBlock = some g → g < w1.heap.size := fun g hg => (k1.hP.lt g hg).2
    rw [HH.out] at l1 l2 l3
    exact (k1.keep (Mod.of_new (O := fun _ => False) N2.out) (fun h => h) (fun h => h) (fun _ _ h => h)).keep M3.out (by omega) (by omega) (fun g hg e => by have := l3 g hg; omega))
  have hHS : H ≠ S := by have := (Array.getElem?_eq_some_iff.1 HK.out.hS).1; rw [HH.out] at this; omega
  have hHD : H ≠ D := by have := (Array.getElem?_eq_some_iff.1 HK.out.hD).1; rw [HH.out] at this; omega
  have c3 := K3.out.c0
  have r3 : w3.rangeAt H 65 AF := by have := range_of_block B3.out 65 64; rw [HAf.out] at this; exact this
  have t3 : w3.there S (a * 64) 64 := there_of_block K3.out.hS _ _ (by have := K3.out.lenC; rw [bV_length, this]; omega)
  have hu := Try.underlying60
  have hi : (Try.prog.info? 60).map (·.size) = some AF.length := by rw [HAl.out]; exact size60
  have hal := HAl.out
  have ha1 := HA1.out
  clear c0
  go_region_held3 (fun w' => w'.cell? ⟨D, 0, none⟩ = some (.slice (some ⟨S, 0, none⟩) n n) ∧ w'.rangeAt H 65 AF ∧ w'.there S (a * 64) 64) ((go_split_ands; refine ⟨?_, ?_, ?_⟩ <;> first | assumption | (rw [World.cell?_setCells_out _ _ _ _ _ (fun e => absurd e hDS)]; assumption) | (apply World.there_setCells; assumption) | (refine World.rangeAt_setCells_apart (by assumption) _ _ _ (by omega)))) (fail)
  clear hu hi c3 r3 t3
  obtain ⟨w4, e4⟩ : ∃ w4, w4 = w3.drew.setCells S (a * 64) AF := ⟨_, rfl⟩
  rw [← e4]
  have E4 := Lib.hid e4
  clear e4
  go_wp2_with fail
  refine wp_region_any (by kernel_rfl) ?_
  change wpAny _ _ _ _ _ _ _ (World.drew w4)
  refine wpAny_take (i := 0) (oi := { dst := some 41, op := .move (.tmp 0), type := _, pos := _, after := _, guard := _ }) (v := .pointer (some ⟨D, 0, none⟩)) rfl (by kernel_rfl) (by kernel_rfl) (by kernel_rfl) (fun _ _ _ h => h) (Or.inl ⟨by rfl, by intro w; go_simp⟩) ?_
  simp only [Act.put, List.setIfInBounds_toArray, List.set_cons_zero, List.set_cons_succ]
  refine wpAny_take (i := 1) (oi := { dst := some 42, op := .move (.tmp 0), type := _, pos := _, after := _, guard := _ }) (v := .pointer (some ⟨D, 0, none⟩)) rfl (by kernel_rfl) (by kernel_rfl) (by kernel_rfl) (fun _ _ _ h => h) (Or.inl ⟨by rfl, by intro w; go_simp⟩) ?_
  simp only [Act.put, List.setIfInBounds_toArray, List.set_cons_zero, List.set_cons_succ]
  refine wpAny_take (i := 2) (oi := { dst := some 43, op := .nilCheck (.tmp 42), type := _, pos := _, after := _, guard := _ }) (v := .pointer (some ⟨D, 0, none⟩)) rfl (by kernel_rfl) (by kernel_rfl) (by kernel_rfl) (fun _ _ _ h => h) (Or.inl ⟨by rfl, by intro w; go_simp⟩) ?_
  simp only [Act.put, List.setIfInBounds_toArray, List.set_cons_zero, List.set_cons_succ]
  refine wpAny_take (i := 3) (oi := { dst := some 44, op := .fieldAddr 52 (.tmp 43) 1, type := _, pos := _, after := _, guard := _ }) (v := .pointer (some ⟨D, 1, none⟩)) rfl (by kernel_rfl) (by kernel_rfl) (by kernel_rfl) (fun _ _ _ h => h) (Or.inl ⟨by rfl, by intro w; go_simp⟩) ?_
  simp only [Act.put, List.setIfInBounds_toArray, List.set_cons_zero, List.set_cons_succ]
  have c4 : w4.drew.cell? ⟨D, 1, none⟩ = some pv := by
    show w4.cell? _ = _
    rw [E4.out, World.cell?_setCells_out _ _ _ _ _ (fun e => absurd e hDS)]; exact K3.out.c1
  have r4 : w4.drew.rangeAt H 0 BM := by
    have := range_of_block B3.out 0 129
    rw [List.drop_zero, List.take_of_length_le (by rw [HBm.out]; omega)] at this
    show w4.rangeAt H 0 BM
    rw [E4.out]; exact World.rangeAt_setCells_apart (w := w3.drew) this _ _ _ (.inl hHS)
  have c4a : (w4.drew.alloc (.cells BM.toArray 62)).cell? ⟨D, 1, none⟩ = some pv := by
    rw [World.cell?_alloc_lt _ _ _ (World.block_lt_of_cell? _ _ c4)]; exact c4
  have r4a := World.rangeAt_alloc r4 (.cells BM.toArray 62)
  obtain ⟨i0, hi0, his, hib, hiz⟩ : ∃ i0, Try.prog.info? 62 = some i0 ∧ i0.size = 129 ∧ i0.bytes = 136 ∧ i0.zero = some (.agg Z62) := by
    have h1 := zero62; have h2 := size62; have h3 := bytes62
    cases hq : Try.prog.info? 62 with
    | none => rw [hq] at h1; simp at h1
    | some i => rw [hq] at h1 h2 h3; simp at h1 h2 h3; exact ⟨i, rfl, h2, h3, h1⟩
  obtain ⟨wb, eb⟩ : ∃ wb, wb = w4.drew.alloc (.cells BM.toArray 62) := ⟨_, rfl⟩
  obtain ⟨G, hG⟩ : ∃ G, G = w4.drew.heap.size := ⟨_, rfl⟩
  have HWB := Lib.hid (show Mod (fun k => k = S) w3 wb by
    rw [eb, E4.out]
    exact ((Mod.of_new (New.drew (New.refl w3))).trans (mod_setCells AF w3.drew S (a * 64))).trans (Mod.of_new ((New.drew (New.refl _)).alloc _)))
  have HDB := Lib.hid (show D < wb.heap.size ∧ wb.heap[D]? = some (.cells (dCells S n pv s.count) 52 (0, 0)) from
    ⟨Nat.lt_of_lt_of_le (Array.getElem?_eq_some_iff.1 K3.out.hD).1 HWB.out.size, (HWB.out.2 D (Array.getElem?_eq_some_iff.1 K3.out.hD).1 hDS).trans K3.out.hD⟩)
  have HOB := Lib.hid (show wb.ownsRow base 62 129 pv s.pend.length (pcells s.dur s.pend) from own_keep K3.out.hP fun g hg => HWB.out.2 g (K3.out.hP.lt g hg).2 (fun e => K3.out.nS (by rw [hg, e])))
  have HNB := Lib.hid (show ∀ j u, BM[j]? = some u → wb.cell? ((⟨G, 0, none⟩ : Addr).add j) = some u by
    rw [eb]; exact cells_new _ _ _ _ hG)
  have HBB := Lib.hid (show base ≤ wb.heap.size by have := HDB.out.1; have := K3.out.bD; omega)
  have HBM2 := Lib.hid (show BM = pcell (cur s.dur s.pend) (a, pad b) by rw [HBM.out, HCS.out, HAF.out]; rfl)
  have HLB := Lib.hid (show b.length ≤ 64 by rw [← Hm.out]; omega)
  have HAN := Lib.hid (show a < n by omega)
  refine wpAny_step2 4 5 { dst := some 45, op := .load 50 (.tmp 44), type := _, pos := _, after := _, guard := _ } { dst := some 46, op := .load 62 (.tmp 8), type := _, pos := _, after := _, guard := _ } (by kernel_rfl) rfl rfl (by rfl) (by rfl) (fun K hK => ?_) (fun K hK => ?_)
  · (refine wp_load_cell 50 (.tmp 44) rfl ⟨D, 1, none⟩ rfl pv (by first | exact c4 | exact c4a) (.slice 62) Try.underlying50 rfl ?_; refine hK _ _ ?_; clear hK K; simp only [Act.put, List.setIfInBounds_toArray, List.set_cons_zero, List.set_cons_succ])
    (refine wpAny_step 5 { dst := some 46, op := .load 62 (.tmp 8), type := _, pos := _, after := _, guard := _ } (by kernel_rfl) rfl (by rfl) (fun K hK => ?_); (refine wp_load_mid 62 (.tmp 8) rfl H 0 rfl BM _ (by first | exact r4 | exact r4a) Try.underlying62 rfl (by rw [HBm.out]; exact size62) ?_; refine hK _ _ ?_; clear hK K; simp only [Act.put, List.setIfInBounds_toArray, List.set_cons_zero, List.set_cons_succ]))
    (refine wpAny_step 6 { dst := some 47, op := .buildSlice 50 1 #[(0, .tmp 46)], type := _, pos := _, after := _, guard := _ } (by kernel_rfl) rfl (by rfl) (fun K hK => ?_); (refine wp_buildSlice1 50 62 (.tmp 46) rfl BM.toArray rfl Try.underlying50 i0 hi0 (by rw [his]; exact HBm.out.symm) Z62 hiz (by show 0 < BM.length; rw [HBm.out]; omega) (by show BM.length ≤ _; rw [HBm.out]; omega) ?_; refine hK _ _ ?_; clear hK K; simp only [Act.put, List.setIfInBounds_toArray, List.set_cons_zero, List.set_cons_succ]))
    rw [← eb, ← hG]
    refine wpAny_step 7 { dst := some 48, op := .call { callee := .builtin .append, args := #[.tmp 45, .tmp 47], argTypes := #[50, 50] }, type := _, pos := _, after := _, guard := _ } (by kernel_rfl) rfl (by rfl) (fun K hK => ?_)
    refine wp_append_lies wb (.tmp 45) (.tmp 47) 50 rfl base 62 i0 (.agg Z62) 129 136 Try.underlying50 hi0 hiz his hib (show Z62.size = 129 from rfl) (by omega) pv s.pend.length (pcells s.dur s.pend) rfl HOB.out ⟨G, 0, none⟩ 1 1 BM rfl (by rw [HBm.out]) HNB.out HM1.out (by omega) (by unfold maxLen; omega) (by omega) HBB.out _ rfl ?_
    intro g cp w5 hown5 hgrow5 hat5 hlt5
    refine hK _ _ ?_
    clear hK K
    simp only [Act.put, List.setIfInBounds_toArray, List.set_cons_zero, List.set_cons_succ]
    have h5 := (hgrow5.block D HDB.out.1 (fun e => K3.out.nD e.symm)).trans HDB.out.2
    have c5 : w5.cell? ⟨D, 1, none⟩ = some pv := by rw [cell_of_row w5 D 1 _ _ _ h5]; rfl
    have f5 : w5.frozen? ⟨D, 1, none⟩ = false := by simp [World.frozen?, h5]
    have FIN := Lib.hid (wrote_after HM.out N2.out M3.out HH.out K3.out (by rw [← HAF.out]; exact E4.out) eb HBM2.out HLB.out HAN.out hown5 hgrow5 hat5)
    clear h5 hown5 hgrow5 hat5 hlt5
    refine wpAny_take (i := 8) (oi := { dst := some 49, op := .nilCheck (.tmp 41), type := _, pos := _, after := _, guard := _ }) (v := .pointer (some ⟨D, 0, none⟩)) rfl (by kernel_rfl) (by kernel_rfl) (by kernel_rfl) (fun _ _ _ h => h) (Or.inl ⟨by rfl, by intro w; go_simp⟩) ?_
    simp only [Act.put, List.setIfInBounds_toArray, List.set_cons_zero, List.set_cons_succ]
    refine wpAny_take (i := 9) (oi := { dst := some 50, op := .fieldAddr 52 (.tmp 49) 1, type := _, pos := _, after := _, guard := _ }) (v := .pointer (some ⟨D, 1, none⟩)) rfl (by kernel_rfl) (by kernel_rfl) (by kernel_rfl) (fun _ _ _ h => h) (Or.inl ⟨by rfl, by intro w; go_simp⟩) ?_
    simp only [Act.put, List.setIfInBounds_toArray, List.set_cons_zero, List.set_cons_succ]
    refine wpAny_step 10 { dst := none, op := .store 50 (.tmp 50) (.tmp 48), type := _, pos := _, after := _, guard := _ } (by kernel_rfl) rfl (by rfl) (fun K hK => ?_)
    go_simp
    refine hK _ _ ?_
    clear hK K
    refine wpAny_done (by kernel_rfl) ?_ _
    go_wp2_with fail
    go_ret
    exact ⟨rfl, FIN.out⟩
  · (refine wp_load_mid 62 (.tmp 8) rfl H 0 rfl BM _ (by first | exact r4 | exact r4a) Try.underlying62 rfl (by rw [HBm.out]; exact size62) ?_; refine hK _ _ ?_; clear hK K; simp only [Act.put, List.setIfInBounds_toArray, List.set_cons_zero, List.set_cons_succ])
    refine wpAny_step2 4 6 { dst := some 45, op := .load 50 (.tmp 44), type := _, pos := _, after := _, guard := _ } { dst := some 47, op := .buildSlice 50 1 #[(0, .tmp 46)], type := _, pos := _, after := _, guard := _ } (by kernel_rfl) rfl rfl (by rfl) (by rfl) (fun K hK => ?_) (fun K hK => ?_)
    · (refine wp_load_cell 50 (.tmp 44) rfl ⟨D, 1, none⟩ rfl pv (by first | exact c4 | exact c4a) (.slice 62) Try.underlying50 rfl ?_; refine hK _ _ ?_; clear hK K; simp only [Act.put, List.setIfInBounds_toArray, List.set_cons_zero, List.set_cons_succ])
      (refine wpAny_step 6 { dst := some 47, op := .buildSlice 50 1 #[(0, .tmp 46)], type := _, pos := _, after := _, guard := _ } (by kernel_rfl) rfl (by rfl) (fun K hK => ?_); (refine wp_buildSlice1 50 62 (.tmp 46) rfl BM.toArray rfl Try.underlying50 i0 hi0 (by rw [his]; exact HBm.out.symm) Z62 hiz (by show 0 < BM.length; rw [HBm.out]; omega) (by show BM.length ≤ _; rw [HBm.out]; omega) ?_; refine hK _ _ ?_; clear hK K; simp only [Act.put, List.setIfInBounds_toArray, List.set_cons_zero, List.set_cons_succ]))
      rw [← eb, ← hG]
      refine wpAny_step 7 { dst := some 48, op := .call { callee := .builtin .append, args := #[.tmp 45, .tmp 47], argTypes := #[50, 50] }, type := _, pos := _, after := _, guard := _ } (by kernel_rfl) rfl (by rfl) (fun K hK => ?_)
      refine wp_append_lies wb (.tmp 45) (.tmp 47) 50 rfl base 62 i0 (.agg Z62) 129 136 Try.underlying50 hi0 hiz his hib (show Z62.size = 129 from rfl) (by omega) pv s.pend.length (pcells s.dur s.pend) rfl HOB.out ⟨G, 0, none⟩ 1 1 BM rfl (by rw [HBm.out]) HNB.out HM1.out (by omega) (by unfold maxLen; omega) (by omega) HBB.out _ rfl ?_
      intro g cp w5 hown5 hgrow5 hat5 hlt5
      refine hK _ _ ?_
      clear hK K
      simp only [Act.put, List.setIfInBounds_toArray, List.set_cons_zero, List.set_cons_succ]
      have h5 := (hgrow5.block D HDB.out.1 (fun e => K3.out.nD e.symm)).trans HDB.out.2
      have c5 : w5.cell? ⟨D, 1, none⟩ = some pv := by rw [cell_of_row w5 D 1 _ _ _ h5]; rfl
      have f5 : w5.frozen? ⟨D, 1, none⟩ = false := by simp [World.frozen?, h5]
      have FIN := Lib.hid (wrote_after HM.out N2.out M3.out HH.out K3.out (by rw [← HAF.out]; exact E4.out) eb HBM2.out HLB.out HAN.out hown5 hgrow5 hat5)
      clear h5 hown5 hgrow5 hat5 hlt5
      refine wpAny_take (i := 8) (oi := { dst := some 49, op := .nilCheck (.tmp 41), type := _, pos := _, after := _, guard := _ }) (v := .pointer (some ⟨D, 0, none⟩)) rfl (by kernel_rfl) (by kernel_rfl) (by kernel_rfl) (fun _ _ _ h => h) (Or.inl ⟨by rfl, by intro w; go_simp⟩) ?_
      simp only [Act.put, List.setIfInBounds_toArray, List.set_cons_zero, List.set_cons_succ]
      refine wpAny_take (i := 9) (oi := { dst := some 50, op := .fieldAddr 52 (.tmp 49) 1, type := _, pos := _, after := _, guard := _ }) (v := .pointer (some ⟨D, 1, none⟩)) rfl (by kernel_rfl) (by kernel_rfl) (by kernel_rfl) (fun _ _ _ h => h) (Or.inl ⟨by rfl, by intro w; go_simp⟩) ?_
      simp only [Act.put, List.setIfInBounds_toArray, List.set_cons_zero, List.set_cons_succ]
      refine wpAny_step 10 { dst := none, op := .store 50 (.tmp 50) (.tmp 48), type := _, pos := _, after := _, guard := _ } (by kernel_rfl) rfl (by rfl) (fun K hK => ?_)
      go_simp
      refine hK _ _ ?_
      clear hK K
      refine wpAny_done (by kernel_rfl) ?_ _
      go_wp2_with fail
      go_ret
      exact ⟨rfl, FIN.out⟩
    · (refine wp_buildSlice1 50 62 (.tmp 46) rfl BM.toArray rfl Try.underlying50 i0 hi0 (by rw [his]; exact HBm.out.symm) Z62 hiz (by show 0 < BM.length; rw [HBm.out]; omega) (by show BM.length ≤ _; rw [HBm.out]; omega) ?_; refine hK _ _ ?_; clear hK K; simp only [Act.put, List.setIfInBounds_toArray, List.set_cons_zero, List.set_cons_succ])
      (refine wpAny_step 4 { dst := some 45, op := .load 50 (.tmp 44), type := _, pos := _, after := _, guard := _ } (by kernel_rfl) rfl (by rfl) (fun K hK => ?_); (refine wp_load_cell 50 (.tmp 44) rfl ⟨D, 1, none⟩ rfl pv (by first | exact c4 | exact c4a) (.slice 62) Try.underlying50 rfl ?_; refine hK _ _ ?_; clear hK K; simp only [Act.put, List.setIfInBounds_toArray, List.set_cons_zero, List.set_cons_succ]))
      rw [← eb, ← hG]
      refine wpAny_step 7 { dst := some 48, op := .call { callee := .builtin .append, args := #[.tmp 45, .tmp 47], argTypes := #[50, 50] }, type := _, pos := _, after := _, guard := _ } (by kernel_rfl) rfl (by rfl) (fun K hK => ?_)
      refine wp_append_lies wb (.tmp 45) (.tmp 47) 50 rfl base 62 i0 (.agg Z62) 129 136 Try.underlying50 hi0 hiz his hib (show Z62.size = 129 from rfl) (by omega) pv s.pend.length (pcells s.dur s.pend) rfl HOB.out ⟨G, 0, none⟩ 1 1 BM rfl (by rw [HBm.out]) HNB.out HM1.out (by omega) (by unfold maxLen; omega) (by omega) HBB.out _ rfl ?_
      intro g cp w5 hown5 hgrow5 hat5 hlt5
      refine hK _ _ ?_
      clear hK K
      simp only [Act.put, List.setIfInBounds_toArray, List.set_cons_zero, List.set_cons_succ]
      have h5 := (hgrow5.block D HDB.out.1 (fun e => K3.out.nD e.symm)).trans HDB.out.2
      have c5 : w5.cell? ⟨D, 1, none⟩ = some pv := by rw [cell_of_row w5 D 1 _ _ _ h5]; rfl
      have f5 : w5.frozen? ⟨D, 1, none⟩ = false := by simp [World.frozen?, h5]
      have FIN := Lib.hid (wrote_after HM.out N2.out M3.out HH.out K3.out (by rw [← HAF.out]; exact E4.out) eb HBM2.out HLB.out HAN.out hown5 hgrow5 hat5)
      clear h5 hown5 hgrow5 hat5 hlt5
      refine wpAny_take (i := 8) (oi := { dst := some 49, op := .nilCheck (.tmp 41), type := _, pos := _, after := _, guard := _ }) (v := .pointer (some ⟨D, 0, none⟩)) rfl (by kernel_rfl) (by kernel_rfl) (by kernel_rfl) (fun _ _ _ h => h) (Or.inl ⟨by rfl, by intro w; go_simp⟩) ?_
      simp only [Act.put, List.setIfInBounds_toArray, List.set_cons_zero, List.set_cons_succ]
      refine wpAny_take (i := 9) (oi := { dst := some 50, op := .fieldAddr 52 (.tmp 49) 1, type := _, pos := _, after := _, guard := _ }) (v := .pointer (some ⟨D, 1, none⟩)) rfl (by kernel_rfl) (by kernel_rfl) (by kernel_rfl) (fun _ _ _ h => h) (Or.inl ⟨by rfl, by intro w; go_simp⟩) ?_
      simp only [Act.put, List.setIfInBounds_toArray, List.set_cons_zero, List.set_cons_succ]
      refine wpAny_step 10 { dst := none, op := .store 50 (.tmp 50) (.tmp 48), type := _, pos := _, after := _, guard := _ } (by kernel_rfl) rfl (by rfl) (fun K hK => ?_)
      go_simp
      refine hK _ _ ?_
      clear hK K
      refine wpAny_done (by kernel_rfl) ?_ _
      go_wp2_with fail
      go_ret
      exact ⟨rfl, FIN.out⟩

end Go.Proofs.Ytcamcmcopkclfaa
