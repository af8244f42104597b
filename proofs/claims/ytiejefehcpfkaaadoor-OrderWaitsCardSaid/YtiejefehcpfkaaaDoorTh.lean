/- The reasons of an order, as Reasons returns them. Lists of at most 24 places. -/
import Derived.Test.YtiejefehcpfkaaaDoorTg
set_option linter.unusedSimpArgs false
set_option linter.unusedVariables false
set_option maxRecDepth 100000
namespace Go.Proofs.YtiejefehcpfkaaaDoor
open Go.RowKit Go.Shelf

attribute [local go_sem] Oper.semAt_some

theorem neF_low {n : Int} {L : List (Int × Int)} (h : arB n L = true) (hn : n ≤ 24) : ∀ k, k ≤ L.length → ∀ p i, (neF L k p).testBit i = true → i < n.toNat
  | 0, _, p, i, hb => by simp [neF] at hb
  | k + 1, hk, p, i, hb => by
    have ih := neF_low h hn k (by omega)
    have hp := arB_in h k (by omega)
    have one : ∀ (f : Nat → Nat), (∀ p i, (f p).testBit i = true → i < n.toNat) → ∀ a b, b < n.toNat → ∀ p i, (addL f a b p).testBit i = true → i < n.toNat := by
      intro f hf a b hb p i hi
      simp only [addL, upd] at hi
      split at hi
      · rw [Nat.testBit_or, Bool.or_eq_true] at hi
        rcases hi with hi | hi
        · exact hf _ i hi
        · rw [Nat.testBit_two_pow] at hi
          have e : b = i := by simpa using hi
          omega
      · exact hf _ i hi
    exact one _ (one _ ih _ _ (by unfold bN; omega)) _ _ (by unfold aN; omega) p i hb
theorem opG_ne {o : Prb} (av nv : Value) (h : chkI o = 0) : ∀ p i, ((opG o av nv).ne p).testBit i = true → i < (opG o av nv).n := fun p i hb => by
  obtain ⟨h1, h2, h3, _⟩ := chkI_zero h
  exact neF_low h3 (by omega) _ (Nat.le_refl _) p i hb
theorem ins_take {w : World} {av : Option Addr} {l : List Int} (h : Ins w av l) (k : Nat) (hk : k ≤ l.length) : Ins w av (l.take k) := fun h0 => by
  rw [List.length_take] at h0
  obtain ⟨b, off, e, hb, hc⟩ := h (by omega)
  refine ⟨b, off, e, hb, fun i hi => ?_⟩
  rw [List.length_take] at hi
  rw [nI_take (by omega)]; exact hc i (by omega)
theorem rea_info : (Tryd.prog.info? 75).map (fun i => (i.zero, i.size, i.bytes)) = some (some (.agg #[.int .i64 0, .int .i64 0, .int .u8 0]), 3, 24) := by kernel_rfl
def reaCells (rs : List (Int × Int × Int)) : List Value := rs.flatMap fun r => [.int .i64 r.1, .int .i64 r.2.1, .int .u8 r.2.2]
theorem reaCells_snoc (rs : List (Int × Int × Int)) (r : Int × Int × Int) : reaCells (rs ++ [r]) = reaCells rs ++ [.int .i64 r.1, .int .i64 r.2.1, .int .u8 r.2.2] := by simp [reaCells]
/-- the reasons from place i back -/
def rsL (G : Gph) (dry : Int) (l : List Int) (D : Nat → Int) : Nat → Int → List (Int × Int × Int)
  | 0, _ => []
  | f + 1, i => if i < 0 then [] else reaI G dry (l.take (i.toNat + 1)) D :: rsL G dry l D f (idxF l (reaI G dry (l.take (i.toNat + 1)) D).2.1)
def reasonsL (G : Gph) (dry : Int) (l : List Int) : List (Int × Int × Int) := rsL G dry l (erF G dry l l.length) l.length (l.length - 1)

theorem setCell_gr {w : World} {b g o : Nat} (h : g ≠ b) (v : Value) : (w.setCell ⟨b, o, none⟩ v).heap[g]? = w.heap[g]? := heap_setCell_other _ _ _ _ _ h
set_option maxHeartbeats 8000000 in
theorem reasons_good {w : World} {v : Value} {o : Prb} {av nv : Value} (h : PrbA w v o av nv) (d : Int) (lv : Option Addr) (lc : Nat) (l : List Int) (hl : l.length ≤ 17592186044415) (hcap : l.length ≤ lc) (hP : Ins w lv l) (hT : Tab w) (hc : dryO o av nv d l = 0) :
    Calls Tryd.prog 59 #[v, .int .i64 d, .slice lv l.length lc] w fun en w' => ∃ u, en = .returned (.tuple #[u, .int .i64 0]) ∧ New w w' ∧ w'.ownsRow w.heap.size 75 3 u (reasonsL (opG o av nv) d l).length (reaCells (reasonsL (opG o av nv) d l)) := by
  have HO := Lib.hid (fun (w1 : World) (hn : New w w1) => openDryOrder_c (h.new hn) d lv lc l hl (hP.new hn))
  have hOK := opR_ok h.sh
  have hv := h.eq
  obtain ⟨x1, x2, x3, x4, e1, e2⟩ := h.sh
  clear h
  have hd : dryI o d = 0 ∧ ioB (opG o av nv) l = true := by
    unfold dryO at hc
    split at hc
    · rename_i h; exact absurd hc h
    · rename_i h
      cases hb : ioB (opG o av nv) l
      · rw [hb] at hc; cases hc
      · exact ⟨by simpa using h, rfl⟩
  obtain ⟨hk, hd0, hd1⟩ := dryI_chk hd.1
  rw [opR_good hk] at hOK
  rw [hc, ofG_good hk] at HO
  obtain ⟨dn, rfl⟩ : ∃ dn : Nat, d = dn := ⟨d.toNat, by omega⟩
  have HOK := Lib.hid hOK
  have HIO := Lib.hid hd.2
  have HNE := Lib.hid (opG_ne (o := o) av nv hk)
  have hdn : dn ≤ 30 := by omega
  have HEA := Lib.hid (fun (w1 : World) (hn : New w w1) => earliest_c (opG o av nv) dn lv lc l w1 hOK hd.2 hdn (hP.new hn) (hT.new hn))
  have hlen := (ioB_facts hd.2).1
  have hn24 := hOK.n24
  have HP := Lib.hid hP
  have HT := Lib.hid hT
  clear hP hOK hT hd hk hc hd0 hd1
  generalize opG o av nv = RG at *
  have HD := Lib.hid (fun q => erF_bd hdn HIO.out l.length (Nat.le_refl _) q)
  have HBK := Lib.hid (fun (i : Nat) (hi : i < l.length) => rea_back (dry := dn) HIO.out hi (by omega))
  have HTOT := Lib.hid (show reasonsL RG (dn : Int) l = [] ++ rsL RG (dn : Int) l (erF RG (dn : Int) l l.length) l.length ((l.length : Int) - 1) from rfl)
  have HRS := Lib.hid (show ∀ f i, rsL RG (dn : Int) l (erF RG (dn : Int) l l.length) (f + 1) i = if i < 0 then [] else reaI RG dn (l.take (i.toNat + 1)) (erF RG (dn : Int) l l.length) :: rsL RG (dn : Int) l (erF RG (dn : Int) l l.length) f (idxF l (reaI RG dn (l.take (i.toNat + 1)) (erF RG (dn : Int) l l.length)).2.1) from fun _ _ => rfl)
  have HRZ := Lib.hid (show ∀ f i, i < 0 → rsL RG (dn : Int) l (erF RG (dn : Int) l l.length) f i = [] from fun f i hi => by
    cases f
    · rfl
    · unfold rsL; rw [if_pos hi])
  have HH2 := Lib.hid (fun (i : Nat) (hi : i < l.length) => (fun hne => by
    rcases Nat.eq_zero_or_pos i with h0 | h0
    · exfalso; subst h0; exact hne (er_first HIO.out hi)
    · omega : erF RG (dn : Int) l l.length (nI l i).toNat ≠ 0 → 2 ≤ i + 1))
  have hln : l.length = RG.n := by omega
  obtain ⟨D, hD⟩ : ∃ D, erF RG (dn : Int) l l.length = D := ⟨_, rfl⟩
  have HDE := Lib.hid (show erF RG (dn : Int) l RG.n = D from by rw [← hln]; exact hD)
  rw [hD] at HD HBK HTOT HRS HRZ HH2
  rw [HDE.out] at HEA
  have hw1 : IntKind.i64.wrap ((l.length : Int) - 1) = (l.length : Int) - 1 := IntWalk.i64_in _ (by omega)
  have HLN := Lib.hid hln
  clear hD hlen hln
  generalize hN : l.length = N at *
  have HNL := Lib.hid hN
  clear hN
  subst hv
  subst e1 e2
  go_enter Tryd.func59, Tryd.ntmps59
  go_wp2_with (first | (go_at_call 118; (with_reducible refine (HO.out _ ?_).mono ?_); (repeat (first | exact New.refl _ | apply New.alloc)); rintro e w6 ⟨rfl, n6⟩; have HN := Lib.hid (((New.refl w).alloc _).trans n6); clear n6) | (refine wpList_store_graph rfl (.tmp 8) (.tmp 19) rfl rfl rfl HOK.out ?_; intro w7 n7 g7; obtain ⟨g, hg⟩ : ∃ g, w6.heap.size = g := ⟨_, rfl⟩; simp only [hg] at g7 ⊢; have N7 := Lib.hid (HN.out.trans n7); have G7 := Lib.hid g7; clear n7 g7) | (refine wpList_get_graph rfl (.tmp 8) rfl g rfl G7.out ?_) | (go_at_call 119; (with_reducible refine (HEA.out _ ?_).mono ?_); (· exact N7.out); rintro e w8 ⟨b8, c8, rfl, n8, z8, iv8⟩; have N8 := Lib.hid (N7.out.trans n8); have Z8 := Lib.hid (Nat.le_trans N7.out.size z8); have I8 := Lib.hid iv8; have G8 := Lib.hid (G7.out.new n8); clear n8 z8 iv8))
  obtain ⟨i0, hi, hz0, hz1, hz2⟩ := info_parts rea_info
  obtain ⟨K, hK0⟩ : ∃ K, w8.heap.size = K := ⟨_, rfl⟩
  have HK0 := Lib.hid hK0
  have hgK : g < K := by rw [← hK0]; exact (Array.getElem?_eq_some_iff.1 G8.out).1
  have hbK : b8 < K := by rw [← hK0]; exact I8.out.lt
  have hwK : w.heap.size ≤ K := by rw [← hK0]; exact N8.out.size
  have HGK := Lib.hid hgK
  have HBK8 := Lib.hid hbK
  have HWK := Lib.hid hwK
  clear hgK hbK hwK hK0
  go_loopw [11, 12] (fun rv iv wr => ∃ (f : Nat) (i : Int) (acc : List (Int × Int × Int)), iv = .int .i64 i ∧ -1 ≤ i ∧ i < N ∧ i + 1 ≤ f ∧ acc.length + f ≤ N ∧ New w wr ∧ Gr wr g RG ∧ Iv wr b8 RG.n D ∧ K ≤ wr.heap.size ∧ wr.ownsRow K 75 3 rv acc.length (reaCells acc) ∧ reasonsL RG (dn : Int) l = acc ++ rsL RG (dn : Int) l D f i) (fun _ iv _ => (intOf iv + 1).toNat)
  case atStart => exact ⟨N, (N : Int) - 1, [], rfl, by omega, by omega, by omega, by simp, N8.out, G8.out, I8.out, by rw [HK0.out]; exact Nat.le_refl _, World.ownsRow_nil _ _ _ _, HTOT.out⟩
  case round =>
    obtain ⟨f, i, acc, rfl, hi0, hi1, hif, haf, hnew, hgr, hiv, hsz, hown, htot⟩ := hrel
    have HNEW := Lib.hid hnew
    have HGR := Lib.hid hgr
    have HIV := Lib.hid hiv
    have HSZ := Lib.hid hsz
    have HOWN := Lib.hid hown
    have HTO := Lib.hid htot
    clear hnew hgr hiv hsz hown htot
    by_cases hge : i ≥ 0
    · obtain ⟨j, rfl⟩ : ∃ j : Nat, i = j := ⟨i.toNat, by omega⟩
      obtain ⟨f', rfl⟩ : ∃ f', f = f' + 1 := ⟨f - 1, by omega⟩
      have hjN : j < N := by omega
      obtain ⟨R, hR⟩ : ∃ R, reaI RG dn (l.take (j + 1)) D = R := ⟨_, rfl⟩
      have hb := HBK.out j hjN
      rw [hR] at hb
      have HST := Lib.hid (show reasonsL RG (dn : Int) l = (acc ++ [R]) ++ rsL RG (dn : Int) l D f' (idxF l R.2.1) from by
        rw [HTO.out, HRS.out, if_neg (by omega), Int.toNat_natCast, hR]; simp)
      have HREA := Lib.hid (show ∀ V, New wr V → Calls Tryd.prog 125 #[.agg RG.cells.toArray, .int .i64 (dn : Int), .slice lv (j + 1) lc, .slice (some ⟨b8, 0, none⟩) RG.n c8] V fun en w' => en = .returned (reaV R) ∧ New V w' from fun V hn => by
        have hlt : (l.take (j + 1)).length = j + 1 := by rw [List.length_take, HNL.out]; omega
        have hf := ioB_facts HIO.out
        have hh2 := HH2.out j hjN
        have := reason_c RG dn V lv lc (l.take (j + 1)) b8 c8 D HOK.out HNE.out hdn ((HT.out.new HNEW.out).new hn) (by rw [hlt]; omega) (by rw [hlt]; have := HLN.out; omega) (ins_take ((HP.out.new HNEW.out).new hn) (j + 1) (by rw [HNL.out]; omega)) (fun k hk => by
          rw [hlt] at hk
          rw [nI_take hk]; exact hf.2 k (by rw [HNL.out]; omega)) (row_new HIV.out hn) (fun q => by have := HD.out q; have := HLN.out; omega) (fun hne => by
          rw [hlt] at hne ⊢
          rw [show j + 1 - 1 = j by omega, nI_take (by omega)] at hne
          exact hh2 hne)
        rw [hlt, hR] at this
        exact this)
      have HIX := Lib.hid (fun (V : World) (hn : New w V) => index_c (w := V) lv lc l R.2.1 (by rw [HNL.out]; have := HLN.out; omega) (HP.out.new hn))
      rw [HNL.out] at HIX
      have hwj : IntKind.i64.wrap ((j : Int) + 1) = (j : Int) + 1 := IntWalk.i64_in _ (by have := HLN.out; omega)
      have hcj : (j : Int) + 1 ≤ (lc : Int) := by omega
      have hge' : ((j : Int) ≥ 0) := hge
      have hj0 : 0 ≤ (j : Int) + 1 := by omega
      have hpl : acc.length ≤ 1000 := by have := HLN.out; omega
      clear hR
      obtain ⟨r1, r2, r3⟩ := R
      have hb' : -1 ≤ idxF l r2 ∧ idxF l r2 < j := hb
      have HB0 := Lib.hid hb'
      clear hb hb'
      go_upto_region 8 with fail
      refine wp_region_held_drew (S := fun w' => Gr w' g RG) (by kernel_rfl) (by exact HGR.out) (fun hHeld => ?_)
      refine wpAnyH_take (i := 0) rfl (by kernel_rfl) (by kernel_rfl) (by kernel_rfl) (fun _ _ _ h => h) (yieldsIf_load_mid (by rfl) 83 (.tmp 8) rfl g 0 rfl RG.cells _ (fun w hw => hw.whole) Tryd.underlying83 rfl (by rw [Gph.len]; exact graph_size)) (by assumption) ?_
      (try simp only [Act.put, List.setIfInBounds_toArray, List.set_cons_zero, List.set_cons_succ])
      refine wpAnyH_take (i := 1) (oi := { dst := some 34, op := _, type := _, pos := _, after := _, guard := _ }) (v := ?_) rfl (by kernel_rfl) (by kernel_rfl) (by kernel_rfl) (fun _ _ _ h => h) (Or.inl ⟨by rfl, (by intro w hSw; (try dsimp only at hSw); go_simp; try with_reducible rfl)⟩) (by assumption) ?_
      (try simp only [Act.put, List.setIfInBounds_toArray, List.set_cons_zero, List.set_cons_succ])
      refine wpAnyH_take (i := 2) (oi := { dst := some 35, op := _, type := _, pos := _, after := _, guard := _ }) (v := ?_) rfl (by kernel_rfl) (by kernel_rfl) (by kernel_rfl) (fun _ _ _ h => h) (Or.inl ⟨by rfl, (by intro w hSw; (try dsimp only at hSw); go_simp; try with_reducible rfl)⟩) (by assumption) ?_
      (try simp only [Act.put, List.setIfInBounds_toArray, List.set_cons_zero, List.set_cons_succ])
      refine wpAnyH_take (i := 3) (oi := { dst := some 36, op := _, type := _, pos := _, after := _, guard := _ }) (v := ?_) rfl (by kernel_rfl) (by kernel_rfl) (by kernel_rfl) (fun _ _ _ h => h) (Or.inl ⟨by rfl, (by intro w hSw; (try dsimp only at hSw); go_simp; try with_reducible rfl)⟩) (by assumption) ?_
      (try simp only [Act.put, List.setIfInBounds_toArray, List.set_cons_zero, List.set_cons_succ])
      refine wpAnyH_take (i := 4) (oi := { dst := some 37, op := _, type := _, pos := _, after := _, guard := _ }) (v := ?_) rfl (by kernel_rfl) (by kernel_rfl) (by kernel_rfl) (fun _ _ _ h => h) (Or.inl ⟨by rfl, (by intro w hSw; (try dsimp only at hSw); go_simp; try with_reducible rfl)⟩) (by assumption) ?_
      (try simp only [Act.put, List.setIfInBounds_toArray, List.set_cons_zero, List.set_cons_succ])
      refine wpAnyH_take (i := 5) (oi := { dst := some 38, op := _, type := _, pos := _, after := _, guard := _ }) (v := ?_) rfl (by kernel_rfl) (by kernel_rfl) (by kernel_rfl) (fun _ _ _ h => h) (Or.inl ⟨by rfl, (by intro w hSw; (try dsimp only at hSw); go_simp; try with_reducible rfl)⟩) (by assumption) ?_
      (try simp only [Act.put, List.setIfInBounds_toArray, List.set_cons_zero, List.set_cons_succ])
      refine wpAnyH_take (i := 6) (oi := { dst := some 39, op := _, type := _, pos := _, after := _, guard := _ }) (v := ?_) rfl (by kernel_rfl) (by kernel_rfl) (by kernel_rfl) (fun _ _ _ h => h) (Or.inl ⟨by rfl, (by intro w hSw; (try dsimp only at hSw); go_simp; try with_reducible rfl)⟩) (by assumption) ?_
      (try simp only [Act.put, List.setIfInBounds_toArray, List.set_cons_zero, List.set_cons_succ])
      refine wpAnyH_ready (rs := [7, 8]) (by kernel_rfl) (by simp) ?_
      refine AllReadyH.cons rfl (fun K9 hK9 => ?_) (AllReadyH.cons rfl (fun K9 hK9 => ?_) AllReadyH.nil)
      · go_simp
        go_at_call 125
        refine (HREA.out _ (New.refl wr).drew).mono ?_
        rintro e w9 ⟨rfl, n9⟩
        have N9 := Lib.hid (show New wr w9 from (New.refl wr).drew.trans n9)
        clear n9
        refine hK9.out _ _ (HGR.out.new N9.out) (fun hHeld => ?_)
        clear hK9 K9
        (try simp only [Act.put, List.setIfInBounds_toArray, List.set_cons_zero, List.set_cons_succ])
        refine wpAnyH_ready (rs := [8]) (by kernel_rfl) (by simp) ?_
        refine AllReadyH.cons rfl (fun K9 hK9 => ?_) AllReadyH.nil
        go_simp
        refine hK9.out _ _ (HGR.out.new (N9.out.alloc _)) (fun hHeld => ?_)
        clear hK9 K9
        (try simp only [Act.put, List.setIfInBounds_toArray, List.set_cons_zero, List.set_cons_succ])
        refine wpAnyH_ready (rs := [9]) (by kernel_rfl) (by simp) ?_
        refine AllReadyH.cons rfl (fun K9 hK9 => ?_) AllReadyH.nil
        unfold reaV
        go_simp
        refine hK9.out _ _ (HGR.out.new (N9.out.alloc _)) (fun hHeld => ?_)
        clear hK9 K9
        (try simp only [Act.put, List.setIfInBounds_toArray, List.set_cons_zero, List.set_cons_succ])
        refine wpAnyH_done (by kernel_rfl) ?_ _
        obtain ⟨au, cu, rfl⟩ := own_slice HOWN.out
        obtain ⟨W10, hW10⟩ : ∃ W10 : World, Hid (W10 = w9.alloc (.cells #[.int .i64 r1, .int .i64 r2, .int .u8 r3] 75)) := ⟨_, Lib.hid rfl⟩
        obtain ⟨B, hB⟩ : ∃ B, w9.heap.size = B := ⟨_, rfl⟩
        rw [← hW10.out]
        simp only [hB]
        have HN10 := Lib.hid (show New wr W10 from by rw [hW10.out]; exact N9.out.alloc _)
        have HB10 := Lib.hid (show W10.heap[B]? = some (.cells #[.int .i64 r1, .int .i64 r2, .int .u8 r3] 75 (0, 0)) from by rw [hW10.out, ← hB]; exact World.alloc_heap_new w9 _)
        have HBl := Lib.hid (show wr.heap.size ≤ B from by rw [← hB]; exact N9.out.size)
        have c6 : W10.cell? ⟨B, 0, none⟩ = some (.int .i64 r1) := (cell_of_row W10 B 0 _ _ _ HB10.out).trans rfl
        have c7 : W10.cell? ⟨B, 1, none⟩ = some (.int .i64 r2) := (cell_of_row W10 B 1 _ _ _ HB10.out).trans rfl
        have c8 : W10.cell? ⟨B, 2, none⟩ = some (.int .u8 r3) := (cell_of_row W10 B 2 _ _ _ HB10.out).trans rfl
        clear hB
        go_wp2_with (at_builtin; refine wpList_append_own _ rfl _ _ 55 rfl K 75 i0 (.agg #[.int .i64 0, .int .i64 0, .int .u8 0]) 3 24 Tryd.underlying55 hi hz0 hz1 hz2 rfl (by decide) (.slice au acc.length cu) acc.length (reaCells acc) rfl ?qc0 ⟨W10.heap.size, 0, none⟩ 1 1 [.int .i64 r1, .int .i64 r2, .int .u8 r3] rfl rfl ?qc2 ?qc3 ?qc4 ?qc5 ?qc6 ?_)
        case qc0 => exact own_new HOWN.out (HN10.out.alloc _)
        case qc3 => first | (exact ⟨rfl, rfl, rfl⟩) | (intro u hu; simp at hu; rcases hu with rfl | rfl | rfl <;> rfl)
        case qc4 => unfold maxLen; omega
        case qc5 => omega
        case qc6 => have h1 := HSZ.out; have h2 := HN10.out.size; simp; omega
        intro v' w11 hown hgrow hnil
        have hblk : ∀ q o, q < W10.heap.size → q < K ∨ wr.heap.size ≤ q → W10.heap[q]? = some o → w11.heap[q]? = some o := fun q o hq hk ho => by
          have h1 : (W10.alloc (.cells #[.int .i64 r1, .int .i64 r2, .int .u8 r3] 75)).heap[q]? = some o := (Below.heap_alloc _ _ _ hq).trans ho
          refine (hgrow.block q (by simp; omega) (fun e => ?_)).trans h1
          have h2 := HOWN.out.lt q e.symm
          omega
        have hn11 : New w w11 := Mod.new ((HNEW.out.trans HN10.out).alloc _) (Mod.grown (O := fun q => K ≤ q) hgrow (fun g hg => (HOWN.out.lt g hg).1)) (fun q hq => Nat.le_trans HWK.out hq)
        have hBlt := (Array.getElem?_eq_some_iff.1 HB10.out).1
        have HB11 := Lib.hid (hblk B _ hBlt (.inr HBl.out) HB10.out)
        have hwl := HN10.out.size
        have hks := HSZ.out
        have hgk := HGK.out
        have hbk := HBK8.out
        have HG11 := Lib.hid (show Gr w11 g RG from hblk g _ (by omega) (.inl hgk) (HGR.out.new HN10.out))
        have HI11 := Lib.hid (show Iv w11 b8 RG.n D from hblk b8 _ (by omega) (.inl hbk) (row_new HIV.out HN10.out))
        have HN11 := Lib.hid hn11
        have HOW11 := Lib.hid hown
        have HS11 := Lib.hid (show K ≤ w11.heap.size from by have := hgrow.size; simp at this; omega)
        have c9 : w11.cell? ⟨B, 1, none⟩ = some (.int .i64 r2) := (cell_of_row w11 B 1 _ _ _ HB11.out).trans rfl
        obtain ⟨av', cv', rfl⟩ := own_slice hown
        clear hown hgrow hnil hblk hn11 hBlt hwl hks hgk hbk c6 c7 c8
        obtain ⟨ix, hix⟩ : ∃ ix, idxF l r2 = ix := ⟨_, rfl⟩
        have HB2 := HB0
        rw [hix] at HIX HST HB2
        clear hix
        go_wp2_with (go_at_call 126; refine (HIX.out _ HN11.out).mono ?_; rintro e w12 ⟨rfl, n12⟩; have N12 := Lib.hid n12; clear n12)
        go_roundw
        case rel => exact ⟨f', ix, acc ++ [(r1, r2, r3)], rfl, HB2.out.1, by have := HB2.out.2; omega, by have := HB2.out.2; omega, by simp; omega, HN11.out.trans N12.out, HG11.out.new N12.out, row_new HI11.out N12.out, Nat.le_trans HS11.out N12.out.size, by rw [reaCells_snoc, List.length_append]; exact own_new HOW11.out N12.out, HST.out⟩
        case measure => have := HB2.out; simp [intOf]; omega
      · go_simp
        refine hK9.out _ _ (HGR.out.new ((New.refl wr).drew.alloc _)) (fun hHeld => ?_)
        clear hK9 K9
        (try simp only [Act.put, List.setIfInBounds_toArray, List.set_cons_zero, List.set_cons_succ])
        refine wpAnyH_ready (rs := [7]) (by kernel_rfl) (by simp) ?_
        refine AllReadyH.cons rfl (fun K9 hK9 => ?_) AllReadyH.nil
        go_simp
        go_at_call 125
        refine (HREA.out _ (by first | exact (New.refl wr).drew.alloc _ | exact ((New.refl wr).alloc _).drew)).mono ?_
        rintro e w9 ⟨rfl, n9⟩
        have N9 := Lib.hid (show New wr w9 from by first | exact ((New.refl wr).drew.alloc _).trans n9 | exact (((New.refl wr).alloc _).drew).trans n9)
        have HZB := Lib.hid (show w9.heap[wr.heap.size]? = some (.cells #[.int .i64 0, .int .i64 0, .int .u8 0] 75 (0, 0)) from row_new (World.alloc_heap_new wr (.cells #[.int .i64 0, .int .i64 0, .int .u8 0] 75)) n9)
        clear n9
        refine hK9.out _ _ (HGR.out.new N9.out) (fun hHeld => ?_)
        clear hK9 K9
        (try simp only [Act.put, List.setIfInBounds_toArray, List.set_cons_zero, List.set_cons_succ])
        have z6 : w9.cell? ⟨wr.heap.size, 0, none⟩ = some (.int .i64 0) := (cell_of_row w9 _ 0 _ _ _ HZB.out).trans rfl
        have z7 : w9.cell? ⟨wr.heap.size, 1, none⟩ = some (.int .i64 0) := (cell_of_row w9 _ 1 _ _ _ HZB.out).trans rfl
        have z8 : w9.cell? ⟨wr.heap.size, 2, none⟩ = some (.int .u8 0) := (cell_of_row w9 _ 2 _ _ _ HZB.out).trans rfl
        have y6 : w9.frozen? ⟨wr.heap.size, 0, none⟩ = false := by simp [World.frozen?, HZB.out]
        have y7 : w9.frozen? ⟨wr.heap.size, 1, none⟩ = false := by simp [World.frozen?, HZB.out]
        have y8 : w9.frozen? ⟨wr.heap.size, 2, none⟩ = false := by simp [World.frozen?, HZB.out]
        refine wpAnyH_ready (rs := [9]) (by kernel_rfl) (by simp) ?_
        refine AllReadyH.cons rfl (fun K9 hK9 => ?_) AllReadyH.nil
        unfold reaV
        go_simp
        have hgl := (Array.getElem?_eq_some_iff.1 HGR.out).1
        refine hK9.out _ _ (((setCell_gr (by omega) _).trans ((setCell_gr (by omega) _).trans (setCell_gr (by omega) _))).trans (HGR.out.new N9.out)) (fun hHeld => ?_)
        clear hK9 K9 z6 z7 z8 y6 y7 y8
        (try simp only [Act.put, List.setIfInBounds_toArray, List.set_cons_zero, List.set_cons_succ])
        refine wpAnyH_done (by kernel_rfl) ?_ _
        obtain ⟨au, cu, rfl⟩ := own_slice HOWN.out
        obtain ⟨W10, hW10⟩ : ∃ W10 : World, Hid (W10 = ((w9.setCell ⟨wr.heap.size, 0, none⟩ (.int .i64 r1)).setCell ⟨wr.heap.size, 1, none⟩ (.int .i64 r2)).setCell ⟨wr.heap.size, 2, none⟩ (.int .u8 r3)) := ⟨_, Lib.hid rfl⟩
        obtain ⟨B, hB⟩ : ∃ B, wr.heap.size = B := ⟨_, rfl⟩
        rw [← hW10.out]
        simp only [hB]
        have HN10 := Lib.hid (show New wr W10 from by rw [hW10.out]; exact ((N9.out.setCell (Nat.le_refl _) _).setCell (Nat.le_refl _) _).setCell (Nat.le_refl _) _)
        have HB10 := Lib.hid (show W10.heap[B]? = some (.cells #[.int .i64 r1, .int .i64 r2, .int .u8 r3] 75 (0, 0)) from by rw [hW10.out, ← hB]; exact (three_cells _ _ _ HZB.out).1)
        have HBl := Lib.hid (show wr.heap.size ≤ B from by rw [← hB]; exact Nat.le_refl _)
        have c6 : W10.cell? ⟨B, 0, none⟩ = some (.int .i64 r1) := (cell_of_row W10 B 0 _ _ _ HB10.out).trans rfl
        have c7 : W10.cell? ⟨B, 1, none⟩ = some (.int .i64 r2) := (cell_of_row W10 B 1 _ _ _ HB10.out).trans rfl
        have c8 : W10.cell? ⟨B, 2, none⟩ = some (.int .u8 r3) := (cell_of_row W10 B 2 _ _ _ HB10.out).trans rfl
        clear hB
        go_wp2_with (at_builtin; refine wpList_append_own _ rfl _ _ 55 rfl K 75 i0 (.agg #[.int .i64 0, .int .i64 0, .int .u8 0]) 3 24 Tryd.underlying55 hi hz0 hz1 hz2 rfl (by decide) (.slice au acc.length cu) acc.length (reaCells acc) rfl ?qd0 ⟨W10.heap.size, 0, none⟩ 1 1 [.int .i64 r1, .int .i64 r2, .int .u8 r3] rfl rfl ?qd2 ?qd3 ?qd4 ?qd5 ?qd6 ?_)
        case qd0 => exact own_new HOWN.out (HN10.out.alloc _)
        case qd3 => first | (exact ⟨rfl, rfl, rfl⟩) | (intro u hu; simp at hu; rcases hu with rfl | rfl | rfl <;> rfl)
        case qd4 => unfold maxLen; omega
        case qd5 => omega
        case qd6 => have h1 := HSZ.out; have h2 := HN10.out.size; simp; omega
        intro v' w11 hown hgrow hnil
        have hblk : ∀ q o, q < W10.heap.size → q < K ∨ wr.heap.size ≤ q → W10.heap[q]? = some o → w11.heap[q]? = some o := fun q o hq hk ho => by
          have h1 : (W10.alloc (.cells #[.int .i64 r1, .int .i64 r2, .int .u8 r3] 75)).heap[q]? = some o := (Below.heap_alloc _ _ _ hq).trans ho
          refine (hgrow.block q (by simp; omega) (fun e => ?_)).trans h1
          have h2 := HOWN.out.lt q e.symm
          omega
        have hn11 : New w w11 := Mod.new ((HNEW.out.trans HN10.out).alloc _) (Mod.grown (O := fun q => K ≤ q) hgrow (fun g hg => (HOWN.out.lt g hg).1)) (fun q hq => Nat.le_trans HWK.out hq)
        have hBlt := (Array.getElem?_eq_some_iff.1 HB10.out).1
        have HB11 := Lib.hid (hblk B _ hBlt (.inr HBl.out) HB10.out)
        have hwl := HN10.out.size
        have hks := HSZ.out
        have hgk := HGK.out
        have hbk := HBK8.out
        have HG11 := Lib.hid (show Gr w11 g RG from hblk g _ (by omega) (.inl hgk) (HGR.out.new HN10.out))
        have HI11 := Lib.hid (show Iv w11 b8 RG.n D from hblk b8 _ (by omega) (.inl hbk) (row_new HIV.out HN10.out))
        have HN11 := Lib.hid hn11
        have HOW11 := Lib.hid hown
        have HS11 := Lib.hid (show K ≤ w11.heap.size from by have := hgrow.size; simp at this; omega)
        have c9 : w11.cell? ⟨B, 1, none⟩ = some (.int .i64 r2) := (cell_of_row w11 B 1 _ _ _ HB11.out).trans rfl
        obtain ⟨av', cv', rfl⟩ := own_slice hown
        clear hown hgrow hnil hblk hn11 hBlt hwl hks hgk hbk c6 c7 c8
        obtain ⟨ix, hix⟩ : ∃ ix, idxF l r2 = ix := ⟨_, rfl⟩
        have HB2 := HB0
        rw [hix] at HIX HST HB2
        clear hix
        go_wp2_with (go_at_call 126; refine (HIX.out _ HN11.out).mono ?_; rintro e w12 ⟨rfl, n12⟩; have N12 := Lib.hid n12; clear n12)
        go_roundw
        case rel => exact ⟨f', ix, acc ++ [(r1, r2, r3)], rfl, HB2.out.1, by have := HB2.out.2; omega, by have := HB2.out.2; omega, by simp; omega, HN11.out.trans N12.out, HG11.out.new N12.out, row_new HI11.out N12.out, Nat.le_trans HS11.out N12.out.size, by rw [reaCells_snoc, List.length_append]; exact own_new HOW11.out N12.out, HST.out⟩
        case measure => have := HB2.out; simp [intOf]; omega
    · have hge' : ¬ (i ≥ 0) := hge
      have HE := Lib.hid (show reasonsL RG (dn : Int) l = acc from by rw [HTO.out, HRZ.out f i (by omega), List.append_nil])
      go_wp2_with fail
      go_ret2
      exact ⟨_, rfl, HNEW.out, by rw [HE.out]; exact own_base HOWN.out HWK.out⟩
end Go.Proofs.YtiejefehcpfkaaaDoor
