/- What Sweep returns of segments that do not cross: the walk. From one to 12 segments, each strip spanned by at least one. -/
import Derived.Test.YtpdfbboagaflhaaGreatM36
import Derived.RegionIn
import Derived.Maps.OwnIn

namespace Go.Proofs.YtpdfbboagaflhaaGreat
open Go.RowKit Go.Shelf

attribute [local go_sem] Oper.semAt_some

set_option maxHeartbeats 1000000 in
theorem strips_c (a : Option Addr) (n c : Nat) (w : World) : Calls Tryz.prog 143 #[.slice a n c] w fun e w' => e = .returned (.func (.func 179) #[] #[.pointer (some ⟨w.heap.size, 0, none⟩)]) ∧ w' = w.alloc (.cells #[.slice a n c] 58) := by
  go_enter Tryz.func143, Tryz.ntmps143
  go_wp2
  go_ret
  exact ⟨rfl, rfl⟩

/-- what holds between two rounds of Sweep: k strips are laid; the block p is none of theirs -/
def SweepI (l : List S4) (B0 Bo D M : Nat) (w : World) (sv : Value) (RC : Option Obj) (p k : Nat) (W : World) : Prop :=
  ∃ a c vs, vs.length = k ∧ W.ownsRow B0 84 3 (.slice a k c) k (stripCells l vs k) ∧
    (∀ j, j < k → W.ownsRow B0 3 1 (vs.getD j undef) (segsL l j).length (inCells (segsL l j)) ∧ (vs.getD j undef).ownBlock ≠ none ∧ (vs.getD j undef).ownBlock ≠ (Value.slice a k c).ownBlock) ∧
    New w W ∧ W.heap[Bo]? = some (.cells #[.slice a k c] 65 (0, 0)) ∧ W.heap[D]? = some (.deferred (some [])) ∧ W.heap[D + 1]? = RC ∧ W.heap[B0]? = some (.cells #[sv] 58 (0, 0)) ∧
    (Value.slice a k c).ownBlock ≠ some p ∧ D + 2 ≤ p ∧ k ≤ M ∧ W.heap[Bo + 1]? = some (.cells #[sv] 58 (0, 0))

set_option maxRecDepth 100000 in
set_option maxHeartbeats 16000000 in
theorem sweep_yes (b off n cp : Nat) (l : List S4) (w : World) (h0 : 0 < n) (hl : n ≤ 12) (hw : Segs w b off n l) (hok : okSegs l = true) (hA : ∀ en, ApartIs l en → en = .returned (.int .i64 0)) (hpos : ∀ k, k + 1 < (endXsL l).length → 0 < (spanI l k).length) (hxb : ∀ k, 0 ≤ xAt l k ∧ xAt l k ≤ 10000) (hhb : ∀ k, ∀ h ∈ pileL l k, hOk h) :
    Calls Tryz.prog 70 #[.slice (some ⟨b, off, none⟩) n cp] w fun en w' => ∃ a c vs, en = .returned (.tuple #[.slice a ((endXsL l).length - 1) c, .int .i64 0]) ∧ vs.length = (endXsL l).length - 1 ∧ w'.ownsRow w.heap.size 84 3 (.slice a ((endXsL l).length - 1) c) ((endXsL l).length - 1) (stripCells l vs ((endXsL l).length - 1)) ∧ (∀ j, j < (endXsL l).length - 1 → w'.ownsRow w.heap.size 3 1 (vs.getD j undef) (segsL l j).length (inCells (segsL l j))) ∧ New w w' := by
  have HW := Lib.hid hw
  have HN := Lib.hid hw.1
  have HCK := Lib.hid (show ∀ w1 : World, New w w1 → CallsIn Fence.wide 4 Tryz.prog 137 #[.slice (some ⟨b, off, none⟩) n cp] w1 fun e w' => e = .returned (.int .i64 0) ∧ New w1 w' from fun w1 h1 => (callsIn_wide (n := 4)).2 ((checkApart_c b off n cp l w1 (by omega) (hw.new h1)).mono fun e w' h => ⟨hA e h.1, h.2⟩))
  have HST := Lib.hid (fun (w1 : World) => (callsIn_wide (n := 4)).2 (strips_c (some ⟨b, off, none⟩) n cp w1))
  clear hw hA
  refine (callsIn_wide (n := 5)).1 ?_
  refine callsIn_of_wp_marks Tryz.func70 rfl trivial ?_ rfl
  simp only [Tryz.ntmps70, List.size_toArray, List.length_cons, List.length_nil, Nat.reduceAdd, Nat.reduceSub, Array.replicate_succ, Array.replicate_zero, List.push_toArray, List.append_toArray, List.nil_append, List.cons_append]
  gi_wp2
  refine ⟨trivial, ?_⟩
  gi_at_call 137
  refine (HCK.out _ ((New.refl _).alloc _)).mono ?_
  rintro e w1 ⟨rfl, hn1⟩
  have HN1 := Lib.hid hn1
  have hbx : w1.cell? ⟨w.heap.size, 0, none⟩ = some (.slice (some ⟨b, off, none⟩) n cp) := (hn1.below.cell (p := ⟨w.heap.size, 0, none⟩) (by simp)).trans (by simp [go_sem])
  have hsz1 := hn1.size
  simp only [World.size_alloc] at hsz1
  have hwl : w.heap.size < w1.heap.size := by omega
  clear hn1
  gi_wp2
  refine ⟨trivial, ?_⟩
  gi_at_call 143
  refine (HST.out _).mono ?_
  rintro e w2 ⟨rfl, rfl⟩
  gi_wp2
  obtain ⟨WS, HWS⟩ : ∃ WS : World, Hid (WS = (w1.alloc (.cells #[.slice none 0 0] 65)).alloc (.cells #[.slice (some ⟨b, off, none⟩) n cp] 58)) := ⟨_, Lib.hid rfl⟩
  rw [← HWS.out]
  have hss : WS.heap.size = w1.heap.size + 2 := by rw [HWS.out]; simp
  have hss1 : w1.heap.size + 2 ≤ WS.heap.size := by omega
  have hss2 : WS.heap.size ≤ w1.heap.size + 2 := by omega
  clear hss
  have HNS := Lib.hid (show New w WS by rw [HWS.out]; exact (((New.refl _).alloc _).trans HN1.out).alloc _ |>.alloc _)
  have HOB := Lib.hid (show WS.heap[w1.heap.size]? = some (.cells #[.slice none 0 0] 65 (0, 0)) by rw [HWS.out]; exact (Below.heap_alloc _ _ _ (by simp)).trans (World.alloc_heap_new w1 _))
  have HBB := Lib.hid (show WS.heap[w1.heap.size + 1]? = some (.cells #[.slice (some ⟨b, off, none⟩) n cp] 58 (0, 0)) by rw [HWS.out]; have := World.alloc_heap_new (w1.alloc (.cells #[.slice none 0 0] 65)) (.cells #[.slice (some ⟨b, off, none⟩) n cp] 58); rwa [World.size_alloc] at this)
  generalize hM : (endXsL l).length - 1 = M at *
  refine range_whole (n := 5) rfl (fun _ => trivial) (by omega) (gf := 179) (lb := #[.pointer (some ⟨w1.heap.size + 1, 0, none⟩)]) rfl (enters_of Tryz.func179 (by kernel_rfl) rfl)
    (fun W => ∃ a c vs, vs.length = M ∧ W.ownsRow w.heap.size 84 3 (.slice a M c) M (stripCells l vs M) ∧ (∀ j, j < M → W.ownsRow w.heap.size 3 1 (vs.getD j undef) (segsL l j).length (inCells (segsL l j))) ∧ New w W ∧ W.heap[w1.heap.size]? = some (.cells #[.slice a M c] 65 (0, 0)) ∧ W.heap[WS.heap.size]? = some (.deferred (some [])) ∧ ∃ r, W.heap[WS.heap.size + 1]? = some (.loop r)) ?hit ?hdone
  case hit =>
    intro fn W1 hW1
    have HF := Lib.hid hM
    have hsn := HNS.out.size
    have hD1 : W1.heap.size = WS.heap.size + 2 := by rw [hW1]; simp
    have HNW1 := Lib.hid (show New WS W1 by rw [hW1]; exact ((New.refl _).alloc _).alloc _)
    have HDF := Lib.hid (show W1.heap[WS.heap.size]? = some (.deferred (some [])) by rw [hW1]; exact (Below.heap_alloc _ _ _ (by simp)).trans (World.alloc_heap_new WS _))
    have hrc1 := alloc2_new hW1
    have HRC := Lib.hid hrc1
    clear hrc1
    clear hW1
    have HLB := Lib.hid (show w1.heap[w.heap.size]? = some (.cells #[.slice (some ⟨b, off, none⟩) n cp] 58 (0, 0)) by
      obtain ⟨_, _, _, _, h5⟩ := HN1.out.below
      rw [h5 _ (by simp)]
      exact World.alloc_heap_new w _)
    have HNWS := Lib.hid (show New w1 WS by rw [HWS.out]; exact ((New.refl _).alloc _).alloc _)
    have hold : ∀ (X Y : World) (h : New X Y) (k : Nat), k < X.heap.size → Y.heap[k]? = X.heap[k]? := fun X Y h k hk => h.below.block k hk
    have HOLD := Lib.hid hold
    clear hold
    refine (strips1_in 4 (by omega) (WS.heap.size + 1) (w1.heap.size + 1) b off n cp l h0 (by omega)
      (SweepI l w.heap.size w1.heap.size WS.heap.size M w (.slice (some ⟨b, off, none⟩) n cp) (W1.heap[WS.heap.size + 1]?))
      W1 ?_ (by omega) (HW.out.new (HNS.out.trans HNW1.out)) ?_ ?_).mono ?_
    · have h1 : W1.heap[w1.heap.size + 1]? = some (.cells #[.slice (some ⟨b, off, none⟩) n cp] 58 (0, 0)) := by rw [HOLD.out _ _ HNW1.out _ (by omega)]; exact HBB.out
      simp [World.cell?, h1]
    · intro p W' hnw hp1 hp2
      have e : ∀ k, k < W1.heap.size → W'.heap[k]? = W1.heap[k]? := HOLD.out _ _ hnw
      have e2 : ∀ k, k < WS.heap.size → W'.heap[k]? = WS.heap[k]? := fun k hk => (e k (by omega)).trans (HOLD.out _ _ HNW1.out k hk)
      unfold SweepI
      exact ⟨none, 0, [], rfl, World.ownsRow_nil _ _ _ _, fun j hj => by omega, HNS.out.trans (HNW1.out.trans hnw), by rw [e2 _ (by omega)]; exact HOB.out, by rw [e _ (by omega)]; exact HDF.out, e _ (by omega), by rw [e2 _ (by omega), HOLD.out _ _ HNWS.out _ hwl]; exact HLB.out, by simp [Value.ownBlock], by omega, Nat.zero_le _, by rw [e2 _ (by omega)]; exact HBB.out⟩
    · intro p k v W0 Wy hI hp0 hny hk1 hov
      obtain ⟨a, c, vs, hvl, hout, hvs, hnw, hbx2, hdf, hrc, hlb, hp, hp2, hkm, hbb0⟩ := hI
      have e : ∀ q, q < W0.heap.size → Wy.heap[q]? = W0.heap[q]? := HOLD.out _ _ hny
      have hs0 := hnw.size
      have hlp : WS.heap.size + 1 < W0.heap.size := by
        have h1 := HRC.out
        rw [← hrc] at h1
        exact (Array.getElem?_eq_some_iff.1 h1).1
      have HRY := Lib.hid (show Wy.heap[WS.heap.size + 1]? = _ from (e _ hlp).trans (hrc.trans HRC.out))
      have hvn := hpos k hk1
      have HOV := Lib.hid hov
      obtain ⟨gv, cv, rfl, hgv1, hgv2⟩ := hov.form (by unfold spanI at hvn; rw [HN.out] at hvn; exact hvn)
      have HGO := Lib.hid (fun g hg => (hout.lt g hg).2)
      have HOUT := Lib.hid (own_new hout hny)
      have HVS := Lib.hid hvs
      have HNY := Lib.hid (hnw.trans hny)
      have HBX := Lib.hid (show Wy.heap[w1.heap.size]? = some (.cells #[.slice a k c] 65 (0, 0)) by rw [e _ (by omega)]; exact hbx2)
      have HDY := Lib.hid (show Wy.heap[WS.heap.size]? = some (.deferred (some [])) by rw [e _ (by omega)]; exact hdf)
      have HBBY := Lib.hid (show Wy.heap[w1.heap.size + 1]? = some (.cells #[.slice (some ⟨b, off, none⟩) n cp] 58 (0, 0)) by rw [e _ (by omega)]; exact hbb0)
      have HLY := Lib.hid (show Wy.heap[w.heap.size]? = some (.cells #[.slice (some ⟨b, off, none⟩) n cp] 58 (0, 0)) by rw [e _ (by omega)]; exact hlb)
      have HE := Lib.hid e
      have HVL := Lib.hid hvl
      clear hvs hbx2 hdf hrc hlb hbb0 e hout hov hvl
      refine yield_round (fun _ => trivial) HRY.out ?_
      gi_wp2
      refine ⟨by rw [Below.heap_alloc _ _ _ (by have := (Array.getElem?_eq_some_iff.1 HRY.out).1; exact this)]; exact HRY.out, ?_⟩
      have hlpy := (Array.getElem?_eq_some_iff.1 HRY.out).1
      have HQL := Lib.hid (show spanTo l (xAt l k) (xAt l (k + 1)) n = spanI l k by unfold spanI; rw [HN.out])
      rw [HQL.out] at HOV ⊢
      have hx1 := hxb k
      have hx2 := hxb (k + 1)
      have HX := Lib.hid (show pileL l k = heightsTo l (spanN l k) (xAt l k + xAt l (k + 1)) (spanI l k).length from rfl)
      have HSC := Lib.hid (show stripCells l (vs ++ [.slice (some ⟨gv, 0, none⟩) (spanI l k).length cv]) (k + 1) = stripCells l vs k ++ [.int .i64 (xAt l k), .int .i64 (xAt l (k + 1)), .slice (some ⟨gv, 0, none⟩) (spanI l k).length cv] by
        simp only [stripCells]
        rw [stripCells_ext _ _ _ _ (by rw [HVL.out]; exact Nat.le_refl _)]
        simp [List.getD_eq_getElem?_getD, HVL.out])
      have HSL := Lib.hid (segsL_length l k)
      have hq12 : (spanI l k).length ≤ n := by have := spanTo_le l (xAt l k) (xAt l (k + 1)) l.length; unfold spanI; rw [HN.out] at this ⊢; exact this
      generalize xAt l k = X1 at *
      generalize xAt l (k + 1) = X2 at *
      generalize hq : (spanI l k).length = q at *
      have HQ := Lib.hid hq
      clear hq
      refine name_putObj ?_
      intro Wb hWb
      have hbs : Wb.heap.size = Wy.heap.size + 1 := by rw [hWb]; simp
      have hbs1 : Wb.heap.size ≤ Wy.heap.size + 1 := by omega
      have hbs2 : Wy.heap.size + 1 ≤ Wb.heap.size := by omega
      clear hbs
      have hbo : ∀ s, s < Wy.heap.size → s ≠ WS.heap.size + 1 → Wb.heap[s]? = Wy.heap[s]? := fun s hs hne => by
        rw [hWb, putObj_heap _ _ _ _ hne]; exact Below.heap_alloc _ _ _ hs
      have hbl := putObj_at hWb (by simp; omega)
      have hbx : Wb.heap[Wy.heap.size]? = some (.cells #[.int .i64 X1, .int .i64 X2, .slice (some ⟨gv, 0, none⟩) q cv] 84 (0, 0)) := by
        rw [hWb, putObj_heap _ _ _ _ (by omega)]; exact World.alloc_heap_new Wy _
      have HNB := Lib.hid (show New w Wb by rw [hWb]; exact new_putObj (HNY.out.alloc _) _ (by omega))
      have HBL := Lib.hid hbl
      have HBXX := Lib.hid hbx
      have HBO := Lib.hid hbo
      clear hWb hbl hbx hbo
      have hgl : gv ≠ WS.heap.size + 1 := by
        intro h
        obtain ⟨cur, _, h2, _⟩ := own_parts HOV.out
        rw [h, HRY.out] at h2
        cases h2
      have HOVB := Lib.hid (own_same HOV.out (HBO.out gv hgv2 hgl))
      have HOUTB := Lib.hid (show Wb.ownsRow w.heap.size 84 3 (.slice a k c) k (stripCells l vs k) from by
        refine ⟨HOUT.out.1, HOUT.out.2.imp (fun h => h) fun ⟨x1, x2, x3, x4, x5, x6, x7⟩ => ⟨x1, x2, x3, x4, x5, ?_, x7⟩⟩
        have h3 := (Array.getElem?_eq_some_iff.1 x6).1
        rw [HBO.out x1 h3 (fun h => by rw [h, HRY.out] at x6; cases x6)]
        exact x6)
      have hsy := HNY.out.size
      have hsw := HNWS.out.size
      have clx : Wb.cell? ⟨w.heap.size, 0, none⟩ = some (.slice (some ⟨b, off, none⟩) n cp) := by
        have h1 := HBO.out w.heap.size (by omega) (by omega)
        rw [HLY.out] at h1
        simp [World.cell?, h1]
      have co : Wb.cell? ⟨w1.heap.size, 0, none⟩ = some (.slice a k c) ∧ Wb.frozen? ⟨w1.heap.size, 0, none⟩ = false := by
        have h1 := HBO.out w1.heap.size (by omega) (by omega)
        rw [HBX.out] at h1
        simp [World.cell?, World.frozen?, h1]
      have cs : (Wb.cell? ⟨Wy.heap.size, 0, none⟩ = some (.int .i64 X1) ∧ Wb.cell? ⟨Wy.heap.size, 1, none⟩ = some (.int .i64 X2)) ∧ Wb.cell? ⟨Wy.heap.size, 2, none⟩ = some (.slice (some ⟨gv, 0, none⟩) q cv) := by
        have h1 := HBXX.out
        simp [World.cell?, h1]
      obtain ⟨⟨cs0, cs1⟩, cs2⟩ := cs
      have HPS := Lib.hid (show (pileL l k).length = q by rw [pileL_length]; exact HQ.out)
      have HNAT := Lib.hid (nats_own HOVB.out HQ.out)
      have HHT := Lib.hid (fun (w9 : World) (h9 : New Wb w9) => CallsIn.inRound (WS.heap.size + 1) ((callsIn_wide (n := 4 - 1 - 1)).2 (heights_c b off n cp gv 0 q cv l (spanN l k) (X1 + X2) w9 (by omega) (HW.out.new (HNB.out.trans h9)) (HNAT.out.new h9) (fun j hj => by have := (spanN_at l k j (by rw [HQ.out]; exact hj)).2; rw [HN.out] at this; exact this) hok (by omega))))
      have HMP := Lib.hid (map_toHB (hhb k))
      have HSO := Lib.hid (fun (base gp cap : Nat) (w9 : World) (ho : w9.ownsRow base 142 3 (.slice (some ⟨gp, 0, none⟩) q cap) q (htCells (pileL l k))) => CallsIn.inRound (WS.heap.size + 1) ((callsIn_wide (n := 4 - 1 - 1)).2 (sortH_c base gp q cap ((pileL l k).map toHB) w9 (by omega) (by rw [List.length_map]; exact HPS.out) (by rw [HMP.out]; exact ho))))
      have hq0 : 0 < q := by rw [← HQ.out]; exact hpos k hk1
      have HGL := Lib.hid hgl
      clear hgl
      have hgv3 : gv < Wb.heap.size := by omega
      gi_wp2_with (first | (refine ⟨trivial, ?_⟩; gi_at_call 144; refine (HHT.out _ (New.refl _)).mono ?_; rintro e w3 ⟨vp, rfl, ho3, hn3⟩; rw [← HX.out] at ho3; obtain ⟨gp, cpp, rfl, hgp1, hgp2⟩ := ho3.form hq0; have HO3 := Lib.hid ho3; have HN3 := Lib.hid hn3; clear ho3 hn3) | (refine ⟨trivial, ?_⟩; gi_at_call 145; refine (HSO.out _ gp cpp _ HO3.out).mono ?_; rintro e w4 ⟨rfl, ho4, hg4⟩; have HO4 := Lib.hid ho4; have HG4 := Lib.hid hg4; clear ho4 hg4))
      have HMAP := Lib.hid (show ((sortH ((pileL l k).map toHB)).map Subtype.val) = (pileS l k).map Subtype.val from rfl)
      rw [HMAP.out] at HO4
      have HK4 := Lib.hid (show ∀ s, s < Wb.heap.size → w4.heap[s]? = Wb.heap[s]? from fun s hs => (HG4.out.block s (by have := HN3.out.size; omega) (fun h => by injection h with h; omega)).trans (HOLD.out _ _ HN3.out s hs))
      have HNW4 := Lib.hid (show New Wb w4 from new_grownBy HN3.out HG4.out hgp1)
      have HPL4 := Lib.hid (show ((pileS l k).map Subtype.val).length = q by rw [List.length_map, pileS_length]; exact HQ.out)
      have hs4 := HNW4.out.size
      have hgp4 := (HO4.out.lt gp rfl).2
      gi_loopw [8, 9, 31] (fun s8 s9 s31 wr => ∃ j : Nat, j ≤ q ∧ s31 = .int .i64 j ∧ wr.ownsRow Wb.heap.size 142 3 (.slice (some ⟨gp, 0, none⟩) q cpp) q (htCells ((pileS l k).map Subtype.val)) ∧ wr.ownsRow W0.heap.size 3 1 (.slice (some ⟨gv, 0, none⟩) q cv) q (inCells (mixI (spanI l k) (segsL l k) j)) ∧ Wb.grownBy wr (some gv)) (fun _ _ i _ => q - (intOf i).toNat)
      case atStart => exact ⟨0, Nat.zero_le _, rfl, HO4.out, by rw [mixI_zero]; exact own_new HOVB.out HNW4.out, grownBy_new (grownBy_refl Wb _) HNW4.out⟩
      case round =>
        obtain ⟨j, hj, rfl, hop, hov, hgr⟩ := hrel
        have HOP := Lib.hid hop
        have HOVR := Lib.hid hov
        have HGR := Lib.hid hgr
        clear hop hov hgr
        have hsr := HGR.out.size
        by_cases hlt : j < q
        · obtain ⟨e1, e2, e3⟩ := htCells_at ((pileS l k).map Subtype.val) j (by rw [HPL4.out]; exact hlt)
          have g1 := (own_cell HOP.out e1).1
          have g2 := (own_cell HOP.out e2).1
          have g3 := (own_cell HOP.out e3).1
          rw [segsL_at l k j (by rw [HQ.out]; exact hlt)] at g3
          have HMX := Lib.hid (mixI_set (s0 := spanI l k) (s1 := segsL l k) HQ.out HSL.out hlt)
          generalize h1 ((pileS l k).map Subtype.val) j = A1 at *
          generalize h2 ((pileS l k).map Subtype.val) j = A2 at *
          generalize (segsL l k).getD j 0 = A3 at *
          clear e1 e2 e3
          obtain ⟨v1, v2⟩ := own_any HOVR.out (j := j) (by have := (own_cap HOVR.out).1; omega)
          obtain ⟨vv, v3⟩ := Option.isSome_iff_exists.1 v1
          clear v1
          have c2r : wr.cell? ⟨Wy.heap.size, 2, none⟩ = some (.slice (some ⟨gv, 0, none⟩) q cv) := by
            rw [← cs2]; exact cell_same (HGR.out.block _ (by omega) (fun h => by injection h with h; omega))
          have hgpr := (HOP.out.lt gp rfl).2
          have hyl : Wy.heap.size < wr.heap.size := by omega
          have hgvl : gv < wr.heap.size := by omega
          have hgvw : ¬ gv = wr.heap.size := by omega
          gi_wp2
          go_roundw
          case rel => exact ⟨j + 1, by omega, by go_num, own_new (HOP.out.kept (grownBy_setCell (grownBy_refl wr (some gv)) j _) (.inr (by simp [Value.ownBlock]; omega))) ((New.refl _).alloc _), by rw [← HMX.out]; exact own_new (own_set HOVR.out j _) ((New.refl _).alloc _), grownBy_new (grownBy_setCell HGR.out _ _) ((New.refl _).alloc _)⟩
          case measure => simp [intOf]; omega
        · have hjq : j = q := by omega
          have HSEG := Lib.hid (show wr.ownsRow W0.heap.size 3 1 (.slice (some ⟨gv, 0, none⟩) q cv) q (inCells (segsL l k)) from by have := HOVR.out; rw [hjq, mixI_all HQ.out HSL.out] at this; exact this)
          have HBK := Lib.hid (show ∀ s, s < Wb.heap.size → s ≠ gv → wr.heap[s]? = Wb.heap[s]? from fun s hs hne => HGR.out.block s hs (fun h => by injection h with h; exact hne h))
          have HGOV := Lib.hid (show ∀ g, (Value.slice a k c).ownBlock = some g → g ≠ gv ∧ g < W0.heap.size from fun g hg => by have := HGO.out g hg; exact ⟨by omega, this⟩)
          have HOUTR := Lib.hid (show wr.ownsRow w.heap.size 84 3 (.slice a k c) k (stripCells l vs k) from own_keep HOUTB.out (fun g hg => HBK.out g (by have := HGO.out g hg; omega) (HGOV.out g hg).1))
          have cor : wr.cell? ⟨w1.heap.size, 0, none⟩ = some (.slice a k c) := by rw [← co.1]; exact cell_same (HBK.out _ (by omega) (by omega))
          have cs0r : wr.cell? ⟨Wy.heap.size, 0, none⟩ = some (.int .i64 X1) := by rw [← cs0]; exact cell_same (HBK.out _ (by omega) (by omega))
          have cs1r : wr.cell? ⟨Wy.heap.size, 1, none⟩ = some (.int .i64 X2) := by rw [← cs1]; exact cell_same (HBK.out _ (by omega) (by omega))
          have cs2r : wr.cell? ⟨Wy.heap.size, 2, none⟩ = some (.slice (some ⟨gv, 0, none⟩) q cv) := by rw [← cs2]; exact cell_same (HBK.out _ (by omega) (by omega))
          have hbox : wr.heap[w1.heap.size]? = some (.cells #[.slice a k c] 65 (0, 0)) := by rw [HBK.out _ (by omega) (by omega), HBO.out _ (by omega) (by omega)]; exact HBX.out
          have HBOXR := Lib.hid hbox
          clear hbox
          have hyl : Wy.heap.size < wr.heap.size := by omega
          have hwl2 : w1.heap.size < wr.heap.size := by omega
          have hkm2 : k ≤ 800 := by have := endXsL_le l; rw [HN.out] at this; omega
          have hbase : w.heap.size ≤ wr.heap.size := by omega
          obtain ⟨i0, hi, hz0, hz1, hz2⟩ := info_parts info84
          gi_wp2_with (gi_at_builtin; refine wpListIn_append_own_at _ rfl (.tmp 43) (.tmp 45) 65 rfl w.heap.size 84 i0 _ 3 40 Tryz.underlying65 hi hz0 hz1 hz2 rfl (by omega) (.slice a k c) k (stripCells l vs k) rfl (HOUTR.out.alloc _) ⟨wr.heap.size, 0, none⟩ 1 1 [.int .i64 X1, .int .i64 X2, .slice (some ⟨gv, 0, none⟩) q cv] rfl rfl (cells_new _ _ _ _ rfl) (by intro u hu; simp at hu; rcases hu with rfl | rfl | rfl <;> rfl) (by unfold maxLen; omega) (by omega) (by simp <;> omega) ?_; intro v5 w5 hown5 hgrow5 _ hat5; obtain ⟨g5, c5, rfl, hg51, hg52⟩ := hown5.form (by omega); have hb5 : w5.heap[w1.heap.size]? = some (.cells #[.slice a k c] 65 (0, 0)) := (hgrow5.block _ (by simp <;> omega) (Ne.symm (own_ne HOUTR.out HBOXR.out (by intro cur h; cases h)))).trans ((Below.heap_alloc _ _ _ hwl2).trans HBOXR.out); have c5c : w5.cell? ⟨w1.heap.size, 0, none⟩ = some (.slice a k c) ∧ w5.frozen? ⟨w1.heap.size, 0, none⟩ = false := box_cell hb5; have HO5 := Lib.hid hown5; have HG5 := Lib.hid hgrow5; have HA5 := Lib.hid hat5; have HB5 := Lib.hid hb5; clear hown5 hgrow5 hat5 hb5)
          have hlpW : wr.heap[WS.heap.size + 1]? = Wb.heap[WS.heap.size + 1]? := HBK.out _ (by omega) (Ne.symm HGL.out)
          have hlpo : some (WS.heap.size + 1) ≠ (Value.slice a k c).ownBlock := Ne.symm (own_ne HOUTR.out (hlpW.trans HBL.out) (by intro cur h; cases h))
          have hboo : some w1.heap.size ≠ (Value.slice a k c).ownBlock := Ne.symm (own_ne HOUTR.out HBOXR.out (by intro cur h; cases h))
          have h5k : ∀ s, s < wr.heap.size → some s ≠ (Value.slice a k c).ownBlock → w5.heap[s]? = wr.heap[s]? := fun s hs hne => (HG5.out.block s (by simp <;> omega) hne).trans (Below.heap_alloc _ _ _ hs)
          have h5l := (h5k _ (by omega) hlpo).trans (hlpW.trans HBL.out)
          have hG5 : (some g5 = (Value.slice a k c).ownBlock) ∨ g5 = wr.heap.size + 1 := by
            rcases HA5.out with h | h
            · exact .inl h
            · right; simp [Value.ownBlock] at h; exact h
          have hg5b : g5 ≠ w1.heap.size := by
            rcases hG5 with h | h
            · intro e; rw [e] at h; exact hboo h
            · omega
          have hg5l : g5 ≠ WS.heap.size + 1 := by
            rcases hG5 with h | h
            · intro e; rw [e] at h; exact hlpo h
            · omega
          have hg5p : g5 ≠ p := by
            rcases hG5 with h | h
            · intro e; rw [e] at h; exact hp h.symm
            · omega
          have hg5v : g5 ≠ gv := by
            rcases hG5 with h | h
            · exact (HGOV.out g5 h.symm).1
            · omega
          have HS := Lib.hid (show ∀ (o : Obj) (u : Value) s, s ≠ WS.heap.size + 1 → s ≠ w1.heap.size → ((w5.setCell ⟨w1.heap.size, 0, none⟩ u).putObj (WS.heap.size + 1) o).heap[s]? = w5.heap[s]? from fun o u s hne hne2 => (putObj_heap _ _ _ _ hne).trans (heap_setCell_other _ _ _ _ _ hne2))
          have HP := Lib.hid (show ∀ (o : Obj) (u : Value) s, s < Wy.heap.size → s ≠ WS.heap.size + 1 → s ≠ gv → some s ≠ (Value.slice a k c).ownBlock → s ≠ w1.heap.size → ((w5.setCell ⟨w1.heap.size, 0, none⟩ u).putObj (WS.heap.size + 1) o).heap[s]? = Wy.heap[s]? from fun o u s hs hne hne2 hne3 hne4 =>
            (HS.out o u s hne hne4).trans ((h5k s (by omega) hne3).trans ((HBK.out s (by omega) hne2).trans (HBO.out s hs hne))))
          have hDo : some WS.heap.size ≠ (Value.slice a k c).ownBlock := Ne.symm (own_ne HOUT.out HDY.out (by intro cur h; cases h))
          have hLo : some w.heap.size ≠ (Value.slice a k c).ownBlock := Ne.symm (own_ne HOUT.out HLY.out (by intro cur h; cases h))
          have hBo : some (w1.heap.size + 1) ≠ (Value.slice a k c).ownBlock := Ne.symm (own_ne HOUT.out HBBY.out (by intro cur h; cases h))
          have hbo2 : some b ≠ (Value.slice a k c).ownBlock := by
            intro h
            have h1 := (HOUT.out.lt b h.symm).1
            have h2 := HW.out.2.1
            omega
          have hbw := HW.out.2.1
          have hgvl2 : gv < wr.heap.size := by omega
          have hs5 := HG5.out.size
          simp only [World.size_alloc] at hs5
          refine ⟨(heap_setCell_other _ _ _ _ _ (by omega)).trans h5l, ?_, ?_⟩
          · unfold SweepI
            refine ⟨some ⟨g5, 0, none⟩, c5, vs ++ [.slice (some ⟨gv, 0, none⟩) q cv], by rw [List.length_append, HVL.out]; rfl, ?_, ?_, ?_, ?_, ?_, ?_, ?_, ?_, hp2, ?_, ?_⟩
            · rw [HSC.out]
              refine own_keep HO5.out fun g hg => ?_
              simp [Value.ownBlock] at hg
              rw [← hg]
              exact HS.out _ _ g5 hg5l hg5b
            · intro j2 hj2
              by_cases hjk : j2 < k
              · have hgd : (vs ++ [Value.slice (some ⟨gv, 0, none⟩) q cv]).getD j2 undef = vs.getD j2 undef := by simp [List.getD_eq_getElem?_getD, List.getElem?_append, HVL.out, hjk]
                rw [hgd]
                obtain ⟨o1, o2, o3⟩ := HVS.out j2 hjk
                refine ⟨own_keep o1 fun g hg => ?_, o2, ?_⟩
                · have hgw := (o1.lt g hg).2
                  have o1y := own_new o1 hny
                  rw [HP.out _ _ g (by omega) (fun e => own_ne o1y HRY.out (by intro cur h; cases h) (by rw [hg, e])) (by omega) (by rw [← hg]; exact o3) (fun e => own_ne o1y HBX.out (by intro cur h; cases h) (by rw [hg, e]))]
                  exact HE.out g hgw
                · intro h
                  rcases hG5 with h5 | h5
                  · exact o3 (h.trans h5)
                  · have := (o1.lt g5 h).2; omega
              · have hje : j2 = k := by omega
                subst hje
                have hgd : (vs ++ [Value.slice (some ⟨gv, 0, none⟩) q cv]).getD j2 undef = .slice (some ⟨gv, 0, none⟩) q cv := by simp [List.getD_eq_getElem?_getD, HVL.out]
                rw [hgd, HSL.out]
                refine ⟨own_base (own_keep HSEG.out fun g hg => ?_) (by omega), by simp [Value.ownBlock], by simp [Value.ownBlock]; exact fun e => hg5v e.symm⟩
                simp [Value.ownBlock] at hg
                rw [← hg]
                exact (HS.out _ _ gv HGL.out (by omega)).trans (h5k gv hgvl2 (fun e => (HGOV.out gv e.symm).1 rfl))
            · exact new_putObj (New.setCell (new_grown ((new_grownBy HNB.out HGR.out (by omega)).alloc _) HG5.out HOUTR.out) (by show w.heap.size ≤ w1.heap.size; omega) _) _ (by omega)
            · rw [putObj_heap _ _ _ _ (by omega)]
              exact heap_setCell_same w5 w1.heap.size 0 _ HB5.out
            · rw [HP.out _ _ _ (by omega) (by omega) (by omega) hDo (by omega)]; exact HDY.out
            · refine (World.putObj_heap_same ?_).trans (HRC.out.symm.trans (Array.getElem?_eq_getElem _))
              show _ < (w5.heap.modify _ _).size
              rw [Array.size_modify]
              exact (Array.getElem?_eq_some_iff.1 h5l).1
            · rw [HP.out _ _ _ (by omega) (by omega) (by omega) hLo (by omega)]; exact HLY.out
            · simp [Value.ownBlock]; exact hg5p
            · have := HF.out; omega
            · rw [HP.out _ _ _ (by omega) (by omega) (by omega) hBo (by omega)]; exact HBBY.out
          · refine ⟨⟨?_, ?_, ?_⟩, ?_⟩
            · rw [World.putObj_size]
              show _ ≤ (w5.heap.modify _ _).size
              rw [Array.size_modify]
              omega
            · rw [HP.out _ _ _ (by omega) (by omega) (by omega) hBo (by omega)]
            · rw [HP.out _ _ _ (by omega) (by omega) (by omega) hbo2 (by omega)]
            · rw [HP.out _ _ _ (by omega) (by omega) (by omega) (Ne.symm hp) (by omega)]
    · rintro e W' ⟨⟨v, rfl⟩, p, W0, hI, hn0⟩
      rw [HF.out] at hI
      obtain ⟨a, c, vs, hvl, hout, hvs, hnw, hbx2, hdf, hrc, hlb, hp, hp2, hkm, hbb0⟩ := hI
      have e : ∀ k, k < W0.heap.size → W'.heap[k]? = W0.heap[k]? := HOLD.out _ _ hn0
      have hlp : WS.heap.size + 1 < W0.heap.size := by
        have h1 := HRC.out
        rw [← hrc] at h1
        exact (Array.getElem?_eq_some_iff.1 h1).1
      exact ⟨⟨v, rfl⟩, ⟨a, c, vs, hvl, own_new hout hn0, fun j hj => own_new (hvs j hj).1 hn0, hnw.trans hn0, by rw [e _ (by omega)]; exact hbx2, by rw [e _ (by omega)]; exact hdf, _, (e _ hlp).trans (hrc.trans HRC.out)⟩, (e _ hlp).trans (hrc.trans HRC.out)⟩
  case hdone =>
    rintro W o ⟨a, c, vs, hvl, hout, hvs, hnw, hbx2, hdf, r, hrc⟩
    have HF := Lib.hid hM
    obtain ⟨Wf, HWf⟩ : ∃ Wf, Hid (Wf = W.putObj (WS.heap.size + 1) o) := ⟨_, Lib.hid rfl⟩
    rw [← HWf.out]
    have hsn := HNS.out.size
    have hbf : Wf.heap[w1.heap.size]? = some (.cells #[.slice a M c] 65 (0, 0)) := by rw [HWf.out, putObj_heap _ _ _ _ (by omega)]; exact hbx2
    have hcell : Wf.cell? ⟨w1.heap.size, 0, none⟩ = some (.slice a M c) := by simp [World.cell?, hbf]
    have HDF := Lib.hid (show Wf.heap[WS.heap.size]? = some (.deferred (some [])) by rw [HWf.out, putObj_heap _ _ _ _ (by omega)]; exact hdf)
    have HOUT := Lib.hid (show Wf.ownsRow w.heap.size 84 3 (.slice a M c) M (stripCells l vs M) by rw [HWf.out]; exact ownsRow_putObj hout _ hrc rfl)
    have HVS := Lib.hid (show ∀ j, j < M → Wf.ownsRow w.heap.size 3 1 (vs.getD j undef) (segsL l j).length (inCells (segsL l j)) by intro j hj; rw [HWf.out]; exact ownsRow_putObj (hvs j hj) _ hrc rfl)
    have HNW := Lib.hid (show New w Wf by rw [HWf.out]; exact new_putObj hnw _ (by omega))
    have HVL := Lib.hid hvl
    clear hout hvs hnw hbx2 hdf hrc hvl hbf
    gi_wp2
    refine ⟨by simp, .inl ⟨_, _, rfl, run_takeDeferred HDF.out, ?_⟩⟩
    refine ⟨_, results_tmp2 rfl _ _ _, ?_⟩
    rw [HF.out]
    exact ⟨a, c, vs, rfl, HVL.out, ownsRow_putObj HOUT.out _ HDF.out rfl, fun j hj => ownsRow_putObj (HVS.out j hj) _ HDF.out rfl, new_putObj HNW.out _ hsn⟩

end Go.Proofs.YtpdfbboagaflhaaGreat
