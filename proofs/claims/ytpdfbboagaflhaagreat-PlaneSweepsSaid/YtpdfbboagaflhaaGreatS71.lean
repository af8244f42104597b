/- Sweep and CheckSweep at every input; the reference: spans, ended, HeightAt, upright, Events, strip. -/
import Derived.Test.YtpdfbboagaflhaaGreatS44
import Derived.Test.YtpdfbboagaflhaaGreatS42
import Derived.Test.YtpdfbboagaflhaaGreatS41
import Derived.Test.YtpdfbboagaflhaaGreatM51
import Derived.RegionIn
import Derived.Maps.OwnIn
import Derived.Deep.Slices
import Derived.Deep.Strs
import Derived.SizedLaws
import Derived.Deep.RegionHeld3
import Derived.Deep.RegionWith
import Derived.BigRegion
import Derived.BigQuiet
import Derived.LoopTactic
import Derived.Lib.MinMax
import Derived.Deep.DeepCutAuto
import Derived.Deep.AppendLies
import Derived.Deep.RegionLaw

set_option linter.unusedSimpArgs false
set_option linter.unusedVariables false
namespace Go.Proofs.YtpdfbboagaflhaaGreat
open Go.RowKit Go.Shelf

attribute [local go_sem] Oper.semAt_some

/-- what holds between two rounds of Sweep: k strips are laid; the block p is none of theirs -/
def SweepJ (l : List S4) (B0 Bo D M : Nat) (w : World) (sv : Value) (RC : Option Obj) (p k : Nat) (W : World) : Prop :=
  ∃ a c vs, vs.length = k ∧ W.ownsRow B0 84 3 (.slice a k c) k (stripCells l vs k) ∧
    (∀ j, j < k → W.ownsRow B0 3 1 (vs.getD j undef) (segsQ l j).length (inCells (segsQ l j)) ∧ (∀ g, (vs.getD j undef).ownBlock = some g → (Value.slice a k c).ownBlock ≠ some g)) ∧
    New w W ∧ W.heap[Bo]? = some (.cells #[.slice a k c] 65 (0, 0)) ∧ W.heap[D]? = some (.deferred (some [])) ∧ W.heap[D + 1]? = RC ∧ W.heap[B0]? = some (.cells #[sv] 58 (0, 0)) ∧
    (Value.slice a k c).ownBlock ≠ some p ∧ D + 2 ≤ p ∧ k ≤ M ∧ W.heap[Bo + 1]? = some (.cells #[sv] 58 (0, 0))

set_option maxRecDepth 100000 in
set_option maxHeartbeats 32000000 in
theorem sweep_any (b off n cp : Nat) (l : List S4) (w : World) (h0 : 0 < n) (hl : n ≤ 400) (hw : Segs w b off n l) (hok : okSegs l = true) (hA : ∀ en, ApartIs l en → en = .returned (.int .i64 0)) (hxb : ∀ k, 0 ≤ xAt l k ∧ xAt l k ≤ 10000) (hhb : ∀ k, k + 1 < (endXsL l).length → Pile (pileL l k)) :
    Calls Tryz.prog 70 #[.slice (some ⟨b, off, none⟩) n cp] w fun en w' => ∃ a c vs, en = .returned (.tuple #[.slice a ((endXsL l).length - 1) c, .int .i64 0]) ∧ vs.length = (endXsL l).length - 1 ∧ w'.ownsRow w.heap.size 84 3 (.slice a ((endXsL l).length - 1) c) ((endXsL l).length - 1) (stripCells l vs ((endXsL l).length - 1)) ∧ (∀ j, j < (endXsL l).length - 1 → w'.ownsRow w.heap.size 3 1 (vs.getD j undef) (segsQ l j).length (inCells (segsQ l j))) ∧ New w w' := by
  have HW := Lib.hid hw
  have HN := Lib.hid hw.1
  have HCK := Lib.hid (show ∀ w1 : World, New w w1 → CallsIn Fence.wide 4 Tryz.prog 137 #[.slice (some ⟨b, off, none⟩) n cp] w1 fun e w' => e = .returned (.int .i64 0) ∧ New w1 w' from fun w1 h1 => (callsIn_wide (n := 4)).2 ((checkApart_c b off n cp l w1 (by omega) (hw.new h1)).mono fun e w' h => ⟨hA e h.1, h.2⟩))
  have HST := Lib.hid (fun (w1 : World) => (callsIn_wide (n := 4)).2 (strips_c (some ⟨b, off, none⟩) n cp w1))
  clear hw hA
  refine (callsIn_wide (n := 5)).1 ?_
  refine callsIn_of_wp_marks Tryz.func70 rfl trivial ?_ rfl
  simp only [Tryz.ntmps70, List.size_toArray, List.length_cons, List.length_nil, Nat.reduceAdd, Nat.reduceSub, Array.replicate_succ, Array.replicate_zero, List.push_toArray, List.append_toArray, List.nil_append, List.cons_append]
  gi_wp2
  refine ⟨trivial, ?_⟩
  gi_at_call 137
  refine (HCK.out _ ((New.refl _).alloc _)).mono ?_
  rintro e w1 ⟨rfl, hn1⟩
  have HN1 := Lib.hid hn1
  have hbx : w1.cell? ⟨w.heap.size, 0, none⟩ = some (.slice (some ⟨b, off, none⟩) n cp) := (hn1.below.cell (p := ⟨w.heap.size, 0, none⟩) (by simp)).trans (by simp [go_sem])
  have hsz1 := hn1.size
  simp only [World.size_alloc] at hsz1
  have hwl : w.heap.size < w1.heap.size := by omega
  clear hn1
  gi_wp2
  refine ⟨trivial, ?_⟩
  gi_at_call 143
  refine (HST.out _).mono ?_
  rintro e w2 ⟨rfl, rfl⟩
  gi_wp2
  obtain ⟨WS, HWS⟩ : ∃ WS : World, Hid (WS = (w1.alloc (.cells #[.slice none 0 0] 65)).alloc (.cells #[.slice (some ⟨b, off, none⟩) n cp] 58)) := ⟨_, Lib.hid rfl⟩
  rw [← HWS.out]
  have hss : WS.heap.size = w1.heap.size + 2 := by rw [HWS.out]; simp
  have hss1 : w1.heap.size + 2 ≤ WS.heap.size := by omega
  have hss2 : WS.heap.size ≤ w1.heap.size + 2 := by omega
  clear hss
  have HNS := Lib.hid (show New w WS by rw [HWS.out]; exact (((New.refl _).alloc _).trans HN1.out).alloc _ |>.alloc _)
  have HOB := Lib.hid (show WS.heap[w1.heap.size]? = some (.cells #[.slice none 0 0] 65 (0, 0)) by rw [HWS.out]; exact (Below.heap_alloc _ _ _ (by simp)).trans (World.alloc_heap_new w1 _))
  have HBB := Lib.hid (show WS.heap[w1.heap.size + 1]? = some (.cells #[.slice (some ⟨b, off, none⟩) n cp] 58 (0, 0)) by rw [HWS.out]; have := World.alloc_heap_new (w1.alloc (.cells #[.slice none 0 0] 65)) (.cells #[.slice (some ⟨b, off, none⟩) n cp] 58); rwa [World.size_alloc] at this)
  generalize hM : (endXsL l).length - 1 = M at *
  refine range_whole (n := 5) rfl (fun _ => trivial) (by omega) (gf := 179) (lb := #[.pointer (some ⟨w1.heap.size + 1, 0, none⟩)]) rfl (enters_of Tryz.func179 (by kernel_rfl) rfl)
    (fun W => ∃ a c vs, vs.length = M ∧ W.ownsRow w.heap.size 84 3 (.slice a M c) M (stripCells l vs M) ∧ (∀ j, j < M → W.ownsRow w.heap.size 3 1 (vs.getD j undef) (segsQ l j).length (inCells (segsQ l j))) ∧ New w W ∧ W.heap[w1.heap.size]? = some (.cells #[.slice a M c] 65 (0, 0)) ∧ W.heap[WS.heap.size]? = some (.deferred (some [])) ∧ ∃ r, W.heap[WS.heap.size + 1]? = some (.loop r)) ?hit ?hdone
  case hit =>
    intro fn W1 hW1
    have HF := Lib.hid hM
    have hsn := HNS.out.size
    have hD1 : W1.heap.size = WS.heap.size + 2 := by rw [hW1]; simp
    have HNW1 := Lib.hid (show New WS W1 by rw [hW1]; exact ((New.refl _).alloc _).alloc _)
    have HDF := Lib.hid (show W1.heap[WS.heap.size]? = some (.deferred (some [])) by rw [hW1]; exact (Below.heap_alloc _ _ _ (by simp)).trans (World.alloc_heap_new WS _))
    have hrc1 := alloc2_new hW1
    have HRC := Lib.hid hrc1
    clear hrc1
    clear hW1
    have HLB := Lib.hid (show w1.heap[w.heap.size]? = some (.cells #[.slice (some ⟨b, off, none⟩) n cp] 58 (0, 0)) by
      obtain ⟨_, _, _, _, h5⟩ := HN1.out.below
      rw [h5 _ (by simp)]
      exact World.alloc_heap_new w _)
    have HNWS := Lib.hid (show New w1 WS by rw [HWS.out]; exact ((New.refl _).alloc _).alloc _)
    have hold : ∀ (X Y : World) (h : New X Y) (k : Nat), k < X.heap.size → Y.heap[k]? = X.heap[k]? := fun X Y h k hk => h.below.block k hk
    have HOLD := Lib.hid hold
    clear hold
    refine (strips1_in 4 (by omega) (WS.heap.size + 1) (w1.heap.size + 1) b off n cp l h0 (by omega)
      (SweepJ l w.heap.size w1.heap.size WS.heap.size M w (.slice (some ⟨b, off, none⟩) n cp) (W1.heap[WS.heap.size + 1]?))
      W1 ?_ (by omega) (HW.out.new (HNS.out.trans HNW1.out)) ?_ ?_).mono ?_
    · have h1 : W1.heap[w1.heap.size + 1]? = some (.cells #[.slice (some ⟨b, off, none⟩) n cp] 58 (0, 0)) := by rw [HOLD.out _ _ HNW1.out _ (by omega)]; exact HBB.out
      simp [World.cell?, h1]
    · intro p W' hnw hp1 hp2
      have e : ∀ k, k < W1.heap.size → W'.heap[k]? = W1.heap[k]? := HOLD.out _ _ hnw
      have e2 : ∀ k, k < WS.heap.size → W'.heap[k]? = WS.heap[k]? := fun k hk => (e k (by omega)).trans (HOLD.out _ _ HNW1.out k hk)
      unfold SweepJ
      exact ⟨none, 0, [], rfl, World.ownsRow_nil _ _ _ _, fun j hj => by omega, HNS.out.trans (HNW1.out.trans hnw), by rw [e2 _ (by omega)]; exact HOB.out, by rw [e _ (by omega)]; exact HDF.out, e _ (by omega), by rw [e2 _ (by omega), HOLD.out _ _ HNWS.out _ hwl]; exact HLB.out, by simp [Value.ownBlock], by omega, Nat.zero_le _, by rw [e2 _ (by omega)]; exact HBB.out⟩
    · intro p k v W0 Wy hI hp0 hny hk1 hov
      obtain ⟨a, c, vs, hvl, hout, hvs, hnw, hbx2, hdf, hrc, hlb, hp, hp2, hkm, hbb0⟩ := hI
      have e : ∀ q, q < W0.heap.size → Wy.heap[q]? = W0.heap[q]? := HOLD.out _ _ hny
      have hs0 := hnw.size
      have hsny := hny.size
      have hlp : WS.heap.size + 1 < W0.heap.size := by
        have h1 := HRC.out
        rw [← hrc] at h1
        exact (Array.getElem?_eq_some_iff.1 h1).1
      have HK1 := Lib.hid (show k + 1 < (endXsL l).length from hk1)
      have HRY := Lib.hid (show Wy.heap[WS.heap.size + 1]? = _ from (e _ hlp).trans (hrc.trans HRC.out))
      have HOV := Lib.hid hov
      obtain ⟨av, cv, rfl⟩ := own_slice hov
      have HGO := Lib.hid (fun g hg => (hout.lt g hg).2)
      have HOUT := Lib.hid (own_new hout hny)
      have HVS := Lib.hid hvs
      have HNY := Lib.hid (hnw.trans hny)
      have HBX := Lib.hid (show Wy.heap[w1.heap.size]? = some (.cells #[.slice a k c] 65 (0, 0)) by rw [e _ (by omega)]; exact hbx2)
      have HDY := Lib.hid (show Wy.heap[WS.heap.size]? = some (.deferred (some [])) by rw [e _ (by omega)]; exact hdf)
      have HBBY := Lib.hid (show Wy.heap[w1.heap.size + 1]? = some (.cells #[.slice (some ⟨b, off, none⟩) n cp] 58 (0, 0)) by rw [e _ (by omega)]; exact hbb0)
      have HLY := Lib.hid (show Wy.heap[w.heap.size]? = some (.cells #[.slice (some ⟨b, off, none⟩) n cp] 58 (0, 0)) by rw [e _ (by omega)]; exact hlb)
      have HE := Lib.hid e
      have HVL := Lib.hid hvl
      clear hvs hbx2 hdf hrc hlb hbb0 e hout hov hvl
      refine yield_round (fun _ => trivial) HRY.out ?_
      gi_wp2
      refine ⟨by rw [Below.heap_alloc _ _ _ (by have := (Array.getElem?_eq_some_iff.1 HRY.out).1; exact this)]; exact HRY.out, ?_⟩
      have hlpy := (Array.getElem?_eq_some_iff.1 HRY.out).1
      have HQL := Lib.hid (show spanTo l (xAt l k) (xAt l (k + 1)) n = spanI l k by unfold spanI; rw [HN.out])
      rw [HQL.out] at HOV ⊢
      have hx1 := hxb k
      have hx2 := hxb (k + 1)
      have HX := Lib.hid (show pileL l k = heightsTo l (spanN l k) (xAt l k + xAt l (k + 1)) (spanI l k).length from rfl)
      have HSC := Lib.hid (show stripCells l (vs ++ [.slice av (spanI l k).length cv]) (k + 1) = stripCells l vs k ++ [.int .i64 (xAt l k), .int .i64 (xAt l (k + 1)), .slice av (spanI l k).length cv] by
        simp only [stripCells]
        rw [stripCells_ext _ _ _ _ (by rw [HVL.out]; exact Nat.le_refl _)]
        simp [List.getD_eq_getElem?_getD, HVL.out])
      have HSL := Lib.hid (segsQ_length l k)
      have hq12 : (spanI l k).length ≤ n := by have := spanTo_le l (xAt l k) (xAt l (k + 1)) l.length; unfold spanI; rw [HN.out] at this ⊢; exact this
      generalize xAt l k = X1 at *
      generalize xAt l (k + 1) = X2 at *
      generalize hq : (spanI l k).length = q at *
      have HQ := Lib.hid hq
      clear hq
      have HGB := Lib.hid (show ∀ g, (Value.slice av q cv).ownBlock = some g → g ≠ WS.heap.size + 1 ∧ W0.heap.size ≤ g ∧ g < Wy.heap.size from fun g hg => ⟨fun e => own_ne HOV.out HRY.out (by intro cur h; cases h) (by rw [hg, e]), (HOV.out.lt g hg).1, (HOV.out.lt g hg).2⟩)
      refine name_putObj ?_
      intro Wb hWb
      have hbs : Wb.heap.size = Wy.heap.size + 1 := by rw [hWb]; simp
      have hbs1 : Wb.heap.size ≤ Wy.heap.size + 1 := by omega
      have hbs2 : Wy.heap.size + 1 ≤ Wb.heap.size := by omega
      clear hbs
      have hbo : ∀ s, s < Wy.heap.size → s ≠ WS.heap.size + 1 → Wb.heap[s]? = Wy.heap[s]? := fun s hs hne => by
        rw [hWb, putObj_heap _ _ _ _ hne]; exact Below.heap_alloc _ _ _ hs
      have hbl := putObj_at hWb (by simp; omega)
      have hbx : Wb.heap[Wy.heap.size]? = some (.cells #[.int .i64 X1, .int .i64 X2, .slice av q cv] 84 (0, 0)) := by
        rw [hWb, putObj_heap _ _ _ _ (by omega)]; exact World.alloc_heap_new Wy _
      have HNB := Lib.hid (show New w Wb by rw [hWb]; exact new_putObj (HNY.out.alloc _) _ (by omega))
      have HBL := Lib.hid hbl
      have HBXX := Lib.hid hbx
      have HBO := Lib.hid hbo
      clear hWb hbl hbx hbo
      have HOVB := Lib.hid (show Wb.ownsRow W0.heap.size 3 1 (.slice av q cv) q (inCells (spanI l k)) from own_keep HOV.out fun g hg => HBO.out g (HGB.out g hg).2.2 (HGB.out g hg).1)
      have HOUTB := Lib.hid (show Wb.ownsRow w.heap.size 84 3 (.slice a k c) k (stripCells l vs k) from by
        refine ⟨HOUT.out.1, HOUT.out.2.imp (fun h => h) fun ⟨x1, x2, x3, x4, x5, x6, x7⟩ => ⟨x1, x2, x3, x4, x5, ?_, x7⟩⟩
        have h3 := (Array.getElem?_eq_some_iff.1 x6).1
        rw [HBO.out x1 h3 (fun h => by rw [h, HRY.out] at x6; cases x6)]
        exact x6)
      have hsy := HNY.out.size
      have hsw := HNWS.out.size
      have clx : Wb.cell? ⟨w.heap.size, 0, none⟩ = some (.slice (some ⟨b, off, none⟩) n cp) := by
        have h1 := HBO.out w.heap.size (by omega) (by omega)
        rw [HLY.out] at h1
        simp [World.cell?, h1]
      have co : Wb.cell? ⟨w1.heap.size, 0, none⟩ = some (.slice a k c) ∧ Wb.frozen? ⟨w1.heap.size, 0, none⟩ = false := by
        have h1 := HBO.out w1.heap.size (by omega) (by omega)
        rw [HBX.out] at h1
        simp [World.cell?, World.frozen?, h1]
      have cs : (Wb.cell? ⟨Wy.heap.size, 0, none⟩ = some (.int .i64 X1) ∧ Wb.cell? ⟨Wy.heap.size, 1, none⟩ = some (.int .i64 X2)) ∧ Wb.cell? ⟨Wy.heap.size, 2, none⟩ = some (.slice av q cv) := by
        have h1 := HBXX.out
        simp [World.cell?, h1]
      obtain ⟨⟨cs0, cs1⟩, cs2⟩ := cs
      by_cases hq0 : 0 < q
      · obtain ⟨gv, cv2, hgv0, hgv1, hgv2⟩ := HOV.out.form hq0
        obtain ⟨rfl, rfl⟩ : av = some ⟨gv, 0, none⟩ ∧ cv = cv2 := by cases hgv0; exact ⟨rfl, rfl⟩
        clear hgv0
        have hgl : gv ≠ WS.heap.size + 1 := (HGB.out gv (by simp [Value.ownBlock])).1
        have HPS := Lib.hid (show (pileL l k).length = q by rw [pileL_length]; exact HQ.out)
        have HNAT := Lib.hid (nats_own HOVB.out HQ.out)
        have HHT := Lib.hid (fun (w9 : World) (h9 : New Wb w9) => CallsIn.inRound (WS.heap.size + 1) ((callsIn_wide (n := 4 - 1 - 1)).2 (heights_c b off n cp gv 0 q cv l (spanN l k) (X1 + X2) w9 (by omega) (HW.out.new (HNB.out.trans h9)) (HNAT.out.new h9) (fun j hj => by have := (spanN_at l k j (by rw [HQ.out]; exact hj)).2; rw [HN.out] at this; exact this) hok (by omega))))
        have HSO := Lib.hid (fun (base gp cap : Nat) (w9 : World) (ho : w9.ownsRow base 142 3 (.slice (some ⟨gp, 0, none⟩) q cap) q (htCells (pileL l k))) => CallsIn.inRound (WS.heap.size + 1) ((callsIn_wide (n := 4 - 1 - 1)).2 (sortQ_c base gp q cap (pileL l k) w9 hq0 (by omega) HPS.out (hhb k HK1.out) ho)))
        have HGL := Lib.hid hgl
        clear hgl
        have hgv3 : gv < Wb.heap.size := by omega
        gi_wp2_with (first | (refine ⟨trivial, ?_⟩; gi_at_call 144; refine (HHT.out _ (New.refl _)).mono ?_; rintro e w3 ⟨vp, rfl, ho3, hn3⟩; rw [← HX.out] at ho3; obtain ⟨gp, cpp, rfl, hgp1, hgp2⟩ := ho3.form hq0; have HO3 := Lib.hid ho3; have HN3 := Lib.hid hn3; clear ho3 hn3) | (refine ⟨trivial, ?_⟩; gi_at_call 145; refine (HSO.out _ gp cpp _ HO3.out).mono ?_; rintro e w4 ⟨rfl, ho4, hg4⟩; have HO4 := Lib.hid ho4; have HG4 := Lib.hid hg4; clear ho4 hg4))
        have HNW4 := Lib.hid (show New Wb w4 from new_grownBy HN3.out HG4.out hgp1)
        have HPL4 := Lib.hid (show (pileQ l k).length = q by rw [pileQ_length]; exact HQ.out)
        have hs4 := HNW4.out.size
        have hgp4 := (HO4.out.lt gp rfl).2
        gi_loopw [8, 9, 31] (fun s8 s9 s31 wr => ∃ j : Nat, j ≤ q ∧ s31 = .int .i64 j ∧ wr.ownsRow Wb.heap.size 142 3 (.slice (some ⟨gp, 0, none⟩) q cpp) q (htCells (pileQ l k)) ∧ wr.ownsRow W0.heap.size 3 1 (.slice (some ⟨gv, 0, none⟩) q cv) q (inCells (mixI (spanI l k) (segsQ l k) j)) ∧ Wb.grownBy wr (some gv)) (fun _ _ i _ => q - (intOf i).toNat)
        case atStart => exact ⟨0, Nat.zero_le _, rfl, HO4.out, by rw [mixI_zero]; exact own_new HOVB.out HNW4.out, grownBy_new (grownBy_refl Wb _) HNW4.out⟩
        case round =>
          obtain ⟨j, hj, rfl, hop, hov, hgr⟩ := hrel
          have HOP := Lib.hid hop
          have HOVR := Lib.hid hov
          have HGR := Lib.hid hgr
          clear hop hov hgr
          have hsr := HGR.out.size
          by_cases hlt : j < q
          · obtain ⟨e1, e2, e3⟩ := htCells_at (pileQ l k) j (by rw [HPL4.out]; exact hlt)
            have g1 := (own_cell HOP.out e1).1
            have g2 := (own_cell HOP.out e2).1
            have g3 := (own_cell HOP.out e3).1
            rw [segsQ_at l k j (by rw [HQ.out]; exact hlt)] at g3
            have HMX := Lib.hid (mixI_set (s0 := spanI l k) (s1 := segsQ l k) HQ.out HSL.out hlt)
            generalize h1 (pileQ l k) j = A1 at *
            generalize h2 (pileQ l k) j = A2 at *
            generalize (segsQ l k).getD j 0 = A3 at *
            clear e1 e2 e3
            obtain ⟨v1, v2⟩ := own_any HOVR.out (j := j) (by have := (own_cap HOVR.out).1; omega)
            obtain ⟨vv, v3⟩ := Option.isSome_iff_exists.1 v1
            clear v1
            have c2r : wr.cell? ⟨Wy.heap.size, 2, none⟩ = some (.slice (some ⟨gv, 0, none⟩) q cv) := by
              rw [← cs2]; exact cell_same (HGR.out.block _ (by omega) (fun h => by injection h with h; omega))
            have hgpr := (HOP.out.lt gp rfl).2
            have hyl : Wy.heap.size < wr.heap.size := by omega
            have hgvl : gv < wr.heap.size := by omega
            have hgvw : ¬ gv = wr.heap.size := by omega
            gi_wp2
            go_roundw
            case rel => exact ⟨j + 1, by omega, by go_num, own_new (HOP.out.kept (grownBy_setCell (grownBy_refl wr (some gv)) j _) (.inr (by simp [Value.ownBlock]; omega))) ((New.refl _).alloc _), by rw [← HMX.out]; exact own_new (own_set HOVR.out j _) ((New.refl _).alloc _), grownBy_new (grownBy_setCell HGR.out _ _) ((New.refl _).alloc _)⟩
            case measure => simp [intOf]; omega
          · have hjq : j = q := by omega
            have HSEG := Lib.hid (show wr.ownsRow W0.heap.size 3 1 (.slice (some ⟨gv, 0, none⟩) q cv) q (inCells (segsQ l k)) from by have := HOVR.out; rw [hjq, mixI_all HQ.out HSL.out] at this; exact this)
            have HBK := Lib.hid (show ∀ s, s < Wb.heap.size → (∀ g, (Value.slice (some ⟨gv, 0, none⟩) q cv).ownBlock = some g → s ≠ g) → wr.heap[s]? = Wb.heap[s]? from fun s hs hne => HGR.out.block s hs (fun h => by injection h with h; exact hne gv (by simp [Value.ownBlock]) h))
            have HNR := Lib.hid (show New w wr from new_grownBy HNB.out HGR.out (by omega))
            generalize hav : (some ⟨gv, 0, none⟩ : Option Addr) = av at *
            clear hav
            have HGOV := Lib.hid (show ∀ g, (Value.slice a k c).ownBlock = some g → (∀ g', (Value.slice av q cv).ownBlock = some g' → g ≠ g') ∧ g < W0.heap.size from fun g hg => by have := HGO.out g hg; exact ⟨fun g' hg' => by have := HGB.out g' hg'; omega, this⟩)
            have HOUTR := Lib.hid (show wr.ownsRow w.heap.size 84 3 (.slice a k c) k (stripCells l vs k) from own_keep HOUTB.out (fun g hg => HBK.out g (by have := HGO.out g hg; omega) (HGOV.out g hg).1))
            have cor : wr.cell? ⟨w1.heap.size, 0, none⟩ = some (.slice a k c) := by rw [← co.1]; exact cell_same (HBK.out _ (by omega) (fun g hg => by have := HGB.out g hg; omega))
            have cs0r : wr.cell? ⟨Wy.heap.size, 0, none⟩ = some (.int .i64 X1) := by rw [← cs0]; exact cell_same (HBK.out _ (by omega) (fun g hg => by have := HGB.out g hg; omega))
            have cs1r : wr.cell? ⟨Wy.heap.size, 1, none⟩ = some (.int .i64 X2) := by rw [← cs1]; exact cell_same (HBK.out _ (by omega) (fun g hg => by have := HGB.out g hg; omega))
            have cs2r : wr.cell? ⟨Wy.heap.size, 2, none⟩ = some (.slice av q cv) := by rw [← cs2]; exact cell_same (HBK.out _ (by omega) (fun g hg => by have := HGB.out g hg; omega))
            have hbox : wr.heap[w1.heap.size]? = some (.cells #[.slice a k c] 65 (0, 0)) := by rw [HBK.out _ (by omega) (fun g hg => by have := HGB.out g hg; omega), HBO.out _ (by omega) (by omega)]; exact HBX.out
            have HBOXR := Lib.hid hbox
            clear hbox
            have hyl : Wy.heap.size < wr.heap.size := by omega
            have hwl2 : w1.heap.size < wr.heap.size := by omega
            have hkm2 : k ≤ 800 := by have := endXsL_le l; rw [HN.out] at this; omega
            have hbase : w.heap.size ≤ wr.heap.size := by omega
            obtain ⟨i0, hi, hz0, hz1, hz2⟩ := info_parts info84
            gi_wp2_with (gi_at_builtin; refine wpListIn_append_own_at _ rfl (.tmp 43) (.tmp 45) 65 rfl w.heap.size 84 i0 _ 3 40 Tryz.underlying65 hi hz0 hz1 hz2 rfl (by omega) (.slice a k c) k (stripCells l vs k) rfl (HOUTR.out.alloc _) ⟨wr.heap.size, 0, none⟩ 1 1 [.int .i64 X1, .int .i64 X2, .slice av q cv] rfl rfl (cells_new _ _ _ _ rfl) (by intro u hu; simp at hu; rcases hu with rfl | rfl | rfl <;> rfl) (by unfold maxLen; omega) (by omega) (by simp <;> omega) ?_; intro v5 w5 hown5 hgrow5 _ hat5; obtain ⟨g5, c5, rfl, hg51, hg52⟩ := hown5.form (by omega); have hb5 : w5.heap[w1.heap.size]? = some (.cells #[.slice a k c] 65 (0, 0)) := (hgrow5.block _ (by simp <;> omega) (Ne.symm (own_ne HOUTR.out HBOXR.out (by intro cur h; cases h)))).trans ((Below.heap_alloc _ _ _ hwl2).trans HBOXR.out); have c5c : w5.cell? ⟨w1.heap.size, 0, none⟩ = some (.slice a k c) ∧ w5.frozen? ⟨w1.heap.size, 0, none⟩ = false := box_cell hb5; have HO5 := Lib.hid hown5; have HG5 := Lib.hid hgrow5; have HA5 := Lib.hid hat5; have HB5 := Lib.hid hb5; clear hown5 hgrow5 hat5 hb5)
            have hlpW : wr.heap[WS.heap.size + 1]? = Wb.heap[WS.heap.size + 1]? := HBK.out _ (by omega) (fun g hg => Ne.symm (HGB.out g hg).1)
            have hlpo : some (WS.heap.size + 1) ≠ (Value.slice a k c).ownBlock := Ne.symm (own_ne HOUTR.out (hlpW.trans HBL.out) (by intro cur h; cases h))
            have hboo : some w1.heap.size ≠ (Value.slice a k c).ownBlock := Ne.symm (own_ne HOUTR.out HBOXR.out (by intro cur h; cases h))
            have h5k : ∀ s, s < wr.heap.size → some s ≠ (Value.slice a k c).ownBlock → w5.heap[s]? = wr.heap[s]? := fun s hs hne => (HG5.out.block s (by simp <;> omega) hne).trans (Below.heap_alloc _ _ _ hs)
            have h5l := (h5k _ (by omega) hlpo).trans (hlpW.trans HBL.out)
            have hG5 : (some g5 = (Value.slice a k c).ownBlock) ∨ g5 = wr.heap.size + 1 := by
              rcases HA5.out with h | h
              · exact .inl h
              · right; simp [Value.ownBlock] at h; exact h
            have hg5b : g5 ≠ w1.heap.size := by
              rcases hG5 with h | h
              · intro e; rw [e] at h; exact hboo h
              · omega
            have hg5l : g5 ≠ WS.heap.size + 1 := by
              rcases hG5 with h | h
              · intro e; rw [e] at h; exact hlpo h
              · omega
            have hg5p : g5 ≠ p := by
              rcases hG5 with h | h
              · intro e; rw [e] at h; exact hp h.symm
              · omega
            have hg5v : ∀ g, (Value.slice av q cv).ownBlock = some g → g5 ≠ g := fun g hg => by
              rcases hG5 with h | h
              · exact (HGOV.out g5 h.symm).1 g hg
              · have := HGB.out g hg; omega
            have HS := Lib.hid (show ∀ (o : Obj) (u : Value) s, s ≠ WS.heap.size + 1 → s ≠ w1.heap.size → ((w5.setCell ⟨w1.heap.size, 0, none⟩ u).putObj (WS.heap.size + 1) o).heap[s]? = w5.heap[s]? from fun o u s hne hne2 => (putObj_heap _ _ _ _ hne).trans (heap_setCell_other _ _ _ _ _ hne2))
            have HP := Lib.hid (show ∀ (o : Obj) (u : Value) s, s < Wy.heap.size → s ≠ WS.heap.size + 1 → (∀ g, (Value.slice av q cv).ownBlock = some g → s ≠ g) → some s ≠ (Value.slice a k c).ownBlock → s ≠ w1.heap.size → ((w5.setCell ⟨w1.heap.size, 0, none⟩ u).putObj (WS.heap.size + 1) o).heap[s]? = Wy.heap[s]? from fun o u s hs hne hne2 hne3 hne4 =>
              (HS.out o u s hne hne4).trans ((h5k s (by omega) hne3).trans ((HBK.out s (by omega) hne2).trans (HBO.out s hs hne))))
            have hDo : some WS.heap.size ≠ (Value.slice a k c).ownBlock := Ne.symm (own_ne HOUT.out HDY.out (by intro cur h; cases h))
            have hLo : some w.heap.size ≠ (Value.slice a k c).ownBlock := Ne.symm (own_ne HOUT.out HLY.out (by intro cur h; cases h))
            have hBo : some (w1.heap.size + 1) ≠ (Value.slice a k c).ownBlock := Ne.symm (own_ne HOUT.out HBBY.out (by intro cur h; cases h))
            have hbo2 : some b ≠ (Value.slice a k c).ownBlock := by
              intro h
              have h1 := (HOUT.out.lt b h.symm).1
              have h2 := HW.out.2.1
              omega
            have hbw := HW.out.2.1
            have hs5 := HG5.out.size
            simp only [World.size_alloc] at hs5
            have hbel : ∀ s, s < W0.heap.size → ∀ g, (Value.slice av q cv).ownBlock = some g → s ≠ g := fun s hs g hg => by have := HGB.out g hg; omega
            refine ⟨(heap_setCell_other _ _ _ _ _ (by omega)).trans h5l, ?_, ?_⟩
            · unfold SweepJ
              refine ⟨some ⟨g5, 0, none⟩, c5, vs ++ [.slice av q cv], by rw [List.length_append, HVL.out]; rfl, ?_, ?_, ?_, ?_, ?_, ?_, ?_, ?_, hp2, ?_, ?_⟩
              · rw [HSC.out]
                refine own_keep HO5.out fun g hg => ?_
                simp [Value.ownBlock] at hg
                rw [← hg]
                exact HS.out _ _ g5 hg5l hg5b
              · intro j2 hj2
                by_cases hjk : j2 < k
                · have hgd : (vs ++ [Value.slice av q cv]).getD j2 undef = vs.getD j2 undef := by simp [List.getD_eq_getElem?_getD, List.getElem?_append, HVL.out, hjk]
                  rw [hgd]
                  obtain ⟨o1, o2⟩ := HVS.out j2 hjk
                  refine ⟨own_keep o1 fun g hg => ?_, ?_⟩
                  · have hgw := (o1.lt g hg).2
                    have o1y := own_new o1 hny
                    rw [HP.out _ _ g (by omega) (fun e => own_ne o1y HRY.out (by intro cur h; cases h) (by rw [hg, e])) (hbel g hgw) (fun e => o2 g hg e.symm) (fun e => own_ne o1y HBX.out (by intro cur h; cases h) (by rw [hg, e]))]
                    exact HE.out g hgw
                  · intro g hg h
                    simp [Value.ownBlock] at h
                    rcases hG5 with h5 | h5
                    · exact o2 g hg (by rw [← h5, h])
                    · have := (o1.lt g hg).2; omega
                · have hje : j2 = k := by omega
                  subst hje
                  have hgd : (vs ++ [Value.slice av q cv]).getD j2 undef = .slice av q cv := by simp [List.getD_eq_getElem?_getD, HVL.out]
                  rw [hgd, HSL.out]
                  refine ⟨own_base (own_keep HSEG.out fun g hg => ?_) (by omega), fun g hg h => ?_⟩
                  · have := HGB.out g hg
                    exact (HS.out _ _ g (HGB.out g hg).1 (by omega)).trans (h5k g (by omega) (fun e => (HGOV.out g e.symm).1 g hg rfl))
                  · simp [Value.ownBlock] at h
                    exact hg5v g hg h
              · exact new_putObj (New.setCell (new_grown (HNR.out.alloc _) HG5.out HOUTR.out) (by show w.heap.size ≤ w1.heap.size; omega) _) _ (by omega)
              · rw [putObj_heap _ _ _ _ (by omega)]
                exact heap_setCell_same w5 w1.heap.size 0 _ HB5.out
              · rw [HP.out _ _ _ (by omega) (by omega) (hbel _ (by omega)) hDo (by omega)]; exact HDY.out
              · refine (World.putObj_heap_same ?_).trans (HRC.out.symm.trans (Array.getElem?_eq_getElem _))
                show _ < (w5.heap.modify _ _).size
                rw [Array.size_modify]
                exact (Array.getElem?_eq_some_iff.1 h5l).1
              · rw [HP.out _ _ _ (by omega) (by omega) (hbel _ (by omega)) hLo (by omega)]; exact HLY.out
              · simp [Value.ownBlock]; exact hg5p
              · have := HF.out; omega
              · rw [HP.out _ _ _ (by omega) (by omega) (hbel _ (by omega)) hBo (by omega)]; exact HBBY.out
            · refine ⟨⟨?_, ?_, ?_⟩, ?_⟩
              · rw [World.putObj_size]
                show _ ≤ (w5.heap.modify _ _).size
                rw [Array.size_modify]
                omega
              · rw [HP.out _ _ _ (by omega) (by omega) (hbel _ (by omega)) hBo (by omega)]
              · rw [HP.out _ _ _ (by omega) (by omega) (hbel _ (by omega)) hbo2 (by omega)]
              · rw [HP.out _ _ _ (by omega) (by omega) (hbel _ (by omega)) (Ne.symm hp) (by omega)]
      · obtain rfl : q = 0 := by omega
        have HHT := Lib.hid (fun (w9 : World) => CallsIn.inRound (WS.heap.size + 1) ((callsIn_wide (n := 4 - 1 - 1)).2 (heights_nil (some ⟨b, off, none⟩) av n cp cv (X1 + X2) w9)))
        have HSO := Lib.hid (fun (gp cap : Nat) (w9 : World) => CallsIn.inRound (WS.heap.size + 1) ((callsIn_wide (n := 4 - 1 - 1)).2 (sortQ_nil (some ⟨gp, 0, none⟩) cap w9)))
        gi_wp2_with (first | (refine ⟨trivial, ?_⟩; gi_at_call 144; refine (HHT.out _).mono ?_; rintro e w3 ⟨gp, cpp, rfl, hn3⟩; have HN3 := Lib.hid hn3; clear hn3) | (refine ⟨trivial, ?_⟩; gi_at_call 145; refine (HSO.out gp cpp _).mono ?_; rintro e w4 ⟨rfl, rfl⟩))
        gi_loopw [8, 9, 31] (fun s8 s9 s31 wr => s31 = .int .i64 0 ∧ New Wb wr) (fun _ _ i _ => 0)
        case atStart => exact ⟨rfl, HN3.out⟩
        case round =>
          obtain ⟨rfl, hnr⟩ := hrel
          have hsr := hnr.size
          have HSEG := Lib.hid (show wr.ownsRow W0.heap.size 3 1 (.slice av 0 cv) 0 (inCells (segsQ l k)) from by
            have e1 : segsQ l k = [] := List.eq_nil_of_length_eq_zero HSL.out
            have e2 : spanI l k = [] := List.eq_nil_of_length_eq_zero HQ.out
            have := own_new HOVB.out hnr
            rw [e2] at this
            rw [e1]
            exact this)
          have HBK := Lib.hid (show ∀ s, s < Wb.heap.size → (∀ g, (Value.slice av 0 cv).ownBlock = some g → s ≠ g) → wr.heap[s]? = Wb.heap[s]? from fun s hs _ => hnr.below.block s hs)
          have HNR := Lib.hid (show New w wr from HNB.out.trans hnr)
          clear hnr
          have HGOV := Lib.hid (show ∀ g, (Value.slice a k c).ownBlock = some g → (∀ g', (Value.slice av 0 cv).ownBlock = some g' → g ≠ g') ∧ g < W0.heap.size from fun g hg => by have := HGO.out g hg; exact ⟨fun g' hg' => by have := HGB.out g' hg'; omega, this⟩)
          have HOUTR := Lib.hid (show wr.ownsRow w.heap.size 84 3 (.slice a k c) k (stripCells l vs k) from own_keep HOUTB.out (fun g hg => HBK.out g (by have := HGO.out g hg; omega) (HGOV.out g hg).1))
          have cor : wr.cell? ⟨w1.heap.size, 0, none⟩ = some (.slice a k c) := by rw [← co.1]; exact cell_same (HBK.out _ (by omega) (fun g hg => by have := HGB.out g hg; omega))
          have cs0r : wr.cell? ⟨Wy.heap.size, 0, none⟩ = some (.int .i64 X1) := by rw [← cs0]; exact cell_same (HBK.out _ (by omega) (fun g hg => by have := HGB.out g hg; omega))
          have cs1r : wr.cell? ⟨Wy.heap.size, 1, none⟩ = some (.int .i64 X2) := by rw [← cs1]; exact cell_same (HBK.out _ (by omega) (fun g hg => by have := HGB.out g hg; omega))
          have cs2r : wr.cell? ⟨Wy.heap.size, 2, none⟩ = some (.slice av 0 cv) := by rw [← cs2]; exact cell_same (HBK.out _ (by omega) (fun g hg => by have := HGB.out g hg; omega))
          have hbox : wr.heap[w1.heap.size]? = some (.cells #[.slice a k c] 65 (0, 0)) := by rw [HBK.out _ (by omega) (fun g hg => by have := HGB.out g hg; omega), HBO.out _ (by omega) (by omega)]; exact HBX.out
          have HBOXR := Lib.hid hbox
          clear hbox
          have hyl : Wy.heap.size < wr.heap.size := by omega
          have hwl2 : w1.heap.size < wr.heap.size := by omega
          have hkm2 : k ≤ 800 := by have := endXsL_le l; rw [HN.out] at this; omega
          have hbase : w.heap.size ≤ wr.heap.size := by omega
          obtain ⟨i0, hi, hz0, hz1, hz2⟩ := info_parts info84
          gi_wp2_with (gi_at_builtin; refine wpListIn_append_own_at _ rfl (.tmp 43) (.tmp 45) 65 rfl w.heap.size 84 i0 _ 3 40 Tryz.underlying65 hi hz0 hz1 hz2 rfl (by omega) (.slice a k c) k (stripCells l vs k) rfl (HOUTR.out.alloc _) ⟨wr.heap.size, 0, none⟩ 1 1 [.int .i64 X1, .int .i64 X2, .slice av 0 cv] rfl rfl (cells_new _ _ _ _ rfl) (by intro u hu; simp at hu; rcases hu with rfl | rfl | rfl <;> rfl) (by unfold maxLen; omega) (by omega) (by simp <;> omega) ?_; intro v5 w5 hown5 hgrow5 _ hat5; obtain ⟨g5, c5, rfl, hg51, hg52⟩ := hown5.form (by omega); have hb5 : w5.heap[w1.heap.size]? = some (.cells #[.slice a k c] 65 (0, 0)) := (hgrow5.block _ (by simp <;> omega) (Ne.symm (own_ne HOUTR.out HBOXR.out (by intro cur h; cases h)))).trans ((Below.heap_alloc _ _ _ hwl2).trans HBOXR.out); have c5c : w5.cell? ⟨w1.heap.size, 0, none⟩ = some (.slice a k c) ∧ w5.frozen? ⟨w1.heap.size, 0, none⟩ = false := box_cell hb5; have HO5 := Lib.hid hown5; have HG5 := Lib.hid hgrow5; have HA5 := Lib.hid hat5; have HB5 := Lib.hid hb5; clear hown5 hgrow5 hat5 hb5)
          have hlpW : wr.heap[WS.heap.size + 1]? = Wb.heap[WS.heap.size + 1]? := HBK.out _ (by omega) (fun g hg => Ne.symm (HGB.out g hg).1)
          have hlpo : some (WS.heap.size + 1) ≠ (Value.slice a k c).ownBlock := Ne.symm (own_ne HOUTR.out (hlpW.trans HBL.out) (by intro cur h; cases h))
          have hboo : some w1.heap.size ≠ (Value.slice a k c).ownBlock := Ne.symm (own_ne HOUTR.out HBOXR.out (by intro cur h; cases h))
          have h5k : ∀ s, s < wr.heap.size → some s ≠ (Value.slice a k c).ownBlock → w5.heap[s]? = wr.heap[s]? := fun s hs hne => (HG5.out.block s (by simp <;> omega) hne).trans (Below.heap_alloc _ _ _ hs)
          have h5l := (h5k _ (by omega) hlpo).trans (hlpW.trans HBL.out)
          have hG5 : (some g5 = (Value.slice a k c).ownBlock) ∨ g5 = wr.heap.size + 1 := by
            rcases HA5.out with h | h
            · exact .inl h
            · right; simp [Value.ownBlock] at h; exact h
          have hg5b : g5 ≠ w1.heap.size := by
            rcases hG5 with h | h
            · intro e; rw [e] at h; exact hboo h
            · omega
          have hg5l : g5 ≠ WS.heap.size + 1 := by
            rcases hG5 with h | h
            · intro e; rw [e] at h; exact hlpo h
            · omega
          have hg5p : g5 ≠ p := by
            rcases hG5 with h | h
            · intro e; rw [e] at h; exact hp h.symm
            · omega
          have hg5v : ∀ g, (Value.slice av 0 cv).ownBlock = some g → g5 ≠ g := fun g hg => by
            rcases hG5 with h | h
            · exact (HGOV.out g5 h.symm).1 g hg
            · have := HGB.out g hg; omega
          have HS := Lib.hid (show ∀ (o : Obj) (u : Value) s, s ≠ WS.heap.size + 1 → s ≠ w1.heap.size → ((w5.setCell ⟨w1.heap.size, 0, none⟩ u).putObj (WS.heap.size + 1) o).heap[s]? = w5.heap[s]? from fun o u s hne hne2 => (putObj_heap _ _ _ _ hne).trans (heap_setCell_other _ _ _ _ _ hne2))
          have HP := Lib.hid (show ∀ (o : Obj) (u : Value) s, s < Wy.heap.size → s ≠ WS.heap.size + 1 → (∀ g, (Value.slice av 0 cv).ownBlock = some g → s ≠ g) → some s ≠ (Value.slice a k c).ownBlock → s ≠ w1.heap.size → ((w5.setCell ⟨w1.heap.size, 0, none⟩ u).putObj (WS.heap.size + 1) o).heap[s]? = Wy.heap[s]? from fun o u s hs hne hne2 hne3 hne4 =>
            (HS.out o u s hne hne4).trans ((h5k s (by omega) hne3).trans ((HBK.out s (by omega) hne2).trans (HBO.out s hs hne))))
          have hDo : some WS.heap.size ≠ (Value.slice a k c).ownBlock := Ne.symm (own_ne HOUT.out HDY.out (by intro cur h; cases h))
          have hLo : some w.heap.size ≠ (Value.slice a k c).ownBlock := Ne.symm (own_ne HOUT.out HLY.out (by intro cur h; cases h))
          have hBo : some (w1.heap.size + 1) ≠ (Value.slice a k c).ownBlock := Ne.symm (own_ne HOUT.out HBBY.out (by intro cur h; cases h))
          have hbo2 : some b ≠ (Value.slice a k c).ownBlock := by
            intro h
            have h1 := (HOUT.out.lt b h.symm).1
            have h2 := HW.out.2.1
            omega
          have hbw := HW.out.2.1
          have hs5 := HG5.out.size
          simp only [World.size_alloc] at hs5
          have hbel : ∀ s, s < W0.heap.size → ∀ g, (Value.slice av 0 cv).ownBlock = some g → s ≠ g := fun s hs g hg => by have := HGB.out g hg; omega
          refine ⟨(heap_setCell_other _ _ _ _ _ (by omega)).trans h5l, ?_, ?_⟩
          · unfold SweepJ
            refine ⟨some ⟨g5, 0, none⟩, c5, vs ++ [.slice av 0 cv], by rw [List.length_append, HVL.out]; rfl, ?_, ?_, ?_, ?_, ?_, ?_, ?_, ?_, hp2, ?_, ?_⟩
            · rw [HSC.out]
              refine own_keep HO5.out fun g hg => ?_
              simp [Value.ownBlock] at hg
              rw [← hg]
              exact HS.out _ _ g5 hg5l hg5b
            · intro j2 hj2
              by_cases hjk : j2 < k
              · have hgd : (vs ++ [Value.slice av 0 cv]).getD j2 undef = vs.getD j2 undef := by simp [List.getD_eq_getElem?_getD, List.getElem?_append, HVL.out, hjk]
                rw [hgd]
                obtain ⟨o1, o2⟩ := HVS.out j2 hjk
                refine ⟨own_keep o1 fun g hg => ?_, ?_⟩
                · have hgw := (o1.lt g hg).2
                  have o1y := own_new o1 hny
                  rw [HP.out _ _ g (by omega) (fun e => own_ne o1y HRY.out (by intro cur h; cases h) (by rw [hg, e])) (hbel g hgw) (fun e => o2 g hg e.symm) (fun e => own_ne o1y HBX.out (by intro cur h; cases h) (by rw [hg, e]))]
                  exact HE.out g hgw
                · intro g hg h
                  simp [Value.ownBlock] at h
                  rcases hG5 with h5 | h5
                  · exact o2 g hg (by rw [← h5, h])
                  · have := (o1.lt g hg).2; omega
              · have hje : j2 = k := by omega
                subst hje
                have hgd : (vs ++ [Value.slice av 0 cv]).getD j2 undef = .slice av 0 cv := by simp [List.getD_eq_getElem?_getD, HVL.out]
                rw [hgd, HSL.out]
                refine ⟨own_base (own_keep HSEG.out fun g hg => ?_) (by omega), fun g hg h => ?_⟩
                · have := HGB.out g hg
                  exact (HS.out _ _ g (HGB.out g hg).1 (by omega)).trans (h5k g (by omega) (fun e => (HGOV.out g e.symm).1 g hg rfl))
                · simp [Value.ownBlock] at h
                  exact hg5v g hg h
            · exact new_putObj (New.setCell (new_grown (HNR.out.alloc _) HG5.out HOUTR.out) (by show w.heap.size ≤ w1.heap.size; omega) _) _ (by omega)
            · rw [putObj_heap _ _ _ _ (by omega)]
              exact heap_setCell_same w5 w1.heap.size 0 _ HB5.out
            · rw [HP.out _ _ _ (by omega) (by omega) (hbel _ (by omega)) hDo (by omega)]; exact HDY.out
            · refine (World.putObj_heap_same ?_).trans (HRC.out.symm.trans (Array.getElem?_eq_getElem _))
              show _ < (w5.heap.modify _ _).size
              rw [Array.size_modify]
              exact (Array.getElem?_eq_some_iff.1 h5l).1
            · rw [HP.out _ _ _ (by omega) (by omega) (hbel _ (by omega)) hLo (by omega)]; exact HLY.out
            · simp [Value.ownBlock]; exact hg5p
            · have := HF.out; omega
            · rw [HP.out _ _ _ (by omega) (by omega) (hbel _ (by omega)) hBo (by omega)]; exact HBBY.out
          · refine ⟨⟨?_, ?_, ?_⟩, ?_⟩
            · rw [World.putObj_size]
              show _ ≤ (w5.heap.modify _ _).size
              rw [Array.size_modify]
              omega
            · rw [HP.out _ _ _ (by omega) (by omega) (hbel _ (by omega)) hBo (by omega)]
            · rw [HP.out _ _ _ (by omega) (by omega) (hbel _ (by omega)) hbo2 (by omega)]
            · rw [HP.out _ _ _ (by omega) (by omega) (hbel _ (by omega)) (Ne.symm hp) (by omega)]
    · rintro e W' ⟨⟨v, rfl⟩, p, W0, hI, hn0⟩
      rw [HF.out] at hI
      obtain ⟨a, c, vs, hvl, hout, hvs, hnw, hbx2, hdf, hrc, hlb, hp, hp2, hkm, hbb0⟩ := hI
      have e : ∀ k, k < W0.heap.size → W'.heap[k]? = W0.heap[k]? := HOLD.out _ _ hn0
      have hlp : WS.heap.size + 1 < W0.heap.size := by
        have h1 := HRC.out
        rw [← hrc] at h1
        exact (Array.getElem?_eq_some_iff.1 h1).1
      exact ⟨⟨v, rfl⟩, ⟨a, c, vs, hvl, own_new hout hn0, fun j hj => own_new (hvs j hj).1 hn0, hnw.trans hn0, by rw [e _ (by omega)]; exact hbx2, by rw [e _ (by omega)]; exact hdf, _, (e _ hlp).trans (hrc.trans HRC.out)⟩, (e _ hlp).trans (hrc.trans HRC.out)⟩
  case hdone =>
    rintro W o ⟨a, c, vs, hvl, hout, hvs, hnw, hbx2, hdf, r, hrc⟩
    have HF := Lib.hid hM
    obtain ⟨Wf, HWf⟩ : ∃ Wf, Hid (Wf = W.putObj (WS.heap.size + 1) o) := ⟨_, Lib.hid rfl⟩
    rw [← HWf.out]
    have hsn := HNS.out.size
    have hbf : Wf.heap[w1.heap.size]? = some (.cells #[.slice a M c] 65 (0, 0)) := by rw [HWf.out, putObj_heap _ _ _ _ (by omega)]; exact hbx2
    have hcell : Wf.cell? ⟨w1.heap.size, 0, none⟩ = some (.slice a M c) := by simp [World.cell?, hbf]
    have HDF := Lib.hid (show Wf.heap[WS.heap.size]? = some (.deferred (some [])) by rw [HWf.out, putObj_heap _ _ _ _ (by omega)]; exact hdf)
    have HOUT := Lib.hid (show Wf.ownsRow w.heap.size 84 3 (.slice a M c) M (stripCells l vs M) by rw [HWf.out]; exact ownsRow_putObj hout _ hrc rfl)
    have HVS := Lib.hid (show ∀ j, j < M → Wf.ownsRow w.heap.size 3 1 (vs.getD j undef) (segsQ l j).length (inCells (segsQ l j)) by intro j hj; rw [HWf.out]; exact ownsRow_putObj (hvs j hj) _ hrc rfl)
    have HNW := Lib.hid (show New w Wf by rw [HWf.out]; exact new_putObj hnw _ (by omega))
    have HVL := Lib.hid hvl
    clear hout hvs hnw hbx2 hdf hrc hvl hbf
    gi_wp2
    refine ⟨by simp, .inl ⟨_, _, rfl, run_takeDeferred HDF.out, ?_⟩⟩
    refine ⟨_, results_tmp2 rfl _ _ _, ?_⟩
    rw [HF.out]
    exact ⟨a, c, vs, rfl, HVL.out, ownsRow_putObj HOUT.out _ HDF.out rfl, fun j hj => ownsRow_putObj (HVS.out j hj) _ HDF.out rfl, new_putObj HNW.out _ hsn⟩

end Go.Proofs.YtpdfbboagaflhaaGreat

set_option linter.unusedSimpArgs false
set_option linter.unusedVariables false
set_option maxRecDepth 100000
namespace Go.Proofs.YtpdfbboagaflhaaGreat
open Go.RowKit Go.Shelf

/-- strips and their segments, counted as the machine counts -/
def thinW (C : List SV) : Nat → Int
  | 0 => C.length
  | k + 1 => wrap64 (thinW C k + (sL C k).length)
set_option maxHeartbeats 8000000 in
theorem thin_c (cv : Option Addr) (N cc : Nat) (C : List SV) (w : World) (hN : N ≤ 17592186044415) (hCn : C.length = N) (hC : 0 < N → ∃ cb co, cv = some ⟨cb, co, none⟩ ∧ Strps w cb co N C) :
    Calls Tryz.prog 69 #[.slice cv N cc] w fun e w' => e = .returned (.bool (decide (thinW C N ≤ 4000))) ∧ New w w' := by
  have HC := Lib.hid hC
  have HS := Lib.hid (show ∀ k, thinW C (k + 1) = wrap64 (thinW C k + (sL C k).length) from fun _ => rfl)
  have H0 := Lib.hid (show thinW C 0 = N by rw [← hCn]; rfl)
  generalize thinW C = T at *
  clear hC
  go_enter Tryz.func69, Tryz.ntmps69
  go_wp2_with fail
  go_loopw [3, 10] (fun s i wr => ∃ k : Nat, k ≤ N ∧ i = .int .i64 k ∧ s = .int .i64 (T k) ∧ New w wr) (fun _ i _ => N - (intOf i).toNat)
  case atStart => exact ⟨0, Nat.zero_le _, rfl, by rw [H0.out], New.refl _⟩
  case round =>
    obtain ⟨k, hk, rfl, rfl, hnew⟩ := hrel
    have HNEW := Lib.hid hnew
    clear hnew
    by_cases hlt : k < N
    · obtain ⟨cb, co, rfl, hst⟩ := HC.out (by omega)
      obtain ⟨_, hcb, hcc⟩ := hst.new HNEW.out
      obtain ⟨v, ⟨x1, x2⟩, x3, av, c2, rfl, _⟩ := hcc k hlt
      have hk1 : (k : Int) < (N : Int) := by omega
      have HSK := Lib.hid (HS.out k)
      clear hcc hst
      generalize sF C k = F at *
      generalize sT C k = T1 at *
      generalize (sL C k).length = q at *
      go_wp2_with fail
      go_roundw
      case rel => exact ⟨k + 1, by omega, by go_num, by rw [HSK.out], (by (repeat (first | exact HNEW.out | exact New.refl _ | apply New.alloc | apply New.aft | apply New.drew | refine New.setCell ?_ ?_ _)); all_goals (first | done | (simp [size_aft]; done) | (simp [size_aft]; omega)))⟩
      case measure => simp [intOf]; omega
    · obtain rfl : k = N := by omega
      go_wp2_with fail
      go_ret
      exact ⟨rfl, HNEW.out⟩

theorem checkSweep_c (b off n cp N cc : Nat) (cv : Option Addr) (l : List S4) (C : List SV) (w : World) (h0 : 0 < n) (hl : n ≤ 1000000) (hw : Segs w b off n l) (hCn : C.length = N) (hN : N ≤ 17592186044415) (hC : 0 < N → ∃ cb co, cv = some ⟨cb, co, none⟩ ∧ Strps w cb co N C) (hlen : ∀ i, i < N → (sL C i).length ≤ 17592186044415) (r : Bool) (hr : r = true ↔ ChkOk l C) :
    Calls Tryz.prog 73 #[.slice (some ⟨b, off, none⟩) n cp, .slice cv N cc] w fun e w' => e = .returned (.bool r) ∧ New w w' := by
  have hn := hw.1
  by_cases hck : ckSegs l = 0
  · have hl4 : n ≤ 400 := by
      unfold ckSegs at hck
      split at hck
      · cases hck
      · omega
    have hCat : ∀ w1, New w w1 → 0 < N → ∃ cb co, cv = some ⟨cb, co, none⟩ ∧ Strps w1 cb co N C := fun w1 h1 g => by
      obtain ⟨cb, co, e1, e2⟩ := hC g
      exact ⟨cb, co, e1, e2.new h1⟩
    have hiff : StripsAre l C ↔ N = (endXsL l).length - 1 ∧ ∀ j, j < N → mtS l C j := ⟨fun h => ⟨by rw [← hCn]; exact h.len, fun j hj => h.mt j (by omega)⟩, fun h => ⟨by rw [hCn]; exact h.1, fun j hj => h.2 j (by omega)⟩⟩
    rcases Classical.em (StripsAre l C) with hS | hS
    · exact checkSweep_go b off n cp N cc cv l C w h0 hw hCn (by have h1 := hS.len; have h2 := endXsL_le l; omega) hC hck hS r hr (Lib.hid (fun w1 h1 => sameStrips_c b off n cp N cc cv l C w1 h0 hl4 (hw.new h1) hCn hN (hCat w1 h1) hlen true ⟨fun _ => hiff.1 hS, fun _ => rfl⟩))
    · have hrf : r = false := by
        cases hh : r
        · rfl
        · exact absurd (hr.1 hh).are hS
      rw [hrf]
      exact checkSweep_bad _ cv n cp N cc w (Lib.hid (fun w1 h1 => by have := checkSegs_c b off n cp l w1 (by omega) (hw.new h1); rwa [hck] at this)) (Lib.hid (fun w1 h1 => sameStrips_c b off n cp N cc cv l C w1 h0 hl4 (hw.new h1) hCn hN (hCat w1 h1) hlen false ⟨fun e => (by cases e), fun h => absurd (hiff.2 h) hS⟩))
  · have hrf : r = false := by
      cases hh : r
      · rfl
      · exact absurd (hr.1 hh).segs hck
    rw [hrf]
    exact checkSweep_no _ cv n cp N cc (ckSegs l) w hck (Lib.hid (fun w1 h1 => checkSegs_c b off n cp l w1 (by omega) (hw.new h1)))

end Go.Proofs.YtpdfbboagaflhaaGreat

set_option linter.unusedSimpArgs false
set_option linter.unusedVariables false
set_option maxRecDepth 100000
namespace Go.Proofs.YtpdfbboagaflhaaGreat
open Go.RowKit Go.Shelf

set_option maxHeartbeats 1000000 in
theorem checkSegs_nil (v : Option Addr) (c : Nat) (w : World) : Calls Tryz.prog 135 #[.slice v 0 c] w fun en w' => en = .returned (.int .i64 0) ∧ New w w' := by
  go_enter Tryz.func135, Tryz.ntmps135
  go_wp2_with fail
  refine wp_loop_rounds 1 ?_
  repeat any_goals (rw [rounds_succ]; go_wp2)
  go_ret; exact ⟨rfl, New.refl _⟩
set_option maxHeartbeats 1000000 in
theorem crossing_none (v : Option Addr) (c : Nat) (w : World) : Calls Tryz.prog 64 #[.slice v 0 c] w fun en w' => en = .returned (.tuple #[.int .i64 0, .int .i64 0, .bool false, .int .i64 0]) ∧ New w w' := by
  have HC := Lib.hid (fun w1 : World => checkSegs_nil v c w1)
  go_enter Tryz.func64, Tryz.ntmps64
  go_wp2_with (go_at_call 135; refine (HC.out _).mono ?_; rintro e w1 ⟨rfl, pw, rfl⟩)
  refine wp_loop_rounds 1 ?_
  repeat any_goals (rw [rounds_succ]; go_wp2)
  refine bodyPost_ret (v := .tuple #[.int .i64 0, .int .i64 0, .bool false, .int .i64 0]) (by simp [results, Tryz.results64, go_sem]) rfl ⟨rfl, ?_⟩; exact (by (repeat (first | exact New.refl _ | apply New.alloc | apply New.aft | apply New.drew | refine New.setCell ?_ ?_ _)); all_goals (first | done | (simp [size_aft]; done) | (simp [size_aft]; omega)))
set_option maxHeartbeats 2000000 in
theorem checkApart_none (v : Option Addr) (c : Nat) (w : World) : Calls Tryz.prog 137 #[.slice v 0 c] w fun en w' => en = .returned (.int .i64 0) ∧ New w w' := by
  have HC := Lib.hid (crossing_none v c)
  go_enter Tryz.func137, Tryz.ntmps137
  go_wp2_with (go_at_call 64; refine (HC.out _).mono ?_; rintro e w1 ⟨rfl, hn⟩; have HN1 := Lib.hid hn; clear hn)
  go_ret; exact ⟨rfl, HN1.out⟩
set_option maxHeartbeats 2000000 in
theorem compactI_nil (v : Option Addr) (c : Nat) (w : World) : Calls Tryz.prog 212 #[.slice v 0 c] w fun en w' => en = .returned (.slice v 0 c) ∧ New w w' := by
  go_enter Tryz.func212, Tryz.ntmps212
  go_wp2_with fail
  go_ret; exact ⟨rfl, New.refl _⟩
set_option maxHeartbeats 4000000 in
theorem endXs_nil (v : Option Addr) (c : Nat) (w : World) : Calls Tryz.prog 180 #[.slice v 0 c] w fun en w' => ∃ a c', en = .returned (.slice a 0 c') ∧ New w w' := by
  obtain ⟨i0, hi, hz0, hz1, hz2⟩ := info_parts info3
  have hmk : ∀ w : World, (Instr.makeSlice 82 (.int .i64 0) (.int .i64 0)).run Tryz.prog w = .ok (.slice (some ⟨w.heap.size, 0, none⟩) 0 0) (w.alloc (.cells (madeCells (.int .i64 0 : Value).cells (0 * 1)) 3)) := by
    intro w
    have := run_make (P := Tryz.prog) w 82 3 i0 _ Tryz.underlying82 hi hz0 .i64 .i64 0 0 (by omega) (by omega) (by rw [hz2]; omega) (by omega)
    rw [hz1] at this
    simpa using this
  have HS := Lib.hid (fun (a : Option Addr) (c : Nat) (w1 : World) => sortI_nil a c w1)
  have HP := Lib.hid (fun (a : Option Addr) (c : Nat) (w1 : World) => compactI_nil a c w1)
  go_enter Tryz.func180, Tryz.ntmps180
  go_wp2_with fail
  go_loopw [3, 12] (fun s i wr => (i = .int .i64 0 ∧ s = .slice (some ⟨w.heap.size, 0, none⟩) 0 0) ∧ New w wr) (fun _ _ _ => 0)
  case atStart => exact ⟨⟨rfl, rfl⟩, (New.refl _).alloc _⟩
  case round =>
    obtain ⟨⟨rfl, rfl⟩, hn⟩ := hrel
    have HN := Lib.hid hn
    clear hn
    go_wp2_with (first | (go_at_call 211; refine (HS.out _ _ _).mono ?_; rintro e w1 ⟨rfl, hn⟩; have HN1 := Lib.hid (HN.out.trans hn); clear hn) | (go_at_call 212; refine (HP.out _ _ _).mono ?_; rintro e w2 ⟨rfl, hn⟩; have HN2 := Lib.hid (HN1.out.trans hn); clear hn))
    go_ret
    exact ⟨_, _, rfl, HN2.out⟩
set_option maxHeartbeats 4000000 in
theorem strips0 (fv : Value) (Bs cp : Nat) (v : Option Addr) (W : World) (hB : W.cell? ⟨Bs, 0, none⟩ = some (.slice v 0 cp)) : Calls Tryz.prog 179 #[fv, .pointer (some ⟨Bs, 0, none⟩)] W fun e W' => e = .returned (.tuple #[]) ∧ New W W' := by
  have HE := Lib.hid (fun w1 : World => endXs_nil v cp w1)
  go_enter Tryz.func179, Tryz.ntmps179
  go_wp2_with (go_at_call 180; refine (HE.out _).mono ?_; rintro e w1 ⟨a, c2, rfl, hn⟩; have HN := Lib.hid hn; clear hn)
  go_loopw [4] (fun i wr => i = .int .i64 1 ∧ New W wr) (fun _ _ => 0)
  case atStart => exact ⟨rfl, HN.out⟩
  case round =>
    obtain ⟨rfl, hn⟩ := hrel
    have HN2 := Lib.hid hn
    clear hn
    go_wp2_with fail
    exact bodyPost_end (results_none rfl _ _ _) rfl ⟨rfl, HN2.out⟩

set_option maxHeartbeats 4000000 in
theorem sweep_err (A : Option Addr) (n cp : Nat) (K : Int) (w : World) (hK : K ≠ 0)
    (HC : Hid (∀ w1 : World, New w w1 → Calls Tryz.prog 137 #[.slice A n cp] w1 fun en w' => en = .returned (.int .i64 K) ∧ New w1 w')) :
    Calls Tryz.prog 70 #[.slice A n cp] w fun en w' => en = .returned (.tuple #[.slice none 0 0, .int .i64 K]) ∧ New w w' := by
  have z1 : (K == 0) = false := by simpa using hK
  have z2 : (K != 0) = true := by simpa using hK
  have HCC := Lib.hid (fun (w1 : World) (h1 : New w w1) => (callsIn_wide (n := 4)).2 (HC.out w1 h1))
  refine (callsIn_wide (n := 5)).1 ?_
  refine callsIn_of_wp_marks Tryz.func70 rfl trivial ?_ rfl
  simp only [Tryz.ntmps70, List.size_toArray, List.length_cons, List.length_nil, Nat.reduceAdd, Nat.reduceSub, Array.replicate_succ, Array.replicate_zero, List.push_toArray, List.append_toArray, List.nil_append, List.cons_append]
  gi_wp2
  refine ⟨trivial, ?_⟩
  gi_at_call 137
  refine (HCC.out _ ((New.refl _).alloc _)).mono ?_
  rintro e w1 ⟨rfl, hn1⟩
  have HN1 := Lib.hid (show New w w1 from ((New.refl _).alloc _).trans hn1)
  clear hn1
  gi_wp2
  refine ⟨_, results_tmp2 rfl _ _ _, ?_⟩
  exact ⟨rfl, HN1.out⟩

end Go.Proofs.YtpdfbboagaflhaaGreat

set_option linter.unusedSimpArgs false
set_option linter.unusedVariables false
set_option maxRecDepth 100000
namespace Go.Proofs.YtpdfbboagaflhaaGreat
open Go.RowKit Go.Shelf

attribute [local go_sem] Oper.semAt_some

set_option maxHeartbeats 8000000 in
theorem sweep_nil (A : Option Addr) (cp : Nat) (w : World) :
    Calls Tryz.prog 70 #[.slice A 0 cp] w fun en w' => en = .returned (.tuple #[.slice none 0 0, .int .i64 0]) ∧ New w w' := by
  have HCC := Lib.hid (fun (w1 : World) => (callsIn_wide (n := 4)).2 (checkApart_none A cp w1))
  have HST := Lib.hid (fun (w1 : World) => (callsIn_wide (n := 4)).2 (strips_c A 0 cp w1))
  refine (callsIn_wide (n := 5)).1 ?_
  refine callsIn_of_wp_marks Tryz.func70 rfl trivial ?_ rfl
  simp only [Tryz.ntmps70, List.size_toArray, List.length_cons, List.length_nil, Nat.reduceAdd, Nat.reduceSub, Array.replicate_succ, Array.replicate_zero, List.push_toArray, List.append_toArray, List.nil_append, List.cons_append]
  gi_wp2
  refine ⟨trivial, ?_⟩
  gi_at_call 137
  refine (HCC.out _).mono ?_
  rintro e w1 ⟨rfl, hn1⟩
  have HN1 := Lib.hid (show New w w1 from ((New.refl _).alloc _).trans hn1)
  have hbx : w1.cell? ⟨w.heap.size, 0, none⟩ = some (.slice A 0 cp) := (hn1.below.cell (p := ⟨w.heap.size, 0, none⟩) (by simp)).trans (by simp [go_sem])
  have hsz1 := hn1.size
  simp only [World.size_alloc] at hsz1
  have hwl : w.heap.size < w1.heap.size := by omega
  clear hn1
  gi_wp2
  refine ⟨trivial, ?_⟩
  gi_at_call 143
  refine (HST.out _).mono ?_
  rintro e w2 ⟨rfl, rfl⟩
  gi_wp2
  obtain ⟨WS, HWS⟩ : ∃ WS : World, Hid (WS = (w1.alloc (.cells #[.slice none 0 0] 65)).alloc (.cells #[.slice A 0 cp] 58)) := ⟨_, Lib.hid rfl⟩
  rw [← HWS.out]
  have hss : WS.heap.size = w1.heap.size + 2 := by rw [HWS.out]; simp
  have hss1 : w1.heap.size + 2 ≤ WS.heap.size := by omega
  have hss2 : WS.heap.size ≤ w1.heap.size + 2 := by omega
  clear hss
  have HNS := Lib.hid (show New w WS by rw [HWS.out]; exact (HN1.out.alloc _).alloc _)
  have HOB := Lib.hid (show WS.heap[w1.heap.size]? = some (.cells #[.slice none 0 0] 65 (0, 0)) by rw [HWS.out]; exact (Below.heap_alloc _ _ _ (by simp)).trans (World.alloc_heap_new w1 _))
  have HBB := Lib.hid (show WS.heap[w1.heap.size + 1]? = some (.cells #[.slice A 0 cp] 58 (0, 0)) by rw [HWS.out]; have := World.alloc_heap_new (w1.alloc (.cells #[.slice none 0 0] 65)) (.cells #[.slice A 0 cp] 58); rwa [World.size_alloc] at this)
  refine range_whole (n := 5) rfl (fun _ => trivial) (by omega) (gf := 179) (lb := #[.pointer (some ⟨w1.heap.size + 1, 0, none⟩)]) rfl (enters_of Tryz.func179 (by kernel_rfl) rfl)
    (fun W => New w W ∧ W.heap[w1.heap.size]? = some (.cells #[.slice none 0 0] 65 (0, 0)) ∧ W.heap[WS.heap.size]? = some (.deferred (some []))) ?hit ?hdone
  case hit =>
    intro fn W1 hW1
    have HNW1 := Lib.hid (show New WS W1 by rw [hW1]; exact ((New.refl _).alloc _).alloc _)
    have HDF := Lib.hid (show W1.heap[WS.heap.size]? = some (.deferred (some [])) by rw [hW1]; exact (Below.heap_alloc _ _ _ (by simp)).trans (World.alloc_heap_new WS _))
    have HRC := Lib.hid (alloc2_new hW1)
    have hD1 : W1.heap.size = WS.heap.size + 2 := by rw [hW1]; simp
    have hold : ∀ (X Y : World) (h : New X Y) (k : Nat), k < X.heap.size → Y.heap[k]? = X.heap[k]? := fun X Y h k hk => h.below.block k hk
    have hb : W1.cell? ⟨w1.heap.size + 1, 0, none⟩ = some (.slice A 0 cp) := by
      have h1 : W1.heap[w1.heap.size + 1]? = some (.cells #[.slice A 0 cp] 58 (0, 0)) := (hold _ _ HNW1.out _ (by omega)).trans HBB.out
      simp [World.cell?, h1]
    have h3 := (callsIn_wide (n := 4)).2 (strips0 (.func (.yield (WS.heap.size + 1)) #[] #[]) (w1.heap.size + 1) cp A W1 hb)
    refine h3.mono ?_
    rintro e W' ⟨rfl, hn⟩
    refine ⟨⟨_, rfl⟩, ⟨HNS.out.trans (HNW1.out.trans hn), ?_, ?_⟩, ?_⟩
    · exact (hold _ _ hn _ (by omega)).trans ((hold _ _ HNW1.out _ (by omega)).trans HOB.out)
    · exact (hold _ _ hn _ (by omega)).trans HDF.out
    · exact (hold _ _ hn _ (by omega)).trans HRC.out
  case hdone =>
    rintro W o ⟨hnw, hbx2, hdf⟩
    obtain ⟨Wf, HWf⟩ : ∃ Wf, Hid (Wf = W.putObj (WS.heap.size + 1) o) := ⟨_, Lib.hid rfl⟩
    rw [← HWf.out]
    have hsn := HNS.out.size
    have hbf : Wf.heap[w1.heap.size]? = some (.cells #[.slice none 0 0] 65 (0, 0)) := by rw [HWf.out, putObj_heap _ _ _ _ (by omega)]; exact hbx2
    have hcell : Wf.cell? ⟨w1.heap.size, 0, none⟩ = some (.slice none 0 0) := by simp [World.cell?, hbf]
    have HDF := Lib.hid (show Wf.heap[WS.heap.size]? = some (.deferred (some [])) by rw [HWf.out, putObj_heap _ _ _ _ (by omega)]; exact hdf)
    have HNW := Lib.hid (show New w Wf by rw [HWf.out]; exact new_putObj hnw _ (by omega))
    clear hnw hbx2 hdf hbf
    gi_wp2
    refine ⟨by simp, .inl ⟨_, _, rfl, run_takeDeferred HDF.out, ?_⟩⟩
    refine ⟨_, results_tmp2 rfl _ _ _, ?_⟩
    exact ⟨rfl, new_putObj HNW.out _ hsn⟩

set_option maxHeartbeats 8000000 in
theorem sameStrips_nil (A cv : Option Addr) (cp N cc : Nat) (w : World) :
    Calls Tryz.prog 150 #[.slice A 0 cp, .slice cv N cc] w fun e w' => e = .returned (.bool (decide (N = 0))) ∧ New w w' := by
  have HST := Lib.hid (fun (w1 : World) => (callsIn_wide (n := 4)).2 (strips_c A 0 cp w1))
  refine (callsIn_wide (n := 5)).1 ?_
  refine callsIn_of_wp_marks Tryz.func150 rfl trivial ?_ rfl
  simp only [Tryz.ntmps150, List.size_toArray, List.length_cons, List.length_nil, Nat.reduceAdd, Nat.reduceSub, Array.replicate_succ, Array.replicate_zero, List.push_toArray, List.append_toArray, List.nil_append, List.cons_append]
  gi_wp2
  refine ⟨trivial, ?_⟩
  gi_at_call 143
  refine (HST.out _).mono ?_
  rintro e w2 ⟨rfl, rfl⟩
  gi_wp2
  obtain ⟨WS, HWS⟩ : ∃ WS : World, Hid (WS = (((w.alloc (.cells #[.slice cv N cc] 65)).alloc (.cells #[.bool false] 4)).alloc (.cells #[.int .i64 0] 3)).alloc (.cells #[.slice A 0 cp] 58)) := ⟨_, Lib.hid rfl⟩
  rw [← HWS.out]
  have hss : WS.heap.size = w.heap.size + 4 := by rw [HWS.out]; simp
  have hss1 : w.heap.size + 4 ≤ WS.heap.size := by omega
  have hss2 : WS.heap.size ≤ w.heap.size + 4 := by omega
  clear hss
  have HNS := Lib.hid (show New w WS by rw [HWS.out]; exact ((((New.refl _).alloc _).alloc _).alloc _).alloc _)
  have HB4 := Lib.hid (show WS.heap[w.heap.size]? = some (.cells #[.slice cv N cc] 65 (0, 0)) ∧ WS.heap[w.heap.size + 1]? = some (.cells #[.bool false] 4 (0, 0)) ∧ WS.heap[w.heap.size + 2]? = some (.cells #[.int .i64 0] 3 (0, 0)) ∧ WS.heap[w.heap.size + 3]? = some (.cells #[.slice A 0 cp] 58 (0, 0)) by
    rw [HWS.out]
    have a1 := World.alloc_heap_new w (.cells #[.slice cv N cc] 65)
    have a2 := World.alloc_heap_new (w.alloc (.cells #[.slice cv N cc] 65)) (.cells #[.bool false] 4)
    have a3 := World.alloc_heap_new ((w.alloc (.cells #[.slice cv N cc] 65)).alloc (.cells #[.bool false] 4)) (.cells #[.int .i64 0] 3)
    have a4 := World.alloc_heap_new (((w.alloc (.cells #[.slice cv N cc] 65)).alloc (.cells #[.bool false] 4)).alloc (.cells #[.int .i64 0] 3)) (.cells #[.slice A 0 cp] 58)
    simp only [World.size_alloc] at a2 a3 a4
    refine ⟨?_, ?_, ?_, a4⟩
    · exact (Below.heap_alloc _ _ _ (by simp only [World.size_alloc]; omega)).trans ((Below.heap_alloc _ _ _ (by simp only [World.size_alloc]; omega)).trans ((Below.heap_alloc _ _ _ (by simp only [World.size_alloc]; omega)).trans a1))
    · exact (Below.heap_alloc _ _ _ (by simp only [World.size_alloc]; omega)).trans ((Below.heap_alloc _ _ _ (by simp only [World.size_alloc]; omega)).trans a2)
    · exact (Below.heap_alloc _ _ _ (by simp only [World.size_alloc]; omega)).trans a3)
  obtain ⟨b0, b1, b2, b3⟩ := HB4.out
  refine range_whole2 (n := 5) rfl (fun _ => trivial) (by omega) (gf := 179) (lb := #[.pointer (some ⟨w.heap.size + 3, 0, none⟩)]) rfl (enters_of Tryz.func179 (by kernel_rfl) rfl)
    (fun W => New w W ∧ (W.heap[w.heap.size]? = some (.cells #[.slice cv N cc] 65 (0, 0)) ∧ W.heap[w.heap.size + 1]? = some (.cells #[.bool false] 4 (0, 0)) ∧ W.heap[w.heap.size + 2]? = some (.cells #[.int .i64 0] 3 (0, 0))) ∧ W.heap[WS.heap.size]? = some (.deferred (some []))) (fun _ => False) ?hit ?hdone (fun _ _ h => h.elim)
  case hit =>
    intro fn W1 hW1
    have HNW1 := Lib.hid (show New WS W1 by rw [hW1]; exact ((New.refl _).alloc _).alloc _)
    have HDF := Lib.hid (show W1.heap[WS.heap.size]? = some (.deferred (some [])) by rw [hW1]; exact (Below.heap_alloc _ _ _ (by simp)).trans (World.alloc_heap_new WS _))
    have HRC := Lib.hid (alloc2_new hW1)
    have hD1 : W1.heap.size = WS.heap.size + 2 := by rw [hW1]; simp
    have hold : ∀ (X Y : World) (h : New X Y) (k : Nat), k < X.heap.size → Y.heap[k]? = X.heap[k]? := fun X Y h k hk => h.below.block k hk
    have hb : W1.cell? ⟨w.heap.size + 3, 0, none⟩ = some (.slice A 0 cp) := by
      have h1 : W1.heap[w.heap.size + 3]? = some (.cells #[.slice A 0 cp] 58 (0, 0)) := (hold _ _ HNW1.out _ (by omega)).trans b3
      simp [World.cell?, h1]
    have h3 := (callsIn_wide (n := 4)).2 (strips0 (.func (.yield (WS.heap.size + 1)) #[] #[]) (w.heap.size + 3) cp A W1 hb)
    refine h3.mono ?_
    rintro e W' ⟨rfl, hn⟩
    have e2 : ∀ k, k < WS.heap.size → W'.heap[k]? = WS.heap[k]? := fun k hk => (hold _ _ hn _ (by omega)).trans (hold _ _ HNW1.out _ hk)
    refine ⟨⟨_, rfl⟩, .inl ⟨⟨HNS.out.trans (HNW1.out.trans hn), ⟨(e2 _ (by omega)).trans b0, (e2 _ (by omega)).trans b1, (e2 _ (by omega)).trans b2⟩, ?_⟩, ?_⟩⟩
    · exact (hold _ _ hn _ (by omega)).trans HDF.out
    · exact (hold _ _ hn _ (by omega)).trans HRC.out
  case hdone =>
    rintro W o ⟨hnw, ⟨g0, g1, g2⟩, hdf⟩
    obtain ⟨Wf, HWf⟩ : ∃ Wf, Hid (Wf = W.putObj (WS.heap.size + 1) o) := ⟨_, Lib.hid rfl⟩
    rw [← HWf.out]
    have hsn := HNS.out.size
    have hsw := hnw.size
    have hszf : WS.heap.size < Wf.heap.size := by rw [HWf.out, World.putObj_size]; exact (Array.getElem?_eq_some_iff.1 hdf).1
    have HDF := Lib.hid (show Wf.heap[WS.heap.size]? = some (.deferred (some [])) by rw [HWf.out, putObj_heap _ _ _ _ (by omega)]; exact hdf)
    have HNW := Lib.hid (show New w Wf by rw [HWf.out]; exact new_putObj hnw _ (by omega))
    have HG1 := Lib.hid (show Wf.heap[w.heap.size + 1]? = some (.cells #[.bool false] 4 (0, 0)) by rw [HWf.out, putObj_heap _ _ _ _ (by omega)]; exact g1)
    have cC : Wf.cell? ⟨w.heap.size, 0, none⟩ = some (.slice cv N cc) := by
      have h1 : Wf.heap[w.heap.size]? = some (.cells #[.slice cv N cc] 65 (0, 0)) := by rw [HWf.out, putObj_heap _ _ _ _ (by omega)]; exact g0
      simp [World.cell?, h1]
    have cR : Wf.cell? ⟨w.heap.size + 1, 0, none⟩ = some (.bool false) ∧ Wf.frozen? ⟨w.heap.size + 1, 0, none⟩ = false := by
      have h1 := HG1.out
      simp [World.cell?, World.frozen?, h1]
    have cI : Wf.cell? ⟨w.heap.size + 2, 0, none⟩ = some (.int .i64 0) := by
      have h1 : Wf.heap[w.heap.size + 2]? = some (.cells #[.int .i64 0] 3 (0, 0)) := by rw [HWf.out, putObj_heap _ _ _ _ (by omega)]; exact g2
      simp [World.cell?, h1]
    obtain ⟨cR1, cR2⟩ := cR
    have HRV := Lib.hid (show ((0 : Int) == (N : Int)) = decide (N = 0) by
      by_cases hq : N = 0
      · subst hq; rfl
      · rw [decide_eq_false hq]; simpa using (show ¬ (0 : Int) = N by omega))
    clear hnw g0 g1 g2 hdf b0 b1 b2 b3
    gi_wp2
    have HD2 := Lib.hid (show (Wf.setCell ⟨w.heap.size + 1, 0, none⟩ (.bool ((0 : Int) == (N : Int)))).heap[WS.heap.size]? = some (.deferred (some [])) from (heap_setCell_other _ _ _ _ _ (by omega)).trans HDF.out)
    have hcell : ((Wf.setCell ⟨w.heap.size + 1, 0, none⟩ (.bool ((0 : Int) == (N : Int)))).putObj WS.heap.size (.deferred none)).cell? ⟨w.heap.size + 1, 0, none⟩ = some (.bool ((0 : Int) == (N : Int))) := by
      have h1 : ((Wf.setCell ⟨w.heap.size + 1, 0, none⟩ (.bool ((0 : Int) == (N : Int)))).putObj WS.heap.size (.deferred none)).heap[w.heap.size + 1]? = some (.cells #[.bool ((0 : Int) == (N : Int))] 4 (0, 0)) := (putObj_heap _ _ _ _ (by omega)).trans (heap_setCell_same Wf _ 0 _ HG1.out)
      simp [World.cell?, h1]
    refine ⟨by simp, .inl ⟨_, _, rfl, run_takeDeferred HD2.out, ?_⟩⟩
    rw [HRV.out] at hcell ⊢
    refine ⟨.bool (decide (N = 0)), by simp [results, Tryz.results150, go_sem, hcell], rfl, new_putObj (HNW.out.setCell (by show w.heap.size ≤ w.heap.size + 1; omega) _) _ hsn⟩

end Go.Proofs.YtpdfbboagaflhaaGreat

set_option linter.unusedSimpArgs false
set_option linter.unusedVariables false
set_option maxRecDepth 100000
namespace Go.Proofs.YtpdfbboagaflhaaGreat
open Go.RowKit Go.Shelf

set_option maxHeartbeats 4000000 in
theorem verticals_nil (v : Option Addr) (c : Nat) (w : World) : Calls Tryz.prog 153 #[.slice v 0 c] w fun en w' => en = .returned (.slice none 0 0) ∧ New w w' := by
  have HSO := Lib.hid (sortS_none none 0)
  go_enter Tryz.func153, Tryz.ntmps153
  go_wp2_with fail
  go_loopw [3, 8] (fun s i wr => (i = .int .i64 0 ∧ s = .slice none 0 0) ∧ New w wr) (fun _ _ _ => 0)
  case atStart => exact ⟨⟨rfl, rfl⟩, New.refl _⟩
  case round =>
    obtain ⟨⟨rfl, rfl⟩, hn⟩ := hrel
    have HN := Lib.hid hn
    clear hn
    go_wp2_with (first | (go_at_call 138; refine (HSO.out _).mono ?_; rintro e w1 ⟨rfl, rfl⟩))
    go_ret
    exact ⟨rfl, HN.out⟩
set_option maxHeartbeats 8000000 in
theorem checkSweep_nil (A cv : Option Addr) (cp N cc : Nat) (w : World) :
    Calls Tryz.prog 73 #[.slice A 0 cp, .slice cv N cc] w fun e w' => e = .returned (.bool (decide (N = 0))) ∧ New w w' := by
  have HC := Lib.hid (fun w1 : World => checkSegs_nil A cp w1)
  have HS := Lib.hid (fun w1 : World => sameStrips_nil A cv cp N cc w1)
  by_cases h0 : N = 0
  · subst h0
    have HVE := Lib.hid (fun w1 : World => verticals_nil A cp w1)
    have HO := Lib.hid (fun w1 : World => overlapping_c none 0 0 [] w1 (by omega) rfl (fun h => by omega))
    rw [show ovB [] = false from rfl] at HO
    rw [show decide (0 = 0) = true from rfl] at HS ⊢
    go_enter Tryz.func73, Tryz.ntmps73
    go_wp2_with (first | (go_at_call 135; refine (HC.out _).mono ?_; rintro en w1 ⟨rfl, pw, rfl⟩) | (go_at_call 150; refine (HS.out _).mono ?_; rintro en w2 ⟨rfl, hn2⟩))
    have HN2 := Lib.hid (show New w w2 from New.trans (by (repeat (first | exact New.refl _ | apply New.alloc | apply New.aft | apply New.drew | refine New.setCell ?_ ?_ _)); all_goals (first | done | (simp [size_aft]; done) | (simp [size_aft]; omega))) hn2)
    clear hn2
    go_loopw [21] (fun i wr => i = .int .i64 0 ∧ New w2 wr) (fun _ _ => 0)
    case atStart => exact ⟨rfl, New.refl _⟩
    case round =>
      obtain ⟨rfl, hn⟩ := hrel
      have HNW := Lib.hid (HN2.out.trans hn)
      clear hn
      go_wp2_with (first | (go_at_call 153; refine (HVE.out _).mono ?_; rintro en w3 ⟨rfl, hn3⟩; have HN3 := Lib.hid (HNW.out.trans hn3); clear hn3) | (go_at_call 154; refine (HO.out _).mono ?_; rintro en w4 ⟨rfl, hn4⟩; have HN4 := Lib.hid (HN3.out.trans hn4); clear hn4))
      go_loopw [52] (fun i wr => i = .int .i64 0 ∧ New w4 wr) (fun _ _ => 0)
      case atStart => exact ⟨rfl, New.refl _⟩
      case round =>
        obtain ⟨rfl, hn⟩ := hrel
        have HN5 := Lib.hid (HN4.out.trans hn)
        clear hn
        go_wp2_with fail
        go_ret
        exact ⟨rfl, HN5.out⟩
  · rw [show decide (N = 0) = false from decide_eq_false h0] at HS ⊢
    exact checkSweep_bad A cv 0 cp N cc w (Lib.hid (fun w1 _ => HC.out w1)) (Lib.hid (fun w1 _ => HS.out w1))

set_option maxHeartbeats 4000000 in
theorem swept_long (A cv : Option Addr) (n cp N cc : Nat) (w : World) (hn : 60 < n) : Calls Tryz.prog 23 #[.slice A n cp, .slice cv N cc] w fun e w' => e = .returned (.bool true) ∧ New w w' := by
  have HL := Lib.hid alive_c
  have hn2 : (60 : Int) < (n : Int) := by omega
  go_enter Tryz.func23, Tryz.ntmps23
  go_wp2_with (go_at_call 31; refine (HL.out _).mono ?_; rintro e w1 ⟨rfl, pw, rfl⟩)
  all_goals (go_ret; exact ⟨rfl, (by (repeat (first | exact New.refl _ | apply New.alloc | apply New.aft | apply New.drew | refine New.setCell ?_ ?_ _)); all_goals (first | done | (simp [size_aft]; done) | (simp [size_aft]; omega)))⟩)
set_option maxHeartbeats 4000000 in
theorem swept_thick (A cv : Option Addr) (n cp N cc : Nat) (w : World) (hn : n ≤ 60)
    (HT : Hid (∀ w1 : World, New w w1 → Calls Tryz.prog 69 #[.slice cv N cc] w1 fun e w' => e = .returned (.bool false) ∧ New w1 w')) : Calls Tryz.prog 23 #[.slice A n cp, .slice cv N cc] w fun e w' => e = .returned (.bool true) ∧ New w w' := by
  have HL := Lib.hid alive_c
  have hn2 : ¬ (60 : Int) < (n : Int) := by omega
  go_enter Tryz.func23, Tryz.ntmps23
  go_wp2_with (first | (go_at_call 31; refine (HL.out _).mono ?_; rintro e w1 ⟨rfl, pw, rfl⟩) | (go_at_call 69; refine (HT.out _ (by (repeat (first | exact New.refl _ | apply New.alloc | apply New.aft | apply New.drew | refine New.setCell ?_ ?_ _)); all_goals (first | done | (simp [size_aft]; done) | (simp [size_aft]; omega)))).mono ?_; rintro e w1 ⟨rfl, pw, rfl⟩))
  all_goals (go_ret; exact ⟨rfl, (by (repeat (first | exact New.refl _ | apply New.alloc | apply New.aft | apply New.drew | refine New.setCell ?_ ?_ _)); all_goals (first | done | (simp [size_aft]; done) | (simp [size_aft]; omega)))⟩)
set_option maxHeartbeats 8000000 in
/-- the segments are not valid -/
theorem swept_bad (A cv : Option Addr) (n cp N cc : Nat) (K : Int) (w : World) (hn : n ≤ 60) (hK : K ≠ 0)
    (HT : Hid (∀ w1 : World, New w w1 → Calls Tryz.prog 69 #[.slice cv N cc] w1 fun e w' => e = .returned (.bool true) ∧ New w1 w'))
    (HX : Hid (∀ w1 : World, New w w1 → Calls Tryz.prog 64 #[.slice A n cp] w1 fun e w' => e = .returned (.tuple #[.int .i64 0, .int .i64 0, .bool false, .int .i64 K]) ∧ New w1 w'))
    (HS : Hid (∀ w1 : World, New w w1 → Calls Tryz.prog 70 #[.slice A n cp] w1 fun e w' => e = .returned (.tuple #[.slice none 0 0, .int .i64 K]) ∧ New w1 w'))
    (HC : Hid (∀ w1 : World, New w w1 → Calls Tryz.prog 73 #[.slice A n cp, .slice cv N cc] w1 fun e w' => e = .returned (.bool false) ∧ New w1 w')) :
    Calls Tryz.prog 23 #[.slice A n cp, .slice cv N cc] w fun e w' => e = .returned (.bool true) ∧ New w w' := by
  have HL := Lib.hid alive_c
  have hn2 : ¬ (60 : Int) < (n : Int) := by omega
  have z1 : (K == 0) = false := by simpa using hK
  have z2 : (K != 0) = true := by simpa using hK
  have z3 : (K == K) = true := by simp
  go_enter Tryz.func23, Tryz.ntmps23
  go_wp2_with (first | (go_at_call 31; refine (HL.out _).mono ?_; rintro e w1 ⟨rfl, pw0, rfl⟩) | (go_at_call 69; refine (HT.out _ (by (repeat (first | exact New.refl _ | apply New.alloc | apply New.aft | apply New.drew | refine New.setCell ?_ ?_ _)); all_goals (first | done | (simp [size_aft]; done) | (simp [size_aft]; omega)))).mono ?_; rintro e w1 ⟨rfl, pw1, rfl⟩) | (go_at_call 64; refine (HX.out _ (by (repeat (first | exact New.refl _ | apply New.alloc | apply New.aft | apply New.drew | refine New.setCell ?_ ?_ _)); all_goals (first | done | (simp [size_aft]; done) | (simp [size_aft]; omega)))).mono ?_; rintro e w1 ⟨rfl, pw2, rfl⟩) | (go_at_call 70; refine (HS.out _ (by (repeat (first | exact New.refl _ | apply New.alloc | apply New.aft | apply New.drew | refine New.setCell ?_ ?_ _)); all_goals (first | done | (simp [size_aft]; done) | (simp [size_aft]; omega)))).mono ?_; rintro e w1 ⟨rfl, pw3, rfl⟩) | (go_at_call 73; refine (HC.out _ (by (repeat (first | exact New.refl _ | apply New.alloc | apply New.aft | apply New.drew | refine New.setCell ?_ ?_ _)); all_goals (first | done | (simp [size_aft]; done) | (simp [size_aft]; omega)))).mono ?_; rintro e w1 ⟨rfl, pw4, rfl⟩))
  all_goals (go_ret; exact ⟨rfl, (by (repeat (first | exact New.refl _ | apply New.alloc | apply New.aft | apply New.drew | refine New.setCell ?_ ?_ _)); all_goals (first | done | (simp [size_aft]; done) | (simp [size_aft]; omega)))⟩)
set_option maxHeartbeats 8000000 in
/-- two segments cross -/
theorem swept_cross (A cv : Option Addr) (n cp N cc : Nat) (w : World) (hn : n ≤ 60)
    (HT : Hid (∀ w1 : World, New w w1 → Calls Tryz.prog 69 #[.slice cv N cc] w1 fun e w' => e = .returned (.bool true) ∧ New w1 w'))
    (HX : Hid (∀ w1 : World, New w w1 → Calls Tryz.prog 64 #[.slice A n cp] w1 fun e w' => (∃ i j : Nat, e = .returned (.tuple #[.int .i64 i, .int .i64 j, .bool true, .int .i64 0])) ∧ New w1 w'))
    (HS : Hid (∀ w1 : World, New w w1 → Calls Tryz.prog 70 #[.slice A n cp] w1 fun e w' => e = .returned (.tuple #[.slice none 0 0, .int .i64 10]) ∧ New w1 w'))
    (HC : Hid (∀ w1 : World, New w w1 → Calls Tryz.prog 73 #[.slice A n cp, .slice cv N cc] w1 fun e w' => e = .returned (.bool false) ∧ New w1 w')) :
    Calls Tryz.prog 23 #[.slice A n cp, .slice cv N cc] w fun e w' => e = .returned (.bool true) ∧ New w w' := by
  have HL := Lib.hid alive_c
  have hn2 : ¬ (60 : Int) < (n : Int) := by omega
  go_enter Tryz.func23, Tryz.ntmps23
  go_wp2_with (first | (go_at_call 31; refine (HL.out _).mono ?_; rintro e w1 ⟨rfl, pw0, rfl⟩) | (go_at_call 69; refine (HT.out _ (by (repeat (first | exact New.refl _ | apply New.alloc | apply New.aft | apply New.drew | refine New.setCell ?_ ?_ _)); all_goals (first | done | (simp [size_aft]; done) | (simp [size_aft]; omega)))).mono ?_; rintro e w1 ⟨rfl, pw1, rfl⟩) | (go_at_call 64; refine (HX.out _ (by (repeat (first | exact New.refl _ | apply New.alloc | apply New.aft | apply New.drew | refine New.setCell ?_ ?_ _)); all_goals (first | done | (simp [size_aft]; done) | (simp [size_aft]; omega)))).mono ?_; rintro e w1 ⟨⟨i, j, rfl⟩, pw2, rfl⟩) | (go_at_call 70; refine (HS.out _ (by (repeat (first | exact New.refl _ | apply New.alloc | apply New.aft | apply New.drew | refine New.setCell ?_ ?_ _)); all_goals (first | done | (simp [size_aft]; done) | (simp [size_aft]; omega)))).mono ?_; rintro e w1 ⟨rfl, pw3, rfl⟩) | (go_at_call 73; refine (HC.out _ (by (repeat (first | exact New.refl _ | apply New.alloc | apply New.aft | apply New.drew | refine New.setCell ?_ ?_ _)); all_goals (first | done | (simp [size_aft]; done) | (simp [size_aft]; omega)))).mono ?_; rintro e w1 ⟨rfl, pw4, rfl⟩))
  all_goals (go_ret; exact ⟨rfl, (by (repeat (first | exact New.refl _ | apply New.alloc | apply New.aft | apply New.drew | refine New.setCell ?_ ?_ _)); all_goals (first | done | (simp [size_aft]; done) | (simp [size_aft]; omega)))⟩)
set_option maxHeartbeats 8000000 in
/-- no two segments cross -/
theorem swept_apart (A cv : Option Addr) (n cp N cc : Nat) (R : Value → World → Prop) (w : World) (hn : n ≤ 60)
    (HT : Hid (∀ w1 : World, New w w1 → Calls Tryz.prog 69 #[.slice cv N cc] w1 fun e w' => e = .returned (.bool true) ∧ New w1 w'))
    (HX : Hid (∀ w1 : World, New w w1 → Calls Tryz.prog 64 #[.slice A n cp] w1 fun e w' => e = .returned (.tuple #[.int .i64 0, .int .i64 0, .bool false, .int .i64 0]) ∧ New w1 w'))
    (HS : Hid (∀ w1 : World, New w w1 → Calls Tryz.prog 70 #[.slice A n cp] w1 fun e w' => ∃ a m c, e = .returned (.tuple #[.slice a m c, .int .i64 0]) ∧ R (.slice a m c) w' ∧ New w1 w'))
    (HC : Hid (∀ (v : Value) (w1 : World), New w w1 → R v w1 → Calls Tryz.prog 73 #[.slice A n cp, v] w1 fun e w' => e = .returned (.bool true) ∧ New w1 w')) :
    Calls Tryz.prog 23 #[.slice A n cp, .slice cv N cc] w fun e w' => e = .returned (.bool true) ∧ New w w' := by
  have HL := Lib.hid alive_c
  have hn2 : ¬ (60 : Int) < (n : Int) := by omega
  go_enter Tryz.func23, Tryz.ntmps23
  go_wp2_with (first | (go_at_call 31; refine (HL.out _).mono ?_; rintro e w1 ⟨rfl, pw0, rfl⟩) | (go_at_call 69; refine (HT.out _ (by (repeat (first | exact New.refl _ | apply New.alloc | apply New.aft | apply New.drew | refine New.setCell ?_ ?_ _)); all_goals (first | done | (simp [size_aft]; done) | (simp [size_aft]; omega)))).mono ?_; rintro e w1 ⟨rfl, pw1, rfl⟩) | (go_at_call 64; refine (HX.out _ (by (repeat (first | exact New.refl _ | apply New.alloc | apply New.aft | apply New.drew | refine New.setCell ?_ ?_ _)); all_goals (first | done | (simp [size_aft]; done) | (simp [size_aft]; omega)))).mono ?_; rintro e w1 ⟨rfl, pw2, rfl⟩) | (go_at_call 70; refine (HS.out _ (by (repeat (first | exact New.refl _ | apply New.alloc | apply New.aft | apply New.drew | refine New.setCell ?_ ?_ _)); all_goals (first | done | (simp [size_aft]; done) | (simp [size_aft]; omega)))).mono ?_; rintro e w5 ⟨a, m, c, rfl, hR, hn5⟩; have HRR := Lib.hid hR; have HN5 := Lib.hid (show New w w5 from New.trans (by (repeat (first | exact New.refl _ | apply New.alloc | apply New.aft | apply New.drew | refine New.setCell ?_ ?_ _)); all_goals (first | done | (simp [size_aft]; done) | (simp [size_aft]; omega))) hn5); clear hR hn5) | (go_at_call 73; refine (HC.out _ _ HN5.out HRR.out).mono ?_; rintro e w6 ⟨rfl, hn6⟩; have HN6 := Lib.hid (HN5.out.trans hn6); clear hn6))
  all_goals (go_ret; exact ⟨rfl, (by (repeat (first | exact HN6.out | exact New.refl _ | apply New.alloc | apply New.aft | apply New.drew | refine New.setCell ?_ ?_ _)); all_goals (first | done | (simp [size_aft]; done) | (simp [size_aft]; omega)))⟩)

end Go.Proofs.YtpdfbboagaflhaaGreat

set_option linter.unusedSimpArgs false
set_option linter.unusedVariables false
namespace Go.Proofs.YtpdfbboagaflhaaGreat
open Go.RowKit

theorem fwd_cases (a b c d : Int) : (Geo.lexB c d a b ∧ (f1 a b c d, f2 a b c d, f3 a b c d, f4 a b c d) = (c, d, a, b)) ∨ (¬ Geo.lexB c d a b ∧ (f1 a b c d, f2 a b c d, f3 a b c d, f4 a b c d) = (a, b, c, d)) := by
  have h := (Geo.or_lt a b c d).2.2
  unfold f1 f2 f3 f4
  by_cases g : 0 < orI (cmpI a c) (cmpI b d)
  · left; rw [if_pos g, if_pos g, if_pos g, if_pos g]; exact ⟨h.1 g, rfl⟩
  · right; rw [if_neg g, if_neg g, if_neg g, if_neg g]; exact ⟨fun e => g (h.2 e), rfl⟩
theorem fwd_ok (a b c d : Int) (hne : ¬ (a = c ∧ b = d)) : Geo.FwdOk (f1 a b c d, f2 a b c d, f3 a b c d, f4 a b c d) := by
  rcases fwd_cases a b c d with ⟨hl, e⟩ | ⟨hl, e⟩
  · rw [e]
    refine ⟨?_, ?_⟩
    · rcases fwd_cases c d a b with ⟨h2, _⟩ | ⟨_, e2⟩
      · unfold Geo.lexB at hl h2; omega
      · exact e2
    · unfold Geo.lexB at hl; exact hl
  · rw [e]
    refine ⟨e, ?_⟩
    unfold Geo.lexB at hl
    simp only
    omega
theorem fwdAt_ok {l : List S4} (hok : okSegs l = true) {i : Nat} (hi : i < l.length) : Geo.FwdOk (fwdAt l i) := by
  obtain ⟨_, _, hne⟩ := okS_iff.1 (okSegs_at l i hi hok)
  exact fwd_ok _ _ _ _ hne
theorem fwdAt_x (l : List S4) (i : Nat) : (fwdAt l i).1 = min (q1 l i) (q3 l i) ∧ (fwdAt l i).2.2.1 = max (q1 l i) (q3 l i) := f_minmax _ _ _ _
theorem ev_of {l : List S4} (hok : okSegs l = true) : Geo.Ev2 l.length (endXsL l).length (fwdAt l) (xAt l) where
  up k hk := xAt_lt (Nat.lt_succ_self k) hk
  mem x := by
    constructor
    · rintro ⟨k, hk, rfl⟩
      obtain ⟨i, hi, h⟩ := endXs_mem.1 (xAt_mem hk)
      obtain ⟨e1, e2⟩ := fwdAt_x l i
      refine ⟨i, hi, ?_⟩
      rw [e1, e2]; omega
    · rintro ⟨i, hi, h⟩
      obtain ⟨e1, e2⟩ := fwdAt_x l i
      rw [e1, e2] at h
      have hm : x ∈ endXsL l := endXs_mem.2 ⟨i, hi, by omega⟩
      obtain ⟨k, hk, e⟩ := List.getElem_of_mem hm
      exact ⟨k, hk, by unfold xAt; rw [List.getD_eq_getElem?_getD, List.getElem?_eq_getElem hk]; exact e⟩
  ok i hi := fwdAt_ok hok hi
theorem cmA_DD (l : List S4) (L : List Int) (x : Int) (p q : Nat) : (cmA l L x p q < 0 ↔ Geo.DD (fwdAt l (L.getD p 0).toNat) (fwdAt l (L.getD q 0).toNat) x < 0) ∧ (0 < cmA l L x p q ↔ 0 < Geo.DD (fwdAt l (L.getD p 0).toNat) (fwdAt l (L.getD q 0).toNat) x) ∧ (cmA l L x p q = 0 ↔ Geo.DD (fwdAt l (L.getD p 0).toNat) (fwdAt l (L.getD q 0).toNat) x = 0) := by
  have h := Geo.cmpI_sub (hA l L x p * hD l L q) (hA l L x q * hD l L p)
  exact h
theorem natsL_len (L : List Int) : (natsL L).length = L.length := by simp [natsL]
theorem natsL_getD (L : List Int) {p : Nat} (h : p < L.length) : (natsL L).getD p 0 = (L.getD p 0).toNat := nat_natsL L p h
theorem rise_of {l : List S4} {L : List Int} {f t : Int} (h : risB l L f t = true) : Geo.Rise (fwdAt l) (natsL L) f t := by
  intro p hp
  rw [natsL_len] at hp
  rw [natsL_getD L (by omega), natsL_getD L hp]
  obtain ⟨h1, h2, h3⟩ := ris_step h hp
  have a := cmA_DD l L (2 * f) p (p + 1)
  have b := cmA_DD l L (2 * t) p (p + 1)
  omega
theorem ris_of {l : List S4} {L : List Int} {f t : Int} (h : Geo.Rise (fwdAt l) (natsL L) f t) : risB l L f t = true := by
  unfold risB
  have : (List.range (L.length - 1)).any (badR l L f t) = false := by
    rw [List.any_eq_false]
    intro p hp
    rw [List.mem_range] at hp
    have h1 := h p (by rw [natsL_len]; omega)
    rw [natsL_getD L (by omega), natsL_getD L (by omega)] at h1
    have a := cmA_DD l L (2 * f) p (p + 1)
    have b := cmA_DD l L (2 * t) p (p + 1)
    unfold badR
    have c1 : ¬ 0 < cmA l L (2 * f) p (p + 1) := by omega
    have c2 : ¬ 0 < cmA l L (2 * t) p (p + 1) := by omega
    have c3 : ¬ (cmA l L (2 * f) p (p + 1) = 0 ∧ cmA l L (2 * t) p (p + 1) = 0) := by omega
    rw [decide_eq_false c1, decide_eq_false c2]
    simpa using c3
  rw [this]; rfl
section
variable {l : List S4} {C : List SV}
theorem spanTo_up (l : List S4) (f t : Int) : ∀ n, (spanTo l f t n).Pairwise (· < ·) ∧ ∀ x ∈ spanTo l f t n, x < (n : Int)
  | 0 => by simp [spanTo]
  | n + 1 => by
    obtain ⟨h1, h2⟩ := spanTo_up l f t n
    simp only [spanTo]
    split
    · refine ⟨List.pairwise_append.2 ⟨h1, List.pairwise_singleton _ _, fun a ha b hb => ?_⟩, fun x hx => ?_⟩
      · obtain rfl : b = n := by simpa using hb
        exact h2 a ha
      · rcases List.mem_append.1 hx with h | h
        · have := h2 x h; omega
        · obtain rfl : x = n := by simpa using h
          omega
    · exact ⟨h1, fun x hx => by have := h2 x hx; omega⟩
theorem StripsAre.nodup (h : StripsAre l C) {j : Nat} (hj : j < C.length) : (natsL (sL C j)).Nodup := by
  obtain ⟨⟨e1, e2⟩, e3⟩ := h.mt j hj
  have h1 : (sL C j).Nodup := by
    have hp : (sortI (sL C j)).Perm (sL C j) := List.mergeSort_perm _ _
    refine hp.nodup_iff.1 ?_
    rw [e3]
    exact (spanTo_up l _ _ _).1.imp (fun h => by omega)
  unfold natsL
  refine List.pairwise_map.2 (List.Pairwise.imp_of_mem ?_ h1)
  intro a b ha hb hab
  obtain ⟨i, e, _⟩ := (h.mem hj).1 ha
  obtain ⟨k, e', _⟩ := (h.mem hj).1 hb
  rw [e, e'] at hab ⊢
  simp only [Int.toNat_natCast]
  omega
theorem span_iff {l : List S4} {f t : Int} {i : Nat} : spanAt l f t i = true ↔ (fwdAt l i).1 ≤ f ∧ t ≤ (fwdAt l i).2.2.1 := by
  obtain ⟨e1, e2⟩ := fwdAt_x l i
  rw [e1, e2]
  unfold spanAt
  simp
theorem StripsAre.span (h : StripsAre l C) {j : Nat} (hj : j < C.length) (i : Nat) : i ∈ natsL (sL C j) ↔ i < l.length ∧ Geo.Span (fwdAt l) (xAt l) j i := by
  obtain ⟨⟨e1, e2⟩, _⟩ := h.mt j hj
  unfold natsL Geo.Span
  rw [List.mem_map]
  constructor
  · rintro ⟨x, hx, rfl⟩
    obtain ⟨k, rfl, hk, hs⟩ := (h.mem hj).1 hx
    rw [span_iff, e1, e2] at hs
    exact ⟨by simpa using hk, by simpa using hs⟩
  · rintro ⟨hi, hs⟩
    exact ⟨i, (h.mem hj).2 ⟨i, rfl, hi, by rw [span_iff, e1, e2]; exact hs⟩, by simp⟩
end

end Go.Proofs.YtpdfbboagaflhaaGreat

set_option linter.unusedSimpArgs false
set_option linter.unusedVariables false
namespace Go.Proofs.YtpdfbboagaflhaaGreat
open Go.RowKit

section
variable {E : Nat → Prop} [DecidablePred E] {fr : Nat → Bool} {go : Nat → Int}
/-- neighbours from p to q are all of one height -/
def Run (E : Nat → Prop) (p q : Nat) : Prop := ∀ k, p ≤ k → k < q → E k
/-- the count: a neighbour of another height sets it back -/
def Cnt (E : Nat → Prop) [DecidablePred E] (fr : Nat → Bool) (go : Nat → Int) : Prop := go 0 = 0 ∧ ∀ i, go (i + 1) = (if i = 0 ∨ ¬ E (i - 1) then 0 else go i) + (if fr i then 1 else 0)
theorem cnt_pos (h : Cnt E fr go) : ∀ i, 0 ≤ go i
  | 0 => by rw [h.1]; exact Int.le_refl _
  | i + 1 => by have := cnt_pos h i; rw [h.2]; split <;> split <;> omega
theorem cnt_up (h : Cnt E fr go) {p : Nat} : ∀ {q : Nat}, p < q → Run E p q → go (p + 1) + (if fr q then 1 else 0) ≤ go (q + 1)
  | 0, hq, _ => by omega
  | q + 1, hq, hr => by
    have hE : E q := hr q (by omega) (by omega)
    have h0 := h.2 (q + 1)
    rw [if_neg (by simpa using hE)] at h0
    rw [h0]
    rcases Nat.lt_or_ge p q with g | g
    · have := cnt_up h g (fun k h1 h2 => hr k h1 (by omega))
      have h5 : (0 : Int) ≤ if fr q = true then 1 else 0 := by split <;> omega
      omega
    · obtain rfl : p = q := by omega
      omega
theorem cnt_two (h : Cnt E fr go) {p q : Nat} (hpq : p < q) (hr : Run E p q) (fp : fr p = true) (fq : fr q = true) : 1 < go (q + 1) := by
  have h1 := cnt_up h hpq hr
  rw [fq] at h1
  have h2 := h.2 p
  rw [fp] at h2
  have h3 := cnt_pos h p
  simp only [if_true] at h1 h2
  split at h2 <;> omega
theorem cnt_back (h : Cnt E fr go) : ∀ i, (0 < go (i + 1) → ∃ p, p ≤ i ∧ fr p = true ∧ Run E p i) ∧ (1 < go (i + 1) → ∃ p q, p < q ∧ q ≤ i ∧ fr p = true ∧ fr q = true ∧ Run E p q)
  | 0 => by
    have h0 := h.2 0
    rw [if_pos (.inl rfl)] at h0
    constructor
    · intro g
      rw [h0] at g
      refine ⟨0, Nat.le_refl _, ?_, fun k h1 h2 => by omega⟩
      cases hf : fr 0
      · rw [hf] at g; simp at g
      · rfl
    · intro g
      rw [h0] at g
      split at g <;> omega
  | i + 1 => by
    obtain ⟨a, b⟩ := cnt_back h i
    have h0 := h.2 (i + 1)
    have hp := cnt_pos h (i + 1)
    by_cases hE : E i
    · rw [if_neg (by simpa using hE)] at h0
      have ext : ∀ p, Run E p i → Run E p (i + 1) := fun p hr k h1 h2 => by
        rcases Nat.lt_or_ge k i with g | g
        · exact hr k h1 g
        · obtain rfl : k = i := by omega
          exact hE
      cases hf : fr (i + 1)
      · rw [hf] at h0
        constructor
        · intro g
          obtain ⟨p, h1, h2, h3⟩ := a (by simp at h0; omega)
          exact ⟨p, by omega, h2, ext p h3⟩
        · intro g
          obtain ⟨p, q, h1, h2, h3⟩ := b (by simp at h0; omega)
          exact ⟨p, q, h1, by omega, h3⟩
      · rw [hf] at h0
        simp only [if_true] at h0
        constructor
        · intro _
          exact ⟨i + 1, Nat.le_refl _, hf, fun k h1 h2 => by omega⟩
        · intro g
          obtain ⟨p, h1, h2, h3⟩ := a (by omega)
          exact ⟨p, i + 1, by omega, Nat.le_refl _, h2, hf, ext p h3⟩
    · rw [if_pos (.inr (by simpa using hE))] at h0
      constructor
      · intro g
        refine ⟨i + 1, Nat.le_refl _, ?_, fun k h1 h2 => by omega⟩
        cases hf : fr (i + 1)
        · rw [hf] at h0; simp at h0; omega
        · rfl
      · intro g
        split at h0 <;> omega
end

theorem free_end (l : List S4) (L : List Int) (x : Int) (i : Nat) : freeAt l L x i = true ↔ ¬ Geo.EndAt (fwdAt l) x (L.getD i 0).toNat := by
  obtain ⟨e1, e2⟩ := fwdAt_x l (L.getD i 0).toNat
  unfold freeAt Geo.EndAt
  rw [e1, e2]
  simp only [Bool.and_eq_true, Bool.not_eq_true', beq_eq_false_iff_ne, ne_eq]
  omega
section
variable {l : List S4} {L : List Int} {x : Int}
/-- of one height at x: neighbours -/
def Eq1 (l : List S4) (L : List Int) (x : Int) (p : Nat) : Prop := Geo.DD (fwdAt l (L.getD p 0).toNat) (fwdAt l (L.getD (p + 1) 0).toNat) (2 * x) = 0
instance : DecidablePred (Eq1 l L x) := fun p => by unfold Eq1; infer_instance
theorem cnt_goTo : Cnt (Eq1 l L x) (freeAt l L x) (goTo l L x) := by
  refine ⟨rfl, fun i => ?_⟩
  have h : goTo l L x (i + 1) = (if i = 0 ∨ cmA l L (2 * x) i (i - 1) ≠ 0 then 0 else goTo l L x i) + (if freeAt l L x i then 1 else 0) := rfl
  rw [h]
  congr 1
  by_cases h0 : i = 0
  · rw [if_pos (.inl h0), if_pos (.inl h0)]
  · obtain ⟨k, rfl⟩ : ∃ k, i = k + 1 := ⟨i - 1, by omega⟩
    have e := (cmA_DD l L (2 * x) (k + 1) (k + 1 - 1)).2.2
    rw [show k + 1 - 1 = k by omega] at e ⊢
    have e2 : cmA l L (2 * x) (k + 1) k = 0 ↔ Eq1 l L x k := by
      rw [e]; unfold Eq1; rw [Geo.DD_swap]; omega
    by_cases g : Eq1 l L x k
    · rw [if_neg (by simp [e2.2 g]), if_neg (by simp [g])]
    · rw [if_pos (.inr (fun hh => g (e2.1 hh))), if_pos (.inr g)]
/-- the order at x, from neighbours to any two -/
theorem order_run (hle : ∀ p, p + 1 < L.length → Geo.DD (fwdAt l (L.getD p 0).toNat) (fwdAt l (L.getD (p + 1) 0).toNat) (2 * x) ≤ 0) (hpos : ∀ p, p < L.length → 0 < Geo.WW (fwdAt l (L.getD p 0).toNat)) {p : Nat} : ∀ {q : Nat}, p < q → q < L.length →
    Geo.DD (fwdAt l (L.getD p 0).toNat) (fwdAt l (L.getD q 0).toNat) (2 * x) ≤ 0 ∧ (Geo.DD (fwdAt l (L.getD p 0).toNat) (fwdAt l (L.getD q 0).toNat) (2 * x) = 0 ↔ Run (Eq1 l L x) p q)
  | 0, h, _ => by omega
  | q + 1, h, hq => by
    have h1 := hle q hq
    rcases Nat.lt_or_ge p q with g | g
    · obtain ⟨a, b⟩ := order_run hle hpos g (by omega)
      obtain ⟨c, d⟩ := Geo.DD_trans (hpos p (by omega)) (hpos q (by omega)) (hpos (q + 1) hq) a h1
      refine ⟨c, ⟨fun e k k1 k2 => ?_, fun r => ?_⟩⟩
      · obtain ⟨e1, e2⟩ := d e
        rcases Nat.lt_or_ge k q with g2 | g2
        · exact b.1 e1 k k1 g2
        · obtain rfl : k = q := by omega
          exact e2
      · have e1 := b.2 (fun k k1 k2 => r k k1 (by omega))
        have e2 : Geo.DD (fwdAt l (L.getD q 0).toNat) (fwdAt l (L.getD (q + 1) 0).toNat) (2 * x) = 0 := r q (by omega) (by omega)
        have e3 := Geo.DD_mid (fwdAt l (L.getD p 0).toNat) (fwdAt l (L.getD q 0).toNat) (fwdAt l (L.getD (q + 1) 0).toNat) (2 * x)
        rw [e1, e2, Int.mul_zero, Int.mul_zero, Int.add_zero] at e3
        have := hpos q (by omega)
        rcases Int.mul_eq_zero.1 e3 with k | k
        · omega
        · exact k
    · obtain rfl : p = q := by omega
      exact ⟨h1, ⟨fun e k k1 k2 => by obtain rfl : k = p := by omega
                                      exact e, fun r => r p (Nat.le_refl _) (by omega)⟩⟩
theorem crow_lone (hle : ∀ p, p + 1 < L.length → Geo.DD (fwdAt l (L.getD p 0).toNat) (fwdAt l (L.getD (p + 1) 0).toNat) (2 * x) ≤ 0) (hpos : ∀ p, p < L.length → 0 < Geo.WW (fwdAt l (L.getD p 0).toNat)) (hnd : (natsL L).Nodup) :
    crowB l L x = false ↔ Geo.Lone (fwdAt l) (natsL L) x := by
  have hcb : crowB l L x = false ↔ ∀ i, i < L.length → ¬ 1 < goTo l L x (i + 1) := by
    unfold crowB
    rw [List.any_eq_false]
    constructor
    · intro h i hi
      have := h i (List.mem_range.2 hi)
      simpa using this
    · intro h i hi
      have := h i (List.mem_range.1 hi)
      simpa using this
  have hidx : ∀ i, i ∈ natsL L → ∃ p, p < L.length ∧ (L.getD p 0).toNat = i := fun i hi => by
    obtain ⟨p, hp, e⟩ := List.getElem_of_mem hi
    rw [natsL_len] at hp
    refine ⟨p, hp, ?_⟩
    rw [← nat_natsL L p hp]
    unfold nat
    rw [List.getD_eq_getElem?_getD, List.getElem?_eq_getElem (by rw [natsL_len]; exact hp)]
    exact e
  have hmem : ∀ p, p < L.length → (L.getD p 0).toNat ∈ natsL L := fun p hp => by
    rw [← nat_natsL L p hp]
    unfold nat
    rw [List.getD_eq_getElem?_getD, List.getElem?_eq_getElem (by rw [natsL_len]; exact hp)]
    exact List.getElem_mem _
  have hinj : ∀ p q, p < q → q < L.length → (L.getD p 0).toNat ≠ (L.getD q 0).toNat := fun p q hpq hq e => by
    have h1 := List.pairwise_iff_getElem.1 hnd p q (by rw [natsL_len]; omega) (by rw [natsL_len]; exact hq) hpq
    rw [← nat_natsL L p (by omega), ← nat_natsL L q hq] at e
    unfold nat at e
    rw [List.getD_eq_getElem?_getD, List.getD_eq_getElem?_getD, List.getElem?_eq_getElem (by rw [natsL_len]; omega), List.getElem?_eq_getElem (by rw [natsL_len]; exact hq)] at e
    exact h1 e
  rw [hcb]
  constructor
  · intro h i hi j hj hij h0
    obtain ⟨p, hp, rfl⟩ := hidx i hi
    obtain ⟨q, hq, rfl⟩ := hidx j hj
    rcases Classical.em (Geo.EndAt (fwdAt l) x (L.getD p 0).toNat ∨ Geo.EndAt (fwdAt l) x (L.getD q 0).toNat) with g | g
    · exact g
    · exfalso
      have fp := (free_end l L x p).2 (fun e => g (.inl e))
      have fq := (free_end l L x q).2 (fun e => g (.inr e))
      rcases Nat.lt_trichotomy p q with k | k | k
      · exact h q hq (cnt_two cnt_goTo k ((order_run hle hpos k hq).2.1 h0) fp fq)
      · subst k; exact hij rfl
      · rw [Geo.DD_swap] at h0
        exact h p hp (cnt_two cnt_goTo k ((order_run hle hpos k hp).2.1 (by omega)) fq fp)
  · intro h i hi g
    obtain ⟨p, q, h1, h2, fp, fq, hr⟩ := (cnt_back cnt_goTo i).2 g
    have e := (order_run hle hpos h1 (show q < L.length by omega)).2.2 hr
    rcases h _ (hmem p (by omega)) _ (hmem q (by omega)) (hinj p q h1 (by omega)) e with k | k
    · exact (free_end l L x p).1 fp k
    · exact (free_end l L x q).1 fq k
end

end Go.Proofs.YtpdfbboagaflhaaGreat

set_option linter.unusedSimpArgs false
set_option linter.unusedVariables false
namespace Go.Proofs.YtpdfbboagaflhaaGreat
open Go.RowKit

/-- two vertical segments overlap -/
def Ovl (s t : S4) : Prop := s.1 = t.1 ∧ s.2.1 < t.2.2.2 ∧ t.2.1 < s.2.2.2
theorem Ovl.symm {s t : S4} (h : Ovl s t) : Ovl t s := ⟨h.1.symm, h.2.2, h.2.1⟩
theorem vert_eq (l : List S4) (i : Nat) : (q1 l i == q3 l i) = true ↔ (fwdAt l i).1 = (fwdAt l i).2.2.1 := by
  obtain ⟨e1, e2⟩ := fwdAt_x l i
  rw [e1, e2]
  simp only [beq_iff_eq]
  omega
theorem vertTo_mem {l : List S4} {s : S4} : ∀ {n : Nat}, s ∈ vertTo l n ↔ ∃ i, i < n ∧ (fwdAt l i).1 = (fwdAt l i).2.2.1 ∧ s = fwdAt l i
  | 0 => by simp [vertTo]
  | n + 1 => by
    simp only [vertTo]
    split
    · rename_i hv
      rw [List.mem_append, vertTo_mem (n := n)]
      simp only [List.mem_cons, List.not_mem_nil, or_false]
      constructor
      · rintro (⟨i, h1, h2, h3⟩ | h)
        · exact ⟨i, by omega, h2, h3⟩
        · exact ⟨n, by omega, (vert_eq l n).1 hv, h⟩
      · rintro ⟨i, h1, h2, h3⟩
        rcases Nat.lt_or_ge i n with g | g
        · exact .inl ⟨i, g, h2, h3⟩
        · obtain rfl : i = n := by omega
          exact .inr h3
    · rename_i hv
      rw [vertTo_mem (n := n)]
      constructor
      · rintro ⟨i, h1, h2⟩; exact ⟨i, by omega, h2⟩
      · rintro ⟨i, h1, h2, h3⟩
        rcases Nat.lt_or_ge i n with g | g
        · exact ⟨i, g, h2, h3⟩
        · obtain rfl : i = n := by omega
          exact absurd ((vert_eq l i).2 h2) hv
theorem vertTo_pair {l : List S4} {R : S4 → S4 → Prop} : ∀ {n : Nat}, (vertTo l n).Pairwise R ↔ ∀ i j, i < j → j < n → (fwdAt l i).1 = (fwdAt l i).2.2.1 → (fwdAt l j).1 = (fwdAt l j).2.2.1 → R (fwdAt l i) (fwdAt l j)
  | 0 => by simp [vertTo]
  | n + 1 => by
    simp only [vertTo]
    split
    · rename_i hv
      have hv' := (vert_eq l n).1 hv
      rw [List.pairwise_append, vertTo_pair (n := n)]
      constructor
      · rintro ⟨h1, _, h2⟩ i j hij hj vi vj
        rcases Nat.lt_or_ge j n with g | g
        · exact h1 i j hij g vi vj
        · obtain rfl : j = n := by omega
          exact h2 _ (vertTo_mem.2 ⟨i, hij, vi, rfl⟩) _ (List.mem_singleton.2 rfl)
      · intro h
        refine ⟨fun i j hij hj => h i j hij (by omega), List.pairwise_singleton _ _, fun a ha b hb => ?_⟩
        obtain ⟨i, hi, vi, rfl⟩ := vertTo_mem.1 ha
        obtain rfl := List.mem_singleton.1 hb
        exact h i n hi (by omega) vi hv'
    · rename_i hv
      rw [vertTo_pair (n := n)]
      constructor
      · intro h i j hij hj vi vj
        rcases Nat.lt_or_ge j n with g | g
        · exact h i j hij g vi vj
        · obtain rfl : j = n := by omega
          exact absurd ((vert_eq l j).2 vj) hv
      · intro h i j hij hj
        exact h i j hij (by omega)
theorem upL_sorted (l : List S4) : (upL l).Pairwise fun x y => ¬ lessS y x = true := by
  unfold upL sortS
  rw [ltOf_cfS_eq]
  have := List.pairwise_mergeSort (le := fun x y => !lessS y x) (fun a b c h1 h2 => by simp [lessS] at *; omega) (fun a b => by simp [lessS]; omega) (vertTo l l.length)
  refine this.imp fun {a b} h => ?_
  simpa using h
theorem upL_perm (l : List S4) : (upL l).Perm (vertTo l l.length) := List.mergeSort_perm _ _
theorem upL_at {l : List S4} {u : Nat} (hu : u < (upL l).length) : (upL l).getD u (0, 0, 0, 0) ∈ upL l := by
  rw [List.getD_eq_getElem?_getD, List.getElem?_eq_getElem hu]; exact List.getElem_mem hu
theorem upL_vert {l : List S4} (hok : okSegs l = true) {s : S4} (h : s ∈ upL l) : s.1 = s.2.2.1 ∧ s.2.1 < s.2.2.2 := by
  obtain ⟨i, hi, hv, rfl⟩ := vertTo_mem.1 ((upL_perm l).mem_iff.1 h)
  have := (fwdAt_ok hok hi).2
  exact ⟨hv, by omega⟩
theorem over_iff {l : List S4} (hok : okSegs l = true) : ovB (upL l) = false ↔ ∀ i j, i < l.length → j < l.length → i ≠ j → (fwdAt l i).1 = (fwdAt l i).2.2.1 → (fwdAt l j).1 = (fwdAt l j).2.2.1 → ¬ Ovl (fwdAt l i) (fwdAt l j) := by
  have hs := List.pairwise_iff_getElem.1 (upL_sorted l)
  have hv := fun (s : S4) (h : s ∈ upL l) => upL_vert hok h
  have h1 : ovB (upL l) = false ↔ (upL l).Pairwise (fun s t => ¬ Ovl s t) := by
    unfold ovB
    rw [List.any_eq_false, List.pairwise_iff_getElem]
    generalize upL l = U at *
    have hq : ∀ p (hp : p < U.length), q1 U p = U[p].1 ∧ q2 U p = U[p].2.1 ∧ q4 U p = U[p].2.2.2 := fun p hp => by
      simp [q1, q2, q4, List.getD_eq_getElem?_getD, hp]
    constructor
    · intro h p q hp hq' hpq ho
      -- neighbours from p to q do not overlap: so the lower ends climb
      have key : ∀ d, (hd : p + 1 + d < U.length) → U[p].1 = (U[p + 1 + d]).1 → U[p].2.2.2 ≤ (U[p + 1 + d]).2.1 := by
        intro d
        induction d with
        | zero =>
          intro hd e
          have := h p (List.mem_range.2 (by omega))
          unfold ovA at this
          obtain ⟨a1, a2, a3⟩ := hq p hp
          obtain ⟨b1, b2, b3⟩ := hq (p + 1) hd
          rw [a1, b1, a3, b2] at this
          simp only [Bool.and_eq_true, beq_iff_eq, decide_eq_true_eq, not_and] at this
          have := this e
          simp only [Nat.add_zero]
          omega
        | succ d ih =>
          intro hd e
          have s1 := hs p (p + 1 + d) hp (by omega) (by omega)
          have s2 := hs (p + 1 + d) (p + 1 + (d + 1)) (by omega) hd (by omega)
          simp only [lessS, decide_eq_true_eq] at s1 s2
          have e2 : U[p].1 = (U[p + 1 + d]).1 := by omega
          have := ih (by omega) e2
          omega
      have k := key (q - p - 1) (by omega)
      have eq : p + 1 + (q - p - 1) = q := by omega
      simp only [eq] at k
      have := k ho.1
      have := ho.2.2
      omega
    · intro h p hp
      have hp' := List.mem_range.1 hp
      unfold ovA
      obtain ⟨a1, a2, a3⟩ := hq p (by omega)
      obtain ⟨b1, b2, b3⟩ := hq (p + 1) (by omega)
      rw [a1, b1, a3, b2]
      simp only [Bool.and_eq_true, beq_iff_eq, decide_eq_true_eq, not_and]
      intro e g
      have h2 := h p (p + 1) (by omega) (by omega) (by omega)
      have s1 := hs p (p + 1) (by omega) (by omega) (by omega)
      simp only [lessS, decide_eq_true_eq] at s1
      have v1 := (hv _ (List.getElem_mem (show p + 1 < U.length by omega))).2
      exact h2 ⟨e, by omega, g⟩
  rw [h1, (upL_perm l).pairwise_iff (fun {x y} h g => h g.symm), vertTo_pair]
  constructor
  · intro h i j hi hj hij vi vj
    rcases Nat.lt_or_ge i j with g | g
    · exact h i j g hj vi vj
    · exact fun o => h j i (by omega) hi vj vi o.symm
  · intro h i j hij hj vi vj
    exact h i j (by omega) hj (by omega) vi vj

end Go.Proofs.YtpdfbboagaflhaaGreat

set_option linter.unusedSimpArgs false
set_option linter.unusedVariables false
namespace Go.Proofs.YtpdfbboagaflhaaGreat
open Go.RowKit

theorem past_iff (l : List S4) (L : List Int) (v y : Int) (i : Nat) : (0 < pastB l L v y i ↔ y * Geo.WW (fwdAt l (L.getD i 0).toNat) < Geo.NN (fwdAt l (L.getD i 0).toNat) (2 * v)) ∧ (pastB l L v y i < 0 ↔ Geo.NN (fwdAt l (L.getD i 0).toNat) (2 * v) < y * Geo.WW (fwdAt l (L.getD i 0).toNat)) := by
  have h := Geo.cmpI_sub (hA l L (2 * v) i * 1) (y * hD l L i)
  have e1 : hA l L (2 * v) i = Geo.NN (fwdAt l (L.getD i 0).toNat) (2 * v) := rfl
  have e2 : hD l L i = Geo.WW (fwdAt l (L.getD i 0).toNat) := rfl
  have e3 : pastB l L v y i = cmpI (hA l L (2 * v) i * 1) (y * hD l L i) := rfl
  rw [e3, ← e1, ← e2]
  omega
section
variable {l : List S4} {C : List SV}
theorem idx_at (L : List Int) {i : Nat} (h : i ∈ natsL L) : ∃ p, p < L.length ∧ (L.getD p 0).toNat = i := by
  obtain ⟨p, hp, e⟩ := List.getElem_of_mem h
  rw [natsL_len] at hp
  refine ⟨p, hp, ?_⟩
  rw [← nat_natsL L p hp]
  unfold nat
  rw [List.getD_eq_getElem?_getD, List.getElem?_eq_getElem (by rw [natsL_len]; exact hp)]
  exact e
theorem at_idx (L : List Int) {p : Nat} (hp : p < L.length) : (L.getD p 0).toNat ∈ natsL L := by
  rw [← nat_natsL L p hp]
  unfold nat
  rw [List.getD_eq_getElem?_getD, List.getElem?_eq_getElem (by rw [natsL_len]; exact hp)]
  exact List.getElem_mem _
/-- a segment that goes on beyond both sides of a vertical one and meets it inside -/
def Thru (l : List S4) (s : S4) : Prop := ∃ j, j < l.length ∧ ((fwdAt l j).1 < s.1 ∧ s.1 < (fwdAt l j).2.2.1) ∧ s.2.1 * Geo.WW (fwdAt l j) < Geo.NN (fwdAt l j) (2 * s.1) ∧ Geo.NN (fwdAt l j) (2 * s.1) < s.2.2.2 * Geo.WW (fwdAt l j)
theorem crs_iff (hok : okSegs l = true) (hS : StripsAre l C) (hR : ∀ j, j < C.length → risB l (sL C j) (sF C j) (sT C j) = true) {s : S4} (hs : ∃ i, i < l.length ∧ (fwdAt l i).1 = s.1) : Crs l C s.1 s.2.1 s.2.2.2 ↔ Thru l s := by
  have ev := ev_of hok
  have hlen := hS.len
  constructor
  · rintro ⟨k, hk, hT, i, hi, h1, h2, h3⟩
    obtain ⟨⟨e1, e2⟩, _⟩ := hS.mt k hk
    obtain ⟨hj, hsp⟩ := (hS.span hk _).1 (at_idx _ hi)
    have hx := xAt_lt (l := l) (show k < k + 1 by omega) (by omega)
    have hf := (free_end l (sL C k) s.1 i).1 h3
    have a1 := (past_iff l (sL C k) s.1 s.2.1 i).1.1 h1
    have a2 := (past_iff l (sL C k) s.1 s.2.2.2 i).2.1 (h2 i (Nat.le_refl _) h1)
    unfold Geo.Span at hsp
    unfold Geo.EndAt at hf
    refine ⟨_, hj, ⟨by omega, by omega⟩, a1, a2⟩
  · rintro ⟨j, hj, ⟨h1, h2⟩, h3, h4⟩
    obtain ⟨i0, hi0, e0⟩ := hs
    obtain ⟨k, hk, ek⟩ := (ev.mem s.1).2 ⟨i0, hi0, .inl e0.symm⟩
    obtain ⟨a, ha, ea⟩ := (ev.mem (fwdAt l j).1).2 ⟨j, hj, .inl rfl⟩
    have hak : a < k := (ev.lt_iff ha hk).1 (by omega)
    have hkC : k - 1 < C.length := by omega
    obtain ⟨⟨e1, e2⟩, _⟩ := hS.mt (k - 1) hkC
    rw [show k - 1 + 1 = k by omega] at e2
    have hsp : j ∈ natsL (sL C (k - 1)) := (hS.span hkC j).2 ⟨hj, by
      unfold Geo.Span
      rw [show k - 1 + 1 = k by omega, ek]
      have := ev.le (show a ≤ k - 1 by omega) (by omega)
      exact ⟨by omega, by omega⟩⟩
    obtain ⟨p, hp, ep⟩ := idx_at _ hsp
    refine ⟨k - 1, hkC, by rw [e2, ek], p, hp, ?_, ?_, ?_⟩
    · rw [(past_iff l (sL C (k - 1)) s.1 s.2.1 p).1, ep]; exact h3
    · intro q hq hpast
      rw [(past_iff l (sL C (k - 1)) s.1 s.2.2.2 q).2]
      have hrise := rise_of (hR (k - 1) hkC)
      have hpos := fun i hi => hS.pos hok hkC (i := i) hi
      rcases Nat.lt_or_ge q p with g | g
      · have ho := (order_run (l := l) (L := sL C (k - 1)) (x := s.1) (fun p' hp' => by
            have := (hrise p' (by rw [natsL_len]; exact hp')).2.1
            rw [natsL_getD _ (by omega), natsL_getD _ hp', e2, ek] at this
            exact this) (fun p' hp' => hpos p' hp') g hp).1
        rw [ep] at ho
        have w1 := hpos q (by omega)
        have w2 := hpos p hp
        have ew1 : hD l (sL C (k - 1)) q = Geo.WW (fwdAt l ((sL C (k - 1)).getD q 0).toNat) := rfl
        have ew2 : hD l (sL C (k - 1)) p = Geo.WW (fwdAt l ((sL C (k - 1)).getD p 0).toNat) := rfl
        rw [ew1] at w1
        rw [ew2, ep] at w2
        unfold Geo.DD at ho
        have := (fr_trans (a := Geo.NN (fwdAt l ((sL C (k - 1)).getD q 0).toNat) (2 * s.1)) (b := Geo.WW (fwdAt l ((sL C (k - 1)).getD q 0).toNat)) (c := Geo.NN (fwdAt l j) (2 * s.1)) (d := Geo.WW (fwdAt l j)) (e := s.2.2.2) (f := 1) w1 w2 (by omega) (by omega) (by omega)).2 (.inr (by omega))
        omega
      · obtain rfl : q = p := by omega
        rw [ep]; exact h4
    · rw [free_end, ep]
      unfold Geo.EndAt
      omega
end
theorem okSeg_fwd {l : List S4} (hok : okSegs l = true) {i : Nat} (hi : i < l.length) : okSeg (fwdAt l i) = true := by
  have h := okSegs_at l i hi hok
  obtain ⟨h1, h2, h3⟩ := okS_iff.1 h
  unfold okSeg fwdAt
  rcases fwd_cases (q1 l i) (q2 l i) (q3 l i) (q4 l i) with ⟨_, e⟩ | ⟨_, e⟩
  · rw [e]; exact okS_iff.2 ⟨h2, h1, fun hh => h3 ⟨hh.1.symm, hh.2.symm⟩⟩
  · rw [e]; exact h
theorem ck_ok {l : List S4} (h : ckSegs l = 0) : okSegs l = true := by
  unfold ckSegs at h
  split at h
  · cases h
  · split at h
    · rename_i g1 g2; exact g2
    · cases h
/-- strips that are accepted show that nothing crosses -/
theorem chk_nobad {l : List S4} {C : List SV} (h : ChkOk l C) : Geo.NoBad l.length (fwdAt l) := by
  have hok := ck_ok h.segs
  have ev := ev_of hok
  have hlen := h.are.len
  have hR := fun j hj => (h.each j hj).1.1
  refine Geo.no_bad ev (fun i hi => okSeg_fwd hok hi) (st := fun k => natsL (sL C k)) (fun k hk => ?_) ?_
  · have hkC : k < C.length := by omega
    obtain ⟨⟨r, c1⟩, c2⟩ := h.each k hkC
    obtain ⟨⟨e1, e2⟩, _⟩ := h.are.mt k hkC
    have hr := rise_of r
    rw [e1, e2] at hr
    rw [e1] at c1
    rw [e2] at c2
    have hpos := fun p hp => h.are.pos hok hkC (i := p) hp
    refine ⟨h.are.nodup hkC, h.are.span hkC, hr, ?_, ?_⟩
    · refine (crow_lone (fun p hp => ?_) hpos (h.are.nodup hkC)).1 c1
      have := (hr p (by rw [natsL_len]; exact hp)).1
      rwa [natsL_getD _ (by omega), natsL_getD _ hp] at this
    · refine (crow_lone (fun p hp => ?_) hpos (h.are.nodup hkC)).1 c2
      have := (hr p (by rw [natsL_len]; exact hp)).2.1
      rwa [natsL_getD _ (by omega), natsL_getD _ hp] at this
  · intro i hi vi j hj hji
    constructor
    · rintro ⟨vj, e, g1, g2⟩
      exact (over_iff hok).1 h.over i j hi hj (Ne.symm hji) vi vj ⟨e, g1, g2⟩
    · rintro ⟨g1, g2, g3⟩
      have hm : fwdAt l i ∈ upL l := (upL_perm l).mem_iff.2 (vertTo_mem.2 ⟨i, hi, vi, rfl⟩)
      obtain ⟨u, hu, eu⟩ := List.getElem_of_mem hm
      refine h.vert u hu ?_
      have eq1 : q1 (upL l) u = (fwdAt l i).1 ∧ q2 (upL l) u = (fwdAt l i).2.1 ∧ q4 (upL l) u = (fwdAt l i).2.2.2 := by
        simp [q1, q2, q4, List.getD_eq_getElem?_getD, hu, eu]
      rw [eq1.1, eq1.2.1, eq1.2.2]
      exact (crs_iff hok h.are hR ⟨i, hi, rfl⟩).2 ⟨j, hj, g1, g2, g3⟩
/-- strips by the heights in their middles are accepted where nothing crosses -/
theorem nobad_chk {l : List S4} {C : List SV} (hck : ckSegs l = 0) (hS : StripsAre l C) (hb : Geo.NoBad l.length (fwdAt l))
    (hm : ∀ k, k < C.length → ∀ p, p + 1 < (sL C k).length → cmA l (sL C k) (xAt l k + xAt l (k + 1)) p (p + 1) ≤ 0) : ChkOk l C := by
  have hok := ck_ok hck
  have ev := ev_of hok
  have hlen := hS.len
  have hstrip : ∀ k, k < C.length → Geo.StripOk l.length (fwdAt l) (xAt l) k (natsL (sL C k)) := fun k hk => by
    refine Geo.strip_of ev hb (by omega) (hS.nodup hk) (hS.span hk) (fun p hp => ?_)
    rw [natsL_len] at hp
    rw [natsL_getD _ (by omega), natsL_getD _ hp]
    have := (cmA_DD l (sL C k) (xAt l k + xAt l (k + 1)) p (p + 1)).2.1
    have := hm k hk p hp
    omega
  have hvert := Geo.vert_of ev hb
  have heach : ∀ j, j < C.length → stripB l C j := fun j hj => by
    have st := hstrip j hj
    obtain ⟨⟨e1, e2⟩, _⟩ := hS.mt j hj
    have hpos := fun p hp => hS.pos hok hj (i := p) hp
    unfold stripB
    rw [e1, e2]
    refine ⟨⟨ris_of st.rise, ?_⟩, ?_⟩
    · refine (crow_lone (fun p hp => ?_) hpos (hS.nodup hj)).2 st.low
      have := (st.rise p (by rw [natsL_len]; exact hp)).1
      rwa [natsL_getD _ (by omega), natsL_getD _ hp] at this
    · refine (crow_lone (fun p hp => ?_) hpos (hS.nodup hj)).2 st.high
      have := (st.rise p (by rw [natsL_len]; exact hp)).2.1
      rwa [natsL_getD _ (by omega), natsL_getD _ hp] at this
  refine ⟨hck, hS, heach, ?_, ?_⟩
  · refine (over_iff hok).2 (fun i j hi hj hij vi vj o => ?_)
    exact (hvert i hi vi j hj (Ne.symm hij)).1 ⟨vj, o.1, o.2.1, o.2.2⟩
  · intro u hu hc
    have hmem := upL_at hu
    obtain ⟨i, hi, vi, ei⟩ := vertTo_mem.1 ((upL_perm l).mem_iff.1 hmem)
    have e0 : q1 (upL l) u = (fwdAt l i).1 ∧ q2 (upL l) u = (fwdAt l i).2.1 ∧ q4 (upL l) u = (fwdAt l i).2.2.2 := by
      unfold q1 q2 q4; rw [ei]; exact ⟨rfl, rfl, rfl⟩
    rw [e0.1, e0.2.1, e0.2.2] at hc
    obtain ⟨j, hj, g1, g2, g3⟩ := (crs_iff hok hS (fun j hj => (heach j hj).1.1) ⟨i, hi, rfl⟩).1 hc
    have hji : j ≠ i := by
      rintro rfl
      omega
    exact (hvert i hi vi j hj hji).2 ⟨g1, g2, g3⟩

end Go.Proofs.YtpdfbboagaflhaaGreat

set_option linter.unusedSimpArgs false
set_option linter.unusedVariables false
namespace Go.Proofs.YtpdfbboagaflhaaGreat
open Go.RowKit

theorem nobad_iff {l : List S4} (hok : okSegs l = true) : Geo.NoBad l.length (fwdAt l) ↔ RowsFree l l.length l.length := by
  have hm : ∀ i j, i < l.length → j < l.length → Geo.meet4 (fwdAt l i) (fwdAt l j) = meetQ l i j := fun i j hi hj => meetI_f (okSegs_at l i hi hok) (okSegs_at l j hj hok)
  have hc : ∀ i j, i < l.length → j < l.length → meetQ l j i = meetQ l i j := fun i j hi hj => meetI_comm (okSegs_at l i hi hok) (okSegs_at l j hj hok)
  constructor
  · intro h i hi j hij hj
    have := h i j hi hj (by omega)
    unfold Geo.Ap at this
    rw [hm i j hi hj] at this
    unfold crB
    simpa using this
  · intro h i j hi hj hij
    unfold Geo.Ap
    rw [hm i j hi hj]
    rcases Nat.lt_or_ge i j with g | g
    · have := h i hi j g hj
      unfold crB at this
      simpa using this
    · have := h j hj i (by omega) hi
      unfold crB at this
      rw [← hc i j hi hj]
      simpa using this
/-- the strips that Sweep makes -/
def sweptC (l : List S4) : List SV := (List.range ((endXsL l).length - 1)).map fun k => (xAt l k, xAt l (k + 1), segsQ l k)
theorem sweptC_len (l : List S4) : (sweptC l).length = (endXsL l).length - 1 := by simp [sweptC]
theorem sweptC_at (l : List S4) {k : Nat} (h : k < (endXsL l).length - 1) : (sF (sweptC l) k = xAt l k ∧ sT (sweptC l) k = xAt l (k + 1)) ∧ sL (sweptC l) k = segsQ l k := by
  simp [sF, sT, sL, sweptC, List.getD_eq_getElem?_getD, h]
theorem pileL_at (l : List S4) (k : Nat) {h : H3} (hh : h ∈ pileL l k) : ∃ i : Nat, ((i : Int) ∈ spanI l k) ∧ h = (hgtN l (xAt l k + xAt l (k + 1)) i, hgtW l i, (i : Int)) := by
  obtain ⟨p, hp, e⟩ := List.getElem_of_mem hh
  rw [pileL_length] at hp
  have h1 := heightsTo_at l (spanN l k) (xAt l k + xAt l (k + 1)) (spanI l k).length p hp
  have h2 : (pileL l k).getD p (0, 0, 0) = h := by rw [List.getD_eq_getElem?_getD, List.getElem?_eq_getElem (by rw [pileL_length]; exact hp)]; exact e
  unfold pileL at h2
  rw [h1] at h2
  refine ⟨nat (spanN l k) p, ?_, h2.symm⟩
  rw [(spanN_at l k p hp).1, List.getD_eq_getElem?_getD, List.getElem?_eq_getElem hp]
  exact List.getElem_mem hp
theorem pileL_third (l : List S4) (k : Nat) : (pileL l k).map (fun h => h.2.2) = spanI l k := by
  apply List.ext_getElem
  · rw [List.length_map, pileL_length]
  · intro p h1 h2
    have hp : p < (spanI l k).length := h2
    have h3 := heightsTo_at l (spanN l k) (xAt l k + xAt l (k + 1)) (spanI l k).length p hp
    have h4 : (pileL l k).getD p (0, 0, 0) = (pileL l k)[p]'(by rw [pileL_length]; exact hp) := by rw [List.getD_eq_getElem?_getD, List.getElem?_eq_getElem (by rw [pileL_length]; exact hp)]; rfl
    unfold pileL at h4
    rw [h3] at h4
    rw [List.getElem_map]
    have h5 := congrArg (fun h : H3 => h.2.2) h4
    simp only at h5
    unfold pileL
    rw [← h5, (spanN_at l k p hp).1, List.getD_eq_getElem?_getD, List.getElem?_eq_getElem hp]
    rfl
theorem sortQ_perm (L : List H3) : (sortQ L).Perm L := List.mergeSort_perm _ _
theorem segsQ_perm (l : List S4) (k : Nat) : (segsQ l k).Perm (spanI l k) := by
  have := (sortQ_perm (pileL l k)).map (fun h : H3 => h.2.2)
  rw [pileL_third] at this
  exact this
theorem spanI_mem {l : List S4} {k i : Nat} : (i : Int) ∈ spanI l k ↔ i < l.length ∧ spanAt l (xAt l k) (xAt l (k + 1)) i = true := by
  unfold spanI
  rw [spanTo_span]
  constructor
  · rintro ⟨j, e, h1, h2⟩
    obtain rfl : i = j := by omega
    exact ⟨h1, h2⟩
  · rintro ⟨h1, h2⟩; exact ⟨i, rfl, h1, h2⟩
theorem sorted_eq {l : List Int} (h : l.Pairwise (· < ·)) {s : List Int} (hp : s.Perm l) : sortI s = l := by
  have h1 := sortI_le s
  have h2 : (sortI s).Perm l := (List.mergeSort_perm s _).trans hp
  exact h2.eq_of_pairwise (fun a b _ _ (x : a ≤ b) (y : b ≤ a) => by omega) h1 (h.imp (fun g => by omega))
theorem swept_are (l : List S4) : StripsAre l (sweptC l) where
  len := sweptC_len l
  mt j hj := by
    rw [sweptC_len] at hj
    obtain ⟨⟨e1, e2⟩, e3⟩ := sweptC_at l hj
    refine ⟨⟨e1, e2⟩, ?_⟩
    rw [e3]
    exact sorted_eq (spanTo_up l _ _ _).1 (segsQ_perm l j)
end Go.Proofs.YtpdfbboagaflhaaGreat

set_option linter.unusedSimpArgs false
set_option linter.unusedVariables false
namespace Go.Proofs.YtpdfbboagaflhaaGreat
open Go.RowKit

theorem xAt_bd' {l : List S4} (hok : okSegs l = true) (k : Nat) : 0 ≤ xAt l k ∧ xAt l k ≤ 10000 := by
  rcases Nat.lt_or_ge k (endXsL l).length with g | g
  · exact xAt_bd hok g
  · unfold xAt; rw [List.getD_eq_getElem?_getD, List.getElem?_eq_none g]; decide
theorem pile_of {l : List S4} (hok : okSegs l = true) (hb : Geo.NoBad l.length (fwdAt l)) {k : Nat} (hk : k + 1 < (endXsL l).length) : Pile (pileL l k) := by
  have ev := ev_of hok
  have hup := xAt_lt (l := l) (show k < k + 1 by omega) hk
  have b1 := xAt_bd' hok k
  have b2 := xAt_bd' hok (k + 1)
  have hel : ∀ h ∈ pileL l k, ∃ i : Nat, i < l.length ∧ ((fwdAt l i).1 ≤ xAt l k ∧ xAt l (k + 1) ≤ (fwdAt l i).2.2.1) ∧ h = (hgtN l (xAt l k + xAt l (k + 1)) i, hgtW l i, (i : Int)) := fun h hh => by
    obtain ⟨i, hi, e⟩ := pileL_at l k hh
    obtain ⟨h1, h2⟩ := spanI_mem.1 hi
    exact ⟨i, h1, span_iff.1 h2, e⟩
  refine ⟨fun h hh => ?_, fun h hh => ?_, fun h hh g hg e => ?_⟩
  · obtain ⟨i, hi, _, rfl⟩ := hel h hh
    obtain ⟨⟨o1, o2⟩, ⟨o3, o4⟩, _⟩ := okS_iff.1 (okSegs_at l i hi hok)
    have := h_bd (q1 l i) (q2 l i) (q3 l i) (q4 l i) (xAt l k + xAt l (k + 1)) o1 o2 o3 o4 (by omega)
    exact ⟨this.2, this.1⟩
  · obtain ⟨i, hi, hs, rfl⟩ := hel h hh
    have e2 : hgtW l i = 2 * ((fwdAt l i).2.2.1 - (fwdAt l i).1) := rfl
    simp only
    rw [e2]; omega
  · obtain ⟨i, hi, hs, rfl⟩ := hel h hh
    obtain ⟨j, hj, ht, rfl⟩ := hel g hg
    by_cases hij : i = j
    · subst hij; rfl
    · exfalso
      have := Geo.ap_ne (X := xAt l k + xAt l (k + 1)) (ev.ok i hi).1 (ev.ok j hj).1 (by omega) (by omega) (hb i j hi hj hij) (by omega) (by omega) (by omega) (by omega)
      refine this ?_
      have e1 : Geo.DD (fwdAt l i) (fwdAt l j) (xAt l k + xAt l (k + 1)) = hgtN l (xAt l k + xAt l (k + 1)) i * hgtW l j - hgtN l (xAt l k + xAt l (k + 1)) j * hgtW l i := rfl
      rw [e1]
      simp only at e
      omega
theorem pileQ_at {l : List S4} {k p : Nat} (hp : p < (segsQ l k).length) : (pileQ l k).getD p (0, 0, 0) = (hgtN l (xAt l k + xAt l (k + 1)) ((segsQ l k).getD p 0).toNat, hgtW l ((segsQ l k).getD p 0).toNat, (segsQ l k).getD p 0) := by
  have hl : p < (pileQ l k).length := by rw [pileQ_length]; rw [segsQ_length] at hp; exact hp
  have h1 : (pileQ l k)[p] ∈ pileL l k := (sortQ_perm (pileL l k)).mem_iff.1 (List.getElem_mem hl)
  obtain ⟨i, _, e⟩ := pileL_at l k h1
  have h2 : (segsQ l k).getD p 0 = ((pileQ l k)[p]).2.2 := by
    unfold segsQ
    rw [List.getD_eq_getElem?_getD, List.getElem?_map, List.getElem?_eq_getElem hl]; rfl
  rw [h2, List.getD_eq_getElem?_getD, List.getElem?_eq_getElem hl, e]
  simp
theorem mid_order {l : List S4} {k : Nat} (hP : Pile (pileL l k)) {p : Nat} (hp : p + 1 < (segsQ l k).length) : cmA l (segsQ l k) (xAt l k + xAt l (k + 1)) p (p + 1) ≤ 0 := by
  have hl : (pileQ l k).length = (segsQ l k).length := by rw [pileQ_length, segsQ_length]
  have hs : (sortQ (pileL l k)).Pairwise fun x y => ¬ ltQ y x = true := by
    have hp2 : (pileL l k).attach.map Subtype.val = pileL l k := List.attach_map_subtype_val _
    have := List.pairwise_mergeSort (le := fun (x y : PB (pileL l k)) => !ltQ y.1 x.1) (fun a b c h1 h2 => by
      simp only [ltQ, Bool.not_eq_true', decide_eq_false_iff_not] at *
      have := (fr_trans (hP.pos _ a.2) (hP.pos _ b.2) (hP.pos _ c.2) (show a.1.1 * b.1.2.1 ≤ b.1.1 * a.1.2.1 by omega) (show b.1.1 * c.1.2.1 ≤ c.1.1 * b.1.2.1 by omega)).1
      omega) (fun a b => by
      simp only [ltQ, Bool.or_eq_true, Bool.not_eq_true', decide_eq_false_iff_not]; omega) (pileL l k).attach
    have h2 : ((pileL l k).attach.mergeSort fun x y => !ltQ y.1 x.1).map Subtype.val = sortQ (pileL l k) := by
      unfold sortQ
      rw [List.map_mergeSort (s := fun x y => !ltQ y x) (fun a _ b _ => rfl), hp2]
    rw [← h2]
    refine List.pairwise_map.2 (this.imp fun {a b} h => ?_)
    simpa using h
  have h1 := List.pairwise_iff_getElem.1 hs p (p + 1) (by show p < (pileQ l k).length; omega) (by show p + 1 < (pileQ l k).length; omega) (by omega)
  have a1 := pileQ_at (l := l) (k := k) (p := p) (by omega)
  have a2 := pileQ_at (l := l) (k := k) (p := p + 1) hp
  have g1 : (pileQ l k).getD p (0, 0, 0) = (sortQ (pileL l k))[p]'(by show p < (pileQ l k).length; omega) := by rw [List.getD_eq_getElem?_getD, List.getElem?_eq_getElem (by omega)]; rfl
  have g2 : (pileQ l k).getD (p + 1) (0, 0, 0) = (sortQ (pileL l k))[p + 1]'(by show p + 1 < (pileQ l k).length; omega) := by rw [List.getD_eq_getElem?_getD, List.getElem?_eq_getElem (by omega)]; rfl
  rw [← g1, ← g2, a1, a2] at h1
  simp only [ltQ, decide_eq_true_eq] at h1
  have e : cmA l (segsQ l k) (xAt l k + xAt l (k + 1)) p (p + 1) = cmpI (hgtN l (xAt l k + xAt l (k + 1)) ((segsQ l k).getD p 0).toNat * hgtW l ((segsQ l k).getD (p + 1) 0).toNat) (hgtN l (xAt l k + xAt l (k + 1)) ((segsQ l k).getD (p + 1) 0).toNat * hgtW l ((segsQ l k).getD p 0).toNat) := rfl
  have := (Geo.cmpI_sub (hgtN l (xAt l k + xAt l (k + 1)) ((segsQ l k).getD p 0).toNat * hgtW l ((segsQ l k).getD (p + 1) 0).toNat) (hgtN l (xAt l k + xAt l (k + 1)) ((segsQ l k).getD (p + 1) 0).toNat * hgtW l ((segsQ l k).getD p 0).toNat)).2.1
  rw [e]
  omega
theorem swept_chk {l : List S4} (hck : ckSegs l = 0) (hb : Geo.NoBad l.length (fwdAt l)) : ChkOk l (sweptC l) := by
  have hok := ck_ok hck
  refine nobad_chk hck (swept_are l) hb (fun k hk p hp => ?_)
  rw [sweptC_len] at hk
  obtain ⟨_, e3⟩ := sweptC_at l hk
  rw [e3] at hp ⊢
  exact mid_order (pile_of hok hb (by omega)) hp
theorem stripCells_at (l : List S4) (vs : List Value) : ∀ (M j : Nat), j < M → (stripCells l vs M)[j * 3]? = some (.int .i64 (xAt l j)) ∧ (stripCells l vs M)[j * 3 + 1]? = some (.int .i64 (xAt l (j + 1))) ∧ (stripCells l vs M)[j * 3 + 2]? = some (vs.getD j undef)
  | 0, j, h => by omega
  | M + 1, j, h => by
    have hlen : ∀ M, (stripCells l vs M).length = M * 3 := fun M => by
      induction M with
      | zero => rfl
      | succ M ih => simp only [stripCells, List.length_append, ih]; simp; omega
    simp only [stripCells]
    rcases Nat.lt_or_ge j M with g | g
    · obtain ⟨a, b, c⟩ := stripCells_at l vs M j g
      rw [List.getElem?_append_left (by rw [hlen]; omega), List.getElem?_append_left (by rw [hlen]; omega), List.getElem?_append_left (by rw [hlen]; omega)]
      exact ⟨a, b, c⟩
    · obtain rfl : j = M := by omega
      rw [List.getElem?_append_right (by rw [hlen]; omega), List.getElem?_append_right (by rw [hlen]; omega), List.getElem?_append_right (by rw [hlen]; omega), hlen]
      rw [show j * 3 - j * 3 = 0 by omega, show j * 3 + 1 - j * 3 = 1 by omega, show j * 3 + 2 - j * 3 = 2 by omega]
      exact ⟨rfl, rfl, rfl⟩
/-- what Sweep lays is a slice of its strips -/
theorem swept_strps {l : List S4} {w : World} {base c : Nat} {a : Option Addr} {vs : List Value} (ho : w.ownsRow base 84 3 (.slice a ((endXsL l).length - 1) c) ((endXsL l).length - 1) (stripCells l vs ((endXsL l).length - 1)))
    (hv : ∀ j, j < (endXsL l).length - 1 → w.ownsRow base 3 1 (vs.getD j undef) (segsQ l j).length (inCells (segsQ l j))) (h0 : 0 < (endXsL l).length - 1) : ∃ cb co, a = some ⟨cb, co, none⟩ ∧ Strps w cb co ((endXsL l).length - 1) (sweptC l) := by
  obtain ⟨g, cap, hg0, hg1, hg2⟩ := ho.form h0
  obtain ⟨rfl, rfl⟩ : a = some ⟨g, 0, none⟩ ∧ c = cap := by cases hg0; exact ⟨rfl, rfl⟩
  refine ⟨g, 0, rfl, sweptC_len l, hg2, fun i hi => ?_⟩
  obtain ⟨c1, c2, c3⟩ := stripCells_at l vs _ i hi
  obtain ⟨⟨e1, e2⟩, e3⟩ := sweptC_at l hi
  rw [e1, e2, e3, Nat.zero_add]
  exact ⟨vs.getD i undef, ⟨(own_cell ho c1).1, (own_cell ho c2).1⟩, (own_cell ho c3).1, intsA_row (hv i hi)⟩

end Go.Proofs.YtpdfbboagaflhaaGreat

set_option linter.unusedSimpArgs false
set_option linter.unusedVariables false
set_option linter.constructorNameAsVariable false
set_option maxRecDepth 100000
namespace Go.Proofs.YtpdfbboagaflhaaGreat
open Go.ChangeShapes Go.WideShapes Go.ChangeAt Go.RowKit Go.Joins Go.Deep

section
variable {H : Type} {enc : TypeId × Value → H} {W : World} {base b0 fuel : Nat} {spare : Nat → Bool} {held : Bool} {v : Value} {d : DataW H} {p : List MemPlace}
theorem weights_all {P : Program} {e : TypeId} : ∀ {l : List (DataW H)} {i : Nat} {d : DataW H}, l[i]? = some d → ∀ n ∈ d.weights P e, n ∈ DataW.weightsAll P e l
  | d0 :: r, 0, d, hd, n, hn => by
    simp only [List.getElem?_cons_zero, Option.some.injEq] at hd
    subst hd
    simp only [DataW.weightsAll, List.mem_append]
    exact Or.inl hn
  | d0 :: r, i + 1, d, hd, n, hn => by
    simp only [List.getElem?_cons_succ] at hd
    simp only [DataW.weightsAll, List.mem_append]
    exact Or.inr (weights_all hd n hn)
  | [], _, _, hd, _, _ => by simp at hd
theorem bytes_3 : Tryz.prog.bytesOf 3 = 8 := by kernel_rfl
theorem bytes_84 : Tryz.prog.bytesOf 84 = 40 := by kernel_rfl
theorem cells_82 : Tryz.prog.cellsOf 82 = 1 := by kernel_rfl
theorem cells_84 : Tryz.prog.cellsOf 84 = 3 := by kernel_rfl
theorem list_3 {cs : List Value} (h : cs.length = 3) : ∃ a b c, cs = [a, b, c] := by
  match cs, h with
  | [a, b, c], _ => exact ⟨a, b, c, rfl⟩
theorem ints_trod {x : DataW H × List MemPlace} (h : DataW.trod enc Tryz.prog W base spare held fuel 82 [v] = some x) :
    ∃ L : List Int, IntsA W v L ∧ ((∀ k ∈ x.1.weights Tryz.prog 82, k ≤ reachBytes) → L.length ≤ 17592186044415) := by
  rcases open_slice1 Tryz.underlying82 cells_3 h with ⟨hcs, _⟩ | ⟨a, len, cap, m, n, V, D, Pl, hcs, _, hlc, _, hm, hx, hi⟩
  · simp only [List.cons.injEq, and_true] at hcs
    subst hcs
    exact ⟨[], ⟨none, 0, rfl, fun h => absurd h (by simp)⟩, fun _ => by simp⟩
  · simp only [List.cons.injEq, and_true] at hcs
    subst hcs
    have hnm : len ≤ m := by rw [hm]; split <;> omega
    have hV : ∀ i, i < len → ∃ q : Int, V i = .int .i64 q := fun i hi' => by
      obtain ⟨_, ht⟩ := hi i (by omega)
      obtain ⟨q, e, _⟩ := DataW.trod_int Tryz.underlying3 ht
      simp only [List.cons.injEq, and_true] at e
      exact ⟨q, e⟩
    obtain ⟨q, hq⟩ := choose_lt hV
    refine ⟨(List.range len).map q, ⟨some a, cap, by simp, fun h0 => ?_⟩, fun hz => ?_⟩
    · simp only [List.length_map, List.length_range] at h0
      obtain ⟨b, off, spot⟩ := a
      have hspot : spot = none := by simpa [Addr.add] using World.cell?_spot (hi 0 (by omega)).1
      subst hspot
      have hcell : ∀ i, i < len → W.cell? ⟨b, off + i, none⟩ = some (.int .i64 (q i)) := fun i hi' => by
        have := (hi i (by omega)).1
        rw [hq i hi'] at this
        rwa [add_plain] at this
      refine ⟨b, off, rfl, rfl, cell_lt (hcell 0 h0), fun i hi' => ?_⟩
      simp only [List.length_map, List.length_range] at hi'
      rw [show ((List.range len).map q).getD i 0 = q i by simp [List.getD_eq_getElem?_getD, hi']]
      exact hcell i hi'
    · have := hz ((len + (m - len)) * Tryz.prog.bytesOf 3) (by rw [hx]; simp [DataW.weights, Tryz.underlying82])
      rw [bytes_3] at this
      unfold reachBytes at this
      simp only [List.length_map, List.length_range]
      omega
theorem strip_trod {cs : List Value} {x : DataW H × List MemPlace} (h : DataW.trod enc Tryz.prog W base spare held fuel 84 cs = some x) :
    ∃ q : SV, (∃ v, cs = [.int .i64 q.1, .int .i64 q.2.1, v] ∧ IntsA W v q.2.2) ∧ ((∀ k ∈ x.1.weights Tryz.prog 84, k ≤ reachBytes) → q.2.2.length ≤ 17592186044415) := by
  obtain ⟨y0, y1, y2, n, hx, hl, h0, h1, h2⟩ := trod_struct3 Tryz.underlying84 h
  rw [cells_84] at hl
  obtain ⟨c0, c1, c2, rfl⟩ := list_3 hl
  simp only [cells_3, cells_82, List.drop, List.take] at h0 h1 h2
  obtain ⟨a, e0, _⟩ := DataW.trod_int Tryz.underlying3 h0
  obtain ⟨b, e1, _⟩ := DataW.trod_int Tryz.underlying3 h1
  simp only [List.cons.injEq, and_true] at e0 e1
  subst e0; subst e1
  obtain ⟨L, hL, hb⟩ := ints_trod h2
  refine ⟨(a, b, L), ⟨c2, rfl, hL⟩, fun hz => hb fun k hk => hz k ?_⟩
  rw [hx]
  simp only [DataW.weights, Tryz.underlying84, DataW.weightsEach, List.map, List.mem_append]
  exact Or.inr (Or.inr (Or.inl hk))
theorem open_strips (hv : Value.okWide Tryz.prog W .any b0 65 v) (h : DataW.Trod enc Tryz.prog W base spare held 65 v d p) (hz : ∀ k ∈ d.weights Tryz.prog 65, k ≤ reachBytes) :
    ∃ cv N cc C, v = .slice cv N cc ∧ C.length = N ∧ (0 < N → ∃ cb co, cv = some ⟨cb, co, none⟩ ∧ Strps W cb co N C) ∧ N ≤ 17592186044415 ∧ ∀ i, i < N → (sL C i).length ≤ 17592186044415 := by
  obtain ⟨av, n, cap, rfl⟩ := okWide_slice Tryz.underlying65 hv
  obtain ⟨fuel, hf⟩ := h
  rcases open_slice Tryz.underlying65 hf with ⟨hcs, _⟩ | ⟨a, len, cap', m, n', D, Pl, hcs, _, hlc, _, hm, hx, hi⟩
  · simp only [Value.cells, List.cons.injEq, Value.slice.injEq, and_true] at hcs
    obtain ⟨rfl, rfl, rfl⟩ := hcs
    exact ⟨none, 0, 0, [], rfl, rfl, fun h => absurd h (by omega), by omega, fun i hi => absurd hi (by omega)⟩
  · simp only [Value.cells, List.cons.injEq, Value.slice.injEq, and_true] at hcs
    obtain ⟨rfl, rfl, rfl⟩ := hcs
    have hnm : n ≤ m := by rw [hm]; split <;> omega
    have hd : d = .slice ((List.range n).map D) ((List.range (m - n)).map fun j => D (n + j)) := congrArg Prod.fst hx
    have hN : n ≤ 17592186044415 := by
      have := hz ((n + (m - n)) * Tryz.prog.bytesOf 84) (by rw [hd]; simp [DataW.weights, Tryz.underlying65])
      rw [bytes_84] at this
      unfold reachBytes at this
      omega
    have hel : ∀ i, i < n → ∀ k ∈ (D i).weights Tryz.prog 84, k ≤ reachBytes := fun i hi' k hk => hz k (by
      rw [hd]
      simp only [DataW.weights, Tryz.underlying65, List.mem_cons, List.mem_append]
      exact Or.inr (Or.inl (weights_all (i := i) (d := D i) (by simp [hi']) k hk)))
    have hx : ∀ i, i < n → ∃ q : SV, (∃ v, (W.cell? (a.add (i * 3)) = some (.int .i64 q.1) ∧ W.cell? (a.add (i * 3 + 1)) = some (.int .i64 q.2.1)) ∧ W.cell? (a.add (i * 3 + 2)) = some v ∧ IntsA W v q.2.2) ∧ q.2.2.length ≤ 17592186044415 := fun i hi' => by
      obtain ⟨cs', hc, ht⟩ := hi i (by omega)
      rw [cells_84] at hc
      obtain ⟨q, ⟨v, rfl, hL⟩, hb⟩ := strip_trod ht
      obtain ⟨_, _, hat⟩ := World.cells?_some hc
      have g0 := hat 0 (by omega)
      have g1 := hat 1 (by omega)
      have g2 := hat 2 (by omega)
      rw [add_add] at g0 g1 g2
      exact ⟨q, ⟨v, ⟨by simpa using g0, by simpa using g1⟩, by simpa using g2, hL⟩, hb (hel i hi')⟩
    obtain ⟨q, hq⟩ := choose_lt hx
    have e1 : ∀ i, i < n → ((List.range n).map q).getD i (0, 0, []) = q i := fun i hi' => by simp [List.getD_eq_getElem?_getD, hi']
    refine ⟨some a, n, cap, (List.range n).map q, rfl, by simp, fun h0 => ?_, hN, fun i hi' => ?_⟩
    · obtain ⟨b, off, spot⟩ := a
      obtain ⟨⟨v0, ⟨k0, _⟩, _⟩, _⟩ := hq 0 h0
      have hspot : spot = none := by simpa [Addr.add] using World.cell?_spot k0
      subst hspot
      rw [add_plain] at k0
      refine ⟨b, off, rfl, by simp, cell_lt k0, fun i hi' => ?_⟩
      obtain ⟨⟨v, ⟨k0, k1⟩, k2, k3⟩, _⟩ := hq i hi'
      rw [add_plain] at k0 k1 k2
      refine ⟨v, ⟨?_, ?_⟩, k2, ?_⟩
      · simp only [sF, e1 i hi']; exact k0
      · simp only [sT, e1 i hi']; exact k1
      · simp only [sL, e1 i hi']; exact k3
    · simp only [sL, e1 i hi']; exact (hq i hi').2
end
end Go.Proofs.YtpdfbboagaflhaaGreat

set_option linter.unusedSimpArgs false
set_option linter.unusedVariables false
set_option maxRecDepth 100000
namespace Go.Proofs.YtpdfbboagaflhaaGreat
open Go.RowKit

set_option maxHeartbeats 2000000 in
theorem ref_span (a b c d : Int) (w : World) : Calls Tryz.prog 101 #[sv a b c d] w fun en w' => en = .returned (.tuple #[.int .i64 (f1 a b c d), .int .i64 (f3 a b c d)]) ∧ New w w' := by
  obtain ⟨e1, e2⟩ := f_minmax a b c d
  have h1 : min a c = f1 a b c d := e1.symm
  have h2 : max a c = f3 a b c d := e2.symm
  clear e1 e2
  generalize f1 a b c d = L at *
  generalize f3 a b c d = M at *
  go_enter Tryz.func101, Tryz.ntmps101
  go_wp2_with fail
  go_region
  all_goals (go_wp2_with fail)
  all_goals (refine bodyPost_ret (v := .tuple #[.int .i64 L, .int .i64 M]) (by simp [results, Tryz.results101, go_sem, *]; all_goals omega) rfl ⟨rfl, ?_⟩; (repeat (first | exact New.refl _ | apply New.alloc | apply New.aft | apply New.drew | refine New.setCell ?_ ?_ _)); all_goals (first | done | (simp [size_aft]; done) | (simp [size_aft]; omega)))

set_option maxHeartbeats 4000000 in
theorem ref_compare (n1 d1 n2 d2 : Int) (w : World) (h1 : -600000000 ≤ n1 ∧ n1 ≤ 600000000) (h2 : -20000 ≤ d1 ∧ d1 ≤ 20000) (h3 : -600000000 ≤ n2 ∧ n2 ≤ 600000000) (h4 : -20000 ≤ d2 ∧ d2 ≤ 20000) :
    Calls Tryz.prog 102 #[pv n1 d1, pv n2 d2] w fun e w' => e = .returned (.int .i64 (cmpR n1 d1 n2 d2)) ∧ New w w' := by
  have m1 := mul_bd n1 d2 600000000 20000 (by omega) (by omega) (by omega) (by omega)
  have m2 := mul_bd n2 d1 600000000 20000 (by omega) (by omega) (by omega) (by omega)
  simp only [Int.reduceMul, Int.reduceNeg] at m1 m2
  have HS := Lib.hid (ref_sign (n1 * d2 - n2 * d1))
  rw [cmpI_sub, show cmpI (n1 * d2) (n2 * d1) = cmpR n1 d1 n2 d2 from rfl] at HS
  generalize cmpR n1 d1 n2 d2 = C at *
  go_enter Tryz.func102, Tryz.ntmps102
  go_wp2_with (go_at_call 164; refine (HS.out _).mono ?_; rintro e w1 ⟨rfl, pw, rfl⟩)
  all_goals (go_ret; refine ⟨rfl, ?_⟩; (repeat (first | exact New.refl _ | apply New.alloc | apply New.aft | apply New.drew | refine New.setCell ?_ ?_ _)); all_goals (first | done | (simp [size_aft]; done) | (simp [size_aft]; omega)))

theorem hN_lt {a b c d : Int} (x : Int) (h : a < c) : hN a b c d x = b * (c - a) * 2 + (d - b) * (x - a * 2) ∧ hW a b c d = (c - a) * 2 := by
  have hn : ¬ 0 < orI (cmpI a c) (cmpI b d) := by have := orI_le a b c d; omega
  have e1 : f1 a b c d = a := if_neg hn
  have e2 : f2 a b c d = b := if_neg hn
  have e3 : f3 a b c d = c := if_neg hn
  have e4 : f4 a b c d = d := if_neg hn
  unfold hN hW
  rw [e1, e2, e3, e4]; grind
theorem hN_gt {a b c d : Int} (x : Int) (h : c < a) : hN a b c d x = d * (a - c) * 2 + (b - d) * (x - c * 2) ∧ hW a b c d = (a - c) * 2 := by
  have hn : 0 < orI (cmpI a c) (cmpI b d) := by have := orI_le a b c d; omega
  have e1 : f1 a b c d = c := if_pos hn
  have e2 : f2 a b c d = d := if_pos hn
  have e3 : f3 a b c d = a := if_pos hn
  have e4 : f4 a b c d = b := if_pos hn
  unfold hN hW
  rw [e1, e2, e3, e4]; grind

set_option maxHeartbeats 4000000 in
theorem ref_heightAt (a b c d x : Int) (w : World) (ha : 0 ≤ a ∧ a ≤ 10000) (hb : 0 ≤ b ∧ b ≤ 10000) (hc : 0 ≤ c ∧ c ≤ 10000) (hd : 0 ≤ d ∧ d ≤ 10000) (hx : 0 ≤ x ∧ x ≤ 20000) (hv : a ≠ c) :
    Calls Tryz.prog 103 #[sv a b c d, .int .i64 x, .int .i64 2] w fun e w' => e = .returned (pv (hN a b c d x) (hW a b c d)) ∧ New w w' := by
  rcases Int.lt_or_gt_of_ne hv with h | h
  · obtain ⟨e1, e2⟩ := hN_lt (b := b) (d := d) x h
    rw [e1, e2]
    have m1 := mul_bd b (c - a) 10000 10000 (by omega) (by omega) (by omega) (by omega)
    have m2 := mul_bd (d - b) (x - a * 2) 10000 40000 (by omega) (by omega) (by omega) (by omega)
    simp only [Int.reduceMul, Int.reduceNeg] at m1 m2
    clear e1 e2
    go_enter Tryz.func103, Tryz.ntmps103
    go_wp2_with fail
    all_goals (try (exfalso; omega))
    all_goals (refine bodyPost_ret (v := pv (b * (c - a) * 2 + (d - b) * (x - a * 2)) ((c - a) * 2)) (by simp [results, Tryz.results103, go_sem]) rfl ⟨rfl, ?_⟩; (repeat (first | exact New.refl _ | apply New.alloc | apply New.aft | apply New.drew | refine New.setCell ?_ ?_ _)); all_goals (first | done | (simp [size_aft]; done) | (simp [size_aft]; omega)))
  · obtain ⟨e1, e2⟩ := hN_gt (b := b) (d := d) x h
    rw [e1, e2]
    have m1 := mul_bd d (a - c) 10000 10000 (by omega) (by omega) (by omega) (by omega)
    have m2 := mul_bd (b - d) (x - c * 2) 10000 40000 (by omega) (by omega) (by omega) (by omega)
    simp only [Int.reduceMul, Int.reduceNeg] at m1 m2
    clear e1 e2
    go_enter Tryz.func103, Tryz.ntmps103
    go_wp2_with fail
    all_goals (try (exfalso; omega))
    all_goals (refine bodyPost_ret (v := pv (d * (a - c) * 2 + (b - d) * (x - c * 2)) ((a - c) * 2)) (by simp [results, Tryz.results103, go_sem]) rfl ⟨rfl, ?_⟩; (repeat (first | exact New.refl _ | apply New.alloc | apply New.aft | apply New.drew | refine New.setCell ?_ ?_ _)); all_goals (first | done | (simp [size_aft]; done) | (simp [size_aft]; omega)))

/-- height and width of a segment at a whole X -/
def hW1 (a b c d : Int) : Int := f3 a b c d - f1 a b c d
def hN1 (a b c d x : Int) : Int := f2 a b c d * hW1 a b c d + (f4 a b c d - f2 a b c d) * (x - f1 a b c d)
theorem h1_two (a b c d x : Int) : hN a b c d (2 * x) = 2 * hN1 a b c d x ∧ hW a b c d = 2 * hW1 a b c d := by
  unfold hN1 hN hW hW1; constructor <;> grind
theorem h1_lt {a b c d : Int} (x : Int) (h : a < c) : hN1 a b c d x = b * (c - a) + (d - b) * (x - a) ∧ hW1 a b c d = c - a := by
  have hn : ¬ 0 < orI (cmpI a c) (cmpI b d) := by have := orI_le a b c d; omega
  have e1 : f1 a b c d = a := if_neg hn
  have e2 : f2 a b c d = b := if_neg hn
  have e3 : f3 a b c d = c := if_neg hn
  have e4 : f4 a b c d = d := if_neg hn
  unfold hN1 hW1
  rw [e1, e2, e3, e4]; grind
theorem h1_gt {a b c d : Int} (x : Int) (h : c < a) : hN1 a b c d x = d * (a - c) + (b - d) * (x - c) ∧ hW1 a b c d = a - c := by
  have hn : 0 < orI (cmpI a c) (cmpI b d) := by have := orI_le a b c d; omega
  have e1 : f1 a b c d = c := if_pos hn
  have e2 : f2 a b c d = d := if_pos hn
  have e3 : f3 a b c d = a := if_pos hn
  have e4 : f4 a b c d = b := if_pos hn
  unfold hN1 hW1
  rw [e1, e2, e3, e4]; grind
theorem h1_bd (a b c d x : Int) (ha : 0 ≤ a ∧ a ≤ 10000) (hb : 0 ≤ b ∧ b ≤ 10000) (hc : 0 ≤ c ∧ c ≤ 10000) (hd : 0 ≤ d ∧ d ≤ 10000) (hx : 0 ≤ x ∧ x ≤ 10000) : (-20000 ≤ hW1 a b c d ∧ hW1 a b c d ≤ 20000) ∧ (-600000000 ≤ hN1 a b c d x ∧ hN1 a b c d x ≤ 600000000) := by
  have h := h_bd a b c d (2 * x) ha hb hc hd (by omega)
  obtain ⟨e1, e2⟩ := h1_two a b c d x
  omega
theorem cmp_h1 (a b c d e f g h x : Int) : cmpR (hN1 a b c d x) (hW1 a b c d) (hN1 e f g h x) (hW1 e f g h) = cmpR (hN a b c d (2 * x)) (hW a b c d) (hN e f g h (2 * x)) (hW e f g h) := by
  obtain ⟨e1, e2⟩ := h1_two a b c d x
  obtain ⟨e3, e4⟩ := h1_two e f g h x
  rw [e1, e2, e3, e4]
  unfold cmpR
  rw [show 2 * hN1 a b c d x * (2 * hW1 e f g h) = 4 * (hN1 a b c d x * hW1 e f g h) by grind, show 2 * hN1 e f g h x * (2 * hW1 a b c d) = 4 * (hN1 e f g h x * hW1 a b c d) by grind]
  unfold cmpI
  split <;> split <;> first | rfl | omega | (split <;> first | rfl | omega | (split <;> first | rfl | omega))

set_option maxHeartbeats 4000000 in
theorem ref_heightAt1 (a b c d x : Int) (w : World) (ha : 0 ≤ a ∧ a ≤ 10000) (hb : 0 ≤ b ∧ b ≤ 10000) (hc : 0 ≤ c ∧ c ≤ 10000) (hd : 0 ≤ d ∧ d ≤ 10000) (hx : 0 ≤ x ∧ x ≤ 10000) (hv : a ≠ c) :
    Calls Tryz.prog 103 #[sv a b c d, .int .i64 x, .int .i64 1] w fun e w' => e = .returned (pv (hN1 a b c d x) (hW1 a b c d)) ∧ New w w' := by
  rcases Int.lt_or_gt_of_ne hv with h | h
  · obtain ⟨e1, e2⟩ := h1_lt (b := b) (d := d) x h
    rw [e1, e2]
    have m1 := mul_bd b (c - a) 10000 10000 (by omega) (by omega) (by omega) (by omega)
    have m2 := mul_bd (d - b) (x - a) 10000 40000 (by omega) (by omega) (by omega) (by omega)
    simp only [Int.reduceMul, Int.reduceNeg] at m1 m2
    clear e1 e2
    go_enter Tryz.func103, Tryz.ntmps103
    go_wp2_with fail
    all_goals (try (exfalso; omega))
    all_goals (refine bodyPost_ret (v := pv (b * (c - a) + (d - b) * (x - a)) (c - a)) (by simp [results, Tryz.results103, go_sem]) rfl ⟨rfl, ?_⟩; (repeat (first | exact New.refl _ | apply New.alloc | apply New.aft | apply New.drew | refine New.setCell ?_ ?_ _)); all_goals (first | done | (simp [size_aft]; done) | (simp [size_aft]; omega)))
  · obtain ⟨e1, e2⟩ := h1_gt (b := b) (d := d) x h
    rw [e1, e2]
    have m1 := mul_bd d (a - c) 10000 10000 (by omega) (by omega) (by omega) (by omega)
    have m2 := mul_bd (b - d) (x - c) 10000 40000 (by omega) (by omega) (by omega) (by omega)
    simp only [Int.reduceMul, Int.reduceNeg] at m1 m2
    clear e1 e2
    go_enter Tryz.func103, Tryz.ntmps103
    go_wp2_with fail
    all_goals (try (exfalso; omega))
    all_goals (refine bodyPost_ret (v := pv (d * (a - c) + (b - d) * (x - c)) (a - c)) (by simp [results, Tryz.results103, go_sem]) rfl ⟨rfl, ?_⟩; (repeat (first | exact New.refl _ | apply New.alloc | apply New.aft | apply New.drew | refine New.setCell ?_ ?_ _)); all_goals (first | done | (simp [size_aft]; done) | (simp [size_aft]; omega)))

def endB (a c x : Int) : Bool := (a == x) || (c == x)
set_option maxHeartbeats 2000000 in
theorem ended_c (a b c d x : Int) (w : World) : Calls Tryz.prog 190 #[sv a b c d, .int .i64 x] w fun e w' => e = .returned (.bool (endB a c x)) ∧ New w w' := by
  have HE := Lib.hid (show endB a c x = ((a == x) || (c == x)) from rfl)
  generalize endB a c x = R at *
  by_cases u1 : a = x
  · have z1 : (a == x) = true := by simpa using u1
    have HR := Lib.hid (show true = R by rw [HE.out, z1]; rfl)
    clear u1
    go_enter Tryz.func190, Tryz.ntmps190
    go_wp2_with fail
    all_goals (go_ret; exact ⟨ret_bool HR.out, (by (repeat (first | exact New.refl _ | apply New.alloc | apply New.aft | apply New.drew | refine New.setCell ?_ ?_ _)); all_goals (first | done | (simp [size_aft]; done) | (simp [size_aft]; omega)))⟩)
  · have z1 : (a == x) = false := by simpa using u1
    generalize hz : (c == x) = z at *
    have HR := Lib.hid (show z = R by rw [HE.out, z1]; rfl)
    clear u1
    go_enter Tryz.func190, Tryz.ntmps190
    go_wp2_with fail
    all_goals (go_ret; exact ⟨ret_bool HR.out, (by (repeat (first | exact New.refl _ | apply New.alloc | apply New.aft | apply New.drew | refine New.setCell ?_ ?_ _)); all_goals (first | done | (simp [size_aft]; done) | (simp [size_aft]; omega)))⟩)

def spanB (a b c d f t : Int) : Bool := decide (f1 a b c d ≤ f) && decide (t ≤ f3 a b c d)
theorem spanB_at (l : List S4) (k : Nat) (f t : Int) : spanB (q1 l k) (q2 l k) (q3 l k) (q4 l k) f t = spanAt l f t k := by
  obtain ⟨e1, e2⟩ := f_minmax (q1 l k) (q2 l k) (q3 l k) (q4 l k)
  unfold spanB spanAt; rw [e1, e2]
set_option maxHeartbeats 2000000 in
theorem spans_c (a b c d f t : Int) (w : World) : Calls Tryz.prog 148 #[sv a b c d, .int .i64 f, .int .i64 t] w fun e w' => e = .returned (.bool (spanB a b c d f t)) ∧ New w w' := by
  have HS := Lib.hid (ref_span a b c d)
  have HE := Lib.hid (show spanB a b c d f t = (decide (f1 a b c d ≤ f) && decide (t ≤ f3 a b c d)) from rfl)
  generalize spanB a b c d f t = R at *
  generalize f1 a b c d = L at *
  generalize f3 a b c d = M at *
  by_cases u1 : L ≤ f
  · have HR := Lib.hid (show decide (t ≤ M) = R by rw [HE.out]; simp [u1])
    go_enter Tryz.func148, Tryz.ntmps148
    go_wp2_with (go_at_call 101; refine (HS.out _).mono ?_; rintro e w1 ⟨rfl, pw, rfl⟩)
    all_goals (go_ret; exact ⟨ret_bool HR.out, (by (repeat (first | exact New.refl _ | apply New.alloc | apply New.aft | apply New.drew | refine New.setCell ?_ ?_ _)); all_goals (first | done | (simp [size_aft]; done) | (simp [size_aft]; omega)))⟩)
  · have HR := Lib.hid (show false = R by rw [HE.out]; simp [u1])
    go_enter Tryz.func148, Tryz.ntmps148
    go_wp2_with (go_at_call 101; refine (HS.out _).mono ?_; rintro e w1 ⟨rfl, pw, rfl⟩)
    all_goals (go_ret; exact ⟨ret_bool HR.out, (by (repeat (first | exact New.refl _ | apply New.alloc | apply New.aft | apply New.drew | refine New.setCell ?_ ?_ _)); all_goals (first | done | (simp [size_aft]; done) | (simp [size_aft]; omega)))⟩)

end Go.Proofs.YtpdfbboagaflhaaGreat

set_option linter.unusedSimpArgs false
set_option linter.unusedVariables false
set_option maxRecDepth 100000
namespace Go.Proofs.YtpdfbboagaflhaaGreat
open Go.RowKit

/-- the vertical segment i overlaps the segment k -/
def upO (l : List S4) (i k : Nat) : Bool := (!(k == i) && ((q1 l k == q1 l i) && (q3 l k == q1 l i))) && decide (max (min (q2 l i) (q4 l i)) (min (q2 l k) (q4 l k)) < min (max (q2 l i) (q4 l i)) (max (q2 l k) (q4 l k)))
/-- the segment k goes through the inside of the vertical segment i -/
def upT (l : List S4) (i k : Nat) : Bool := (decide (f1 (q1 l k) (q2 l k) (q3 l k) (q4 l k) < q1 l i) && decide (q1 l i < f3 (q1 l k) (q2 l k) (q3 l k) (q4 l k))) && (decide (min (q2 l i) (q4 l i) * hW1 (q1 l k) (q2 l k) (q3 l k) (q4 l k) < hN1 (q1 l k) (q2 l k) (q3 l k) (q4 l k) (q1 l i)) && decide (hN1 (q1 l k) (q2 l k) (q3 l k) (q4 l k) (q1 l i) < max (q2 l i) (q4 l i) * hW1 (q1 l k) (q2 l k) (q3 l k) (q4 l k)))
def upBad (l : List S4) (i k : Nat) : Bool := upO l i k || upT l i k
def upB (l : List S4) (i : Nat) : Bool := !(List.range l.length).any (upBad l i)

set_option maxHeartbeats 32000000 in
theorem upright_c (b off n c : Nat) (l : List S4) (i : Nat) (w : World) (hl : n ≤ 1000000) (hw : Segs w b off n l) (hok : okSegs l = true) (hi : i < n) :
    Calls Tryz.prog 157 #[.slice (some ⟨b, off, none⟩) n c, .int .i64 i] w fun e w' => e = .returned (.bool (upB l i)) ∧ New w w' := by
  have hln := hw.1
  have HU := Lib.hid (show upB l i = !(List.range n).any (upBad l i) by unfold upB; rw [hln])
  have HO := Lib.hid (show ∀ k, upO l i k = ((!(k == i) && ((q1 l k == q1 l i) && (q3 l k == q1 l i))) && decide (max (min (q2 l i) (q4 l i)) (min (q2 l k) (q4 l k)) < min (max (q2 l i) (q4 l i)) (max (q2 l k) (q4 l k)))) from fun _ => rfl)
  have HT := Lib.hid (show ∀ k, upT l i k = ((decide (f1 (q1 l k) (q2 l k) (q3 l k) (q4 l k) < q1 l i) && decide (q1 l i < f3 (q1 l k) (q2 l k) (q3 l k) (q4 l k))) && (decide (min (q2 l i) (q4 l i) * hW1 (q1 l k) (q2 l k) (q3 l k) (q4 l k) < hN1 (q1 l k) (q2 l k) (q3 l k) (q4 l k) (q1 l i)) && decide (hN1 (q1 l k) (q2 l k) (q3 l k) (q4 l k) (q1 l i) < max (q2 l i) (q4 l i) * hW1 (q1 l k) (q2 l k) (q3 l k) (q4 l k)))) from fun _ => rfl)
  have HB := Lib.hid (show ∀ k, upBad l i k = (upO l i k || upT l i k) from fun _ => rfl)
  have HOK := Lib.hid (fun k (hk : k < n) => okS_iff.1 (okSegs_at l k (by omega) hok))
  have HW := Lib.hid hw
  obtain ⟨_, hgl, hcc⟩ := hw
  obtain ⟨v1, v2, v3, v4⟩ := hcc i hi
  obtain ⟨⟨o1, o2⟩, ⟨o3, o4⟩, _⟩ := HOK.out i hi
  clear hcc
  generalize upB l i = R at *
  generalize upBad l i = bad at *
  generalize upO l i = bO at *
  generalize upT l i = bT at *
  generalize q1 l i = x at *
  generalize q2 l i = y1 at *
  generalize q3 l i = x3 at *
  generalize q4 l i = y2 at *
  obtain ⟨lo, hlo⟩ : ∃ lo, min y1 y2 = lo := ⟨_, rfl⟩
  obtain ⟨hi', hhi⟩ : ∃ h, max y1 y2 = h := ⟨_, rfl⟩
  have blo : 0 ≤ lo ∧ lo ≤ 10000 := by omega
  have bhi : 0 ≤ hi' ∧ hi' ≤ 10000 := by omega
  rw [hlo, hhi] at HO HT
  have hi0 : (i : Int) < (n : Int) := by omega
  go_enter Tryz.func157, Tryz.ntmps157
  go_wp2_with fail
  go_loopw [9] (fun s wr => ∃ k : Nat, k ≤ n ∧ s = .int .i64 k ∧ (List.range k).any bad = false ∧ New w wr) (fun s _ => n - (intOf s).toNat)
  case atStart => exact ⟨0, Nat.zero_le _, rfl, rfl, (by (repeat (first | exact New.refl _ | apply New.alloc | apply New.aft | apply New.drew | refine New.setCell ?_ ?_ _)); all_goals (first | done | (simp [size_aft]; done) | (simp [size_aft]; omega)))⟩
  case round =>
    obtain ⟨k, hk, rfl, hany, hnew⟩ := hrel
    have HANY := Lib.hid hany
    have HNEW := Lib.hid hnew
    clear hany hnew hlo hhi v1 v2 v3 v4
    by_cases hlt : k < n
    · obtain ⟨_, gl, hcc⟩ := HW.out.new HNEW.out
      obtain ⟨c1, c2, c3, c4⟩ := hcc k hlt
      obtain ⟨⟨p1, p2⟩, ⟨p3, p4⟩, _⟩ := HOK.out k hlt
      have HOk := Lib.hid (HO.out k)
      have HTk := Lib.hid (HT.out k)
      have HBk := Lib.hid (HB.out k)
      have HSN := Lib.hid (any_snoc' bad k)
      have HIT := Lib.hid (fun h => any_hit' (f := bad) hlt h)
      obtain ⟨hbW, hbN⟩ := h1_bd (q1 l k) (q2 l k) (q3 l k) (q4 l k) x p1 p2 p3 p4 o1
      obtain ⟨fm1, fm3⟩ := f_minmax (q1 l k) (q2 l k) (q3 l k) (q4 l k)
      have HSP := Lib.hid (ref_span (q1 l k) (q2 l k) (q3 l k) (q4 l k))
      have HHT := Lib.hid (fun (w1 : World) (h : q1 l k ≠ q3 l k) => ref_heightAt1 (q1 l k) (q2 l k) (q3 l k) (q4 l k) x w1 p1 p2 p3 p4 o1 h)
      clear hcc
      generalize q1 l k = A1 at *
      generalize q2 l k = A2 at *
      generalize q3 l k = A3 at *
      generalize q4 l k = A4 at *
      have hk1 : (k : Int) < (n : Int) := by omega
      have m1 := mul_bd lo (hW1 A1 A2 A3 A4) 10000 20000 (by omega) (by omega) (by omega) (by omega)
      have m2 := mul_bd hi' (hW1 A1 A2 A3 A4) 10000 20000 (by omega) (by omega) (by omega) (by omega)
      simp only [Int.reduceMul, Int.reduceNeg] at m1 m2
      generalize f1 A1 A2 A3 A4 = F1 at *
      generalize f3 A1 A2 A3 A4 = F3 at *
      generalize hN1 A1 A2 A3 A4 x = N at *
      generalize hW1 A1 A2 A3 A4 = W at *
      obtain ⟨mn, hmn⟩ : ∃ m, min A2 A4 = m := ⟨_, rfl⟩
      obtain ⟨mx, hmx⟩ : ∃ m, max A2 A4 = m := ⟨_, rfl⟩
      obtain ⟨fr, hfr⟩ : ∃ m, max lo mn = m := ⟨_, rfl⟩
      obtain ⟨un, hun⟩ : ∃ m, min hi' mx = m := ⟨_, rfl⟩
      rw [hmn, hmx, hfr, hun] at HOk
      by_cases t1 : (k = i ∨ (k ≠ i ∧ A1 ≠ x) ∨ (k ≠ i ∧ A1 = x ∧ A3 ≠ x))
      · have HO0 := Lib.hid (show bO k = false by
          rw [HOk.out]
          rcases t1 with e | ⟨_, e⟩ | ⟨_, _, e⟩
          · simp [e]
          · simp [e]
          · simp [e])
        have HBT := Lib.hid (show bad k = bT k by rw [HBk.out, HO0.out]; rfl)
        clear hmn hmx hfr hun
        by_cases u1 : F1 < x
        · by_cases u2 : x < F3
          · have hne : A1 ≠ A3 := by omega
            have HH2 := Lib.hid (fun w1 => HHT.out w1 hne)
            by_cases u3 : lo * W < N
            · by_cases u4 : N < hi' * W
              · have HV := Lib.hid (show bad k = true by rw [HBT.out, HTk.out]; simp [u1, u2, u3, u4])
                rcases t1 with t2 | ⟨t2, t3⟩ | ⟨t2, t3, t4⟩
                · have z0 : ((k : Int) != (i : Int)) = false := by simp; omega
                  clear fm1 fm3 t2
                  go_wp2_with (first | (go_at_call 101; (with_reducible refine (HSP.out _).mono ?_); rintro e w1 ⟨rfl, pw1, rfl⟩) | (go_at_call 103; (with_reducible refine (HH2.out _).mono ?_); rintro e w1 ⟨rfl, pw2, rfl⟩))
                  all_goals (go_ret; exact ⟨ret_bool (by rw [HU.out, HIT.out HV.out]; rfl), (by (repeat (first | exact HNEW.out | exact New.refl _ | apply New.alloc | apply New.aft | apply New.drew | refine New.setCell ?_ ?_ _)); all_goals (first | done | (simp [size_aft]; done) | (simp [size_aft]; omega)))⟩)
                · have z0 : ((k : Int) != (i : Int)) = true := by simp; omega
                  have z1 : (A1 == x) = false := by simpa using t3
                  clear fm1 fm3 t2 t3
                  go_wp2_with (first | (go_at_call 101; (with_reducible refine (HSP.out _).mono ?_); rintro e w1 ⟨rfl, pw1, rfl⟩) | (go_at_call 103; (with_reducible refine (HH2.out _).mono ?_); rintro e w1 ⟨rfl, pw2, rfl⟩))
                  all_goals (go_ret; exact ⟨ret_bool (by rw [HU.out, HIT.out HV.out]; rfl), (by (repeat (first | exact HNEW.out | exact New.refl _ | apply New.alloc | apply New.aft | apply New.drew | refine New.setCell ?_ ?_ _)); all_goals (first | done | (simp [size_aft]; done) | (simp [size_aft]; omega)))⟩)
                · have z0 : ((k : Int) != (i : Int)) = true := by simp; omega
                  have z1 : (A1 == x) = true := by simpa using t3
                  have z3 : (A3 == x) = false := by simpa using t4
                  clear fm1 fm3 t2 t3 t4
                  go_wp2_with (first | (go_at_call 101; (with_reducible refine (HSP.out _).mono ?_); rintro e w1 ⟨rfl, pw1, rfl⟩) | (go_at_call 103; (with_reducible refine (HH2.out _).mono ?_); rintro e w1 ⟨rfl, pw2, rfl⟩))
                  all_goals (go_ret; exact ⟨ret_bool (by rw [HU.out, HIT.out HV.out]; rfl), (by (repeat (first | exact HNEW.out | exact New.refl _ | apply New.alloc | apply New.aft | apply New.drew | refine New.setCell ?_ ?_ _)); all_goals (first | done | (simp [size_aft]; done) | (simp [size_aft]; omega)))⟩)
              · have HV := Lib.hid (show bad k = false by rw [HBT.out, HTk.out]; simp [u4])
                rcases t1 with t2 | ⟨t2, t3⟩ | ⟨t2, t3, t4⟩
                · have z0 : ((k : Int) != (i : Int)) = false := by simp; omega
                  clear fm1 fm3 t2
                  go_wp2_with (first | (go_at_call 101; (with_reducible refine (HSP.out _).mono ?_); rintro e w1 ⟨rfl, pw1, rfl⟩) | (go_at_call 103; (with_reducible refine (HH2.out _).mono ?_); rintro e w1 ⟨rfl, pw2, rfl⟩))
                  all_goals go_roundw
                  all_goals first
                    | exact ⟨k + 1, by omega, by go_num, by rw [HSN.out, HANY.out, HV.out]; rfl, (by (repeat (first | exact HNEW.out | exact New.refl _ | apply New.alloc | apply New.aft | apply New.drew | refine New.setCell ?_ ?_ _)); all_goals (first | done | (simp [size_aft]; done) | (simp [size_aft]; omega)))⟩
                    | (simp [intOf]; omega)
                · have z0 : ((k : Int) != (i : Int)) = true := by simp; omega
                  have z1 : (A1 == x) = false := by simpa using t3
                  clear fm1 fm3 t2 t3
                  go_wp2_with (first | (go_at_call 101; (with_reducible refine (HSP.out _).mono ?_); rintro e w1 ⟨rfl, pw1, rfl⟩) | (go_at_call 103; (with_reducible refine (HH2.out _).mono ?_); rintro e w1 ⟨rfl, pw2, rfl⟩))
                  all_goals go_roundw
                  all_goals first
                    | exact ⟨k + 1, by omega, by go_num, by rw [HSN.out, HANY.out, HV.out]; rfl, (by (repeat (first | exact HNEW.out | exact New.refl _ | apply New.alloc | apply New.aft | apply New.drew | refine New.setCell ?_ ?_ _)); all_goals (first | done | (simp [size_aft]; done) | (simp [size_aft]; omega)))⟩
                    | (simp [intOf]; omega)
                · have z0 : ((k : Int) != (i : Int)) = true := by simp; omega
                  have z1 : (A1 == x) = true := by simpa using t3
                  have z3 : (A3 == x) = false := by simpa using t4
                  clear fm1 fm3 t2 t3 t4
                  go_wp2_with (first | (go_at_call 101; (with_reducible refine (HSP.out _).mono ?_); rintro e w1 ⟨rfl, pw1, rfl⟩) | (go_at_call 103; (with_reducible refine (HH2.out _).mono ?_); rintro e w1 ⟨rfl, pw2, rfl⟩))
                  all_goals go_roundw
                  all_goals first
                    | exact ⟨k + 1, by omega, by go_num, by rw [HSN.out, HANY.out, HV.out]; rfl, (by (repeat (first | exact HNEW.out | exact New.refl _ | apply New.alloc | apply New.aft | apply New.drew | refine New.setCell ?_ ?_ _)); all_goals (first | done | (simp [size_aft]; done) | (simp [size_aft]; omega)))⟩
                    | (simp [intOf]; omega)
            · have HV := Lib.hid (show bad k = false by rw [HBT.out, HTk.out]; simp [u3])
              rcases t1 with t2 | ⟨t2, t3⟩ | ⟨t2, t3, t4⟩
              · have z0 : ((k : Int) != (i : Int)) = false := by simp; omega
                clear fm1 fm3 t2
                go_wp2_with (first | (go_at_call 101; (with_reducible refine (HSP.out _).mono ?_); rintro e w1 ⟨rfl, pw1, rfl⟩) | (go_at_call 103; (with_reducible refine (HH2.out _).mono ?_); rintro e w1 ⟨rfl, pw2, rfl⟩))
                all_goals go_roundw
                all_goals first
                  | exact ⟨k + 1, by omega, by go_num, by rw [HSN.out, HANY.out, HV.out]; rfl, (by (repeat (first | exact HNEW.out | exact New.refl _ | apply New.alloc | apply New.aft | apply New.drew | refine New.setCell ?_ ?_ _)); all_goals (first | done | (simp [size_aft]; done) | (simp [size_aft]; omega)))⟩
                  | (simp [intOf]; omega)
              · have z0 : ((k : Int) != (i : Int)) = true := by simp; omega
                have z1 : (A1 == x) = false := by simpa using t3
                clear fm1 fm3 t2 t3
                go_wp2_with (first | (go_at_call 101; (with_reducible refine (HSP.out _).mono ?_); rintro e w1 ⟨rfl, pw1, rfl⟩) | (go_at_call 103; (with_reducible refine (HH2.out _).mono ?_); rintro e w1 ⟨rfl, pw2, rfl⟩))
                all_goals go_roundw
                all_goals first
                  | exact ⟨k + 1, by omega, by go_num, by rw [HSN.out, HANY.out, HV.out]; rfl, (by (repeat (first | exact HNEW.out | exact New.refl _ | apply New.alloc | apply New.aft | apply New.drew | refine New.setCell ?_ ?_ _)); all_goals (first | done | (simp [size_aft]; done) | (simp [size_aft]; omega)))⟩
                  | (simp [intOf]; omega)
              · have z0 : ((k : Int) != (i : Int)) = true := by simp; omega
                have z1 : (A1 == x) = true := by simpa using t3
                have z3 : (A3 == x) = false := by simpa using t4
                clear fm1 fm3 t2 t3 t4
                go_wp2_with (first | (go_at_call 101; (with_reducible refine (HSP.out _).mono ?_); rintro e w1 ⟨rfl, pw1, rfl⟩) | (go_at_call 103; (with_reducible refine (HH2.out _).mono ?_); rintro e w1 ⟨rfl, pw2, rfl⟩))
                all_goals go_roundw
                all_goals first
                  | exact ⟨k + 1, by omega, by go_num, by rw [HSN.out, HANY.out, HV.out]; rfl, (by (repeat (first | exact HNEW.out | exact New.refl _ | apply New.alloc | apply New.aft | apply New.drew | refine New.setCell ?_ ?_ _)); all_goals (first | done | (simp [size_aft]; done) | (simp [size_aft]; omega)))⟩
                  | (simp [intOf]; omega)
          · have HV := Lib.hid (show bad k = false by rw [HBT.out, HTk.out]; simp [u2])
            rcases t1 with t2 | ⟨t2, t3⟩ | ⟨t2, t3, t4⟩
            · have z0 : ((k : Int) != (i : Int)) = false := by simp; omega
              clear fm1 fm3 t2
              go_wp2_with (first | (go_at_call 101; (with_reducible refine (HSP.out _).mono ?_); rintro e w1 ⟨rfl, pw1, rfl⟩) | (go_at_call 103; (with_reducible refine (HH2.out _).mono ?_); rintro e w1 ⟨rfl, pw2, rfl⟩))
              all_goals go_roundw
              all_goals first
                | exact ⟨k + 1, by omega, by go_num, by rw [HSN.out, HANY.out, HV.out]; rfl, (by (repeat (first | exact HNEW.out | exact New.refl _ | apply New.alloc | apply New.aft | apply New.drew | refine New.setCell ?_ ?_ _)); all_goals (first | done | (simp [size_aft]; done) | (simp [size_aft]; omega)))⟩
                | (simp [intOf]; omega)
            · have z0 : ((k : Int) != (i : Int)) = true := by simp; omega
              have z1 : (A1 == x) = false := by simpa using t3
              clear fm1 fm3 t2 t3
              go_wp2_with (first | (go_at_call 101; (with_reducible refine (HSP.out _).mono ?_); rintro e w1 ⟨rfl, pw1, rfl⟩) | (go_at_call 103; (with_reducible refine (HH2.out _).mono ?_); rintro e w1 ⟨rfl, pw2, rfl⟩))
              all_goals go_roundw
              all_goals first
                | exact ⟨k + 1, by omega, by go_num, by rw [HSN.out, HANY.out, HV.out]; rfl, (by (repeat (first | exact HNEW.out | exact New.refl _ | apply New.alloc | apply New.aft | apply New.drew | refine New.setCell ?_ ?_ _)); all_goals (first | done | (simp [size_aft]; done) | (simp [size_aft]; omega)))⟩
                | (simp [intOf]; omega)
            · have z0 : ((k : Int) != (i : Int)) = true := by simp; omega
              have z1 : (A1 == x) = true := by simpa using t3
              have z3 : (A3 == x) = false := by simpa using t4
              clear fm1 fm3 t2 t3 t4
              go_wp2_with (first | (go_at_call 101; (with_reducible refine (HSP.out _).mono ?_); rintro e w1 ⟨rfl, pw1, rfl⟩) | (go_at_call 103; (with_reducible refine (HH2.out _).mono ?_); rintro e w1 ⟨rfl, pw2, rfl⟩))
              all_goals go_roundw
              all_goals first
                | exact ⟨k + 1, by omega, by go_num, by rw [HSN.out, HANY.out, HV.out]; rfl, (by (repeat (first | exact HNEW.out | exact New.refl _ | apply New.alloc | apply New.aft | apply New.drew | refine New.setCell ?_ ?_ _)); all_goals (first | done | (simp [size_aft]; done) | (simp [size_aft]; omega)))⟩
                | (simp [intOf]; omega)
        · have HV := Lib.hid (show bad k = false by rw [HBT.out, HTk.out]; simp [u1])
          rcases t1 with t2 | ⟨t2, t3⟩ | ⟨t2, t3, t4⟩
          · have z0 : ((k : Int) != (i : Int)) = false := by simp; omega
            clear fm1 fm3 t2
            go_wp2_with (first | (go_at_call 101; (with_reducible refine (HSP.out _).mono ?_); rintro e w1 ⟨rfl, pw1, rfl⟩) | (go_at_call 103; (with_reducible refine (HH2.out _).mono ?_); rintro e w1 ⟨rfl, pw2, rfl⟩))
            all_goals go_roundw
            all_goals first
              | exact ⟨k + 1, by omega, by go_num, by rw [HSN.out, HANY.out, HV.out]; rfl, (by (repeat (first | exact HNEW.out | exact New.refl _ | apply New.alloc | apply New.aft | apply New.drew | refine New.setCell ?_ ?_ _)); all_goals (first | done | (simp [size_aft]; done) | (simp [size_aft]; omega)))⟩
              | (simp [intOf]; omega)
          · have z0 : ((k : Int) != (i : Int)) = true := by simp; omega
            have z1 : (A1 == x) = false := by simpa using t3
            clear fm1 fm3 t2 t3
            go_wp2_with (first | (go_at_call 101; (with_reducible refine (HSP.out _).mono ?_); rintro e w1 ⟨rfl, pw1, rfl⟩) | (go_at_call 103; (with_reducible refine (HH2.out _).mono ?_); rintro e w1 ⟨rfl, pw2, rfl⟩))
            all_goals go_roundw
            all_goals first
              | exact ⟨k + 1, by omega, by go_num, by rw [HSN.out, HANY.out, HV.out]; rfl, (by (repeat (first | exact HNEW.out | exact New.refl _ | apply New.alloc | apply New.aft | apply New.drew | refine New.setCell ?_ ?_ _)); all_goals (first | done | (simp [size_aft]; done) | (simp [size_aft]; omega)))⟩
              | (simp [intOf]; omega)
          · have z0 : ((k : Int) != (i : Int)) = true := by simp; omega
            have z1 : (A1 == x) = true := by simpa using t3
            have z3 : (A3 == x) = false := by simpa using t4
            clear fm1 fm3 t2 t3 t4
            go_wp2_with (first | (go_at_call 101; (with_reducible refine (HSP.out _).mono ?_); rintro e w1 ⟨rfl, pw1, rfl⟩) | (go_at_call 103; (with_reducible refine (HH2.out _).mono ?_); rintro e w1 ⟨rfl, pw2, rfl⟩))
            all_goals go_roundw
            all_goals first
              | exact ⟨k + 1, by omega, by go_num, by rw [HSN.out, HANY.out, HV.out]; rfl, (by (repeat (first | exact HNEW.out | exact New.refl _ | apply New.alloc | apply New.aft | apply New.drew | refine New.setCell ?_ ?_ _)); all_goals (first | done | (simp [size_aft]; done) | (simp [size_aft]; omega)))⟩
              | (simp [intOf]; omega)
      · have t2 : ¬ k = i := fun e => t1 (.inl e)
        have t3 : A1 = x := Classical.byContradiction fun e => t1 (.inr (.inl ⟨t2, e⟩))
        have t4 : A3 = x := Classical.byContradiction fun e => t1 (.inr (.inr ⟨t2, t3, e⟩))
        have u1 : ¬ F1 < x := by omega
        have z0 : ((k : Int) != (i : Int)) = true := by simp; omega
        have z1 : (A1 == x) = true := by simpa using t3
        have z3 : (A3 == x) = true := by simpa using t4
        by_cases u5 : fr < un
        · have HV := Lib.hid (show bad k = true by rw [HBk.out, HOk.out]; simp [t2, t3, t4, u5])
          clear t1 t2 t3 t4 fm1 fm3
          go_upto_region 9 with fail
          go_region
          all_goals (go_upto_region 10 with fail)
          all_goals go_region
          all_goals (go_wp2_with fail)
          all_goals (go_ret; exact ⟨ret_bool (by rw [HU.out, HIT.out HV.out]; rfl), (by (repeat (first | exact HNEW.out | exact New.refl _ | apply New.alloc | apply New.aft | apply New.drew | refine New.setCell ?_ ?_ _)); all_goals (first | done | (simp [size_aft]; done) | (simp [size_aft]; omega)))⟩)
        · have HV := Lib.hid (show bad k = false by rw [HBk.out, HOk.out, HTk.out]; simp [u1, u5])
          clear t1 t2 t3 t4 fm1 fm3
          go_upto_region 9 with fail
          go_region
          all_goals (go_upto_region 10 with fail)
          all_goals go_region
          all_goals (go_wp2_with (go_at_call 101; refine (HSP.out _).mono ?_; rintro e w1 ⟨rfl, pw, rfl⟩))
          all_goals go_roundw
          all_goals first
            | exact ⟨k + 1, by omega, by go_num, by rw [HSN.out, HANY.out, HV.out]; rfl, (by (repeat (first | exact HNEW.out | exact New.refl _ | apply New.alloc | apply New.aft | apply New.drew | refine New.setCell ?_ ?_ _)); all_goals (first | done | (simp [size_aft]; done) | (simp [size_aft]; omega)))⟩
            | (simp [intOf]; omega)
    · obtain rfl : k = n := by omega
      go_wp2_with fail
      go_ret
      exact ⟨ret_bool (by rw [HU.out, HANY.out]; rfl), HNEW.out⟩

end Go.Proofs.YtpdfbboagaflhaaGreat

set_option linter.unusedSimpArgs false
set_option linter.unusedVariables false
set_option maxRecDepth 100000
namespace Go.Proofs.YtpdfbboagaflhaaGreat
open Go.RowKit

def hitB (l : List S4) (x : Int) (i : Nat) : Bool := (q1 l i == x) || (q3 l i == x)
def evHit (l : List S4) (X : Nat) : Bool := (List.range l.length).any (hitB l (X : Int))
def evTo (l : List S4) : Nat → List Int
  | 0 => []
  | X + 1 => if evHit l X = true then evTo l X ++ [(X : Int)] else evTo l X
theorem evTo_le (l : List S4) : ∀ X, (evTo l X).length ≤ X
  | 0 => Nat.le_refl _
  | X + 1 => by have := evTo_le l X; simp only [evTo]; split <;> simp <;> omega

set_option maxHeartbeats 16000000 in
theorem events_c (A : Option Addr) (n c : Nat) (l : List S4) (w : World) (hl : n ≤ 1000000) (hln : l.length = n) (hp : 0 < n → ∃ b off, A = some ⟨b, off, none⟩ ∧ Segs w b off n l) :
    Calls Tryz.prog 147 #[.slice A n c] w fun en w' => ∃ v, en = .returned v ∧ w'.ownsRow w.heap.size 3 1 v (evTo l 10001).length (inCells (evTo l 10001)) ∧ New w w' := by
  obtain ⟨i0, hi, hz0, hz1, hz2⟩ := info_parts info3
  have HP := Lib.hid hp
  have HE := Lib.hid (show ∀ X : Nat, evHit l X = (List.range n).any (hitB l (X : Int)) from fun X => by unfold evHit; rw [hln])
  have HT := Lib.hid (show ∀ X : Nat, evTo l (X + 1) = if evHit l X = true then evTo l X ++ [(X : Int)] else evTo l X from fun _ => rfl)
  have HL := Lib.hid (evTo_le l)
  have HH := Lib.hid (show ∀ (X : Int) i, hitB l X i = ((q1 l i == X) || (q3 l i == X)) from fun _ _ => rfl)
  have H0 := Lib.hid (show evTo l 0 = [] from rfl)
  generalize evTo l = ev at *
  generalize evHit l = eh at *
  generalize hitB l = ht at *
  clear hp hln
  go_enter Tryz.func147, Tryz.ntmps147
  go_wp2_with fail
  go_loopw [3, 4] (fun v s wr => ∃ X : Nat, X ≤ 10001 ∧ s = .int .i64 X ∧ wr.ownsRow w.heap.size 3 1 v (ev X).length (inCells (ev X)) ∧ New w wr) (fun _ s _ => 10001 - (intOf s).toNat)
  case atStart => exact ⟨0, by omega, rfl, by rw [H0.out]; exact World.ownsRow_nil _ _ _ _, New.refl _⟩
  case round =>
    obtain ⟨X, hX, rfl, hown, hnew⟩ := hrel
    obtain ⟨W1, rfl⟩ : ∃ W1 : World, W1 = wr := ⟨_, rfl⟩
    obtain ⟨VO, rfl⟩ : ∃ VO : Value, VO = u3 := ⟨_, rfl⟩
    have HOW := Lib.hid hown
    have HNEW := Lib.hid hnew
    have HLX := HL.out X
    have HEX := Lib.hid (HE.out X)
    have HTX := Lib.hid (HT.out X)
    clear hown hnew
    by_cases hlt : X ≤ 10000
    · have hX1 : (X : Int) ≤ 10000 := by omega
      go_wp2_with fail
      go_loopw [3, 5] (fun v s wr => VO = v ∧ ∃ k : Nat, k ≤ n ∧ s = .int .i64 k ∧ (List.range k).any (ht X) = false ∧ New W1 wr) (fun _ s _ => n - (intOf s).toNat)
      case atStart => exact ⟨rfl, 0, Nat.zero_le _, rfl, rfl, New.refl _⟩
      case round =>
        obtain ⟨rfl, k, hk, rfl, hany, hnw⟩ := hrel
        obtain ⟨W2, rfl⟩ : ∃ W2 : World, W2 = wr := ⟨_, rfl⟩
        have HANY := Lib.hid hany
        have HN2 := Lib.hid hnw
        have HO2 := Lib.hid (own_new HOW.out hnw)
        have hsz2 : w.heap.size ≤ W2.heap.size := (HNEW.out.trans hnw).size
        clear hany hnw
        by_cases hkn : k < n
        · obtain ⟨b, off, rfl, hs⟩ := HP.out (by omega)
          obtain ⟨_, gl, hcc⟩ := hs.new (HNEW.out.trans HN2.out)
          obtain ⟨c1, c2, c3, c4⟩ := hcc k hkn
          have hk1 : (k : Int) < (n : Int) := by omega
          have HHK := Lib.hid (HH.out X k)
          have HSN := Lib.hid (any_snoc' (ht X) k)
          have HIT := Lib.hid (fun h => any_hit' (f := ht X) hkn h)
          clear hcc hs
          generalize q1 l k = A1 at *
          generalize q2 l k = A2 at *
          generalize q3 l k = A3 at *
          generalize q4 l k = A4 at *
          by_cases u1 : (A1 == (X : Int)) = true
          · have HV := Lib.hid (show ev (X + 1) = ev X ++ [(X : Int)] by rw [HTX.out, if_pos (by rw [HEX.out]; exact HIT.out (by rw [HHK.out, u1]; rfl))])
            go_wp2_with (at_builtin; refine wpList_append_lies _ rfl (.tmp 34) (.tmp 36) 82 rfl w.heap.size 3 i0 _ 1 8 Tryz.underlying82 hi hz0 hz1 hz2 rfl (by omega) VO (ev X).length (inCells (ev X)) rfl ?_ _ 1 1 [.int .i64 X] rfl rfl ?_ ?_ (by omega) ?_ ?_ ?_ _ rfl ?_; exact own_new HO2.out (by (repeat (first | exact New.refl _ | exact New.refl _ | apply New.alloc | apply New.aft | apply New.drew | refine New.setCell ?_ ?_ _)); all_goals (first | done | (simp [size_aft]; done) | (simp [size_aft]; omega))); (refine cells_new _ _ _ _ ?_); (simp [go_sem]); (intro u hu; simp at hu; rcases hu with rfl <;> rfl); (unfold maxLen; omega); omega; (first | (simp [go_sem, Nat.add_assoc]; done) | (simp [go_sem, Nat.add_assoc]; omega)); intro g cap w2 hown2 hgrow2 hor2 hlt2; have HNW := Lib.hid (show New w w2 from new_grown (HNEW.out.trans ((by (repeat (first | exact HN2.out | exact New.refl _ | apply New.alloc | apply New.aft | apply New.drew | refine New.setCell ?_ ?_ _)); all_goals (first | done | (simp [size_aft]; done) | (simp [size_aft]; omega))))) hgrow2 HO2.out); have HO3 := Lib.hid hown2; clear hown2 hgrow2 hor2 hlt2)
            all_goals (go_roundw; (case rel => (exact ⟨X + 1, by omega, by go_num, by rw [HV.out, inCells_snoc, List.length_append]; exact HO3.out, HNW.out⟩)); (case measure => (simp [intOf]; omega)))
          · have z1 : (A1 == (X : Int)) = false := by simpa using u1
            clear u1
            by_cases u3 : (A3 == (X : Int)) = true
            · have HV := Lib.hid (show ev (X + 1) = ev X ++ [(X : Int)] by rw [HTX.out, if_pos (by rw [HEX.out]; exact HIT.out (by rw [HHK.out, z1, u3]; rfl))])
              go_wp2_with (at_builtin; refine wpList_append_lies _ rfl (.tmp 34) (.tmp 36) 82 rfl w.heap.size 3 i0 _ 1 8 Tryz.underlying82 hi hz0 hz1 hz2 rfl (by omega) VO (ev X).length (inCells (ev X)) rfl ?_ _ 1 1 [.int .i64 X] rfl rfl ?_ ?_ (by omega) ?_ ?_ ?_ _ rfl ?_; exact own_new HO2.out (by (repeat (first | exact New.refl _ | exact New.refl _ | apply New.alloc | apply New.aft | apply New.drew | refine New.setCell ?_ ?_ _)); all_goals (first | done | (simp [size_aft]; done) | (simp [size_aft]; omega))); (refine cells_new _ _ _ _ ?_); (simp [go_sem]); (intro u hu; simp at hu; rcases hu with rfl <;> rfl); (unfold maxLen; omega); omega; (first | (simp [go_sem, Nat.add_assoc]; done) | (simp [go_sem, Nat.add_assoc]; omega)); intro g cap w2 hown2 hgrow2 hor2 hlt2; have HNW := Lib.hid (show New w w2 from new_grown (HNEW.out.trans ((by (repeat (first | exact HN2.out | exact New.refl _ | apply New.alloc | apply New.aft | apply New.drew | refine New.setCell ?_ ?_ _)); all_goals (first | done | (simp [size_aft]; done) | (simp [size_aft]; omega))))) hgrow2 HO2.out); have HO3 := Lib.hid hown2; clear hown2 hgrow2 hor2 hlt2)
              all_goals (go_roundw; (case rel => (exact ⟨X + 1, by omega, by go_num, by rw [HV.out, inCells_snoc, List.length_append]; exact HO3.out, HNW.out⟩)); (case measure => (simp [intOf]; omega)))
            · have z3 : (A3 == (X : Int)) = false := by simpa using u3
              clear u3
              have HV := Lib.hid (show ht X k = false by rw [HHK.out, z1, z3]; rfl)
              go_wp2_with fail
              go_roundw
              case rel => exact ⟨rfl, k + 1, by omega, by go_num, by rw [HSN.out, HANY.out, HV.out]; rfl, (by (repeat (first | exact HN2.out | exact New.refl _ | apply New.alloc | apply New.aft | apply New.drew | refine New.setCell ?_ ?_ _)); all_goals (first | done | (simp [size_aft]; done) | (simp [size_aft]; omega)))⟩
              case measure => simp [intOf]; omega
        · obtain rfl : k = n := by omega
          have HV := Lib.hid (show ev (X + 1) = ev X by rw [HTX.out, if_neg (by rw [HEX.out, HANY.out]; simp)])
          go_wp2_with fail
          go_roundw
          case rel => exact ⟨X + 1, by omega, by go_num, by rw [HV.out]; exact own_new HO2.out (by (repeat (first | exact New.refl _ | exact New.refl _ | apply New.alloc | apply New.aft | apply New.drew | refine New.setCell ?_ ?_ _)); all_goals (first | done | (simp [size_aft]; done) | (simp [size_aft]; omega))), HNEW.out.trans ((by (repeat (first | exact HN2.out | exact New.refl _ | apply New.alloc | apply New.aft | apply New.drew | refine New.setCell ?_ ?_ _)); all_goals (first | done | (simp [size_aft]; done) | (simp [size_aft]; omega))))⟩
          case measure => simp [intOf]; omega
    · have hX1 : ¬ (X : Int) ≤ 10000 := by omega
      obtain rfl : X = 10001 := by omega
      go_wp2_with fail
      go_ret
      exact ⟨_, rfl, HOW.out, HNEW.out⟩

end Go.Proofs.YtpdfbboagaflhaaGreat

set_option linter.unusedSimpArgs false
set_option linter.unusedVariables false
set_option maxRecDepth 100000
namespace Go.Proofs.YtpdfbboagaflhaaGreat
open Go.RowKit

def idxB (l : List S4) (L : List Int) (F T : Int) (k : Nat) : Bool := ((decide (0 ≤ L.getD k 0) && decide (L.getD k 0 < (l.length : Int))) && spanAt l F T (L.getD k 0).toNat) && !(List.range k).any (fun j => L.getD j 0 == L.getD k 0)
def lonB (l : List S4) (L : List Int) (x : Int) (k j : Nat) : Bool := (freeAt l L x k && freeAt l L x j) && (cmA l L (2 * x) k j == 0)
def lonA (l : List S4) (L : List Int) (x : Int) (k : Nat) : Bool := (List.range k).any (lonB l L x k)
def loneB (l : List S4) (L : List Int) (x : Int) : Bool := !(List.range L.length).any (lonA l L x)
structure StripR (l : List S4) (F T : Int) (L : List Int) : Prop where
  len : L.length = (spanTo l F T l.length).length
  idx : ∀ k, k < L.length → idxB l L F T k = true
  ris : risB l L F T = true
  low : loneB l L F = true
  high : loneB l L T = true
theorem idxB_iff {l : List S4} {L : List Int} {F T : Int} {k : Nat} : idxB l L F T k = true ↔ ((0 ≤ L.getD k 0 ∧ L.getD k 0 < (l.length : Int)) ∧ spanAt l F T (L.getD k 0).toNat = true) ∧ ∀ j, j < k → L.getD j 0 ≠ L.getD k 0 := by
  unfold idxB
  simp only [Bool.and_eq_true, decide_eq_true_eq, Bool.not_eq_true', List.any_eq_false, List.mem_range, beq_iff_eq]
  all_goals (first | done | simp)
theorem span_ne {l : List S4} {F T : Int} {i : Nat} (h : spanAt l F T i = true) (hFT : F < T) : q1 l i ≠ q3 l i := by
  unfold spanAt at h
  simp only [Bool.and_eq_true, decide_eq_true_eq] at h
  omega
theorem box_c {w W : World} {F T : Int} {v : Value} (h : New (w.alloc (.cells #[.int .i64 F, .int .i64 T, v] 84)) W) : (W.cell? ⟨w.heap.size, 0, none⟩ = some (.int .i64 F) ∧ W.cell? ⟨w.heap.size, 1, none⟩ = some (.int .i64 T)) ∧ W.cell? ⟨w.heap.size, 2, none⟩ = some v ∧ w.heap.size < W.heap.size := by
  have K := fun o => h.below.cell (p := ⟨w.heap.size, o, none⟩) (by simp)
  exact ⟨⟨(K 0).trans (by simp [go_sem]), (K 1).trans (by simp [go_sem])⟩, (K 2).trans (by simp [go_sem]), by have := h.size; simp at this; omega⟩
theorem cell4 {W W' : World} {g : Nat} {a b c d : Value} (h : New W W') (hg : g < W.heap.size) (h4 : W.cell? ⟨g, 0, none⟩ = some a ∧ W.cell? ⟨g, 1, none⟩ = some b ∧ W.cell? ⟨g, 2, none⟩ = some c ∧ W.cell? ⟨g, 3, none⟩ = some d) : (W'.cell? ⟨g, 0, none⟩ = some a ∧ W'.cell? ⟨g, 1, none⟩ = some b ∧ W'.cell? ⟨g, 2, none⟩ = some c ∧ W'.cell? ⟨g, 3, none⟩ = some d) ∧ g < W'.heap.size := by
  have K := fun o => h.below.cell (p := ⟨g, o, none⟩) hg
  exact ⟨⟨(K 0).trans h4.1, (K 1).trans h4.2.1, (K 2).trans h4.2.2.1, (K 3).trans h4.2.2.2⟩, Nat.lt_of_lt_of_le hg h.size⟩
/-- how many of the first k segments reach over a strip -/
def wantN (l : List S4) (F T : Int) (k : Nat) : Nat := (spanTo l F T k).length
theorem wantN_succ (l : List S4) (F T : Int) (k : Nat) : wantN l F T (k + 1) = if spanAt l F T k = true then wantN l F T k + 1 else wantN l F T k := by
  unfold wantN; simp only [spanTo]; split <;> simp

end Go.Proofs.YtpdfbboagaflhaaGreat

set_option linter.unusedSimpArgs false
set_option linter.unusedVariables false
set_option maxRecDepth 100000
namespace Go.Proofs.YtpdfbboagaflhaaGreat
open Go.RowKit

set_option maxHeartbeats 16000000 in
theorem strip_len (b off n c : Nat) (l : List S4) (L : List Int) (F T : Int) (v : Value) (w : World) (m : Nat) (hl : n ≤ 1000000) (hw : Segs w b off n l) (hmL : L.length = m) (hv : ∃ av cv, v = .slice av m cv ∧ (0 < m → ∃ bv ov, av = some ⟨bv, ov, none⟩ ∧ Ints w bv ov m L)) (hok : okSegs l = true) (hF : 0 ≤ F ∧ F ≤ 10000) (hT : 0 ≤ T ∧ T ≤ 10000) (hFT : F < T) (hm0 : m ≤ 17592186044415) (hlen : m ≠ wantN l F T n) :
    Calls Tryz.prog 156 #[.slice (some ⟨b, off, none⟩) n c, .agg #[.int .i64 F, .int .i64 T, v]] w fun e w' => e = .returned (.bool false) ∧ New w w' := by
  have hln := hw.1
  obtain ⟨av, cv, rfl, hv'⟩ := hv
  have HIN := Lib.hid hv'
  clear hv'
  have hwn := spanTo_le l F T n
  have HOK := Lib.hid (fun j (hj : j < n) => okS_iff.1 (okSegs_at l j (by omega) hok))
  have HSG := Lib.hid (fun (W : World) (h : New w W) => hw.new h)
  have HWS := Lib.hid (wantN_succ l F T)
  have HW0 := Lib.hid (show wantN l F T 0 = 0 from rfl)
  have HWL := Lib.hid (show ∀ k, wantN l F T k ≤ k from spanTo_le l F T)
  have HSC := Lib.hid (fun (k : Nat) (w1 : World) => (show Calls Tryz.prog 148 #[sv (q1 l k) (q2 l k) (q3 l k) (q4 l k), .int .i64 F, .int .i64 T] w1 fun e w' => e = .returned (.bool (spanAt l F T k)) ∧ New w1 w' from by have := spans_c (q1 l k) (q2 l k) (q3 l k) (q4 l k) F T w1; rwa [spanB_at] at this))
  generalize wantN l F T = wantF at *
  go_enter Tryz.func156, Tryz.ntmps156
  go_wp2_with fail
  go_loopw [5, 6] (fun s i wr => ∃ k : Nat, k ≤ n ∧ i = .int .i64 k ∧ s = .int .i64 (wantF k) ∧ New (w.alloc (.cells #[.int .i64 F, .int .i64 T, .slice av m cv] 84)) wr) (fun _ i _ => n - (intOf i).toNat)
  case atStart => exact ⟨0, Nat.zero_le _, rfl, by rw [HW0.out]; rfl, New.refl _⟩
  case round =>
    obtain ⟨k, hk, rfl, rfl, hn1⟩ := hrel
    obtain ⟨U1, rfl⟩ : ∃ U1 : World, U1 = wr := ⟨_, rfl⟩
    have HN1 := Lib.hid hn1
    have HNW1 := Lib.hid (show New w U1 from ((New.refl w).alloc _).trans hn1)
    obtain ⟨⟨d0, d1⟩, d2, hxb⟩ := box_c hn1
    clear hn1
    by_cases hkn : k < n
    · obtain ⟨_, gl, hcc⟩ := HSG.out _ HNW1.out
      obtain ⟨c1, c2, c3, c4⟩ := hcc k hkn
      have hk1 : (k : Int) < (n : Int) := by omega
      have HSCk := Lib.hid (HSC.out k)
      have HWSk := Lib.hid (HWS.out k)
      have hwk := HWL.out k
      clear hcc
      generalize q1 l k = A1 at *
      generalize q2 l k = A2 at *
      generalize q3 l k = A3 at *
      generalize q4 l k = A4 at *
      generalize spanAt l F T k = sp at *
      cases sp
      · have HV := Lib.hid (show wantF (k + 1) = wantF k by rw [HWSk.out]; simp)
        go_wp2_with fail
        first | refine wp_region_at2 (by kernel_rfl) (by kernel_rfl) ?_ | refine wp_region_at (by kernel_rfl) (by kernel_rfl) ?_
        repeat (go_big_quiet_step (first | (go_at_call 148; (with_reducible exact calls_new (HSCk.out _)))))
        refine wpQuiet_nil ?_
        rintro _ ⟨pq, rfl⟩
        go_wp2_with fail
        go_roundw
        case rel => exact ⟨k + 1, by omega, by go_num, (by rw [HV.out]), (by (repeat (first | exact HN1.out | exact New.refl _ | apply New.alloc | apply New.aft | apply New.drew | refine New.setCell ?_ ?_ _)); all_goals (first | done | (simp [size_aft]; done) | (simp [size_aft]; omega)))⟩
        case measure => simp [intOf]; omega
      · have HV := Lib.hid (show wantF (k + 1) = wantF k + 1 by rw [HWSk.out]; simp)
        go_wp2_with fail
        first | refine wp_region_at2 (by kernel_rfl) (by kernel_rfl) ?_ | refine wp_region_at (by kernel_rfl) (by kernel_rfl) ?_
        repeat (go_big_quiet_step (first | (go_at_call 148; (with_reducible exact calls_new (HSCk.out _)))))
        refine wpQuiet_nil ?_
        rintro _ ⟨pq, rfl⟩
        go_wp2_with fail
        go_roundw
        case rel => exact ⟨k + 1, by omega, by go_num, (by rw [HV.out]; go_num), (by (repeat (first | exact HN1.out | exact New.refl _ | apply New.alloc | apply New.aft | apply New.drew | refine New.setCell ?_ ?_ _)); all_goals (first | done | (simp [size_aft]; done) | (simp [size_aft]; omega)))⟩
        case measure => simp [intOf]; omega
    · obtain rfl : n = k := by omega
      have z1 : ((m : Int) != (wantF n : Int)) = true := by simp; omega
      go_wp2_with fail
      go_ret
      exact ⟨rfl, (by (repeat (first | exact HNW1.out | exact New.refl _ | apply New.alloc | apply New.aft | apply New.drew | refine New.setCell ?_ ?_ _)); all_goals (first | done | (simp [size_aft]; done) | (simp [size_aft]; omega)))⟩

set_option maxHeartbeats 32000000 in
theorem strip_idx (b off n c : Nat) (l : List S4) (L : List Int) (F T : Int) (v : Value) (w : World) (m : Nat) (hl : n ≤ 1000000) (hw : Segs w b off n l) (hmL : L.length = m) (hv : ∃ av cv, v = .slice av m cv ∧ (0 < m → ∃ bv ov, av = some ⟨bv, ov, none⟩ ∧ Ints w bv ov m L)) (hok : okSegs l = true) (hF : 0 ≤ F ∧ F ≤ 10000) (hT : 0 ≤ T ∧ T ≤ 10000) (hFT : F < T) (hlen : m = wantN l F T n) (K : Nat) (hK : K < m) (hidx : ∀ k, k < K → idxB l L F T k = true) (hbad : idxB l L F T K = false) :
    Calls Tryz.prog 156 #[.slice (some ⟨b, off, none⟩) n c, .agg #[.int .i64 F, .int .i64 T, v]] w fun e w' => e = .returned (.bool false) ∧ New w w' := by
  have hln := hw.1
  obtain ⟨av, cv, rfl, hv'⟩ := hv
  have HIN := Lib.hid hv'
  clear hv'
  have hwn := spanTo_le l F T n
  have HOK := Lib.hid (fun j (hj : j < n) => okS_iff.1 (okSegs_at l j (by omega) hok))
  have HSG := Lib.hid (fun (W : World) (h : New w W) => hw.new h)
  have HWS := Lib.hid (wantN_succ l F T)
  have HW0 := Lib.hid (show wantN l F T 0 = 0 from rfl)
  have HWL := Lib.hid (show ∀ k, wantN l F T k ≤ k from spanTo_le l F T)
  have HSC := Lib.hid (fun (k : Nat) (w1 : World) => (show Calls Tryz.prog 148 #[sv (q1 l k) (q2 l k) (q3 l k) (q4 l k), .int .i64 F, .int .i64 T] w1 fun e w' => e = .returned (.bool (spanAt l F T k)) ∧ New w1 w' from by have := spans_c (q1 l k) (q2 l k) (q3 l k) (q4 l k) F T w1; rwa [spanB_at] at this))
  have hmn : m ≤ n := by rw [hlen]; exact hwn
  have HLEN := Lib.hid hlen
  clear hlen
  have HIX := Lib.hid (fun k (hk : k < K) => (by have := idxB_iff.1 (hidx k hk); rwa [hln] at this : ((0 ≤ L.getD k 0 ∧ L.getD k 0 < (n : Int)) ∧ spanAt l F T (L.getD k 0).toNat = true) ∧ ∀ j, j < k → L.getD j 0 ≠ L.getD k 0))
  have HBAD := Lib.hid (show ¬ (((0 ≤ L.getD K 0 ∧ L.getD K 0 < (n : Int)) ∧ spanAt l F T (L.getD K 0).toNat = true) ∧ ∀ j, j < K → L.getD j 0 ≠ L.getD K 0) from fun h => by rw [← hln] at h; rw [idxB_iff.2 h] at hbad; cases hbad)
  clear hidx hbad
  generalize wantN l F T = wantF at *
  go_enter Tryz.func156, Tryz.ntmps156
  go_wp2_with fail
  go_loopw [5, 6] (fun s i wr => ∃ k : Nat, k ≤ n ∧ i = .int .i64 k ∧ s = .int .i64 (wantF k) ∧ New (w.alloc (.cells #[.int .i64 F, .int .i64 T, .slice av m cv] 84)) wr) (fun _ i _ => n - (intOf i).toNat)
  case atStart => exact ⟨0, Nat.zero_le _, rfl, by rw [HW0.out]; rfl, New.refl _⟩
  case round =>
    obtain ⟨k, hk, rfl, rfl, hn1⟩ := hrel
    obtain ⟨U1, rfl⟩ : ∃ U1 : World, U1 = wr := ⟨_, rfl⟩
    have HN1 := Lib.hid hn1
    have HNW1 := Lib.hid (show New w U1 from ((New.refl w).alloc _).trans hn1)
    obtain ⟨⟨d0, d1⟩, d2, hxb⟩ := box_c hn1
    clear hn1
    by_cases hkn : k < n
    · obtain ⟨_, gl, hcc⟩ := HSG.out _ HNW1.out
      obtain ⟨c1, c2, c3, c4⟩ := hcc k hkn
      have hk1 : (k : Int) < (n : Int) := by omega
      have HSCk := Lib.hid (HSC.out k)
      have HWSk := Lib.hid (HWS.out k)
      have hwk := HWL.out k
      clear hcc
      generalize q1 l k = A1 at *
      generalize q2 l k = A2 at *
      generalize q3 l k = A3 at *
      generalize q4 l k = A4 at *
      generalize spanAt l F T k = sp at *
      cases sp
      · have HV := Lib.hid (show wantF (k + 1) = wantF k by rw [HWSk.out]; simp)
        go_wp2_with fail
        first | refine wp_region_at2 (by kernel_rfl) (by kernel_rfl) ?_ | refine wp_region_at (by kernel_rfl) (by kernel_rfl) ?_
        repeat (go_big_quiet_step (first | (go_at_call 148; (with_reducible exact calls_new (HSCk.out _)))))
        refine wpQuiet_nil ?_
        rintro _ ⟨pq, rfl⟩
        go_wp2_with fail
        go_roundw
        case rel => exact ⟨k + 1, by omega, by go_num, (by rw [HV.out]), (by (repeat (first | exact HN1.out | exact New.refl _ | apply New.alloc | apply New.aft | apply New.drew | refine New.setCell ?_ ?_ _)); all_goals (first | done | (simp [size_aft]; done) | (simp [size_aft]; omega)))⟩
        case measure => simp [intOf]; omega
      · have HV := Lib.hid (show wantF (k + 1) = wantF k + 1 by rw [HWSk.out]; simp)
        go_wp2_with fail
        first | refine wp_region_at2 (by kernel_rfl) (by kernel_rfl) ?_ | refine wp_region_at (by kernel_rfl) (by kernel_rfl) ?_
        repeat (go_big_quiet_step (first | (go_at_call 148; (with_reducible exact calls_new (HSCk.out _)))))
        refine wpQuiet_nil ?_
        rintro _ ⟨pq, rfl⟩
        go_wp2_with fail
        go_roundw
        case rel => exact ⟨k + 1, by omega, by go_num, (by rw [HV.out]; go_num), (by (repeat (first | exact HN1.out | exact New.refl _ | apply New.alloc | apply New.aft | apply New.drew | refine New.setCell ?_ ?_ _)); all_goals (first | done | (simp [size_aft]; done) | (simp [size_aft]; omega)))⟩
        case measure => simp [intOf]; omega
    · obtain rfl : n = k := by omega
      have z1 : ((m : Int) != (wantF n : Int)) = false := by have := HLEN.out; simp; omega
      go_wp2_with fail
      go_loopw [8] (fun i wr => ∃ k : Nat, k ≤ K ∧ i = .int .i64 k ∧ New U1 wr) (fun i _ => m - (intOf i).toNat)
      case atStart => exact ⟨0, Nat.zero_le _, rfl, (by (repeat (first | exact New.refl _ | apply New.alloc | apply New.aft | apply New.drew)))⟩
      case round =>
        obtain ⟨k, hk, rfl, hn2⟩ := hrel
        obtain ⟨U2, rfl⟩ : ∃ U2 : World, U2 = wr := ⟨_, rfl⟩
        have HN2 := Lib.hid hn2
        have HNB2 := Lib.hid (HN1.out.trans hn2)
        have HNW2 := Lib.hid (HNW1.out.trans hn2)
        clear d0 d1 d2 hxb
        obtain ⟨⟨d0, d1⟩, d2, hxb⟩ := box_c HNB2.out
        clear hn2
        by_cases hkK : k < K
        · skip
          obtain ⟨bv, ov, rfl, hI⟩ := HIN.out (by omega)
          obtain ⟨_, hbv, hIc⟩ := hI.new HNW2.out
          have x0 := hIc k (by omega)
          have hk1 : (k : Int) < (m : Int) := by omega
          obtain ⟨⟨⟨j0, j1⟩, jsp⟩, jne⟩ := HIX.out k (by omega)
          obtain ⟨_, gl, hcc⟩ := HSG.out _ HNW2.out
          obtain ⟨c1, c2, c3, c4⟩ := hcc (L.getD k 0).toNat (by omega)
          have HSCk := Lib.hid (fun w1 => (show Calls Tryz.prog 148 #[sv (q1 l (L.getD k 0).toNat) (q2 l (L.getD k 0).toNat) (q3 l (L.getD k 0).toNat) (q4 l (L.getD k 0).toNat), .int .i64 F, .int .i64 T] w1 fun e w' => e = .returned (.bool true) ∧ New w1 w' from by have := HSC.out (L.getD k 0).toNat w1; rwa [jsp] at this))
          have HJN := Lib.hid jne
          clear hcc jsp jne hI hIc
          generalize L.getD k 0 = J at *
          generalize q1 l J.toNat = A1 at *
          generalize q2 l J.toNat = A2 at *
          generalize q3 l J.toNat = A3 at *
          generalize q4 l J.toNat = A4 at *
          have z1 : decide (J < 0) = false := decide_eq_false (by omega)
          have z2 : decide (J ≥ (n : Int)) = false := decide_eq_false (by omega)
          have z3 : decide ((n : Int) ≤ J) = false := decide_eq_false (by omega)
          go_wp2_with fail
          first | refine wp_region_at2 (by kernel_rfl) (by kernel_rfl) ?_ | refine wp_region_at (by kernel_rfl) (by kernel_rfl) ?_
          repeat (go_big_quiet_step (first | (go_at_call 148; (with_reducible exact calls_new (HSCk.out _)))))
          refine wpQuiet_nil ?_
          rintro U3 hq3
          have HN3 := Lib.hid (show New U2 U3 from hq3)
          have HNB3 := Lib.hid (HNB2.out.trans HN3.out)
          have HNW3 := Lib.hid (HNW2.out.trans HN3.out)
          clear hq3 d0 d1 d2 hxb c1 c2 c3 c4 gl x0 hbv
          go_wp2_with fail
          go_loopw [11] (fun s wr => ∃ j : Nat, j ≤ k ∧ s = .int .i64 j ∧ New U3 wr) (fun s _ => k - (intOf s).toNat)
          case atStart => exact ⟨0, Nat.zero_le _, rfl, (by (repeat (first | exact New.refl _ | apply New.alloc | apply New.aft | apply New.drew | refine New.setCell ?_ ?_ _)); all_goals (first | done | (simp [size_aft]; done) | (simp [size_aft]; omega)))⟩
          case round =>
            obtain ⟨j, hj, rfl, hn4⟩ := hrel
            obtain ⟨⟨d0, d1⟩, d2, hxb⟩ := box_c (HNB3.out.trans hn4)
            have HN4 := Lib.hid hn4
            clear hn4
            by_cases hjk : j < k
            · obtain ⟨bv', ov', e', hI⟩ := HIN.out (by omega)
              cases e'
              obtain ⟨_, hbv2, hIc⟩ := hI.new (HNW3.out.trans HN4.out)
              have x1 := hIc j (by omega)
              have hj1 : (j : Int) < (k : Int) := by omega
              have hj2 : (j : Int) < (m : Int) := by omega
              have zj : (L.getD j 0 == J) = false := by simpa using HJN.out j hjk
              clear hI hIc
              generalize L.getD j 0 = Y at *
              go_wp2_with fail
              go_roundw
              case rel => exact ⟨j + 1, by omega, by go_num, (by (repeat (first | exact HN4.out | exact New.refl _ | apply New.alloc | apply New.aft | apply New.drew | refine New.setCell ?_ ?_ _)); all_goals (first | done | (simp [size_aft]; done) | (simp [size_aft]; omega)))⟩
              case measure => simp [intOf]; omega
            · obtain rfl : j = k := by omega
              go_wp2_with fail
              go_roundw
              case rel => exact ⟨j + 1, by omega, by go_num, HN2.out.trans (HN3.out.trans (by (repeat (first | exact HN4.out | exact New.refl _ | apply New.alloc | apply New.aft | apply New.drew | refine New.setCell ?_ ?_ _)); all_goals (first | done | (simp [size_aft]; done) | (simp [size_aft]; omega))))⟩
              case measure => simp [intOf]; omega
        · obtain rfl : k = K := by omega
          obtain ⟨bv, ov, rfl, hI⟩ := HIN.out (by omega)
          obtain ⟨_, hbv, hIc⟩ := hI.new HNW2.out
          have x0 := hIc k (by omega)
          have hk1 : (k : Int) < (m : Int) := by omega
          obtain ⟨_, gl, hcc⟩ := HSG.out _ HNW2.out
          clear hI hIc
          have HLJ := Lib.hid (fun j => (rfl : L.getD j 0 = L.getD j 0))
          by_cases j0 : 0 ≤ L.getD k 0
          · have z1 : decide (L.getD k 0 < 0) = false := decide_eq_false (by omega)
            by_cases j1 : L.getD k 0 < (n : Int)
            · have z2 : decide (L.getD k 0 ≥ (n : Int)) = false := decide_eq_false (by omega)
              have z3 : decide ((n : Int) ≤ L.getD k 0) = false := decide_eq_false (by omega)
              obtain ⟨c1, c2, c3, c4⟩ := hcc (L.getD k 0).toNat (by omega)
              clear hcc
              by_cases jsp : spanAt l F T (L.getD k 0).toNat = true
              · have HEX := Lib.hid (show ¬ ∀ j, j < k → L.getD j 0 ≠ L.getD k 0 from fun h => HBAD.out ⟨⟨⟨j0, j1⟩, jsp⟩, h⟩)
                have HSCk := Lib.hid (fun w1 => (show Calls Tryz.prog 148 #[sv (q1 l (L.getD k 0).toNat) (q2 l (L.getD k 0).toNat) (q3 l (L.getD k 0).toNat) (q4 l (L.getD k 0).toNat), .int .i64 F, .int .i64 T] w1 fun e w' => e = .returned (.bool true) ∧ New w1 w' from by have := HSC.out (L.getD k 0).toNat w1; rwa [jsp] at this))
                clear jsp
                generalize L.getD k 0 = J at *
                generalize q1 l J.toNat = A1 at *
                generalize q2 l J.toNat = A2 at *
                generalize q3 l J.toNat = A3 at *
                generalize q4 l J.toNat = A4 at *
                go_wp2_with fail
                first | refine wp_region_at2 (by kernel_rfl) (by kernel_rfl) ?_ | refine wp_region_at (by kernel_rfl) (by kernel_rfl) ?_
                repeat (go_big_quiet_step (first | (go_at_call 148; (with_reducible exact calls_new (HSCk.out _)))))
                refine wpQuiet_nil ?_
                rintro U3 hq3
                have HN3 := Lib.hid (show New U2 U3 from hq3)
                have HNB3 := Lib.hid (HNB2.out.trans HN3.out)
                have HNW3 := Lib.hid (HNW2.out.trans HN3.out)
                clear hq3 d0 d1 d2 hxb c1 c2 c3 c4 gl x0 hbv
                go_wp2_with fail
                go_loopw [11] (fun s wr => ∃ j : Nat, j ≤ k ∧ s = .int .i64 j ∧ (∀ i, i < j → L.getD i 0 ≠ J) ∧ New U3 wr) (fun s _ => k - (intOf s).toNat)
                case atStart => exact ⟨0, Nat.zero_le _, rfl, fun i hi => by omega, (by (repeat (first | exact New.refl _ | apply New.alloc | apply New.aft | apply New.drew | refine New.setCell ?_ ?_ _)); all_goals (first | done | (simp [size_aft]; done) | (simp [size_aft]; omega)))⟩
                case round =>
                  obtain ⟨j, hj, rfl, hall, hn4⟩ := hrel
                  have HALL := Lib.hid hall
                  clear hall
                  obtain ⟨⟨d0, d1⟩, d2, hxb⟩ := box_c (HNB3.out.trans hn4)
                  have HN4 := Lib.hid hn4
                  clear hn4
                  by_cases hjk : j < k
                  · obtain ⟨bv', ov', e', hI⟩ := HIN.out (by omega)
                    cases e'
                    obtain ⟨_, hbv2, hIc⟩ := hI.new (HNW3.out.trans HN4.out)
                    have x1 := hIc j (by omega)
                    have hj1 : (j : Int) < (k : Int) := by omega
                    have hj2 : (j : Int) < (m : Int) := by omega
                    clear hI hIc
                    by_cases hy : L.getD j 0 = J
                    · have zj : (L.getD j 0 == J) = true := by simpa using hy
                      clear hy
                      generalize L.getD j 0 = Y at *
                      go_wp2_with fail
                      go_ret
                      exact ⟨rfl, HNW3.out.trans (by (repeat (first | exact HN4.out | exact New.refl _ | apply New.alloc | apply New.aft | apply New.drew | refine New.setCell ?_ ?_ _)); all_goals (first | done | (simp [size_aft]; done) | (simp [size_aft]; omega)))⟩
                    · have zj : (L.getD j 0 == J) = false := by simpa using hy
                      have HY := Lib.hid hy
                      clear hy
                      have HAL2 := Lib.hid (show ∀ i, i < j + 1 → L.getD i 0 ≠ J from fun i hi => by
                        rcases Nat.lt_or_ge i j with g | g
                        · exact HALL.out i g
                        · obtain rfl : i = j := by omega
                          exact HY.out)
                      generalize L.getD j 0 = Y at *
                      go_wp2_with fail
                      go_roundw
                      case rel => exact ⟨j + 1, by omega, by go_num, HAL2.out, (by (repeat (first | exact HN4.out | exact New.refl _ | apply New.alloc | apply New.aft | apply New.drew | refine New.setCell ?_ ?_ _)); all_goals (first | done | (simp [size_aft]; done) | (simp [size_aft]; omega)))⟩
                      case measure => simp [intOf]; omega
                  · obtain rfl : j = k := by omega
                    exact absurd HALL.out HEX.out
              · have HSCk := Lib.hid (fun w1 => (show Calls Tryz.prog 148 #[sv (q1 l (L.getD k 0).toNat) (q2 l (L.getD k 0).toNat) (q3 l (L.getD k 0).toNat) (q4 l (L.getD k 0).toNat), .int .i64 F, .int .i64 T] w1 fun e w' => e = .returned (.bool false) ∧ New w1 w' from by have := HSC.out (L.getD k 0).toNat w1; rwa [Bool.eq_false_iff.2 jsp] at this))
                clear jsp
                generalize L.getD k 0 = J at *
                generalize q1 l J.toNat = A1 at *
                generalize q2 l J.toNat = A2 at *
                generalize q3 l J.toNat = A3 at *
                generalize q4 l J.toNat = A4 at *
                go_wp2_with fail
                first | refine wp_region_at2 (by kernel_rfl) (by kernel_rfl) ?_ | refine wp_region_at (by kernel_rfl) (by kernel_rfl) ?_
                repeat (go_big_quiet_step (first | (go_at_call 148; (with_reducible exact calls_new (HSCk.out _)))))
                refine wpQuiet_nil ?_
                rintro _ ⟨pq, rfl⟩
                go_wp2_with fail
                go_ret
                exact ⟨rfl, (by (repeat (first | exact HNW2.out | exact New.refl _ | apply New.alloc | apply New.aft | apply New.drew | refine New.setCell ?_ ?_ _)); all_goals (first | done | (simp [size_aft]; done) | (simp [size_aft]; omega)))⟩
            · have z2 : decide (L.getD k 0 ≥ (n : Int)) = true := decide_eq_true (by omega)
              have z3 : decide ((n : Int) ≤ L.getD k 0) = true := decide_eq_true (by omega)
              clear hcc
              generalize L.getD k 0 = J at *
              go_wp2_with fail
              go_ret
              exact ⟨rfl, (by (repeat (first | exact HNW2.out | exact New.refl _ | apply New.alloc | apply New.aft | apply New.drew | refine New.setCell ?_ ?_ _)); all_goals (first | done | (simp [size_aft]; done) | (simp [size_aft]; omega)))⟩
          · have z1 : decide (L.getD k 0 < 0) = true := decide_eq_true (by omega)
            clear hcc
            generalize L.getD k 0 = J at *
            go_wp2_with fail
            go_ret
            exact ⟨rfl, (by (repeat (first | exact HNW2.out | exact New.refl _ | apply New.alloc | apply New.aft | apply New.drew | refine New.setCell ?_ ?_ _)); all_goals (first | done | (simp [size_aft]; done) | (simp [size_aft]; omega)))⟩

set_option maxHeartbeats 64000000 in
theorem strip_go (b off n c : Nat) (l : List S4) (L : List Int) (F T : Int) (v : Value) (w : World) (m : Nat) (hl : n ≤ 1000000) (hw : Segs w b off n l) (hmL : L.length = m) (hv : ∃ av cv, v = .slice av m cv ∧ (0 < m → ∃ bv ov, av = some ⟨bv, ov, none⟩ ∧ Ints w bv ov m L)) (hok : okSegs l = true) (hF : 0 ≤ F ∧ F ≤ 10000) (hT : 0 ≤ T ∧ T ≤ 10000) (hFT : F < T) (hlen : m = wantN l F T n) (hidx : ∀ k, k < m → idxB l L F T k = true) :
    Calls Tryz.prog 156 #[.slice (some ⟨b, off, none⟩) n c, .agg #[.int .i64 F, .int .i64 T, v]] w fun e w' => e = .returned (.bool ((risB l L F T && loneB l L F) && loneB l L T)) ∧ New w w' := by
  have hln := hw.1
  obtain ⟨av, cv, rfl, hv'⟩ := hv
  have HIN := Lib.hid hv'
  clear hv'
  have hwn := spanTo_le l F T n
  have HOK := Lib.hid (fun j (hj : j < n) => okS_iff.1 (okSegs_at l j (by omega) hok))
  have HSG := Lib.hid (fun (W : World) (h : New w W) => hw.new h)
  have HWS := Lib.hid (wantN_succ l F T)
  have HW0 := Lib.hid (show wantN l F T 0 = 0 from rfl)
  have HWL := Lib.hid (show ∀ k, wantN l F T k ≤ k from spanTo_le l F T)
  have HSC := Lib.hid (fun (k : Nat) (w1 : World) => (show Calls Tryz.prog 148 #[sv (q1 l k) (q2 l k) (q3 l k) (q4 l k), .int .i64 F, .int .i64 T] w1 fun e w' => e = .returned (.bool (spanAt l F T k)) ∧ New w1 w' from by have := spans_c (q1 l k) (q2 l k) (q3 l k) (q4 l k) F T w1; rwa [spanB_at] at this))
  have hmn : m ≤ n := by rw [hlen]; exact hwn
  have HLEN := Lib.hid hlen
  clear hlen
  have HIX := Lib.hid (fun k (hk : k < m) => (by have := idxB_iff.1 (hidx k hk); rwa [hln] at this : ((0 ≤ L.getD k 0 ∧ L.getD k 0 < (n : Int)) ∧ spanAt l F T (L.getD k 0).toNat = true) ∧ ∀ j, j < k → L.getD j 0 ≠ L.getD k 0))
  have HRI := Lib.hid (show risB l L F T = !(List.range (m - 1)).any (badR l L F T) by rw [← hmL]; rfl)
  have HLO := Lib.hid (show ∀ x, loneB l L x = !(List.range m).any (lonA l L x) from fun x => by rw [← hmL]; rfl)
  have HBD := Lib.hid (show ∀ p, badR l L F T p = ((decide (0 < cmA l L (2 * F) p (p + 1)) || decide (0 < cmA l L (2 * T) p (p + 1))) || (cmA l L (2 * F) p (p + 1) == 0 && cmA l L (2 * T) p (p + 1) == 0)) from fun _ => rfl)
  have HLA := Lib.hid (show ∀ x k, lonA l L x k = (List.range k).any (lonB l L x k) from fun _ _ => rfl)
  have HLB := Lib.hid (show ∀ x k j, lonB l L x k j = ((freeAt l L x k && freeAt l L x j) && (cmA l L (2 * x) k j == 0)) from fun _ _ _ => rfl)
  have HCM := Lib.hid (show ∀ x k j, cmA l L (2 * x) k j = cmpR (hN1 (q1 l (L.getD k 0).toNat) (q2 l (L.getD k 0).toNat) (q3 l (L.getD k 0).toNat) (q4 l (L.getD k 0).toNat) x) (hW1 (q1 l (L.getD k 0).toNat) (q2 l (L.getD k 0).toNat) (q3 l (L.getD k 0).toNat) (q4 l (L.getD k 0).toNat)) (hN1 (q1 l (L.getD j 0).toNat) (q2 l (L.getD j 0).toNat) (q3 l (L.getD j 0).toNat) (q4 l (L.getD j 0).toNat) x) (hW1 (q1 l (L.getD j 0).toNat) (q2 l (L.getD j 0).toNat) (q3 l (L.getD j 0).toNat) (q4 l (L.getD j 0).toNat)) from fun x k j => (cmp_h1 _ _ _ _ _ _ _ _ x).symm)
  have HFR := Lib.hid (show ∀ x k, freeAt l L x k = !endB (q1 l (L.getD k 0).toNat) (q3 l (L.getD k 0).toNat) x from fun x k => by unfold freeAt endB; rw [Bool.not_or])
  have HFK := Lib.hid (show ∀ k, k < m → q1 l (L.getD k 0).toNat ≠ q3 l (L.getD k 0).toNat from fun k hk => span_ne (HIX.out k hk).1.2 hFT)
  clear hidx
  generalize wantN l F T = wantF at *
  generalize loneB l L = lone at *
  generalize lonA l L = lonA' at *
  generalize lonB l L = lonB' at *
  generalize risB l L F T = ris at *
  generalize badR l L F T = bad at *
  go_enter Tryz.func156, Tryz.ntmps156
  go_wp2_with fail
  go_loopw [5, 6] (fun s i wr => ∃ k : Nat, k ≤ n ∧ i = .int .i64 k ∧ s = .int .i64 (wantF k) ∧ New (w.alloc (.cells #[.int .i64 F, .int .i64 T, .slice av m cv] 84)) wr) (fun _ i _ => n - (intOf i).toNat)
  case atStart => exact ⟨0, Nat.zero_le _, rfl, by rw [HW0.out]; rfl, New.refl _⟩
  case round =>
    obtain ⟨k, hk, rfl, rfl, hn1⟩ := hrel
    obtain ⟨U1, rfl⟩ : ∃ U1 : World, U1 = wr := ⟨_, rfl⟩
    have HN1 := Lib.hid hn1
    have HNW1 := Lib.hid (show New w U1 from ((New.refl w).alloc _).trans hn1)
    obtain ⟨⟨d0, d1⟩, d2, hxb⟩ := box_c hn1
    clear hn1
    by_cases hkn : k < n
    · obtain ⟨_, gl, hcc⟩ := HSG.out _ HNW1.out
      obtain ⟨c1, c2, c3, c4⟩ := hcc k hkn
      have hk1 : (k : Int) < (n : Int) := by omega
      have HSCk := Lib.hid (HSC.out k)
      have HWSk := Lib.hid (HWS.out k)
      have hwk := HWL.out k
      clear hcc
      generalize q1 l k = A1 at *
      generalize q2 l k = A2 at *
      generalize q3 l k = A3 at *
      generalize q4 l k = A4 at *
      generalize spanAt l F T k = sp at *
      cases sp
      · have HV := Lib.hid (show wantF (k + 1) = wantF k by rw [HWSk.out]; simp)
        go_wp2_with fail
        first | refine wp_region_at2 (by kernel_rfl) (by kernel_rfl) ?_ | refine wp_region_at (by kernel_rfl) (by kernel_rfl) ?_
        repeat (go_big_quiet_step (first | (go_at_call 148; (with_reducible exact calls_new (HSCk.out _)))))
        refine wpQuiet_nil ?_
        rintro _ ⟨pq, rfl⟩
        go_wp2_with fail
        go_roundw
        case rel => exact ⟨k + 1, by omega, by go_num, (by rw [HV.out]), (by (repeat (first | exact HN1.out | exact New.refl _ | apply New.alloc | apply New.aft | apply New.drew | refine New.setCell ?_ ?_ _)); all_goals (first | done | (simp [size_aft]; done) | (simp [size_aft]; omega)))⟩
        case measure => simp [intOf]; omega
      · have HV := Lib.hid (show wantF (k + 1) = wantF k + 1 by rw [HWSk.out]; simp)
        go_wp2_with fail
        first | refine wp_region_at2 (by kernel_rfl) (by kernel_rfl) ?_ | refine wp_region_at (by kernel_rfl) (by kernel_rfl) ?_
        repeat (go_big_quiet_step (first | (go_at_call 148; (with_reducible exact calls_new (HSCk.out _)))))
        refine wpQuiet_nil ?_
        rintro _ ⟨pq, rfl⟩
        go_wp2_with fail
        go_roundw
        case rel => exact ⟨k + 1, by omega, by go_num, (by rw [HV.out]; go_num), (by (repeat (first | exact HN1.out | exact New.refl _ | apply New.alloc | apply New.aft | apply New.drew | refine New.setCell ?_ ?_ _)); all_goals (first | done | (simp [size_aft]; done) | (simp [size_aft]; omega)))⟩
        case measure => simp [intOf]; omega
    · obtain rfl : n = k := by omega
      have z1 : ((m : Int) != (wantF n : Int)) = false := by have := HLEN.out; simp; omega
      go_wp2_with fail
      go_loopw [8] (fun i wr => ∃ k : Nat, k ≤ m ∧ i = .int .i64 k ∧ New U1 wr) (fun i _ => m - (intOf i).toNat)
      case atStart => exact ⟨0, Nat.zero_le _, rfl, (by (repeat (first | exact New.refl _ | apply New.alloc | apply New.aft | apply New.drew)))⟩
      case round =>
        obtain ⟨k, hk, rfl, hn2⟩ := hrel
        obtain ⟨U2, rfl⟩ : ∃ U2 : World, U2 = wr := ⟨_, rfl⟩
        have HN2 := Lib.hid hn2
        have HNB2 := Lib.hid (HN1.out.trans hn2)
        have HNW2 := Lib.hid (HNW1.out.trans hn2)
        clear d0 d1 d2 hxb
        obtain ⟨⟨d0, d1⟩, d2, hxb⟩ := box_c HNB2.out
        clear hn2
        by_cases hkm : k < m
        · skip
          obtain ⟨bv, ov, rfl, hI⟩ := HIN.out (by omega)
          obtain ⟨_, hbv, hIc⟩ := hI.new HNW2.out
          have x0 := hIc k (by omega)
          have hk1 : (k : Int) < (m : Int) := by omega
          obtain ⟨⟨⟨j0, j1⟩, jsp⟩, jne⟩ := HIX.out k (by omega)
          obtain ⟨_, gl, hcc⟩ := HSG.out _ HNW2.out
          obtain ⟨c1, c2, c3, c4⟩ := hcc (L.getD k 0).toNat (by omega)
          have HSCk := Lib.hid (fun w1 => (show Calls Tryz.prog 148 #[sv (q1 l (L.getD k 0).toNat) (q2 l (L.getD k 0).toNat) (q3 l (L.getD k 0).toNat) (q4 l (L.getD k 0).toNat), .int .i64 F, .int .i64 T] w1 fun e w' => e = .returned (.bool true) ∧ New w1 w' from by have := HSC.out (L.getD k 0).toNat w1; rwa [jsp] at this))
          have HJN := Lib.hid jne
          clear hcc jsp jne hI hIc
          generalize L.getD k 0 = J at *
          generalize q1 l J.toNat = A1 at *
          generalize q2 l J.toNat = A2 at *
          generalize q3 l J.toNat = A3 at *
          generalize q4 l J.toNat = A4 at *
          have z1 : decide (J < 0) = false := decide_eq_false (by omega)
          have z2 : decide (J ≥ (n : Int)) = false := decide_eq_false (by omega)
          have z3 : decide ((n : Int) ≤ J) = false := decide_eq_false (by omega)
          go_wp2_with fail
          first | refine wp_region_at2 (by kernel_rfl) (by kernel_rfl) ?_ | refine wp_region_at (by kernel_rfl) (by kernel_rfl) ?_
          repeat (go_big_quiet_step (first | (go_at_call 148; (with_reducible exact calls_new (HSCk.out _)))))
          refine wpQuiet_nil ?_
          rintro U3 hq3
          have HN3 := Lib.hid (show New U2 U3 from hq3)
          have HNB3 := Lib.hid (HNB2.out.trans HN3.out)
          have HNW3 := Lib.hid (HNW2.out.trans HN3.out)
          clear hq3 d0 d1 d2 hxb c1 c2 c3 c4 gl x0 hbv
          go_wp2_with fail
          go_loopw [11] (fun s wr => ∃ j : Nat, j ≤ k ∧ s = .int .i64 j ∧ New U3 wr) (fun s _ => k - (intOf s).toNat)
          case atStart => exact ⟨0, Nat.zero_le _, rfl, (by (repeat (first | exact New.refl _ | apply New.alloc | apply New.aft | apply New.drew | refine New.setCell ?_ ?_ _)); all_goals (first | done | (simp [size_aft]; done) | (simp [size_aft]; omega)))⟩
          case round =>
            obtain ⟨j, hj, rfl, hn4⟩ := hrel
            obtain ⟨⟨d0, d1⟩, d2, hxb⟩ := box_c (HNB3.out.trans hn4)
            have HN4 := Lib.hid hn4
            clear hn4
            by_cases hjk : j < k
            · obtain ⟨bv', ov', e', hI⟩ := HIN.out (by omega)
              cases e'
              obtain ⟨_, hbv2, hIc⟩ := hI.new (HNW3.out.trans HN4.out)
              have x1 := hIc j (by omega)
              have hj1 : (j : Int) < (k : Int) := by omega
              have hj2 : (j : Int) < (m : Int) := by omega
              have zj : (L.getD j 0 == J) = false := by simpa using HJN.out j hjk
              clear hI hIc
              generalize L.getD j 0 = Y at *
              go_wp2_with fail
              go_roundw
              case rel => exact ⟨j + 1, by omega, by go_num, (by (repeat (first | exact HN4.out | exact New.refl _ | apply New.alloc | apply New.aft | apply New.drew | refine New.setCell ?_ ?_ _)); all_goals (first | done | (simp [size_aft]; done) | (simp [size_aft]; omega)))⟩
              case measure => simp [intOf]; omega
            · obtain rfl : j = k := by omega
              go_wp2_with fail
              go_roundw
              case rel => exact ⟨j + 1, by omega, by go_num, HN2.out.trans (HN3.out.trans (by (repeat (first | exact HN4.out | exact New.refl _ | apply New.alloc | apply New.aft | apply New.drew | refine New.setCell ?_ ?_ _)); all_goals (first | done | (simp [size_aft]; done) | (simp [size_aft]; omega))))⟩
              case measure => simp [intOf]; omega
        · obtain rfl : k = m := by omega
          clear z1
          go_wp2_with fail
          go_loopw [12] (fun i wr => ∃ p : Nat, (p + 1 ≤ k ∨ p = 0) ∧ i = .int .i64 p ∧ (List.range p).any bad = false ∧ New U2 wr) (fun i _ => k - (intOf i).toNat)
          case atStart => exact ⟨0, .inr rfl, rfl, rfl, (by (repeat (first | exact New.refl _ | apply New.alloc | apply New.aft | apply New.drew | refine New.setCell ?_ ?_ _)); all_goals (first | done | (simp [size_aft]; done) | (simp [size_aft]; omega)))⟩
          case round =>
            obtain ⟨p, hp, rfl, hany, hn4⟩ := hrel
            obtain ⟨U4, rfl⟩ : ∃ U4 : World, U4 = wr := ⟨_, rfl⟩
            have HANY := Lib.hid hany
            have HN4 := Lib.hid hn4
            have HNB4 := Lib.hid (HNB2.out.trans hn4)
            have HNW4 := Lib.hid (HNW2.out.trans hn4)
            clear hn4 hany d0 d1 d2 hxb
            obtain ⟨⟨d0, d1⟩, d2, hxb⟩ := box_c HNB4.out
            by_cases hpm : p + 1 < k
            · skip
              obtain ⟨bv, ov, rfl, hI⟩ := HIN.out (by omega)
              obtain ⟨_, hbv, hIc⟩ := hI.new HNW4.out
              have x0 := hIc p (by omega)
              have x1 := hIc (p + 1) (by omega)
              obtain ⟨⟨⟨j0, j1⟩, _⟩, _⟩ := HIX.out p (by omega)
              obtain ⟨⟨⟨i0, i1⟩, _⟩, _⟩ := HIX.out (p + 1) (by omega)
              obtain ⟨_, gl, hcc⟩ := HSG.out _ HNW4.out
              obtain ⟨c1, c2, c3, c4⟩ := hcc (L.getD p 0).toNat (by omega)
              obtain ⟨e1, e2, e3, e4⟩ := hcc (L.getD (p + 1) 0).toNat (by omega)
              have hna := HFK.out p (by omega)
              have hnb := HFK.out (p + 1) (by omega)
              obtain ⟨pa, pb, _⟩ := HOK.out (L.getD p 0).toNat (by omega)
              obtain ⟨pc, pd, _⟩ := HOK.out (L.getD (p + 1) 0).toNat (by omega)
              clear hI hIc hcc
              have HSN := Lib.hid (any_snoc' bad p)
              have HIT := Lib.hid (fun h => any_hit' (f := bad) (show p < k - 1 by omega) h)
              have HBP := Lib.hid (HBD.out p)
              have HCF := Lib.hid (HCM.out F p (p + 1))
              have HCT := Lib.hid (HCM.out T p (p + 1))
              have hp1 : (p : Int) + 1 < (k : Int) := by omega
              have hp2 : (p : Int) < (k : Int) := by omega
              have hp0 : (0 : Int) ≤ (p : Int) + 1 := by omega
              have hp5 : ((p : Int) + 1).toNat = p + 1 := by omega
              have hw2 : IntKind.i64.wrap ((p : Int) + 1) = (p : Int) + 1 := IntWalk.i64_in _ (by omega)
              generalize cmA l L (2 * F) p (p + 1) = K1 at *
              generalize cmA l L (2 * T) p (p + 1) = K2 at *
              generalize L.getD p 0 = J at *
              generalize L.getD (p + 1) 0 = I at *
              generalize q1 l J.toNat = A1 at *
              generalize q2 l J.toNat = A2 at *
              generalize q3 l J.toNat = A3 at *
              generalize q4 l J.toNat = A4 at *
              generalize q1 l I.toNat = B1 at *
              generalize q2 l I.toNat = B2 at *
              generalize q3 l I.toNat = B3 at *
              generalize q4 l I.toNat = B4 at *
              obtain ⟨hWa, hNa⟩ := h1_bd A1 A2 A3 A4 F pa.1 pa.2 pb.1 pb.2 hF
              obtain ⟨hWb, hNb⟩ := h1_bd B1 B2 B3 B4 F pc.1 pc.2 pd.1 pd.2 hF
              obtain ⟨_, hNa2⟩ := h1_bd A1 A2 A3 A4 T pa.1 pa.2 pb.1 pb.2 hT
              obtain ⟨_, hNb2⟩ := h1_bd B1 B2 B3 B4 T pc.1 pc.2 pd.1 pd.2 hT
              have HAF := Lib.hid (fun (w1 : World) => ref_heightAt1 A1 A2 A3 A4 F w1 pa.1 pa.2 pb.1 pb.2 hF hna)
              have HBF := Lib.hid (fun (w1 : World) => ref_heightAt1 B1 B2 B3 B4 F w1 pc.1 pc.2 pd.1 pd.2 hF hnb)
              have HAT := Lib.hid (fun (w1 : World) => ref_heightAt1 A1 A2 A3 A4 T w1 pa.1 pa.2 pb.1 pb.2 hT hna)
              have HBT := Lib.hid (fun (w1 : World) => ref_heightAt1 B1 B2 B3 B4 T w1 pc.1 pc.2 pd.1 pd.2 hT hnb)
              have HC1 := Lib.hid (fun (w1 : World) => by have := ref_compare (hN1 A1 A2 A3 A4 F) (hW1 A1 A2 A3 A4) (hN1 B1 B2 B3 B4 F) (hW1 B1 B2 B3 B4) w1 hNa hWa hNb hWb; rwa [← HCF.out] at this)
              have HC2 := Lib.hid (fun (w1 : World) => by have := ref_compare (hN1 A1 A2 A3 A4 T) (hW1 A1 A2 A3 A4) (hN1 B1 B2 B3 B4 T) (hW1 B1 B2 B3 B4) w1 hNa2 hWa hNb2 hWb; rwa [← HCT.out] at this)
              clear hna hnb pa pb pc pd hWa hNa hWb hNb hNa2 hNb2 HCF HCT
              generalize hN1 A1 A2 A3 A4 F = NA at *
              generalize hN1 B1 B2 B3 B4 F = NB at *
              generalize hN1 A1 A2 A3 A4 T = MA at *
              generalize hN1 B1 B2 B3 B4 T = MB at *
              generalize hW1 A1 A2 A3 A4 = WA at *
              generalize hW1 B1 B2 B3 B4 = WBv at *
              go_upto_region 29 with fail
              have HN5 := Lib.hid (show New U4 ((U4.alloc (.cells #[.int .i64 A1, .int .i64 A2, .int .i64 A3, .int .i64 A4] 30)).alloc (.cells #[.int .i64 B1, .int .i64 B2, .int .i64 B3, .int .i64 B4] 30)) from ((New.refl U4).alloc _).alloc _)
              have HDA := Lib.hid (show (((U4.alloc (.cells #[.int .i64 A1, .int .i64 A2, .int .i64 A3, .int .i64 A4] 30)).alloc (.cells #[.int .i64 B1, .int .i64 B2, .int .i64 B3, .int .i64 B4] 30)).cell? ⟨U4.heap.size, 0, none⟩ = some (.int .i64 A1) ∧ ((U4.alloc (.cells #[.int .i64 A1, .int .i64 A2, .int .i64 A3, .int .i64 A4] 30)).alloc (.cells #[.int .i64 B1, .int .i64 B2, .int .i64 B3, .int .i64 B4] 30)).cell? ⟨U4.heap.size, 1, none⟩ = some (.int .i64 A2) ∧ ((U4.alloc (.cells #[.int .i64 A1, .int .i64 A2, .int .i64 A3, .int .i64 A4] 30)).alloc (.cells #[.int .i64 B1, .int .i64 B2, .int .i64 B3, .int .i64 B4] 30)).cell? ⟨U4.heap.size, 2, none⟩ = some (.int .i64 A3) ∧ ((U4.alloc (.cells #[.int .i64 A1, .int .i64 A2, .int .i64 A3, .int .i64 A4] 30)).alloc (.cells #[.int .i64 B1, .int .i64 B2, .int .i64 B3, .int .i64 B4] 30)).cell? ⟨U4.heap.size, 3, none⟩ = some (.int .i64 A4)) ∧ U4.heap.size < ((U4.alloc (.cells #[.int .i64 A1, .int .i64 A2, .int .i64 A3, .int .i64 A4] 30)).alloc (.cells #[.int .i64 B1, .int .i64 B2, .int .i64 B3, .int .i64 B4] 30)).heap.size from ⟨⟨by simp [go_sem], by simp [go_sem], by simp [go_sem], by simp [go_sem]⟩, by simp; omega⟩)
              have HDB := Lib.hid (show (((U4.alloc (.cells #[.int .i64 A1, .int .i64 A2, .int .i64 A3, .int .i64 A4] 30)).alloc (.cells #[.int .i64 B1, .int .i64 B2, .int .i64 B3, .int .i64 B4] 30)).cell? ⟨U4.heap.size + 1, 0, none⟩ = some (.int .i64 B1) ∧ ((U4.alloc (.cells #[.int .i64 A1, .int .i64 A2, .int .i64 A3, .int .i64 A4] 30)).alloc (.cells #[.int .i64 B1, .int .i64 B2, .int .i64 B3, .int .i64 B4] 30)).cell? ⟨U4.heap.size + 1, 1, none⟩ = some (.int .i64 B2) ∧ ((U4.alloc (.cells #[.int .i64 A1, .int .i64 A2, .int .i64 A3, .int .i64 A4] 30)).alloc (.cells #[.int .i64 B1, .int .i64 B2, .int .i64 B3, .int .i64 B4] 30)).cell? ⟨U4.heap.size + 1, 2, none⟩ = some (.int .i64 B3) ∧ ((U4.alloc (.cells #[.int .i64 A1, .int .i64 A2, .int .i64 A3, .int .i64 A4] 30)).alloc (.cells #[.int .i64 B1, .int .i64 B2, .int .i64 B3, .int .i64 B4] 30)).cell? ⟨U4.heap.size + 1, 3, none⟩ = some (.int .i64 B4)) ∧ U4.heap.size + 1 < ((U4.alloc (.cells #[.int .i64 A1, .int .i64 A2, .int .i64 A3, .int .i64 A4] 30)).alloc (.cells #[.int .i64 B1, .int .i64 B2, .int .i64 B3, .int .i64 B4] 30)).heap.size from ⟨⟨by simp [go_sem], by simp [go_sem], by simp [go_sem], by simp [go_sem]⟩, by simp⟩)
              generalize (U4.alloc (.cells #[.int .i64 A1, .int .i64 A2, .int .i64 A3, .int .i64 A4] 30)).alloc (.cells #[.int .i64 B1, .int .i64 B2, .int .i64 B3, .int .i64 B4] 30) = U5 at *
              clear d0 d1 d2 hxb c1 c2 c3 c4 e1 e2 e3 e4 x0 x1 gl
              obtain ⟨⟨d0, d1⟩, d2, hxb⟩ := box_c (HNB4.out.trans HN5.out)
              obtain ⟨⟨a0, a1, a2, a3⟩, ga⟩ := HDA.out
              obtain ⟨⟨b0, b1, b2, b3⟩, gb⟩ := HDB.out
              first | refine wp_region_at2 (by kernel_rfl) (by kernel_rfl) ?_ | refine wp_region_at (by kernel_rfl) (by kernel_rfl) ?_
              repeat (go_big_quiet_step (first | (go_at_call 103; (with_reducible exact calls_new (HAF.out _))) | (go_at_call 103; (with_reducible exact calls_new (HBF.out _))) | (go_at_call 102; (with_reducible exact calls_new (HC1.out _)))))
              refine wpQuiet_nil ?_
              rintro U6 hq6
              have HN6 := Lib.hid (show New U5 U6 from hq6)
              clear hq6 d0 d1 d2 hxb
              obtain ⟨⟨d0, d1⟩, d2, hxb⟩ := box_c (HNB4.out.trans (HN5.out.trans HN6.out))
              obtain ⟨⟨a0', a1', a2', a3'⟩, ga'⟩ := cell4 HN6.out ga ⟨a0, a1, a2, a3⟩
              obtain ⟨⟨b0', b1', b2', b3'⟩, gb'⟩ := cell4 HN6.out gb ⟨b0, b1, b2, b3⟩
              clear a0 a1 a2 a3 ga b0 b1 b2 b3 gb
              go_upto_region 30 with fail
              first | refine wp_region_at2 (by kernel_rfl) (by kernel_rfl) ?_ | refine wp_region_at (by kernel_rfl) (by kernel_rfl) ?_
              repeat (go_big_quiet_step (first | (go_at_call 103; (with_reducible exact calls_new (HAT.out _))) | (go_at_call 103; (with_reducible exact calls_new (HBT.out _))) | (go_at_call 102; (with_reducible exact calls_new (HC2.out _)))))
              refine wpQuiet_nil ?_
              rintro U7 hq7
              have HN7 := Lib.hid (show New U4 U7 from HN5.out.trans (HN6.out.trans hq7))
              clear hq7 d0 d1 d2 hxb a0' a1' a2' a3' ga' b0' b1' b2' b3' gb'
              by_cases u1 : 0 < K1
              · have HV := Lib.hid (show bad p = true by rw [HBP.out]; simp [u1])
                go_wp2_with fail
                go_ret
                exact ⟨ret_bool (by rw [HRI.out, HIT.out HV.out]; rfl), HNW4.out.trans (by (repeat (first | exact HN7.out | exact New.refl _ | apply New.alloc | apply New.aft | apply New.drew | refine New.setCell ?_ ?_ _)); all_goals (first | done | (simp [size_aft]; done) | (simp [size_aft]; omega)))⟩
              · by_cases u2 : 0 < K2
                · have HV := Lib.hid (show bad p = true by rw [HBP.out]; simp [u2])
                  go_wp2_with fail
                  go_ret
                  exact ⟨ret_bool (by rw [HRI.out, HIT.out HV.out]; rfl), HNW4.out.trans (by (repeat (first | exact HN7.out | exact New.refl _ | apply New.alloc | apply New.aft | apply New.drew | refine New.setCell ?_ ?_ _)); all_goals (first | done | (simp [size_aft]; done) | (simp [size_aft]; omega)))⟩
                · by_cases u3 : K1 = 0
                  · subst u3
                    by_cases u4 : K2 = 0
                    · subst u4
                      have HV := Lib.hid (show bad p = true by rw [HBP.out]; rfl)
                      go_wp2_with fail
                      go_ret
                      exact ⟨ret_bool (by rw [HRI.out, HIT.out HV.out]; rfl), HNW4.out.trans (by (repeat (first | exact HN7.out | exact New.refl _ | apply New.alloc | apply New.aft | apply New.drew | refine New.setCell ?_ ?_ _)); all_goals (first | done | (simp [size_aft]; done) | (simp [size_aft]; omega)))⟩
                    · have z2 : (K2 == 0) = false := by simpa using u4
                      have z3 : decide (K2 = 0) = false := by simpa using u4
                      have HV := Lib.hid (show bad p = false by rw [HBP.out]; simp [u2, u4])
                      go_wp2_with fail
                      go_roundw
                      case rel => exact ⟨p + 1, .inl (by omega), by go_num, by rw [HSN.out, HANY.out, HV.out]; rfl, HN4.out.trans (by (repeat (first | exact HN7.out | exact New.refl _ | apply New.alloc | apply New.aft | apply New.drew | refine New.setCell ?_ ?_ _)); all_goals (first | done | (simp [size_aft]; done) | (simp [size_aft]; omega)))⟩
                      case measure => simp [intOf]; omega
                  · have z2 : (K1 == 0) = false := by simpa using u3
                    have z3 : decide (K1 = 0) = false := by simpa using u3
                    have HV := Lib.hid (show bad p = false by rw [HBP.out]; simp [u1, u2, u3])
                    go_wp2_with fail
                    go_roundw
                    case rel => exact ⟨p + 1, .inl (by omega), by go_num, by rw [HSN.out, HANY.out, HV.out]; rfl, HN4.out.trans (by (repeat (first | exact HN7.out | exact New.refl _ | apply New.alloc | apply New.aft | apply New.drew | refine New.setCell ?_ ?_ _)); all_goals (first | done | (simp [size_aft]; done) | (simp [size_aft]; omega)))⟩
                    case measure => simp [intOf]; omega
            · have HRT := Lib.hid (show ris = true by
                have := HANY.out
                rw [HRI.out]
                rcases hp with h | h
                · rw [show k - 1 = p by omega, this]; rfl
                · subst h; rw [show k - 1 = 0 by omega]; rfl)
              have hp1 : ¬ (p : Int) + 1 < (k : Int) := by omega
              have hw2 : IntKind.i64.wrap ((p : Int) + 1) = (p : Int) + 1 := IntWalk.i64_in _ (by omega)
              go_wp2_with fail
              have HN8 := Lib.hid (show New U4 (U4.alloc (.cells #[.int .i64 F, .int .i64 T] 3)) from (New.refl U4).alloc _)
              have HX8 := Lib.hid (show ((U4.alloc (.cells #[.int .i64 F, .int .i64 T] 3)).cell? ⟨U4.heap.size, 0, none⟩ = some (.int .i64 F) ∧ (U4.alloc (.cells #[.int .i64 F, .int .i64 T] 3)).cell? ⟨U4.heap.size, 1, none⟩ = some (.int .i64 T)) ∧ U4.heap.size < (U4.alloc (.cells #[.int .i64 F, .int .i64 T] 3)).heap.size from ⟨⟨by simp [go_sem], by simp [go_sem]⟩, by simp⟩)
              generalize (U4.alloc (.cells #[.int .i64 F, .int .i64 T] 3)) = U8 at *
              clear d0 d1 d2 hxb
              go_loopw [154] (fun i wr => ∃ t : Nat, t ≤ 2 ∧ i = .int .i64 t ∧ (0 < t → lone F = true) ∧ (1 < t → lone T = true) ∧ New U8 wr) (fun i _ => 2 - (intOf i).toNat)
              case atStart => exact ⟨0, by omega, rfl, fun h => by omega, fun h => by omega, (by (repeat (first | exact New.refl _ | apply New.alloc | apply New.aft | apply New.drew | refine New.setCell ?_ ?_ _)); all_goals (first | done | (simp [size_aft]; done) | (simp [size_aft]; omega)))⟩
              case round =>
                obtain ⟨t, ht, rfl, ht0, ht1, hn9⟩ := hrel
                obtain ⟨U9, rfl⟩ : ∃ U9 : World, U9 = wr := ⟨_, rfl⟩
                have HT0 := Lib.hid ht0
                have HT1 := Lib.hid ht1
                have HN9 := Lib.hid hn9
                have HNB9 := Lib.hid (HNB4.out.trans (HN8.out.trans hn9))
                have HNW9 := Lib.hid (HNW4.out.trans (HN8.out.trans hn9))
                clear ht0 ht1
                by_cases htl : t < 2
                · obtain ⟨X, y0, hXb, hXt, hXf⟩ : ∃ X, U9.cell? ⟨U4.heap.size, 0 + t, none⟩ = some (.int .i64 X) ∧ (0 ≤ X ∧ X ≤ 10000) ∧ (lone X = true → (0 < t + 1 → lone F = true) ∧ (1 < t + 1 → lone T = true)) ∧ (lone X = false → ((ris && lone F) && lone T) = false) := by
                    have hg := HX8.out.2
                    have K := fun o => hn9.below.cell (p := ⟨U4.heap.size, o, none⟩) hg
                    rcases (show t = 0 ∨ t = 1 by omega) with rfl | rfl
                    · exact ⟨F, (K _).trans HX8.out.1.1, hF, fun h => ⟨fun _ => h, fun g => by omega⟩, fun h => by rw [h]; simp⟩
                    · exact ⟨T, (K _).trans HX8.out.1.2, hT, fun h => ⟨fun _ => HT0.out (by omega), fun _ => h⟩, fun h => by rw [h]; simp⟩
                  have HXT := Lib.hid hXt
                  have HXF := Lib.hid hXf
                  have hg9 : U4.heap.size < U9.heap.size := Nat.lt_of_lt_of_le HX8.out.2 hn9.size
                  have ht2 : (t : Int) < 2 := by omega
                  simp only [Nat.zero_add] at y0
                  clear hn9 hXt hXf
                  go_wp2_with fail
                  go_loopw [19] (fun i wr => ∃ p : Nat, p ≤ k ∧ i = .int .i64 p ∧ (List.range p).any (lonA' X) = false ∧ New U9 wr) (fun i _ => k - (intOf i).toNat)
                  case atStart => exact ⟨0, Nat.zero_le _, rfl, rfl, (by (repeat (first | exact New.refl _ | apply New.alloc | apply New.aft | apply New.drew | refine New.setCell ?_ ?_ _)); all_goals (first | done | (simp [size_aft]; done) | (simp [size_aft]; omega)))⟩
                  case round =>
                    obtain ⟨p', hp', rfl, hany2, hn10⟩ := hrel
                    obtain ⟨U10, rfl⟩ : ∃ U10 : World, U10 = wr := ⟨_, rfl⟩
                    have HANY2 := Lib.hid hany2
                    have HN10 := Lib.hid hn10
                    have HNB10 := Lib.hid (HNB9.out.trans hn10)
                    have HNW10 := Lib.hid (HNW9.out.trans hn10)
                    obtain ⟨⟨d0, d1⟩, d2, hxb⟩ := box_c HNB10.out
                    clear hany2 hn10 y0 hg9
                    by_cases hpl : p' < k
                    · have hp3 : (p' : Int) < (k : Int) := by omega
                      have HLAp := Lib.hid (HLA.out X p')
                      have HSN2 := Lib.hid (any_snoc' (lonA' X) p')
                      have HIT2 := Lib.hid (fun h => any_hit' (f := lonA' X) (show p' < k by omega) h)
                      go_wp2_with fail
                      go_loopw [20] (fun s wr => ∃ j : Nat, j ≤ p' ∧ s = .int .i64 j ∧ (List.range j).any (lonB' X p') = false ∧ New U10 wr) (fun s _ => p' - (intOf s).toNat)
                      case atStart => exact ⟨0, Nat.zero_le _, rfl, rfl, (by (repeat (first | exact New.refl _ | apply New.alloc | apply New.aft | apply New.drew | refine New.setCell ?_ ?_ _)); all_goals (first | done | (simp [size_aft]; done) | (simp [size_aft]; omega)))⟩
                      case round =>
                        obtain ⟨j, hj, rfl, hany3, hn11⟩ := hrel
                        obtain ⟨U11, rfl⟩ : ∃ U11 : World, U11 = wr := ⟨_, rfl⟩
                        have HANY3 := Lib.hid hany3
                        have HN11 := Lib.hid hn11
                        have HNB11 := Lib.hid (HNB10.out.trans hn11)
                        have HNW11 := Lib.hid (HNW10.out.trans hn11)
                        clear hany3 hn11 d0 d1 d2 hxb
                        obtain ⟨⟨d0, d1⟩, d2, hxb⟩ := box_c HNB11.out
                        by_cases hjp : j < p'
                        · skip
                          obtain ⟨bv, ov, rfl, hI⟩ := HIN.out (by omega)
                          obtain ⟨_, hbv, hIc⟩ := hI.new HNW11.out
                          have x0 := hIc p' (by omega)
                          have x1 := hIc j (by omega)
                          obtain ⟨⟨⟨j0, j1⟩, _⟩, _⟩ := HIX.out p' (by omega)
                          obtain ⟨⟨⟨i0, i1⟩, _⟩, _⟩ := HIX.out j (by omega)
                          obtain ⟨_, gl, hcc⟩ := HSG.out _ HNW11.out
                          obtain ⟨c1, c2, c3, c4⟩ := hcc (L.getD p' 0).toNat (by omega)
                          obtain ⟨e1, e2, e3, e4⟩ := hcc (L.getD j 0).toNat (by omega)
                          have hna := HFK.out p' (by omega)
                          have hnb := HFK.out j (by omega)
                          obtain ⟨pa, pb, _⟩ := HOK.out (L.getD p' 0).toNat (by omega)
                          obtain ⟨pc, pd, _⟩ := HOK.out (L.getD j 0).toNat (by omega)
                          clear hI hIc hcc
                          have HSN3 := Lib.hid (any_snoc' (lonB' X p') j)
                          have HIT3 := Lib.hid (fun h => any_hit' (f := lonB' X p') hjp h)
                          have HLBj := Lib.hid (HLB.out X p' j)
                          have HCX := Lib.hid (HCM.out X p' j)
                          have hj1' : (j : Int) < (p' : Int) := by omega
                          have hj2' : (j : Int) < (k : Int) := by omega
                          rw [HFR.out X p', HFR.out X j] at HLBj
                          generalize cmA l L (2 * X) p' j = K1 at *
                          generalize L.getD p' 0 = J at *
                          generalize L.getD j 0 = I at *
                          generalize q1 l J.toNat = A1 at *
                          generalize q2 l J.toNat = A2 at *
                          generalize q3 l J.toNat = A3 at *
                          generalize q4 l J.toNat = A4 at *
                          generalize q1 l I.toNat = B1 at *
                          generalize q2 l I.toNat = B2 at *
                          generalize q3 l I.toNat = B3 at *
                          generalize q4 l I.toNat = B4 at *
                          obtain ⟨hWa, hNa⟩ := h1_bd A1 A2 A3 A4 X pa.1 pa.2 pb.1 pb.2 hXb
                          obtain ⟨hWb, hNb⟩ := h1_bd B1 B2 B3 B4 X pc.1 pc.2 pd.1 pd.2 hXb
                          have HAF := Lib.hid (fun (w1 : World) => ref_heightAt1 A1 A2 A3 A4 X w1 pa.1 pa.2 pb.1 pb.2 hXb hna)
                          have HBF := Lib.hid (fun (w1 : World) => ref_heightAt1 B1 B2 B3 B4 X w1 pc.1 pc.2 pd.1 pd.2 hXb hnb)
                          have HC1 := Lib.hid (fun (w1 : World) => by have := ref_compare (hN1 A1 A2 A3 A4 X) (hW1 A1 A2 A3 A4) (hN1 B1 B2 B3 B4 X) (hW1 B1 B2 B3 B4) w1 hNa hWa hNb hWb; rwa [← HCX.out] at this)
                          have HEA := Lib.hid (ended_c A1 A2 A3 A4 X)
                          have HEB := Lib.hid (ended_c B1 B2 B3 B4 X)
                          clear hna hnb pa pb pc pd hWa hNa hWb hNb HCX
                          generalize hN1 A1 A2 A3 A4 X = NA at *
                          generalize hN1 B1 B2 B3 B4 X = NB at *
                          generalize hW1 A1 A2 A3 A4 = WA at *
                          generalize hW1 B1 B2 B3 B4 = WBv at *
                          generalize endB A1 A3 X = ea at *
                          generalize endB B1 B3 X = eb at *
                          go_upto_region 44 with fail
                          have HN12 := Lib.hid (show New U11 ((U11.alloc (.cells #[.int .i64 A1, .int .i64 A2, .int .i64 A3, .int .i64 A4] 30)).alloc (.cells #[.int .i64 B1, .int .i64 B2, .int .i64 B3, .int .i64 B4] 30)) from ((New.refl U11).alloc _).alloc _)
                          have HDA := Lib.hid (show (((U11.alloc (.cells #[.int .i64 A1, .int .i64 A2, .int .i64 A3, .int .i64 A4] 30)).alloc (.cells #[.int .i64 B1, .int .i64 B2, .int .i64 B3, .int .i64 B4] 30)).cell? ⟨U11.heap.size, 0, none⟩ = some (.int .i64 A1) ∧ ((U11.alloc (.cells #[.int .i64 A1, .int .i64 A2, .int .i64 A3, .int .i64 A4] 30)).alloc (.cells #[.int .i64 B1, .int .i64 B2, .int .i64 B3, .int .i64 B4] 30)).cell? ⟨U11.heap.size, 1, none⟩ = some (.int .i64 A2) ∧ ((U11.alloc (.cells #[.int .i64 A1, .int .i64 A2, .int .i64 A3, .int .i64 A4] 30)).alloc (.cells #[.int .i64 B1, .int .i64 B2, .int .i64 B3, .int .i64 B4] 30)).cell? ⟨U11.heap.size, 2, none⟩ = some (.int .i64 A3) ∧ ((U11.alloc (.cells #[.int .i64 A1, .int .i64 A2, .int .i64 A3, .int .i64 A4] 30)).alloc (.cells #[.int .i64 B1, .int .i64 B2, .int .i64 B3, .int .i64 B4] 30)).cell? ⟨U11.heap.size, 3, none⟩ = some (.int .i64 A4)) ∧ U11.heap.size < ((U11.alloc (.cells #[.int .i64 A1, .int .i64 A2, .int .i64 A3, .int .i64 A4] 30)).alloc (.cells #[.int .i64 B1, .int .i64 B2, .int .i64 B3, .int .i64 B4] 30)).heap.size from ⟨⟨by simp [go_sem], by simp [go_sem], by simp [go_sem], by simp [go_sem]⟩, by simp; omega⟩)
                          have HDB := Lib.hid (show (((U11.alloc (.cells #[.int .i64 A1, .int .i64 A2, .int .i64 A3, .int .i64 A4] 30)).alloc (.cells #[.int .i64 B1, .int .i64 B2, .int .i64 B3, .int .i64 B4] 30)).cell? ⟨U11.heap.size + 1, 0, none⟩ = some (.int .i64 B1) ∧ ((U11.alloc (.cells #[.int .i64 A1, .int .i64 A2, .int .i64 A3, .int .i64 A4] 30)).alloc (.cells #[.int .i64 B1, .int .i64 B2, .int .i64 B3, .int .i64 B4] 30)).cell? ⟨U11.heap.size + 1, 1, none⟩ = some (.int .i64 B2) ∧ ((U11.alloc (.cells #[.int .i64 A1, .int .i64 A2, .int .i64 A3, .int .i64 A4] 30)).alloc (.cells #[.int .i64 B1, .int .i64 B2, .int .i64 B3, .int .i64 B4] 30)).cell? ⟨U11.heap.size + 1, 2, none⟩ = some (.int .i64 B3) ∧ ((U11.alloc (.cells #[.int .i64 A1, .int .i64 A2, .int .i64 A3, .int .i64 A4] 30)).alloc (.cells #[.int .i64 B1, .int .i64 B2, .int .i64 B3, .int .i64 B4] 30)).cell? ⟨U11.heap.size + 1, 3, none⟩ = some (.int .i64 B4)) ∧ U11.heap.size + 1 < ((U11.alloc (.cells #[.int .i64 A1, .int .i64 A2, .int .i64 A3, .int .i64 A4] 30)).alloc (.cells #[.int .i64 B1, .int .i64 B2, .int .i64 B3, .int .i64 B4] 30)).heap.size from ⟨⟨by simp [go_sem], by simp [go_sem], by simp [go_sem], by simp [go_sem]⟩, by simp⟩)
                          generalize ((U11.alloc (.cells #[.int .i64 A1, .int .i64 A2, .int .i64 A3, .int .i64 A4] 30)).alloc (.cells #[.int .i64 B1, .int .i64 B2, .int .i64 B3, .int .i64 B4] 30)) = U12 at *
                          clear d0 d1 d2 hxb c1 c2 c3 c4 e1 e2 e3 e4 x0 x1 gl
                          obtain ⟨⟨a0, a1, a2, a3⟩, ga⟩ := HDA.out
                          obtain ⟨⟨b0, b1, b2, b3⟩, gb⟩ := HDB.out
                          go_upto_region 45 with (go_at_call 190; (with_reducible refine (HEA.out _).mono ?_); rintro e U13 ⟨rfl, hn13⟩; have HN13 := Lib.hid hn13; clear hn13)
                          obtain ⟨⟨a0', a1', a2', a3'⟩, ga'⟩ := cell4 HN13.out ga ⟨a0, a1, a2, a3⟩
                          obtain ⟨⟨b0', b1', b2', b3'⟩, gb'⟩ := cell4 HN13.out gb ⟨b0, b1, b2, b3⟩
                          clear a0 a1 a2 a3 ga b0 b1 b2 b3 gb
                          go_upto_region 46 with (go_at_call 190; (with_reducible refine (HEB.out _).mono ?_); rintro e U14 ⟨rfl, hn14⟩; have HN14 := Lib.hid hn14; clear hn14)
                          obtain ⟨⟨a0, a1, a2, a3⟩, ga⟩ := cell4 HN14.out ga' ⟨a0', a1', a2', a3'⟩
                          obtain ⟨⟨b0, b1, b2, b3⟩, gb⟩ := cell4 HN14.out gb' ⟨b0', b1', b2', b3'⟩
                          have HNU := Lib.hid (HN12.out.trans (HN13.out.trans HN14.out))
                          clear a0' a1' a2' a3' ga' b0' b1' b2' b3' gb'
                          cases ea
                          · cases eb
                            · first | refine wp_region_at2 (by kernel_rfl) (by kernel_rfl) ?_ | refine wp_region_at (by kernel_rfl) (by kernel_rfl) ?_
                              repeat (go_big_quiet_step (first | (go_at_call 103; (with_reducible exact calls_new (HAF.out _))) | (go_at_call 103; (with_reducible exact calls_new (HBF.out _))) | (go_at_call 102; (with_reducible exact calls_new (HC1.out _)))))
                              refine wpQuiet_nil ?_
                              rintro U15 hq15
                              have HN15 := Lib.hid (show New U11 U15 from HNU.out.trans hq15)
                              clear hq15
                              by_cases u1 : K1 = 0
                              · subst u1
                                have HV := Lib.hid (show lonB' X p' j = true by rw [HLBj.out]; rfl)
                                have HVA := Lib.hid (show lonA' X p' = true by rw [HLAp.out]; exact HIT3.out HV.out)
                                have HVX := Lib.hid (show lone X = false by rw [HLO.out, HIT2.out HVA.out]; rfl)
                                go_wp2_with fail
                                go_ret
                                exact ⟨ret_bool (by rw [HXF.out HVX.out]), HNW11.out.trans (by (repeat (first | exact HN15.out | exact New.refl _ | apply New.alloc | apply New.aft | apply New.drew | refine New.setCell ?_ ?_ _)); all_goals (first | done | (simp [size_aft]; done) | (simp [size_aft]; omega)))⟩
                              · have z2 : (K1 == 0) = false := by simpa using u1
                                have z3 : decide (K1 = 0) = false := by simpa using u1
                                have HV := Lib.hid (show lonB' X p' j = false by rw [HLBj.out]; simp [u1])
                                go_wp2_with fail
                                go_roundw
                                case rel => exact ⟨j + 1, by omega, by go_num, by rw [HSN3.out, HANY3.out, HV.out]; rfl, HN11.out.trans (by (repeat (first | exact HN15.out | exact New.refl _ | apply New.alloc | apply New.aft | apply New.drew | refine New.setCell ?_ ?_ _)); all_goals (first | done | (simp [size_aft]; done) | (simp [size_aft]; omega)))⟩
                                case measure => simp [intOf]; omega
                            · first | refine wp_region_at2 (by kernel_rfl) (by kernel_rfl) ?_ | refine wp_region_at (by kernel_rfl) (by kernel_rfl) ?_
                              repeat (go_big_quiet_step (fail))
                              refine wpQuiet_nil ?_
                              rintro U15 hq15
                              have HN15 := Lib.hid (show New U11 U15 from HNU.out.trans hq15)
                              clear hq15
                              have HV := Lib.hid (show lonB' X p' j = false by rw [HLBj.out]; simp)
                              go_wp2_with fail
                              go_roundw
                              case rel => exact ⟨j + 1, by omega, by go_num, by rw [HSN3.out, HANY3.out, HV.out]; rfl, HN11.out.trans (by (repeat (first | exact HN15.out | exact New.refl _ | apply New.alloc | apply New.aft | apply New.drew | refine New.setCell ?_ ?_ _)); all_goals (first | done | (simp [size_aft]; done) | (simp [size_aft]; omega)))⟩
                              case measure => simp [intOf]; omega
                          · first | refine wp_region_at2 (by kernel_rfl) (by kernel_rfl) ?_ | refine wp_region_at (by kernel_rfl) (by kernel_rfl) ?_
                            repeat (go_big_quiet_step (fail))
                            refine wpQuiet_nil ?_
                            rintro U15 hq15
                            have HN15 := Lib.hid (show New U11 U15 from HNU.out.trans hq15)
                            clear hq15
                            have HV := Lib.hid (show lonB' X p' j = false by rw [HLBj.out]; simp)
                            go_wp2_with fail
                            go_roundw
                            case rel => exact ⟨j + 1, by omega, by go_num, by rw [HSN3.out, HANY3.out, HV.out]; rfl, HN11.out.trans (by (repeat (first | exact HN15.out | exact New.refl _ | apply New.alloc | apply New.aft | apply New.drew | refine New.setCell ?_ ?_ _)); all_goals (first | done | (simp [size_aft]; done) | (simp [size_aft]; omega)))⟩
                            case measure => simp [intOf]; omega
                        · obtain rfl : j = p' := by omega
                          have HV := Lib.hid (show lonA' X j = false by rw [HLAp.out]; exact HANY3.out)
                          go_wp2_with fail
                          go_roundw
                          case rel => exact ⟨j + 1, by omega, by go_num, by rw [HSN2.out, HANY2.out, HV.out]; rfl, HN10.out.trans (by (repeat (first | exact HN11.out | exact New.refl _ | apply New.alloc | apply New.aft | apply New.drew | refine New.setCell ?_ ?_ _)); all_goals (first | done | (simp [size_aft]; done) | (simp [size_aft]; omega)))⟩
                          case measure => simp [intOf]; omega
                    · obtain rfl : p' = k := by omega
                      have HV := Lib.hid (show lone X = true by rw [HLO.out, HANY2.out]; rfl)
                      go_wp2_with fail
                      go_roundw
                      case rel => exact ⟨t + 1, by omega, by go_num, (HXT.out HV.out).1, (HXT.out HV.out).2, HN9.out.trans (by (repeat (first | exact HN10.out | exact New.refl _ | apply New.alloc | apply New.aft | apply New.drew | refine New.setCell ?_ ?_ _)); all_goals (first | done | (simp [size_aft]; done) | (simp [size_aft]; omega)))⟩
                      case measure => simp [intOf]; omega
                · obtain rfl : t = 2 := by omega
                  clear hn9
                  go_wp2_with fail
                  go_ret
                  exact ⟨ret_bool (by rw [HRT.out, HT0.out (by omega), HT1.out (by omega)]; rfl), HNW9.out⟩

end Go.Proofs.YtpdfbboagaflhaaGreat
