/- Sweep at segments that do not cross; numbers of hulls and pieces; Hull and Split of any list. -/
import Derived.Test.YtpdfbboagaflhaaGreatS42
import Derived.Test.YtpdfbboagaflhaaGreatS41
import Derived.Test.YtpdfbboagaflhaaGreatM51
import Derived.RegionIn
import Derived.Maps.OwnIn
import Derived.Deep.RegionHeld3
import Derived.Deep.RegionWith
import Derived.BigRegion
import Derived.LoopTactic
import Derived.Deep.AppendLies
import Derived.Deep.RegionLaw
import Derived.Maps.AppendAt
import Derived.RegionTactic
import Derived.OwnWalk

set_option linter.unusedSimpArgs false
set_option linter.unusedVariables false
namespace Go.Proofs.YtpdfbboagaflhaaGreat
open Go.RowKit Go.Shelf

attribute [local go_sem] Oper.semAt_some

/-- what holds between two rounds of Sweep: k strips are laid; the block p is none of theirs -/
def SweepJ (l : List S4) (B0 Bo D M : Nat) (w : World) (sv : Value) (RC : Option Obj) (p k : Nat) (W : World) : Prop :=
  ∃ a c vs, vs.length = k ∧ W.ownsRow B0 84 3 (.slice a k c) k (stripCells l vs k) ∧
    (∀ j, j < k → W.ownsRow B0 3 1 (vs.getD j undef) (segsQ l j).length (inCells (segsQ l j)) ∧ (∀ g, (vs.getD j undef).ownBlock = some g → (Value.slice a k c).ownBlock ≠ some g)) ∧
    New w W ∧ W.heap[Bo]? = some (.cells #[.slice a k c] 65 (0, 0)) ∧ W.heap[D]? = some (.deferred (some [])) ∧ W.heap[D + 1]? = RC ∧ W.heap[B0]? = some (.cells #[sv] 58 (0, 0)) ∧
    (Value.slice a k c).ownBlock ≠ some p ∧ D + 2 ≤ p ∧ k ≤ M ∧ W.heap[Bo + 1]? = some (.cells #[sv] 58 (0, 0))

set_option maxRecDepth 100000 in
set_option maxHeartbeats 32000000 in
theorem sweep_any (b off n cp : Nat) (l : List S4) (w : World) (h0 : 0 < n) (hl : n ≤ 400) (hw : Segs w b off n l) (hok : okSegs l = true) (hA : ∀ en, ApartIs l en → en = .returned (.int .i64 0)) (hxb : ∀ k, 0 ≤ xAt l k ∧ xAt l k ≤ 10000) (hhb : ∀ k, k + 1 < (endXsL l).length → Pile (pileL l k)) :
    Calls Tryz.prog 70 #[.slice (some ⟨b, off, none⟩) n cp] w fun en w' => ∃ a c vs, en = .returned (.tuple #[.slice a ((endXsL l).length - 1) c, .int .i64 0]) ∧ vs.length = (endXsL l).length - 1 ∧ w'.ownsRow w.heap.size 84 3 (.slice a ((endXsL l).length - 1) c) ((endXsL l).length - 1) (stripCells l vs ((endXsL l).length - 1)) ∧ (∀ j, j < (endXsL l).length - 1 → w'.ownsRow w.heap.size 3 1 (vs.getD j undef) (segsQ l j).length (inCells (segsQ l j))) ∧ New w w' := by
  have HW := Lib.hid hw
  have HN := Lib.hid hw.1
  have HCK := Lib.hid (show ∀ w1 : World, New w w1 → CallsIn Fence.wide 4 Tryz.prog 137 #[.slice (some ⟨b, off, none⟩) n cp] w1 fun e w' => e = .returned (.int .i64 0) ∧ New w1 w' from fun w1 h1 => (callsIn_wide (n := 4)).2 ((checkApart_c b off n cp l w1 (by omega) (hw.new h1)).mono fun e w' h => ⟨hA e h.1, h.2⟩))
  have HST := Lib.hid (fun (w1 : World) => (callsIn_wide (n := 4)).2 (strips_c (some ⟨b, off, none⟩) n cp w1))
  clear hw hA
  refine (callsIn_wide (n := 5)).1 ?_
  refine callsIn_of_wp_marks Tryz.func70 rfl trivial ?_ rfl
  simp only [Tryz.ntmps70, List.size_toArray, List.length_cons, List.length_nil, Nat.reduceAdd, Nat.reduceSub, Array.replicate_succ, Array.replicate_zero, List.push_toArray, List.append_toArray, List.nil_append, List.cons_append]
  gi_wp2
  refine ⟨trivial, ?_⟩
  gi_at_call 137
  refine (HCK.out _ ((New.refl _).alloc _)).mono ?_
  rintro e w1 ⟨rfl, hn1⟩
  have HN1 := Lib.hid hn1
  have hbx : w1.cell? ⟨w.heap.size, 0, none⟩ = some (.slice (some ⟨b, off, none⟩) n cp) := (hn1.below.cell (p := ⟨w.heap.size, 0, none⟩) (by simp)).trans (by simp [go_sem])
  have hsz1 := hn1.size
  simp only [World.size_alloc] at hsz1
  have hwl : w.heap.size < w1.heap.size := by omega
  clear hn1
  gi_wp2
  refine ⟨trivial, ?_⟩
  gi_at_call 143
  refine (HST.out _).mono ?_
  rintro e w2 ⟨rfl, rfl⟩
  gi_wp2
  obtain ⟨WS, HWS⟩ : ∃ WS : World, Hid (WS = (w1.alloc (.cells #[.slice none 0 0] 65)).alloc (.cells #[.slice (some ⟨b, off, none⟩) n cp] 58)) := ⟨_, Lib.hid rfl⟩
  rw [← HWS.out]
  have hss : WS.heap.size = w1.heap.size + 2 := by rw [HWS.out]; simp
  have hss1 : w1.heap.size + 2 ≤ WS.heap.size := by omega
  have hss2 : WS.heap.size ≤ w1.heap.size + 2 := by omega
  clear hss
  have HNS := Lib.hid (show New w WS by rw [HWS.out]; exact (((New.refl _).alloc _).trans HN1.out).alloc _ |>.alloc _)
  have HOB := Lib.hid (show WS.heap[w1.heap.size]? = some (.cells #[.slice none 0 0] 65 (0, 0)) by rw [HWS.out]; exact (Below.heap_alloc _ _ _ (by simp)).trans (World.alloc_heap_new w1 _))
  have HBB := Lib.hid (show WS.heap[w1.heap.size + 1]? = some (.cells #[.slice (some ⟨b, off, none⟩) n cp] 58 (0, 0)) by rw [HWS.out]; have := World.alloc_heap_new (w1.alloc (.cells #[.slice none 0 0] 65)) (.cells #[.slice (some ⟨b, off, none⟩) n cp] 58); rwa [World.size_alloc] at this)
  generalize hM : (endXsL l).length - 1 = M at *
  refine range_whole (n := 5) rfl (fun _ => trivial) (by omega) (gf := 179) (lb := #[.pointer (some ⟨w1.heap.size + 1, 0, none⟩)]) rfl (enters_of Tryz.func179 (by kernel_rfl) rfl)
    (fun W => ∃ a c vs, vs.length = M ∧ W.ownsRow w.heap.size 84 3 (.slice a M c) M (stripCells l vs M) ∧ (∀ j, j < M → W.ownsRow w.heap.size 3 1 (vs.getD j undef) (segsQ l j).length (inCells (segsQ l j))) ∧ New w W ∧ W.heap[w1.heap.size]? = some (.cells #[.slice a M c] 65 (0, 0)) ∧ W.heap[WS.heap.size]? = some (.deferred (some [])) ∧ ∃ r, W.heap[WS.heap.size + 1]? = some (.loop r)) ?hit ?hdone
  case hit =>
    intro fn W1 hW1
    have HF := Lib.hid hM
    have hsn := HNS.out.size
    have hD1 : W1.heap.size = WS.heap.size + 2 := by rw [hW1]; simp
    have HNW1 := Lib.hid (show New WS W1 by rw [hW1]; exact ((New.refl _).alloc _).alloc _)
    have HDF := Lib.hid (show W1.heap[WS.heap.size]? = some (.deferred (some [])) by rw [hW1]; exact (Below.heap_alloc _ _ _ (by simp)).trans (World.alloc_heap_new WS _))
    have hrc1 := alloc2_new hW1
    have HRC := Lib.hid hrc1
    clear hrc1
    clear hW1
    have HLB := Lib.hid (show w1.heap[w.heap.size]? = some (.cells #[.slice (some ⟨b, off, none⟩) n cp] 58 (0, 0)) by
      obtain ⟨_, _, _, _, h5⟩ := HN1.out.below
      rw [h5 _ (by simp)]
      exact World.alloc_heap_new w _)
    have HNWS := Lib.hid (show New w1 WS by rw [HWS.out]; exact ((New.refl _).alloc _).alloc _)
    have hold : ∀ (X Y : World) (h : New X Y) (k : Nat), k < X.heap.size → Y.heap[k]? = X.heap[k]? := fun X Y h k hk => h.below.block k hk
    have HOLD := Lib.hid hold
    clear hold
    refine (strips1_in 4 (by omega) (WS.heap.size + 1) (w1.heap.size + 1) b off n cp l h0 (by omega)
      (SweepJ l w.heap.size w1.heap.size WS.heap.size M w (.slice (some ⟨b, off, none⟩) n cp) (W1.heap[WS.heap.size + 1]?))
      W1 ?_ (by omega) (HW.out.new (HNS.out.trans HNW1.out)) ?_ ?_).mono ?_
    · have h1 : W1.heap[w1.heap.size + 1]? = some (.cells #[.slice (some ⟨b, off, none⟩) n cp] 58 (0, 0)) := by rw [HOLD.out _ _ HNW1.out _ (by omega)]; exact HBB.out
      simp [World.cell?, h1]
    · intro p W' hnw hp1 hp2
      have e : ∀ k, k < W1.heap.size → W'.heap[k]? = W1.heap[k]? := HOLD.out _ _ hnw
      have e2 : ∀ k, k < WS.heap.size → W'.heap[k]? = WS.heap[k]? := fun k hk => (e k (by omega)).trans (HOLD.out _ _ HNW1.out k hk)
      unfold SweepJ
      exact ⟨none, 0, [], rfl, World.ownsRow_nil _ _ _ _, fun j hj => by omega, HNS.out.trans (HNW1.out.trans hnw), by rw [e2 _ (by omega)]; exact HOB.out, by rw [e _ (by omega)]; exact HDF.out, e _ (by omega), by rw [e2 _ (by omega), HOLD.out _ _ HNWS.out _ hwl]; exact HLB.out, by simp [Value.ownBlock], by omega, Nat.zero_le _, by rw [e2 _ (by omega)]; exact HBB.out⟩
    · intro p k v W0 Wy hI hp0 hny hk1 hov
      obtain ⟨a, c, vs, hvl, hout, hvs, hnw, hbx2, hdf, hrc, hlb, hp, hp2, hkm, hbb0⟩ := hI
      have e : ∀ q, q < W0.heap.size → Wy.heap[q]? = W0.heap[q]? := HOLD.out _ _ hny
      have hs0 := hnw.size
      have hsny := hny.size
      have hlp : WS.heap.size + 1 < W0.heap.size := by
        have h1 := HRC.out
        rw [← hrc] at h1
        exact (Array.getElem?_eq_some_iff.1 h1).1
      have HK1 := Lib.hid (show k + 1 < (endXsL l).length from hk1)
      have HRY := Lib.hid (show Wy.heap[WS.heap.size + 1]? = _ from (e _ hlp).trans (hrc.trans HRC.out))
      have HOV := Lib.hid hov
      obtain ⟨av, cv, rfl⟩ := own_slice hov
      have HGO := Lib.hid (fun g hg => (hout.lt g hg).2)
      have HOUT := Lib.hid (own_new hout hny)
      have HVS := Lib.hid hvs
      have HNY := Lib.hid (hnw.trans hny)
      have HBX := Lib.hid (show Wy.heap[w1.heap.size]? = some (.cells #[.slice a k c] 65 (0, 0)) by rw [e _ (by omega)]; exact hbx2)
      have HDY := Lib.hid (show Wy.heap[WS.heap.size]? = some (.deferred (some [])) by rw [e _ (by omega)]; exact hdf)
      have HBBY := Lib.hid (show Wy.heap[w1.heap.size + 1]? = some (.cells #[.slice (some ⟨b, off, none⟩) n cp] 58 (0, 0)) by rw [e _ (by omega)]; exact hbb0)
      have HLY := Lib.hid (show Wy.heap[w.heap.size]? = some (.cells #[.slice (some ⟨b, off, none⟩) n cp] 58 (0, 0)) by rw [e _ (by omega)]; exact hlb)
      have HE := Lib.hid e
      have HVL := Lib.hid hvl
      clear hvs hbx2 hdf hrc hlb hbb0 e hout hov hvl
      refine yield_round (fun _ => trivial) HRY.out ?_
      gi_wp2
      refine ⟨by rw [Below.heap_alloc _ _ _ (by have := (Array.getElem?_eq_some_iff.1 HRY.out).1; exact this)]; exact HRY.out, ?_⟩
      have hlpy := (Array.getElem?_eq_some_iff.1 HRY.out).1
      have HQL := Lib.hid (show spanTo l (xAt l k) (xAt l (k + 1)) n = spanI l k by unfold spanI; rw [HN.out])
      rw [HQL.out] at HOV ⊢
      have hx1 := hxb k
      have hx2 := hxb (k + 1)
      have HX := Lib.hid (show pileL l k = heightsTo l (spanN l k) (xAt l k + xAt l (k + 1)) (spanI l k).length from rfl)
      have HSC := Lib.hid (show stripCells l (vs ++ [.slice av (spanI l k).length cv]) (k + 1) = stripCells l vs k ++ [.int .i64 (xAt l k), .int .i64 (xAt l (k + 1)), .slice av (spanI l k).length cv] by
        simp only [stripCells]
        rw [stripCells_ext _ _ _ _ (by rw [HVL.out]; exact Nat.le_refl _)]
        simp [List.getD_eq_getElem?_getD, HVL.out])
      have HSL := Lib.hid (segsQ_length l k)
      have hq12 : (spanI l k).length ≤ n := by have := spanTo_le l (xAt l k) (xAt l (k + 1)) l.length; unfold spanI; rw [HN.out] at this ⊢; exact this
      generalize xAt l k = X1 at *
      generalize xAt l (k + 1) = X2 at *
      generalize hq : (spanI l k).length = q at *
      have HQ := Lib.hid hq
      clear hq
      have HGB := Lib.hid (show ∀ g, (Value.slice av q cv).ownBlock = some g → g ≠ WS.heap.size + 1 ∧ W0.heap.size ≤ g ∧ g < Wy.heap.size from fun g hg => ⟨fun e => own_ne HOV.out HRY.out (by intro cur h; cases h) (by rw [hg, e]), (HOV.out.lt g hg).1, (HOV.out.lt g hg).2⟩)
      refine name_putObj ?_
      intro Wb hWb
      have hbs : Wb.heap.size = Wy.heap.size + 1 := by rw [hWb]; simp
      have hbs1 : Wb.heap.size ≤ Wy.heap.size + 1 := by omega
      have hbs2 : Wy.heap.size + 1 ≤ Wb.heap.size := by omega
      clear hbs
      have hbo : ∀ s, s < Wy.heap.size → s ≠ WS.heap.size + 1 → Wb.heap[s]? = Wy.heap[s]? := fun s hs hne => by
        rw [hWb, putObj_heap _ _ _ _ hne]; exact Below.heap_alloc _ _ _ hs
      have hbl := putObj_at hWb (by simp; omega)
      have hbx : Wb.heap[Wy.heap.size]? = some (.cells #[.int .i64 X1, .int .i64 X2, .slice av q cv] 84 (0, 0)) := by
        rw [hWb, putObj_heap _ _ _ _ (by omega)]; exact World.alloc_heap_new Wy _
      have HNB := Lib.hid (show New w Wb by rw [hWb]; exact new_putObj (HNY.out.alloc _) _ (by omega))
      have HBL := Lib.hid hbl
      have HBXX := Lib.hid hbx
      have HBO := Lib.hid hbo
      clear hWb hbl hbx hbo
      have HOVB := Lib.hid (show Wb.ownsRow W0.heap.size 3 1 (.slice av q cv) q (inCells (spanI l k)) from own_keep HOV.out fun g hg => HBO.out g (HGB.out g hg).2.2 (HGB.out g hg).1)
      have HOUTB := Lib.hid (show Wb.ownsRow w.heap.size 84 3 (.slice a k c) k (stripCells l vs k) from by
        refine ⟨HOUT.out.1, HOUT.out.2.imp (fun h => h) fun ⟨x1, x2, x3, x4, x5, x6, x7⟩ => ⟨x1, x2, x3, x4, x5, ?_, x7⟩⟩
        have h3 := (Array.getElem?_eq_some_iff.1 x6).1
        rw [HBO.out x1 h3 (fun h => by rw [h, HRY.out] at x6; cases x6)]
        exact x6)
      have hsy := HNY.out.size
      have hsw := HNWS.out.size
      have clx : Wb.cell? ⟨w.heap.size, 0, none⟩ = some (.slice (some ⟨b, off, none⟩) n cp) := by
        have h1 := HBO.out w.heap.size (by omega) (by omega)
        rw [HLY.out] at h1
        simp [World.cell?, h1]
      have co : Wb.cell? ⟨w1.heap.size, 0, none⟩ = some (.slice a k c) ∧ Wb.frozen? ⟨w1.heap.size, 0, none⟩ = false := by
        have h1 := HBO.out w1.heap.size (by omega) (by omega)
        rw [HBX.out] at h1
        simp [World.cell?, World.frozen?, h1]
      have cs : (Wb.cell? ⟨Wy.heap.size, 0, none⟩ = some (.int .i64 X1) ∧ Wb.cell? ⟨Wy.heap.size, 1, none⟩ = some (.int .i64 X2)) ∧ Wb.cell? ⟨Wy.heap.size, 2, none⟩ = some (.slice av q cv) := by
        have h1 := HBXX.out
        simp [World.cell?, h1]
      obtain ⟨⟨cs0, cs1⟩, cs2⟩ := cs
      by_cases hq0 : 0 < q
      · obtain ⟨gv, cv2, hgv0, hgv1, hgv2⟩ := HOV.out.form hq0
        obtain ⟨rfl, rfl⟩ : av = some ⟨gv, 0, none⟩ ∧ cv = cv2 := by cases hgv0; exact ⟨rfl, rfl⟩
        clear hgv0
        have hgl : gv ≠ WS.heap.size + 1 := (HGB.out gv (by simp [Value.ownBlock])).1
        have HPS := Lib.hid (show (pileL l k).length = q by rw [pileL_length]; exact HQ.out)
        have HNAT := Lib.hid (nats_own HOVB.out HQ.out)
        have HHT := Lib.hid (fun (w9 : World) (h9 : New Wb w9) => CallsIn.inRound (WS.heap.size + 1) ((callsIn_wide (n := 4 - 1 - 1)).2 (heights_c b off n cp gv 0 q cv l (spanN l k) (X1 + X2) w9 (by omega) (HW.out.new (HNB.out.trans h9)) (HNAT.out.new h9) (fun j hj => by have := (spanN_at l k j (by rw [HQ.out]; exact hj)).2; rw [HN.out] at this; exact this) hok (by omega))))
        have HSO := Lib.hid (fun (base gp cap : Nat) (w9 : World) (ho : w9.ownsRow base 142 3 (.slice (some ⟨gp, 0, none⟩) q cap) q (htCells (pileL l k))) => CallsIn.inRound (WS.heap.size + 1) ((callsIn_wide (n := 4 - 1 - 1)).2 (sortQ_c base gp q cap (pileL l k) w9 hq0 (by omega) HPS.out (hhb k HK1.out) ho)))
        have HGL := Lib.hid hgl
        clear hgl
        have hgv3 : gv < Wb.heap.size := by omega
        gi_wp2_with (first | (refine ⟨trivial, ?_⟩; gi_at_call 144; refine (HHT.out _ (New.refl _)).mono ?_; rintro e w3 ⟨vp, rfl, ho3, hn3⟩; rw [← HX.out] at ho3; obtain ⟨gp, cpp, rfl, hgp1, hgp2⟩ := ho3.form hq0; have HO3 := Lib.hid ho3; have HN3 := Lib.hid hn3; clear ho3 hn3) | (refine ⟨trivial, ?_⟩; gi_at_call 145; refine (HSO.out _ gp cpp _ HO3.out).mono ?_; rintro e w4 ⟨rfl, ho4, hg4⟩; have HO4 := Lib.hid ho4; have HG4 := Lib.hid hg4; clear ho4 hg4))
        have HNW4 := Lib.hid (show New Wb w4 from new_grownBy HN3.out HG4.out hgp1)
        have HPL4 := Lib.hid (show (pileQ l k).length = q by rw [pileQ_length]; exact HQ.out)
        have hs4 := HNW4.out.size
        have hgp4 := (HO4.out.lt gp rfl).2
        gi_loopw [8, 9, 31] (fun s8 s9 s31 wr => ∃ j : Nat, j ≤ q ∧ s31 = .int .i64 j ∧ wr.ownsRow Wb.heap.size 142 3 (.slice (some ⟨gp, 0, none⟩) q cpp) q (htCells (pileQ l k)) ∧ wr.ownsRow W0.heap.size 3 1 (.slice (some ⟨gv, 0, none⟩) q cv) q (inCells (mixI (spanI l k) (segsQ l k) j)) ∧ Wb.grownBy wr (some gv)) (fun _ _ i _ => q - (intOf i).toNat)
        case atStart => exact ⟨0, Nat.zero_le _, rfl, HO4.out, by rw [mixI_zero]; exact own_new HOVB.out HNW4.out, grownBy_new (grownBy_refl Wb _) HNW4.out⟩
        case round =>
          obtain ⟨j, hj, rfl, hop, hov, hgr⟩ := hrel
          have HOP := Lib.hid hop
          have HOVR := Lib.hid hov
          have HGR := Lib.hid hgr
          clear hop hov hgr
          have hsr := HGR.out.size
          by_cases hlt : j < q
          · obtain ⟨e1, e2, e3⟩ := htCells_at (pileQ l k) j (by rw [HPL4.out]; exact hlt)
            have g1 := (own_cell HOP.out e1).1
            have g2 := (own_cell HOP.out e2).1
            have g3 := (own_cell HOP.out e3).1
            rw [segsQ_at l k j (by rw [HQ.out]; exact hlt)] at g3
            have HMX := Lib.hid (mixI_set (s0 := spanI l k) (s1 := segsQ l k) HQ.out HSL.out hlt)
            generalize h1 (pileQ l k) j = A1 at *
            generalize h2 (pileQ l k) j = A2 at *
            generalize (segsQ l k).getD j 0 = A3 at *
            clear e1 e2 e3
            obtain ⟨v1, v2⟩ := own_any HOVR.out (j := j) (by have := (own_cap HOVR.out).1; omega)
            obtain ⟨vv, v3⟩ := Option.isSome_iff_exists.1 v1
            clear v1
            have c2r : wr.cell? ⟨Wy.heap.size, 2, none⟩ = some (.slice (some ⟨gv, 0, none⟩) q cv) := by
              rw [← cs2]; exact cell_same (HGR.out.block _ (by omega) (fun h => by injection h with h; omega))
            have hgpr := (HOP.out.lt gp rfl).2
            have hyl : Wy.heap.size < wr.heap.size := by omega
            have hgvl : gv < wr.heap.size := by omega
            have hgvw : ¬ gv = wr.heap.size := by omega
            gi_wp2
            go_roundw
            case rel => exact ⟨j + 1, by omega, by go_num, own_new (HOP.out.kept (grownBy_setCell (grownBy_refl wr (some gv)) j _) (.inr (by simp [Value.ownBlock]; omega))) ((New.refl _).alloc _), by rw [← HMX.out]; exact own_new (own_set HOVR.out j _) ((New.refl _).alloc _), grownBy_new (grownBy_setCell HGR.out _ _) ((New.refl _).alloc _)⟩
            case measure => simp [intOf]; omega
          · have hjq : j = q := by omega
            have HSEG := Lib.hid (show wr.ownsRow W0.heap.size 3 1 (.slice (some ⟨gv, 0, none⟩) q cv) q (inCells (segsQ l k)) from by have := HOVR.out; rw [hjq, mixI_all HQ.out HSL.out] at this; exact this)
            have HBK := Lib.hid (show ∀ s, s < Wb.heap.size → (∀ g, (Value.slice (some ⟨gv, 0, none⟩) q cv).ownBlock = some g → s ≠ g) → wr.heap[s]? = Wb.heap[s]? from fun s hs hne => HGR.out.block s hs (fun h => by injection h with h; exact hne gv (by simp [Value.ownBlock]) h))
            have HNR := Lib.hid (show New w wr from new_grownBy HNB.out HGR.out (by omega))
            generalize hav : (some ⟨gv, 0, none⟩ : Option Addr) = av at *
            clear hav
            have HGOV := Lib.hid (show ∀ g, (Value.slice a k c).ownBlock = some g → (∀ g', (Value.slice av q cv).ownBlock = some g' → g ≠ g') ∧ g < W0.heap.size from fun g hg => by have := HGO.out g hg; exact ⟨fun g' hg' => by have := HGB.out g' hg'; omega, this⟩)
            have HOUTR := Lib.hid (show wr.ownsRow w.heap.size 84 3 (.slice a k c) k (stripCells l vs k) from own_keep HOUTB.out (fun g hg => HBK.out g (by have := HGO.out g hg; omega) (HGOV.out g hg).1))
            have cor : wr.cell? ⟨w1.heap.size, 0, none⟩ = some (.slice a k c) := by rw [← co.1]; exact cell_same (HBK.out _ (by omega) (fun g hg => by have := HGB.out g hg; omega))
            have cs0r : wr.cell? ⟨Wy.heap.size, 0, none⟩ = some (.int .i64 X1) := by rw [← cs0]; exact cell_same (HBK.out _ (by omega) (fun g hg => by have := HGB.out g hg; omega))
            have cs1r : wr.cell? ⟨Wy.heap.size, 1, none⟩ = some (.int .i64 X2) := by rw [← cs1]; exact cell_same (HBK.out _ (by omega) (fun g hg => by have := HGB.out g hg; omega))
            have cs2r : wr.cell? ⟨Wy.heap.size, 2, none⟩ = some (.slice av q cv) := by rw [← cs2]; exact cell_same (HBK.out _ (by omega) (fun g hg => by have := HGB.out g hg; omega))
            have hbox : wr.heap[w1.heap.size]? = some (.cells #[.slice a k c] 65 (0, 0)) := by rw [HBK.out _ (by omega) (fun g hg => by have := HGB.out g hg; omega), HBO.out _ (by omega) (by omega)]; exact HBX.out
            have HBOXR := Lib.hid hbox
            clear hbox
            have hyl : Wy.heap.size < wr.heap.size := by omega
            have hwl2 : w1.heap.size < wr.heap.size := by omega
            have hkm2 : k ≤ 800 := by have := endXsL_le l; rw [HN.out] at this; omega
            have hbase : w.heap.size ≤ wr.heap.size := by omega
            obtain ⟨i0, hi, hz0, hz1, hz2⟩ := info_parts info84
            gi_wp2_with (gi_at_builtin; refine wpListIn_append_own_at _ rfl (.tmp 43) (.tmp 45) 65 rfl w.heap.size 84 i0 _ 3 40 Tryz.underlying65 hi hz0 hz1 hz2 rfl (by omega) (.slice a k c) k (stripCells l vs k) rfl (HOUTR.out.alloc _) ⟨wr.heap.size, 0, none⟩ 1 1 [.int .i64 X1, .int .i64 X2, .slice av q cv] rfl rfl (cells_new _ _ _ _ rfl) (by intro u hu; simp at hu; rcases hu with rfl | rfl | rfl <;> rfl) (by unfold maxLen; omega) (by omega) (by simp <;> omega) ?_; intro v5 w5 hown5 hgrow5 _ hat5; obtain ⟨g5, c5, rfl, hg51, hg52⟩ := hown5.form (by omega); have hb5 : w5.heap[w1.heap.size]? = some (.cells #[.slice a k c] 65 (0, 0)) := (hgrow5.block _ (by simp <;> omega) (Ne.symm (own_ne HOUTR.out HBOXR.out (by intro cur h; cases h)))).trans ((Below.heap_alloc _ _ _ hwl2).trans HBOXR.out); have c5c : w5.cell? ⟨w1.heap.size, 0, none⟩ = some (.slice a k c) ∧ w5.frozen? ⟨w1.heap.size, 0, none⟩ = false := box_cell hb5; have HO5 := Lib.hid hown5; have HG5 := Lib.hid hgrow5; have HA5 := Lib.hid hat5; have HB5 := Lib.hid hb5; clear hown5 hgrow5 hat5 hb5)
            have hlpW : wr.heap[WS.heap.size + 1]? = Wb.heap[WS.heap.size + 1]? := HBK.out _ (by omega) (fun g hg => Ne.symm (HGB.out g hg).1)
            have hlpo : some (WS.heap.size + 1) ≠ (Value.slice a k c).ownBlock := Ne.symm (own_ne HOUTR.out (hlpW.trans HBL.out) (by intro cur h; cases h))
            have hboo : some w1.heap.size ≠ (Value.slice a k c).ownBlock := Ne.symm (own_ne HOUTR.out HBOXR.out (by intro cur h; cases h))
            have h5k : ∀ s, s < wr.heap.size → some s ≠ (Value.slice a k c).ownBlock → w5.heap[s]? = wr.heap[s]? := fun s hs hne => (HG5.out.block s (by simp <;> omega) hne).trans (Below.heap_alloc _ _ _ hs)
            have h5l := (h5k _ (by omega) hlpo).trans (hlpW.trans HBL.out)
            have hG5 : (some g5 = (Value.slice a k c).ownBlock) ∨ g5 = wr.heap.size + 1 := by
              rcases HA5.out with h | h
              · exact .inl h
              · right; simp [Value.ownBlock] at h; exact h
            have hg5b : g5 ≠ w1.heap.size := by
              rcases hG5 with h | h
              · intro e; rw [e] at h; exact hboo h
              · omega
            have hg5l : g5 ≠ WS.heap.size + 1 := by
              rcases hG5 with h | h
              · intro e; rw [e] at h; exact hlpo h
              · omega
            have hg5p : g5 ≠ p := by
              rcases hG5 with h | h
              · intro e; rw [e] at h; exact hp h.symm
              · omega
            have hg5v : ∀ g, (Value.slice av q cv).ownBlock = some g → g5 ≠ g := fun g hg => by
              rcases hG5 with h | h
              · exact (HGOV.out g5 h.symm).1 g hg
              · have := HGB.out g hg; omega
            have HS := Lib.hid (show ∀ (o : Obj) (u : Value) s, s ≠ WS.heap.size + 1 → s ≠ w1.heap.size → ((w5.setCell ⟨w1.heap.size, 0, none⟩ u).putObj (WS.heap.size + 1) o).heap[s]? = w5.heap[s]? from fun o u s hne hne2 => (putObj_heap _ _ _ _ hne).trans (heap_setCell_other _ _ _ _ _ hne2))
            have HP := Lib.hid (show ∀ (o : Obj) (u : Value) s, s < Wy.heap.size → s ≠ WS.heap.size + 1 → (∀ g, (Value.slice av q cv).ownBlock = some g → s ≠ g) → some s ≠ (Value.slice a k c).ownBlock → s ≠ w1.heap.size → ((w5.setCell ⟨w1.heap.size, 0, none⟩ u).putObj (WS.heap.size + 1) o).heap[s]? = Wy.heap[s]? from fun o u s hs hne hne2 hne3 hne4 =>
              (HS.out o u s hne hne4).trans ((h5k s (by omega) hne3).trans ((HBK.out s (by omega) hne2).trans (HBO.out s hs hne))))
            have hDo : some WS.heap.size ≠ (Value.slice a k c).ownBlock := Ne.symm (own_ne HOUT.out HDY.out (by intro cur h; cases h))
            have hLo : some w.heap.size ≠ (Value.slice a k c).ownBlock := Ne.symm (own_ne HOUT.out HLY.out (by intro cur h; cases h))
            have hBo : some (w1.heap.size + 1) ≠ (Value.slice a k c).ownBlock := Ne.symm (own_ne HOUT.out HBBY.out (by intro cur h; cases h))
            have hbo2 : some b ≠ (Value.slice a k c).ownBlock := by
              intro h
              have h1 := (HOUT.out.lt b h.symm).1
              have h2 := HW.out.2.1
              omega
            have hbw := HW.out.2.1
            have hs5 := HG5.out.size
            simp only [World.size_alloc] at hs5
            have hbel : ∀ s, s < W0.heap.size → ∀ g, (Value.slice av q cv).ownBlock = some g → s ≠ g := fun s hs g hg => by have := HGB.out g hg; omega
            refine ⟨(heap_setCell_other _ _ _ _ _ (by omega)).trans h5l, ?_, ?_⟩
            · unfold SweepJ
              refine ⟨some ⟨g5, 0, none⟩, c5, vs ++ [.slice av q cv], by rw [List.length_append, HVL.out]; rfl, ?_, ?_, ?_, ?_, ?_, ?_, ?_, ?_, hp2, ?_, ?_⟩
              · rw [HSC.out]
                refine own_keep HO5.out fun g hg => ?_
                simp [Value.ownBlock] at hg
                rw [← hg]
                exact HS.out _ _ g5 hg5l hg5b
              · intro j2 hj2
                by_cases hjk : j2 < k
                · have hgd : (vs ++ [Value.slice av q cv]).getD j2 undef = vs.getD j2 undef := by simp [List.getD_eq_getElem?_getD, List.getElem?_append, HVL.out, hjk]
                  rw [hgd]
                  obtain ⟨o1, o2⟩ := HVS.out j2 hjk
                  refine ⟨own_keep o1 fun g hg => ?_, ?_⟩
                  · have hgw := (o1.lt g hg).2
                    have o1y := own_new o1 hny
                    rw [HP.out _ _ g (by omega) (fun e => own_ne o1y HRY.out (by intro cur h; cases h) (by rw [hg, e])) (hbel g hgw) (fun e => o2 g hg e.symm) (fun e => own_ne o1y HBX.out (by intro cur h; cases h) (by rw [hg, e]))]
                    exact HE.out g hgw
                  · intro g hg h
                    simp [Value.ownBlock] at h
                    rcases hG5 with h5 | h5
                    · exact o2 g hg (by rw [← h5, h])
                    · have := (o1.lt g hg).2; omega
                · have hje : j2 = k := by omega
                  subst hje
                  have hgd : (vs ++ [Value.slice av q cv]).getD j2 undef = .slice av q cv := by simp [List.getD_eq_getElem?_getD, HVL.out]
                  rw [hgd, HSL.out]
                  refine ⟨own_base (own_keep HSEG.out fun g hg => ?_) (by omega), fun g hg h => ?_⟩
                  · have := HGB.out g hg
                    exact (HS.out _ _ g (HGB.out g hg).1 (by omega)).trans (h5k g (by omega) (fun e => (HGOV.out g e.symm).1 g hg rfl))
                  · simp [Value.ownBlock] at h
                    exact hg5v g hg h
              · exact new_putObj (New.setCell (new_grown (HNR.out.alloc _) HG5.out HOUTR.out) (by show w.heap.size ≤ w1.heap.size; omega) _) _ (by omega)
              · rw [putObj_heap _ _ _ _ (by omega)]
                exact heap_setCell_same w5 w1.heap.size 0 _ HB5.out
              · rw [HP.out _ _ _ (by omega) (by omega) (hbel _ (by omega)) hDo (by omega)]; exact HDY.out
              · refine (World.putObj_heap_same ?_).trans (HRC.out.symm.trans (Array.getElem?_eq_getElem _))
                show _ < (w5.heap.modify _ _).size
                rw [Array.size_modify]
                exact (Array.getElem?_eq_some_iff.1 h5l).1
              · rw [HP.out _ _ _ (by omega) (by omega) (hbel _ (by omega)) hLo (by omega)]; exact HLY.out
              · simp [Value.ownBlock]; exact hg5p
              · have := HF.out; omega
              · rw [HP.out _ _ _ (by omega) (by omega) (hbel _ (by omega)) hBo (by omega)]; exact HBBY.out
            · refine ⟨⟨?_, ?_, ?_⟩, ?_⟩
              · rw [World.putObj_size]
                show _ ≤ (w5.heap.modify _ _).size
                rw [Array.size_modify]
                omega
              · rw [HP.out _ _ _ (by omega) (by omega) (hbel _ (by omega)) hBo (by omega)]
              · rw [HP.out _ _ _ (by omega) (by omega) (hbel _ (by omega)) hbo2 (by omega)]
              · rw [HP.out _ _ _ (by omega) (by omega) (hbel _ (by omega)) (Ne.symm hp) (by omega)]
      · obtain rfl : q = 0 := by omega
        have HHT := Lib.hid (fun (w9 : World) => CallsIn.inRound (WS.heap.size + 1) ((callsIn_wide (n := 4 - 1 - 1)).2 (heights_nil (some ⟨b, off, none⟩) av n cp cv (X1 + X2) w9)))
        have HSO := Lib.hid (fun (gp cap : Nat) (w9 : World) => CallsIn.inRound (WS.heap.size + 1) ((callsIn_wide (n := 4 - 1 - 1)).2 (sortQ_nil (some ⟨gp, 0, none⟩) cap w9)))
        gi_wp2_with (first | (refine ⟨trivial, ?_⟩; gi_at_call 144; refine (HHT.out _).mono ?_; rintro e w3 ⟨gp, cpp, rfl, hn3⟩; have HN3 := Lib.hid hn3; clear hn3) | (refine ⟨trivial, ?_⟩; gi_at_call 145; refine (HSO.out gp cpp _).mono ?_; rintro e w4 ⟨rfl, rfl⟩))
        gi_loopw [8, 9, 31] (fun s8 s9 s31 wr => s31 = .int .i64 0 ∧ New Wb wr) (fun _ _ i _ => 0)
        case atStart => exact ⟨rfl, HN3.out⟩
        case round =>
          obtain ⟨rfl, hnr⟩ := hrel
          have hsr := hnr.size
          have HSEG := Lib.hid (show wr.ownsRow W0.heap.size 3 1 (.slice av 0 cv) 0 (inCells (segsQ l k)) from by
            have e1 : segsQ l k = [] := List.eq_nil_of_length_eq_zero HSL.out
            have e2 : spanI l k = [] := List.eq_nil_of_length_eq_zero HQ.out
            have := own_new HOVB.out hnr
            rw [e2] at this
            rw [e1]
            exact this)
          have HBK := Lib.hid (show ∀ s, s < Wb.heap.size → (∀ g, (Value.slice av 0 cv).ownBlock = some g → s ≠ g) → wr.heap[s]? = Wb.heap[s]? from fun s hs _ => hnr.below.block s hs)
          have HNR := Lib.hid (show New w wr from HNB.out.trans hnr)
          clear hnr
          have HGOV := Lib.hid (show ∀ g, (Value.slice a k c).ownBlock = some g → (∀ g', (Value.slice av 0 cv).ownBlock = some g' → g ≠ g') ∧ g < W0.heap.size from fun g hg => by have := HGO.out g hg; exact ⟨fun g' hg' => by have := HGB.out g' hg'; omega, this⟩)
          have HOUTR := Lib.hid (show wr.ownsRow w.heap.size 84 3 (.slice a k c) k (stripCells l vs k) from own_keep HOUTB.out (fun g hg => HBK.out g (by have := HGO.out g hg; omega) (HGOV.out g hg).1))
          have cor : wr.cell? ⟨w1.heap.size, 0, none⟩ = some (.slice a k c) := by rw [← co.1]; exact cell_same (HBK.out _ (by omega) (fun g hg => by have := HGB.out g hg; omega))
          have cs0r : wr.cell? ⟨Wy.heap.size, 0, none⟩ = some (.int .i64 X1) := by rw [← cs0]; exact cell_same (HBK.out _ (by omega) (fun g hg => by have := HGB.out g hg; omega))
          have cs1r : wr.cell? ⟨Wy.heap.size, 1, none⟩ = some (.int .i64 X2) := by rw [← cs1]; exact cell_same (HBK.out _ (by omega) (fun g hg => by have := HGB.out g hg; omega))
          have cs2r : wr.cell? ⟨Wy.heap.size, 2, none⟩ = some (.slice av 0 cv) := by rw [← cs2]; exact cell_same (HBK.out _ (by omega) (fun g hg => by have := HGB.out g hg; omega))
          have hbox : wr.heap[w1.heap.size]? = some (.cells #[.slice a k c] 65 (0, 0)) := by rw [HBK.out _ (by omega) (fun g hg => by have := HGB.out g hg; omega), HBO.out _ (by omega) (by omega)]; exact HBX.out
          have HBOXR := Lib.hid hbox
          clear hbox
          have hyl : Wy.heap.size < wr.heap.size := by omega
          have hwl2 : w1.heap.size < wr.heap.size := by omega
          have hkm2 : k ≤ 800 := by have := endXsL_le l; rw [HN.out] at this; omega
          have hbase : w.heap.size ≤ wr.heap.size := by omega
          obtain ⟨i0, hi, hz0, hz1, hz2⟩ := info_parts info84
          gi_wp2_with (gi_at_builtin; refine wpListIn_append_own_at _ rfl (.tmp 43) (.tmp 45) 65 rfl w.heap.size 84 i0 _ 3 40 Tryz.underlying65 hi hz0 hz1 hz2 rfl (by omega) (.slice a k c) k (stripCells l vs k) rfl (HOUTR.out.alloc _) ⟨wr.heap.size, 0, none⟩ 1 1 [.int .i64 X1, .int .i64 X2, .slice av 0 cv] rfl rfl (cells_new _ _ _ _ rfl) (by intro u hu; simp at hu; rcases hu with rfl | rfl | rfl <;> rfl) (by unfold maxLen; omega) (by omega) (by simp <;> omega) ?_; intro v5 w5 hown5 hgrow5 _ hat5; obtain ⟨g5, c5, rfl, hg51, hg52⟩ := hown5.form (by omega); have hb5 : w5.heap[w1.heap.size]? = some (.cells #[.slice a k c] 65 (0, 0)) := (hgrow5.block _ (by simp <;> omega) (Ne.symm (own_ne HOUTR.out HBOXR.out (by intro cur h; cases h)))).trans ((Below.heap_alloc _ _ _ hwl2).trans HBOXR.out); have c5c : w5.cell? ⟨w1.heap.size, 0, none⟩ = some (.slice a k c) ∧ w5.frozen? ⟨w1.heap.size, 0, none⟩ = false := box_cell hb5; have HO5 := Lib.hid hown5; have HG5 := Lib.hid hgrow5; have HA5 := Lib.hid hat5; have HB5 := Lib.hid hb5; clear hown5 hgrow5 hat5 hb5)
          have hlpW : wr.heap[WS.heap.size + 1]? = Wb.heap[WS.heap.size + 1]? := HBK.out _ (by omega) (fun g hg => Ne.symm (HGB.out g hg).1)
          have hlpo : some (WS.heap.size + 1) ≠ (Value.slice a k c).ownBlock := Ne.symm (own_ne HOUTR.out (hlpW.trans HBL.out) (by intro cur h; cases h))
          have hboo : some w1.heap.size ≠ (Value.slice a k c).ownBlock := Ne.symm (own_ne HOUTR.out HBOXR.out (by intro cur h; cases h))
          have h5k : ∀ s, s < wr.heap.size → some s ≠ (Value.slice a k c).ownBlock → w5.heap[s]? = wr.heap[s]? := fun s hs hne => (HG5.out.block s (by simp <;> omega) hne).trans (Below.heap_alloc _ _ _ hs)
          have h5l := (h5k _ (by omega) hlpo).trans (hlpW.trans HBL.out)
          have hG5 : (some g5 = (Value.slice a k c).ownBlock) ∨ g5 = wr.heap.size + 1 := by
            rcases HA5.out with h | h
            · exact .inl h
            · right; simp [Value.ownBlock] at h; exact h
          have hg5b : g5 ≠ w1.heap.size := by
            rcases hG5 with h | h
            · intro e; rw [e] at h; exact hboo h
            · omega
          have hg5l : g5 ≠ WS.heap.size + 1 := by
            rcases hG5 with h | h
            · intro e; rw [e] at h; exact hlpo h
            · omega
          have hg5p : g5 ≠ p := by
            rcases hG5 with h | h
            · intro e; rw [e] at h; exact hp h.symm
            · omega
          have hg5v : ∀ g, (Value.slice av 0 cv).ownBlock = some g → g5 ≠ g := fun g hg => by
            rcases hG5 with h | h
            · exact (HGOV.out g5 h.symm).1 g hg
            · have := HGB.out g hg; omega
          have HS := Lib.hid (show ∀ (o : Obj) (u : Value) s, s ≠ WS.heap.size + 1 → s ≠ w1.heap.size → ((w5.setCell ⟨w1.heap.size, 0, none⟩ u).putObj (WS.heap.size + 1) o).heap[s]? = w5.heap[s]? from fun o u s hne hne2 => (putObj_heap _ _ _ _ hne).trans (heap_setCell_other _ _ _ _ _ hne2))
          have HP := Lib.hid (show ∀ (o : Obj) (u : Value) s, s < Wy.heap.size → s ≠ WS.heap.size + 1 → (∀ g, (Value.slice av 0 cv).ownBlock = some g → s ≠ g) → some s ≠ (Value.slice a k c).ownBlock → s ≠ w1.heap.size → ((w5.setCell ⟨w1.heap.size, 0, none⟩ u).putObj (WS.heap.size + 1) o).heap[s]? = Wy.heap[s]? from fun o u s hs hne hne2 hne3 hne4 =>
            (HS.out o u s hne hne4).trans ((h5k s (by omega) hne3).trans ((HBK.out s (by omega) hne2).trans (HBO.out s hs hne))))
          have hDo : some WS.heap.size ≠ (Value.slice a k c).ownBlock := Ne.symm (own_ne HOUT.out HDY.out (by intro cur h; cases h))
          have hLo : some w.heap.size ≠ (Value.slice a k c).ownBlock := Ne.symm (own_ne HOUT.out HLY.out (by intro cur h; cases h))
          have hBo : some (w1.heap.size + 1) ≠ (Value.slice a k c).ownBlock := Ne.symm (own_ne HOUT.out HBBY.out (by intro cur h; cases h))
          have hbo2 : some b ≠ (Value.slice a k c).ownBlock := by
            intro h
            have h1 := (HOUT.out.lt b h.symm).1
            have h2 := HW.out.2.1
            omega
          have hbw := HW.out.2.1
          have hs5 := HG5.out.size
          simp only [World.size_alloc] at hs5
          have hbel : ∀ s, s < W0.heap.size → ∀ g, (Value.slice av 0 cv).ownBlock = some g → s ≠ g := fun s hs g hg => by have := HGB.out g hg; omega
          refine ⟨(heap_setCell_other _ _ _ _ _ (by omega)).trans h5l, ?_, ?_⟩
          · unfold SweepJ
            refine ⟨some ⟨g5, 0, none⟩, c5, vs ++ [.slice av 0 cv], by rw [List.length_append, HVL.out]; rfl, ?_, ?_, ?_, ?_, ?_, ?_, ?_, ?_, hp2, ?_, ?_⟩
            · rw [HSC.out]
              refine own_keep HO5.out fun g hg => ?_
              simp [Value.ownBlock] at hg
              rw [← hg]
              exact HS.out _ _ g5 hg5l hg5b
            · intro j2 hj2
              by_cases hjk : j2 < k
              · have hgd : (vs ++ [Value.slice av 0 cv]).getD j2 undef = vs.getD j2 undef := by simp [List.getD_eq_getElem?_getD, List.getElem?_append, HVL.out, hjk]
                rw [hgd]
                obtain ⟨o1, o2⟩ := HVS.out j2 hjk
                refine ⟨own_keep o1 fun g hg => ?_, ?_⟩
                · have hgw := (o1.lt g hg).2
                  have o1y := own_new o1 hny
                  rw [HP.out _ _ g (by omega) (fun e => own_ne o1y HRY.out (by intro cur h; cases h) (by rw [hg, e])) (hbel g hgw) (fun e => o2 g hg e.symm) (fun e => own_ne o1y HBX.out (by intro cur h; cases h) (by rw [hg, e]))]
                  exact HE.out g hgw
                · intro g hg h
                  simp [Value.ownBlock] at h
                  rcases hG5 with h5 | h5
                  · exact o2 g hg (by rw [← h5, h])
                  · have := (o1.lt g hg).2; omega
              · have hje : j2 = k := by omega
                subst hje
                have hgd : (vs ++ [Value.slice av 0 cv]).getD j2 undef = .slice av 0 cv := by simp [List.getD_eq_getElem?_getD, HVL.out]
                rw [hgd, HSL.out]
                refine ⟨own_base (own_keep HSEG.out fun g hg => ?_) (by omega), fun g hg h => ?_⟩
                · have := HGB.out g hg
                  exact (HS.out _ _ g (HGB.out g hg).1 (by omega)).trans (h5k g (by omega) (fun e => (HGOV.out g e.symm).1 g hg rfl))
                · simp [Value.ownBlock] at h
                  exact hg5v g hg h
            · exact new_putObj (New.setCell (new_grown (HNR.out.alloc _) HG5.out HOUTR.out) (by show w.heap.size ≤ w1.heap.size; omega) _) _ (by omega)
            · rw [putObj_heap _ _ _ _ (by omega)]
              exact heap_setCell_same w5 w1.heap.size 0 _ HB5.out
            · rw [HP.out _ _ _ (by omega) (by omega) (hbel _ (by omega)) hDo (by omega)]; exact HDY.out
            · refine (World.putObj_heap_same ?_).trans (HRC.out.symm.trans (Array.getElem?_eq_getElem _))
              show _ < (w5.heap.modify _ _).size
              rw [Array.size_modify]
              exact (Array.getElem?_eq_some_iff.1 h5l).1
            · rw [HP.out _ _ _ (by omega) (by omega) (hbel _ (by omega)) hLo (by omega)]; exact HLY.out
            · simp [Value.ownBlock]; exact hg5p
            · have := HF.out; omega
            · rw [HP.out _ _ _ (by omega) (by omega) (hbel _ (by omega)) hBo (by omega)]; exact HBBY.out
          · refine ⟨⟨?_, ?_, ?_⟩, ?_⟩
            · rw [World.putObj_size]
              show _ ≤ (w5.heap.modify _ _).size
              rw [Array.size_modify]
              omega
            · rw [HP.out _ _ _ (by omega) (by omega) (hbel _ (by omega)) hBo (by omega)]
            · rw [HP.out _ _ _ (by omega) (by omega) (hbel _ (by omega)) hbo2 (by omega)]
            · rw [HP.out _ _ _ (by omega) (by omega) (hbel _ (by omega)) (Ne.symm hp) (by omega)]
    · rintro e W' ⟨⟨v, rfl⟩, p, W0, hI, hn0⟩
      rw [HF.out] at hI
      obtain ⟨a, c, vs, hvl, hout, hvs, hnw, hbx2, hdf, hrc, hlb, hp, hp2, hkm, hbb0⟩ := hI
      have e : ∀ k, k < W0.heap.size → W'.heap[k]? = W0.heap[k]? := HOLD.out _ _ hn0
      have hlp : WS.heap.size + 1 < W0.heap.size := by
        have h1 := HRC.out
        rw [← hrc] at h1
        exact (Array.getElem?_eq_some_iff.1 h1).1
      exact ⟨⟨v, rfl⟩, ⟨a, c, vs, hvl, own_new hout hn0, fun j hj => own_new (hvs j hj).1 hn0, hnw.trans hn0, by rw [e _ (by omega)]; exact hbx2, by rw [e _ (by omega)]; exact hdf, _, (e _ hlp).trans (hrc.trans HRC.out)⟩, (e _ hlp).trans (hrc.trans HRC.out)⟩
  case hdone =>
    rintro W o ⟨a, c, vs, hvl, hout, hvs, hnw, hbx2, hdf, r, hrc⟩
    have HF := Lib.hid hM
    obtain ⟨Wf, HWf⟩ : ∃ Wf, Hid (Wf = W.putObj (WS.heap.size + 1) o) := ⟨_, Lib.hid rfl⟩
    rw [← HWf.out]
    have hsn := HNS.out.size
    have hbf : Wf.heap[w1.heap.size]? = some (.cells #[.slice a M c] 65 (0, 0)) := by rw [HWf.out, putObj_heap _ _ _ _ (by omega)]; exact hbx2
    have hcell : Wf.cell? ⟨w1.heap.size, 0, none⟩ = some (.slice a M c) := by simp [World.cell?, hbf]
    have HDF := Lib.hid (show Wf.heap[WS.heap.size]? = some (.deferred (some [])) by rw [HWf.out, putObj_heap _ _ _ _ (by omega)]; exact hdf)
    have HOUT := Lib.hid (show Wf.ownsRow w.heap.size 84 3 (.slice a M c) M (stripCells l vs M) by rw [HWf.out]; exact ownsRow_putObj hout _ hrc rfl)
    have HVS := Lib.hid (show ∀ j, j < M → Wf.ownsRow w.heap.size 3 1 (vs.getD j undef) (segsQ l j).length (inCells (segsQ l j)) by intro j hj; rw [HWf.out]; exact ownsRow_putObj (hvs j hj) _ hrc rfl)
    have HNW := Lib.hid (show New w Wf by rw [HWf.out]; exact new_putObj hnw _ (by omega))
    have HVL := Lib.hid hvl
    clear hout hvs hnw hbx2 hdf hrc hvl hbf
    gi_wp2
    refine ⟨by simp, .inl ⟨_, _, rfl, run_takeDeferred HDF.out, ?_⟩⟩
    refine ⟨_, results_tmp2 rfl _ _ _, ?_⟩
    rw [HF.out]
    exact ⟨a, c, vs, rfl, HVL.out, ownsRow_putObj HOUT.out _ HDF.out rfl, fun j hj => ownsRow_putObj (HVS.out j hj) _ HDF.out rfl, new_putObj HNW.out _ hsn⟩

end Go.Proofs.YtpdfbboagaflhaaGreat

set_option linter.unusedSimpArgs false
set_option linter.unusedVariables false
namespace Go.Proofs.YtpdfbboagaflhaaGreat
open Go.RowKit Go.Maps

set_option maxHeartbeats 4000000 in
theorem ref_allValid (b off n c : Nat) (l : List P2) (w : World) (hl : n ≤ 1000000000) (hw : Pts w b off n l) :
    Calls Tryz.prog 104 #[.slice (some ⟨b, off, none⟩) n c] w fun en w' => en = .returned (.bool (okL l)) ∧ New w w' := by
  obtain ⟨hn, hb, hcell⟩ := hw
  have HN := Lib.hid hn
  clear hn
  go_enter Tryz.func104, Tryz.ntmps104
  go_wp2_with fail
  go_loopw [3] (fun i wr => ∃ k : Nat, k ≤ n ∧ i = .int .i64 k ∧ okL (l.take k) = true ∧ New w wr) (fun i _ => n - (intOf i).toNat)
  case atStart => exact ⟨0, Nat.zero_le _, rfl, by simp [okL], New.refl w⟩
  case round =>
    obtain ⟨k, hk, rfl, hok, pr, rfl⟩ := hrel
    have HOK := Lib.hid hok
    clear hok
    by_cases hlt : k < n
    · obtain ⟨c1, c2⟩ := hcell k hlt
      have HV := Lib.hid (ref_valid (px l k) (py l k))
      by_cases hv : okP (px l k) (py l k) = true
      · rw [hv] at HV
        go_wp2_with (go_at_call 86; refine (HV.out _).mono ?_; rintro e w1 ⟨rfl, pw, rfl⟩)
        go_roundw
        case rel => exact ⟨k + 1, by omega, by go_num, by rw [okL_snoc l k (by rw [HN.out]; exact hlt), HOK.out, hv]; rfl, by (repeat (first | exact New.refl _ | apply New.alloc | apply New.aft | apply New.drew | refine New.setCell ?_ ?_ _)); all_goals (first | done | (simp [size_aft]; done) | (simp [size_aft]; omega))⟩
        case measure => simp [intOf]; omega
      · have hv' : okP (px l k) (py l k) = false := by simpa using hv
        rw [hv'] at HV
        have HF := Lib.hid (okL_not l k (by rw [HN.out]; exact hlt) hv')
        clear hv hv'
        go_wp2_with (go_at_call 86; refine (HV.out _).mono ?_; rintro e w1 ⟨rfl, pw, rfl⟩)
        go_ret
        refine ⟨ret_bool HF.out.symm, ?_⟩
        (repeat (first | exact New.refl _ | apply New.alloc | apply New.aft | apply New.drew | refine New.setCell ?_ ?_ _)); all_goals (first | done | (simp [size_aft]; done) | (simp [size_aft]; omega))
    · go_wp2_with fail
      go_ret
      have h1 : okL l = true := by
        have := HOK.out
        rwa [List.take_of_length_le (by rw [HN.out]; omega)] at this
      refine ⟨ret_bool h1.symm, ?_⟩
      (repeat (first | exact New.refl _ | apply New.alloc | apply New.aft | apply New.drew | refine New.setCell ?_ ?_ _)); all_goals (first | done | (simp [size_aft]; done) | (simp [size_aft]; omega))

set_option maxHeartbeats 1000000 in
theorem ref_allValid_nil (w : World) (v : Option Addr) (c : Nat) : Calls Tryz.prog 104 #[.slice v 0 c] w fun en w' => en = .returned (.bool true) ∧ New w w' := by
  go_enter Tryz.func104, Tryz.ntmps104
  go_wp2_with fail
  refine wp_loop_rounds 1 ?_
  repeat any_goals (rw [rounds_succ]; go_wp2)
  go_ret; exact ⟨rfl, New.refl _⟩

set_option maxHeartbeats 1000000 in
theorem checkPoints_nil (v : Option Addr) (c : Nat) (most : Int) (hm : 0 ≤ most) (w : World) : Calls Tryz.prog 84 #[.slice v 0 c, .int .i64 most] w fun en w' => en = .returned (.int .i64 0) ∧ New w w' := by
  go_enter Tryz.func84, Tryz.ntmps84
  go_wp2_with fail
  all_goals (try (exfalso; omega))
  refine wp_loop_rounds 1 ?_
  repeat any_goals (rw [rounds_succ]; go_wp2)
  go_ret; exact ⟨rfl, New.refl _⟩

set_option maxHeartbeats 1000000 in
theorem length_nil (v : Option Addr) (c : Nat) (w : World) : Calls Tryz.prog 42 #[.slice v 0 c] w fun en w' => en = .returned (.int .i64 0) ∧ New w w' := by
  have HC := Lib.hid (checkPoints_nil v c 400 (by omega))
  go_enter Tryz.func42, Tryz.ntmps42
  go_wp2_with (go_at_call 84; refine (HC.out _).mono ?_; rintro e w1 ⟨rfl, pw, rfl⟩)
  refine wp_loop_rounds 1 ?_
  repeat any_goals (rw [rounds_succ]; go_wp2)
  go_ret; refine ⟨rfl, ?_⟩; (repeat (first | exact New.refl _ | apply New.alloc | apply New.aft | apply New.drew | refine New.setCell ?_ ?_ _)); all_goals (first | done | (simp [size_aft]; done) | (simp [size_aft]; omega))

theorem addKeys_len : ∀ (ks acc : List Lit), (∀ x ∈ ks, WideAt.IsKeyLit x) → ((ks.foldl addKey acc).length ≤ acc.length + ks.length) ∧ ((ks.foldl addKey acc).length = acc.length + ks.length ↔ ks.Nodup ∧ ∀ x ∈ ks, x ∉ acc)
  | [], acc, _ => by simp
  | x :: r, acc, h => by
    rw [List.foldl_cons]
    have hx := h x (by simp)
    have hr : ∀ y ∈ r, WideAt.IsKeyLit y := fun y hy => h y (by simp [hy])
    have hany : (acc.any fun y => y.sameKey x) = true ↔ x ∈ acc := by
      rw [List.any_eq_true]
      constructor
      · rintro ⟨y, hy, hs⟩; rw [WideAt.sameKey_iff hx] at hs; subst hs; exact hy
      · intro hm; exact ⟨x, hm, (WideAt.sameKey_iff hx).2 rfl⟩
    by_cases hm : x ∈ acc
    · rw [show addKey acc x = acc from if_pos (hany.2 hm)]
      have ih := addKeys_len r acc hr
      constructor
      · have := ih.1; simp only [List.length_cons]; omega
      · constructor
        · intro e; have := ih.1; simp only [List.length_cons] at e; omega
        · intro e; exact absurd hm (e.2 x (by simp))
    · rw [show addKey acc x = acc ++ [x] from if_neg (fun hh => hm (hany.1 hh))]
      have ih := addKeys_len r (acc ++ [x]) hr
      simp only [List.length_append, List.length_cons, List.length_nil] at ih ⊢
      constructor
      · omega
      · rw [show acc.length + (r.length + 1) = acc.length + (0 + 1) + r.length by omega, ih.2, List.nodup_cons]
        simp only [List.mem_append, List.mem_cons, List.not_mem_nil, or_false]
        constructor
        · rintro ⟨h1, h2⟩
          refine ⟨⟨fun hh => h2 x hh (.inr rfl), h1⟩, ?_⟩
          rintro y (rfl | hy)
          · exact hm
          · exact fun hh => h2 y hy (.inl hh)
        · rintro ⟨⟨h1, h2⟩, h3⟩
          refine ⟨h2, fun y hy => ?_⟩
          rintro (hh | rfl)
          · exact h3 y (.inr hy) hh
          · exact h1 hy
theorem keysTo_key (l : List P2) (k : Nat) : ∀ x ∈ keysTo l k, WideAt.IsKeyLit x := fun x hx => by
  simp only [keysTo, List.mem_map] at hx
  obtain ⟨i, _, rfl⟩ := hx
  trivial
theorem repI_nodup (l : List P2) : repI l = false ↔ (keysTo l l.length).Nodup := by
  have h := addKeys_len (keysTo l l.length) [] (keysTo_key l _)
  have hlen : (keysTo l l.length).length = l.length := by simp [keysTo]
  unfold repI
  rw [decide_eq_false_iff_not]
  simp only [List.length_nil, Nat.zero_add, hlen, List.not_mem_nil, not_false_eq_true, implies_true, and_true] at h
  rw [← h.2]
  omega
theorem nodup_map_range {β : Type} (f : Nat → β) (n : Nat) : ((List.range n).map f).Nodup ↔ ∀ i j, i < n → j < n → f i = f j → i = j := by
  rw [List.nodup_iff_pairwise_ne, List.pairwise_map, List.pairwise_iff_getElem]
  simp only [List.getElem_range, List.length_range]
  constructor
  · intro h i j hi hj e
    rcases Nat.lt_trichotomy i j with hh | hh | hh
    · exact absurd e (h i j hi hj hh)
    · exact hh
    · exact absurd e.symm (h j i hj hi hh)
  · intro h i j hi hj hij e
    have := h i j hi hj e
    omega
/-- no point comes twice -/
theorem rep_no {l : List P2} (h : repI l = false) {i j : Nat} (hi : i < l.length) (hj : j < l.length) (hx : px l i = px l j) (hy : py l i = py l j) : i = j := by
  rw [repI_nodup, keysTo, nodup_map_range] at h
  exact h i j hi hj (by rw [hx, hy])

theorem okS_edge {l : List P2} (h : polyI l = 0) {k : Nat} (hk : k < l.length) : okS (px l k) (py l k) (px l ((k + 1) % l.length)) (py l ((k + 1) % l.length)) = true := by
  obtain ⟨h1, h2, h3, h4⟩ := polyI_ok h
  obtain ⟨_, hok⟩ := ckPts_zero h1
  have hm : (k + 1) % l.length < l.length := Nat.mod_lt _ (by omega)
  rw [okS_iff]
  refine ⟨okL_bd hok k, okL_bd hok _, ?_⟩
  rintro ⟨e1, e2⟩
  have := rep_no h3 hk hm e1 e2
  by_cases hl : k + 1 = l.length
  · rw [hl, Nat.mod_self] at this; omega
  · rw [Nat.mod_eq_of_lt (by omega)] at this; omega
theorem where_corner {l : List P2} (h : polyI l = 0) {k : Nat} (hk : k < l.length) : WhereI l (px l k) (py l k) = 1 := by
  obtain ⟨h1, h2, h3, h4⟩ := polyI_ok h
  obtain ⟨_, hok⟩ := ckPts_zero h1
  have hp := okL_at l k hk hok
  rw [WhereI, if_pos ⟨hp, h⟩, whereI, anyOn_at (edgesL l) (px l k) (py l k) k l.length hk, if_pos rfl]
  obtain ⟨e1, e2, e3, e4⟩ := edgesL_at l k hk
  rw [onAt, e1, e2, e3, e4, ← onR_eq, onR_A]
theorem on_edge {l : List P2} (h : polyI l = 0) {p q : Int} (hp : okP p q = true) {k : Nat} (hk : k < l.length) : OnX p q (px l k) (py l k) (px l ((k + 1) % l.length)) (py l ((k + 1) % l.length)) = onAt (edgesL l) p q k := by
  obtain ⟨e1, e2, e3, e4⟩ := edgesL_at l k hk
  rw [OnX, hp, okS_edge h hk, onAt, e1, e2, e3, e4]; rfl
theorem border_last {l : List P2} (h : polyI l = 0) {p q : Int} (hp : okP p q = true) : (anyOn (edgesL l) p q l.length == (WhereI l p q == 1)) = true := by
  rw [WhereI, if_pos ⟨hp, h⟩, whereI]
  cases anyOn (edgesL l) p q l.length
  · cases oddTo (edgesL l) p q l.length <;> decide
  · cases oddTo (edgesL l) p q l.length <;> decide

set_option maxHeartbeats 1000000 in
theorem checkPoly_nil (v : Option Addr) (c : Nat) (w : World) : Calls Tryz.prog 44 #[.slice v 0 c] w fun en w' => en = .returned (.int .i64 1) ∧ New w w' := by
  have HC := Lib.hid (checkPoints_nil v c 200 (by omega))
  go_enter Tryz.func44, Tryz.ntmps44
  go_wp2_with (go_at_call 84; refine (HC.out _).mono ?_; rintro e w1 ⟨rfl, pw, rfl⟩)
  go_ret; refine ⟨rfl, ?_⟩; (repeat (first | exact New.refl _ | apply New.alloc | apply New.aft | apply New.drew | refine New.setCell ?_ ?_ _)); all_goals (first | done | (simp [size_aft]; done) | (simp [size_aft]; omega))

end Go.Proofs.YtpdfbboagaflhaaGreat

/- taken out of Ze -/
namespace Go.Proofs.YtpdfbboagaflhaaGreat
open Go.RowKit
theorem own_form {w : World} {B : Nat} {v : Value} {l : List P2} (h : w.ownsRow B 23 2 v l.length (ptCells l)) : ∃ av cap, v = .slice av l.length cap ∧ (0 < l.length → ∃ g, av = some ⟨g, 0, none⟩ ∧ Pts w g 0 l.length l) := by
  have h0 := h
  obtain ⟨h1, h2⟩ := h
  rcases h2 with ⟨rfl, h3⟩ | ⟨g, cap, cur, rfl, hg⟩
  · exact ⟨none, 0, by rw [h3], fun hh => absurd hh (by omega)⟩
  · exact ⟨_, cap, rfl, fun _ => ⟨g, rfl, pts_own h0 rfl⟩⟩
end Go.Proofs.YtpdfbboagaflhaaGreat

set_option linter.unusedSimpArgs false
set_option linter.unusedVariables false
set_option linter.unusedSectionVars false
namespace Go.Proofs.YtpdfbboagaflhaaGreat
open Go.RowKit

theorem ptLit_one1 {x y x' y' : Int} (e : ptLit x y = ptLit x' y') (h1 : 0 ≤ x ∧ x ≤ 10000) (h2 : 0 ≤ y ∧ y ≤ 10000) (h3 : 0 ≤ x' ∧ x' ≤ 10000) (h4 : 0 ≤ y' ∧ y' ≤ 10000) : x = x' ∧ y = y' := by
  unfold ptLit at e
  simp only [Lit.string.injEq] at e
  have w1 : (Lit.int .i64 x).wf = true := WalkArith.wf_i64 (by omega)
  have w2 : (Lit.int .i64 y).wf = true := WalkArith.wf_i64 (by omega)
  have w3 : (Lit.int .i64 x').wf = true := WalkArith.wf_i64 (by omega)
  have w4 : (Lit.int .i64 y').wf = true := WalkArith.wf_i64 (by omega)
  have := keyBytes_inj (l := [.int .i64 x, .int .i64 y]) (l' := [.int .i64 x', .int .i64 y']) (by simp [Alike, Lit.sameKind]) (by simp [Lit.keyWf, w1, w2]) (by simp [Lit.keyWf, w3, w4]) e
  simpa using this
theorem rep_none1 {l : List P2} (hok : okL l = true) (h : ∀ i j : Nat, j < i → i < l.length → ¬ (px l i = px l j ∧ py l i = py l j)) : repI l = false := by
  rw [repI_nodup, keysTo, nodup_map_range]
  intro i j hi hj e
  have b1 := okL_bd hok i
  have b2 := okL_bd hok j
  have := ptLit_one1 e b1.1 b1.2 b2.1 b2.2
  rcases Nat.lt_trichotomy i j with hh | hh | hh
  · exact absurd ⟨this.1.symm, this.2.symm⟩ (h j i hh hj)
  · exact hh
  · exact absurd this (h i j hh hi)
theorem sign_ne {a : Int} (h : a ≠ 0) : Int.sign a = 1 ∨ Int.sign a = -1 := by
  rcases Int.lt_or_gt_of_ne h with h | h
  · right; exact Int.sign_eq_neg_one_of_neg h
  · left; exact Int.sign_eq_one_of_pos h
theorem mul_ne {a c : Int} (ha : a ≠ 0) (hc : c ≠ 0) : a * c ≠ 0 := fun h => by rcases Int.mul_eq_zero.1 h with h | h <;> contradiction
theorem okL_okP {l : List P2} (h : okL l = true) (i : Nat) (hi : i < l.length) : okP (px l i) (py l i) = true := by
  have := okL_bd h i
  simp only [okP, okN, Bool.and_eq_true, decide_eq_true_eq]; omega
theorem edge_okS {l : List P2} (hok : okL l = true) (hrep : repI l = false) (h2 : 2 ≤ l.length) (i : Nat) (hi : i < l.length) : okS (q1 (edgesL l) i) (q2 (edgesL l) i) (q3 (edgesL l) i) (q4 (edgesL l) i) = true := by
  obtain ⟨e1, e2, e3, e4⟩ := edgesL_at l i hi
  have b1 := okL_bd hok i
  have b2 := okL_bd hok ((i + 1) % l.length)
  have hm : (i + 1) % l.length < l.length := Nat.mod_lt _ (by omega)
  rw [e1, e2, e3, e4, okS_iff]
  refine ⟨b1, b2, fun ⟨u, v⟩ => ?_⟩
  have := rep_no hrep hi hm u v
  by_cases hh : i + 1 < l.length
  · rw [Nat.mod_eq_of_lt hh] at this; omega
  · rw [show i + 1 = l.length by omega, Nat.mod_self] at this; omega
theorem anyOn_false {L : List S4} {p q : Int} {n : Nat} : anyOn L p q n = false ↔ ∀ i, i < n → onAt L p q i = false := by
  simp [anyOn]
def ptAt (l : List P2) (i : Nat) : P2 := (px l i, py l i)
theorem ptAt_get (l : List P2) (i : Nat) (h : i < l.length) : ptAt l i = l[i] := by simp [ptAt, px, py, List.getD_eq_getElem?_getD, h]
/-- which comes first -/
def lexLt (p q : P2) : Prop := p.1 < q.1 ∨ (p.1 = q.1 ∧ p.2 < q.2)
theorem orI_lt (x y x' y' : Int) : orI (cmpI x x') (cmpI y y') < 0 ↔ x < x' ∨ (x = x' ∧ y < y') := by
  unfold orI cmpI
  by_cases h1 : x < x'
  · simp [h1]
  · by_cases h2 : x' < x
    · simp [h1, h2] <;> omega
    · by_cases h3 : y < y'
      · simp [h1, h2, h3] <;> omega
      · by_cases h4 : y' < y
        · simp [h1, h2, h3, h4] <;> omega
        · simp [h1, h2, h3, h4] <;> omega
theorem ltP_iff (l : List P2) (i j : Nat) : ltP l i j = true ↔ lexLt (ptAt l i) (ptAt l j) := by
  simp only [ltP, decide_eq_true_eq, orI_lt, lexLt, ptAt]
theorem least_spec (l : List P2) : ∀ k, 0 < k → leastTo l k < k ∧ ∀ i, i < k → ¬ lexLt (ptAt l i) (ptAt l (leastTo l k))
  | 0, h => absurd h (by omega)
  | 1, _ => by
    have e : leastTo l 1 = 0 := by
      show (if ltP l 0 (leastTo l 0) = true then 0 else leastTo l 0) = 0
      split <;> rfl
    rw [e]
    refine ⟨by omega, fun i hi => ?_⟩
    obtain rfl : i = 0 := by omega
    unfold lexLt; omega
  | k + 2, _ => by
    obtain ⟨h1, h2⟩ := least_spec l (k + 1) (by omega)
    rw [show leastTo l (k + 2) = if ltP l (k + 1) (leastTo l (k + 1)) = true then k + 1 else leastTo l (k + 1) from rfl]
    split
    next h =>
      rw [ltP_iff] at h
      refine ⟨by omega, fun i hi => ?_⟩
      by_cases e : i = k + 1
      · subst e; unfold lexLt; omega
      · have := h2 i (by omega)
        unfold lexLt at *; omega
    next h =>
      rw [ltP_iff] at h
      refine ⟨by omega, fun i hi => ?_⟩
      by_cases e : i = k + 1
      · subst e; exact h
      · exact h2 i (by omega)
theorem least_unique {l : List P2} {n j : Nat} (hj : j < n) (h : ∀ i, i < n → i ≠ j → lexLt (ptAt l j) (ptAt l i)) : leastTo l n = j := by
  obtain ⟨h1, h2⟩ := least_spec l n (by omega)
  by_cases e : leastTo l n = j
  · exact e
  · exact absurd (h _ h1 e) (h2 j hj)

/-! bends as a filter -/
theorem bendsTo_filter (l : List P2) (n : Nat) : ∀ k, bendsTo l n k = ((List.range k).filter (fun i => decide (turnAt l n i ≠ 0))).map (ptAt l)
  | 0 => rfl
  | k + 1 => by
    rw [List.range_succ, List.filter_append, List.map_append, ← bendsTo_filter l n k]
    simp only [bendsTo]
    by_cases h : turnAt l n k = 0
    · rw [if_pos h]; simp [h]
    · rw [if_neg h]; simp [h, ptAt]
theorem rot_at (l : List P2) (f i : Nat) (hf : f ≤ l.length) (hi : i < l.length) : px (rotL l f) i = px l ((f + i) % l.length) ∧ py (rotL l f) i = py l ((f + i) % l.length) := by
  have : (rotL l f)[i]? = l[(f + i) % l.length]? := by
    unfold rotL
    by_cases h : i < l.length - f
    · rw [List.getElem?_append_left (by simpa using h), List.getElem?_drop, Nat.mod_eq_of_lt (by omega)]
    · rw [List.getElem?_append_right (by simp; omega), List.length_drop, List.getElem?_take_of_lt (by omega), show f + i = (i - (l.length - f)) + l.length by omega, Nat.add_mod_right, Nat.mod_eq_of_lt (by omega)]
  simp only [px, py, List.getD_eq_getElem?_getD, this, and_self]
theorem rotL_len (l : List P2) (f : Nat) (h : f ≤ l.length) : (rotL l f).length = l.length := by simp [rotL]; omega
theorem mod_prev {n i f : Nat} (hf : f ≤ n) (hi : i < n) : (f + (i + n - 1) % n) % n = ((f + i) % n + n - 1) % n := by
  by_cases h0 : i = 0
  · subst h0
    rw [Nat.zero_add, Nat.mod_eq_of_lt (show n - 1 < n by omega), Nat.add_zero]
    by_cases hh : f = n
    · subst hh; rw [Nat.mod_self, Nat.zero_add, show f + (f - 1) = (f - 1) + f by omega, Nat.add_mod_right]
    · rw [Nat.mod_eq_of_lt (show f < n by omega), show f + (n - 1) = f + n - 1 by omega]
  · rw [show i + n - 1 = (i - 1) + n by omega, Nat.add_mod_right, Nat.mod_eq_of_lt (show i - 1 < n by omega)]
    by_cases hh : f + i < n
    · rw [Nat.mod_eq_of_lt hh, show f + i + n - 1 = (f + (i - 1)) + n by omega, Nat.add_mod_right]
    · by_cases h2 : f + i = n
      · rw [h2, Nat.mod_self, Nat.zero_add, show f + (i - 1) = n - 1 by omega]
      · rw [show f + i = (f + i - n) + n by omega, Nat.add_mod_right, Nat.mod_eq_of_lt (show f + i - n < n by omega), show f + (i - 1) = (f + i - n - 1) + n by omega, Nat.add_mod_right, show f + i - n + n - 1 = (f + i - n - 1) + n by omega, Nat.add_mod_right]
theorem mod_next {n i f : Nat} : (f + (i + 1) % n) % n = ((f + i) % n + 1) % n := by
  rw [Nat.add_mod_mod, Nat.mod_add_mod, Nat.add_assoc]
theorem turnAt_rot (l : List P2) (f i : Nat) (hf : f ≤ l.length) (hi : i < l.length) : turnAt (rotL l f) l.length i = turnAt l l.length ((f + i) % l.length) := by
  have h1 : (i + l.length - 1) % l.length < l.length := Nat.mod_lt _ (by omega)
  have h2 : (i + 1) % l.length < l.length := Nat.mod_lt _ (by omega)
  unfold turnAt
  rw [(rot_at l f _ hf h1).1, (rot_at l f _ hf h1).2, (rot_at l f _ hf hi).1, (rot_at l f _ hf hi).2, (rot_at l f _ hf h2).1, (rot_at l f _ hf h2).2, mod_prev hf hi, mod_next]
theorem range_rot (n f : Nat) (hf : f ≤ n) : (List.range n).map (fun i => (f + i) % n) = List.range' f (n - f) ++ List.range f := by
  apply List.ext_getElem
  · simp; omega
  · intro i h1 h2
    simp only [List.length_map, List.length_range] at h1
    simp only [List.getElem_map, List.getElem_range]
    by_cases h : i < n - f
    · rw [List.getElem_append_left (by simpa using h), List.getElem_range', Nat.mod_eq_of_lt (by omega)]; omega
    · rw [List.getElem_append_right (by simp; omega)]
      simp only [List.length_range', List.getElem_range]
      rw [show f + i = (i - (n - f)) + n by omega, Nat.add_mod_right, Nat.mod_eq_of_lt (by omega)]
/-- the corners that stay, from one index on, and before it -/
def keepA (l : List P2) (f : Nat) : List P2 := ((List.range f).filter (fun i => decide (turnAt l l.length i ≠ 0))).map (ptAt l)
def keepZ (l : List P2) (f : Nat) : List P2 := ((List.range' f (l.length - f)).filter (fun i => decide (turnAt l l.length i ≠ 0))).map (ptAt l)
theorem normB_split (l : List P2) (f : Nat) (hf : f ≤ l.length) : normB l = keepA l f ++ keepZ l f := by
  unfold normB keepA keepZ
  rw [bendsTo_filter, ← List.map_append, ← List.filter_append]
  congr 2
  apply List.ext_getElem
  · simp; omega
  · intro i h1 h2
    by_cases h : i < f
    · rw [List.getElem_append_left (by simpa using h)]; simp
    · rw [List.getElem_append_right (by simp; omega)]; simp; omega
theorem normB_rot (l : List P2) (f : Nat) (hf : f ≤ l.length) : normB (rotL l f) = keepZ l f ++ keepA l f := by
  unfold normB keepA keepZ
  rw [bendsTo_filter, rotL_len l f hf, ← List.map_append, ← List.filter_append, ← range_rot _ _ hf, List.filter_map, List.map_map]
  have : ∀ m : List Nat, (∀ i ∈ m, i < l.length) → (m.filter (fun i => decide (turnAt (rotL l f) l.length i ≠ 0))).map (ptAt (rotL l f)) = (m.filter ((fun i => decide (turnAt l l.length i ≠ 0)) ∘ fun i => (f + i) % l.length)).map (ptAt l ∘ fun i => (f + i) % l.length) := by
    intro m
    induction m with
    | nil => intro _; rfl
    | cons i m ih =>
      intro h
      have hi : i < l.length := h i (by simp)
      have e1 : ptAt (rotL l f) i = (ptAt l ∘ fun i => (f + i) % l.length) i := by simp only [ptAt, Function.comp, (rot_at l f i hf hi).1, (rot_at l f i hf hi).2]
      have e2 : decide (turnAt (rotL l f) l.length i ≠ 0) = ((fun i => decide (turnAt l l.length i ≠ 0)) ∘ fun i => (f + i) % l.length) i := by simp only [Function.comp, turnAt_rot l f i hf hi]
      rw [List.filter_cons, List.filter_cons, e2]
      split
      · rw [List.map_cons, List.map_cons, e1, ih (fun j hj => h j (by simp [hj]))]
      · exact ih (fun j hj => h j (by simp [hj]))
  exact this _ (fun i hi => by simpa using hi)
/-- a corner that comes before all others and is not straight: turning round and striking commute -/
theorem rot_norm {l : List P2} {f : Nat} (hf : f < l.length) (ht : turnAt l l.length f ≠ 0) (hs : ∀ i, i < l.length → i ≠ f → lexLt (ptAt l f) (ptAt l i)) :
    rotL (normB l) (leastTo (normB l) (normB l).length) = normB (rotL l f) := by
  have e1 : keepZ l f = ptAt l f :: (((List.range' (f + 1) (l.length - f - 1)).filter (fun i => decide (turnAt l l.length i ≠ 0))).map (ptAt l)) := by
    unfold keepZ
    rw [show l.length - f = (l.length - f - 1) + 1 by omega, List.range'_succ, List.filter_cons_of_pos (by simpa using ht), List.map_cons]
    rfl
  have hn : normB l = keepA l f ++ keepZ l f := normB_split l f (by omega)
  have hle : leastTo (normB l) (normB l).length = (keepA l f).length := by
    have hk : (keepA l f).length < (normB l).length := by rw [hn, e1]; simp
    refine least_unique hk fun i hi hne => ?_
    have hk' : ptAt (normB l) (keepA l f).length = ptAt l f := by
      rw [ptAt_get _ _ hk]
      simp only [hn, e1]
      simp
    rw [hk', ptAt_get _ _ hi]
    by_cases hlt : i < (keepA l f).length
    · have e : (normB l)[i] = (keepA l f)[i] := by simp only [hn]; rw [List.getElem_append_left hlt]
      rw [e]
      have hm : (keepA l f)[i] ∈ keepA l f := List.getElem_mem hlt
      simp only [keepA, List.mem_map, List.mem_filter, List.mem_range] at hm
      obtain ⟨j, ⟨hj, _⟩, he⟩ := hm
      simp only [keepA]
      rw [← he]
      exact hs j (by omega) (by omega)
    · have hb : i - (keepA l f).length < (keepZ l f).length := by rw [hn, List.length_append] at hi; omega
      have e : (normB l)[i] = (keepZ l f)[i - (keepA l f).length] := by simp only [hn]; rw [List.getElem_append_right (by omega)]
      rw [e]
      obtain ⟨j, hj⟩ : ∃ j, i - (keepA l f).length = j + 1 := ⟨i - (keepA l f).length - 1, by omega⟩
      have hb2 : j + 1 < (keepZ l f).length := by omega
      have e3 : (keepZ l f)[i - (keepA l f).length] = (keepZ l f)[j + 1] := by congr 1
      rw [e3]
      have hb3 : j < (((List.range' (f + 1) (l.length - f - 1)).filter (fun i => decide (turnAt l l.length i ≠ 0))).map (ptAt l)).length := by rw [e1] at hb2; simpa using hb2
      have e4 : (keepZ l f)[j + 1] = (((List.range' (f + 1) (l.length - f - 1)).filter (fun i => decide (turnAt l l.length i ≠ 0))).map (ptAt l))[j] := by simp only [e1]; rfl
      rw [e4]
      have hm := List.getElem_mem hb3
      rw [List.mem_map] at hm
      obtain ⟨k, hk1, hk2⟩ := hm
      rw [List.mem_filter, List.mem_range'_1] at hk1
      rw [← hk2]
      exact hs k (by omega) (by omega)
  rw [hle, normB_rot l f (by omega), hn]
  unfold rotL
  simp

/-! the least corner is not straight -/
theorem meet_fold {a b c d e f : Int} (h1 : okS a b c d = true) (h2 : okS c d e f = true) (hl : lexLt (c, d) (a, b)) (hr : lexLt (c, d) (e, f)) (ht : turnI a b c d e f = 0) : meetI a b c d c d e f = 4 := by
  obtain ⟨⟨b1, b2⟩, ⟨b3, b4⟩, _⟩ := okS_iff.1 h1
  obtain ⟨_, ⟨b5, b6⟩, _⟩ := okS_iff.1 h2
  have t0 : turnI a b c d c d = 0 := by
    rw [turnI_sign, show (c - a) * (d - b) - (d - b) * (c - a) = 0 by grind]; rfl
  have F1 : f1 a b c d = c ∧ f2 a b c d = d ∧ f3 a b c d = a ∧ f4 a b c d = b := by
    have : 0 < orI (cmpI a c) (cmpI b d) := by
      have k1 := orI_lt a b c d
      have k2 := orI_lt c d a b
      have k3 : orI (cmpI a c) (cmpI b d) = - orI (cmpI c a) (cmpI d b) := by
        unfold orI cmpI; split <;> split <;> (repeat split) <;> omega
      unfold lexLt at hl
      omega
    unfold f1 f2 f3 f4
    simp only [if_pos this, and_self]
  have F2 : f1 c d e f = c ∧ f2 c d e f = d ∧ f3 c d e f = e ∧ f4 c d e f = f := by
    have : ¬ 0 < orI (cmpI c e) (cmpI d f) := by
      have := (orI_lt c d e f).2 hr
      omega
    unfold f1 f2 f3 f4
    simp only [if_neg this, and_self]
  rw [meetI, if_pos ⟨t0, ht⟩, F1.1, F1.2.1, F1.2.2.1, F1.2.2.2, F2.1, F2.2.1, F2.2.2.1, F2.2.2.2, onLine_key b4 b2 b4 b6, if_pos]
  unfold kap lexLt at *
  omega
theorem prev_next {n k : Nat} (hk : k < n) : ((k + n - 1) % n + 1) % n = k := by
  by_cases h0 : k = 0
  · subst h0; rw [Nat.zero_add, Nat.mod_eq_of_lt (show n - 1 < n by omega), show n - 1 + 1 = n by omega, Nat.mod_self]
  · rw [show k + n - 1 = (k - 1) + n by omega, Nat.add_mod_right, Nat.mod_eq_of_lt (show k - 1 < n by omega), show k - 1 + 1 = k by omega, Nat.mod_eq_of_lt hk]
theorem prev_cases {n k : Nat} (hk : k < n) : (k = 0 ∧ (k + n - 1) % n = n - 1) ∨ (0 < k ∧ (k + n - 1) % n = k - 1) := by
  by_cases h0 : k = 0
  · left; subst h0; exact ⟨rfl, by rw [Nat.zero_add, Nat.mod_eq_of_lt (by omega)]⟩
  · right; exact ⟨by omega, by rw [show k + n - 1 = (k - 1) + n by omega, Nat.add_mod_right, Nat.mod_eq_of_lt (by omega)]⟩
/-- neighbouring edges of a simple polygon meet in an end alone -/
theorem edges_one {l : List P2} (h : polyI l = 0) {k : Nat} (hk : k < l.length) : meetE (edgesL l) ((k + l.length - 1) % l.length) k = 1 := by
  obtain ⟨h1, h2, h3, h4⟩ := polyI_ok h
  rw [apartB_iff] at h4
  obtain ⟨_, hok⟩ := ckPts_zero h1
  rcases prev_cases hk with ⟨e0, e1⟩ | ⟨e0, e1⟩
  · rw [e1]
    subst e0
    have := h4 0 hk (l.length - 1) (by omega) (by omega)
    have k1 := edge_okS hok h3 (by omega) 0 hk
    have k2 := edge_okS hok h3 (by omega) (l.length - 1) (by omega)
    unfold meetE at this ⊢
    rw [meetI_comm k1 k2, this]
    unfold wantI
    rw [if_pos (by omega)]
  · rw [e1, h4 (k - 1) (by omega) k (by omega) hk]
    unfold wantI
    rw [if_pos (by omega)]
theorem least_bend {l : List P2} (h : polyI l = 0) {k : Nat} (hk : k < l.length) (hs : ∀ i, i < l.length → i ≠ k → lexLt (ptAt l k) (ptAt l i)) : turnAt l l.length k ≠ 0 := by
  obtain ⟨h1, h2, h3, h4⟩ := polyI_ok h
  obtain ⟨_, hok⟩ := ckPts_zero h1
  have he := edges_one h hk
  have hp : (k + l.length - 1) % l.length < l.length := Nat.mod_lt _ (by omega)
  have hq : (k + 1) % l.length < l.length := Nat.mod_lt _ (by omega)
  have k1 := edge_okS hok h3 (by omega) _ hp
  have k2 := edge_okS hok h3 (by omega) k hk
  obtain ⟨e1, e2, e3, e4⟩ := edgesL_at l _ hp
  obtain ⟨g1, g2, g3, g4⟩ := edgesL_at l k hk
  rw [prev_next hk] at e3 e4
  rw [e1, e2, e3, e4] at k1
  rw [g1, g2, g3, g4] at k2
  unfold meetE at he
  rw [e1, e2, e3, e4, g1, g2, g3, g4] at he
  intro ht
  have n1 : (k + l.length - 1) % l.length ≠ k := by rcases prev_cases hk with ⟨a, b⟩ | ⟨a, b⟩ <;> omega
  have n2 : (k + 1) % l.length ≠ k := by
    by_cases hh : k + 1 < l.length
    · rw [Nat.mod_eq_of_lt hh]; omega
    · rw [show k + 1 = l.length by omega, Nat.mod_self]; omega
  have := meet_fold k1 k2 (hs _ hp n1) (hs _ hq n2) ht
  omega

/-! the doubled area without straight corners -/
/-- the doubled area of the triangle of three points -/
def c3 (p q r : P2) : Int := (q.1 - p.1) * (r.2 - p.2) - (q.2 - p.2) * (r.1 - p.1)
def cr (p q : P2) : Int := p.1 * q.2 - p.2 * q.1
def chain : P2 → List P2 → Int
  | _, [] => 0
  | p, q :: l => cr p q + chain q l
def lastOf : P2 → List P2 → P2
  | p, [] => p
  | _, q :: l => lastOf q l
theorem chain_snoc (p : P2) (l : List P2) (q : P2) : chain p (l ++ [q]) = chain p l + cr (lastOf p l) q := by
  induction l generalizing p with
  | nil => simp [chain, lastOf]
  | cons r l ih => simp only [List.cons_append, chain, lastOf, ih]; omega
theorem lastOf_snoc (p : P2) (l : List P2) (q : P2) : lastOf p (l ++ [q]) = q := by
  induction l generalizing p with
  | nil => rfl
  | cons r l ih => simp only [List.cons_append, lastOf, ih]
theorem line3 {p q r s : P2} (hne : q ≠ r) (h1 : c3 p q r = 0) (h2 : c3 q r s = 0) : c3 p r s = 0 := by
  obtain ⟨p1, p2⟩ := p; obtain ⟨q1, q2⟩ := q; obtain ⟨r1, r2⟩ := r; obtain ⟨s1, s2⟩ := s
  simp only [c3] at *
  by_cases hx : r1 = q1
  · have hy : r2 ≠ q2 := fun e => hne (by rw [hx, e])
    subst hx
    have a1 : (r2 - q2) * (r1 - p1) = 0 := by grind
    have a2 : (r2 - q2) * (s1 - r1) = 0 := by grind
    have y : r2 - q2 ≠ 0 := by omega
    have b1 := (Int.mul_eq_zero.1 a1).resolve_left y
    have b2 := (Int.mul_eq_zero.1 a2).resolve_left y
    rw [show s1 = p1 by omega, show r1 = p1 by omega]
    simp
  · have x : r1 - q1 ≠ 0 := by omega
    have e : (r1 - q1) * ((r1 - p1) * (s2 - p2) - (r2 - p2) * (s1 - p1)) = 0 := by grind
    exact (Int.mul_eq_zero.1 e).resolve_left x
theorem c3_cr (p q r : P2) : cr p q + cr q r = cr p r + c3 p q r := by
  simp only [c3, cr]; grind
/-- as long as the first corner stays and neighbours differ -/
theorem chain_bends (l : List P2) (h0 : turnAt l l.length 0 ≠ 0) (hd : ∀ k, k < l.length → ptAt l k ≠ ptAt l ((k + 1) % l.length)) :
    ∀ k, k < l.length → ∃ m, bendsTo l l.length (k + 1) = ptAt l 0 :: m ∧ c3 (lastOf (ptAt l 0) m) (ptAt l k) (ptAt l ((k + 1) % l.length)) = 0 ∧
      chain (ptAt l 0) m + cr (lastOf (ptAt l 0) m) (ptAt l ((k + 1) % l.length)) = crossTo (edgesL l) (k + 1)
  | 0, h => by
    refine ⟨[], ?_, ?_, ?_⟩
    · simp only [bendsTo, if_neg h0, List.nil_append]; rfl
    · simp [lastOf, c3]
    · obtain ⟨g1, g2, g3, g4⟩ := edgesL_at l 0 h
      simp only [chain, lastOf, crossTo, g1, g2, g3, g4, cr, ptAt]
  | k + 1, h => by
    obtain ⟨m, e1, e2, e3⟩ := chain_bends l h0 hd k (by omega)
    rw [Nat.mod_eq_of_lt h] at e2 e3
    obtain ⟨g1, g2, g3, g4⟩ := edgesL_at l (k + 1) h
    have hc : crossTo (edgesL l) (k + 2) = crossTo (edgesL l) (k + 1) + cr (ptAt l (k + 1)) (ptAt l ((k + 1 + 1) % l.length)) := by
      rw [show crossTo (edgesL l) (k + 2) = crossTo (edgesL l) (k + 1) + (q1 (edgesL l) (k + 1) * q4 (edgesL l) (k + 1) - q2 (edgesL l) (k + 1) * q3 (edgesL l) (k + 1)) from rfl, g1, g2, g3, g4]
      rfl
    have hb : bendsTo l l.length (k + 2) = if turnAt l l.length (k + 1) = 0 then bendsTo l l.length (k + 1) else bendsTo l l.length (k + 1) ++ [ptAt l (k + 1)] := rfl
    rw [hb, hc]
    by_cases ht : turnAt l l.length (k + 1) = 0
    · rw [if_pos ht]
      have hp : (k + 1 + l.length - 1) % l.length = k := by rw [show k + 1 + l.length - 1 = k + l.length by omega, Nat.add_mod_right, Nat.mod_eq_of_lt (by omega)]
      have z : c3 (ptAt l k) (ptAt l (k + 1)) (ptAt l ((k + 1 + 1) % l.length)) = 0 := by
        rw [turnAt, hp, turnI_sign, Int.sign_eq_zero_iff_zero] at ht
        exact ht
      have hne := hd k (by omega)
      rw [Nat.mod_eq_of_lt h] at hne
      have z2 := line3 hne e2 z
      refine ⟨m, e1, z2, ?_⟩
      have := c3_cr (lastOf (ptAt l 0) m) (ptAt l (k + 1)) (ptAt l ((k + 1 + 1) % l.length))
      omega
    · rw [if_neg ht]
      refine ⟨m ++ [ptAt l (k + 1)], by rw [e1]; rfl, ?_, ?_⟩
      · rw [lastOf_snoc]; simp [c3]
      · rw [lastOf_snoc, chain_snoc]; omega
/-- the doubled area of a list, as a chain that comes back -/
theorem cross_chain (p : P2) (m : List P2) : crossTo (edgesL (p :: m)) (m.length + 1) = chain p m + cr (lastOf p m) p := by
  have gen : ∀ k, k ≤ m.length → crossTo (edgesL (p :: m)) k = chain p (m.take k) ∧ lastOf p (m.take k) = ptAt (p :: m) k := by
    intro k
    induction k with
    | zero => intro _; simp [crossTo, chain, lastOf, ptAt, px, py]
    | succ k ih =>
      intro hk
      obtain ⟨i1, i2⟩ := ih (by omega)
      obtain ⟨g1, g2, g3, g4⟩ := edgesL_at (p :: m) k (by simp; omega)
      rw [Nat.mod_eq_of_lt (by simp; omega)] at g3 g4
      have hk' : k < m.length := by omega
      have e : m[k] = ptAt (p :: m) (k + 1) := by rw [ptAt_get _ _ (by simp; omega)]; rfl
      rw [List.take_succ_eq_append_getElem hk', chain_snoc, lastOf_snoc, i2, e]
      refine ⟨?_, rfl⟩
      rw [show crossTo (edgesL (p :: m)) (k + 1) = crossTo (edgesL (p :: m)) k + (q1 (edgesL (p :: m)) k * q4 (edgesL (p :: m)) k - q2 (edgesL (p :: m)) k * q3 (edgesL (p :: m)) k) from rfl, i1, g1, g2, g3, g4]
      rfl
  obtain ⟨i1, i2⟩ := gen m.length (Nat.le_refl _)
  rw [List.take_length] at i1 i2
  obtain ⟨g1, g2, g3, g4⟩ := edgesL_at (p :: m) m.length (by simp)
  rw [List.length_cons, Nat.mod_self] at g3 g4
  rw [show crossTo (edgesL (p :: m)) (m.length + 1) = crossTo (edgesL (p :: m)) m.length + (q1 (edgesL (p :: m)) m.length * q4 (edgesL (p :: m)) m.length - q2 (edgesL (p :: m)) m.length * q3 (edgesL (p :: m)) m.length) from rfl, i1, i2, g1, g2, g3, g4]
  simp [cr, ptAt, px, py]
theorem cross_bends {l : List P2} (hn : 0 < l.length) (h0 : turnAt l l.length 0 ≠ 0) (hd : ∀ k, k < l.length → ptAt l k ≠ ptAt l ((k + 1) % l.length)) :
    crossTo (edgesL (normB l)) (normB l).length = crossTo (edgesL l) l.length := by
  obtain ⟨m, e1, e2, e3⟩ := chain_bends l h0 hd (l.length - 1) (by omega)
  rw [show l.length - 1 + 1 = l.length by omega, Nat.mod_self] at e3
  rw [show l.length - 1 + 1 = l.length by omega] at e1
  have : normB l = ptAt l 0 :: m := e1
  rw [this, List.length_cons, cross_chain, e3]
/-- turning round leaves the doubled area -/
theorem cross_app (a b : List P2) (hb : b ≠ []) (ha : a ≠ []) : crossTo (edgesL (a ++ b)) (a ++ b).length = crossTo (edgesL (b ++ a)) (b ++ a).length := by
  cases a with
  | nil => exact absurd rfl ha
  | cons p a =>
    cases b with
    | nil => exact absurd rfl hb
    | cons q b =>
      have capp : ∀ (x : P2) (u : List P2) (y : P2) (v : List P2), chain x (u ++ y :: v) = chain x u + cr (lastOf x u) y + chain y v := by
        intro x u
        induction u generalizing x with
        | nil => intro y v; simp [chain, lastOf]
        | cons z u ih => intro y v; simp only [List.cons_append, chain, lastOf, ih]; omega
      have lapp : ∀ (x : P2) (u : List P2) (y : P2) (v : List P2), lastOf x (u ++ y :: v) = lastOf y v := by
        intro x u
        induction u generalizing x with
        | nil => intro y v; simp [lastOf]
        | cons z u ih => intro y v; simp only [List.cons_append, lastOf, ih]
      have e1 := cross_chain p (a ++ q :: b)
      have e2 := cross_chain q (b ++ p :: a)
      rw [capp, lapp] at e1 e2
      simp only [List.cons_append, List.length_cons] at *
      rw [e1, e2]; omega
theorem cross_rot (l : List P2) (f : Nat) : crossTo (edgesL (rotL l f)) (rotL l f).length = crossTo (edgesL l) l.length := by
  unfold rotL
  by_cases h1 : l.drop f = []
  · have : l.take f = l := by
      have := List.take_append_drop f l
      rw [h1, List.append_nil] at this; exact this
    rw [h1, this]; rfl
  · by_cases h2 : l.take f = []
    · have : l.drop f = l := by
        have := List.take_append_drop f l
        rw [h2] at this; exact this
      rw [h2, this, List.append_nil]
    · rw [cross_app _ _ h2 h1, List.take_append_drop]

/-! backwards -/
theorem revTo_px (l : List P2) (n : Nat) : ∀ m k, k < m → px (revTo l n m) k = px l (n - 1 - k) ∧ py (revTo l n m) k = py l (n - 1 - k)
  | 0, k, h => absurd h (by omega)
  | m + 1, k, h => by
    have hl := revTo_length l n m
    by_cases e : k = m
    · subst e
      simp [revTo, px, py, List.getD_eq_getElem?_getD, hl]
    · obtain ⟨i1, i2⟩ := revTo_px l n m k (by omega)
      rw [← i1, ← i2]
      simp only [revTo, px, py, List.getD_eq_getElem?_getD]
      rw [List.getElem?_append_left (by rw [hl]; omega)]
      exact ⟨rfl, rfl⟩
theorem revTo_rev (l : List P2) : revTo l l.length l.length = l.reverse := by
  apply List.ext_getElem
  · simp [revTo_length]
  · intro i h1 h2
    rw [List.length_reverse] at h2
    rw [← ptAt_get _ _ h1]
    obtain ⟨i1, i2⟩ := revTo_px l l.length l.length i h2
    simp only [List.getElem_reverse]
    rw [← ptAt_get l _ (by omega)]
    unfold ptAt
    rw [i1, i2]
theorem rev_px (l : List P2) (k : Nat) (h : k < l.length) : px l.reverse k = px l (l.length - 1 - k) ∧ py l.reverse k = py l (l.length - 1 - k) := by
  rw [← revTo_rev]; exact revTo_px l _ _ k h
theorem turnI_neg (a b c d p q : Int) : turnI p q c d a b = - turnI a b c d p q := by
  rw [turnI_sign, turnI_sign, ← Int.sign_neg]; congr 1; grind
theorem mod_rev {n k : Nat} (hk : k < n) : n - 1 - (k + n - 1) % n = (n - 1 - k + 1) % n ∧ n - 1 - (k + 1) % n = (n - 1 - k + n - 1) % n := by
  by_cases h0 : k = 0
  · subst h0
    rw [Nat.zero_add, Nat.mod_eq_of_lt (show n - 1 < n by omega), Nat.sub_zero, show n - 1 + 1 = n by omega, Nat.mod_self]
    refine ⟨by omega, ?_⟩
    by_cases h1 : n = 1
    · subst h1; rfl
    · rw [Nat.zero_add, Nat.mod_eq_of_lt (show 1 < n by omega), show n - 1 + n - 1 = (n - 1 - 1) + n by omega, Nat.add_mod_right, Nat.mod_eq_of_lt (by omega)]
  · rw [show k + n - 1 = (k - 1) + n by omega, Nat.add_mod_right, Nat.mod_eq_of_lt (show k - 1 < n by omega), Nat.mod_eq_of_lt (show n - 1 - k + 1 < n by omega)]
    refine ⟨by omega, ?_⟩
    by_cases h1 : k + 1 = n
    · rw [h1, Nat.mod_self, show n - 1 - k = 0 by omega, Nat.zero_add, Nat.mod_eq_of_lt (by omega)]; omega
    · rw [Nat.mod_eq_of_lt (show k + 1 < n by omega), show n - 1 - k + n - 1 = (n - 1 - k - 1) + n by omega, Nat.add_mod_right, Nat.mod_eq_of_lt (by omega)]; omega
theorem turnAt_rev (l : List P2) (k : Nat) (hk : k < l.length) : turnAt l.reverse l.length k = - turnAt l l.length (l.length - 1 - k) := by
  have h1 : (k + l.length - 1) % l.length < l.length := Nat.mod_lt _ (by omega)
  have h2 : (k + 1) % l.length < l.length := Nat.mod_lt _ (by omega)
  obtain ⟨m1, m2⟩ := mod_rev hk
  unfold turnAt
  rw [(rev_px l _ h1).1, (rev_px l _ h1).2, (rev_px l _ hk).1, (rev_px l _ hk).2, (rev_px l _ h2).1, (rev_px l _ h2).2, m1, m2, turnI_neg]
theorem normB_rev (l : List P2) : normB l.reverse = (normB l).reverse := by
  unfold normB
  rw [bendsTo_filter, bendsTo_filter, List.length_reverse, ← List.map_reverse, ← List.filter_reverse]
  have hr : (List.range l.length).reverse = (List.range l.length).map fun i => l.length - 1 - i := by
    apply List.ext_getElem (by simp)
    intro i h1 h2
    simp
  rw [hr, List.filter_map, List.map_map]
  have : ∀ m : List Nat, (∀ i ∈ m, i < l.length) → (m.filter (fun i => decide (turnAt l.reverse l.length i ≠ 0))).map (ptAt l.reverse) = (m.filter ((fun i => decide (turnAt l l.length i ≠ 0)) ∘ fun i => l.length - 1 - i)).map (ptAt l ∘ fun i => l.length - 1 - i) := by
    intro m
    induction m with
    | nil => intro _; rfl
    | cons i m ih =>
      intro h
      have hi : i < l.length := h i (by simp)
      have e1 : ptAt l.reverse i = (ptAt l ∘ fun i => l.length - 1 - i) i := by simp only [ptAt, Function.comp, (rev_px l i hi).1, (rev_px l i hi).2]
      have e2 : decide (turnAt l.reverse l.length i ≠ 0) = ((fun i => decide (turnAt l l.length i ≠ 0)) ∘ fun i => l.length - 1 - i) i := by
        simp only [Function.comp, turnAt_rev l i hi]
        rw [decide_eq_decide]; omega
      rw [List.filter_cons, List.filter_cons, e2]
      split
      · rw [List.map_cons, List.map_cons, e1, ih (fun j hj => h j (by simp [hj]))]
      · exact ih (fun j hj => h j (by simp [hj]))
  exact this _ (fun i hi => by simpa using hi)

/-! both normal forms -/
/-- what the reference goes round -/
def refA (l : List P2) : List P2 := if areaI l < 0 then l.reverse else l
/-- the reference's normal form -/
def refN (l : List P2) : List P2 := normB (rotL (refA l) (leastTo (refA l) (refA l).length))
theorem pts_ne {l : List P2} (hr : repI l = false) {i j : Nat} (hi : i < l.length) (hj : j < l.length) (h : i ≠ j) : ptAt l i ≠ ptAt l j := fun e => by
  simp only [ptAt, Prod.mk.injEq] at e
  exact h (rep_no hr hi hj e.1 e.2)
theorem least_lt {l : List P2} (hr : repI l = false) (h0 : 0 < l.length) : leastTo l l.length < l.length ∧ ∀ i, i < l.length → i ≠ leastTo l l.length → lexLt (ptAt l (leastTo l l.length)) (ptAt l i) := by
  obtain ⟨h1, h2⟩ := least_spec l l.length h0
  refine ⟨h1, fun i hi hne => ?_⟩
  have a := h2 i hi
  have b := pts_ne hr hi h1 hne
  have b' : ¬ ((ptAt l i).1 = (ptAt l (leastTo l l.length)).1 ∧ (ptAt l i).2 = (ptAt l (leastTo l l.length)).2) := fun ⟨u, v⟩ => b (Prod.ext u v)
  unfold lexLt at *; omega
theorem next_ne {n k : Nat} (h : 2 ≤ n) (hk : k < n) : k ≠ (k + 1) % n := by
  by_cases hh : k + 1 < n
  · rw [Nat.mod_eq_of_lt hh]; omega
  · rw [show k + 1 = n by omega, Nat.mod_self]; omega
theorem area_bends {l : List P2} (h : polyI l = 0) : areaI (normB l) = areaI l ∧ 0 < (normB l).length ∧ okL (normB l) = true := by
  obtain ⟨h1, h2, h3, h4⟩ := polyI_ok h
  obtain ⟨hlen, hok⟩ := ckPts_zero h1
  obtain ⟨p1, p2⟩ := least_lt h3 (by omega)
  have hb := least_bend h p1 p2
  generalize hf : leastTo l l.length = f at *
  have hlr := rotL_len l f (by omega)
  have ht0 : turnAt (rotL l f) (rotL l f).length 0 ≠ 0 := by
    rw [hlr, turnAt_rot l f 0 (by omega) (by omega), Nat.add_zero, Nat.mod_eq_of_lt p1]; exact hb
  have hd : ∀ k, k < (rotL l f).length → ptAt (rotL l f) k ≠ ptAt (rotL l f) ((k + 1) % (rotL l f).length) := by
    intro k hk
    rw [hlr] at hk ⊢
    have hm : (k + 1) % l.length < l.length := Nat.mod_lt _ (by omega)
    simp only [ptAt, (rot_at l f k (by omega) hk).1, (rot_at l f k (by omega) hk).2, (rot_at l f _ (by omega) hm).1, (rot_at l f _ (by omega) hm).2]
    rw [mod_next]
    have hmm : (f + k) % l.length < l.length := Nat.mod_lt _ (by omega)
    exact pts_ne h3 hmm (Nat.mod_lt _ (by omega)) (next_ne (by omega) hmm)
  have e1 := cross_bends (l := rotL l f) (by omega) ht0 hd
  rw [cross_rot, normB_rot l f (by omega)] at e1
  have e2 : crossTo (edgesL (normB l)) (normB l).length = crossTo (edgesL l) l.length := by
    rw [← e1, normB_split l f (by omega)]
    by_cases ha : keepA l f = []
    · rw [ha]; simp
    · by_cases hz : keepZ l f = []
      · rw [hz]; simp
      · exact cross_app _ _ hz ha
  have hpos : 0 < (normB l).length := by
    rw [normB_split l f (by omega), List.length_append]
    have : keepZ l f ≠ [] := by
      unfold keepZ
      rw [show l.length - f = (l.length - f - 1) + 1 by omega, List.range'_succ, List.filter_cons_of_pos (by simpa using hb), List.map_cons]
      simp
    have := List.length_pos_iff.2 this
    omega
  have hle : (normB l).length ≤ l.length := by
    unfold normB; rw [bendsTo_filter, List.length_map]
    have := List.length_filter_le (fun i => decide (turnAt l l.length i ≠ 0)) (List.range l.length)
    simpa using this
  have hok' : okL (normB l) = true := by
    unfold okL normB
    rw [bendsTo_filter, List.all_eq_true]
    intro p hp
    rw [List.mem_map] at hp
    obtain ⟨i, _, rfl⟩ := hp
    exact okP_iff.2 (okL_bd hok i)
  refine ⟨?_, hpos, hok'⟩
  unfold areaI ckPts
  rw [hok, hok', e2, if_neg (show ¬ (400 : Int) < (normB l).length by omega), if_neg (show ¬ (400 : Int) < l.length by omega)]
theorem norm_eq {l : List P2} (h : polyI l = 0) : refN l = normL l := by
  obtain ⟨h1, h2, h3, h4⟩ := polyI_ok h
  obtain ⟨hlen, hok⟩ := ckPts_zero h1
  obtain ⟨ea, _, _⟩ := area_bends h
  have hC : normC l = normB (refA l) := by
    unfold normC refA
    rw [ea]
    split
    · rw [revTo_rev, normB_rev]
    · rfl
  have hAl : (refA l).length = l.length := by unfold refA; split <;> simp
  have hAr : repI (refA l) = false := by
    unfold refA; split
    · refine rep_none1 ?_ fun i j hj hi => ?_
      · unfold okL at *; rw [List.all_reverse]; exact hok
      · rw [List.length_reverse] at hi
        rw [(rev_px l i hi).1, (rev_px l i hi).2, (rev_px l j (by omega)).1, (rev_px l j (by omega)).2]
        rintro ⟨u, v⟩
        have := rep_no h3 (by omega) (by omega) u v
        omega
    · exact h3
  obtain ⟨p1, p2⟩ := least_lt hAr (by omega)
  have hb : turnAt (refA l) (refA l).length (leastTo (refA l) (refA l).length) ≠ 0 := by
    generalize leastTo (refA l) (refA l).length = f at *
    rw [hAl] at p1 p2 ⊢
    unfold refA at p2 ⊢
    split
    next hs =>
      rw [if_pos hs] at p2
      rw [turnAt_rev l f p1]
      have := least_bend h (k := l.length - 1 - f) (by omega) (fun i hi hne => by
        have := p2 (l.length - 1 - i) (by omega) (by omega)
        simp only [ptAt, (rev_px l f p1).1, (rev_px l f p1).2, (rev_px l (l.length - 1 - i) (by omega)).1, (rev_px l (l.length - 1 - i) (by omega)).2] at this
        rw [show l.length - 1 - (l.length - 1 - i) = i by omega] at this
        exact this)
      omega
    next hs =>
      rw [if_neg hs] at p2
      exact least_bend h p1 p2
  unfold refN normL
  rw [← rot_norm p1 hb p2, hC]

/-! convex -/
def convB (m : List P2) : Bool := (List.range m.length).all fun k => turnAt m m.length k == 1
def convR (m : List P2) : Bool := (List.range m.length).all fun k => decide (0 < turnI (px m k) (py m k) (px m ((k + 1) % m.length)) (py m ((k + 1) % m.length)) (px m ((k + 2) % m.length)) (py m ((k + 2) % m.length)))
theorem conv_eq (m : List P2) : convR m = convB m := by
  have key : ∀ k, k < m.length → turnI (px m k) (py m k) (px m ((k + 1) % m.length)) (py m ((k + 1) % m.length)) (px m ((k + 2) % m.length)) (py m ((k + 2) % m.length)) = turnAt m m.length ((k + 1) % m.length) := by
    intro k hk
    unfold turnAt
    have e1 : ((k + 1) % m.length + m.length - 1) % m.length = k := by
      by_cases hh : k + 1 < m.length
      · rw [Nat.mod_eq_of_lt hh, show k + 1 + m.length - 1 = k + m.length by omega, Nat.add_mod_right, Nat.mod_eq_of_lt hk]
      · rw [show k + 1 = m.length by omega, Nat.mod_self, Nat.zero_add, Nat.mod_eq_of_lt (by omega)]; omega
    have e2 : ((k + 1) % m.length + 1) % m.length = (k + 2) % m.length := by rw [Nat.mod_add_mod]
    rw [e1, e2]
  have sg : ∀ k, (0 < turnAt m m.length k) ↔ turnAt m m.length k = 1 := by
    intro k
    unfold turnAt
    rw [turnI_sign]
    generalize (_ : Int) - _ = z
    rcases Int.lt_trichotomy z 0 with h | h | h
    · rw [Int.sign_eq_neg_one_of_neg h]; omega
    · rw [h]; simp
    · rw [Int.sign_eq_one_of_pos h]; omega
  rw [Bool.eq_iff_iff]
  unfold convR convB
  simp only [List.all_eq_true, List.mem_range, decide_eq_true_eq, beq_iff_eq]
  constructor
  · intro h k hk
    have hp : (k + m.length - 1) % m.length < m.length := Nat.mod_lt _ (by omega)
    have := h _ hp
    rw [key _ hp, prev_next hk, sg] at this
    exact this
  · intro h k hk
    rw [key k hk, sg]
    exact h _ (Nat.mod_lt _ (by omega))

end Go.Proofs.YtpdfbboagaflhaaGreat

set_option linter.unusedSimpArgs false
set_option linter.unusedVariables false
set_option linter.unusedSectionVars false
namespace Go.Proofs.YtpdfbboagaflhaaGreat
open Go.RowKit

/-- the order of points, forwards (e is 1) or backwards (e is -1) -/
def ky (e : Int) (p : P2) : Int := e * (10001 * p.1 + p.2)
theorem c3_a (e : Int) (s t r p : P2) : (ky e p - ky e t) * c3 s p r = (ky e p - ky e s) * c3 t p r + (ky e p - ky e r) * c3 s p t := by
  simp only [ky, c3]; grind
theorem c3_b (e : Int) (s t r p : P2) : (ky e t - ky e s) * c3 s p r = (ky e r - ky e s) * c3 s p t + (ky e p - ky e s) * c3 s t r := by
  simp only [ky, c3]; grind
theorem c3_c (e : Int) (v u p r : P2) : (ky e v - ky e u) * c3 u p r = -((ky e p - ky e u) * c3 v u r) + (ky e r - ky e u) * c3 v u p := by
  simp only [ky, c3]; grind
theorem c3_d (e : Int) (w v u p : P2) : (ky e u - ky e v) * c3 w v p = -((ky e w - ky e v) * c3 v u p) + (ky e p - ky e v) * c3 w v u := by
  simp only [ky, c3]; grind
theorem c3_sw (s t p : P2) : c3 s p t = - c3 s t p := by simp only [c3]; grind
theorem nn_of {a b : Int} (ha : 0 < a) (h : 0 ≤ a * b) : 0 ≤ b := by
  rcases Int.lt_or_le b 0 with hb | hb
  · have := Int.mul_neg_of_pos_of_neg ha hb; omega
  · exact hb
theorem ps_of {a b : Int} (ha : 0 < a) (h : 0 < a * b) : 0 < b := by
  rcases Int.lt_or_le 0 b with hb | hb
  · exact hb
  · have := Int.mul_nonpos_of_nonneg_of_nonpos (Int.le_of_lt ha) hb; omega
/-- every point of a set is left of each step of a stack, or on it -/
def Good (e : Int) (R : P2 → Prop) : List P2 → Prop
  | t :: s :: rest => ky e s < ky e t ∧ (∀ r, R r → 0 ≤ c3 s t r ∧ (c3 s t r = 0 → ky e s ≤ ky e r ∧ ky e r ≤ ky e t)) ∧ Good e R (s :: rest)
  | _ => True
/-- a stack without the points that do not turn left -/
def popC (p : P2) : List P2 → List P2
  | t :: s :: r => if 0 < c3 s t p then t :: s :: r else popC p (s :: r)
  | o => o
/-- where the stack stops -/
def Stops (p : P2) : List P2 → Prop
  | t :: s :: _ => 0 < c3 s t p
  | _ => True
theorem pop_J (e : Int) (R : P2 → Prop) (p : P2) (hR : ∀ r, R r → ky e r ≤ ky e p) : ∀ (rest : List P2) (t : P2), Good e R (t :: rest) → ky e t < ky e p → (∀ r, R r → ky e t ≤ ky e r → 0 ≤ c3 t p r) →
    ∃ u rest', popC p (t :: rest) = u :: rest' ∧ Good e R (u :: rest') ∧ ky e u < ky e p ∧ (∀ r, R r → ky e u ≤ ky e r → 0 ≤ c3 u p r) ∧ Stops p (u :: rest') ∧ (u :: rest').getLast? = (t :: rest).getLast? ∧ ∀ x, x ∈ u :: rest' → x ∈ t :: rest
  | [], t, hg, ht, hJ => ⟨t, [], rfl, hg, ht, hJ, trivial, rfl, fun x h => h⟩
  | s :: r, t, hg, ht, hJ => by
    by_cases hc : 0 < c3 s t p
    · exact ⟨t, s :: r, by simp [popC, hc], hg, ht, hJ, hc, rfl, fun x h => h⟩
    · obtain ⟨g1, g2, g3⟩ := hg
      have hst : 0 ≤ c3 s p t := by rw [c3_sw]; omega
      obtain ⟨u, rest', a1, a2, a3, a4, a5, a6, a7⟩ := pop_J e R p hR r s g3 (by omega) (fun x hx hxs => by
        by_cases hxt : ky e t ≤ ky e x
        · have j := hJ x hx hxt
          have i := c3_a e s t x p
          have b1 := Int.mul_nonneg (a := ky e p - ky e s) (by omega) j
          have b2 := Int.mul_nonneg (a := ky e p - ky e x) (by have := hR x hx; omega) hst
          exact nn_of (a := ky e p - ky e t) (by omega) (by omega)
        · have j := (g2 x hx).1
          have i := c3_b e s t x p
          have b1 := Int.mul_nonneg (a := ky e x - ky e s) (by omega) hst
          have b2 := Int.mul_nonneg (a := ky e p - ky e s) (by omega) j
          exact nn_of (a := ky e t - ky e s) (by omega) (by omega))
      refine ⟨u, rest', by simp only [popC, hc, if_false]; exact a1, a2, a3, a4, a5, ?_, fun x h => by have := a7 x h; simp at this ⊢; right; exact this⟩
      rw [a6]; simp [List.getLast?_cons_cons]
theorem good_ext (e : Int) (R : P2 → Prop) (p : P2) : ∀ (rest : List P2) (u : P2), Good e R (u :: rest) → (∀ x, x ∈ u :: rest → R x) → Stops p (u :: rest) → ky e u < ky e p → Good e (fun r => R r ∨ r = p) (u :: rest)
  | [], _, _, _, _, _ => trivial
  | v :: rest, u, ⟨g1, g2, g3⟩, hm, hs, hk => by
    have hs' : 0 < c3 v u p := hs
    refine ⟨g1, fun r hr => ?_, good_ext e R p rest v g3 (fun x hx => hm x (by simp at hx ⊢; right; exact hx)) ?_ (by omega)⟩
    · rcases hr with hr | rfl
      · exact g2 r hr
      · exact ⟨by omega, fun h => by omega⟩
    · cases rest with
      | nil => trivial
      | cons w rest =>
        obtain ⟨k1, k2, k3⟩ := g3
        have hu := k2 u (hm u (by simp))
        have hu' : 0 < c3 w v u := by
          rcases Int.lt_or_eq_of_le hu.1 with h | h
          · exact h
          · have := hu.2 h.symm; omega
        have i := c3_d e w v u p
        have b1 := Int.mul_pos (a := ky e v - ky e w) (b := c3 v u p) (by omega) hs'
        have b2 := Int.mul_pos (a := ky e p - ky e v) (b := c3 w v u) (by omega) hu'
        rw [show ky e w - ky e v = -(ky e v - ky e w) by omega, Int.neg_mul] at i
        exact ps_of (a := ky e u - ky e v) (by omega) (by omega)
/-- one point more -/
theorem good_step (e : Int) (R : P2 → Prop) (p t m : P2) (rest : List P2) (hg : Good e R (t :: rest)) (hm : ∀ x, x ∈ t :: rest → R x) (hl : (t :: rest).getLast? = some m) (hmin : ∀ r, R r → ky e m ≤ ky e r) (hmax : ∀ r, R r → ky e r ≤ ky e t) (hp : ky e t < ky e p)
    (hinj : ∀ r, R r → ky e r = ky e t → r = t) :
    Good e (fun r => R r ∨ r = p) (p :: popC p (t :: rest)) ∧ (∀ x, x ∈ p :: popC p (t :: rest) → R x ∨ x = p) ∧ (p :: popC p (t :: rest)).getLast? = some m := by
  obtain ⟨u, rest', a1, a2, a3, a4, a5, a6, a7⟩ := pop_J e R p (fun r hr => by have := hmax r hr; omega) rest t hg hp (fun r hr hk => by
    rw [hinj r hr (by have := hmax r hr; omega)]; simp [c3])
  rw [a1]
  refine ⟨⟨a3, fun r hr => ?_, good_ext e R p rest' u a2 (fun x hx => hm x (a7 x hx)) a5 a3⟩, ?_, ?_⟩
  · rcases hr with hr | rfl
    · have hrt := hmax r hr
      by_cases hk : ky e u ≤ ky e r
      · exact ⟨a4 r hr hk, fun _ => ⟨hk, by omega⟩⟩
      · cases rest' with
        | nil =>
          rw [← a6] at hl
          simp at hl
          have := hmin r hr
          rw [← hl] at this; omega
        | cons v rest' =>
          have hs : 0 < c3 v u p := a5
          obtain ⟨g1, g2, _⟩ := a2
          have j := (g2 r hr).1
          have i := c3_c e v u p r
          have b1 := Int.mul_nonneg (a := ky e p - ky e u) (by omega) j
          have b2 := Int.mul_pos (a := ky e u - ky e r) (b := c3 v u p) (by omega) hs
          rw [show ky e r - ky e u = -(ky e u - ky e r) by omega, Int.neg_mul, show ky e v - ky e u = -(ky e u - ky e v) by omega, Int.neg_mul] at i
          have := ps_of (a := ky e u - ky e v) (b := c3 u p r) (by omega) (by omega)
          exact ⟨by omega, fun h => by omega⟩
    · refine ⟨by simp [c3]; rw [Int.mul_comm]; omega, fun _ => ⟨by omega, by omega⟩⟩
  · intro x hx
    rw [List.mem_cons] at hx
    rcases hx with rfl | hx
    · right; rfl
    · left; exact hm x (a7 x hx)
  · rw [List.getLast?_cons_cons, a6, hl]
/-- the stack, the last point first -/
def stkTo (l : List P2) : Nat → List P2
  | 0 => []
  | k + 1 => ptAt l k :: popC (ptAt l k) (stkTo l k)
def Among (l : List P2) (k : Nat) (r : P2) : Prop := ∃ j, j < k ∧ r = ptAt l j
theorem stk_good (e : Int) (l : List P2) (hs : ∀ i j, i < j → j < l.length → ky e (ptAt l i) < ky e (ptAt l j)) : ∀ k, k < l.length → ∃ rest, stkTo l (k + 1) = ptAt l k :: rest ∧ Good e (Among l (k + 1)) (ptAt l k :: rest) ∧ (∀ x, x ∈ ptAt l k :: rest → Among l (k + 1) x) ∧ (ptAt l k :: rest).getLast? = some (ptAt l 0)
  | 0, _ => ⟨[], rfl, trivial, fun x hx => ⟨0, by omega, by simpa using hx⟩, rfl⟩
  | k + 1, h => by
    obtain ⟨rest, b1, b2, b3, b4⟩ := stk_good e l hs k (by omega)
    have st := good_step e (Among l (k + 1)) (ptAt l (k + 1)) (ptAt l k) (ptAt l 0) rest b2 b3 b4
      (fun r ⟨j, hj, he⟩ => by
        subst he
        by_cases h0 : j = 0
        · subst h0; exact Int.le_refl _
        · exact Int.le_of_lt (hs 0 j (by omega) (by omega)))
      (fun r ⟨j, hj, he⟩ => by
        subst he
        by_cases h0 : j = k
        · subst h0; exact Int.le_refl _
        · exact Int.le_of_lt (hs j k (by omega) (by omega)))
      (hs k (k + 1) (by omega) h)
      (fun r ⟨j, hj, he⟩ hk => by
        subst he
        by_cases h0 : j = k
        · subst h0; rfl
        · have := hs j k (by omega) (by omega); omega)
    have hR : (fun r => Among l (k + 1) r ∨ r = ptAt l (k + 1)) = Among l (k + 1 + 1) := by
      funext r
      apply propext
      constructor
      · rintro (⟨j, hj, he⟩ | he)
        · exact ⟨j, by omega, he⟩
        · exact ⟨k + 1, by omega, he⟩
      · rintro ⟨j, hj, he⟩
        by_cases h0 : j = k + 1
        · right; rw [he, h0]
        · left; exact ⟨j, by omega, he⟩
    rw [hR] at st
    refine ⟨popC (ptAt l (k + 1)) (ptAt l k :: rest), by show ptAt l (k + 1) :: popC _ (stkTo l (k + 1)) = _; rw [b1], st.1, fun x hx => ?_, st.2.2⟩
    have := st.2.1 x hx
    rw [← hR]; exact this
/-- the same stack as the program's -/
theorem popC_rev (x y : Int) : ∀ (n : Nat) (o : List P2), o.length = n → popL o.reverse x y = (popC (x, y) o).reverse := by
  intro n
  induction n with
  | zero => intro o ho; obtain rfl := List.eq_nil_of_length_eq_zero ho; rfl
  | succ n ih =>
    intro o ho
    cases o with
    | nil => simp at ho
    | cons t o =>
      cases o with
      | nil => rw [popL_no (by simp [badTop])]; rfl
      | cons s r =>
        have hl : (t :: s :: r).reverse.length = r.length + 2 := by simp
        have e1 : px (t :: s :: r).reverse (r.length + 2 - 1) = t.1 ∧ py (t :: s :: r).reverse (r.length + 2 - 1) = t.2 := by
          simp [px, py, List.getD_eq_getElem?_getD]
        have e2 : px (t :: s :: r).reverse (r.length + 2 - 2) = s.1 ∧ py (t :: s :: r).reverse (r.length + 2 - 2) = s.2 := by
          simp [px, py, List.getD_eq_getElem?_getD]
        have hb : badTop (t :: s :: r).reverse x y = !decide (0 < c3 s t (x, y)) := by
          unfold badTop
          rw [hl, e1.1, e1.2, e2.1, e2.2, turnI_sign]
          have : (t.1 - s.1) * (y - s.2) - (t.2 - s.2) * (x - s.1) = c3 s t (x, y) := rfl
          rw [this]
          generalize c3 s t (x, y) = z
          rcases Int.lt_trichotomy z 0 with h | h | h
          · rw [Int.sign_eq_neg_one_of_neg h]; simp; omega
          · subst h; simp
          · rw [Int.sign_eq_one_of_pos h]; simp; omega
        by_cases hc : 0 < c3 s t (x, y)
        · rw [popL_no (by rw [hb]; simp [hc])]
          simp [popC, hc]
        · have htk : (t :: s :: r).reverse.take ((t :: s :: r).reverse.length - 1) = (s :: r).reverse := by
            rw [hl, show (t :: s :: r).reverse = (s :: r).reverse ++ [t] by simp, List.take_left' (by simp)]
          rw [popL_yes (by rw [hb]; simp [hc]), htk, ih (s :: r) (by simpa using ho)]
          simp [popC, hc]
theorem halfTo_stk (l : List P2) : ∀ k, halfTo l k = (stkTo l k).reverse
  | 0 => rfl
  | k + 1 => by
    simp only [halfTo, stkTo, List.reverse_cons]
    rw [halfTo_stk l k, popC_rev _ _ _ _ rfl]
    rfl

/-! the points in order -/
def valid (p : P2) : Prop := (0 ≤ p.1 ∧ p.1 ≤ 10000) ∧ (0 ≤ p.2 ∧ p.2 ≤ 10000)
theorem ky_lt {p q : P2} (hp : valid p) (hq : valid q) : lexLt p q ↔ ky 1 p < ky 1 q := by
  unfold valid at *; unfold lexLt ky; omega
theorem ky_inj {p q : P2} (hp : valid p) (hq : valid q) (h : ky 1 p = ky 1 q) : p = q := by
  unfold valid at *; unfold ky at h; exact Prod.ext (by omega) (by omega)
theorem ky_neg (p : P2) : ky (-1) p = - ky 1 p := by unfold ky; omega
theorem valid_of {l : List P2} (h : okL l = true) {p : P2} (hp : p ∈ l) : valid p := by
  unfold okL at h; rw [List.all_eq_true] at h; exact okP_iff.1 (h p hp)
theorem sortP_mem {l : List P2} {p : P2} : p ∈ sortP l ↔ p ∈ l := List.mem_mergeSort
theorem sortP_sorted (l : List P2) : (sortP l).Pairwise fun x y => ¬ lexLt y x := by
  unfold sortP
  rw [ltOf_cfP_eq]
  have := List.pairwise_mergeSort (le := fun x y => !lessP y x) (fun a b c h1 h2 => by simp [lessP] at *; omega) (fun a b => by simp [lessP]; omega) l
  refine this.imp fun {a b} h => ?_
  simp [lessP] at h; unfold lexLt; omega
/-- without what comes twice: strictly ascending, with the same points -/
theorem dd_spec {s : List P2} (hs : s.Pairwise fun x y => ¬ lexLt y x) : ∀ k, k ≤ s.length → (ddTo s k).Pairwise lexLt ∧ (∀ p, p ∈ ddTo s k ↔ p ∈ s.take k) ∧ (0 < k → ∀ p, p ∈ ddTo s k → lexLt p (ptAt s (k - 1)) ∨ p = ptAt s (k - 1))
  | 0, _ => by simp [ddTo]
  | k + 1, h => by
    obtain ⟨i1, i2, i3⟩ := dd_spec hs k (by omega)
    have htk : s.take (k + 1) = s.take k ++ [ptAt s k] := by rw [List.take_succ_eq_append_getElem (by omega), ptAt_get]
    have hle : 0 < k → lexLt (ptAt s (k - 1)) (ptAt s k) ∨ ptAt s (k - 1) = ptAt s k := fun h0 => by
      have := List.pairwise_iff_getElem.1 hs (k - 1) k (by omega) (by omega) (by omega)
      rw [← ptAt_get, ← ptAt_get] at this
      by_cases e : ptAt s (k - 1) = ptAt s k
      · right; exact e
      · left
        have e' : ¬ ((ptAt s (k - 1)).1 = (ptAt s k).1 ∧ (ptAt s (k - 1)).2 = (ptAt s k).2) := fun ⟨u, v⟩ => e (Prod.ext u v)
        unfold lexLt at *; omega
    have tr : ∀ {a b c : P2}, lexLt a b → lexLt b c → lexLt a c := fun h1 h2 => by unfold lexLt at *; omega
    simp only [ddTo]
    by_cases hc : k = 0 ∨ same s k (k - 1) = false
    · rw [if_pos hc]
      have hlt : ∀ p, p ∈ ddTo s k → lexLt p (ptAt s k) := fun p hp => by
        by_cases h0 : k = 0
        · subst h0; simp [ddTo] at hp
        · have hne : ptAt s (k - 1) ≠ ptAt s k := fun e => by
            have hc' := hc.resolve_left h0
            simp only [ptAt, Prod.mk.injEq] at e
            simp [same, e.1, e.2] at hc'
          have h1 := (hle (by omega)).resolve_right hne
          rcases i3 (by omega) p hp with h2 | h2
          · exact tr h2 h1
          · rw [h2]; exact h1
      refine ⟨?_, ?_, ?_⟩
      · rw [List.pairwise_append]
        refine ⟨i1, by simp, fun a ha b hb => ?_⟩
        simp at hb; rw [hb]; exact hlt a ha
      · intro p; rw [htk, List.mem_append, List.mem_append, i2]; rfl
      · intro _ p hp
        rw [List.mem_append] at hp
        rcases hp with hp | hp
        · left; exact hlt p hp
        · right; simp at hp; exact hp
    · rw [if_neg hc]
      have h0 : 0 < k := by omega
      have he : ptAt s (k - 1) = ptAt s k := by
        cases hs' : same s k (k - 1)
        · exact absurd (Or.inr hs') hc
        · simp [same] at hs'; simp [ptAt, hs'.1, hs'.2]
      refine ⟨i1, ?_, ?_⟩
      · intro p; rw [htk, List.mem_append, i2]
        constructor
        · intro h; left; exact h
        · rintro (h | h)
          · exact h
          · simp at h; rw [h, ← he, ptAt_get s _ (by omega)]
            rw [List.mem_take_iff_getElem]
            exact ⟨k - 1, by omega, rfl⟩
      · intro _ p hp
        show lexLt p (ptAt s k) ∨ p = ptAt s k
        rw [← he]; exact i3 h0 p hp
theorem ptsL_spec (l : List P2) : (ptsL l).Pairwise lexLt ∧ ∀ p, p ∈ ptsL l ↔ p ∈ l := by
  have hlen : (sortP l).length = l.length := List.length_mergeSort l
  obtain ⟨h1, h2, _⟩ := dd_spec (sortP_sorted l) l.length (by omega)
  refine ⟨h1, fun p => ?_⟩
  unfold ptsL
  rw [h2, ← hlen, List.take_length, sortP_mem]

/-! what a step of the hull says -/
/-- all points are left of the way from p to q, or between both -/
def Ext (l : List P2) (p q : P2) : Prop := q ∈ l ∧ ky 1 q ≠ ky 1 p ∧ ∀ r, r ∈ l → 0 ≤ c3 p q r ∧ (c3 p q r = 0 → (ky 1 p ≤ ky 1 r ∧ ky 1 r ≤ ky 1 q) ∨ (ky 1 q ≤ ky 1 r ∧ ky 1 r ≤ ky 1 p))
theorem good_at (e : Int) (R : P2 → Prop) : ∀ (S : List P2), Good e R S → ∀ i, (h : i + 1 < S.length) → ky e S[i + 1] < ky e S[i] ∧ ∀ r, R r → 0 ≤ c3 S[i + 1] S[i] r ∧ (c3 S[i + 1] S[i] r = 0 → ky e S[i + 1] ≤ ky e r ∧ ky e r ≤ ky e S[i])
  | [], _, i, h => by simp at h
  | [t], _, i, h => by simp at h
  | t :: s :: rest, hg, i, h => by
    obtain ⟨g1, g2, g3⟩ := hg
    cases i with
    | zero => exact ⟨g1, g2⟩
    | succ i => exact good_at e R (s :: rest) g3 i (by simpa using h)
theorem good_last (e : Int) (R : P2 → Prop) : ∀ (S : List P2), Good e R S → ∀ i, (h : i + 1 < S.length) → ky e (S[S.length - 1]'(by omega)) < ky e S[i] := by
  intro S hg i h
  have gen : ∀ d i, (h : i + 1 + d < S.length) → ky e S[i + 1 + d] < ky e S[i] := by
    intro d
    induction d with
    | zero => intro i h; exact (good_at e R S hg i h).1
    | succ d ih =>
      intro i h
      have a := ih i (by omega)
      have b := (good_at e R S hg (i + 1 + d) (by omega)).1
      have : S[i + 1 + d + 1]'(by omega) = S[i + 1 + (d + 1)] := rfl
      rw [← this]; omega
  have := gen (S.length - 1 - (i + 1)) i (by omega)
  have e1 : S[i + 1 + (S.length - 1 - (i + 1))]'(by omega) = S[S.length - 1]'(by omega) := by congr 1; omega
  rw [← e1]; exact this
/-- a half of the hull, from the first point of the list to the last one -/
theorem half_spec (e : Int) (P : List P2) (hs : ∀ i j, i < j → j < P.length → ky e (ptAt P i) < ky e (ptAt P j)) (h2 : 2 ≤ P.length) :
    2 ≤ (halfTo P P.length).length ∧ ptAt (halfTo P P.length) 0 = ptAt P 0 ∧ ptAt (halfTo P P.length) ((halfTo P P.length).length - 1) = ptAt P (P.length - 1) ∧
    (∀ i, i + 1 < (halfTo P P.length).length → ptAt (halfTo P P.length) (i + 1) ∈ P ∧ ky e (ptAt (halfTo P P.length) i) < ky e (ptAt (halfTo P P.length) (i + 1)) ∧ ∀ r, r ∈ P → 0 ≤ c3 (ptAt (halfTo P P.length) i) (ptAt (halfTo P P.length) (i + 1)) r ∧ (c3 (ptAt (halfTo P P.length) i) (ptAt (halfTo P P.length) (i + 1)) r = 0 → ky e (ptAt (halfTo P P.length) i) ≤ ky e r ∧ ky e r ≤ ky e (ptAt (halfTo P P.length) (i + 1)))) ∧
    (∀ i, i < (halfTo P P.length).length → 0 < i → ky e (ptAt P 0) < ky e (ptAt (halfTo P P.length) i)) := by
  have hlen2 : 2 ≤ (halfTo P P.length).length := by
    obtain ⟨k, hk⟩ : ∃ k, P.length = k + 2 := ⟨P.length - 2, by omega⟩
    have := halfTo_two P k
    rw [← hk] at this; exact this
  obtain ⟨rest, b1, b2, b3, b4⟩ := stk_good e P hs (P.length - 1) (by omega)
  rw [show P.length - 1 + 1 = P.length by omega] at b1 b2 b3
  have hrev := halfTo_stk P P.length
  rw [b1] at hrev
  generalize hS : ptAt P (P.length - 1) :: rest = S at *
  have hA : ∀ r, Among P P.length r ↔ r ∈ P := fun r => by
    constructor
    · rintro ⟨j, hj, rfl⟩; rw [ptAt_get P j hj]; exact List.getElem_mem hj
    · intro h
      obtain ⟨j, hj, he⟩ := List.getElem_of_mem h
      exact ⟨j, hj, by rw [ptAt_get P j hj, he]⟩
  have hlS : (halfTo P P.length).length = S.length := by rw [hrev, List.length_reverse]
  have hat : ∀ i, (h : i < S.length) → ptAt (halfTo P P.length) i = S[S.length - 1 - i]'(by omega) := fun i h => by
    rw [ptAt_get _ _ (by omega)]
    simp only [hrev, List.getElem_reverse]
  have hlast : S[S.length - 1]'(by omega) = ptAt P 0 := by
    rw [List.getLast?_eq_getElem?, List.getElem?_eq_getElem (by omega)] at b4
    exact Option.some.inj b4
  rw [hlS] at hlen2 ⊢
  refine ⟨hlen2, ?_, ?_, ?_, ?_⟩
  · rw [hat 0 (by omega)]; simp only [Nat.sub_zero]; exact hlast
  · rw [hat _ (by omega)]
    have : S[S.length - 1 - (S.length - 1)]'(by omega) = S[0]'(by omega) := by congr 1; omega
    rw [this]; subst hS; rfl
  · intro i hi
    rw [hat i (by omega), hat (i + 1) hi]
    have hg := good_at e _ S b2 (S.length - 1 - (i + 1)) (by omega)
    have e1 : S[S.length - 1 - (i + 1) + 1]'(by omega) = S[S.length - 1 - i]'(by omega) := by congr 1; omega
    rw [e1] at hg
    refine ⟨(hA _).1 (b3 _ (List.getElem_mem _)), hg.1, fun r hr => hg.2 r ((hA r).2 hr)⟩
  · intro i hi h0
    rw [hat i hi]
    have := good_last e _ S b2 (S.length - 1 - i) (by omega)
    rw [hlast] at this
    exact this

/-! the hull, step by step -/
theorem rev_pt (l : List P2) (k : Nat) (h : k < l.length) : ptAt l.reverse k = ptAt l (l.length - 1 - k) := by
  simp only [ptAt, (rev_px l k h).1, (rev_px l k h).2]
theorem hull_spec {l : List P2} (hok : okL l = true) (h2 : 2 ≤ (ptsL l).length) :
    2 ≤ (hullL l).length ∧ ptAt (hullL l) 0 = ptAt (ptsL l) 0 ∧ (∀ k, k < (hullL l).length → Ext l (ptAt (hullL l) k) (ptAt (hullL l) ((k + 1) % (hullL l).length))) ∧ (∀ k, k < (hullL l).length → 0 < k → ky 1 (ptAt (hullL l) k) ≠ ky 1 (ptAt (hullL l) 0)) := by
  obtain ⟨hp, hm⟩ := ptsL_spec l
  have hval : ∀ i, i < (ptsL l).length → valid (ptAt (ptsL l) i) := fun i hi => valid_of hok ((hm _).1 (by rw [ptAt_get _ _ hi]; exact List.getElem_mem hi))
  have hs1 : ∀ i j, i < j → j < (ptsL l).length → ky 1 (ptAt (ptsL l) i) < ky 1 (ptAt (ptsL l) j) := fun i j hij hj => by
    rw [← ky_lt (hval i (by omega)) (hval j hj)]
    have := List.pairwise_iff_getElem.1 hp i j (by omega) hj hij
    rw [ptAt_get _ _ (by omega), ptAt_get _ _ hj]; exact this
  have hrl : (ptsL l).reverse.length = (ptsL l).length := List.length_reverse
  have hs2 : ∀ i j, i < j → j < (ptsL l).reverse.length → ky (-1) (ptAt (ptsL l).reverse i) < ky (-1) (ptAt (ptsL l).reverse j) := fun i j hij hj => by
    rw [hrl] at hj
    have e1 : ptAt (ptsL l).reverse i = ptAt (ptsL l) ((ptsL l).length - 1 - i) := rev_pt _ _ (by omega)
    have e2 : ptAt (ptsL l).reverse j = ptAt (ptsL l) ((ptsL l).length - 1 - j) := rev_pt _ _ hj
    rw [e1, e2, ky_neg, ky_neg]
    have := hs1 ((ptsL l).length - 1 - j) ((ptsL l).length - 1 - i) (by omega) (by omega)
    omega
  obtain ⟨x1, x2, x3, x4, x5⟩ := half_spec 1 (ptsL l) hs1 h2
  obtain ⟨y1, y2, y3, y4, y5⟩ := half_spec (-1) (ptsL l).reverse hs2 (by omega)
  have eb : halfTo (ptsL l) (ptsL l).length = belowL l := rfl
  have ea : halfTo (ptsL l).reverse (ptsL l).reverse.length = aboveL l := by unfold aboveL; rw [revTo_rev, hrl]
  rw [eb] at x1 x2 x3 x4 x5
  rw [ea] at y1 y2 y3 y4 y5
  have r0 : ptAt (ptsL l).reverse 0 = ptAt (ptsL l) ((ptsL l).length - 1) := by rw [rev_pt _ _ (by omega), Nat.sub_zero]
  have r1 : ptAt (ptsL l).reverse ((ptsL l).reverse.length - 1) = ptAt (ptsL l) 0 := by
    rw [hrl, rev_pt _ _ (by omega), Nat.sub_self]
  rw [r0] at y2 y5
  rw [r1] at y3
  have hHl : (hullL l).length = ((belowL l).length - 1) + ((aboveL l).length - 1) := by unfold hullL; rw [List.length_append, List.length_take, List.length_take]; omega
  have hlow : ∀ i, i < (belowL l).length - 1 → ptAt (hullL l) i = ptAt (belowL l) i := fun i hi => by
    rw [ptAt_get _ _ (by omega), ptAt_get _ _ (by omega)]
    simp only [hullL]
    rw [List.getElem_append_left (by rw [List.length_take]; omega), List.getElem_take]
  have hupp : ∀ i, i < (aboveL l).length - 1 → ptAt (hullL l) ((belowL l).length - 1 + i) = ptAt (aboveL l) i := fun i hi => by
    rw [ptAt_get _ _ (by omega), ptAt_get _ _ (by omega)]
    simp only [hullL]
    rw [List.getElem_append_right (by rw [List.length_take]; omega), List.getElem_take]
    congr 1
    rw [List.length_take]; omega
  have hlow' : ∀ i, i ≤ (belowL l).length - 1 → ptAt (hullL l) i = ptAt (belowL l) i := fun i hi => by
    by_cases e : i = (belowL l).length - 1
    · have := hupp 0 (by omega)
      rw [Nat.add_zero] at this
      rw [e, this, y2, x3]
    · exact hlow i (by omega)
  have h00 : ptAt (hullL l) 0 = ptAt (ptsL l) 0 := by rw [hlow 0 (by omega), x2]
  refine ⟨by omega, h00, ?_, ?_⟩
  · intro k hk
    by_cases hkb : k < (belowL l).length - 1
    · rw [Nat.mod_eq_of_lt (by omega), hlow k hkb, hlow' (k + 1) (by omega)]
      obtain ⟨z1, z2, z3⟩ := x4 k (by omega)
      exact ⟨(hm _).1 z1, by omega, fun r hr => ⟨(z3 r ((hm r).2 hr)).1, fun h => Or.inl ((z3 r ((hm r).2 hr)).2 h)⟩⟩
    · obtain ⟨j, hj⟩ : ∃ j, k = (belowL l).length - 1 + j := ⟨k - ((belowL l).length - 1), by omega⟩
      have ek : ptAt (hullL l) k = ptAt (aboveL l) j := by rw [hj]; exact hupp j (by omega)
      have en : ptAt (hullL l) ((k + 1) % (hullL l).length) = ptAt (aboveL l) (j + 1) := by
        by_cases e : k + 1 = (hullL l).length
        · rw [e, Nat.mod_self, h00, ← y3]; congr 1; omega
        · rw [Nat.mod_eq_of_lt (by omega), hj, show (belowL l).length - 1 + j + 1 = (belowL l).length - 1 + (j + 1) by omega]
          exact hupp (j + 1) (by omega)
      rw [ek, en]
      obtain ⟨z1, z2, z3⟩ := y4 j (by omega)
      rw [ky_neg, ky_neg] at z2
      refine ⟨(hm _).1 (List.mem_reverse.1 z1), by omega, fun r hr => ?_⟩
      have := z3 r (List.mem_reverse.2 ((hm r).2 hr))
      rw [ky_neg, ky_neg, ky_neg] at this
      exact ⟨this.1, fun h => Or.inr (by have := this.2 h; omega)⟩
  · intro k hk h0
    rw [h00]
    by_cases hkb : k < (belowL l).length - 1
    · rw [hlow k hkb]
      have := x5 k (by omega) h0
      omega
    · obtain ⟨j, hj⟩ : ∃ j, k = (belowL l).length - 1 + j := ⟨k - ((belowL l).length - 1), by omega⟩
      rw [show ptAt (hullL l) k = ptAt (aboveL l) j by rw [hj]; exact hupp j (by omega)]
      rw [← y3]
      have mono : ∀ d i, i + d + 1 < (aboveL l).length → ky (-1) (ptAt (aboveL l) i) < ky (-1) (ptAt (aboveL l) (i + d + 1)) := by
        intro d
        induction d with
        | zero => intro i hi; exact (y4 i hi).2.1
        | succ d ih => intro i hi; have a := ih i (by omega); have b := (y4 (i + d + 1) hi).2.1; have : i + (d + 1) + 1 = i + d + 1 + 1 := by omega
                       rw [this]; omega
      have := mono ((aboveL l).length - 1 - j - 1) j (by omega)
      rw [show j + ((aboveL l).length - 1 - j - 1) + 1 = (aboveL l).length - 1 by omega, ky_neg, ky_neg] at this
      omega

/-! the way round, as the reference goes it -/
def farI (a b : P2) : Int := (b.1 - a.1) * (b.1 - a.1) + (b.2 - a.2) * (b.2 - a.2)
def takes (p q r : P2) : Bool := decide (turnI p.1 p.2 q.1 q.2 r.1 r.2 < 0) || (turnI p.1 p.2 q.1 q.2 r.1 r.2 == 0 && decide (farI p q < farI p r))
def scanTo (l : List P2) (p : P2) : Nat → P2
  | 0 => p
  | k + 1 => if scanTo l p k = p then ptAt l k else if takes p (scanTo l p k) (ptAt l k) then ptAt l k else scanTo l p k
theorem sq_le {x y : Int} (h : (0 ≤ x ∧ x ≤ y) ∨ (y ≤ x ∧ x ≤ 0)) : x * x ≤ y * y ∧ (x ≠ y → x * x < y * y) := by
  rcases h with ⟨h1, h2⟩ | ⟨h1, h2⟩
  · refine ⟨Int.mul_le_mul h2 h2 h1 (by omega), fun hne => ?_⟩
    have a : y * x < y * y := Int.mul_lt_mul_of_pos_left (by omega) (by omega)
    have b : x * x ≤ y * x := Int.mul_le_mul_of_nonneg_right h2 h1
    omega
  · have c1 : x * x = (-x) * (-x) := by rw [Int.neg_mul_neg]
    have c2 : y * y = (-y) * (-y) := by rw [Int.neg_mul_neg]
    rw [c1, c2]
    refine ⟨Int.mul_le_mul (by omega) (by omega) (by omega) (by omega), fun hne => ?_⟩
    have a : -y * -x < -y * -y := Int.mul_lt_mul_of_pos_left (by omega) (by omega)
    have b : -x * -x ≤ -y * -x := Int.mul_le_mul_of_nonneg_right (by omega) (by omega)
    omega
theorem far_le {p q r : P2} (hp : valid p) (hq : valid q) (hr : valid r) (h0 : c3 p q r = 0) (hb : (ky 1 p ≤ ky 1 r ∧ ky 1 r ≤ ky 1 q) ∨ (ky 1 q ≤ ky 1 r ∧ ky 1 r ≤ ky 1 p)) : farI p r ≤ farI p q ∧ (r ≠ q → farI p r < farI p q) := by
  obtain ⟨a, b⟩ := p; obtain ⟨c, d⟩ := q; obtain ⟨x, y⟩ := r
  unfold valid at hp hq hr
  simp only [c3] at h0
  simp only [ky] at hb
  have hbt : (min a c ≤ x ∧ x ≤ max a c) ∧ (min b d ≤ y ∧ y ≤ max b d) := by
    rcases hb with h | h
    · exact (on_asc (a := a) (b := b) (c := c) (d := d) (p := x) (q := y) (by simp at hp hq hr h ⊢; omega) (by omega)).1 (by simp at hp hq hr h ⊢; omega)
    · have := (on_asc (a := c) (b := d) (c := a) (d := b) (p := x) (q := y) (by simp at hp hq hr h ⊢; omega) (by grind)).1 (by simp at hp hq hr h ⊢; omega)
      omega
  have s1 := sq_le (x := x - a) (y := c - a) (by omega)
  have s2 := sq_le (x := y - b) (y := d - b) (by omega)
  simp only [farI]
  refine ⟨by omega, fun hne => ?_⟩
  by_cases e : x = c
  · have : y ≠ d := fun e2 => hne (by rw [e, e2])
    have := s2.2 (by omega)
    omega
  · have := s1.2 (by omega)
    omega
theorem turn3 (p q r : P2) : turnI p.1 p.2 q.1 q.2 r.1 r.2 = Int.sign (c3 p q r) := by rw [turnI_sign]; rfl
theorem scan_mem (l : List P2) (p : P2) : ∀ k, k ≤ l.length → scanTo l p k = p ∨ scanTo l p k ∈ l
  | 0, _ => Or.inl rfl
  | k + 1, h => by
    have hm : ptAt l k ∈ l := by rw [ptAt_get l k (by omega)]; exact List.getElem_mem _
    simp only [scanTo]
    split
    · right; exact hm
    · split
      · right; exact hm
      · exact scan_mem l p k (by omega)
theorem scan_ext {l : List P2} (hok : okL l = true) {p q : P2} (hpl : p ∈ l) (he : Ext l p q) : scanTo l p l.length = q := by
  obtain ⟨hq, hne, hall⟩ := he
  have hqp : q ≠ p := fun e => hne (by rw [e])
  obtain ⟨j, hj, hjq⟩ := List.getElem_of_mem hq
  have vp := valid_of hok hpl
  have vq := valid_of hok hq
  have gen : ∀ k, j + 1 + k ≤ l.length → scanTo l p (j + 1 + k) = q := by
    intro k
    induction k with
    | zero =>
      intro _
      show (if scanTo l p j = p then ptAt l j else if takes p (scanTo l p j) (ptAt l j) then ptAt l j else scanTo l p j) = q
      rw [ptAt_get l j hj, hjq]
      by_cases h1 : scanTo l p j = p
      · rw [if_pos h1]
      · rw [if_neg h1]
        by_cases h2 : scanTo l p j = q
        · rw [h2]; split <;> rfl
        · have hm := (scan_mem l p j (by omega)).resolve_left h1
          generalize scanTo l p j = s at *
          have hs := hall s hm
          have ht : takes p s q = true := by
            unfold takes
            rw [turn3, c3_sw]
            rw [show c3 p q s = c3 p q s from rfl]
            rcases Int.lt_or_eq_of_le hs.1 with h | h
            · have : Int.sign (-c3 p q s) = -1 := Int.sign_eq_neg_one_of_neg (by omega)
              rw [this]; rfl
            · have hf := (far_le vp vq (valid_of hok hm) h.symm (hs.2 h.symm)).2 h2
              rw [← h]; simp [hf]
          rw [ht]; rfl
    | succ k ih =>
      intro hk
      have i := ih (by omega)
      show (if scanTo l p (j + 1 + k) = p then ptAt l (j + 1 + k) else if takes p (scanTo l p (j + 1 + k)) (ptAt l (j + 1 + k)) then ptAt l (j + 1 + k) else scanTo l p (j + 1 + k)) = q
      rw [i, if_neg hqp]
      have hm : ptAt l (j + 1 + k) ∈ l := by rw [ptAt_get l _ (by omega)]; exact List.getElem_mem _
      generalize ptAt l (j + 1 + k) = r at *
      have hr := hall r hm
      have ht : takes p q r = false := by
        unfold takes
        rw [turn3]
        rcases Int.lt_or_eq_of_le hr.1 with h | h
        · have : Int.sign (c3 p q r) = 1 := Int.sign_eq_one_of_pos h
          rw [this]; rfl
        · have hf := (far_le vp vq (valid_of hok hm) h.symm (hr.2 h.symm)).1
          rw [← h]; simp; omega
      rw [ht]; rfl
  have := gen (l.length - (j + 1)) (by omega)
  rwa [show j + 1 + (l.length - (j + 1)) = l.length by omega] at this
theorem least_first {l : List P2} (h0 : 0 < (ptsL l).length) : ptAt l (leastTo l l.length) = ptAt (ptsL l) 0 := by
  obtain ⟨hp, hm⟩ := ptsL_spec l
  have hl : 0 < l.length := by
    have : ptAt (ptsL l) 0 ∈ ptsL l := by rw [ptAt_get _ _ h0]; exact List.getElem_mem _
    exact List.length_pos_of_mem ((hm _).1 this)
  obtain ⟨a1, a2⟩ := least_spec l l.length hl
  have m1 : ptAt l (leastTo l l.length) ∈ l := by rw [ptAt_get _ _ a1]; exact List.getElem_mem _
  have m2 : ptAt (ptsL l) 0 ∈ l := (hm _).1 (by rw [ptAt_get _ _ h0]; exact List.getElem_mem _)
  obtain ⟨i, hi, hie⟩ := List.getElem_of_mem m2
  obtain ⟨j, hj, hje⟩ := List.getElem_of_mem ((hm _).2 m1)
  have b1 := a2 i hi
  rw [ptAt_get l i hi, hie] at b1
  by_cases e : j = 0
  · subst e; rw [ptAt_get _ _ h0, hje]
  · have b2 := List.pairwise_iff_getElem.1 hp 0 j h0 hj (by omega)
    rw [hje] at b2
    rw [ptAt_get _ _ h0] at b1
    exact absurd b2 b1
/-- each step leads from a corner to the next one -/
theorem scan_hull {l : List P2} (hok : okL l = true) (h2 : 2 ≤ (ptsL l).length) {k : Nat} (hk : k < (hullL l).length) :
    scanTo l (ptAt (hullL l) k) l.length = ptAt (hullL l) ((k + 1) % (hullL l).length) ∧ ptAt (hullL l) ((k + 1) % (hullL l).length) ≠ ptAt (hullL l) k ∧ ptAt (hullL l) k ∈ l := by
  obtain ⟨h1, h3, h4, h5⟩ := hull_spec hok h2
  have hmem : ptAt (hullL l) k ∈ l := by
    have := (h4 _ (Nat.mod_lt (k + (hullL l).length - 1) (by omega))).1
    rw [prev_next hk] at this
    exact this
  exact ⟨scan_ext hok hmem (h4 k hk), fun e => (h4 k hk).2.1 (by rw [e]), hmem⟩
/-- one point alone -/
theorem scan_one {l : List P2} {p : P2} (h : ∀ i, i < l.length → ptAt l i = p) : ∀ k, k ≤ l.length → scanTo l p k = p
  | 0, _ => rfl
  | k + 1, hk => by
    simp only [scanTo]
    rw [if_pos (scan_one h k (by omega)), h k (by omega)]
theorem one_all {l : List P2} (h1 : (ptsL l).length = 1) : ∀ i, i < l.length → ptAt l i = ptAt (ptsL l) 0 := fun i hi => by
  obtain ⟨_, hm⟩ := ptsL_spec l
  have : ptAt l i ∈ ptsL l := (hm _).2 (by rw [ptAt_get l i hi]; exact List.getElem_mem _)
  obtain ⟨j, hj, he⟩ := List.getElem_of_mem this
  have : j = 0 := by omega
  subst this
  rw [ptAt_get (ptsL l) 0 hj, he]
/-! the hull is convex, and has all points -/
theorem ext_unique {l : List P2} (hok : okL l = true) {p q r : P2} (hp : p ∈ l) (h1 : Ext l p q) (h2 : Ext l p r) : q = r := by
  rw [← scan_ext hok hp h1, scan_ext hok hp h2]
/-- a closed way of extreme steps whose first corner comes once -/
structure Round (l H : List P2) : Prop where
  ok : okL l = true
  two : 2 ≤ H.length
  step : ∀ k, k < H.length → Ext l (ptAt H k) (ptAt H ((k + 1) % H.length))
  once : ∀ k, k < H.length → 0 < k → ptAt H k ≠ ptAt H 0
section
variable {l H : List P2} (R : Round l H)
include R
theorem Round.mem {k : Nat} (hk : k < H.length) : ptAt H k ∈ l := by
  have := (R.step _ (Nat.mod_lt (k + H.length - 1) (by omega))).1
  rw [prev_next hk] at this
  exact this
theorem Round.go {i j : Nat} (hi : i < H.length) (hj : j < H.length) (h : ptAt H i = ptAt H j) : ∀ d, ptAt H ((i + d) % H.length) = ptAt H ((j + d) % H.length)
  | 0 => by rw [Nat.add_zero, Nat.add_zero, Nat.mod_eq_of_lt hi, Nat.mod_eq_of_lt hj, h]
  | d + 1 => by
    have ih := Round.go hi hj h d
    have h1 := R.step _ (Nat.mod_lt (i + d) (show 0 < H.length by have := R.two; omega))
    have h2 := R.step _ (Nat.mod_lt (j + d) (show 0 < H.length by have := R.two; omega))
    rw [Nat.mod_add_mod] at h1 h2
    rw [← ih] at h2
    exact ext_unique R.ok (R.mem (Nat.mod_lt _ (by have := R.two; omega))) h1 h2
theorem Round.inj {i j : Nat} (hi : i < H.length) (hj : j < H.length) (h : ptAt H i = ptAt H j) : i = j := by
  have key : ∀ {i j : Nat}, i < j → j < H.length → ptAt H i ≠ ptAt H j := fun {i j} hij hj h => by
    have := R.go (by omega) hj h (H.length - j)
    rw [show j + (H.length - j) = H.length by omega, Nat.mod_self, Nat.mod_eq_of_lt (by omega)] at this
    exact R.once _ (by omega) (by omega) this
  rcases Nat.lt_trichotomy i j with h1 | h1 | h1
  · exact absurd h (key h1 hj)
  · exact h1
  · exact absurd h.symm (key h1 hi)
theorem Round.left {k : Nat} (hk : k < H.length) {p : P2} (hp : p ∈ l) : 0 ≤ c3 (ptAt H k) (ptAt H ((k + 1) % H.length)) p := ((R.step k hk).2.2 p hp).1
theorem Round.strict {k j : Nat} (hk : k < H.length) (hj : j < H.length) (h1 : j ≠ k) (h2 : j ≠ (k + 1) % H.length) : 0 < c3 (ptAt H k) (ptAt H ((k + 1) % H.length)) (ptAt H j) := by
  have hn : (k + 1) % H.length < H.length := Nat.mod_lt _ (by omega)
  have n1 : ptAt H j ≠ ptAt H k := fun e => h1 (R.inj hj hk e)
  have n2 : ptAt H j ≠ ptAt H ((k + 1) % H.length) := fun e => h2 (R.inj hj hn e)
  have e1 := (R.step k hk).2.2 _ (R.mem hj)
  rcases Int.lt_or_eq_of_le e1.1 with h | h
  · exact h
  · exfalso
    have hb := e1.2 h.symm
    have vj := valid_of R.ok (R.mem hj)
    have k1 : ky 1 (ptAt H j) ≠ ky 1 (ptAt H k) := fun e => n1 (ky_inj vj (valid_of R.ok (R.mem hk)) e)
    have k2 : ky 1 (ptAt H j) ≠ ky 1 (ptAt H ((k + 1) % H.length)) := fun e => n2 (ky_inj vj (valid_of R.ok (R.mem hn)) e)
    obtain ⟨_, _, g⟩ := R.step j hj
    have a1 := g _ (R.mem hk)
    have a2 := g _ (R.mem hn)
    generalize ptAt H ((j + 1) % H.length) = r' at *
    generalize ptAt H ((k + 1) % H.length) = q at *
    generalize ptAt H k = p at *
    generalize ptAt H j = r at *
    have id : (ky 1 q - ky 1 r) * c3 r r' p = (ky 1 p - ky 1 r) * c3 r r' q := by
      have h0 : c3 p q r = 0 := h.symm
      have : (ky 1 q - ky 1 r) * c3 r r' p - (ky 1 p - ky 1 r) * c3 r r' q = c3 p q r * (ky 1 r - ky 1 r') := by
        simp only [ky, c3]; grind
      rw [h0, Int.zero_mul] at this
      omega
    have z : c3 r r' p = 0 ∧ c3 r r' q = 0 := by
      rcases hb with hb | hb
      · have b1 := Int.mul_nonneg (a := ky 1 q - ky 1 r) (b := c3 r r' p) (by omega) a1.1
        have b2 := Int.mul_nonneg (a := -(ky 1 p - ky 1 r)) (b := c3 r r' q) (by omega) a2.1
        rw [Int.neg_mul] at b2
        have c1 : (ky 1 q - ky 1 r) * c3 r r' p = 0 := by omega
        have c2 : (ky 1 p - ky 1 r) * c3 r r' q = 0 := by omega
        exact ⟨(Int.mul_eq_zero.1 c1).resolve_left (by omega), (Int.mul_eq_zero.1 c2).resolve_left (by omega)⟩
      · have b1 := Int.mul_nonneg (a := -(ky 1 q - ky 1 r)) (b := c3 r r' p) (by omega) a1.1
        have b2 := Int.mul_nonneg (a := ky 1 p - ky 1 r) (b := c3 r r' q) (by omega) a2.1
        rw [Int.neg_mul] at b1
        have c1 : (ky 1 q - ky 1 r) * c3 r r' p = 0 := by omega
        have c2 : (ky 1 p - ky 1 r) * c3 r r' q = 0 := by omega
        exact ⟨(Int.mul_eq_zero.1 c1).resolve_left (by omega), (Int.mul_eq_zero.1 c2).resolve_left (by omega)⟩
    have d1 := a1.2 z.1
    have d2 := a2.2 z.2
    omega
theorem next_ne' {k : Nat} (hk : k < H.length) : (k + 1) % H.length ≠ k := fun e => next_ne R.two hk e.symm
theorem Round.bend (h3 : 3 ≤ H.length) {k : Nat} (hk : k < H.length) : 0 < c3 (ptAt H ((k + H.length - 1) % H.length)) (ptAt H k) (ptAt H ((k + 1) % H.length)) := by
  have hp : (k + H.length - 1) % H.length < H.length := Nat.mod_lt _ (by omega)
  have := R.strict (k := (k + H.length - 1) % H.length) (j := (k + 1) % H.length) hp (Nat.mod_lt _ (by omega)) (by
    rcases prev_cases hk with ⟨a, b⟩ | ⟨a, b⟩
    · rw [b]; subst a; rw [Nat.mod_eq_of_lt (by omega)]; omega
    · rw [b]
      by_cases hh : k + 1 < H.length
      · rw [Nat.mod_eq_of_lt hh]; omega
      · rw [show k + 1 = H.length by omega, Nat.mod_self]; omega) (by rw [prev_next hk]; exact next_ne' R hk)
  rw [prev_next hk] at this
  exact this
theorem Round.okH : okL H = true := by
  unfold okL
  rw [List.all_eq_true]
  intro p hp
  obtain ⟨i, hi, he⟩ := List.getElem_of_mem hp
  have := valid_of R.ok (R.mem hi)
  rw [ptAt_get _ _ hi, he] at this
  exact okP_iff.2 this
theorem Round.poly (h3 : 3 ≤ H.length) (hl : H.length ≤ 200) : polyI H = 0 := by
  have hok := R.okH
  have hrep : repI H = false := rep_none1 hok fun i j hj hi ⟨u, v⟩ => by
    have := R.inj hi (by omega) (show ptAt H i = ptAt H j by simp only [ptAt, u, v])
    omega
  refine (poly_4 ?_ (by omega) hrep ?_).symm
  · unfold ckPts; rw [if_neg (by omega), hok]; rfl
  rw [apartB_iff]
  intro i hi j hij hj
  have hin : (i + 1) % H.length < H.length := Nat.mod_lt _ (by omega)
  have hjn : (j + 1) % H.length < H.length := Nat.mod_lt _ (by omega)
  obtain ⟨e1, e2, e3, e4⟩ := edgesL_at H i hi
  obtain ⟨g1, g2, g3, g4⟩ := edgesL_at H j hj
  unfold meetE
  rw [e1, e2, e3, e4, g1, g2, g3, g4]
  have T : ∀ p q r : P2, turnI p.1 p.2 q.1 q.2 r.1 r.2 = Int.sign (c3 p q r) := turn3
  have t1 := T (ptAt H i) (ptAt H ((i + 1) % H.length)) (ptAt H j)
  have t2 := T (ptAt H i) (ptAt H ((i + 1) % H.length)) (ptAt H ((j + 1) % H.length))
  have t3 := T (ptAt H j) (ptAt H ((j + 1) % H.length)) (ptAt H i)
  have t4 := T (ptAt H j) (ptAt H ((j + 1) % H.length)) (ptAt H ((i + 1) % H.length))
  simp only [ptAt] at t1 t2 t3 t4
  have hi1 : (i + 1) % H.length = i + 1 := Nat.mod_eq_of_lt (by omega)
  unfold meetI
  rw [t1, t2, t3, t4]
  by_cases hw : j = i + 1 ∨ (i = 0 ∧ j + 1 = H.length)
  · rw [want_1 hw]
    rcases hw with hw | ⟨hw1, hw2⟩
    · have z1 : c3 (px H i, py H i) (px H ((i + 1) % H.length), py H ((i + 1) % H.length)) (px H j, py H j) = 0 := by rw [hi1, hw]; simp [c3]; rw [Int.mul_comm]; simp
      have z4 : c3 (px H j, py H j) (px H ((j + 1) % H.length), py H ((j + 1) % H.length)) (px H ((i + 1) % H.length), py H ((i + 1) % H.length)) = 0 := by rw [hi1, hw]; simp [c3]
      have p2 := R.strict hi hjn (by
        intro e
        by_cases hh : j + 1 < H.length
        · rw [Nat.mod_eq_of_lt hh] at e; omega
        · rw [show j + 1 = H.length by omega, Nat.mod_self] at e; omega) (by rw [hi1, ← hw]; exact next_ne' R hj)
      simp only [ptAt] at p2
      rw [z1, z4, Int.sign_eq_one_of_pos p2]
      simp
    · have hjn0 : (j + 1) % H.length = 0 := by rw [hw2, Nat.mod_self]
      have z2 : c3 (px H i, py H i) (px H ((i + 1) % H.length), py H ((i + 1) % H.length)) (px H ((j + 1) % H.length), py H ((j + 1) % H.length)) = 0 := by rw [hjn0, hw1]; simp [c3]
      have z3 : c3 (px H j, py H j) (px H ((j + 1) % H.length), py H ((j + 1) % H.length)) (px H i, py H i) = 0 := by rw [hjn0, hw1]; simp [c3]; rw [Int.mul_comm]; simp
      have p1 := R.strict hi hj (by omega) (by rw [hi1]; omega)
      simp only [ptAt] at p1
      rw [z2, z3, Int.sign_eq_one_of_pos p1]
      simp
  · rw [want_0 hw]
    have p1 := R.strict hi hj (by omega) (by rw [hi1]; omega)
    have p2 := R.strict hi hjn (by
      intro e
      by_cases hh : j + 1 < H.length
      · rw [Nat.mod_eq_of_lt hh] at e; omega
      · rw [show j + 1 = H.length by omega, Nat.mod_self] at e; omega) (by
      rw [hi1]; intro e
      by_cases hh : j + 1 < H.length
      · rw [Nat.mod_eq_of_lt hh] at e; omega
      · rw [show j + 1 = H.length by omega, Nat.mod_self] at e; omega)
    simp only [ptAt] at p1 p2
    rw [Int.sign_eq_one_of_pos p1, Int.sign_eq_one_of_pos p2]
    simp
theorem Round.turns (h3 : 3 ≤ H.length) {k : Nat} (hk : k < H.length) : turnAt H H.length k = 1 := by
  have := turn3 (ptAt H ((k + H.length - 1) % H.length)) (ptAt H k) (ptAt H ((k + 1) % H.length))
  rw [Int.sign_eq_one_of_pos (R.bend h3 hk)] at this
  exact this
theorem Round.area (h3 : 3 ≤ H.length) : 0 ≤ areaI H := by
  unfold areaI
  split
  · have gen : ∀ k, k ≤ H.length → cr (ptAt H 0) (ptAt H (k % H.length)) ≤ crossTo (edgesL H) k := by
      intro k
      induction k with
      | zero => intro _; rw [Nat.zero_mod]; simp [cr, crossTo]; rw [Int.mul_comm]; simp
      | succ k ih =>
        intro hk
        have a := ih (by omega)
        obtain ⟨e1, e2, e3, e4⟩ := edgesL_at H k (by omega)
        rw [Nat.mod_eq_of_lt (show k < H.length by omega)] at a
        have b := R.left (k := k) (by omega) (R.mem (k := 0) (by omega))
        have c : c3 (ptAt H k) (ptAt H ((k + 1) % H.length)) (ptAt H 0) = cr (ptAt H k) (ptAt H ((k + 1) % H.length)) - cr (ptAt H 0) (ptAt H ((k + 1) % H.length)) + cr (ptAt H 0) (ptAt H k) := by
          simp only [c3, cr]; grind
        have d : crossTo (edgesL H) (k + 1) = crossTo (edgesL H) k + cr (ptAt H k) (ptAt H ((k + 1) % H.length)) := by
          rw [show crossTo (edgesL H) (k + 1) = crossTo (edgesL H) k + (q1 (edgesL H) k * q4 (edgesL H) k - q2 (edgesL H) k * q3 (edgesL H) k) from rfl, e1, e2, e3, e4]; rfl
        omega
    have := gen H.length (Nat.le_refl _)
    rw [Nat.mod_self] at this
    have z : cr (ptAt H 0) (ptAt H 0) = 0 := by simp [cr]; rw [Int.mul_comm]; simp
    omega
  · exact Int.le_refl _
theorem bends_all (m : List P2) (h : ∀ k, k < m.length → turnAt m m.length k ≠ 0) : normB m = m := by
  unfold normB
  rw [bendsTo_filter, List.filter_eq_self.2 (fun i hi => by simpa using h i (by simpa using hi))]
  apply List.ext_getElem (by simp)
  intro i h1 h2
  simp [ptAt_get m i h2]
theorem Round.conv (h3 : 3 ≤ H.length) : convB (normL H) = true := by
  have hb := bends_all R H (fun k hk => by rw [R.turns h3 hk]; decide)
  have hc : normC H = H := by unfold normC; rw [hb, if_neg (by have := R.area h3; omega)]
  have hf : leastTo H H.length ≤ H.length := by have := (least_spec H H.length (by omega)).1; omega
  unfold convB normL
  rw [hc, rotL_len H _ hf, List.all_eq_true]
  intro k hk
  rw [List.mem_range] at hk
  rw [turnAt_rot H _ k hf hk, R.turns h3 (Nat.mod_lt _ (by omega))]
  rfl

/-! where -/
theorem argmin (f : Nat → Int) : ∀ n, 0 < n → ∃ k, k < n ∧ ∀ j, j < n → f k ≤ f j
  | 0, h => absurd h (by omega)
  | 1, _ => ⟨0, by omega, fun j hj => by obtain rfl : j = 0 := by omega
                                         exact Int.le_refl _⟩
  | n + 2, _ => by
    obtain ⟨k, hk, h⟩ := argmin f (n + 1) (by omega)
    by_cases hc : f k ≤ f (n + 1)
    · refine ⟨k, by omega, fun j hj => ?_⟩
      by_cases e : j = n + 1
      · subst e; exact hc
      · exact h j (by omega)
    · refine ⟨n + 1, by omega, fun j hj => ?_⟩
      by_cases e : j = n + 1
      · subst e; exact Int.le_refl _
      · have := h j (by omega); omega
theorem Round.low (h3 : 3 ≤ H.length) {p : P2} (hp : ∀ k, k < H.length → 0 < c3 (ptAt H k) (ptAt H ((k + 1) % H.length)) p) : ∃ k, k < H.length ∧ py H k ≤ p.2 := by
  obtain ⟨k, hk, hmin⟩ := argmin R (py H) H.length (by omega)
  refine ⟨k, hk, ?_⟩
  have hpr : (k + H.length - 1) % H.length < H.length := Nat.mod_lt _ (by omega)
  have hnx : (k + 1) % H.length < H.length := Nat.mod_lt _ (by omega)
  have D := R.bend h3 hk
  have a := hp _ hpr
  have b := hp k hk
  rw [prev_next hk] at a
  have m1 := hmin _ hpr
  have m2 := hmin _ hnx
  have id : c3 (ptAt H ((k + H.length - 1) % H.length)) (ptAt H k) (ptAt H ((k + 1) % H.length)) * (p.2 - py H k) = c3 (ptAt H k) (ptAt H ((k + 1) % H.length)) p * (py H ((k + H.length - 1) % H.length) - py H k) + c3 (ptAt H ((k + H.length - 1) % H.length)) (ptAt H k) p * (py H ((k + 1) % H.length) - py H k) := by
    simp only [c3, ptAt]; grind
  have b1 := Int.mul_nonneg (Int.le_of_lt b) (show 0 ≤ py H ((k + H.length - 1) % H.length) - py H k by omega)
  have b2 := Int.mul_nonneg (Int.le_of_lt a) (show 0 ≤ py H ((k + 1) % H.length) - py H k by omega)
  have := nn_of D (b := p.2 - py H k) (by omega)
  omega
theorem Round.high (h3 : 3 ≤ H.length) {p : P2} (hp : ∀ k, k < H.length → 0 < c3 (ptAt H k) (ptAt H ((k + 1) % H.length)) p) : ∃ k, k < H.length ∧ p.2 < py H k := by
  obtain ⟨k, hk, hmin⟩ := argmin R (fun i => - py H i) H.length (by omega)
  refine ⟨k, hk, ?_⟩
  have hpr : (k + H.length - 1) % H.length < H.length := Nat.mod_lt _ (by omega)
  have hnx : (k + 1) % H.length < H.length := Nat.mod_lt _ (by omega)
  have D := R.bend h3 hk
  have a := hp _ hpr
  have b := hp k hk
  rw [prev_next hk] at a
  have m1 := hmin _ hpr
  have m2 := hmin _ hnx

  have id : c3 (ptAt H ((k + H.length - 1) % H.length)) (ptAt H k) (ptAt H ((k + 1) % H.length)) * (py H k - p.2) = c3 (ptAt H k) (ptAt H ((k + 1) % H.length)) p * (py H k - py H ((k + H.length - 1) % H.length)) + c3 (ptAt H ((k + H.length - 1) % H.length)) (ptAt H k) p * (py H k - py H ((k + 1) % H.length)) := by
    simp only [c3, ptAt]; grind
  have b1 := Int.mul_nonneg (Int.le_of_lt b) (show 0 ≤ py H k - py H ((k + H.length - 1) % H.length) by omega)
  have b2 := Int.mul_nonneg (Int.le_of_lt a) (show 0 ≤ py H k - py H ((k + 1) % H.length) by omega)
  by_cases e1 : py H k = py H ((k + H.length - 1) % H.length)
  · by_cases e2 : py H k = py H ((k + 1) % H.length)
    · exfalso
      have : c3 (ptAt H ((k + H.length - 1) % H.length)) (ptAt H k) (ptAt H ((k + 1) % H.length)) = 0 := by
        simp only [c3, ptAt]; rw [← e1, ← e2]; simp
      omega
    · have := Int.mul_pos a (show 0 < py H k - py H ((k + 1) % H.length) by omega)
      have := ps_of D (b := py H k - p.2) (by omega)
      omega
  · have := Int.mul_pos b (show 0 < py H k - py H ((k + H.length - 1) % H.length) by omega)
    have := ps_of D (b := py H k - p.2) (by omega)
    omega
/-- an edge that goes up across a height -/
def upB (H : List P2) (q : Int) (k : Nat) : Bool := decide (py H k ≤ q) && decide (q < py H ((k + 1) % H.length))
theorem Round.pass {p : P2} (hp : ∀ k, k < H.length → 0 < c3 (ptAt H k) (ptAt H ((k + 1) % H.length)) p) {k : Nat} (hk : k < H.length) : passAt (edgesL H) p.1 p.2 k = upB H p.2 k := by
  obtain ⟨e1, e2, e3, e4⟩ := edgesL_at H k hk
  unfold passAt passB upB
  rw [e1, e2, e3, e4]
  have t1 := turn3 (ptAt H k) (ptAt H ((k + 1) % H.length)) p
  have t2 := turn3 (ptAt H ((k + 1) % H.length)) (ptAt H k) p
  have sw : c3 (ptAt H ((k + 1) % H.length)) (ptAt H k) p = - c3 (ptAt H k) (ptAt H ((k + 1) % H.length)) p := by simp only [c3]; grind
  rw [Int.sign_eq_one_of_pos (hp k hk)] at t1
  rw [sw, Int.sign_eq_neg_one_of_neg (by have := hp k hk; omega)] at t2
  simp only [ptAt] at t1 t2
  rw [t1, t2]
  by_cases hy : py H ((k + 1) % H.length) < py H k
  · rw [if_pos hy]
    rw [Bool.eq_iff_iff]
    simp
    omega
  · rw [if_neg hy]; simp
theorem Round.up_one (h3 : 3 ≤ H.length) {q : Int} {i j : Nat} (hi : i < H.length) (hj : j < H.length) (h1 : upB H q i = true) (h2 : upB H q j = true) : i = j := by
  have hin : (i + 1) % H.length < H.length := Nat.mod_lt _ (by omega)
  have hjn : (j + 1) % H.length < H.length := Nat.mod_lt _ (by omega)
  unfold upB at h1 h2
  simp only [Bool.and_eq_true, decide_eq_true_eq] at h1 h2
  by_cases e : i = j
  · exact e
  · exfalso
    have a1 := R.left hj (R.mem hi)
    have a2 := R.left hj (R.mem hin)
    have b1 := R.left hi (R.mem hj)
    have b2 := R.left hi (R.mem hjn)
    have st : 0 < c3 (ptAt H j) (ptAt H ((j + 1) % H.length)) (ptAt H i) := R.strict hj hi e (by
      intro e2; rw [e2] at h1; omega)
    have id : (py H ((i + 1) % H.length) - q) * c3 (ptAt H j) (ptAt H ((j + 1) % H.length)) (ptAt H i) + (q - py H i) * c3 (ptAt H j) (ptAt H ((j + 1) % H.length)) (ptAt H ((i + 1) % H.length))
        + ((py H ((j + 1) % H.length) - q) * c3 (ptAt H i) (ptAt H ((i + 1) % H.length)) (ptAt H j) + (q - py H j) * c3 (ptAt H i) (ptAt H ((i + 1) % H.length)) (ptAt H ((j + 1) % H.length))) = 0 := by
      simp only [c3, ptAt]; grind
    have m1 := Int.mul_pos (show 0 < py H ((i + 1) % H.length) - q by omega) st
    have m2 := Int.mul_nonneg (show 0 ≤ q - py H i by omega) a2
    have m3 := Int.mul_nonneg (show 0 ≤ py H ((j + 1) % H.length) - q by omega) b1
    have m4 := Int.mul_nonneg (show 0 ≤ q - py H j by omega) b2
    omega
theorem Round.up_some {q : Int} {a b : Nat} (ha : a < H.length) (hb : b < H.length) (h1 : py H a ≤ q) (h2 : q < py H b) : ∃ i, i < H.length ∧ upB H q i = true := by
  apply Classical.byContradiction
  intro hno
  have st : ∀ k, k < H.length → py H k ≤ q → py H ((k + 1) % H.length) ≤ q := fun k hk h => by
    apply Classical.byContradiction
    intro h'
    exact hno ⟨k, hk, by unfold upB; simp [h]; omega⟩
  have gen : ∀ d, py H ((a + d) % H.length) ≤ q := by
    intro d
    induction d with
    | zero => rw [Nat.add_zero, Nat.mod_eq_of_lt ha]; exact h1
    | succ d ih =>
      have := st _ (Nat.mod_lt (a + d) (by omega)) ih
      rw [Nat.mod_add_mod] at this
      exact this
  have := gen (b + (H.length - a))
  rw [show a + (b + (H.length - a)) = b + H.length by omega, Nat.add_mod_right, Nat.mod_eq_of_lt hb] at this
  omega
theorem Round.where_ne (h3 : 3 ≤ H.length) {p : P2} (hpl : p ∈ l) : whereI H p.1 p.2 ≠ 0 := by
  unfold whereI
  cases hn : anyOn (edgesL H) p.1 p.2 H.length
  · have hp : ∀ k, k < H.length → 0 < c3 (ptAt H k) (ptAt H ((k + 1) % H.length)) p := by
      intro k hk
      have s := (R.step k hk).2.2 p hpl
      rcases Int.lt_or_eq_of_le s.1 with h | h
      · exact h
      · exfalso
        have ho := anyOn_false.1 hn k hk
        obtain ⟨e1, e2, e3, e4⟩ := edgesL_at H k hk
        rw [onAt, ← onR_eq, e1, e2, e3, e4] at ho
        have hb := s.2 h.symm
        have v1 := valid_of R.ok (R.mem hk)
        have v2 := valid_of R.ok (R.mem (Nat.mod_lt (k + 1) (show 0 < H.length by omega)))
        have v3 := valid_of R.ok hpl
        have t := turn3 (ptAt H k) (ptAt H ((k + 1) % H.length)) p
        rw [← h] at t
        have t' : turnI (px H k) (py H k) (px H ((k + 1) % H.length)) (py H ((k + 1) % H.length)) p.1 p.2 = 0 := t
        have hc : (px H ((k + 1) % H.length) - px H k) * (p.2 - py H k) = (py H ((k + 1) % H.length) - py H k) * (p.1 - px H k) := by
          have : c3 (ptAt H k) (ptAt H ((k + 1) % H.length)) p = 0 := h.symm
          simp only [c3, ptAt] at this; omega
        unfold valid ptAt at v1 v2
        unfold valid at v3
        simp only [ky, ptAt] at hb
        have hbt : (min (px H k) (px H ((k + 1) % H.length)) ≤ p.1 ∧ p.1 ≤ max (px H k) (px H ((k + 1) % H.length))) ∧ (min (py H k) (py H ((k + 1) % H.length)) ≤ p.2 ∧ p.2 ≤ max (py H k) (py H ((k + 1) % H.length))) := by
          simp only at v1 v2
          rcases hb with hb | hb
          · exact (on_asc (by omega) hc).1 (by omega)
          · have := (on_asc (a := px H ((k + 1) % H.length)) (b := py H ((k + 1) % H.length)) (c := px H k) (d := py H k) (p := p.1) (q := p.2) (by omega) (by grind)).1 (by omega)
            omega
        have : onR p.1 p.2 (px H k) (py H k) (px H ((k + 1) % H.length)) (py H ((k + 1) % H.length)) = true := by
          unfold onR btwB
          rw [t']
          simp only [Bool.and_eq_true, decide_eq_true_eq, beq_iff_eq]
          exact ⟨hbt, trivial⟩
        rw [this] at ho; cases ho
    obtain ⟨a, ha, ha2⟩ := R.low h3 hp
    obtain ⟨b, hb, hb2⟩ := R.high h3 hp
    obtain ⟨i, hi, hiu⟩ := R.up_some ha hb ha2 hb2
    have odd : ∀ k, k ≤ H.length → oddTo (edgesL H) p.1 p.2 k = decide (i < k) := by
      intro k
      induction k with
      | zero => intro _; simp [oddTo]
      | succ k ih =>
        intro hk
        have ihk := ih (by omega)
        have hpk := R.pass hp (k := k) (by omega)
        simp only [oddTo, hpk, ihk]
        by_cases e : k = i
        · subst e; rw [hiu]; simp
        · have : upB H p.2 k = false := by
            cases hu : upB H p.2 k
            · rfl
            · exact absurd (R.up_one h3 (by omega) hi hu hiu) e
          rw [this]
          simp
          omega
    rw [odd _ (Nat.le_refl _)]
    simp [hi]
  · simp
end

/-! the hull of the hull -/
theorem hull_round {l : List P2} (hok : okL l = true) (h2 : 2 ≤ (ptsL l).length) : Round l (hullL l) := by
  obtain ⟨a, b, c, d⟩ := hull_spec hok h2
  exact ⟨hok, a, c, fun k hk h0 e => d k hk h0 (by rw [e])⟩
theorem pts_least {l : List P2} (hok : okL l = true) {p : P2} (hp : p ∈ l) : ky 1 (ptAt (ptsL l) 0) ≤ ky 1 p := by
  obtain ⟨hs, hm⟩ := ptsL_spec l
  obtain ⟨j, hj, he⟩ := List.getElem_of_mem ((hm p).2 hp)
  by_cases e : j = 0
  · subst e; rw [ptAt_get _ _ hj, he]; exact Int.le_refl _
  · have := List.pairwise_iff_getElem.1 hs 0 j (by omega) hj (by omega)
    rw [he] at this
    have h0 : ptAt (ptsL l) 0 = (ptsL l)[0]'(by omega) := ptAt_get _ _ (by omega)
    rw [← h0] at this
    have v : valid (ptAt (ptsL l) 0) := valid_of hok ((hm _).1 (by rw [h0]; exact List.getElem_mem _))
    have := (ky_lt v (valid_of hok hp)).1 this
    omega
theorem hull_mem {l : List P2} (hok : okL l = true) (h2 : 2 ≤ (ptsL l).length) {p : P2} (hp : p ∈ hullL l) : p ∈ l := by
  obtain ⟨i, hi, he⟩ := List.getElem_of_mem hp
  have := (hull_round hok h2).mem hi
  rw [ptAt_get _ _ hi, he] at this
  exact this
theorem pts_two {l : List P2} {p q : P2} (hp : p ∈ l) (hq : q ∈ l) (hne : p ≠ q) : 2 ≤ (ptsL l).length := by
  obtain ⟨_, hm⟩ := ptsL_spec l
  obtain ⟨i, hi, hie⟩ := List.getElem_of_mem ((hm p).2 hp)
  obtain ⟨j, hj, hje⟩ := List.getElem_of_mem ((hm q).2 hq)
  by_cases e : i = j
  · subst e; exact absurd (hie.symm.trans hje) hne
  · omega
theorem hull_again {l : List P2} (hok : okL l = true) (h2 : 2 ≤ (ptsL l).length) : 2 ≤ (ptsL (hullL l)).length ∧ hullL (hullL l) = hullL l := by
  have R := hull_round hok h2
  have hokH := R.okH
  have two := R.two
  have m0 : ptAt (hullL l) 0 ∈ hullL l := by rw [ptAt_get _ _ (by omega)]; exact List.getElem_mem _
  have m1 : ptAt (hullL l) 1 ∈ hullL l := by rw [ptAt_get _ _ (by omega)]; exact List.getElem_mem _
  have h2' : 2 ≤ (ptsL (hullL l)).length := pts_two m1 m0 (R.once 1 (by omega) (by omega))
  refine ⟨h2', ?_⟩
  have R' := hull_round hokH h2'
  have two' := R'.two
  have s0 : ptAt (hullL l) 0 = ptAt (ptsL l) 0 := (hull_spec hok h2).2.1
  have s0' : ptAt (hullL (hullL l)) 0 = ptAt (ptsL (hullL l)) 0 := (hull_spec hokH h2').2.1
  have first : ptAt (hullL (hullL l)) 0 = ptAt (hullL l) 0 := by
    have mm : ptAt (hullL (hullL l)) 0 ∈ hullL l := R'.mem (by omega)
    have a := pts_least hokH m0
    have b := pts_least hok (hull_mem hok h2 mm)
    rw [← s0'] at a
    rw [← s0] at b
    exact ky_inj (valid_of hokH mm) (valid_of hokH m0) (by omega)
  have stepH : ∀ k, k < (hullL l).length → Ext (hullL l) (ptAt (hullL l) k) (ptAt (hullL l) ((k + 1) % (hullL l).length)) := fun k hk => by
    obtain ⟨_, b, c⟩ := R.step k hk
    refine ⟨?_, b, fun r hr => c r (hull_mem hok h2 hr)⟩
    rw [ptAt_get _ _ (Nat.mod_lt _ (by omega))]; exact List.getElem_mem _
  have memH : ∀ k, k < (hullL l).length → ptAt (hullL l) k ∈ hullL l := fun k hk => by rw [ptAt_get _ _ hk]; exact List.getElem_mem _
  have gen : ∀ k, k < (hullL l).length → k < (hullL (hullL l)).length → ptAt (hullL (hullL l)) k = ptAt (hullL l) k := by
    intro k
    induction k with
    | zero => intro _ _; exact first
    | succ k ih =>
      intro h1 h2
      have e := ih (by omega) (by omega)
      have a := R'.step k (by omega)
      have b := stepH k (by omega)
      rw [e, Nat.mod_eq_of_lt h2] at a
      rw [Nat.mod_eq_of_lt h1] at b
      exact ext_unique hokH (memH k (by omega)) a b
  have len : (hullL (hullL l)).length = (hullL l).length := by
    rcases Nat.lt_trichotomy (hullL (hullL l)).length (hullL l).length with h | h | h
    · exfalso
      have e := gen ((hullL (hullL l)).length - 1) (by omega) (by omega)
      have a := R'.step ((hullL (hullL l)).length - 1) (by omega)
      have b := stepH ((hullL (hullL l)).length - 1) (by omega)
      rw [e, show (hullL (hullL l)).length - 1 + 1 = (hullL (hullL l)).length by omega, Nat.mod_self] at a
      rw [show (hullL (hullL l)).length - 1 + 1 = (hullL (hullL l)).length by omega, Nat.mod_eq_of_lt h] at b
      have := ext_unique hokH (memH _ (by omega)) a b
      rw [first] at this
      exact R.once _ h (by omega) this.symm
    · exact h
    · exfalso
      have e := gen ((hullL l).length - 1) (by omega) (by omega)
      have a := R'.step ((hullL l).length - 1) (by omega)
      have b := stepH ((hullL l).length - 1) (by omega)
      rw [e, show (hullL l).length - 1 + 1 = (hullL l).length by omega, Nat.mod_eq_of_lt h] at a
      rw [show (hullL l).length - 1 + 1 = (hullL l).length by omega, Nat.mod_self] at b
      have := ext_unique hokH (memH _ (by omega)) a b
      rw [← first] at this
      exact R'.once _ h (by omega) this
  apply List.ext_getElem len
  intro i h1 h2
  rw [← ptAt_get _ _ h1, ← ptAt_get _ _ h2]
  exact gen i h2 h1

end Go.Proofs.YtpdfbboagaflhaaGreat

set_option linter.unusedSimpArgs false
set_option linter.unusedVariables false
set_option linter.unusedSectionVars false
namespace Go.Proofs.YtpdfbboagaflhaaGreat
open Go.RowKit

/-! the pieces of segments -/
def segAt (l : List S4) (k : Nat) : S4 := (q1 l k, q2 l k, q3 l k, q4 l k)
/-- a point of a segment -/
def onS (p : P2) (s : S4) : Prop := c3 (eA s) (eB s) p = 0 ∧ ((ky 1 (eA s) ≤ ky 1 p ∧ ky 1 p ≤ ky 1 (eB s)) ∨ (ky 1 (eB s) ≤ ky 1 p ∧ ky 1 p ≤ ky 1 (eA s)))
theorem okSeg_iff {s : S4} : okSeg s = true ↔ valid (eA s) ∧ valid (eB s) ∧ eA s ≠ eB s := by
  unfold okSeg valid eA eB
  rw [okS_iff]
  simp only [ne_eq, Prod.mk.injEq]
theorem onR_iff {p : P2} {s : S4} (hp : valid p) (hs : okSeg s = true) : onR p.1 p.2 s.1 s.2.1 s.2.2.1 s.2.2.2 = true ↔ onS p s := by
  obtain ⟨v1, v2, _⟩ := okSeg_iff.1 hs
  obtain ⟨a, b, c, d⟩ := s
  obtain ⟨x, y⟩ := p
  unfold valid eA eB at *
  unfold onS onR btwB
  have t : turnI a b c d x y = Int.sign (c3 (a, b) (c, d) (x, y)) := turn3 (a, b) (c, d) (x, y)
  simp only [Bool.and_eq_true, decide_eq_true_eq, beq_iff_eq, t, Int.sign_eq_zero_iff_zero, eA, eB]
  constructor
  · rintro ⟨h1, h2⟩
    refine ⟨h2, ?_⟩
    have hc : (c - a) * (y - b) = (d - b) * (x - a) := by simp only [c3] at h2; omega
    by_cases hl : a < c ∨ (a = c ∧ b ≤ d)
    · left
      have := (on_asc hl hc).2 h1
      simp only [ky] at *; omega
    · right
      have := (on_asc (a := c) (b := d) (c := a) (d := b) (p := x) (q := y) (by omega) (by grind)).2 (by omega)
      simp only [ky] at *; omega
  · rintro ⟨h2, h1⟩
    refine ⟨?_, h2⟩
    have hc : (c - a) * (y - b) = (d - b) * (x - a) := by simp only [c3] at h2; omega
    simp only [ky] at h1
    simp only at v1 v2 hp
    rcases h1 with h1 | h1
    · exact (on_asc (by omega) hc).1 (by omega)
    · have := (on_asc (a := c) (b := d) (c := a) (d := b) (p := x) (q := y) (by omega) (by grind)).1 (by omega)
      omega
theorem onS_A (s : S4) : onS (eA s) s := ⟨by simp [c3], by omega⟩
theorem onS_B (s : S4) : onS (eB s) s := ⟨by simp only [c3]; rw [Int.mul_comm]; omega, by omega⟩
theorem ky_ne {p q : P2} (hp : valid p) (hq : valid q) (h : p ≠ q) : ky 1 p ≠ ky 1 q := fun e => h (ky_inj hp hq e)
/-- three points of a segment are on one line -/
theorem on3 {s : S4} (hs : okSeg s = true) {p q r : P2} (h1 : onS p s) (h2 : onS q s) (h3 : onS r s) : c3 p q r = 0 := by
  obtain ⟨v1, v2, hne⟩ := okSeg_iff.1 hs
  have k := ky_ne v1 v2 hne
  have id : (ky 1 (eB s) - ky 1 (eA s)) * c3 p q r = (ky 1 r - ky 1 q) * c3 (eA s) (eB s) p + (ky 1 p - ky 1 r) * c3 (eA s) (eB s) q + (ky 1 q - ky 1 p) * c3 (eA s) (eB s) r := by
    simp only [ky, c3]; grind
  rw [h1.1, h2.1, h3.1] at id
  simp only [Int.mul_zero, Int.add_zero] at id
  exact (Int.mul_eq_zero.1 id).resolve_left (by omega)

/-! the cuts of a segment -/
theorem ptAt_mem {l : List P2} {i : Nat} (h : i < l.length) : ptAt l i ∈ l := by rw [ptAt_get l i h]; exact List.getElem_mem h
theorem mem_ptAt {l : List P2} {p : P2} (h : p ∈ l) : ∃ i, i < l.length ∧ p = ptAt l i := by
  obtain ⟨i, hi, he⟩ := List.getElem_of_mem h
  exact ⟨i, hi, by rw [ptAt_get l i hi, he]⟩
theorem cutsTo_mem {E : List P2} {a b c d : Int} (hE : ∀ p, p ∈ E → valid p) (hs : okSeg (a, b, c, d) = true) : ∀ k, k ≤ E.length → ∀ p, p ∈ cutsTo E a b c d k ↔ (p = (a, b) ∨ p = (c, d) ∨ (∃ i, i < k ∧ p = ptAt E i ∧ onS p (a, b, c, d)))
  | 0, _, p => by simp [cutsTo]
  | k + 1, h, p => by
    have ih := cutsTo_mem hE hs k (by omega) p
    have ho := onR_iff (hE _ (ptAt_mem (show k < E.length by omega))) hs
    rw [onR_eq] at ho
    have ho' : onB (px E k) (py E k) a b c d = true ↔ onS (ptAt E k) (a, b, c, d) := ho
    simp only [cutsTo]
    by_cases hc : onB (px E k) (py E k) a b c d = true
    · rw [if_pos hc, List.mem_append, ih, List.mem_singleton]
      have hon := ho'.1 hc
      constructor
      · rintro ((h1 | h1 | ⟨i, h1, h2, h3⟩) | h1)
        · exact .inl h1
        · exact .inr (.inl h1)
        · exact .inr (.inr ⟨i, by omega, h2, h3⟩)
        · exact .inr (.inr ⟨k, by omega, h1, by rw [h1]; exact hon⟩)
      · rintro (h1 | h1 | ⟨i, h1, h2, h3⟩)
        · exact .inl (.inl h1)
        · exact .inl (.inr (.inl h1))
        · by_cases e : i = k
          · subst e; exact .inr h2
          · exact .inl (.inr (.inr ⟨i, by omega, h2, h3⟩))
    · rw [if_neg hc, ih]
      constructor
      · rintro (h1 | h1 | ⟨i, h1, h2, h3⟩)
        · exact .inl h1
        · exact .inr (.inl h1)
        · exact .inr (.inr ⟨i, by omega, h2, h3⟩)
      · rintro (h1 | h1 | ⟨i, h1, h2, h3⟩)
        · exact .inl h1
        · exact .inr (.inl h1)
        · by_cases e : i = k
          · subst e; rw [h2] at h3; exact absurd (ho'.2 h3) hc
          · exact .inr (.inr ⟨i, by omega, h2, h3⟩)
theorem cutsL_spec {E : List P2} {s : S4} (hE : ∀ p, p ∈ E → valid p) (hs : okSeg s = true) (hA : eA s ∈ E) (hB : eB s ∈ E) :
    (cutsL E s.1 s.2.1 s.2.2.1 s.2.2.2).Pairwise lexLt ∧ ∀ p, p ∈ cutsL E s.1 s.2.1 s.2.2.1 s.2.2.2 ↔ (p ∈ E ∧ onS p s) := by
  obtain ⟨a, b, c, d⟩ := s
  have hlen : (sortP (cutsTo E a b c d E.length)).length = (cutsTo E a b c d E.length).length := List.length_mergeSort _
  obtain ⟨h1, h2, _⟩ := dd_spec (sortP_sorted (cutsTo E a b c d E.length)) (cutsTo E a b c d E.length).length (by omega)
  refine ⟨h1, fun p => ?_⟩
  show p ∈ ddTo (sortP (cutsTo E a b c d E.length)) (cutsTo E a b c d E.length).length ↔ _
  rw [h2, ← hlen, List.take_length, sortP_mem, cutsTo_mem hE hs E.length (Nat.le_refl _) p]
  constructor
  · rintro (h | h | ⟨i, hi, he, ho⟩)
    · rw [h]; exact ⟨hA, onS_A (a, b, c, d)⟩
    · rw [h]; exact ⟨hB, onS_B (a, b, c, d)⟩
    · exact ⟨by rw [he]; exact ptAt_mem hi, ho⟩
  · rintro ⟨hm, ho⟩
    obtain ⟨i, hi, he⟩ := mem_ptAt hm
    exact .inr (.inr ⟨i, hi, he, ho⟩)
theorem endsTo_mem (l : List S4) : ∀ k, ∀ p, p ∈ endsTo l k ↔ ∃ i, i < k ∧ (p = eA (segAt l i) ∨ p = eB (segAt l i))
  | 0, p => by simp [endsTo]
  | k + 1, p => by
    simp only [endsTo, List.mem_append, endsTo_mem l k p, List.mem_cons, List.not_mem_nil, or_false]
    constructor
    · rintro (⟨i, hi, h⟩ | h)
      · exact ⟨i, by omega, h⟩
      · exact ⟨k, by omega, h⟩
    · rintro ⟨i, hi, h⟩
      by_cases e : i = k
      · subst e; exact .inr h
      · exact .inl ⟨i, by omega, h⟩
theorem pairs_mem (C : List P2) (k : Nat) (x : S4) : x ∈ pairsTo C k ↔ ∃ i, i < k ∧ eA x = ptAt C i ∧ eB x = ptAt C (i + 1) := by
  unfold pairsTo
  rw [List.mem_map]
  simp only [List.mem_range]
  constructor
  · rintro ⟨i, hi, rfl⟩; exact ⟨i, hi, rfl, rfl⟩
  · rintro ⟨i, hi, h1, h2⟩
    refine ⟨i, hi, ?_⟩
    obtain ⟨a, b, c, d⟩ := x
    simp only [eA, eB, ptAt, Prod.mk.injEq] at h1 h2
    simp only [Prod.mk.injEq]
    exact ⟨h1.1.symm, h1.2.symm, h2.1.symm, h2.2.symm⟩
theorem parts_mem (l : List S4) (E : List P2) : ∀ k, ∀ x, x ∈ partsTo l E k ↔ ∃ i, i < k ∧ x ∈ piecesL E (q1 l i) (q2 l i) (q3 l i) (q4 l i)
  | 0, x => by simp [partsTo]
  | k + 1, x => by
    simp only [partsTo, List.mem_append, parts_mem l E k x]
    constructor
    · rintro (⟨i, hi, h⟩ | h)
      · exact ⟨i, by omega, h⟩
      · exact ⟨k, by omega, h⟩
    · rintro ⟨i, hi, h⟩
      by_cases e : i = k
      · subst e; exact .inr h
      · exact .inl ⟨i, by omega, h⟩

/-- a piece of a segment: two neighbouring cuts -/
structure Piece (E : List P2) (s x : S4) : Prop where
  lt : lexLt (eA x) (eB x)
  inA : eA x ∈ E ∧ onS (eA x) s
  inB : eB x ∈ E ∧ onS (eB x) s
  gap : ∀ p, p ∈ E → onS p s → ¬ (lexLt (eA x) p ∧ lexLt p (eB x))
theorem lex_lt {l : List P2} (h : l.Pairwise lexLt) {i j : Nat} (hj : j < l.length) (hij : i < j) : lexLt (ptAt l i) (ptAt l j) := by
  rw [ptAt_get _ _ (by omega), ptAt_get _ _ hj]
  exact List.pairwise_iff_getElem.1 h i j (by omega) hj hij
theorem piece_of {E : List P2} {s : S4} (hE : ∀ p, p ∈ E → valid p) (hs : okSeg s = true) (hA : eA s ∈ E) (hB : eB s ∈ E) {x : S4} : x ∈ piecesL E s.1 s.2.1 s.2.2.1 s.2.2.2 ↔ Piece E s x := by
  obtain ⟨h1, h2⟩ := cutsL_spec hE hs hA hB
  unfold piecesL
  rw [pairs_mem]
  generalize cutsL E s.1 s.2.1 s.2.2.1 s.2.2.2 = C at *
  constructor
  · rintro ⟨i, hi, e1, e2⟩
    refine ⟨by rw [e1, e2]; exact lex_lt h1 (by omega) (by omega), by rw [e1]; exact (h2 _).1 (ptAt_mem (by omega)), by rw [e2]; exact (h2 _).1 (ptAt_mem (by omega)), ?_⟩
    intro p hp ho ⟨g1, g2⟩
    obtain ⟨j, hj, he⟩ := mem_ptAt ((h2 p).2 ⟨hp, ho⟩)
    rw [e1, he] at g1
    rw [e2, he] at g2
    have asy : ∀ {a b : P2}, lexLt a b → ¬ lexLt b a := fun h h' => by unfold lexLt at *; omega
    rcases Nat.lt_trichotomy j i with h | h | h
    · exact asy g1 (lex_lt h1 (by omega) h)
    · subst h; exact asy g1 g1
    · by_cases e : j = i + 1
      · subst e; exact asy g2 g2
      · exact asy g2 (lex_lt h1 hj (by omega))
  · rintro ⟨g1, g2, g3, g4⟩
    obtain ⟨i, hi, ei⟩ := mem_ptAt ((h2 _).2 g2)
    obtain ⟨j, hj, ej⟩ := mem_ptAt ((h2 _).2 g3)
    have asy : ∀ {a b : P2}, lexLt a b → ¬ lexLt b a := fun h h' => by unfold lexLt at *; omega
    rw [ei, ej] at g1
    have hij : i < j := by
      rcases Nat.lt_trichotomy j i with h | h | h
      · exact absurd (lex_lt h1 hi h) (asy g1)
      · subst h; exact absurd g1 (asy g1)
      · exact h
    by_cases e : j = i + 1
    · subst e; exact ⟨i, by omega, ei, ej⟩
    · exfalso
      have m := (h2 _).1 (ptAt_mem (l := C) (i := i + 1) (by omega))
      refine g4 _ m.1 m.2 ⟨?_, ?_⟩
      · rw [ei]; exact lex_lt h1 (by omega) (by omega)
      · rw [ej]; exact lex_lt h1 hj (by omega)

/-! how pieces meet -/
section
variable {E : List P2} (hE : ∀ p, p ∈ E → valid p) {s t x y : S4} (hs : okSeg s = true) (ht : okSeg t = true)
include hE
theorem Piece.ok (P : Piece E s x) : okSeg x = true := by
  refine okSeg_iff.2 ⟨hE _ P.inA.1, hE _ P.inB.1, fun e => ?_⟩
  have := P.lt; rw [e] at this; unfold lexLt at this; omega
theorem Piece.kl (P : Piece E s x) : ky 1 (eA x) < ky 1 (eB x) := (ky_lt (hE _ P.inA.1) (hE _ P.inB.1)).1 P.lt
include hs
/-- a point of a piece is one of the segment -/
theorem Piece.sub (P : Piece E s x) {p : P2} (hp : valid p) (h : onS p x) : onS p s := by
  obtain ⟨v1, v2, hne⟩ := okSeg_iff.1 hs
  have k := ky_ne v1 v2 hne
  have kx := P.kl hE
  have a := P.inA.2
  have b := P.inB.2
  have id : (ky 1 (eB x) - ky 1 (eA x)) * c3 (eA s) (eB s) p = (ky 1 (eB x) - ky 1 p) * c3 (eA s) (eB s) (eA x) + (ky 1 p - ky 1 (eA x)) * c3 (eA s) (eB s) (eB x) + (ky 1 (eB s) - ky 1 (eA s)) * c3 (eA x) (eB x) p := by
    simp only [ky, c3]; grind
  rw [a.1, b.1, h.1] at id
  simp only [Int.mul_zero, Int.add_zero] at id
  refine ⟨(Int.mul_eq_zero.1 id).resolve_left (by omega), ?_⟩
  have h2 := h.2
  have a2 := a.2
  have b2 := b.2
  omega
omit hs
include ht
theorem Piece.end_of (P : Piece E t y) {p : P2} (hp : p ∈ E) (h : onS p y) : p = eA y ∨ p = eB y := by
  have v := hE p hp
  have g := P.gap p hp (P.sub hE ht v h)
  have k := P.kl hE
  rw [ky_lt (hE _ P.inA.1) v, ky_lt v (hE _ P.inB.1)] at g
  have h2 := h.2
  by_cases e : ky 1 p = ky 1 (eA y)
  · left; exact ky_inj v (hE _ P.inA.1) e
  · right; exact ky_inj v (hE _ P.inB.1) (by omega)
end
theorem S4_ext {x y : S4} (h1 : eA x = eA y) (h2 : eB x = eB y) : x = y := by
  obtain ⟨a, b, c, d⟩ := x
  obtain ⟨e, f, g, h⟩ := y
  simp only [eA, eB, Prod.mk.injEq] at h1 h2
  simp only [Prod.mk.injEq]; exact ⟨h1.1, h1.2, h2.1, h2.2⟩
def meetS (x y : S4) : Int := meetI x.1 x.2.1 x.2.2.1 x.2.2.2 y.1 y.2.1 y.2.2.1 y.2.2.2
theorem turnS (x : S4) (p : P2) : turnI x.1 x.2.1 x.2.2.1 x.2.2.2 p.1 p.2 = Int.sign (c3 (eA x) (eB x) p) := turn3 (eA x) (eB x) p
theorem meetS_comm {x y : S4} (h1 : okSeg x = true) (h2 : okSeg y = true) : meetS y x = meetS x y := meetI_comm h1 h2
theorem sign_mul_neg {a b : Int} (h : Int.sign a * Int.sign b < 0) : (a < 0 ∧ 0 < b) ∨ (0 < a ∧ b < 0) := by
  rcases Int.lt_trichotomy a 0 with ha | ha | ha
  · rw [Int.sign_eq_neg_one_of_neg ha] at h
    rcases Int.lt_trichotomy b 0 with hb | hb | hb
    · rw [Int.sign_eq_neg_one_of_neg hb] at h; omega
    · rw [hb] at h; simp at h
    · exact .inl ⟨ha, hb⟩
  · rw [ha] at h; simp at h
  · rw [Int.sign_eq_one_of_pos ha] at h
    rcases Int.lt_trichotomy b 0 with hb | hb | hb
    · exact .inr ⟨ha, hb⟩
    · rw [hb] at h; simp at h
    · rw [Int.sign_eq_one_of_pos hb] at h; omega
/-- the ends of a piece are on different sides of a line: then so are the ends of its segment -/
theorem sides {t y : S4} {u v : P2} (ht : okSeg t = true) (vy1 : valid (eA y)) (vy2 : valid (eB y)) (h1 : onS (eA y) t) (h2 : onS (eB y) t) (h : Int.sign (c3 u v (eA y)) * Int.sign (c3 u v (eB y)) < 0) : Int.sign (c3 u v (eA t)) * Int.sign (c3 u v (eB t)) < 0 := by
  obtain ⟨w1, w2, hne⟩ := okSeg_iff.1 ht
  have k := ky_ne w1 w2 hne
  have id : ∀ z : P2, onS z t → (ky 1 (eB t) - ky 1 (eA t)) * c3 u v z = (ky 1 (eB t) - ky 1 z) * c3 u v (eA t) + (ky 1 z - ky 1 (eA t)) * c3 u v (eB t) := by
    intro z hz
    have : (ky 1 (eB t) - ky 1 (eA t)) * c3 u v z = (ky 1 (eB t) - ky 1 z) * c3 u v (eA t) + (ky 1 z - ky 1 (eA t)) * c3 u v (eB t) + (ky 1 v - ky 1 u) * c3 (eA t) (eB t) z := by
      simp only [ky, c3]; grind
    rw [hz.1] at this
    simpa using this
  have i1 := id _ h1
  have i2 := id _ h2
  have b1 := h1.2
  have b2 := h2.2
  have pos : ∀ z : P2, onS z t → 0 ≤ c3 u v (eA t) → 0 ≤ c3 u v (eB t) → 0 ≤ c3 u v z := by
    intro z hz ha hb
    have i := id z hz
    have b := hz.2
    rcases Int.lt_or_gt_of_ne k with k' | k'
    · have m1 := Int.mul_nonneg (show 0 ≤ ky 1 (eB t) - ky 1 z by omega) ha
      have m2 := Int.mul_nonneg (show 0 ≤ ky 1 z - ky 1 (eA t) by omega) hb
      exact nn_of (show 0 < ky 1 (eB t) - ky 1 (eA t) by omega) (by omega)
    · have m1 := Int.mul_nonneg (show 0 ≤ -(ky 1 (eB t) - ky 1 z) by omega) ha
      have m2 := Int.mul_nonneg (show 0 ≤ -(ky 1 z - ky 1 (eA t)) by omega) hb
      rw [Int.neg_mul] at m1 m2
      refine nn_of (a := -(ky 1 (eB t) - ky 1 (eA t))) (by omega) ?_
      rw [Int.neg_mul]; omega
  have neg : ∀ z : P2, onS z t → c3 u v (eA t) ≤ 0 → c3 u v (eB t) ≤ 0 → c3 u v z ≤ 0 := by
    intro z hz ha hb
    have i := id z hz
    have b := hz.2
    rcases Int.lt_or_gt_of_ne k with k' | k'
    · have m1 := Int.mul_nonneg (show 0 ≤ ky 1 (eB t) - ky 1 z by omega) (show 0 ≤ - c3 u v (eA t) by omega)
      have m2 := Int.mul_nonneg (show 0 ≤ ky 1 z - ky 1 (eA t) by omega) (show 0 ≤ - c3 u v (eB t) by omega)
      rw [Int.mul_neg] at m1 m2
      have := nn_of (a := ky 1 (eB t) - ky 1 (eA t)) (b := - c3 u v z) (by omega) (by rw [Int.mul_neg]; omega)
      omega
    · have m1 := Int.mul_nonneg (show 0 ≤ -(ky 1 (eB t) - ky 1 z) by omega) (show 0 ≤ - c3 u v (eA t) by omega)
      have m2 := Int.mul_nonneg (show 0 ≤ -(ky 1 z - ky 1 (eA t)) by omega) (show 0 ≤ - c3 u v (eB t) by omega)
      rw [Int.neg_mul_neg] at m1 m2
      have := nn_of (a := -(ky 1 (eB t) - ky 1 (eA t))) (b := - c3 u v z) (by omega) (by rw [Int.neg_mul_neg]; omega)
      omega
  have hd := sign_mul_neg h
  rcases Int.lt_trichotomy (c3 u v (eA t)) 0 with ha | ha | ha
  · rcases Int.lt_or_le 0 (c3 u v (eB t)) with hb | hb
    · rw [Int.sign_eq_neg_one_of_neg ha, Int.sign_eq_one_of_pos hb]; decide
    · have := neg _ h1 (by omega) hb; have := neg _ h2 (by omega) hb; omega
  · rcases Int.lt_or_le 0 (c3 u v (eB t)) with hb | hb
    · have := pos _ h1 (by omega) (by omega); have := pos _ h2 (by omega) (by omega); omega
    · have := neg _ h1 (by omega) hb; have := neg _ h2 (by omega) hb; omega
  · rcases Int.lt_or_le (c3 u v (eB t)) 0 with hb | hb
    · rw [Int.sign_eq_one_of_pos ha, Int.sign_eq_neg_one_of_neg hb]; decide
    · have := pos _ h1 (by omega) (by omega); have := pos _ h2 (by omega) (by omega); omega
/-- the line of a piece is that of its segment -/
theorem line_sign {s x : S4} (hs : okSeg s = true) (h1 : onS (eA x) s) (h2 : onS (eB x) s) (p q : P2) (h : Int.sign (c3 (eA x) (eB x) p) * Int.sign (c3 (eA x) (eB x) q) < 0) : Int.sign (c3 (eA s) (eB s) p) * Int.sign (c3 (eA s) (eB s) q) < 0 := by
  obtain ⟨w1, w2, hne⟩ := okSeg_iff.1 hs
  have k := ky_ne w1 w2 hne
  have id : ∀ z : P2, (ky 1 (eB s) - ky 1 (eA s)) * c3 (eA x) (eB x) z = (ky 1 (eB x) - ky 1 (eA x)) * c3 (eA s) (eB s) z := by
    intro z
    have : (ky 1 (eB s) - ky 1 (eA s)) * c3 (eA x) (eB x) z = (ky 1 (eB x) - ky 1 (eA x)) * c3 (eA s) (eB s) z + (ky 1 z - ky 1 (eB x)) * c3 (eA s) (eB s) (eA x) + (ky 1 (eA x) - ky 1 z) * c3 (eA s) (eB s) (eB x) := by
      simp only [ky, c3]; grind
    rw [h1.1, h2.1] at this
    simpa using this
  have s1 := congrArg Int.sign (id p)
  have s2 := congrArg Int.sign (id q)
  rw [Int.sign_mul, Int.sign_mul] at s1 s2
  have hk : Int.sign (ky 1 (eB s) - ky 1 (eA s)) * Int.sign (ky 1 (eB s) - ky 1 (eA s)) = 1 := by
    rcases sign_ne (show ky 1 (eB s) - ky 1 (eA s) ≠ 0 by omega) with e | e <;> rw [e] <;> rfl
  have e1 : Int.sign (c3 (eA x) (eB x) p) * Int.sign (c3 (eA x) (eB x) q) = Int.sign (ky 1 (eB x) - ky 1 (eA x)) * Int.sign (ky 1 (eB x) - ky 1 (eA x)) * (Int.sign (c3 (eA s) (eB s) p) * Int.sign (c3 (eA s) (eB s) q)) := by
    calc _ = (Int.sign (ky 1 (eB s) - ky 1 (eA s)) * Int.sign (ky 1 (eB s) - ky 1 (eA s))) * (Int.sign (c3 (eA x) (eB x) p) * Int.sign (c3 (eA x) (eB x) q)) := by rw [hk, Int.one_mul]
      _ = (Int.sign (ky 1 (eB s) - ky 1 (eA s)) * Int.sign (c3 (eA x) (eB x) p)) * (Int.sign (ky 1 (eB s) - ky 1 (eA s)) * Int.sign (c3 (eA x) (eB x) q)) := by grind
      _ = _ := by rw [s1, s2]; grind
  rw [e1] at h
  generalize Int.sign (c3 (eA s) (eB s) p) * Int.sign (c3 (eA s) (eB s) q) = z at *
  have hw : Int.sign (ky 1 (eB x) - ky 1 (eA x)) = 0 ∨ Int.sign (ky 1 (eB x) - ky 1 (eA x)) = 1 ∨ Int.sign (ky 1 (eB x) - ky 1 (eA x)) = -1 := by
    by_cases e : ky 1 (eB x) - ky 1 (eA x) = 0
    · left; rw [e]; rfl
    · right; exact sign_ne e
  rcases hw with e | e | e <;> rw [e] at h <;> omega
/-- pieces meet in ends alone -/
theorem pieces_meet {E : List P2} (hE : ∀ p, p ∈ E → valid p) {s t x y : S4} (hs : okSeg s = true) (ht : okSeg t = true) (P : Piece E s x) (S : Piece E t y) (hne : x ≠ y) (hm : s = t ∨ meetS s t ≠ 3) : meetS x y = 0 ∨ meetS x y = 1 := by
  have ox := P.ok hE
  have oy := S.ok hE
  have dx := (okSeg_iff.1 ox).2.2
  have dy := (okSeg_iff.1 oy).2.2
  have dx' : ¬ (x.1 = x.2.2.1 ∧ x.2.1 = x.2.2.2) := fun ⟨u, v⟩ => dx (Prod.ext u v)
  have dy' : ¬ (y.1 = y.2.2.1 ∧ y.2.1 = y.2.2.2) := fun ⟨u, v⟩ => dy (Prod.ext u v)
  have key : ∀ p, p ∈ endsL x.1 x.2.1 x.2.2.1 x.2.2.2 y.1 y.2.1 y.2.2.1 y.2.2.2 → (p = eA x ∨ p = eB x) ∧ (p = eA y ∨ p = eB y) := by
    intro p hp
    obtain ⟨h1, h2⟩ := ends_sub dx' dy' p hp
    have hpE : p ∈ E := by
      rcases h1 with h | h | h | h
      · rw [h]; exact P.inA.1
      · rw [h]; exact P.inB.1
      · rw [h]; exact S.inA.1
      · rw [h]; exact S.inB.1
    unfold bothB at h2
    rw [Bool.and_eq_true] at h2
    exact ⟨P.end_of hE hs hpE ((onR_iff (hE _ hpE) ox).1 h2.1), S.end_of hE ht hpE ((onR_iff (hE _ hpE) oy).1 h2.2)⟩
  have nd : ∀ p q, (p = eA x ∨ p = eB x) ∧ (p = eA y ∨ p = eB y) → (q = eA x ∨ q = eB x) ∧ (q = eA y ∨ q = eB y) → p = q := by
    rintro p q ⟨a1, a2⟩ ⟨b1, b2⟩
    apply Classical.byContradiction
    intro hpq
    have lx := P.kl hE
    have ly := S.kl hE
    apply hne
    rcases a1 with a1 | a1 <;> rcases b1 with b1 | b1 <;> rcases a2 with a2 | a2 <;> rcases b2 with b2 | b2
    all_goals first
      | exact absurd (a1.trans b1.symm) hpq
      | exact absurd (a2.trans b2.symm) hpq
      | exact S4_ext (a1.symm.trans a2) (b1.symm.trans b2)
      | exact S4_ext (b1.symm.trans b2) (a1.symm.trans a2)
      | (exfalso; rw [← a1, ← b1] at lx; rw [← a2, ← b2] at ly; omega)
  have me : meetS x y = meetOf (endsL x.1 x.2.1 x.2.2.1 x.2.2.2 y.1 y.2.1 y.2.2.1 y.2.2.2) x.1 x.2.1 x.2.2.1 x.2.2.2 y.1 y.2.1 y.2.2.1 y.2.2.2 := (meet_eq ox oy).symm
  have nodup : ∀ (m : List P2) (o : List P2), o.Nodup → (m.foldl (endStep x.1 x.2.1 x.2.2.1 x.2.2.2 y.1 y.2.1 y.2.2.1 y.2.2.2) o).Nodup := by
    intro m
    induction m with
    | nil => intro o ho; exact ho
    | cons p m ih =>
      intro o ho
      rw [List.foldl_cons]
      apply ih
      unfold endStep
      split
      next hc =>
        rw [Bool.and_eq_true] at hc
        have hnm : p ∉ o := fun h => by have := hc.2; simp [h] at this
        rw [List.nodup_append]
        exact ⟨ho, by simp, fun a ha b hb e => by simp at hb; rw [hb] at e; rw [e] at ha; exact hnm ha⟩
      next => exact ho
  have nd1 : (endsL x.1 x.2.1 x.2.2.1 x.2.2.2 y.1 y.2.1 y.2.2.1 y.2.2.2).Nodup := nodup _ [] List.nodup_nil
  rw [me]
  cases hl : endsL x.1 x.2.1 x.2.2.1 x.2.2.2 y.1 y.2.1 y.2.2.1 y.2.2.2 with
  | nil =>
    simp only [meetOf]
    split
    next hc =>
      exfalso
      have c1 : Int.sign (c3 (eA x) (eB x) (eA y)) * Int.sign (c3 (eA x) (eB x) (eB y)) < 0 := by
        rw [← turnS, ← turnS]; exact hc.1
      have c2 : Int.sign (c3 (eA y) (eB y) (eA x)) * Int.sign (c3 (eA y) (eB y) (eB x)) < 0 := by
        rw [← turnS, ← turnS]; exact hc.2
      by_cases est : s = t
      · subst est
        rw [on3 hs P.inA.2 P.inB.2 S.inA.2] at c1
        simp at c1
      · have d1 := sides ht (hE _ S.inA.1) (hE _ S.inB.1) S.inA.2 S.inB.2 (line_sign hs P.inA.2 P.inB.2 _ _ c1)
        have d2 := sides hs (hE _ P.inA.1) (hE _ P.inB.1) P.inA.2 P.inB.2 (line_sign ht S.inA.2 S.inB.2 _ _ c2)
        rw [← turnS, ← turnS] at d1 d2
        refine (hm.resolve_left est) ?_
        have e1 : ¬ (turnI s.1 s.2.1 s.2.2.1 s.2.2.2 t.1 t.2.1 = 0 ∧ turnI s.1 s.2.1 s.2.2.1 s.2.2.2 t.2.2.1 t.2.2.2 = 0) := fun h => by
          have : turnI s.1 s.2.1 s.2.2.1 s.2.2.2 t.1 t.2.1 * turnI s.1 s.2.1 s.2.2.1 s.2.2.2 t.2.2.1 t.2.2.2 < 0 := d1
          rw [h.1] at this; simp at this
        have d1' : turnI s.1 s.2.1 s.2.2.1 s.2.2.2 t.1 t.2.1 * turnI s.1 s.2.1 s.2.2.1 s.2.2.2 t.2.2.1 t.2.2.2 < 0 := d1
        have d2' : turnI t.1 t.2.1 t.2.2.1 t.2.2.2 s.1 s.2.1 * turnI t.1 t.2.1 t.2.2.1 t.2.2.2 s.2.2.1 s.2.2.2 < 0 := d2
        unfold meetS meetI
        rw [if_neg e1, if_neg (by omega), if_neg (by omega), if_neg (by omega)]
    next => left; rfl
  | cons p m =>
    have kp := key p (by rw [hl]; simp)
    cases m with
    | nil => right; exact if_pos kp
    | cons q m =>
      exfalso
      have kq := key q (by rw [hl]; simp)
      have := nd p q kp kq
      rw [hl, List.nodup_cons] at nd1
      exact nd1.1 (by rw [this]; simp)
/-- two segments with two points in common overlap -/
theorem two_common {s t : S4} (hs : okSeg s = true) (ht : okSeg t = true) {p q : P2} (hp : valid p) (hq : valid q) (hne : p ≠ q) (h1 : onS p s) (h2 : onS q s) (h3 : onS p t) (h4 : onS q t) : meetS s t = 4 := by
  obtain ⟨v1, v2, hn1⟩ := okSeg_iff.1 hs
  obtain ⟨w1, w2, hn2⟩ := okSeg_iff.1 ht
  have k1 := ky_ne v1 v2 hn1
  have k2 := ky_ne w1 w2 hn2
  have k := ky_ne hp hq hne
  have id : ∀ z : P2, onS z t → c3 (eA s) (eB s) z = 0 := by
    intro z hz
    have this : (ky 1 q - ky 1 p) * c3 (eA s) (eB s) z = (ky 1 (eB s) - ky 1 (eA s)) * c3 p q z + (ky 1 q - ky 1 z) * c3 (eA s) (eB s) p + (ky 1 z - ky 1 p) * c3 (eA s) (eB s) q := by
      simp only [ky, c3]; grind
    rw [h1.1, h2.1, on3 ht h3 h4 hz] at this
    simp only [Int.mul_zero, Int.add_zero] at this
    exact (Int.mul_eq_zero.1 this).resolve_left (by omega)
  have t1 : turnI s.1 s.2.1 s.2.2.1 s.2.2.2 t.1 t.2.1 = 0 := by
    have := turnS s (eA t); rw [id _ (onS_A t)] at this; exact this
  have t2 : turnI s.1 s.2.1 s.2.2.1 s.2.2.2 t.2.2.1 t.2.2.2 = 0 := by
    have := turnS s (eB t); rw [id _ (onS_B t)] at this; exact this
  have b1 := h1.2; have b2 := h2.2; have b3 := h3.2; have b4 := h4.2
  unfold meetS meetI
  rw [if_pos ⟨t1, t2⟩]
  obtain ⟨a, b, c, d⟩ := s
  obtain ⟨e, f, g, h⟩ := t
  unfold valid eA eB at *
  simp only at v1 v2 w1 w2
  obtain ⟨_, u2, _, u4⟩ := f_bd 0 10000 a b c d (by omega) (by omega) (by omega) (by omega)
  obtain ⟨_, u6, _, u8⟩ := f_bd 0 10000 e f g h (by omega) (by omega) (by omega) (by omega)
  rw [onLine_key u2 u4 u6 u8, (f_key v1.2 v2.2).1, (f_key v1.2 v2.2).2, (f_key w1.2 w2.2).1, (f_key w1.2 w2.2).2, if_pos]
  simp only [ky] at *
  unfold kap
  omega

/-! lengths -/
def dI (p q : P2) : Int := max (p.1 - q.1) (q.1 - p.1) + max (p.2 - q.2) (q.2 - p.2)
def lenS (s : S4) : Int := dI (eA s) (eB s)
theorem dI_swap (p q : P2) : dI p q = dI q p := by unfold dI; omega
theorem dI_add {p q r : P2} (hp : valid p) (hq : valid q) (hr : valid r) (h0 : c3 p r q = 0) (h1 : ky 1 p ≤ ky 1 q) (h2 : ky 1 q ≤ ky 1 r) : dI p q + dI q r = dI p r := by
  obtain ⟨a, b⟩ := p; obtain ⟨x, y⟩ := q; obtain ⟨c, d⟩ := r
  unfold valid at *
  simp only [c3] at h0
  simp only [ky] at h1 h2
  simp only at hp hq hr
  have := (on_asc (a := a) (b := b) (c := c) (d := d) (p := x) (q := y) (by omega) (by omega)).1 (by omega)
  simp only [dI]; omega
def sumF : List S4 → Int
  | [] => 0
  | x :: l => lenS x + sumF l
theorem sumF_app (a b : List S4) : sumF (a ++ b) = sumF a + sumF b := by
  induction a with
  | nil => simp [sumF]
  | cons x a ih => simp only [List.cons_append, sumF, ih]; omega
theorem sumF_perm {a b : List S4} (h : a.Perm b) : sumF a = sumF b := by
  induction h with
  | nil => rfl
  | cons x _ ih => simp only [sumF, ih]
  | swap x y l => simp only [sumF]; omega
  | trans _ _ ih1 ih2 => rw [ih1, ih2]
theorem sum_pairs {s : S4} (hs : okSeg s = true) {C : List P2} (hC : ∀ p, p ∈ C → valid p ∧ onS p s) (hl : C.Pairwise lexLt) : ∀ k, k < C.length → sumF (pairsTo C k) = dI (ptAt C 0) (ptAt C k)
  | 0, _ => by simp [pairsTo, sumF, dI]
  | k + 1, h => by
    have ih := sum_pairs hs hC hl k (by omega)
    have e : pairsTo C (k + 1) = pairsTo C k ++ [(px C k, py C k, px C (k + 1), py C (k + 1))] := by simp [pairsTo, List.range_succ]
    rw [e, sumF_app, ih]
    have m0 := hC _ (ptAt_mem (l := C) (i := 0) (by omega))
    have m1 := hC _ (ptAt_mem (l := C) (i := k) (by omega))
    have m2 := hC _ (ptAt_mem (l := C) (i := k + 1) h)
    have l2 := (ky_lt m1.1 m2.1).1 (lex_lt hl h (by omega))
    have l1 : ky 1 (ptAt C 0) ≤ ky 1 (ptAt C k) := by
      by_cases e : k = 0
      · subst e; exact Int.le_refl _
      · exact Int.le_of_lt ((ky_lt m0.1 m1.1).1 (lex_lt hl (by omega) (by omega)))
    have := dI_add m0.1 m1.1 m2.1 (on3 hs m0.2 m2.2 m1.2) l1 (by omega)
    simp only [sumF, lenS, eA, eB]
    show dI (ptAt C 0) (ptAt C k) + (dI (ptAt C k) (ptAt C (k + 1)) + 0) = _
    omega
/-- the cuts begin and end with the ends -/
theorem cuts_ends {E : List P2} {s : S4} (hE : ∀ p, p ∈ E → valid p) (hs : okSeg s = true) (hA : eA s ∈ E) (hB : eB s ∈ E) :
    2 ≤ (cutsL E s.1 s.2.1 s.2.2.1 s.2.2.2).length ∧ dI (ptAt (cutsL E s.1 s.2.1 s.2.2.1 s.2.2.2) 0) (ptAt (cutsL E s.1 s.2.1 s.2.2.1 s.2.2.2) ((cutsL E s.1 s.2.1 s.2.2.1 s.2.2.2).length - 1)) = lenS s := by
  obtain ⟨h1, h2⟩ := cutsL_spec hE hs hA hB
  generalize cutsL E s.1 s.2.1 s.2.2.1 s.2.2.2 = C at *
  obtain ⟨i, hi, ei⟩ := mem_ptAt ((h2 _).2 ⟨hA, onS_A s⟩)
  obtain ⟨j, hj, ej⟩ := mem_ptAt ((h2 _).2 ⟨hB, onS_B s⟩)
  have hne := (okSeg_iff.1 hs).2.2
  have hij : i ≠ j := fun e => hne (by rw [ei, ej, e])
  have two : 2 ≤ C.length := by omega
  refine ⟨two, ?_⟩
  have val : ∀ k, k < C.length → valid (ptAt C k) ∧ onS (ptAt C k) s := fun k hk => by
    have := (h2 _).1 (ptAt_mem hk)
    exact ⟨hE _ this.1, this.2⟩
  have mono : ∀ a b, a < b → b < C.length → ky 1 (ptAt C a) < ky 1 (ptAt C b) := fun a b hab hb => (ky_lt (val a (by omega)).1 (val b hb).1).1 (lex_lt h1 hb hab)
  have b0 := (val 0 (by omega)).2.2
  have bn := (val (C.length - 1) (by omega)).2.2
  rw [ei, ej] at b0 bn
  unfold lenS
  rw [ei, ej]
  by_cases hlt : i < j
  · have i0 : i = 0 := by
      apply Classical.byContradiction; intro h
      have := mono 0 i (by omega) hi
      have := mono i j hlt hj
      omega
    have jn : j = C.length - 1 := by
      apply Classical.byContradiction; intro h
      have := mono j (C.length - 1) (by omega) (by omega)
      have := mono i j hlt hj
      omega
    rw [i0, jn]
  · have i0 : j = 0 := by
      apply Classical.byContradiction; intro h
      have := mono 0 j (by omega) hj
      have := mono j i (by omega) hi
      omega
    have jn : i = C.length - 1 := by
      apply Classical.byContradiction; intro h
      have := mono i (C.length - 1) (by omega) (by omega)
      have := mono j i (by omega) hi
      omega
    rw [i0, jn, dI_swap]

/-! what Split returns -/
theorem sortS_sorted (l : List S4) : (sortS l).Pairwise fun x y => ¬ lessS y x = true := by
  unfold sortS
  rw [ltOf_cfS_eq]
  have := List.pairwise_mergeSort (le := fun x y => !lessS y x) (fun a b c h1 h2 => by simp [lessS] at *; omega) (fun a b => by simp [lessS]; omega) l
  refine this.imp fun {a b} h => ?_
  simpa using h
theorem lessS_tot {x y : S4} (h1 : ¬ lessS x y = true) (h2 : ¬ lessS y x = true) : x = y := by
  simp only [lessS, decide_eq_true_eq] at h1 h2
  exact Prod.ext (by omega) (Prod.ext (by omega) (Prod.ext (by omega) (by omega)))
theorem lessS_irr (x : S4) : ¬ lessS x x = true := by simp [lessS]
theorem segAt_get (l : List S4) (i : Nat) (h : i < l.length) : segAt l i = l[i] := by simp [segAt, q1, q2, q3, q4, List.getD_eq_getElem?_getD, h]
theorem nodup_idx {s : List S4} (hn : s.Nodup) {i j : Nat} (hi : i < s.length) (hj : j < s.length) (e : s[i] = s[j]) : i = j := by
  rw [List.nodup_iff_pairwise_ne, List.pairwise_iff_getElem] at hn
  rcases Nat.lt_trichotomy i j with h | h | h
  · exact absurd e (hn i j hi hj h)
  · exact h
  · exact absurd e.symm (hn j i hj hi h)
theorem dd_all {s : List S4} (hs : s.Pairwise fun x y => ¬ lessS y x = true) (hn : s.Nodup) : ∀ k, k ≤ s.length → ddS s k = s.take k
  | 0, _ => by simp [ddS]
  | k + 1, h => by
    have e : s.take (k + 1) = s.take k ++ [segAt s k] := by rw [List.take_succ_eq_append_getElem (by omega), segAt_get]
    simp only [ddS]
    rw [if_pos, dd_all hs hn k (by omega), e]
    · rfl
    · by_cases h0 : k = 0
      · exact .inl h0
      · right
        rw [Bool.eq_false_iff]
        intro hs'
        have : segAt s k = segAt s (k - 1) := by
          simp only [sameS, Bool.and_eq_true, beq_iff_eq] at hs'
          simp only [segAt, hs'.1.1.1, hs'.1.1.2, hs'.1.2, hs'.2]
        rw [segAt_get s k (by omega), segAt_get s (k - 1) (by omega)] at this
        have := nodup_idx hn (by omega) (by omega) this
        omega
section
variable {l : List S4} (hok : okSegs l = true) (hf : RowsFree l l.length l.length)
include hok
theorem seg_ok {k : Nat} (hk : k < l.length) : okSeg (segAt l k) = true := okSegs_at l k hk hok
theorem ends_valid : ∀ p, p ∈ endsTo l l.length → valid p := by
  intro p hp
  obtain ⟨i, hi, h⟩ := (endsTo_mem l l.length p).1 hp
  have := okSeg_iff.1 (seg_ok hok hi)
  rcases h with h | h <;> rw [h]
  · exact this.1
  · exact this.2.1
theorem ends_A {k : Nat} (hk : k < l.length) : eA (segAt l k) ∈ endsTo l l.length := (endsTo_mem l l.length _).2 ⟨k, hk, .inl rfl⟩
theorem ends_B {k : Nat} (hk : k < l.length) : eB (segAt l k) ∈ endsTo l l.length := (endsTo_mem l l.length _).2 ⟨k, hk, .inr rfl⟩
theorem part_iff {k : Nat} (hk : k < l.length) {x : S4} : x ∈ piecesL (endsTo l l.length) (q1 l k) (q2 l k) (q3 l k) (q4 l k) ↔ Piece (endsTo l l.length) (segAt l k) x :=
  piece_of (s := segAt l k) (ends_valid hok) (seg_ok hok hk) (ends_A hok hk) (ends_B hok hk)
theorem pieces_pos {k : Nat} (hk : k < l.length) : 0 < (piecesL (endsTo l l.length) (q1 l k) (q2 l k) (q3 l k) (q4 l k)).length := by
  have := (cuts_ends (s := segAt l k) (ends_valid hok) (seg_ok hok hk) (ends_A hok hk) (ends_B hok hk)).1
  show 0 < (pairsTo (cutsL (endsTo l l.length) (q1 l k) (q2 l k) (q3 l k) (q4 l k)) ((cutsL (endsTo l l.length) (q1 l k) (q2 l k) (q3 l k) (q4 l k)).length - 1)).length
  have e : (pairsTo (cutsL (endsTo l l.length) (q1 l k) (q2 l k) (q3 l k) (q4 l k)) ((cutsL (endsTo l l.length) (q1 l k) (q2 l k) (q3 l k) (q4 l k)).length - 1)).length = (cutsL (endsTo l l.length) (q1 l k) (q2 l k) (q3 l k) (q4 l k)).length - 1 := by simp [pairsTo]
  rw [e]
  have : 2 ≤ (cutsL (endsTo l l.length) (q1 l k) (q2 l k) (q3 l k) (q4 l k)).length := this
  omega
theorem sum_part {k : Nat} (hk : k < l.length) : sumF (piecesL (endsTo l l.length) (q1 l k) (q2 l k) (q3 l k) (q4 l k)) = lenS (segAt l k) := by
  have hE := ends_valid hok
  have hs := seg_ok hok hk
  obtain ⟨h1, h2⟩ := cutsL_spec hE hs (ends_A hok hk) (ends_B hok hk)
  obtain ⟨g1, g2⟩ := cuts_ends hE hs (ends_A hok hk) (ends_B hok hk)
  rw [← g2]
  exact sum_pairs hs (fun p hp => by have := (h2 p).1 hp; exact ⟨hE _ this.1, this.2⟩) h1 _ (Nat.sub_lt (Nat.lt_of_lt_of_le (by decide : 0 < 2) g1) (by decide))
theorem part_nodup {k : Nat} (hk : k < l.length) : (piecesL (endsTo l l.length) (q1 l k) (q2 l k) (q3 l k) (q4 l k)).Nodup := by
  have hE := ends_valid hok
  have hs := seg_ok hok hk
  obtain ⟨h1, h2⟩ := cutsL_spec hE hs (ends_A hok hk) (ends_B hok hk)
  unfold piecesL pairsTo
  have h1' : (cutsL (endsTo l l.length) (q1 l k) (q2 l k) (q3 l k) (q4 l k)).Pairwise lexLt := h1
  generalize cutsL (endsTo l l.length) (q1 l k) (q2 l k) (q3 l k) (q4 l k) = C at *
  rw [List.nodup_iff_pairwise_ne, List.pairwise_map, List.pairwise_iff_getElem]
  intro i j hi hj hij e
  have hj' : j < C.length - 1 := by simpa using hj
  simp only [List.getElem_range] at e
  simp only [Prod.mk.injEq] at e
  have := lex_lt h1' (i := i) (j := j) (by omega) hij
  unfold lexLt ptAt at this
  simp only at this
  omega
include hf
theorem free_meet {k m : Nat} (hk : k < l.length) (hm : m < l.length) (h : k ≠ m) : meetS (segAt l k) (segAt l m) ≠ 3 ∧ meetS (segAt l k) (segAt l m) ≠ 4 := by
  have key : ∀ {k m : Nat}, k < m → m < l.length → meetS (segAt l k) (segAt l m) ≠ 3 ∧ meetS (segAt l k) (segAt l m) ≠ 4 := fun {k m} h hm => by
    have := hf k (by omega) m h hm
    unfold crB at this
    rw [Bool.or_eq_false_iff] at this
    simp only [beq_eq_false_iff_ne] at this
    exact this
  rcases Nat.lt_or_gt_of_ne h with h' | h'
  · exact key h' hm
  · have := key h' hk
    rw [← meetS_comm (seg_ok hok hm) (seg_ok hok hk)] at this
    exact this
theorem parts_nodup : ∀ k, k ≤ l.length → (partsTo l (endsTo l l.length) k).Nodup
  | 0, _ => by simp [partsTo]
  | k + 1, h => by
    have hE := ends_valid hok
    simp only [partsTo]
    rw [List.nodup_append]
    refine ⟨parts_nodup k (by omega), part_nodup hok (by omega), fun x hx y hy e => ?_⟩
    subst e
    obtain ⟨i, hi, hxi⟩ := (parts_mem l _ k x).1 hx
    have P := (part_iff hok (show i < l.length by omega)).1 hxi
    have S := (part_iff hok (show k < l.length by omega)).1 hy
    have ox := okSeg_iff.1 (P.ok hE)
    exact (free_meet hok hf (show i < l.length by omega) (show k < l.length by omega) (by omega)).2 (two_common (seg_ok hok (by omega)) (seg_ok hok (by omega)) ox.1 ox.2.1 ox.2.2 P.inA.2 P.inB.2 S.inA.2 S.inB.2)
theorem split_eq : splitL l = sortS (partsTo l (endsTo l l.length) l.length) := by
  have hp : (sortS (partsTo l (endsTo l l.length) l.length)).Perm (partsTo l (endsTo l l.length) l.length) := List.mergeSort_perm _ _
  have hn := hp.nodup_iff.2 (parts_nodup hok hf l.length (Nat.le_refl _))
  have hl : (sortS (partsTo l (endsTo l l.length) l.length)).length = (partsTo l (endsTo l l.length) l.length).length := hp.length_eq
  unfold splitL
  rw [dd_all (sortS_sorted _) hn _ (by omega), ← hl, List.take_length]
theorem split_mem (x : S4) : x ∈ splitL l ↔ ∃ k, k < l.length ∧ Piece (endsTo l l.length) (segAt l k) x := by
  rw [split_eq hok hf]
  have hp : (sortS (partsTo l (endsTo l l.length) l.length)).Perm (partsTo l (endsTo l l.length) l.length) := List.mergeSort_perm _ _
  rw [hp.mem_iff, parts_mem]
  constructor
  · rintro ⟨k, hk, h⟩; exact ⟨k, hk, (part_iff hok hk).1 h⟩
  · rintro ⟨k, hk, h⟩; exact ⟨k, hk, (part_iff hok hk).2 h⟩
theorem split_nodup : (splitL l).Nodup := by
  rw [split_eq hok hf]
  have hp : (sortS (partsTo l (endsTo l l.length) l.length)).Perm (partsTo l (endsTo l l.length) l.length) := List.mergeSort_perm _ _
  exact hp.nodup_iff.2 (parts_nodup hok hf l.length (Nat.le_refl _))
theorem split_lt : (splitL l).Pairwise fun x y => lessS x y = true := by
  have h1 := split_nodup hok hf
  have h2 : (splitL l).Pairwise fun x y => ¬ lessS y x = true := by rw [split_eq hok hf]; exact sortS_sorted _
  rw [List.nodup_iff_pairwise_ne] at h1
  exact (h1.and h2).imp fun ⟨a, b⟩ => Classical.byContradiction fun h => a (lessS_tot h b)
/-- pieces meet in ends alone -/
theorem split_meet {i j : Nat} (hi : i < (splitL l).length) (hj : j < (splitL l).length) (h : i ≠ j) : meetS (segAt (splitL l) i) (segAt (splitL l) j) = 0 ∨ meetS (segAt (splitL l) i) (segAt (splitL l) j) = 1 := by
  have hE := ends_valid hok
  have hne : segAt (splitL l) i ≠ segAt (splitL l) j := fun e => by
    rw [segAt_get _ _ hi, segAt_get _ _ hj] at e
    exact h (nodup_idx (split_nodup hok hf) hi hj e)
  obtain ⟨k, hk, P⟩ := (split_mem hok hf _).1 (by rw [segAt_get _ _ hi]; exact List.getElem_mem hi : segAt (splitL l) i ∈ splitL l)
  obtain ⟨m, hm, S⟩ := (split_mem hok hf _).1 (by rw [segAt_get _ _ hj]; exact List.getElem_mem hj : segAt (splitL l) j ∈ splitL l)
  refine pieces_meet hE (seg_ok hok hk) (seg_ok hok hm) P S hne ?_
  by_cases e : k = m
  · left; rw [e]
  · right; exact (free_meet hok hf hk hm e).1
theorem split_okSeg {i : Nat} (hi : i < (splitL l).length) : okSeg (segAt (splitL l) i) = true := by
  obtain ⟨k, hk, P⟩ := (split_mem hok hf _).1 (by rw [segAt_get _ _ hi]; exact List.getElem_mem hi : segAt (splitL l) i ∈ splitL l)
  exact P.ok (ends_valid hok)
/-- the pieces are as long as the segments -/
theorem split_sum : sumF (splitL l) = sumF l := by
  rw [split_eq hok hf, sumF_perm (show (sortS (partsTo l (endsTo l l.length) l.length)).Perm (partsTo l (endsTo l l.length) l.length) from List.mergeSort_perm _ _)]
  have gen : ∀ k, k ≤ l.length → sumF (partsTo l (endsTo l l.length) k) = sumF (l.take k) := by
    intro k
    induction k with
    | zero => intro _; simp [partsTo, sumF]
    | succ k ih =>
      intro h
      simp only [partsTo]
      rw [sumF_app, ih (by omega), sum_part hok (by omega), List.take_succ_eq_append_getElem (by omega), sumF_app, segAt_get l k (by omega)]
      simp [sumF]
  rw [gen _ (Nat.le_refl _), List.take_length]
/-- each end of a segment is one of a piece -/
theorem split_end {k : Nat} (hk : k < l.length) {p : P2} (hp : p = eA (segAt l k) ∨ p = eB (segAt l k)) : ∃ i, i < (splitL l).length ∧ (p = eA (segAt (splitL l) i) ∨ p = eB (segAt (splitL l) i)) := by
  have hE := ends_valid hok
  obtain ⟨h1, h2⟩ := cutsL_spec hE (seg_ok hok hk) (ends_A hok hk) (ends_B hok hk)
  obtain ⟨g1, _⟩ := cuts_ends hE (seg_ok hok hk) (ends_A hok hk) (ends_B hok hk)
  have hc : p ∈ cutsL (endsTo l l.length) (segAt l k).1 (segAt l k).2.1 (segAt l k).2.2.1 (segAt l k).2.2.2 := by
    rw [h2]
    rcases hp with h | h <;> rw [h]
    · exact ⟨ends_A hok hk, onS_A _⟩
    · exact ⟨ends_B hok hk, onS_B _⟩
  obtain ⟨j, hj, ej⟩ := mem_ptAt hc
  have get : ∀ x : S4, x ∈ piecesL (endsTo l l.length) (q1 l k) (q2 l k) (q3 l k) (q4 l k) → ∃ i, i < (splitL l).length ∧ segAt (splitL l) i = x := by
    intro x hx
    have hm : x ∈ splitL l := (split_mem hok hf x).2 ⟨k, hk, (part_iff hok hk).1 hx⟩
    obtain ⟨i, hi, he⟩ := List.getElem_of_mem hm
    exact ⟨i, hi, by rw [segAt_get _ _ hi, he]⟩
  have pm : ∀ i, i + 1 < (cutsL (endsTo l l.length) (segAt l k).1 (segAt l k).2.1 (segAt l k).2.2.1 (segAt l k).2.2.2).length → ∃ x : S4, x ∈ piecesL (endsTo l l.length) (q1 l k) (q2 l k) (q3 l k) (q4 l k) ∧ eA x = ptAt (cutsL (endsTo l l.length) (segAt l k).1 (segAt l k).2.1 (segAt l k).2.2.1 (segAt l k).2.2.2) i ∧ eB x = ptAt (cutsL (endsTo l l.length) (segAt l k).1 (segAt l k).2.1 (segAt l k).2.2.1 (segAt l k).2.2.2) (i + 1) := by
    intro i hi
    refine ⟨(px _ i, py _ i, px _ (i + 1), py _ (i + 1)), (pairs_mem _ _ _).2 ⟨i, ?_, rfl, rfl⟩, rfl, rfl⟩
    show i < (cutsL (endsTo l l.length) (segAt l k).1 (segAt l k).2.1 (segAt l k).2.2.1 (segAt l k).2.2.2).length - 1
    omega
  by_cases e : j + 1 < (cutsL (endsTo l l.length) (segAt l k).1 (segAt l k).2.1 (segAt l k).2.2.1 (segAt l k).2.2.2).length
  · obtain ⟨x, hx, x1, x2⟩ := pm j e
    obtain ⟨i, hi, ex⟩ := get x hx
    exact ⟨i, hi, .inl (by rw [ex, x1, ej])⟩
  · obtain ⟨x, hx, x1, x2⟩ := pm (j - 1) (by omega)
    obtain ⟨i, hi, ex⟩ := get x hx
    exact ⟨i, hi, .inr (by rw [ex, x2, ej]; congr 1; omega)⟩
end
/-! the reference's way along a segment -/
/-- a point inside of a segment, as the reference tells it -/
def insR (p a b : P2) : Bool := onR p.1 p.2 a.1 a.2 b.1 b.2 && !(p == a) && !(p == b)
def nextStep (a b : P2) (nx p : P2) : P2 := if insR p a b && lessP p nx then p else nx
/-- the next end behind a -/
def nextP (E : List P2) (a b : P2) (k : Nat) : P2 := (E.take k).foldl (nextStep a b) b
theorem lessP_iff (p q : P2) : lessP p q = true ↔ lexLt p q := by simp [lessP, lexLt]
theorem next_fold (a b : P2) : ∀ (m : List P2) (o : P2), (m.foldl (nextStep a b) o = o ∨ (m.foldl (nextStep a b) o ∈ m ∧ insR (m.foldl (nextStep a b) o) a b = true)) ∧ ¬ lexLt o (m.foldl (nextStep a b) o) ∧ ∀ p, p ∈ m → insR p a b = true → ¬ lexLt p (m.foldl (nextStep a b) o)
  | [], o => ⟨.inl rfl, by simp [lexLt], by simp⟩
  | q :: m, o => by
    obtain ⟨i1, i2, i3⟩ := next_fold a b m (nextStep a b o q)
    rw [List.foldl_cons]
    have tr : ∀ {x y z : P2}, ¬ lexLt x y → ¬ lexLt y z → ¬ lexLt x z := fun h1 h2 => by unfold lexLt at *; omega
    have hs : (nextStep a b o q = o ∨ (nextStep a b o q = q ∧ insR q a b = true)) ∧ ¬ lexLt o (nextStep a b o q) ∧ (insR q a b = true → ¬ lexLt q (nextStep a b o q)) := by
      unfold nextStep
      cases h1 : insR q a b
      · simp [lexLt]
      · cases h2 : lessP q o
        · have : ¬ lexLt q o := fun h => by rw [← lessP_iff, h2] at h; cases h
          simp only [Bool.true_and, Bool.false_eq_true, if_false]
          exact ⟨.inl trivial, by simp [lexLt], fun _ => this⟩
        · have h3 := (lessP_iff q o).1 h2
          simp only [Bool.true_and, if_true]
          exact ⟨.inr ⟨trivial, trivial⟩, by unfold lexLt at *; omega, fun _ => by simp [lexLt]⟩
    refine ⟨?_, tr hs.2.1 i2, ?_⟩
    · rcases i1 with h | ⟨h1, h2⟩
      · rw [h]
        rcases hs.1 with h' | ⟨h', h''⟩
        · left; exact h'
        · right; rw [h']; exact ⟨by simp, h''⟩
      · right; exact ⟨by simp [h1], h2⟩
    · intro p hp hi
      rw [List.mem_cons] at hp
      rcases hp with rfl | hp
      · exact tr (hs.2.2 hi) i2
      · exact i3 p hp hi
/-- the points of a part of a segment -/
theorem sub_iff {s : S4} (hs : okSeg s = true) {a b p : P2} (va : valid a) (vb : valid b) (ha : onS a s) (hb : onS b s) (hab : ky 1 a < ky 1 b) : onS p (a.1, a.2, b.1, b.2) ↔ (onS p s ∧ ky 1 a ≤ ky 1 p ∧ ky 1 p ≤ ky 1 b) := by
  have e1 : eA (a.1, a.2, b.1, b.2) = a := rfl
  have e2 : eB (a.1, a.2, b.1, b.2) = b := rfl
  obtain ⟨v1, v2, hne⟩ := okSeg_iff.1 hs
  have k := ky_ne v1 v2 hne
  constructor
  · rintro ⟨h1, h2⟩
    rw [e1, e2] at h1 h2
    have id : (ky 1 b - ky 1 a) * c3 (eA s) (eB s) p = (ky 1 b - ky 1 p) * c3 (eA s) (eB s) a + (ky 1 p - ky 1 a) * c3 (eA s) (eB s) b + (ky 1 (eB s) - ky 1 (eA s)) * c3 a b p := by
      simp only [ky, c3]; grind
    rw [ha.1, hb.1, h1] at id
    simp only [Int.mul_zero, Int.add_zero] at id
    have ha2 := ha.2
    have hb2 := hb.2
    exact ⟨⟨(Int.mul_eq_zero.1 id).resolve_left (by omega), by omega⟩, by omega, by omega⟩
  · rintro ⟨h1, h2, h3⟩
    refine ⟨?_, ?_⟩
    · rw [e1, e2]; exact on3 hs ha hb h1
    · rw [e1, e2]; left; exact ⟨h2, h3⟩
/-- the way goes from cut to cut -/
theorem next_cut {E : List P2} {s : S4} (hE : ∀ p, p ∈ E → valid p) (hs : okSeg s = true) {C : List P2} (hl : C.Pairwise lexLt) (hm : ∀ p, p ∈ C ↔ (p ∈ E ∧ onS p s)) {i : Nat} (hi : i + 1 < C.length) :
    nextP E (ptAt C i) (ptAt C (C.length - 1)) E.length = ptAt C (i + 1) := by
  have val : ∀ k, k < C.length → valid (ptAt C k) ∧ onS (ptAt C k) s := fun k hk => by
    have := (hm _).1 (ptAt_mem hk)
    exact ⟨hE _ this.1, this.2⟩
  have mono : ∀ a b, a < b → b < C.length → ky 1 (ptAt C a) < ky 1 (ptAt C b) := fun a b hab hb => (ky_lt (val a (by omega)).1 (val b hb).1).1 (lex_lt hl hb hab)
  have va := val i (by omega)
  have vb := val (C.length - 1) (by omega)
  have hab := mono i (C.length - 1) (by omega) (by omega)
  have hos : okSeg ((ptAt C i).1, (ptAt C i).2, (ptAt C (C.length - 1)).1, (ptAt C (C.length - 1)).2) = true := okSeg_iff.2 ⟨va.1, vb.1, fun e => by
    have e' : ptAt C i = ptAt C (C.length - 1) := e
    rw [e'] at hab; omega⟩
  have ins : ∀ p, p ∈ E → (insR p (ptAt C i) (ptAt C (C.length - 1)) = true ↔ ∃ j, i < j ∧ j < C.length - 1 ∧ p = ptAt C j) := by
    intro p hp
    unfold insR
    have h1 := onR_iff (hE p hp) hos
    rw [sub_iff hs va.1 vb.1 va.2 vb.2 hab] at h1
    simp only at h1
    simp only [Bool.and_eq_true, Bool.not_eq_true', beq_eq_false_iff_ne]
    rw [h1]
    constructor
    · rintro ⟨⟨⟨g1, g2, g3⟩, g4⟩, g5⟩
      obtain ⟨j, hj, e⟩ := mem_ptAt ((hm p).2 ⟨hp, g1⟩)
      refine ⟨j, ?_, ?_, e⟩
      · apply Classical.byContradiction; intro hh
        by_cases e2 : j = i
        · exact g4 (by rw [e, e2])
        · have := mono j i (by omega) (by omega); rw [e] at g2; omega
      · apply Classical.byContradiction; intro hh
        exact g5 (by rw [e]; congr 1; omega)
    · rintro ⟨j, hj1, hj2, rfl⟩
      have m1 := mono i j hj1 (by omega)
      have m2 := mono j (C.length - 1) hj2 (by omega)
      exact ⟨⟨⟨(val j (by omega)).2, by omega, by omega⟩, fun e => by rw [e] at m1; omega⟩, fun e => by rw [e] at m2; omega⟩
  obtain ⟨f1, f2, f3⟩ := next_fold (ptAt C i) (ptAt C (C.length - 1)) E (ptAt C (C.length - 1))
  unfold nextP
  rw [List.take_length]
  generalize hN : E.foldl (nextStep (ptAt C i) (ptAt C (C.length - 1))) (ptAt C (C.length - 1)) = N at *
  have form : ∃ j, i < j ∧ j < C.length ∧ N = ptAt C j := by
    rcases f1 with h | ⟨h1, h2⟩
    · exact ⟨C.length - 1, by omega, by omega, h⟩
    · obtain ⟨j, a, b, c⟩ := (ins N h1).1 h2
      exact ⟨j, a, by omega, c⟩
  obtain ⟨j, hj1, hj2, hj3⟩ := form
  by_cases e : j = i + 1
  · rw [hj3, e]
  · exfalso
    have hlt := lex_lt hl hj2 (show i + 1 < j by omega)
    have hE1 : ptAt C (i + 1) ∈ E := ((hm _).1 (ptAt_mem hi)).1
    have := f3 _ hE1 ((ins _ hE1).2 ⟨i + 1, by omega, by omega, rfl⟩)
    rw [hj3] at this
    exact this hlt

/-! the ascending list that is filled -/
def atTo (l : List S4) (s : S4) : Nat := (l.takeWhile fun x => lessS x s).length
def insS (l : List S4) (s : S4) : List S4 := if atTo l s < l.length ∧ segAt l (atTo l s) = s then l else l.take (atTo l s) ++ [s] ++ l.drop (atTo l s)
theorem lessS_tr {x y z : S4} (h1 : lessS x y = true) (h2 : lessS y z = true) : lessS x z = true := by
  simp only [lessS, decide_eq_true_eq] at *; omega
theorem atTo_le (l : List S4) (s : S4) : atTo l s ≤ l.length := by unfold atTo; exact (List.takeWhile_sublist _).length_le
theorem atTo_take (l : List S4) (s : S4) : l.take (atTo l s) = l.takeWhile fun x => lessS x s := by
  unfold atTo
  induction l with
  | nil => rfl
  | cons x l ih =>
    rw [List.takeWhile_cons]
    split
    · rw [List.length_cons, List.take_succ_cons, ih]
    · rfl
theorem atTo_drop (l : List S4) (s : S4) : l.drop (atTo l s) = l.dropWhile fun x => lessS x s := by
  unfold atTo
  induction l with
  | nil => rfl
  | cons x l ih =>
    rw [List.takeWhile_cons, List.dropWhile_cons]
    split
    · rw [List.length_cons, List.drop_succ_cons, ih]
    · rfl
theorem insS_spec {l : List S4} (h : l.Pairwise fun x y => lessS x y = true) (s : S4) : (insS l s).Pairwise (fun x y => lessS x y = true) ∧ ∀ x, x ∈ insS l s ↔ (x ∈ l ∨ x = s) := by
  unfold insS
  by_cases hc : atTo l s < l.length ∧ segAt l (atTo l s) = s
  · rw [if_pos hc]
    refine ⟨h, fun x => ⟨.inl, ?_⟩⟩
    rintro (hx | hx)
    · exact hx
    · rw [hx, ← hc.2, segAt_get l _ hc.1]; exact List.getElem_mem _
  · rw [if_neg hc]
    have hta : ∀ x, x ∈ l.take (atTo l s) → lessS x s = true := fun x hx => by
      rw [atTo_take] at hx
      exact List.all_eq_true.1 List.all_takeWhile x hx
    have hdr : ∀ x, x ∈ l.drop (atTo l s) → lessS s x = true := fun x hx => by
      by_cases hlt : atTo l s < l.length
      · have hd : l.drop (atTo l s) = l[atTo l s] :: l.drop (atTo l s + 1) := by rw [List.drop_eq_getElem_cons hlt]
        have hh : lessS (l[atTo l s]) s = false := by
          have e := atTo_drop l s
          rw [hd] at e
          have := List.head?_dropWhile_not (fun x => lessS x s) l
          rw [← e] at this
          simp only [List.head?_cons] at this
          simpa using this
        have hne : l[atTo l s] ≠ s := fun e => hc ⟨hlt, by rw [segAt_get l _ hlt, e]⟩
        have hs0 : lessS s (l[atTo l s]) = true := Classical.byContradiction fun h' => hne (lessS_tot (by rw [hh]; simp) h')
        rw [hd, List.mem_cons] at hx
        rcases hx with hx | hx
        · rw [hx]; exact hs0
        · have hp := h.sublist (List.drop_sublist (atTo l s) l)
          rw [hd, List.pairwise_cons] at hp
          exact lessS_tr hs0 (hp.1 x hx)
      · rw [List.drop_eq_nil_of_le (by omega)] at hx; simp at hx
    refine ⟨?_, fun x => ?_⟩
    · rw [List.pairwise_append, List.pairwise_append]
      refine ⟨⟨h.sublist (List.take_sublist _ _), by simp, fun a ha b hb => ?_⟩, h.sublist (List.drop_sublist _ _), fun a ha b hb => ?_⟩
      · simp at hb; rw [hb]; exact hta a ha
      · rw [List.mem_append, List.mem_singleton] at ha
        rcases ha with ha | ha
        · exact lessS_tr (hta a ha) (hdr b hb)
        · rw [ha]; exact hdr b hb
    · have : x ∈ l ↔ x ∈ l.take (atTo l s) ∨ x ∈ l.drop (atTo l s) := by rw [← List.mem_append, List.take_append_drop]
      rw [this, List.mem_append, List.mem_append, List.mem_singleton]
      constructor
      · rintro ((h | h) | h)
        · exact .inl (.inl h)
        · exact .inr h
        · exact .inl (.inr h)
      · rintro ((h | h) | h)
        · exact .inl (.inl h)
        · exact .inr h
        · exact .inl (.inr h)
def insAll (l : List S4) : List S4 := l.foldl insS []
theorem insAll_spec (l : List S4) : (insAll l).Pairwise (fun x y => lessS x y = true) ∧ ∀ x, x ∈ insAll l ↔ x ∈ l := by
  unfold insAll
  have gen : ∀ (m o : List S4), o.Pairwise (fun x y => lessS x y = true) → (m.foldl insS o).Pairwise (fun x y => lessS x y = true) ∧ ∀ x, x ∈ m.foldl insS o ↔ (x ∈ o ∨ x ∈ m) := by
    intro m
    induction m with
    | nil => intro o ho; exact ⟨ho, by simp⟩
    | cons s m ih =>
      intro o ho
      obtain ⟨a1, a2⟩ := insS_spec ho s
      obtain ⟨b1, b2⟩ := ih _ a1
      refine ⟨b1, fun x => ?_⟩
      rw [List.foldl_cons, b2, a2, List.mem_cons]
      constructor
      · rintro ((h | h) | h)
        · exact .inl h
        · exact .inr (.inl h)
        · exact .inr (.inr h)
      · rintro (h | h | h)
        · exact .inl (.inl h)
        · exact .inl (.inr h)
        · exact .inr h
  have := gen l [] List.Pairwise.nil
  refine ⟨this.1, fun x => ?_⟩
  rw [this.2]; simp
theorem sorted_unique : ∀ {a b : List S4}, a.Pairwise (fun x y => lessS x y = true) → b.Pairwise (fun x y => lessS x y = true) → (∀ x, x ∈ a ↔ x ∈ b) → a = b
  | [], [], _, _, _ => rfl
  | [], y :: b, _, _, h => absurd ((h y).2 (by simp)) (by simp)
  | x :: a, [], _, _, h => absurd ((h x).1 (by simp)) (by simp)
  | x :: a, y :: b, h1, h2, h => by
    have asy : ∀ {x y : S4}, lessS x y = true → ¬ lessS y x = true := fun h h' => lessS_irr _ (lessS_tr h h')
    rw [List.pairwise_cons] at h1 h2
    have hxy : x = y := by
      have m1 := (h x).1 (by simp)
      have m2 := (h y).2 (by simp)
      rw [List.mem_cons] at m1 m2
      rcases m1 with e | e
      · exact e
      · rcases m2 with e2 | e2
        · exact e2.symm
        · exact absurd (h1.1 y e2) (asy (h2.1 x e))
    subst hxy
    congr 1
    refine sorted_unique h1.2 h2.2 fun z => ?_
    have := h z
    rw [List.mem_cons, List.mem_cons] at this
    constructor
    · intro hz
      rcases this.1 (.inr hz) with e | e
      · exact absurd (h1.1 z hz) (by rw [e]; exact lessS_irr _)
      · exact e
    · intro hz
      rcases this.2 (.inr hz) with e | e
      · exact absurd (h2.1 z hz) (by rw [e]; exact lessS_irr _)
      · exact e
theorem split_ref {l : List S4} (hok : okSegs l = true) (hf : RowsFree l l.length l.length) : insAll (partsTo l (endsTo l l.length) l.length) = splitL l := by
  obtain ⟨a1, a2⟩ := insAll_spec (partsTo l (endsTo l l.length) l.length)
  refine sorted_unique a1 (split_lt hok hf) fun x => ?_
  rw [a2, split_mem hok hf, parts_mem]
  constructor
  · rintro ⟨k, hk, h⟩; exact ⟨k, hk, (part_iff hok hk).1 h⟩
  · rintro ⟨k, hk, h⟩; exact ⟨k, hk, (part_iff hok hk).2 h⟩

end Go.Proofs.YtpdfbboagaflhaaGreat

set_option linter.unusedSimpArgs false
set_option linter.unusedVariables false
set_option maxRecDepth 100000
namespace Go.Proofs.YtpdfbboagaflhaaGreat
open Go.RowKit

/-- a result that is a list of points -/
def PtsR (w : World) (v : Value) (R : List P2) : Prop := ∃ av cap, v = .slice av R.length cap ∧ (0 < R.length → ∃ g, av = some ⟨g, 0, none⟩ ∧ Pts w g 0 R.length R)
theorem PtsR.new {w w' : World} {v : Value} {R : List P2} (h : PtsR w v R) (hn : New w w') : PtsR w' v R := by
  obtain ⟨av, cap, h1, h2⟩ := h
  exact ⟨av, cap, h1, fun h0 => by obtain ⟨g, h3, h4⟩ := h2 h0; exact ⟨g, h3, h4.new hn⟩⟩

set_option maxHeartbeats 2000000 in
theorem move1_c (x y dx dy : Int) (B1 B2 : Nat) (w : World) (hx : 0 ≤ x ∧ x ≤ 10000) (hy : 0 ≤ y ∧ y ≤ 10000) (h1 : -20000 ≤ dx ∧ dx ≤ 20000) (h2 : -20000 ≤ dy ∧ dy ≤ 20000) (c1 : w.cell? ⟨B1, 0, none⟩ = some (.int .i64 dx)) (c2 : w.cell? ⟨B2, 0, none⟩ = some (.int .i64 dy)) (b1 : B1 < w.heap.size) (b2 : B2 < w.heap.size) :
    Calls Tryz.prog 159 #[pv x y, .pointer (some ⟨B1, 0, none⟩), .pointer (some ⟨B2, 0, none⟩)] w fun en w' => en = .returned (pv (x + dx) (y + dy)) ∧ New w w' := by
  have b3 : B1 < w.heap.size + 1 := by omega
  have b4 : B2 < w.heap.size + 1 := by omega
  have b5 : B1 < w.heap.size + 1 + 1 := by omega
  have b6 : B2 < w.heap.size + 1 + 1 := by omega
  go_enter Tryz.func159, Tryz.ntmps159
  go_wp2_with fail
  all_goals (refine bodyPost_ret (v := pv (x + dx) (y + dy)) (by simp [results, Tryz.results159, go_sem]) rfl ⟨rfl, ?_⟩; (repeat (first | exact New.refl _ | apply New.alloc | apply New.aft | apply New.drew | refine New.setCell ?_ ?_ _)); all_goals (first | done | (simp [size_aft]; done) | (simp [size_aft]; omega)))
set_option maxHeartbeats 2000000 in
theorem mirror1_c (x y dx : Int) (B1 : Nat) (w : World) (hx : 0 ≤ x ∧ x ≤ 10000) (hy : 0 ≤ y ∧ y ≤ 10000) (h1 : -20000 ≤ dx ∧ dx ≤ 20000) (c1 : w.cell? ⟨B1, 0, none⟩ = some (.int .i64 dx)) (b1 : B1 < w.heap.size) :
    Calls Tryz.prog 161 #[pv x y, .pointer (some ⟨B1, 0, none⟩)] w fun en w' => en = .returned (pv (dx - x) y) ∧ New w w' := by
  have b3 : B1 < w.heap.size + 1 := by omega
  have b5 : B1 < w.heap.size + 1 + 1 := by omega
  go_enter Tryz.func161, Tryz.ntmps161
  go_wp2_with fail
  all_goals (refine bodyPost_ret (v := pv (dx - x) y) (by simp [results, Tryz.results161, go_sem]) rfl ⟨rfl, ?_⟩; (repeat (first | exact New.refl _ | apply New.alloc | apply New.aft | apply New.drew | refine New.setCell ?_ ?_ _)); all_goals (first | done | (simp [size_aft]; done) | (simp [size_aft]; omega)))
set_option maxHeartbeats 2000000 in
theorem enlarge1_c (x y k : Int) (B1 : Nat) (w : World) (hx : 0 ≤ x ∧ x ≤ 10000) (hy : 0 ≤ y ∧ y ≤ 10000) (h1 : -20000 ≤ k ∧ k ≤ 20000) (c1 : w.cell? ⟨B1, 0, none⟩ = some (.int .i64 k)) (b1 : B1 < w.heap.size) :
    Calls Tryz.prog 162 #[pv x y, .pointer (some ⟨B1, 0, none⟩)] w fun en w' => en = .returned (pv (x * k) (y * k)) ∧ New w w' := by
  have m1 := mul_bd x k 10000 20000 (by omega) (by omega) (by omega) (by omega)
  have m2 := mul_bd y k 10000 20000 (by omega) (by omega) (by omega) (by omega)
  simp only [Int.reduceMul, Int.reduceNeg] at m1 m2
  have b3 : B1 < w.heap.size + 1 := by omega
  have b5 : B1 < w.heap.size + 1 + 1 := by omega
  go_enter Tryz.func162, Tryz.ntmps162
  go_wp2_with fail
  all_goals (refine bodyPost_ret (v := pv (x * k) (y * k)) (by simp [results, Tryz.results162, go_sem]) rfl ⟨rfl, ?_⟩; (repeat (first | exact New.refl _ | apply New.alloc | apply New.aft | apply New.drew | refine New.setCell ?_ ?_ _)); all_goals (first | done | (simp [size_aft]; done) | (simp [size_aft]; omega)))

set_option maxHeartbeats 4000000 in
theorem samePoints_c (v u : Value) (R : List P2) (w : World) (hl : R.length ≤ 1000000) (hv : PtsR w v R) (hu : PtsR w u R) : Calls Tryz.prog 52 #[v, u] w fun en w' => en = .returned (.bool true) ∧ New w w' := by
  obtain ⟨av, cv, rfl, hv⟩ := hv
  obtain ⟨au, cu, rfl, hu⟩ := hu
  by_cases h0 : 0 < R.length
  · obtain ⟨g, rfl, _, hg1, hg2⟩ := hv h0
    obtain ⟨g', rfl, _, hg3, hg4⟩ := hu h0
    generalize R.length = n at *
    have t0 : ((n : Int) != (n : Int)) = false := by simp
    clear hv hu
    go_enter Tryz.func52, Tryz.ntmps52
    go_wp2_with fail
    go_loopw [5] (fun i wr => ∃ k : Nat, k ≤ n ∧ i = .int .i64 k ∧ New w wr) (fun i _ => n - (intOf i).toNat)
    case atStart => exact ⟨0, Nat.zero_le _, rfl, New.refl _⟩
    case round =>
      obtain ⟨k, hk, rfl, pr, rfl⟩ := hrel
      by_cases hlt : k < n
      · obtain ⟨c1, c2⟩ := hg2 k hlt
        obtain ⟨d1, d2⟩ := hg4 k hlt
        simp only [Nat.zero_add] at c1 c2 d1 d2
        have hkn : (k : Int) < (n : Int) := by omega
        clear hg2 hg4
        generalize px R k = X at *
        generalize py R k = Y at *
        have e1 : (X == X) = true := by simp
        have e2 : (Y == Y) = true := by simp
        go_wp2_with fail
        first | refine wp_region_at2 (by kernel_rfl) (by kernel_rfl) ?_ | refine wp_region_at (by kernel_rfl) (by kernel_rfl) ?_
        repeat (go_big_quiet_step (fail))
        refine wpQuiet_nil ?_
        rintro _ ⟨q, rfl⟩
        go_wp2_with fail
        go_roundw
        case rel => exact ⟨k + 1, by omega, by go_num, by (repeat (first | exact New.refl _ | apply New.alloc | apply New.aft | apply New.drew | refine New.setCell ?_ ?_ _)); all_goals (first | done | (simp [size_aft]; done) | (simp [size_aft]; omega))⟩
        case measure => simp [intOf]; omega
      · go_wp2_with fail
        go_ret
        exact ⟨rfl, by (repeat (first | exact New.refl _ | apply New.alloc | apply New.aft | apply New.drew | refine New.setCell ?_ ?_ _)); all_goals (first | done | (simp [size_aft]; done) | (simp [size_aft]; omega))⟩
  · have h1 : R.length = 0 := by omega
    rw [h1]
    clear hv hu
    go_enter Tryz.func52, Tryz.ntmps52
    go_wp2_with fail
    refine wp_loop_rounds 1 ?_
    repeat any_goals (rw [rounds_succ]; go_wp2)
    go_ret; exact ⟨rfl, New.refl _⟩

/-- a slice of points, nil or not -/
def PtsA (w : World) (av : Option Addr) (n : Nat) (l : List P2) : Prop := l.length = n ∧ (0 < n → ∃ b off, av = some ⟨b, off, none⟩ ∧ Pts w b off n l)
theorem PtsA.new {w w' : World} {av : Option Addr} {n : Nat} {l : List P2} (h : PtsA w av n l) (hn : New w w') : PtsA w' av n l :=
  ⟨h.1, fun h0 => by obtain ⟨b, off, h1, h2⟩ := h.2 h0; exact ⟨b, off, h1, h2.new hn⟩⟩
theorem PtsR.nil (w : World) : PtsR w (.slice none 0 0) [] := ⟨none, 0, rfl, fun h => absurd h (by simp)⟩
theorem PtsR.own {w : World} {B : Nat} {v : Value} {R : List P2} (h : w.ownsRow B 23 2 v R.length (ptCells R)) : PtsR w v R := own_form h

end Go.Proofs.YtpdfbboagaflhaaGreat

set_option linter.unusedSimpArgs false
set_option linter.unusedVariables false
set_option maxRecDepth 100000
namespace Go.Proofs.YtpdfbboagaflhaaGreat
open Go.RowKit

/-- what Hull returns -/
def hullE (l : List P2) : Int := ckPts l 400
def hullV (l : List P2) : List P2 := if ckPts l 400 ≠ 0 then [] else if (ptsL l).length < 2 then ptsL l else hullL l
def HullIs (w w' : World) (en : Ending) (l : List P2) : Prop := ∃ r, en = .returned (.tuple #[r, .int .i64 (hullE l)]) ∧ PtsR w' r (hullV l) ∧ New w w'

set_option maxHeartbeats 2000000 in
theorem insort_nil (v : Option Addr) (c : Nat) (f : Value) (w : World) : Calls Tryz.prog 193 #[.slice v 0 c, .int .i64 0, .int .i64 0, f] w fun en w' => en = .returned (.tuple #[]) ∧ New w w' := by
  go_enter Tryz.func193, Tryz.ntmps193
  go_wp2_with fail
  go_loopw [8] (fun i wr => i = .int .i64 1 ∧ New w wr) (fun _ _ => 0)
  case atStart => exact ⟨by go_num, New.refl _⟩
  case round =>
    obtain ⟨rfl, hn⟩ := hrel
    have HN := Lib.hid hn
    clear hn
    go_wp2_with fail
    exact bodyPost_end (results_none rfl _ _ _) rfl ⟨rfl, HN.out⟩
set_option maxHeartbeats 2000000 in
theorem pdq_nil (v : Option Addr) (c : Nat) (k : Int) (f : Value) (w : World) : Calls Tryz.prog 171 #[.slice v 0 c, .int .i64 0, .int .i64 0, .int .i64 k, f] w fun en w' => en = .returned (.tuple #[]) ∧ New w w' := by
  have HI := Lib.hid (insort_nil v c f)
  go_enter Tryz.func171, Tryz.ntmps171
  go_wp2_with fail
  go_loopw [1, 2] (fun i j wr => (i = .int .i64 0 ∧ j = .int .i64 0) ∧ New w wr) (fun _ _ _ => 0)
  case atStart => exact ⟨⟨rfl, rfl⟩, New.refl _⟩
  case round =>
    obtain ⟨⟨rfl, rfl⟩, hn⟩ := hrel
    have HN := Lib.hid hn
    clear hn
    go_wp2_with (go_at_call 193; refine (HI.out _).mono ?_; rintro e w1 ⟨rfl, hn⟩; have HN1 := Lib.hid (HN.out.trans hn); clear hn)
    exact bodyPost_ret (results_none rfl _ _ _) rfl ⟨rfl, HN1.out⟩

set_option maxHeartbeats 2000000 in
theorem sort_nil (v : Option Addr) (c : Nat) (w : World) : Calls Tryz.prog 124 #[.slice v 0 c, .func (.func 125) #[] #[]] w fun en w' => en = .returned (.tuple #[]) ∧ New w w' := by
  have HI := Lib.hid (fun k => pdq_nil v c k (.func (.func 125) #[] #[]))
  have HL := Lib.hid (fun w1 : World => hlenH 0 w1 (by omega))
  go_enter Tryz.func124, Tryz.ntmps124
  go_wp2_with (first | (go_at_call 172; refine (HL.out _).mono ?_; rintro e w1 ⟨⟨k, rfl⟩, rfl⟩) | (go_at_call 171; refine (HI.out _ _).mono ?_; rintro e w1 ⟨rfl, hn⟩; have HN1 := Lib.hid hn; clear hn))
  exact bodyPost_end (results_none rfl _ _ _) rfl ⟨rfl, HN1.out⟩
set_option maxHeartbeats 2000000 in
theorem compact_nil (v : Option Addr) (c : Nat) (w : World) : Calls Tryz.prog 126 #[.slice v 0 c] w fun en w' => en = .returned (.slice v 0 c) ∧ New w w' := by
  go_enter Tryz.func126, Tryz.ntmps126
  go_wp2_with fail
  go_ret; exact ⟨rfl, New.refl _⟩
theorem run_append_zero {P : Program} (w : World) (t ty e : TypeId) (i : TypeInfo) (ht : P.underlying t = some (.slice e)) (hi : P.info? e = some i)
    (A : Option Addr) (c : Nat) (B : Option Addr) (d : Nat) : (Builtin.append_ #[t, t] ty #[.slice A 0 c, .slice B 0 d]).run P w = .ok (.slice A 0 c) w := by
  cases A <;> cases B <;> simp [Builtin.append_, run_underlying ht, sizeOf, typeInfo, hi, Builtin.lenOf, Builtin.firstCells, loadCells]
  · rw [show ∀ a : Addr, loadCellsFrom a 0 0 #[] = (pure #[] : Sem _) from fun _ => rfl]; rfl
  · simp [storeCells]
  · rw [show ∀ a : Addr, loadCellsFrom a 0 0 #[] = (pure #[] : Sem _) from fun _ => rfl]; simp [storeCells]
theorem wpList_append_zero {P : Program} {w : World} {ops : Array Oper} {rest : List Oper} {o : Oper} {a : Act} {Q : Exit → Act → World → Prop} (hgd : o.guard = none) (s x : Operand) (t : TypeId)
    (ho : o.op = .call { callee := .builtin .append, args := #[s, x], argTypes := #[t, t] }) (e : TypeId) (i : TypeInfo) (ht : P.underlying t = some (.slice e)) (hi : P.info? e = some i)
    (A : Option Addr) (c : Nat) (B : Option Addr) (d : Nat) (hs : a.eval s = .slice A 0 c) (hx : a.eval x = .slice B 0 d) (h : wpList P ops Q rest (a.put o.dst (.slice A 0 c)) w) : wpList P ops Q (o :: rest) a w :=
  wpList_plain hgd fun _ hK => by
    unfold Oper.wp execOp
    simp only [ho, resolve, invoke, builtin, Sem.run_bind, Sem.run_pure, Result.andThen_ok, List.map_toArray, List.map_cons, List.map_nil, hs, hx, run_append_zero w t _ e i ht hi]
    exact hK _ _ h
set_option maxHeartbeats 2000000 in
theorem clone_nil (v : Option Addr) (c : Nat) (w : World) : Calls Tryz.prog 123 #[.slice v 0 c] w fun en w' => ∃ v2 c2, en = .returned (.slice v2 0 c2) ∧ New w w' := by
  obtain ⟨i0, hi, hz0, hz1, hz2⟩ := info_parts info23
  have hnil : ∀ w' : World, (binOp .eql 40 (.slice v 0 c) (.slice none 0 0)).run Tryz.prog w' = .ok (.bool v.isNone) w' := fun w' => Lib.run_eql_slice_nil w' 40 23 _ 0 c 0 0 Tryz.underlying40
  cases v with
  | none =>
    go_enter Tryz.func123, Tryz.ntmps123
    go_wp2_with fail
    go_ret; exact ⟨none, 0, rfl, New.refl _⟩
  | some a =>
    go_enter Tryz.func123, Tryz.ntmps123
    go_wp2_with (at_builtin; refine wpList_append_zero rfl (.tmp 5) (.tmp 6) 40 rfl 23 i0 Tryz.underlying40 hi _ _ _ _ rfl rfl ?_)
    go_ret; exact ⟨_, _, rfl, (New.refl _).alloc _⟩


set_option maxHeartbeats 2000000 in
theorem hull_nil (v : Option Addr) (c : Nat) (w : World) : Calls Tryz.prog 57 #[.slice v 0 c] w fun en w' => HullIs w w' en [] := by
  have HC := Lib.hid (checkPoints_nil v c 400 (by omega))
  have HV := Lib.hid (show hullE [] = 0 ∧ hullV [] = [] from ⟨rfl, rfl⟩)
  have HK := Lib.hid (fun w1 : World => clone_nil v c w1)
  have HS := Lib.hid (fun (v2 : Option Addr) (c2 : Nat) (w1 : World) => sort_nil v2 c2 w1)
  have HP := Lib.hid (fun (v2 : Option Addr) (c2 : Nat) (w1 : World) => compact_nil v2 c2 w1)
  go_enter Tryz.func57, Tryz.ntmps57
  go_wp2_with (first | (go_at_call 84; refine (HC.out _).mono ?_; rintro e w1 ⟨rfl, hn⟩; have HN1 := Lib.hid hn; clear hn) | (go_at_call 123; refine (HK.out _).mono ?_; rintro e w2 ⟨v2, c2, rfl, hn⟩; have HN2 := Lib.hid (HN1.out.trans hn); clear hn) | (go_at_call 124; refine (HS.out _ _ _).mono ?_; rintro e w3 ⟨rfl, hn⟩; have HN3 := Lib.hid (HN2.out.trans hn); clear hn) | (go_at_call 126; refine (HP.out _ _ _).mono ?_; rintro e w4 ⟨rfl, hn⟩; have HN4 := Lib.hid (HN3.out.trans hn); clear hn))
  go_ret2
  exact ⟨.slice v2 0 c2, by rw [HV.out.1]; rfl, by rw [HV.out.2]; exact ⟨v2, c2, rfl, fun h => absurd h (by simp)⟩, HN4.out⟩
set_option maxHeartbeats 2000000 in
theorem hull_err (b off n c : Nat) (l : List P2) (w : World) (hl : n ≤ 1000000) (hw : Pts w b off n l) (hk : ckPts l 400 ≠ 0) : Calls Tryz.prog 57 #[.slice (some ⟨b, off, none⟩) n c] w fun en w' => HullIs w w' en l := by
  have HC := Lib.hid (checkPoints_c b off n c l 400 w (by omega) hw)
  have HV := Lib.hid (show hullE l = ckPts l 400 ∧ hullV l = [] from ⟨rfl, if_pos hk⟩)
  have hq1 : (ckPts l 400 == 0) = false := by simpa using hk
  have hq2 : (ckPts l 400 != 0) = true := by simpa using hk
  generalize ckPts l 400 = K at *
  clear hw hk
  go_enter Tryz.func57, Tryz.ntmps57
  go_wp2_with (go_at_call 84; refine (HC.out).mono ?_; rintro e w1 ⟨rfl, hn⟩; have HN1 := Lib.hid hn; clear hn)
  go_ret2
  exact ⟨.slice none 0 0, by rw [HV.out.1]; rfl, by rw [HV.out.2]; exact PtsR.nil _, HN1.out⟩
set_option maxHeartbeats 4000000 in
theorem hull_one (b off n c : Nat) (l : List P2) (w : World) (h0 : 0 < n) (hl : n ≤ 1000000) (hw : Pts w b off n l) (hk : ckPts l 400 = 0) (hm : (ptsL l).length < 2) : Calls Tryz.prog 57 #[.slice (some ⟨b, off, none⟩) n c] w fun en w' => HullIs w w' en l := by
  have HW := Lib.hid hw
  have HN := Lib.hid hw.1
  have HV := Lib.hid (show hullE l = 0 ∧ hullV l = ptsL l from ⟨hk, by unfold hullV; rw [if_neg (by rw [hk]; exact fun h => h rfl), if_pos hm]⟩)
  have HCK := Lib.hid (checkPoints_c b off n c l 400 w (by omega) hw)
  rw [hk] at HCK
  have HCL := Lib.hid (fun (w1 : World) (h1 : New w w1) => cloneP_c b off n c l w1 h0 hl (hw.new h1))
  have HPE := Lib.hid (show ddTo (sortP l) n = ptsL l by unfold ptsL; rw [hw.1])
  clear hw hk
  generalize ptsL l = PL at *
  generalize hmm : PL.length = m at *
  have HM := Lib.hid hmm
  clear hmm
  have hm2 : (m : Int) < 2 := by omega
  go_enter Tryz.func57, Tryz.ntmps57
  go_wp2_with (first | (go_at_call 84; refine HCK.out.mono ?_; rintro e w1 ⟨rfl, hn1⟩; have HN1 := Lib.hid hn1; clear hn1) | (go_at_call 123; refine (HCL.out _ HN1.out).mono ?_; rintro e w2 ⟨g, cap, rfl, ho2, hn2⟩; have HO2 := Lib.hid ho2; have HN2 := Lib.hid (HN1.out.trans hn2); have HS := Lib.hid HN1.out.size; clear ho2 hn2) | (go_at_call 124; refine (sortP_c w1.heap.size g n cap l _ hl HN.out HO2.out).mono ?_; rintro e w3 ⟨rfl, ho3, hg3⟩; have HO3 := Lib.hid ho3; have HG3 := Lib.hid hg3; clear ho3 hg3) | (go_at_call 126; refine (compactP_c w1.heap.size g n cap (sortP l) _ hl (by rw [sortP_length]; exact HN.out) HO3.out).mono ?_; rintro e w4 ⟨rfl, ho4, hg4⟩; rw [HPE.out, HM.out] at ho4; rw [HPE.out, HM.out]; have HO4 := Lib.hid ho4; have HG4 := Lib.hid (HG3.out.trans hg4); clear ho4 hg4))
  have HNEW4 := Lib.hid (new_grownBy HN2.out HG4.out (Nat.le_trans HS.out (HO2.out.lt g rfl).1))
  go_ret2
  exact ⟨.slice (some ⟨g, 0, none⟩) m cap, by rw [HV.out.1]; rfl, by rw [HV.out.2]; exact ⟨_, cap, by rw [HM.out], fun _ => ⟨g, rfl, by rw [HM.out]; exact pts_own HO4.out HM.out⟩⟩, HNEW4.out⟩
theorem ptsL_bd {l : List P2} (hok : okL l = true) : bdL (ptsL l) := by
  have : okL (ptsL l) = true := by
    unfold okL
    rw [List.all_eq_true]
    intro p hp
    exact okP_iff.2 (valid_of hok ((ptsL_spec l).2 p |>.1 hp))
  exact bdL_of_ok this
theorem rev_bd {m : List P2} (h : bdL m) : bdL m.reverse := by
  intro i
  by_cases hi : i < m.length
  · rw [(rev_px m i hi).1, (rev_px m i hi).2]; exact h _
  · simp [px, py, List.getD_eq_getElem?_getD, hi]
/-- Hull of any list -/
theorem hull_any (av : Option Addr) (n c : Nat) (l : List P2) (w : World) (hl : n ≤ 1000000) (hp : PtsA w av n l) : Calls Tryz.prog 57 #[.slice av n c] w fun en w' => HullIs w w' en l := by
  by_cases h0 : 0 < n
  · obtain ⟨b, off, rfl, hw⟩ := hp.2 h0
    by_cases hk : ckPts l 400 = 0
    · by_cases hm : (ptsL l).length < 2
      · exact hull_one b off n c l w h0 hl hw hk hm
      · have hbd := ptsL_bd (ckPts_zero hk).2
        refine (hull_many b off n c l w h0 hl hw hk (by omega) hbd (by rw [revTo_rev]; exact rev_bd hbd)).mono ?_
        rintro en w' ⟨g, cap, rfl, ho, hn⟩
        have e1 : hullE l = 0 := hk
        have e2 : hullV l = hullL l := by unfold hullV; rw [if_neg (by rw [hk]; exact fun h => h rfl), if_neg hm]
        exact ⟨_, by rw [e1], by rw [e2]; exact PtsR.own ho, hn⟩
    · exact hull_err b off n c l w hl hw hk
  · obtain rfl : n = 0 := by omega
    have : l = [] := List.eq_nil_of_length_eq_zero hp.1
    subst this
    exact hull_nil av c w

end Go.Proofs.YtpdfbboagaflhaaGreat

set_option linter.unusedSimpArgs false
set_option linter.unusedVariables false
set_option maxRecDepth 100000
namespace Go.Proofs.YtpdfbboagaflhaaGreat
open Go.RowKit

/-- a result that is a list of segments -/
def SegsR (w : World) (v : Value) (R : List S4) : Prop := ∃ av cap, v = .slice av R.length cap ∧ R.length ≤ cap ∧ (0 < R.length → ∃ g, av = some ⟨g, 0, none⟩ ∧ Segs w g 0 R.length R)
theorem SegsR.new {w w' : World} {v : Value} {R : List S4} (h : SegsR w v R) (hn : New w w') : SegsR w' v R := by
  obtain ⟨av, cap, h1, hc, h2⟩ := h
  exact ⟨av, cap, h1, hc, fun h0 => by obtain ⟨g, h3, h4⟩ := h2 h0; exact ⟨g, h3, h4.new hn⟩⟩
/-- every list of segments -/
def SegsA (w : World) (av : Option Addr) (n : Nat) (l : List S4) : Prop := l.length = n ∧ (0 < n → ∃ b off, av = some ⟨b, off, none⟩ ∧ Segs w b off n l)
theorem SegsA.new {w w' : World} {av : Option Addr} {n : Nat} {l : List S4} (h : SegsA w av n l) (hn : New w w') : SegsA w' av n l :=
  ⟨h.1, fun h0 => by obtain ⟨b, off, h1, h2⟩ := h.2 h0; exact ⟨b, off, h1, h2.new hn⟩⟩
set_option maxHeartbeats 2000000 in
theorem insortS_nil (v : Option Addr) (c : Nat) (f : Value) (w : World) : Calls Tryz.prog 203 #[.slice v 0 c, .int .i64 0, .int .i64 0, f] w fun en w' => en = .returned (.tuple #[]) ∧ New w w' := by
  go_enter Tryz.func203, Tryz.ntmps203
  go_wp2_with fail
  go_loopw [8] (fun i wr => i = .int .i64 1 ∧ New w wr) (fun _ _ => 0)
  case atStart => exact ⟨by go_num, New.refl _⟩
  case round =>
    obtain ⟨rfl, hn⟩ := hrel
    have HN := Lib.hid hn
    clear hn
    go_wp2_with fail
    exact bodyPost_end (results_none rfl _ _ _) rfl ⟨rfl, HN.out⟩
set_option maxHeartbeats 2000000 in
theorem pdqS_nil (v : Option Addr) (c : Nat) (k : Int) (f : Value) (w : World) : Calls Tryz.prog 177 #[.slice v 0 c, .int .i64 0, .int .i64 0, .int .i64 k, f] w fun en w' => en = .returned (.tuple #[]) ∧ New w w' := by
  have HI := Lib.hid (insortS_nil v c f)
  go_enter Tryz.func177, Tryz.ntmps177
  go_wp2_with fail
  go_loopw [1, 2] (fun i j wr => (i = .int .i64 0 ∧ j = .int .i64 0) ∧ New w wr) (fun _ _ _ => 0)
  case atStart => exact ⟨⟨rfl, rfl⟩, New.refl _⟩
  case round =>
    obtain ⟨⟨rfl, rfl⟩, hn⟩ := hrel
    have HN := Lib.hid hn
    clear hn
    go_wp2_with (go_at_call 203; refine (HI.out _).mono ?_; rintro e w1 ⟨rfl, hn⟩; have HN1 := Lib.hid (HN.out.trans hn); clear hn)
    exact bodyPost_ret (results_none rfl _ _ _) rfl ⟨rfl, HN1.out⟩
set_option maxHeartbeats 2000000 in
theorem sortS_nil (v : Option Addr) (c : Nat) (w : World) : Calls Tryz.prog 138 #[.slice v 0 c, .func (.func 139) #[] #[]] w fun en w' => en = .returned (.tuple #[]) ∧ New w w' := by
  have HI := Lib.hid (fun k => pdqS_nil v c k (.func (.func 139) #[] #[]))
  have HL := Lib.hid (fun w1 : World => hlenH 0 w1 (by omega))
  go_enter Tryz.func138, Tryz.ntmps138
  go_wp2_with (first | (go_at_call 172; refine (HL.out _).mono ?_; rintro e w1 ⟨⟨k, rfl⟩, rfl⟩) | (go_at_call 177; refine (HI.out _ _).mono ?_; rintro e w1 ⟨rfl, hn⟩; have HN1 := Lib.hid hn; clear hn))
  exact bodyPost_end (results_none rfl _ _ _) rfl ⟨rfl, HN1.out⟩
set_option maxHeartbeats 2000000 in
theorem compactS_nil (v : Option Addr) (c : Nat) (w : World) : Calls Tryz.prog 140 #[.slice v 0 c] w fun en w' => en = .returned (.slice v 0 c) ∧ New w w' := by
  go_enter Tryz.func140, Tryz.ntmps140
  go_wp2_with fail
  go_ret; exact ⟨rfl, New.refl _⟩
set_option maxHeartbeats 1000000 in
theorem crossing_nil1 (v : Option Addr) (c : Nat) (w : World) : Calls Tryz.prog 64 #[.slice v 0 c] w fun en w' => en = .returned (.tuple #[.int .i64 0, .int .i64 0, .bool false, .int .i64 0]) ∧ New w w' := by
  have HC := Lib.hid (show ∀ w1 : World, Calls Tryz.prog 135 #[.slice v 0 c] w1 fun en w' => en = .returned (.int .i64 0) ∧ New w1 w' from fun w1 => by
    go_enter Tryz.func135, Tryz.ntmps135
    go_wp2_with fail
    refine wp_loop_rounds 1 ?_
    repeat any_goals (rw [rounds_succ]; go_wp2)
    go_ret; exact ⟨rfl, New.refl _⟩)
  go_enter Tryz.func64, Tryz.ntmps64
  go_wp2_with (go_at_call 135; refine (HC.out _).mono ?_; rintro e w1 ⟨rfl, pw, rfl⟩)
  refine wp_loop_rounds 1 ?_
  repeat any_goals (rw [rounds_succ]; go_wp2)
  refine bodyPost_ret (v := .tuple #[.int .i64 0, .int .i64 0, .bool false, .int .i64 0]) (by simp [results, Tryz.results64, go_sem]) rfl ⟨rfl, ?_⟩; (repeat (first | exact New.refl _ | apply New.alloc | apply New.aft | apply New.drew | refine New.setCell ?_ ?_ _)); all_goals (first | done | (simp [size_aft]; done) | (simp [size_aft]; omega))
set_option maxHeartbeats 2000000 in
theorem apart_nil (v : Option Addr) (c : Nat) (w : World) : Calls Tryz.prog 137 #[.slice v 0 c] w fun en w' => en = .returned (.int .i64 0) ∧ New w w' := by
  have HC := Lib.hid (crossing_nil1 v c)
  go_enter Tryz.func137, Tryz.ntmps137
  go_wp2_with (go_at_call 64; refine (HC.out _).mono ?_; rintro e w1 ⟨rfl, hn⟩; have HN1 := Lib.hid hn; clear hn)
  go_ret; exact ⟨rfl, HN1.out⟩
set_option maxHeartbeats 4000000 in
theorem split_nil (v : Option Addr) (c : Nat) (w : World) : Calls Tryz.prog 66 #[.slice v 0 c] w fun en w' => en = .returned (.tuple #[.slice none 0 0, .int .i64 0]) ∧ New w w' := by
  obtain ⟨i0, hi, hz0, hz1, hz2⟩ := info_parts info23
  have HA := Lib.hid (fun w1 : World => apart_nil v c w1)
  have HS := Lib.hid (fun w1 : World => sortS_nil none 0 w1)
  have HP := Lib.hid (fun w1 : World => compactS_nil none 0 w1)
  have hmk : ∀ w : World, (Instr.makeSlice 40 (.int .i64 0) (.int .i64 0)).run Tryz.prog w = .ok (.slice (some ⟨w.heap.size, 0, none⟩) 0 0) (w.alloc (.cells (madeCells (.agg #[.int .i64 0, .int .i64 0] : Value).cells (0 * 2)) 23)) := by
    intro w
    have := run_make (P := Tryz.prog) w 40 23 i0 _ Tryz.underlying40 hi hz0 .i64 .i64 0 0 (by omega) (by omega) (by rw [hz2]; omega) (by omega)
    rw [hz1] at this
    simpa using this
  go_enter Tryz.func66, Tryz.ntmps66
  go_wp2_with (go_at_call 137; refine (HA.out _).mono ?_; rintro e w1 ⟨rfl, hn⟩; have HN1 := Lib.hid hn; clear hn)
  go_loopw [22] (fun i wr => i = .int .i64 0 ∧ New w1 wr) (fun _ _ => 0)
  case atStart => exact ⟨rfl, (New.refl _).alloc _⟩
  case round =>
    obtain ⟨rfl, hn⟩ := hrel
    have HN2 := Lib.hid (HN1.out.trans hn)
    clear hn
    obtain ⟨wl, rfl⟩ : ∃ wl : World, wl = wr := ⟨_, rfl⟩
    go_wp2_with fail
    go_loopw [8, 36] (fun v i wr => (v = .slice none 0 0 ∧ i = .int .i64 0) ∧ New wl wr) (fun _ _ _ => 0)
    case atStart => exact ⟨⟨rfl, rfl⟩, New.refl _⟩
    case round =>
      obtain ⟨⟨rfl, rfl⟩, hn⟩ := hrel
      have HN3 := Lib.hid (HN2.out.trans hn)
      clear hn
      go_wp2_with (first | (go_at_call 138; refine (HS.out _).mono ?_; rintro e w3 ⟨rfl, hn⟩; have HN4 := Lib.hid (HN3.out.trans hn); clear hn) | (go_at_call 140; refine (HP.out _).mono ?_; rintro e w4 ⟨rfl, hn⟩; have HN5 := Lib.hid (HN4.out.trans hn); clear hn))
      go_ret2
      exact ⟨rfl, HN5.out⟩
set_option maxHeartbeats 4000000 in
theorem split_err (b off n c : Nat) (l : List S4) (E : Int) (w : World) (hl : n ≤ 1000000) (hw : Segs w b off n l) (hE : E ≠ 0) (hA : ∀ en, ApartIs l en → en = .returned (.int .i64 E)) : Calls Tryz.prog 66 #[.slice (some ⟨b, off, none⟩) n c] w fun en w' => en = .returned (.tuple #[.slice none 0 0, .int .i64 E]) ∧ New w w' := by
  have HCK := Lib.hid ((checkApart_c b off n c l w (by omega) hw).mono fun e w' h => (⟨hA e h.1, h.2⟩ : e = .returned (.int .i64 E) ∧ New w w'))
  have hq1 : (E == 0) = false := by simpa using hE
  have hq2 : (E != 0) = true := by simpa using hE
  clear hw hA hE
  go_enter Tryz.func66, Tryz.ntmps66
  go_wp2_with (first | (go_at_call 137; refine HCK.out.mono ?_; rintro e w1 ⟨rfl, hn1⟩; have HN1 := Lib.hid hn1; clear hn1))
  go_ret2
  exact ⟨rfl, HN1.out⟩
theorem okSegs_ck {l : List S4} (hk : ckSegs l = 0) : okSegs l = true := by
  unfold ckSegs at hk
  split at hk
  · cases hk
  · split at hk
    · assumption
    · cases hk
theorem split_good (b off n c : Nat) (l : List S4) (w : World) (h0 : 0 < n) (hl : n ≤ 400) (hw : Segs w b off n l) (hk : ckSegs l = 0) (hf : RowsFree l l.length l.length) : Calls Tryz.prog 66 #[.slice (some ⟨b, off, none⟩) n c] w fun en w' => ∃ r, en = .returned (.tuple #[r, .int .i64 0]) ∧ SegsR w' r (splitL l) ∧ New w w' := by
  have hok := okSegs_ck hk
  refine (split_yes b off n c l w h0 hl hw (fun i => ?_) (fun en h => ?_) (fun k hk => ?_)).mono ?_
  · by_cases hi : i < l.length
    · have := ckSegs_bd hk i hi; exact ⟨⟨this.1, this.2.1⟩, this.2.2.1, this.2.2.2⟩
    · simp [q1, q2, q3, q4, List.getD_eq_getElem?_getD, List.getElem?_eq_none (Nat.le_of_not_lt hi)]
  · rcases h with ⟨h1, _⟩ | ⟨_, _, h3⟩ | ⟨_, ⟨i, j, h3, h4, h5⟩, _⟩
    · exact absurd hk h1
    · exact h3
    · rw [hf i (by omega) j h3 h4] at h5; cases h5
  · have := pieces_pos hok (show k < l.length by rw [hw.1]; exact hk)
    rw [hw.1] at this; exact this
  · rintro en w' ⟨g, cap, rfl, ho, hn⟩
    exact ⟨_, rfl, ⟨_, cap, rfl, (own_cap ho).1, fun _ => ⟨g, rfl, segs_own ho rfl⟩⟩, hn⟩
theorem split_bad (b off n c : Nat) (l : List S4) (hl : n ≤ 1000000) (h : ¬ (ckSegs l = 0 ∧ RowsFree l l.length l.length)) : ∃ E : Int, E ≠ 0 ∧ ∀ w : World, Segs w b off n l → Calls Tryz.prog 66 #[.slice (some ⟨b, off, none⟩) n c] w fun en w' => en = .returned (.tuple #[.slice none 0 0, .int .i64 E]) ∧ New w w' := by
  by_cases hk : ckSegs l = 0
  · have hf : ¬ RowsFree l l.length l.length := fun hf => h ⟨hk, hf⟩
    refine ⟨10, by decide, fun w hw => split_err b off n c l 10 w hl hw (by decide) (fun en h => ?_)⟩
    rcases h with ⟨h1, _⟩ | ⟨_, h2, _⟩ | ⟨_, _, h3⟩
    · exact absurd hk h1
    · exact absurd h2 hf
    · exact h3
  · refine ⟨ckSegs l, hk, fun w hw => split_err b off n c l (ckSegs l) w hl hw hk (fun en h => ?_)⟩
    rcases h with ⟨_, h2⟩ | ⟨h1, _⟩ | ⟨h1, _⟩
    · exact h2
    · exact absurd h1 hk
    · exact absurd h1 hk

end Go.Proofs.YtpdfbboagaflhaaGreat

/- taken out of Sb -/
namespace Go.Proofs.YtpdfbboagaflhaaGreat
open Go.RowKit
theorem segs_part {w : World} {b off n : Nat} {l : List S4} (h : Segs w b off n l) (f m : Nat) (hm : f + m ≤ n) : ∀ j u, (segCells ((l.drop f).take m))[j]? = some u → w.cell? ((⟨b, off + f * 4, none⟩ : Addr).add j) = some u := by
  obtain ⟨h1, h2, h3⟩ := h
  intro j u hu
  have hadd : (⟨b, off + f * 4, none⟩ : Addr).add j = ⟨b, off + f * 4 + j, none⟩ := by unfold Addr.add; split <;> simp_all
  rw [hadd]
  have hj : j < m * 4 := by
    have := (List.getElem?_eq_some_iff.1 hu).1
    rw [segCells_length] at this
    simp at this; omega
  have hlen : j / 4 < ((l.drop f).take m).length := by simp; omega
  have e1 : q1 ((l.drop f).take m) (j / 4) = q1 l (f + j / 4) := by simp [q1, List.getD_eq_getElem?_getD, show j / 4 < m by omega]
  have e2 : q2 ((l.drop f).take m) (j / 4) = q2 l (f + j / 4) := by simp [q2, List.getD_eq_getElem?_getD, show j / 4 < m by omega]
  have e3 : q3 ((l.drop f).take m) (j / 4) = q3 l (f + j / 4) := by simp [q3, List.getD_eq_getElem?_getD, show j / 4 < m by omega]
  have e4 : q4 ((l.drop f).take m) (j / 4) = q4 l (f + j / 4) := by simp [q4, List.getD_eq_getElem?_getD, show j / 4 < m by omega]
  obtain ⟨a1, a2, a3, a4⟩ := segCells_at _ _ hlen
  obtain ⟨b1, b2, b3, b4⟩ := h3 (f + j / 4) (by omega)
  have hm4 : j % 4 = 0 ∨ j % 4 = 1 ∨ j % 4 = 2 ∨ j % 4 = 3 := by omega
  rcases hm4 with hp | hp | hp | hp
  · rw [show j / 4 * 4 = j by omega, hu, e1] at a1
    rw [show off + f * 4 + j = off + (f + j / 4) * 4 by omega, b1, a1]
  · rw [show j / 4 * 4 + 1 = j by omega, hu, e2] at a2
    rw [show off + f * 4 + j = off + (f + j / 4) * 4 + 1 by omega, b2, a2]
  · rw [show j / 4 * 4 + 2 = j by omega, hu, e3] at a3
    rw [show off + f * 4 + j = off + (f + j / 4) * 4 + 2 by omega, b3, a3]
  · rw [show j / 4 * 4 + 3 = j by omega, hu, e4] at a4
    rw [show off + f * 4 + j = off + (f + j / 4) * 4 + 3 by omega, b4, a4]
end Go.Proofs.YtpdfbboagaflhaaGreat
