/- What Hull returns of a list of points. From one to 1000000 points. -/
import Derived.Test.YtpdfbboagaflhaaGreatM27
import Derived.Test.YtpdfbboagaflhaaGreatM29
import Derived.Test.YtpdfbboagaflhaaGreatM38
import Derived.Test.YtpdfbboagaflhaaGreatM25
import Derived.Deep.RegionLaw

namespace Go.Proofs.YtpdfbboagaflhaaGreat
open Go.RowKit

def ptsL (l : List P2) : List P2 := ddTo (sortP l) l.length
def belowL (l : List P2) : List P2 := halfTo (ptsL l) (ptsL l).length
def aboveL (l : List P2) : List P2 := halfTo (revTo (ptsL l) (ptsL l).length (ptsL l).length) (ptsL l).length
def hullL (l : List P2) : List P2 := (belowL l).take ((belowL l).length - 1) ++ (aboveL l).take ((aboveL l).length - 1)
theorem popTo_pos {x y : Int} : ∀ (f : Nat) (o : List P2), 0 < o.length → 0 < (popTo x y f o).length
  | 0, _, h => h
  | f + 1, o, h => by
    simp only [popTo]
    split
    · rename_i hb
      have h2 := badTop_len hb
      exact popTo_pos f _ (by rw [List.length_take]; omega)
    · exact h
theorem halfTo_pos (l : List P2) (k : Nat) : 0 < (halfTo l (k + 1)).length := by simp [halfTo]
theorem halfTo_two (l : List P2) (k : Nat) : 2 ≤ (halfTo l (k + 2)).length := by
  have h := popTo_pos (x := px l (k + 1)) (y := py l (k + 1)) (halfTo l (k + 1)).length (halfTo l (k + 1)) (halfTo_pos l k)
  show 2 ≤ (popL (halfTo l (k + 1)) (px l (k + 1)) (py l (k + 1)) ++ [(px l (k + 1), py l (k + 1))]).length
  rw [List.length_append, List.length_singleton]
  unfold popL
  omega
theorem ptsL_le (l : List P2) : (ptsL l).length ≤ l.length := ddTo_le _ _

set_option maxRecDepth 1000000 in
set_option maxHeartbeats 8000000 in
theorem hull_many (b off n c : Nat) (l : List P2) (w : World) (h0 : 0 < n) (hl : n ≤ 1000000) (hw : Pts w b off n l) (hk : ckPts l 400 = 0) (hm2 : 2 ≤ (ptsL l).length) (hbd : bdL (ptsL l)) (hbr : bdL (revTo (ptsL l) (ptsL l).length (ptsL l).length)) :
    Calls Tryz.prog 57 #[.slice (some ⟨b, off, none⟩) n c] w fun en w' => ∃ g cap, en = .returned (.tuple #[.slice (some ⟨g, 0, none⟩) (hullL l).length cap, .int .i64 0]) ∧ w'.ownsRow w.heap.size 23 2 (.slice (some ⟨g, 0, none⟩) (hullL l).length cap) (hullL l).length (ptCells (hullL l)) ∧ New w w' := by
  obtain ⟨i0, hi, hz0, hz1, hz2⟩ := info_parts info23
  have HW := Lib.hid hw
  have HN := Lib.hid hw.1
  have HCK := Lib.hid (checkPoints_c b off n c l 400 w (by omega) hw)
  rw [hk] at HCK
  have HCL := Lib.hid (fun (w1 : World) (h1 : New w w1) => cloneP_c b off n c l w1 h0 hl (hw.new h1))
  have HBD := Lib.hid hbd
  have HBR := Lib.hid hbr
  have hle := ptsL_le l
  rw [hw.1] at hle
  have HPE := Lib.hid (show ddTo (sortP l) n = ptsL l by unfold ptsL; rw [hw.1])
  have hb2 : 2 ≤ (belowL l).length := by unfold belowL; obtain ⟨k, hk⟩ : ∃ k, (ptsL l).length = k + 2 := ⟨(ptsL l).length - 2, by omega⟩; rw [hk]; exact halfTo_two _ _
  have ha2 : 2 ≤ (aboveL l).length := by unfold aboveL; obtain ⟨k, hk⟩ : ∃ k, (ptsL l).length = k + 2 := ⟨(ptsL l).length - 2, by omega⟩; rw [hk]; exact halfTo_two _ _
  have hb3 : (belowL l).length ≤ (ptsL l).length := halfTo_le _ _
  have ha3 : (aboveL l).length ≤ (ptsL l).length := halfTo_le _ _
  have HB := Lib.hid (show halfTo (ptsL l) (ptsL l).length = belowL l from rfl)
  have HA := Lib.hid (show halfTo (revTo (ptsL l) (ptsL l).length (ptsL l).length) (ptsL l).length = aboveL l from rfl)
  have HH := Lib.hid (show hullL l = (belowL l).take ((belowL l).length - 1) ++ (aboveL l).take ((aboveL l).length - 1) from rfl)
  clear hw hk hbd hbr
  generalize hullL l = HL at *
  generalize belowL l = BL at *
  generalize aboveL l = AL at *
  generalize ptsL l = PL at *
  generalize hm : PL.length = m at *
  have HM := Lib.hid hm
  clear hm
  go_enter Tryz.func57, Tryz.ntmps57
  go_wp2_with (first | (go_at_call 84; refine HCK.out.mono ?_; rintro e w1 ⟨rfl, hn1⟩; have HN1 := Lib.hid hn1; clear hn1) | (go_at_call 123; refine (HCL.out _ HN1.out).mono ?_; rintro e w2 ⟨g, cap, rfl, ho2, hn2⟩; have HO2 := Lib.hid ho2; have HN2 := Lib.hid (HN1.out.trans hn2); have HS := Lib.hid HN1.out.size; clear ho2 hn2) | (go_at_call 124; refine (sortP_c w1.heap.size g n cap l _ hl HN.out HO2.out).mono ?_; rintro e w3 ⟨rfl, ho3, hg3⟩; have HO3 := Lib.hid ho3; have HG3 := Lib.hid hg3; clear ho3 hg3) | (go_at_call 126; refine (compactP_c w1.heap.size g n cap (sortP l) _ hl (by rw [sortP_length]; exact HN.out) HO3.out).mono ?_; rw [HPE.out, HM.out]; rintro e w4 ⟨rfl, ho4, hg4⟩; have HO4 := Lib.hid ho4; have HG4 := Lib.hid (grownBy_trans HG3.out hg4); clear ho4 hg4))
  have HNEW4 := Lib.hid (new_grownBy HN2.out HG4.out (Nat.le_trans HS.out (HO2.out.lt g rfl).1))
  have HPL := Lib.hid (pts_own HO4.out HM.out)
  refine (halfHull_c _ _ _ _ PL _ (by omega) HPL.out HBD.out).mono ?_
  rintro e w5 ⟨a5, cap5, rfl, ho5, hn5⟩
  rw [HB.out] at ho5
  rw [HB.out]
  have HO5 := Lib.hid ho5
  have HN5 := Lib.hid hn5
  clear ho5 hn5
  generalize hbl : BL.length = nb at *
  have HBL := Lib.hid hbl
  clear hbl
  go_wp2_with (first | (go_at_call 113; refine (backwards_c _ _ _ _ PL _ (by omega) (by omega) (HPL.out.new HN5.out)).mono ?_; rintro e w6 ⟨g6, cap6, rfl, ho6, hn6⟩; have HO6 := Lib.hid ho6; have HN6 := Lib.hid hn6; clear ho6 hn6))
  refine (halfHull_c _ _ _ _ _ _ (by omega) (pts_own HO6.out (revTo_length _ _ _)) HBR.out).mono ?_
  rintro e w7 ⟨a7, cap7, rfl, ho7, hn7⟩
  rw [HA.out] at ho7
  rw [HA.out]
  have HO7 := Lib.hid ho7
  have HN7 := Lib.hid hn7
  clear ho7 hn7
  generalize hal : AL.length = na at *
  have HAL := Lib.hid hal
  clear hal
  obtain ⟨gb, capb, hbe, hbb, hbl⟩ := HO5.out.form (by omega)
  injection hbe with hbe1 hbe2 hbe3
  subst hbe1
  subst hbe3
  obtain ⟨ga, capa, hae, hab, hal⟩ := HO7.out.form (by omega)
  injection hae with hae1 hae2 hae3
  subst hae1
  subst hae3
  go_wp2_with fail
  have HOB := Lib.hid (own_prefix (own_new HO5.out (HN6.out.trans HN7.out)) (nb - 1) (by omega))
  have HOA := Lib.hid (own_prefix HO7.out (na - 1) (by omega))
  have hcb := (own_cap HOB.out).1
  have hca := (own_cap HOA.out).1
  have hcb2 := (own_cap HO5.out).1
  have hca2 := (own_cap HO7.out).1
  have ht1 : (1 : Int) ≤ (nb : Int) := by omega
  have ht2 : (1 : Int) ≤ (na : Int) := by omega
  have hp1 : (0 : Int) ≤ (nb : Int) - 1 := by omega
  have hp2 : (0 : Int) ≤ (na : Int) - 1 := by omega
  have hq1 : ((nb : Int) - 1).toNat = nb - 1 := by omega
  have hq2 : ((na : Int) - 1).toNat = na - 1 := by omega
  have hr1 : (nb : Int) - 1 ≤ (cap5 : Int) := by omega
  have hr2 : (na : Int) - 1 ≤ (cap7 : Int) := by omega
  have hs1 : nb - 1 ≤ cap5 := by omega
  have hs2 : na - 1 ≤ cap7 := by omega
  have hbase := ((HNEW4.out.trans HN5.out).trans (HN6.out.trans HN7.out)).size
  have HNEWS := Lib.hid (show ∀ j u, (ptCells (AL.take (na - 1)))[j]? = some u → w7.drew.cell? ((⟨ga, 0, none⟩ : Addr).add j) = some u from by
    have := (own_new HOA.out (New.refl w7).drew).cells (g := ga) rfl
    rwa [ptCells_take] at this)
  have HBB := Lib.hid (show w7.drew.ownsRow w.heap.size 23 2 (.slice (some ⟨gb, 0, none⟩) (nb - 1) cap5) (nb - 1) (ptCells (BL.take (nb - 1))) from by
    have := own_new HOB.out (New.refl w7).drew
    rw [ptCells_take] at this
    refine ⟨this.1, this.2.imp (fun h => h) (fun ⟨x1, x2, x3, x4, x5, x6⟩ => ⟨x1, x2, x3, x4, ?_, x6⟩)⟩
    exact Nat.le_trans HNEW4.out.size x5)
  have HLA := Lib.hid (show (ptCells (AL.take (na - 1))).length = (na - 1) * 2 by rw [ptCells_length, List.length_take, HAL.out, Nat.min_eq_left (by omega)])
  have HLH := Lib.hid (show HL.length = nb - 1 + (na - 1) by rw [HH.out, List.length_append, List.length_take, List.length_take, HAL.out, HBL.out]; omega)
  have HCH := Lib.hid (show ptCells HL = ptCells (BL.take (nb - 1)) ++ ptCells (AL.take (na - 1)) by rw [HH.out, ptCells_append])
  have HK1 := Lib.hid (show 0 < na - 1 by omega)
  have HK2 := Lib.hid (show nb - 1 + (na - 1) ≤ maxLen by unfold maxLen; omega)
  have HK3 := Lib.hid (show (nb - 1 + (na - 1)) * 16 ≤ 140737488355328 by omega)
  clear hcb hca hcb2 hca2
  have hw1 : IntKind.i64.wrap ((nb : Int) - 1) = (nb : Int) - 1 := by rw [IntKind.wrap_i64]; omega
  have hw2 : IntKind.i64.wrap ((na : Int) - 1) = (na : Int) - 1 := by rw [IntKind.wrap_i64]; omega
  go_region_law (refine step_append_lies _ rfl (.tmp 32) (.tmp 37) 40 rfl w.heap.size 23 i0 _ 2 16 Tryz.underlying40 hi hz0 hz1 hz2 rfl (by omega) (.slice (some ⟨gb, 0, none⟩) (nb - 1) cap5) (nb - 1) (ptCells (BL.take (nb - 1))) ?_ HBB.out ⟨ga, 0, none⟩ (na - 1) cap7 (ptCells (AL.take (na - 1))) ?_ HLA.out HNEWS.out (ptCells_one _) HK1.out HK2.out HK3.out hbase _ rfl ?_; (simp [Act.eval, Act.put]); (simp [Act.eval, Act.put]); intro g8 cap8 w8 hown8 hgrow8 hor8 hlt8)
  all_goals (go_wp2_with fail; go_ret2; exact ⟨g8, cap8, by rw [HLH.out]; rfl, by rw [HLH.out, HCH.out]; exact hown8, new_grown ((HNEW4.out.trans HN5.out).trans ((HN6.out.trans HN7.out).trans (New.refl w7).drew)) hgrow8 HBB.out⟩)

end Go.Proofs.YtpdfbboagaflhaaGreat
