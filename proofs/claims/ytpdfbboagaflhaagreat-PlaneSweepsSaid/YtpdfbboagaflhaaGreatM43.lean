/- What Triangles returns, ear by ear. From one to 1000000 points; where the polygon is simple, at least three corners of its normal form. -/
import Derived.Test.YtpdfbboagaflhaaGreatM40
import Derived.Test.YtpdfbboagaflhaaGreatM42
import Derived.LoopTactic
import Derived.Deep.LoopGhost
import Derived.Deep.AppendLies

namespace Go.Proofs.YtpdfbboagaflhaaGreat
open Go.RowKit

theorem info75 : (Tryz.prog.info? 75).map (fun i => (i.zero, i.size, i.bytes)) = some (some (tv 0 0 0 0 0 0), 6, 48) := by kernel_rfl
abbrev T6 := P2 × P2 × P2
def trCells (t : List T6) : List Value := t.flatMap fun s => [.int .i64 s.1.1, .int .i64 s.1.2, .int .i64 s.2.1.1, .int .i64 s.2.1.2, .int .i64 s.2.2.1, .int .i64 s.2.2.2]
theorem trCells_snoc (t : List T6) (a b c d e f : Int) : trCells (t ++ [((a, b), (c, d), (e, f))]) = trCells t ++ [.int .i64 a, .int .i64 b, .int .i64 c, .int .i64 d, .int .i64 e, .int .i64 f] := by simp [trCells]
def pAt (l : List P2) (i : Nat) : P2 := (px l i, py l i)
def trAt (l : List P2) (n k : Nat) : T6 := (pAt l ((k + n - 1) % n), pAt l k, pAt l ((k + 1) % n))
theorem earFrom_lt (l : List P2) (n : Nat) : ∀ m k, 0 < n → k + m ≤ n → earFrom l n m k < n
  | 0, k, h, _ => h
  | m + 1, k, h, hk => by simp only [earFrom]; split; omega; exact earFrom_lt l n m (k + 1) h (by omega)
theorem earI_lt (l : List P2) (n : Nat) (h : 0 < n) : earI l n < n := earFrom_lt l n n 0 h (by omega)
/-- the triangles that are still to be cut off, behind those that are -/
def earsF : Nat → List P2 → List T6 → List T6
  | 0, _, t => t
  | f + 1, r, t => if 3 < r.length then earsF f (r.eraseIdx (earI r r.length)) (t ++ [trAt r r.length (earI r r.length)]) else t ++ [(pAt r 0, pAt r 1, pAt r 2)]
def trisL (l : List P2) : List T6 := earsF (normL l).length (normL l) []
theorem bdL_erase {r : List P2} (h : bdL r) (i : Nat) : bdL (r.eraseIdx i) := by
  intro j
  have h1 := h j
  have h2 := h (j + 1)
  simp only [px, py, List.getD_eq_getElem?_getD, List.getElem?_eraseIdx] at *
  split
  · exact h1
  · exact h2
theorem earsF_len : ∀ (f : Nat) (r : List P2) (t : List T6), 3 ≤ r.length → r.length ≤ f → (earsF f r t).length = t.length + r.length - 2
  | 0, r, t, h, hf => by omega
  | f + 1, r, t, h, hf => by
    simp only [earsF]
    have hl := earI_lt r r.length (by omega)
    split
    · rw [earsF_len f _ _ (by rw [List.length_eraseIdx]; split <;> omega) (by rw [List.length_eraseIdx]; split <;> omega), List.length_eraseIdx, if_pos hl]
      simp; omega
    · simp; omega

set_option maxRecDepth 1000000 in
set_option maxHeartbeats 8000000 in
theorem triangles_yes (b off n c : Nat) (l : List P2) (w : World) (h0 : 0 < n) (hl : n ≤ 1000000) (hw : Pts w b off n l) (hp : polyI l = 0) (h3 : 3 ≤ (normB l).length) (hbn : bdL (normL l)) :
    Calls Tryz.prog 59 #[.slice (some ⟨b, off, none⟩) n c] w fun en w' => ∃ g cap, en = .returned (.tuple #[.slice (some ⟨g, 0, none⟩) (trisL l).length cap, .int .i64 0]) ∧ w'.ownsRow w.heap.size 75 6 (.slice (some ⟨g, 0, none⟩) (trisL l).length cap) (trisL l).length (trCells (trisL l)) ∧ New w w' := by
  obtain ⟨i0, hi, hz0, hz1, hz2⟩ := info_parts info75
  have HW := Lib.hid hw
  have HNO := Lib.hid (normal_yes b off n c l w h0 hl hw hp (by omega))
  have hlen := normL_length l (by omega)
  have HLEN := Lib.hid hlen
  have HBN := Lib.hid hbn
  have hle : (normB l).length ≤ 1000000 := by have := bendsTo_le l l.length l.length; have h2 := hw.1; unfold normB; omega
  clear hp hw hbn
  generalize hm : (normB l).length = m at *
  clear hm
  have hmk : ∀ w : World, (Instr.makeSlice 53 (.int .i64 0) (.int .i64 ((m : Int) - 2))).run Tryz.prog w = .ok (.slice (some ⟨w.heap.size, 0, none⟩) 0 (m - 2)) (w.alloc (.cells (madeCells (tv 0 0 0 0 0 0).cells ((m - 2) * 6)) 75)) := by
    intro w
    have := run_make (P := Tryz.prog) w 53 75 i0 _ Tryz.underlying53 hi hz0 .i64 .i64 0 (m - 2) (by omega) (by omega) (by rw [hz2]; omega) (by omega)
    rw [hz1, show ((m : Int) - 2).toNat = m - 2 by omega] at this
    simpa using this
  have hm2 : (m : Int) - 2 ≥ 0 := by omega
  clear hlen
  go_enter Tryz.func59, Tryz.ntmps59
  go_wp2_with (first | (go_at_call 50; refine HNO.out.mono ?_; rintro e w2 ⟨g, cap, rfl, ho2, hn2⟩; have HO2 := Lib.hid ho2; have HN2 := Lib.hid hn2; clear ho2 hn2))
  have hgl := HO2.out.lt g rfl
  have HW0 := Lib.hid (show New w (w2.alloc (.cells (madeCells (tv 0 0 0 0 0 0).cells ((m - 2) * 6)) 75)) from HN2.out.alloc _)
  have HOUT := Lib.hid (show (w2.alloc (.cells (madeCells (tv 0 0 0 0 0 0).cells ((m - 2) * 6)) 75)).ownsRow w.heap.size 75 6 (.slice (some ⟨w2.heap.size, 0, none⟩) 0 (m - 2)) 0 [] from World.ownsRow_made _ _ _ HN2.out.size (by unfold maxLen; omega) (by simp [size_madeCells]))
  have HREST := Lib.hid (own_new HO2.out ((New.refl w2).alloc (.cells (madeCells (tv 0 0 0 0 0 0).cells ((m - 2) * 6)) 75)))
  go_loopg [4, 6] m (fun gh s4 s6 wx => ∃ (cap g6 cap6 : Nat) (r : List P2) (tr : List T6), s4 = .slice (some ⟨g, 0, none⟩) r.length cap ∧ s6 = .slice (some ⟨g6, 0, none⟩) tr.length cap6 ∧ 3 ≤ r.length ∧ r.length + tr.length = m ∧ r.length ≤ gh ∧ g6 ≠ g ∧ bdL r ∧ earsF r.length r tr = trisL l ∧ wx.ownsRow w.heap.size 23 2 (.slice (some ⟨g, 0, none⟩) r.length cap) r.length (ptCells r) ∧ wx.ownsRow w.heap.size 75 6 (.slice (some ⟨g6, 0, none⟩) tr.length cap6) tr.length (trCells tr) ∧ New w wx)
  case atStart => exact ⟨cap, w2.heap.size, m - 2, normL l, [], by rw [HLEN.out], rfl, by rw [HLEN.out]; exact h3, by rw [HLEN.out]; rfl, by rw [HLEN.out]; exact Nat.le_refl _, by omega, HBN.out, rfl, by rw [HLEN.out]; exact HREST.out, HOUT.out, HW0.out⟩
  case round =>
    obtain ⟨cap, g6, cap6, r, tr, rfl, rfl, hr3, hrt, hrg, hgne, hbr, hears, hor, hot, hnew⟩ := hrel
    have HOR := Lib.hid hor
    have HOT := Lib.hid hot
    have HNEW := Lib.hid hnew
    have HBR := Lib.hid hbr
    have HE := Lib.hid hears
    have hcap := (own_cap hor).1
    clear hor hot hnew hbr hears
    generalize hk : r.length = k at *
    generalize hq : tr.length = q at *
    have HK := Lib.hid hk
    have HQ := Lib.hid hq
    clear hk hq
    have HPT := Lib.hid (pts_own HOR.out HK.out)
    by_cases h4 : 3 < k
    · have hE := earI_lt r k (by omega)
      generalize hEE : earI r k = E at *
      have HEE := Lib.hid hEE
      have HFE := Lib.hid (show ∀ w1 : World, New wr w1 → Calls Tryz.prog 129 #[.slice (some ⟨g, 0, none⟩) k cap] w1 fun en w' => en = .returned (.int .i64 (E : Int)) ∧ New w1 w' from fun w1 h1 => by rw [← hEE]; exact firstEar_c _ _ _ _ r w1 (by omega) (HPT.out.new h1) HBR.out)
      have HTR := Lib.hid (fun (w1 : World) (h1 : New wr w1) => triangleAt_c g 0 k cap E r w1 hE (by omega) (HPT.out.new h1))
      have HTA := Lib.hid (show trAt r k E = ((px r ((E + k - 1) % k), py r ((E + k - 1) % k)), (px r E, py r E), (px r ((E + 1) % k), py r ((E + 1) % k))) from rfl)
      clear hEE
      generalize px r ((E + k - 1) % k) = A1 at *
      generalize py r ((E + k - 1) % k) = A2 at *
      generalize px r E = B1 at *
      generalize py r E = B2 at *
      generalize px r ((E + 1) % k) = C1 at *
      generalize py r ((E + 1) % k) = C2 at *
      go_wp2_with (first | (go_at_call 129; refine (HFE.out _ (New.refl _)).mono ?_; rintro e w3 ⟨rfl, hn3⟩; have HN3 := Lib.hid hn3; clear hn3) | (go_at_call 130; refine (HTR.out _ HN3.out).mono ?_; rintro e w4 ⟨rfl, hn4⟩; have HN4 := Lib.hid hn4; clear hn4) | (at_builtin; refine wpList_append_lies _ rfl (.tmp 25) (.tmp 29) 53 rfl w.heap.size 75 i0 _ 6 48 Tryz.underlying53 hi hz0 hz1 hz2 rfl (by omega) (.slice (some ⟨g6, 0, none⟩) q cap6) q (trCells tr) rfl ?_ _ 1 1 [.int .i64 A1, .int .i64 A2, .int .i64 B1, .int .i64 B2, .int .i64 C1, .int .i64 C2] rfl rfl ?_ ?_ (by omega) ?_ ?_ ?_ _ rfl ?_; exact own_new HOT.out ((HN3.out.trans HN4.out).alloc _); (refine cells_new _ _ _ _ ?_); (simp [go_sem]); (intro u hu; simp at hu; rcases hu with rfl | rfl | rfl | rfl | rfl | rfl <;> rfl); (unfold maxLen; omega); omega; (have hz1 := HNEW.out.size; have hz2 := (HN3.out.trans HN4.out).size; simp [go_sem]; omega); intro g4 cap4 w5 hown5 hgrow5 hor5 hlt5; have HNW5 := Lib.hid (show New w w5 from new_grown (HNEW.out.trans ((HN3.out.trans HN4.out).alloc _)) hgrow5 HOT.out); have HO5 := Lib.hid hown5; have HR5 := Lib.hid (show w5.ownsRow w.heap.size 23 2 (.slice (some ⟨g, 0, none⟩) k cap) k (ptCells r) from (own_new HOR.out ((HN3.out.trans HN4.out).alloc _)).kept hgrow5 (.inr (by simp [Value.ownBlock]; exact Ne.symm hgne))); have HNE5 := Lib.hid (show g4 ≠ g from by rcases hor5 with h | h; simp [Value.ownBlock] at h; omega; have := HOR.out.lt g rfl; have h9 := (HN3.out.trans HN4.out).size; simp at h; omega); clear hown5 hgrow5 hor5 hlt5) | (go_at_call 131; refine (deleteP_c w.heap.size g k cap E r _ (by omega) HK.out hE HR5.out).mono ?_; rintro e w6 ⟨rfl, ho6, hg6⟩; have HO6 := Lib.hid ho6; have HG6 := Lib.hid hg6; clear ho6 hg6))
      have HLE := Lib.hid (show (r.eraseIdx E).length = k - 1 by rw [List.length_eraseIdx, if_pos (by rw [HK.out]; exact hE), HK.out])
      have HLT := Lib.hid (show (tr ++ [trAt r k E]).length = q + 1 by rw [List.length_append, HQ.out]; rfl)
      have HEN := Lib.hid (show earsF (k - 1) (r.eraseIdx E) (tr ++ [trAt r k E]) = trisL l by
        have h1 := HE.out
        obtain ⟨f, rfl⟩ : ∃ f, k = f + 1 := ⟨k - 1, by omega⟩
        simp only [earsF] at h1
        rw [if_pos (by rw [HK.out]; exact h4), HK.out, HEE.out] at h1
        exact h1)
      go_roundg (k - 1)
      case measure => omega
      case rel => exact ⟨cap, g4, cap4, r.eraseIdx E, tr ++ [trAt r k E], by rw [HLE.out], by rw [HLT.out], by rw [HLE.out]; omega, by rw [HLE.out, HLT.out]; omega, by rw [HLE.out]; exact Nat.le_refl _, HNE5.out, bdL_erase HBR.out E, by rw [HLE.out]; exact HEN.out, by rw [HLE.out]; exact HO6.out, by rw [HLT.out, HTA.out, trCells_snoc]; exact HO5.out.kept HG6.out (.inr (by simp [Value.ownBlock]; exact HNE5.out)), new_grownBy HNW5.out HG6.out (HOR.out.lt g rfl).1⟩
    · have hk3 : k = 3 := by omega
      obtain ⟨⟨a1, a2⟩, _⟩ := own_pt HOR.out HK.out (show 0 < k by omega)
      obtain ⟨⟨b1, b2⟩, _⟩ := own_pt HOR.out HK.out (show 1 < k by omega)
      obtain ⟨⟨c1, c2⟩, _⟩ := own_pt HOR.out HK.out (show 2 < k by omega)
      simp only [Nat.zero_mul, Nat.one_mul, Nat.zero_add, Nat.reduceMul, Nat.reduceAdd] at a1 a2 b1 b2 c1 c2
      have hk0 : (0 : Int) < (k : Int) := by omega
      have hk1 : (1 : Int) < (k : Int) := by omega
      have hk2 : (2 : Int) < (k : Int) := by omega
      have HEN := Lib.hid (show tr ++ [((px r 0, py r 0), (px r 1, py r 1), (px r 2, py r 2))] = trisL l by
        have h1 := HE.out
        obtain ⟨f, rfl⟩ : ∃ f, k = f + 1 := ⟨k - 1, by omega⟩
        simp only [earsF] at h1
        rw [if_neg (by rw [HK.out]; exact h4)] at h1
        exact h1)
      have hgl2 := (HOR.out.lt g rfl).2
      have hbase := HNEW.out.size
      generalize px r 0 = A1 at *
      generalize py r 0 = A2 at *
      generalize px r 1 = B1 at *
      generalize py r 1 = B2 at *
      generalize px r 2 = C1 at *
      generalize py r 2 = C2 at *
      subst hk3
      clear hk0 hk1 hk2 hr3 h4
      have HLEN3 := Lib.hid (show q + 1 = (trisL l).length by rw [← HEN.out, List.length_append, HQ.out]; rfl)
      go_wp2_with fail
      go_region_law (first | (refine step_append_lies _ ?_ (.tmp 36) (.tmp 47) 53 ?_ w.heap.size 75 i0 _ 6 48 Tryz.underlying53 hi hz0 hz1 hz2 rfl (by omega) (.slice (some ⟨g6, 0, none⟩) q cap6) q (trCells tr) ?_ ?_ ⟨wr.heap.size, 0, none⟩ 1 1 [.int .i64 A1, .int .i64 A2, .int .i64 B1, .int .i64 B2, .int .i64 C1, .int .i64 C2] ?_ rfl ?_ ?_ (by omega) ?_ ?_ ?_ _ rfl ?_; exact rfl; exact rfl; exact rfl; exact own_new HOT.out ((New.refl wr).drew.alloc _); exact rfl; (refine cells_new _ _ _ _ ?_); (simp [go_sem]); (intro u hu; simp at hu; rcases hu with rfl | rfl | rfl | rfl | rfl | rfl <;> rfl); (unfold maxLen; omega); omega; (simp [go_sem]; omega); intro g4 cap4 w5 hown5 hgrow5 hor5 hlt5))
      all_goals (go_wp2_with fail; go_ret2; exact ⟨g4, cap4, by rw [← HLEN3.out]; rfl, by rw [← HLEN3.out, ← HEN.out, trCells_snoc]; exact hown5, new_grown (HNEW.out.trans ((New.refl wr).drew.alloc _)) hgrow5 HOT.out⟩)

end Go.Proofs.YtpdfbboagaflhaaGreat
