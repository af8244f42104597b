/- The X of the ends of segments, ascending, each once, as endXs returns them. From one to 400 segments. -/
import Derived.Test.YtpdfbboagaflhaaGreatM23
import Derived.Shelf.Sort.Plain
import Derived.Shelf.Slices.CompactI
import Derived.Ground.NamesProg
import Derived.Ground.Names2Prog
import Derived.LoopTactic
import Derived.Deep.AppendLies
import Derived.Outline
import Derived.Test.YtpdfbboagaflhaaGreatM03

namespace Go.Proofs.YtpdfbboagaflhaaGreat
open Go.RowKit Go.Shelf Go.Lib Go.Sort


set_option maxHeartbeats 1000000 in
theorem sortI_c (base g n cap : Nat) (l : List Int) (w : World) (hl : n ≤ 1000000) (hn : l.length = n) (ho : w.ownsRow base 3 1 (.slice (some ⟨g, 0, none⟩) n cap) n (inCells l)) :
    Calls Tryz.prog 211 #[.slice (some ⟨g, 0, none⟩) n cap] w fun en w' => en = .returned (.tuple #[]) ∧ w'.ownsRow base 3 1 (.slice (some ⟨g, 0, none⟩) n cap) n (inCells (sortI l)) ∧ w.grownBy w' (some g) := by
  have hcon := Any.slices_Sort_int Tryz.sortInts g 0 cap l w (own_holds1 (enc := Value.int .i64) ho) (ho.lt g rfl).2 (by omega)
  change Calls Tryz.prog 211 _ _ _ at hcon
  rw [hn] at hcon
  refine hcon.mono fun e w' ⟨he, m, os, hw⟩ => ⟨he, ?_⟩
  rw [hw]
  exact own_put1 (enc := Value.int .i64) ho (sortI l).toArray (by rw [List.size_toArray, sortI_length, hn]) m os

theorem compact_le (l : List Int) : (Lib.compact l).length ≤ l.length := by
  unfold Lib.compact compactUpTo
  rw [List.length_map]
  exact Nat.le_trans (List.length_filter_le _ _) (by simp)

set_option maxHeartbeats 1000000 in
theorem compactI_c (base g n cap : Nat) (l : List Int) (w : World) (hl : n ≤ 1000000) (hn : l.length = n) (ho : w.ownsRow base 3 1 (.slice (some ⟨g, 0, none⟩) n cap) n (inCells l)) :
    Calls Tryz.prog 212 #[.slice (some ⟨g, 0, none⟩) n cap] w fun en w' => en = .returned (.slice (some ⟨g, 0, none⟩) (Lib.compact l).length cap) ∧ w'.ownsRow base 3 1 (.slice (some ⟨g, 0, none⟩) (Lib.compact l).length cap) (Lib.compact l).length (inCells (Lib.compact l)) ∧ w.grownBy w' (some g) := by
  have hcon := Any.slices_Compact_int Tryz.compInts g 0 cap l w (own_holds1 (enc := Value.int .i64) ho) (by omega) (by rw [hn]; exact (own_cap ho).1)
  change Calls Tryz.prog 212 _ _ _ at hcon
  rw [hn] at hcon
  have hle := compact_le l
  rw [hn] at hle
  refine hcon.mono fun e w' ⟨he, m, hw⟩ => ⟨he, ?_⟩
  have h1 := own_put1 (enc := Value.int .i64) ho (Lib.compact l ++ List.replicate (n - (Lib.compact l).length) 0).toArray (by simp; omega) m #[]
  rw [grow_empty, ← hw] at h1
  refine ⟨?_, h1.2⟩
  have h2 := own_prefix h1.1 (Lib.compact l).length hle
  have e : ((Lib.compact l ++ List.replicate (n - (Lib.compact l).length) 0).toArray.toList.map (Value.int .i64)).take ((Lib.compact l).length * 1) = inCells (Lib.compact l) := by
    simp [inCells]
  rw [e] at h2
  exact h2

set_option maxRecDepth 100000 in
set_option maxHeartbeats 4000000 in
theorem endXs_c (b off n cp : Nat) (l : List S4) (w : World) (h0 : 0 < n) (hl : n ≤ 400) (hw : Segs w b off n l) :
    Calls Tryz.prog 180 #[.slice (some ⟨b, off, none⟩) n cp] w fun en w' => ∃ g cap, en = .returned (.slice (some ⟨g, 0, none⟩) (endXsL l).length cap) ∧ w'.ownsRow w.heap.size 3 1 (.slice (some ⟨g, 0, none⟩) (endXsL l).length cap) (endXsL l).length (inCells (endXsL l)) ∧ New w w' := by
  obtain ⟨i0, hi, hz0, hz1, hz2⟩ := info_parts info3
  have HW := Lib.hid hw
  have HN := Lib.hid hw.1
  have hblt := hw.2.1
  have hmk : ∀ w : World, (Instr.makeSlice 82 (.int .i64 0) (.int .i64 (2 * (n : Int)))).run Tryz.prog w = .ok (.slice (some ⟨w.heap.size, 0, none⟩) 0 (2 * n)) (w.alloc (.cells (madeCells (.int .i64 0 : Value).cells (2 * n * 1)) 3)) := by
    intro w
    have := run_make (P := Tryz.prog) w 82 3 i0 _ Tryz.underlying82 hi hz0 .i64 .i64 0 (2 * n) (by omega) (by omega) (by rw [hz2]; omega) (by omega)
    rw [hz1, show ((2 * (n : Int)).toNat) = 2 * n by omega] at this
    simpa using this
  have HOUT := Lib.hid (show (w.alloc (.cells (madeCells (.int .i64 0 : Value).cells (2 * n * 1)) 3)).ownsRow w.heap.size 3 1 (.slice (some ⟨w.heap.size, 0, none⟩) 0 (2 * n)) 0 [] from World.ownsRow_made _ _ _ (Nat.le_refl _) (by unfold maxLen; omega) (by simp [size_madeCells]))
  clear hw
  go_enter Tryz.func180, Tryz.ntmps180
  go_wp2_with fail
  go_loopw [3, 12] (fun v i wr => ∃ (k g c : Nat), k ≤ n ∧ i = .int .i64 k ∧ v = .slice (some ⟨g, 0, none⟩) (2 * k) c ∧ wr.ownsRow w.heap.size 3 1 (.slice (some ⟨g, 0, none⟩) (2 * k) c) (2 * k) (inCells (xsTo l k)) ∧ New w wr) (fun _ i _ => n - (intOf i).toNat)
  case atStart => exact ⟨0, w.heap.size, 2 * n, Nat.zero_le _, rfl, rfl, by have := HOUT.out; rw [Nat.mul_one] at this; exact this, (New.refl _).alloc _⟩
  case round =>
    obtain ⟨k, g, c, hk, rfl, rfl, hown, hnew⟩ := hrel
    have HOWN := Lib.hid hown
    have HNEW := Lib.hid hnew
    clear hown hnew
    by_cases hlt : k < n
    · obtain ⟨c1, c2, c3, c4⟩ := ((HW.out.new HNEW.out).2.2) k hlt
      have HES := Lib.hid (show inCells (xsTo l (k + 1)) = inCells (xsTo l k) ++ [.int .i64 (q1 l k), .int .i64 (q3 l k)] by simp only [xsTo]; rw [inCells_two])
      generalize q1 l k = A1 at *
      generalize q2 l k = A2 at *
      generalize q3 l k = B1 at *
      generalize q4 l k = B2 at *
      go_wp2_with (at_builtin; refine wpList_append_lies _ rfl (.tmp 16) (.tmp 23) 82 rfl w.heap.size 3 i0 _ 1 8 Tryz.underlying82 hi hz0 hz1 hz2 rfl (by omega) (.slice (some ⟨g, 0, none⟩) (2 * k) c) (2 * k) (inCells (xsTo l k)) rfl ?_ _ 2 2 [.int .i64 A1, .int .i64 B1] rfl rfl ?_ ?_ (by omega) ?_ ?_ ?_ _ rfl ?_; exact own_new HOWN.out (by (repeat (first | exact New.refl _ | apply New.alloc | apply New.aft | apply New.drew | refine New.setCell ?_ ?_ _)); all_goals (first | done | (simp [size_aft]; done) | (simp [size_aft]; omega))); (refine cells_new _ _ _ _ ?_); (simp [go_sem]); (intro u hu; simp at hu; rcases hu with rfl | rfl <;> rfl); (unfold maxLen; omega); omega; (have hz := HNEW.out.size; simp [go_sem]; omega); intro g4 cap4 w4 hown4 hgrow4 hor4 hlt4; have HNW4 := Lib.hid (show New w w4 from new_grown (HNEW.out.trans (by (repeat (first | exact New.refl _ | apply New.alloc | apply New.aft | apply New.drew | refine New.setCell ?_ ?_ _)); all_goals (first | done | (simp [size_aft]; done) | (simp [size_aft]; omega)))) hgrow4 HOWN.out); have HO4 := Lib.hid hown4; clear hown4 hgrow4 hor4 hlt4)
      go_roundw
      case rel => exact ⟨k + 1, g4, cap4, by omega, by go_num, by rw [show 2 * (k + 1) = 2 * k + 2 by omega], by rw [show 2 * (k + 1) = 2 * k + 2 by omega, HES.out]; exact HO4.out, HNW4.out⟩
      case measure => simp [intOf]; omega
    · have hkn : k = n := by omega
      subst hkn
      have HXL := Lib.hid (xsTo_length l k)
      have HEX := Lib.hid (show endXsL l = Lib.compact (sortI (xsTo l k)) by unfold endXsL; rw [HN.out])
      have HGB := Lib.hid (HOWN.out.lt g rfl).1
      go_wp2_with (first | (go_at_call 211; refine (sortI_c w.heap.size g (2 * k) c (xsTo l k) _ (by omega) HXL.out HOWN.out).mono ?_; rintro e w3 ⟨rfl, ho3, hg3⟩; have HO3 := Lib.hid ho3; have HG3 := Lib.hid hg3; clear ho3 hg3) | (go_at_call 212; refine (compactI_c w.heap.size g (2 * k) c (sortI (xsTo l k)) _ (by omega) (by rw [sortI_length]; exact HXL.out) HO3.out).mono ?_; rw [← HEX.out]; rintro e w4 ⟨rfl, ho4, hg4⟩; have HO4 := Lib.hid ho4; have HG4 := Lib.hid (grownBy_trans HG3.out hg4); clear ho4 hg4))
      go_ret
      exact ⟨g, c, rfl, HO4.out, new_grownBy HNEW.out HG4.out HGB.out⟩

end Go.Proofs.YtpdfbboagaflhaaGreat
