/- The law OrderWaits: both sides' schedules are the same. Any problem and number. -/
import Derived.Test.YtiejefehcpfkaaaDoorWp
set_option linter.unusedSimpArgs false
set_option linter.unusedVariables false
set_option maxRecDepth 100000
namespace Go.Proofs.YtiejefehcpfkaaaDoor
open Go.RowKit Go.Shelf

attribute [local go_sem] Oper.semAt_some

theorem SlI.form {w : World} {v : Value} {l : List Int} (h : SlI w v l) : ∃ a c, v = .slice a l.length c := by
  obtain ⟨a, c, e, _⟩ := h
  exact ⟨a, c, e⟩
/-- BOTH SIDES' SCHEDULES -/
theorem waits_both {w : World} {v : Value} {o : Prb} {av nv : Value} (h : PrbA w v o av nv) (hT : Tab w) (d : Int) : ∃ OL DL : List Int, OL.length ≤ 1000 ∧ DL.length ≤ 1000 ∧
    (∀ w1, New w w1 → Calls Tryd.prog 62 #[v, .int .i64 d] w1 fun en w' => ∃ sO sD, en = .returned (.tuple #[.agg #[sO, sD], .int .i64 (waitI o av nv d)]) ∧ New w1 w' ∧ SlI w' sO OL ∧ SlI w' sD DL) ∧
    (∀ w1, New w w1 → Calls Tryd.prog 63 #[v, .int .i64 d] w1 fun en w' => ∃ sO sD, en = .returned (.tuple #[.agg #[sO, sD], .int .i64 (waitI o av nv d)]) ∧ New w1 w' ∧ SlI w' sO OL ∧ SlI w' sD DL) := by
  by_cases hw : waitI o av nv d = 0
  · have hdI : dryI o d = 0 := by
      by_cases hc : dryI o d = 0
      · exact hc
      · unfold waitI at hw; rw [if_pos hc] at hw; exact hw
    obtain ⟨hk, hd0, hd1⟩ := dryI_chk hdI
    obtain ⟨dn, rfl⟩ : ∃ dn : Nat, d = dn := ⟨d.toNat, by omega⟩
    have hcir : cirB (opG o av nv).re (opG o av nv).n = false := by
      unfold waitI at hw
      rw [if_neg (by simpa using hdI)] at hw
      split at hw
      · cases hw
      · cases hb : cirB (opG o av nv).re (opG o av nv).n
        · rfl
        · rw [hb] at hw; cases hw
    have h24 := n24w (o := o) av nv hk
    have hio : ∀ x ∈ ordG (opG o av nv), ioB (opG o av nv) (ints x) = true := fun x hx => ordG_io (opG_ok hk h.sh) (opG_low av nv hk) hx
    have hso := so_all (G := opG o av nv) (dry := dn) (ordG (opG o av nv)) (fun x hx => ⟨lastO_gew (hio x hx), by
      unfold lastO
      rw [lastO_eqw (hio x hx)]
      refine lastM_le _ (by omega) fun q hq => ?_
      have hf := (ioB_facts (hio x hx)).1
      have := (erF_bd (show dn ≤ 30 by omega) (hio x hx) (opG o av nv).n (by omega) q).2
      omega⟩)
    obtain ⟨best, hb⟩ : ∃ best, (ordG (opG o av nv)).foldl (rbS (lastO (opG o av nv) dn)) none = some best := by
      have := rb_some (lo := lastO (opG o av nv) dn) (ordG (opG o av nv)) none (.inr (List.ne_nil_of_mem (first_mem av nv hk hcir)))
      exact Option.ne_none_iff_exists'.1 this
    have hbm : best ∈ ordG (opG o av nv) := by
      rcases (so_specw (G := opG o av nv) (dry := dn) (ordG (opG o av nv)) (none, 2001) (fun x hx => lastO_gew (hio x hx))).2.2 with e | ⟨x, hx, e⟩
      · rw [e, hb] at hso; cases hso
      · rw [e, hb] at hso
        injection hso with hso
        rw [← hso]; exact hx
    have hbl := (ioB_facts (hio best hbm)).1
    rw [hw]
    refine ⟨ints best, (List.range (opG o av nv).n).map (erF (opG o av nv) dn (ints best) (opG o av nv).n), by omega, by simp; omega, fun w1 hn => ?_, fun w1 hn => rWait_good (h.new hn) dn hw best hb⟩
    refine (Wait_good (h.new hn) (hT.new hn) dn hw).mono ?_
    rintro e w' ⟨sO, sD, rfl, hn2, hbv⟩
    rw [hso, hb] at hbv
    obtain ⟨⟨ho, _⟩, b, c, rfl, _, _, hiv⟩ := hbv
    exact ⟨_, _, rfl, hn2, SlI.of_own ho, SlI.of_iv hiv⟩
  · exact ⟨[], [], by simp, by simp, fun w1 hn => (Wait_bad (h.new hn) d hw).mono fun e w' ⟨h1, h2⟩ => ⟨_, _, h1, h2, sl_nilw _, sl_nilw _⟩, fun w1 hn => (rWait_bad (h.new hn) d hw).mono fun e w' ⟨h1, h2⟩ => ⟨_, _, h1, h2, sl_nilw _, sl_nilw _⟩⟩

set_option maxHeartbeats 16000000 in
theorem OrderWaits_c {w : World} {v : Value} {o : Prb} {av nv : Value} (h : PrbA w v o av nv) (hT : Tab w) (d : Int) :
    Calls Tryd.prog 11 #[v, .int .i64 d] w fun en w' => en = .returned (.bool true) ∧ New w w' := by
  have HSL := Lib.hid (fun (w1 : World) (hn : New w w1) => slim_c (h.pv.new hn))
  have HAL := Lib.hid (fun (w1 : World) (hn : New w w1) => alive_c w1 (hT.new hn))
  obtain ⟨OL, DL, ol1, dl1, hw1, hw2⟩ := waits_both h hT d
  have HW1 := Lib.hid hw1
  have HW2 := Lib.hid hw2
  have hv := h.eq
  obtain ⟨x1, x2, x3, x4, e1, e2⟩ := h.sh
  rw [e1, e2] at hv
  subst hv
  obtain ⟨H, hH⟩ : ∃ H, w.heap.size = H := ⟨_, rfl⟩
  have HB := Lib.hid (show (w.alloc (.cells #[.int .i64 o.n, .slice x1 o.A.length x2, .slice x3 o.B.length x4] 24)).heap[H]? = some (.cells #[.int .i64 o.n, .slice x1 o.A.length x2, .slice x3 o.B.length x4] 24 (0, 0)) from by rw [← hH]; exact World.alloc_heap_new w _)
  have HSI := Lib.hid (fun (w1 : World) (u1 u2 : Value) (m : List Int) (h1 : SlI w1 u1 m) (h2 : SlI w1 u2 m) (h3 : m.length ≤ 17592186044415) => same_ok m h1 h2 h3)
  have HOL := Lib.hid (show OL.length ≤ 17592186044415 by omega)
  have HDL := Lib.hid (show DL.length ≤ 17592186044415 by omega)
  clear h hT e1 e2 hw1 hw2 ol1 dl1
  generalize waitI o av nv d = EC at *
  have hcs : (decide ((o.A.length : Int) ≤ 600) && decide ((o.B.length : Int) ≤ 300)) = false ∨ (decide ((o.A.length : Int) ≤ 600) && decide ((o.B.length : Int) ≤ 300)) = true ∧ ((o.n > 6 ∧ o.n ≤ 8) ∨ ¬ o.n > 6 ∨ (o.n > 6 ∧ ¬ o.n ≤ 8)) := by
    cases (decide ((o.A.length : Int) ≤ 600) && decide ((o.B.length : Int) ≤ 300))
    · exact .inl rfl
    · exact .inr ⟨rfl, by omega⟩
  rcases hcs with hsl | ⟨hsl, ⟨h6, h8⟩ | h6 | ⟨h6, h8⟩⟩
  all_goals rw [hsl] at HSL
  all_goals clear hsl
  iterate 2
    · go_enter Tryd.func11, Tryd.ntmps11
      go_wp2_with (first | (go_at_call 20; (with_reducible refine (HSL.out _ ?_).mono ?_); (· exact (New.refl w).alloc _); rintro e w6 ⟨rfl, n6⟩; have N6 := Lib.hid (((New.refl w).alloc _).trans n6); have HB6 := Lib.hid (row_new HB.out n6); obtain ⟨c0, c1, c2, hHl⟩ := box3w HB6.out; clear n6) | (go_at_call 21; (with_reducible refine (HAL.out _ ?_).mono ?_); (· exact N6.out); rintro e w9 ⟨rfl, n9⟩; have N9 := Lib.hid (N6.out.trans n9); clear n9))
      go_ret
      exact ⟨rfl, N9.out⟩
  iterate 2
    · go_enter Tryd.func11, Tryd.ntmps11
      go_upto_region 4 with (first | (go_at_call 20; (with_reducible refine (HSL.out _ ?_).mono ?_); (· exact (New.refl w).alloc _); rintro e w6 ⟨rfl, n6⟩; have N6 := Lib.hid (((New.refl w).alloc _).trans n6); have HB6 := Lib.hid (row_new HB.out n6); obtain ⟨c0, c1, c2, hHl⟩ := box3w HB6.out; clear n6) | (go_at_call 62; (with_reducible refine (HW1.out _ ?_).mono ?_); (· exact N6.out); rintro e w7 ⟨sO, sD, rfl, n7, so, sd⟩; obtain ⟨oa, oc, rfl⟩ := so.form; obtain ⟨da, dc, rfl⟩ := sd.form; have N7 := Lib.hid (N6.out.trans n7); have HB7 := Lib.hid (row_new HB6.out n7); have SO7 := Lib.hid so; have SD7 := Lib.hid sd; clear n7 so sd))
      obtain ⟨B1, hB8⟩ : ∃ B, w7.heap.size = B := ⟨_, rfl⟩
      obtain ⟨w8, hW8⟩ : ∃ W : World, Hid (W = w7.alloc (.cells #[.slice oa OL.length oc, .slice da DL.length dc] 61)) := ⟨_, Lib.hid rfl⟩
      have HX8 := Lib.hid (show w8.heap[B1]? = some (.cells #[.slice oa OL.length oc, .slice da DL.length dc] 61 (0, 0)) from by rw [hW8.out, ← hB8]; exact World.alloc_heap_new w7 _)
      have HA8 := Lib.hid (show New w7 w8 from by rw [hW8.out]; exact (New.refl w7).alloc _)
      have N8 := Lib.hid (N7.out.trans HA8.out)
      have HB8 := Lib.hid (row_new HB7.out HA8.out)
      (try simp only [hB8])
      rw [← hW8.out]
      clear hB8 c0 c1 c2 hHl
      obtain ⟨c0, c1, c2, hHl⟩ := box3w HB8.out
      go_upto_region 5 with (go_at_call 63; (with_reducible refine (HW2.out _ ?_).mono ?_); (· exact N8.out); rintro e w9 ⟨sO, sD, rfl, n9, so, sd⟩; obtain ⟨pa, pc, rfl⟩ := so.form; obtain ⟨ea, ec, rfl⟩ := sd.form; have HC9 := Lib.hid n9; have N9 := Lib.hid (N8.out.trans n9); have HB9 := Lib.hid (row_new HB8.out n9); have SO9 := Lib.hid so; have SD9 := Lib.hid sd; clear n9 so sd)
      obtain ⟨B2, hB10⟩ : ∃ B, w9.heap.size = B := ⟨_, rfl⟩
      obtain ⟨w10, hW10⟩ : ∃ W : World, Hid (W = w9.alloc (.cells #[.slice pa OL.length pc, .slice ea DL.length ec] 61)) := ⟨_, Lib.hid rfl⟩
      have HX10 := Lib.hid (show w10.heap[B2]? = some (.cells #[.slice pa OL.length pc, .slice ea DL.length ec] 61 (0, 0)) from by rw [hW10.out, ← hB10]; exact World.alloc_heap_new w9 _)
      have HA10 := Lib.hid (show New w9 w10 from by rw [hW10.out]; exact (New.refl w9).alloc _)
      have N10 := Lib.hid (N9.out.trans HA10.out)
      have HB10 := Lib.hid (row_new HB9.out HA10.out)
      (try simp only [hB10])
      rw [← hW10.out]
      clear hB10 c0 c1 c2 hHl
      obtain ⟨c0, c1, c2, hHl⟩ := box3w HB10.out
      have k1 := HX8.out
      have SO10 := Lib.hid (SO7.out.new (HA8.out.trans (HC9.out.trans HA10.out)))
      have SD10 := Lib.hid (SD7.out.new (HA8.out.trans (HC9.out.trans HA10.out)))
      have TO10 := Lib.hid (SO9.out.new HA10.out)
      have TD10 := Lib.hid (SD9.out.new HA10.out)
      have HX8' := Lib.hid (row_new HX8.out (HC9.out.trans HA10.out))
      clear k1 c0 c1 c2 hHl
      go_wp2_with (first | (go_at_call 21; (with_reducible refine (HAL.out _ ?_).mono ?_); (· exact N10.out); rintro e w11 ⟨rfl, n11⟩; have N11 := Lib.hid (N10.out.trans n11); have Y1 := Lib.hid (row_new HX8'.out n11); have Y2 := Lib.hid (row_new HX10.out n11); have b0 := (cell_of_row w11 B1 0 _ _ _ Y1.out).trans rfl; have b1 := (cell_of_row w11 B2 0 _ _ _ Y2.out).trans rfl; have HC11 := Lib.hid n11; clear n11) | (go_at_call 28; (with_reducible refine (HSI.out _ _ _ _ (SO10.out.new HC11.out) (TO10.out.new HC11.out) HOL.out).mono ?_); rintro e w12 ⟨rfl, n12⟩; have N12 := Lib.hid (N11.out.trans n12); have HC12 := Lib.hid (HC11.out.trans n12); have Z1 := Lib.hid (row_new Y1.out n12); have Z2 := Lib.hid (row_new Y2.out n12); clear b0 b1 n12; have b0 := (cell_of_row w12 B1 1 _ _ _ Z1.out).trans rfl; have b1 := (cell_of_row w12 B2 1 _ _ _ Z2.out).trans rfl) | (go_at_call 28; (with_reducible refine (HSI.out _ _ _ _ (SD10.out.new HC12.out) (TD10.out.new HC12.out) HDL.out).mono ?_); rintro e w13 ⟨rfl, n13⟩; have N13 := Lib.hid (N12.out.trans n13); clear n13 b0 b1))
      all_goals go_ret
      all_goals first | exact ⟨rfl, N13.out⟩ | trivial
end Go.Proofs.YtiejefehcpfkaaaDoor
