/- Moved, mirrored and enlarged points: turns, meetings, polygons, areas. -/
import Derived.Test.YtpdfbboagaflhaaGreatS01
import Derived.Deep.RegionHeld3
import Derived.Deep.RegionWith
import Derived.BigRegion
import Derived.LoopTactic
import Derived.Deep.AppendLies
import Derived.Deep.RegionLaw
import Derived.Test.YtpdfbboagaflhaaGreatS02

set_option linter.unusedSimpArgs false
set_option linter.unusedVariables false
set_option maxRecDepth 100000
namespace Go.Proofs.YtpdfbboagaflhaaGreat
open Go.RowKit

/-- a result that is a list of points -/
def PtsR (w : World) (v : Value) (R : List P2) : Prop := ∃ av cap, v = .slice av R.length cap ∧ ((0 < R.length → ∃ g, av = some ⟨g, 0, none⟩ ∧ Pts w g 0 R.length R) ∧ R.length ≤ cap)
theorem PtsR.new {w w' : World} {v : Value} {R : List P2} (h : PtsR w v R) (hn : New w w') : PtsR w' v R := by
  obtain ⟨av, cap, h1, h2, h5⟩ := h
  exact ⟨av, cap, h1, fun h0 => by obtain ⟨g, h3, h4⟩ := h2 h0; exact ⟨g, h3, h4.new hn⟩, h5⟩

set_option maxHeartbeats 2000000 in
theorem move1_c (x y dx dy : Int) (B1 B2 : Nat) (w : World) (hx : 0 ≤ x ∧ x ≤ 10000) (hy : 0 ≤ y ∧ y ≤ 10000) (h1 : -20000 ≤ dx ∧ dx ≤ 20000) (h2 : -20000 ≤ dy ∧ dy ≤ 20000) (c1 : w.cell? ⟨B1, 0, none⟩ = some (.int .i64 dx)) (c2 : w.cell? ⟨B2, 0, none⟩ = some (.int .i64 dy)) (b1 : B1 < w.heap.size) (b2 : B2 < w.heap.size) :
    Calls Tryz.prog 159 #[pv x y, .pointer (some ⟨B1, 0, none⟩), .pointer (some ⟨B2, 0, none⟩)] w fun en w' => en = .returned (pv (x + dx) (y + dy)) ∧ New w w' := by
  have b3 : B1 < w.heap.size + 1 := by omega
  have b4 : B2 < w.heap.size + 1 := by omega
  have b5 : B1 < w.heap.size + 1 + 1 := by omega
  have b6 : B2 < w.heap.size + 1 + 1 := by omega
  go_enter Tryz.func159, Tryz.ntmps159
  go_wp2_with fail
  all_goals (refine bodyPost_ret (v := pv (x + dx) (y + dy)) (by simp [results, Tryz.results159, go_sem]) rfl ⟨rfl, ?_⟩; (repeat (first | exact New.refl _ | apply New.alloc | apply New.aft | apply New.drew | refine New.setCell ?_ ?_ _)); all_goals (first | done | (simp [size_aft]; done) | (simp [size_aft]; omega)))
set_option maxHeartbeats 2000000 in
theorem mirror1_c (x y dx : Int) (B1 : Nat) (w : World) (hx : 0 ≤ x ∧ x ≤ 10000) (hy : 0 ≤ y ∧ y ≤ 10000) (h1 : -20000 ≤ dx ∧ dx ≤ 20000) (c1 : w.cell? ⟨B1, 0, none⟩ = some (.int .i64 dx)) (b1 : B1 < w.heap.size) :
    Calls Tryz.prog 161 #[pv x y, .pointer (some ⟨B1, 0, none⟩)] w fun en w' => en = .returned (pv (dx - x) y) ∧ New w w' := by
  have b3 : B1 < w.heap.size + 1 := by omega
  have b5 : B1 < w.heap.size + 1 + 1 := by omega
  go_enter Tryz.func161, Tryz.ntmps161
  go_wp2_with fail
  all_goals (refine bodyPost_ret (v := pv (dx - x) y) (by simp [results, Tryz.results161, go_sem]) rfl ⟨rfl, ?_⟩; (repeat (first | exact New.refl _ | apply New.alloc | apply New.aft | apply New.drew | refine New.setCell ?_ ?_ _)); all_goals (first | done | (simp [size_aft]; done) | (simp [size_aft]; omega)))
set_option maxHeartbeats 2000000 in
theorem enlarge1_c (x y k : Int) (B1 : Nat) (w : World) (hx : 0 ≤ x ∧ x ≤ 10000) (hy : 0 ≤ y ∧ y ≤ 10000) (h1 : -20000 ≤ k ∧ k ≤ 20000) (c1 : w.cell? ⟨B1, 0, none⟩ = some (.int .i64 k)) (b1 : B1 < w.heap.size) :
    Calls Tryz.prog 162 #[pv x y, .pointer (some ⟨B1, 0, none⟩)] w fun en w' => en = .returned (pv (x * k) (y * k)) ∧ New w w' := by
  have m1 := mul_bd x k 10000 20000 (by omega) (by omega) (by omega) (by omega)
  have m2 := mul_bd y k 10000 20000 (by omega) (by omega) (by omega) (by omega)
  simp only [Int.reduceMul, Int.reduceNeg] at m1 m2
  have b3 : B1 < w.heap.size + 1 := by omega
  have b5 : B1 < w.heap.size + 1 + 1 := by omega
  go_enter Tryz.func162, Tryz.ntmps162
  go_wp2_with fail
  all_goals (refine bodyPost_ret (v := pv (x * k) (y * k)) (by simp [results, Tryz.results162, go_sem]) rfl ⟨rfl, ?_⟩; (repeat (first | exact New.refl _ | apply New.alloc | apply New.aft | apply New.drew | refine New.setCell ?_ ?_ _)); all_goals (first | done | (simp [size_aft]; done) | (simp [size_aft]; omega)))

set_option maxHeartbeats 4000000 in
theorem samePoints_c (v u : Value) (R : List P2) (w : World) (hl : R.length ≤ 1000000) (hv : PtsR w v R) (hu : PtsR w u R) : Calls Tryz.prog 52 #[v, u] w fun en w' => en = .returned (.bool true) ∧ New w w' := by
  obtain ⟨av, cv, rfl, hv, _⟩ := hv
  obtain ⟨au, cu, rfl, hu, _⟩ := hu
  by_cases h0 : 0 < R.length
  · obtain ⟨g, rfl, _, hg1, hg2⟩ := hv h0
    obtain ⟨g', rfl, _, hg3, hg4⟩ := hu h0
    generalize R.length = n at *
    have t0 : ((n : Int) != (n : Int)) = false := by simp
    clear hv hu
    go_enter Tryz.func52, Tryz.ntmps52
    go_wp2_with fail
    go_loopw [5] (fun i wr => ∃ k : Nat, k ≤ n ∧ i = .int .i64 k ∧ New w wr) (fun i _ => n - (intOf i).toNat)
    case atStart => exact ⟨0, Nat.zero_le _, rfl, New.refl _⟩
    case round =>
      obtain ⟨k, hk, rfl, pr, rfl⟩ := hrel
      by_cases hlt : k < n
      · obtain ⟨c1, c2⟩ := hg2 k hlt
        obtain ⟨d1, d2⟩ := hg4 k hlt
        simp only [Nat.zero_add] at c1 c2 d1 d2
        have hkn : (k : Int) < (n : Int) := by omega
        clear hg2 hg4
        generalize px R k = X at *
        generalize py R k = Y at *
        have e1 : (X == X) = true := by simp
        have e2 : (Y == Y) = true := by simp
        go_wp2_with fail
        first | refine wp_region_at2 (by kernel_rfl) (by kernel_rfl) ?_ | refine wp_region_at (by kernel_rfl) (by kernel_rfl) ?_
        repeat (go_big_quiet_step (fail))
        refine wpQuiet_nil ?_
        rintro _ ⟨q, rfl⟩
        go_wp2_with fail
        go_roundw
        case rel => exact ⟨k + 1, by omega, by go_num, by (repeat (first | exact New.refl _ | apply New.alloc | apply New.aft | apply New.drew | refine New.setCell ?_ ?_ _)); all_goals (first | done | (simp [size_aft]; done) | (simp [size_aft]; omega))⟩
        case measure => simp [intOf]; omega
      · go_wp2_with fail
        go_ret
        exact ⟨rfl, by (repeat (first | exact New.refl _ | apply New.alloc | apply New.aft | apply New.drew | refine New.setCell ?_ ?_ _)); all_goals (first | done | (simp [size_aft]; done) | (simp [size_aft]; omega))⟩
  · have h1 : R.length = 0 := by omega
    rw [h1]
    clear hv hu
    go_enter Tryz.func52, Tryz.ntmps52
    go_wp2_with fail
    refine wp_loop_rounds 1 ?_
    repeat any_goals (rw [rounds_succ]; go_wp2)
    go_ret; exact ⟨rfl, New.refl _⟩

def frP (a b c d : Int) (p : P2) : P2 := (a * p.1 + b, c * p.2 + d)
def inR (u v : Int) : Bool := decide ((-20000 ≤ u ∧ u ≤ 20000) ∧ (-20000 ≤ v ∧ v ≤ 20000))
def chE (l R : List P2) (g : Bool) : Int := if ckPts l 400 ≠ 0 then ckPts l 400 else if g = true then (if okL R = true then 0 else 1) else 1
def chL (l R : List P2) (g : Bool) : List P2 := if chE l R g = 0 then R else []
theorem px_map (l : List P2) (f : P2 → P2) (k : Nat) (h : k < l.length) : px (l.map f) k = (f (px l k, py l k)).1 ∧ py (l.map f) k = (f (px l k, py l k)).2 := by
  simp [px, py, List.getD_eq_getElem?_getD, h]
theorem cells_map (l : List P2) (a b c d : Int) (k : Nat) (h : k < l.length) : ptCells ((l.map (frP a b c d)).take (k + 1)) = ptCells ((l.map (frP a b c d)).take k) ++ [.int .i64 (a * px l k + b), .int .i64 (c * py l k + d)] := by
  rw [take_snoc _ _ (by simpa using h), ptCells_snoc, (px_map l _ k h).1, (px_map l _ k h).2]; rfl
theorem chE_1 {l R : List P2} {g : Bool} (h : ckPts l 400 ≠ 0) : chE l R g = ckPts l 400 ∧ chL l R g = [] := by
  have : chE l R g = ckPts l 400 := if_pos h
  exact ⟨this, by rw [chL, this, if_neg h]⟩
theorem chE_2 {l R : List P2} (h : ckPts l 400 = 0) : chE l R false = 1 ∧ chL l R false = [] := by
  have : chE l R false = 1 := by unfold chE; rw [if_neg (by omega), if_neg (by simp)]
  exact ⟨this, by rw [chL, this]; rfl⟩
theorem chE_3 {l R : List P2} (h : ckPts l 400 = 0) (k : okL R = false) : chE l R true = 1 ∧ chL l R true = [] := by
  have : chE l R true = 1 := by unfold chE; rw [if_neg (by omega), if_pos rfl, k]; rfl
  exact ⟨this, by rw [chL, this]; rfl⟩
theorem chE_4 {l R : List P2} (h : ckPts l 400 = 0) (k : okL R = true) : chE l R true = 0 ∧ chL l R true = R := by
  have : chE l R true = 0 := by unfold chE; rw [if_neg (by omega), if_pos rfl, k]; rfl
  exact ⟨this, by rw [chL, this]; rfl⟩
theorem PtsR.nil (w : World) : PtsR w (.slice none 0 0) [] := ⟨none, 0, rfl, fun h => absurd h (by simp), Nat.le_refl _⟩
theorem PtsR.own {w : World} {B : Nat} {v : Value} {R : List P2} (h : w.ownsRow B 23 2 v R.length (ptCells R)) : PtsR w v R := by
  have h0 := h
  obtain ⟨h1, h2⟩ := h
  rcases h2 with ⟨rfl, h3⟩ | ⟨g, cap, cur, rfl, hg⟩
  · exact ⟨none, 0, by rw [h3], fun hh => absurd hh (by omega), by omega⟩
  · exact ⟨_, cap, rfl, fun _ => ⟨g, rfl, pts_own h0 rfl⟩, hg.2.2.1⟩
theorem ret_two {a a' : Int} {v : Value} (h : a = a') : Ending.returned (.tuple #[v, .int .i64 a]) = .returned (.tuple #[v, .int .i64 a']) := by rw [h]

set_option maxHeartbeats 16000000 in
theorem changed159 (b0 off n cp B1 B2 : Nat) (l : List P2) (a b c d u v : Int) (w : World) (h0 : 0 < n) (hl : n ≤ 1000000) (hw : Pts w b0 off n l)
    (HF : Hid (∀ (w1 : World), New w w1 → ∀ x y : Int, 0 ≤ x ∧ x ≤ 10000 → 0 ≤ y ∧ y ≤ 10000 → (-20000 ≤ u ∧ u ≤ 20000) ∧ (-20000 ≤ v ∧ v ≤ 20000) → Calls Tryz.prog 159 #[pv x y, .pointer (some ⟨B1, 0, none⟩), .pointer (some ⟨B2, 0, none⟩)] w1 fun en w' => en = .returned (pv (a * x + b) (c * y + d)) ∧ New w1 w')) :
    Calls Tryz.prog 158 #[.slice (some ⟨b0, off, none⟩) n cp, .agg #[.int .i64 u, .int .i64 v], .func (.func 159) #[] #[.pointer (some ⟨B1, 0, none⟩), .pointer (some ⟨B2, 0, none⟩)]] w fun en w' =>
      ∃ r, en = .returned (.tuple #[r, .int .i64 (chE l (l.map (frP a b c d)) (inR u v))]) ∧ PtsR w' r (chL l (l.map (frP a b c d)) (inR u v)) ∧ New w w' := by
  obtain ⟨i0, hi, hz0, hz1, hz2⟩ := info_parts info23
  have HW := Lib.hid hw
  have HN := Lib.hid hw.1
  obtain ⟨_, hb, hcell⟩ := hw
  have HCK := Lib.hid (fun (w1 : World) (h1 : New w w1) => checkPoints_c b0 off n cp l 400 w1 (by omega) (HW.out.new h1))
  by_cases hck : ckPts l 400 = 0
  · rw [hck] at HCK
    obtain ⟨hn4, hok⟩ := ckPts_zero hck
    have hn5 : (n : Int) ≤ 400 := by rw [← HN.out]; exact hn4
    have HCK0 := Lib.hid hck
    have HB := Lib.hid (okL_bd hok)
    clear hck hok hn4
    by_cases hu : -20000 ≤ u ∧ u ≤ 20000
    · by_cases hv : -20000 ≤ v ∧ v ≤ 20000
      · rw [show inR u v = true from decide_eq_true ⟨hu, hv⟩]
        have HF2 := Lib.hid (fun (w1 : World) (h1 : New w w1) (x y : Int) (hx : 0 ≤ x ∧ x ≤ 10000) (hy : 0 ≤ y ∧ y ≤ 10000) => HF.out w1 h1 x y hx hy ⟨hu, hv⟩)
        have hmk : ∀ w : World, (Instr.makeSlice 40 (.int .i64 0) (.int .i64 (n : Int))).run Tryz.prog w = .ok (.slice (some ⟨w.heap.size, 0, none⟩) 0 n) (w.alloc (.cells (madeCells (.agg #[.int .i64 0, .int .i64 0] : Value).cells (n * 2)) 23)) := by
          intro w
          have := run_make (P := Tryz.prog) w 40 23 i0 _ Tryz.underlying40 hi hz0 .i64 .i64 0 n (by omega) (by omega) (by rw [hz2]; omega) (by omega)
          rw [hz1] at this
          simpa using this
        obtain ⟨hu1, hu2⟩ := hu
        obtain ⟨hv1, hv2⟩ := hv
        have hx0 : ∀ w0 : World, Sem.run Tryz.prog (Instr.index 152 (.agg #[.int .i64 u, .int .i64 v]) (.int .i64 0)) w0 = .ok (.int .i64 u) w0 := fun _ => by rfl
        have hx1 : ∀ w0 : World, Sem.run Tryz.prog (Instr.index 152 (.agg #[.int .i64 u, .int .i64 v]) (.int .i64 1)) w0 = .ok (.int .i64 v) w0 := fun _ => by rfl
        clear HF
        go_enter Tryz.func158, Tryz.ntmps158
        go_wp2_with (go_at_call 84; refine (HCK.out _ (by (repeat (first | exact New.refl _ | apply New.alloc | apply New.aft | apply New.drew | refine New.setCell ?_ ?_ _)); all_goals (first | done | (simp [size_aft]; done) | (simp [size_aft]; omega)))).mono ?_; rintro en w1 ⟨rfl, pw, rfl⟩)
        refine wp_loop_rounds 3 ?_
        repeat any_goals (rw [rounds_succ]; go_wp2)
        all_goals (try (exfalso; omega))
        have hlen : (l.map (frP a b c d)).length = n := by rw [List.length_map, HN.out]
        go_loopw [11, 36] (fun v i wr => ∃ k : Nat, k ≤ n ∧ i = .int .i64 k ∧ wr.ownsRow w.heap.size 23 2 v k (ptCells ((l.map (frP a b c d)).take k)) ∧ New w wr) (fun _ i _ => n - (intOf i).toNat)
        case atStart => exact ⟨0, Nat.zero_le _, rfl, (by have h := World.ownsRow_made (e := 23) (size := 2) (base := w.heap.size) (Aft (w.alloc (.cells #[.int .i64 u, .int .i64 v] 152)) pw.d pw.os) (madeCells #[.int .i64 0, .int .i64 0] (n * 2)) n (by simp [size_aft]; omega) (by unfold maxLen; omega) (by simp [size_madeCells]); simp only [size_aft, World.size_alloc] at h; simpa [ptCells] using h), by (repeat (first | exact New.refl _ | apply New.alloc | apply New.aft | apply New.drew | refine New.setCell ?_ ?_ _)); all_goals (first | done | (simp [size_aft]; done) | (simp [size_aft]; omega))⟩
        case round =>
          obtain ⟨k, hk, rfl, hown, pr, rfl⟩ := hrel
          have HO := Lib.hid hown
          clear hown
          by_cases hlt : k < n
          · obtain ⟨c1, c2⟩ := hcell k hlt
            have b1 := HB.out k
            have HCM := Lib.hid (cells_map l a b c d k (by rw [HN.out]; exact hlt))
            have HF3 := Lib.hid (fun (w1 : World) (h1 : New w w1) => HF2.out w1 h1 (px l k) (py l k) b1.1 b1.2)
            generalize a * px l k + b = X at *
            generalize c * py l k + d = Y at *
            go_wp2_with (first | (go_at_call 159; refine (HF3.out _ (by (repeat (first | exact New.refl _ | apply New.alloc | apply New.aft | apply New.drew | refine New.setCell ?_ ?_ _)); all_goals (first | done | (simp [size_aft]; done) | (simp [size_aft]; omega)))).mono ?_; rintro en w1 ⟨rfl, pw, rfl⟩) | (at_builtin; refine wpList_append_lies _ rfl (.tmp 40) (.tmp 44) 40 rfl w.heap.size 23 i0 _ 2 16 Tryz.underlying40 hi hz0 hz1 hz2 rfl (by omega) u11 k (ptCells ((l.map (frP a b c d)).take k)) rfl ?_ _ 1 1 [.int .i64 X, .int .i64 Y] rfl rfl ?_ ?_ (by omega) ?_ ?_ ?_ _ rfl ?_; exact own_new HO.out (by (repeat (first | exact New.refl _ | apply New.alloc | apply New.aft | apply New.drew | refine New.setCell ?_ ?_ _)); all_goals (first | done | (simp [size_aft]; done) | (simp [size_aft]; omega))); (refine cells_new _ _ _ _ ?_); (simp [go_sem]); (intro u hu; simp at hu; rcases hu with rfl | rfl <;> rfl); (unfold maxLen; omega); omega; (simp [go_sem, Nat.add_assoc]); intro gg cap2 w2 hown2 hgrow2 hor2 hlt2; have HNW := Lib.hid (show New w w2 from new_grown (by (repeat (first | exact New.refl _ | apply New.alloc | apply New.aft | apply New.drew | refine New.setCell ?_ ?_ _)); all_goals (first | done | (simp [size_aft]; done) | (simp [size_aft]; omega))) hgrow2 HO.out); have HO2 := Lib.hid hown2; clear hown2 hgrow2 hor2 hlt2))
            go_roundw
            case rel => exact ⟨k + 1, by omega, by go_num, by rw [HCM.out]; exact HO2.out, HNW.out⟩
            case measure => simp [intOf]; omega
          · obtain rfl : k = n := by omega
            have HO3 := HO.out
            rw [List.take_of_length_le (by omega)] at HO3
            have HO4 := HO3
            rcases HO3.2 with ⟨_, hk0⟩ | ⟨g, cap, cur, rfl, hg⟩
            · exact absurd hk0 (by omega)
            · have HPT := Lib.hid (pts_own HO4 hlen)
              have HCP := Lib.hid (fun (w1 : World) (h1 : New (Aft w pr.d pr.os) w1) => checkPoints_c g 0 k cap (l.map (frP a b c d)) 400 w1 (by omega) (HPT.out.new h1))
              have hkc : k ≤ cap := hg.2.2.1
              have HRES := Lib.hid (show ∀ w1 : World, New (Aft w pr.d pr.os) w1 → PtsR w1 (.slice (some ⟨g, 0, none⟩) k cap) (l.map (frP a b c d)) from fun w1 h1 => (show PtsR (Aft w pr.d pr.os) (.slice (some ⟨g, 0, none⟩) k cap) (l.map (frP a b c d)) from ⟨some ⟨g, 0, none⟩, cap, by rw [hlen], fun _ => ⟨g, rfl, by rw [hlen]; exact HPT.out⟩, by rw [hlen]; exact hkc⟩).new h1)
              clear HO HO3 HO4 hg
              cases hr : okL (l.map (frP a b c d))
              · have HE := Lib.hid (chE_3 HCK0.out hr)
                rw [show ckPts (l.map (frP a b c d)) 400 = 1 by unfold ckPts; rw [if_neg (by omega), hr]; rfl] at HCP
                go_wp2_with (go_at_call 84; refine (HCP.out _ (New.refl _)).mono ?_; rintro en w1 ⟨rfl, pw, rfl⟩)
                refine bodyPost_ret (v := .tuple #[.slice none 0 0, .int .i64 1]) (by simp [results, Tryz.results158, go_sem]) rfl ⟨_, ret_two HE.out.1.symm, by rw [HE.out.2]; exact PtsR.nil _, by (repeat (first | exact New.refl _ | apply New.alloc | apply New.aft | apply New.drew | refine New.setCell ?_ ?_ _)); all_goals (first | done | (simp [size_aft]; done) | (simp [size_aft]; omega))⟩
              · have HE := Lib.hid (chE_4 HCK0.out hr)
                rw [show ckPts (l.map (frP a b c d)) 400 = 0 by unfold ckPts; rw [if_neg (by omega), hr]; rfl] at HCP
                go_wp2_with (go_at_call 84; refine (HCP.out _ (New.refl _)).mono ?_; rintro en w1 ⟨rfl, hn⟩; have HN2 := Lib.hid hn; clear hn)
                refine bodyPost_ret (v := .tuple #[.slice (some ⟨g, 0, none⟩) k cap, .int .i64 0]) (by simp [results, Tryz.results158, go_sem]) rfl ⟨_, ret_two HE.out.1.symm, by rw [HE.out.2]; exact HRES.out _ HN2.out, New.trans ((New.refl _).aft _ _) HN2.out⟩
      · rw [show inR u v = false from decide_eq_false (fun hh => hv hh.2)]
        have HE := Lib.hid (chE_2 (l := l) (R := l.map (frP a b c d)) HCK0.out)
        have hx0 : ∀ w0 : World, Sem.run Tryz.prog (Instr.index 152 (.agg #[.int .i64 u, .int .i64 v]) (.int .i64 0)) w0 = .ok (.int .i64 u) w0 := fun _ => by rfl
        have hx1 : ∀ w0 : World, Sem.run Tryz.prog (Instr.index 152 (.agg #[.int .i64 u, .int .i64 v]) (.int .i64 1)) w0 = .ok (.int .i64 v) w0 := fun _ => by rfl
        obtain ⟨hu1, hu2⟩ := hu
        have d1 : decide (u < -20000) = false := by simp; omega
        have d2 : decide (20000 < u) = false := by simp; omega
        have d3 : (decide (v < -20000) || decide (20000 < v)) = true := by simp; omega
        have hvv : v < -20000 ∨ 20000 < v := by omega
        clear HF
        rcases hvv with hvv | hvv
        all_goals
          go_enter Tryz.func158, Tryz.ntmps158
          go_wp2_with (go_at_call 84; refine (HCK.out _ (by (repeat (first | exact New.refl _ | apply New.alloc | apply New.aft | apply New.drew | refine New.setCell ?_ ?_ _)); all_goals (first | done | (simp [size_aft]; done) | (simp [size_aft]; omega)))).mono ?_; rintro en w1 ⟨rfl, pw, rfl⟩)
          refine wp_loop_rounds 3 ?_
          repeat any_goals (rw [rounds_succ]; go_wp2)
          all_goals (try (exfalso; omega))
          all_goals (refine bodyPost_ret (v := .tuple #[.slice none 0 0, .int .i64 1]) (by simp [results, Tryz.results158, go_sem]) rfl ⟨_, ret_two HE.out.1.symm, by rw [HE.out.2]; exact PtsR.nil _, by (repeat (first | exact New.refl _ | apply New.alloc | apply New.aft | apply New.drew | refine New.setCell ?_ ?_ _)); all_goals (first | done | (simp [size_aft]; done) | (simp [size_aft]; omega))⟩)
    · rw [show inR u v = false from decide_eq_false (fun hh => hu hh.1)]
      have HE := Lib.hid (chE_2 (l := l) (R := l.map (frP a b c d)) HCK0.out)
      have hx0 : ∀ w0 : World, Sem.run Tryz.prog (Instr.index 152 (.agg #[.int .i64 u, .int .i64 v]) (.int .i64 0)) w0 = .ok (.int .i64 u) w0 := fun _ => by rfl
      have huu : u < -20000 ∨ 20000 < u := by omega
      clear HF
      rcases huu with huu | huu
      all_goals
        go_enter Tryz.func158, Tryz.ntmps158
        go_wp2_with (go_at_call 84; refine (HCK.out _ (by (repeat (first | exact New.refl _ | apply New.alloc | apply New.aft | apply New.drew | refine New.setCell ?_ ?_ _)); all_goals (first | done | (simp [size_aft]; done) | (simp [size_aft]; omega)))).mono ?_; rintro en w1 ⟨rfl, pw, rfl⟩)
        refine wp_loop_rounds 3 ?_
        repeat any_goals (rw [rounds_succ]; go_wp2)
        all_goals (try (exfalso; omega))
        all_goals (refine bodyPost_ret (v := .tuple #[.slice none 0 0, .int .i64 1]) (by simp [results, Tryz.results158, go_sem]) rfl ⟨_, ret_two HE.out.1.symm, by rw [HE.out.2]; exact PtsR.nil _, by (repeat (first | exact New.refl _ | apply New.alloc | apply New.aft | apply New.drew | refine New.setCell ?_ ?_ _)); all_goals (first | done | (simp [size_aft]; done) | (simp [size_aft]; omega))⟩)
  · have HE := Lib.hid (chE_1 (R := l.map (frP a b c d)) (g := inR u v) hck)
    have z1 : (ckPts l 400 == 0) = false := by simpa using hck
    have z2 : (ckPts l 400 != 0) = true := by simpa using hck
    clear hck HF
    go_enter Tryz.func158, Tryz.ntmps158
    go_wp2_with (go_at_call 84; refine (HCK.out _ (by (repeat (first | exact New.refl _ | apply New.alloc | apply New.aft | apply New.drew | refine New.setCell ?_ ?_ _)); all_goals (first | done | (simp [size_aft]; done) | (simp [size_aft]; omega)))).mono ?_; rintro en w1 ⟨rfl, pw, rfl⟩)
    refine bodyPost_ret (v := .tuple #[.slice none 0 0, .int .i64 (ckPts l 400)]) (by simp [results, Tryz.results158, go_sem]) rfl ⟨_, ret_two HE.out.1.symm, by rw [HE.out.2]; exact PtsR.nil _, by (repeat (first | exact New.refl _ | apply New.alloc | apply New.aft | apply New.drew | refine New.setCell ?_ ?_ _)); all_goals (first | done | (simp [size_aft]; done) | (simp [size_aft]; omega))⟩

end Go.Proofs.YtpdfbboagaflhaaGreat

set_option linter.unusedSimpArgs false
set_option linter.unusedVariables false
set_option maxRecDepth 100000
namespace Go.Proofs.YtpdfbboagaflhaaGreat
open Go.RowKit

set_option maxHeartbeats 16000000 in
theorem changed161 (b0 off n cp B1 : Nat) (l : List P2) (a b c d u v : Int) (w : World) (h0 : 0 < n) (hl : n ≤ 1000000) (hw : Pts w b0 off n l)
    (HF : Hid (∀ (w1 : World), New w w1 → ∀ x y : Int, 0 ≤ x ∧ x ≤ 10000 → 0 ≤ y ∧ y ≤ 10000 → (-20000 ≤ u ∧ u ≤ 20000) ∧ (-20000 ≤ v ∧ v ≤ 20000) → Calls Tryz.prog 161 #[pv x y, .pointer (some ⟨B1, 0, none⟩)] w1 fun en w' => en = .returned (pv (a * x + b) (c * y + d)) ∧ New w1 w')) :
    Calls Tryz.prog 158 #[.slice (some ⟨b0, off, none⟩) n cp, .agg #[.int .i64 u, .int .i64 v], .func (.func 161) #[] #[.pointer (some ⟨B1, 0, none⟩)]] w fun en w' =>
      ∃ r, en = .returned (.tuple #[r, .int .i64 (chE l (l.map (frP a b c d)) (inR u v))]) ∧ PtsR w' r (chL l (l.map (frP a b c d)) (inR u v)) ∧ New w w' := by
  obtain ⟨i0, hi, hz0, hz1, hz2⟩ := info_parts info23
  have HW := Lib.hid hw
  have HN := Lib.hid hw.1
  obtain ⟨_, hb, hcell⟩ := hw
  have HCK := Lib.hid (fun (w1 : World) (h1 : New w w1) => checkPoints_c b0 off n cp l 400 w1 (by omega) (HW.out.new h1))
  by_cases hck : ckPts l 400 = 0
  · rw [hck] at HCK
    obtain ⟨hn4, hok⟩ := ckPts_zero hck
    have hn5 : (n : Int) ≤ 400 := by rw [← HN.out]; exact hn4
    have HCK0 := Lib.hid hck
    have HB := Lib.hid (okL_bd hok)
    clear hck hok hn4
    by_cases hu : -20000 ≤ u ∧ u ≤ 20000
    · by_cases hv : -20000 ≤ v ∧ v ≤ 20000
      · rw [show inR u v = true from decide_eq_true ⟨hu, hv⟩]
        have HF2 := Lib.hid (fun (w1 : World) (h1 : New w w1) (x y : Int) (hx : 0 ≤ x ∧ x ≤ 10000) (hy : 0 ≤ y ∧ y ≤ 10000) => HF.out w1 h1 x y hx hy ⟨hu, hv⟩)
        have hmk : ∀ w : World, (Instr.makeSlice 40 (.int .i64 0) (.int .i64 (n : Int))).run Tryz.prog w = .ok (.slice (some ⟨w.heap.size, 0, none⟩) 0 n) (w.alloc (.cells (madeCells (.agg #[.int .i64 0, .int .i64 0] : Value).cells (n * 2)) 23)) := by
          intro w
          have := run_make (P := Tryz.prog) w 40 23 i0 _ Tryz.underlying40 hi hz0 .i64 .i64 0 n (by omega) (by omega) (by rw [hz2]; omega) (by omega)
          rw [hz1] at this
          simpa using this
        obtain ⟨hu1, hu2⟩ := hu
        obtain ⟨hv1, hv2⟩ := hv
        have hx0 : ∀ w0 : World, Sem.run Tryz.prog (Instr.index 152 (.agg #[.int .i64 u, .int .i64 v]) (.int .i64 0)) w0 = .ok (.int .i64 u) w0 := fun _ => by rfl
        have hx1 : ∀ w0 : World, Sem.run Tryz.prog (Instr.index 152 (.agg #[.int .i64 u, .int .i64 v]) (.int .i64 1)) w0 = .ok (.int .i64 v) w0 := fun _ => by rfl
        clear HF
        go_enter Tryz.func158, Tryz.ntmps158
        go_wp2_with (go_at_call 84; refine (HCK.out _ (by (repeat (first | exact New.refl _ | apply New.alloc | apply New.aft | apply New.drew | refine New.setCell ?_ ?_ _)); all_goals (first | done | (simp [size_aft]; done) | (simp [size_aft]; omega)))).mono ?_; rintro en w1 ⟨rfl, pw, rfl⟩)
        refine wp_loop_rounds 3 ?_
        repeat any_goals (rw [rounds_succ]; go_wp2)
        all_goals (try (exfalso; omega))
        have hlen : (l.map (frP a b c d)).length = n := by rw [List.length_map, HN.out]
        go_loopw [11, 36] (fun v i wr => ∃ k : Nat, k ≤ n ∧ i = .int .i64 k ∧ wr.ownsRow w.heap.size 23 2 v k (ptCells ((l.map (frP a b c d)).take k)) ∧ New w wr) (fun _ i _ => n - (intOf i).toNat)
        case atStart => exact ⟨0, Nat.zero_le _, rfl, (by have h := World.ownsRow_made (e := 23) (size := 2) (base := w.heap.size) (Aft (w.alloc (.cells #[.int .i64 u, .int .i64 v] 152)) pw.d pw.os) (madeCells #[.int .i64 0, .int .i64 0] (n * 2)) n (by simp [size_aft]; omega) (by unfold maxLen; omega) (by simp [size_madeCells]); simp only [size_aft, World.size_alloc] at h; simpa [ptCells] using h), by (repeat (first | exact New.refl _ | apply New.alloc | apply New.aft | apply New.drew | refine New.setCell ?_ ?_ _)); all_goals (first | done | (simp [size_aft]; done) | (simp [size_aft]; omega))⟩
        case round =>
          obtain ⟨k, hk, rfl, hown, pr, rfl⟩ := hrel
          have HO := Lib.hid hown
          clear hown
          by_cases hlt : k < n
          · obtain ⟨c1, c2⟩ := hcell k hlt
            have b1 := HB.out k
            have HCM := Lib.hid (cells_map l a b c d k (by rw [HN.out]; exact hlt))
            have HF3 := Lib.hid (fun (w1 : World) (h1 : New w w1) => HF2.out w1 h1 (px l k) (py l k) b1.1 b1.2)
            generalize a * px l k + b = X at *
            generalize c * py l k + d = Y at *
            go_wp2_with (first | (go_at_call 161; refine (HF3.out _ (by (repeat (first | exact New.refl _ | apply New.alloc | apply New.aft | apply New.drew | refine New.setCell ?_ ?_ _)); all_goals (first | done | (simp [size_aft]; done) | (simp [size_aft]; omega)))).mono ?_; rintro en w1 ⟨rfl, pw, rfl⟩) | (at_builtin; refine wpList_append_lies _ rfl (.tmp 40) (.tmp 44) 40 rfl w.heap.size 23 i0 _ 2 16 Tryz.underlying40 hi hz0 hz1 hz2 rfl (by omega) u11 k (ptCells ((l.map (frP a b c d)).take k)) rfl ?_ _ 1 1 [.int .i64 X, .int .i64 Y] rfl rfl ?_ ?_ (by omega) ?_ ?_ ?_ _ rfl ?_; exact own_new HO.out (by (repeat (first | exact New.refl _ | apply New.alloc | apply New.aft | apply New.drew | refine New.setCell ?_ ?_ _)); all_goals (first | done | (simp [size_aft]; done) | (simp [size_aft]; omega))); (refine cells_new _ _ _ _ ?_); (simp [go_sem]); (intro u hu; simp at hu; rcases hu with rfl | rfl <;> rfl); (unfold maxLen; omega); omega; (simp [go_sem, Nat.add_assoc]); intro gg cap2 w2 hown2 hgrow2 hor2 hlt2; have HNW := Lib.hid (show New w w2 from new_grown (by (repeat (first | exact New.refl _ | apply New.alloc | apply New.aft | apply New.drew | refine New.setCell ?_ ?_ _)); all_goals (first | done | (simp [size_aft]; done) | (simp [size_aft]; omega))) hgrow2 HO.out); have HO2 := Lib.hid hown2; clear hown2 hgrow2 hor2 hlt2))
            go_roundw
            case rel => exact ⟨k + 1, by omega, by go_num, by rw [HCM.out]; exact HO2.out, HNW.out⟩
            case measure => simp [intOf]; omega
          · obtain rfl : k = n := by omega
            have HO3 := HO.out
            rw [List.take_of_length_le (by omega)] at HO3
            have HO4 := HO3
            rcases HO3.2 with ⟨_, hk0⟩ | ⟨g, cap, cur, rfl, hg⟩
            · exact absurd hk0 (by omega)
            · have HPT := Lib.hid (pts_own HO4 hlen)
              have HCP := Lib.hid (fun (w1 : World) (h1 : New (Aft w pr.d pr.os) w1) => checkPoints_c g 0 k cap (l.map (frP a b c d)) 400 w1 (by omega) (HPT.out.new h1))
              have hkc : k ≤ cap := hg.2.2.1
              have HRES := Lib.hid (show ∀ w1 : World, New (Aft w pr.d pr.os) w1 → PtsR w1 (.slice (some ⟨g, 0, none⟩) k cap) (l.map (frP a b c d)) from fun w1 h1 => (show PtsR (Aft w pr.d pr.os) (.slice (some ⟨g, 0, none⟩) k cap) (l.map (frP a b c d)) from ⟨some ⟨g, 0, none⟩, cap, by rw [hlen], fun _ => ⟨g, rfl, by rw [hlen]; exact HPT.out⟩, by rw [hlen]; exact hkc⟩).new h1)
              clear HO HO3 HO4 hg
              cases hr : okL (l.map (frP a b c d))
              · have HE := Lib.hid (chE_3 HCK0.out hr)
                rw [show ckPts (l.map (frP a b c d)) 400 = 1 by unfold ckPts; rw [if_neg (by omega), hr]; rfl] at HCP
                go_wp2_with (go_at_call 84; refine (HCP.out _ (New.refl _)).mono ?_; rintro en w1 ⟨rfl, pw, rfl⟩)
                refine bodyPost_ret (v := .tuple #[.slice none 0 0, .int .i64 1]) (by simp [results, Tryz.results158, go_sem]) rfl ⟨_, ret_two HE.out.1.symm, by rw [HE.out.2]; exact PtsR.nil _, by (repeat (first | exact New.refl _ | apply New.alloc | apply New.aft | apply New.drew | refine New.setCell ?_ ?_ _)); all_goals (first | done | (simp [size_aft]; done) | (simp [size_aft]; omega))⟩
              · have HE := Lib.hid (chE_4 HCK0.out hr)
                rw [show ckPts (l.map (frP a b c d)) 400 = 0 by unfold ckPts; rw [if_neg (by omega), hr]; rfl] at HCP
                go_wp2_with (go_at_call 84; refine (HCP.out _ (New.refl _)).mono ?_; rintro en w1 ⟨rfl, hn⟩; have HN2 := Lib.hid hn; clear hn)
                refine bodyPost_ret (v := .tuple #[.slice (some ⟨g, 0, none⟩) k cap, .int .i64 0]) (by simp [results, Tryz.results158, go_sem]) rfl ⟨_, ret_two HE.out.1.symm, by rw [HE.out.2]; exact HRES.out _ HN2.out, New.trans ((New.refl _).aft _ _) HN2.out⟩
      · rw [show inR u v = false from decide_eq_false (fun hh => hv hh.2)]
        have HE := Lib.hid (chE_2 (l := l) (R := l.map (frP a b c d)) HCK0.out)
        have hx0 : ∀ w0 : World, Sem.run Tryz.prog (Instr.index 152 (.agg #[.int .i64 u, .int .i64 v]) (.int .i64 0)) w0 = .ok (.int .i64 u) w0 := fun _ => by rfl
        have hx1 : ∀ w0 : World, Sem.run Tryz.prog (Instr.index 152 (.agg #[.int .i64 u, .int .i64 v]) (.int .i64 1)) w0 = .ok (.int .i64 v) w0 := fun _ => by rfl
        obtain ⟨hu1, hu2⟩ := hu
        have d1 : decide (u < -20000) = false := by simp; omega
        have d2 : decide (20000 < u) = false := by simp; omega
        have d3 : (decide (v < -20000) || decide (20000 < v)) = true := by simp; omega
        have hvv : v < -20000 ∨ 20000 < v := by omega
        clear HF
        rcases hvv with hvv | hvv
        all_goals
          go_enter Tryz.func158, Tryz.ntmps158
          go_wp2_with (go_at_call 84; refine (HCK.out _ (by (repeat (first | exact New.refl _ | apply New.alloc | apply New.aft | apply New.drew | refine New.setCell ?_ ?_ _)); all_goals (first | done | (simp [size_aft]; done) | (simp [size_aft]; omega)))).mono ?_; rintro en w1 ⟨rfl, pw, rfl⟩)
          refine wp_loop_rounds 3 ?_
          repeat any_goals (rw [rounds_succ]; go_wp2)
          all_goals (try (exfalso; omega))
          all_goals (refine bodyPost_ret (v := .tuple #[.slice none 0 0, .int .i64 1]) (by simp [results, Tryz.results158, go_sem]) rfl ⟨_, ret_two HE.out.1.symm, by rw [HE.out.2]; exact PtsR.nil _, by (repeat (first | exact New.refl _ | apply New.alloc | apply New.aft | apply New.drew | refine New.setCell ?_ ?_ _)); all_goals (first | done | (simp [size_aft]; done) | (simp [size_aft]; omega))⟩)
    · rw [show inR u v = false from decide_eq_false (fun hh => hu hh.1)]
      have HE := Lib.hid (chE_2 (l := l) (R := l.map (frP a b c d)) HCK0.out)
      have hx0 : ∀ w0 : World, Sem.run Tryz.prog (Instr.index 152 (.agg #[.int .i64 u, .int .i64 v]) (.int .i64 0)) w0 = .ok (.int .i64 u) w0 := fun _ => by rfl
      have huu : u < -20000 ∨ 20000 < u := by omega
      clear HF
      rcases huu with huu | huu
      all_goals
        go_enter Tryz.func158, Tryz.ntmps158
        go_wp2_with (go_at_call 84; refine (HCK.out _ (by (repeat (first | exact New.refl _ | apply New.alloc | apply New.aft | apply New.drew | refine New.setCell ?_ ?_ _)); all_goals (first | done | (simp [size_aft]; done) | (simp [size_aft]; omega)))).mono ?_; rintro en w1 ⟨rfl, pw, rfl⟩)
        refine wp_loop_rounds 3 ?_
        repeat any_goals (rw [rounds_succ]; go_wp2)
        all_goals (try (exfalso; omega))
        all_goals (refine bodyPost_ret (v := .tuple #[.slice none 0 0, .int .i64 1]) (by simp [results, Tryz.results158, go_sem]) rfl ⟨_, ret_two HE.out.1.symm, by rw [HE.out.2]; exact PtsR.nil _, by (repeat (first | exact New.refl _ | apply New.alloc | apply New.aft | apply New.drew | refine New.setCell ?_ ?_ _)); all_goals (first | done | (simp [size_aft]; done) | (simp [size_aft]; omega))⟩)
  · have HE := Lib.hid (chE_1 (R := l.map (frP a b c d)) (g := inR u v) hck)
    have z1 : (ckPts l 400 == 0) = false := by simpa using hck
    have z2 : (ckPts l 400 != 0) = true := by simpa using hck
    clear hck HF
    go_enter Tryz.func158, Tryz.ntmps158
    go_wp2_with (go_at_call 84; refine (HCK.out _ (by (repeat (first | exact New.refl _ | apply New.alloc | apply New.aft | apply New.drew | refine New.setCell ?_ ?_ _)); all_goals (first | done | (simp [size_aft]; done) | (simp [size_aft]; omega)))).mono ?_; rintro en w1 ⟨rfl, pw, rfl⟩)
    refine bodyPost_ret (v := .tuple #[.slice none 0 0, .int .i64 (ckPts l 400)]) (by simp [results, Tryz.results158, go_sem]) rfl ⟨_, ret_two HE.out.1.symm, by rw [HE.out.2]; exact PtsR.nil _, by (repeat (first | exact New.refl _ | apply New.alloc | apply New.aft | apply New.drew | refine New.setCell ?_ ?_ _)); all_goals (first | done | (simp [size_aft]; done) | (simp [size_aft]; omega))⟩


set_option maxHeartbeats 16000000 in
theorem changed162 (b0 off n cp B1 : Nat) (l : List P2) (a b c d u v : Int) (w : World) (h0 : 0 < n) (hl : n ≤ 1000000) (hw : Pts w b0 off n l)
    (HF : Hid (∀ (w1 : World), New w w1 → ∀ x y : Int, 0 ≤ x ∧ x ≤ 10000 → 0 ≤ y ∧ y ≤ 10000 → (-20000 ≤ u ∧ u ≤ 20000) ∧ (-20000 ≤ v ∧ v ≤ 20000) → Calls Tryz.prog 162 #[pv x y, .pointer (some ⟨B1, 0, none⟩)] w1 fun en w' => en = .returned (pv (a * x + b) (c * y + d)) ∧ New w1 w')) :
    Calls Tryz.prog 158 #[.slice (some ⟨b0, off, none⟩) n cp, .agg #[.int .i64 u, .int .i64 v], .func (.func 162) #[] #[.pointer (some ⟨B1, 0, none⟩)]] w fun en w' =>
      ∃ r, en = .returned (.tuple #[r, .int .i64 (chE l (l.map (frP a b c d)) (inR u v))]) ∧ PtsR w' r (chL l (l.map (frP a b c d)) (inR u v)) ∧ New w w' := by
  obtain ⟨i0, hi, hz0, hz1, hz2⟩ := info_parts info23
  have HW := Lib.hid hw
  have HN := Lib.hid hw.1
  obtain ⟨_, hb, hcell⟩ := hw
  have HCK := Lib.hid (fun (w1 : World) (h1 : New w w1) => checkPoints_c b0 off n cp l 400 w1 (by omega) (HW.out.new h1))
  by_cases hck : ckPts l 400 = 0
  · rw [hck] at HCK
    obtain ⟨hn4, hok⟩ := ckPts_zero hck
    have hn5 : (n : Int) ≤ 400 := by rw [← HN.out]; exact hn4
    have HCK0 := Lib.hid hck
    have HB := Lib.hid (okL_bd hok)
    clear hck hok hn4
    by_cases hu : -20000 ≤ u ∧ u ≤ 20000
    · by_cases hv : -20000 ≤ v ∧ v ≤ 20000
      · rw [show inR u v = true from decide_eq_true ⟨hu, hv⟩]
        have HF2 := Lib.hid (fun (w1 : World) (h1 : New w w1) (x y : Int) (hx : 0 ≤ x ∧ x ≤ 10000) (hy : 0 ≤ y ∧ y ≤ 10000) => HF.out w1 h1 x y hx hy ⟨hu, hv⟩)
        have hmk : ∀ w : World, (Instr.makeSlice 40 (.int .i64 0) (.int .i64 (n : Int))).run Tryz.prog w = .ok (.slice (some ⟨w.heap.size, 0, none⟩) 0 n) (w.alloc (.cells (madeCells (.agg #[.int .i64 0, .int .i64 0] : Value).cells (n * 2)) 23)) := by
          intro w
          have := run_make (P := Tryz.prog) w 40 23 i0 _ Tryz.underlying40 hi hz0 .i64 .i64 0 n (by omega) (by omega) (by rw [hz2]; omega) (by omega)
          rw [hz1] at this
          simpa using this
        obtain ⟨hu1, hu2⟩ := hu
        obtain ⟨hv1, hv2⟩ := hv
        have hx0 : ∀ w0 : World, Sem.run Tryz.prog (Instr.index 152 (.agg #[.int .i64 u, .int .i64 v]) (.int .i64 0)) w0 = .ok (.int .i64 u) w0 := fun _ => by rfl
        have hx1 : ∀ w0 : World, Sem.run Tryz.prog (Instr.index 152 (.agg #[.int .i64 u, .int .i64 v]) (.int .i64 1)) w0 = .ok (.int .i64 v) w0 := fun _ => by rfl
        clear HF
        go_enter Tryz.func158, Tryz.ntmps158
        go_wp2_with (go_at_call 84; refine (HCK.out _ (by (repeat (first | exact New.refl _ | apply New.alloc | apply New.aft | apply New.drew | refine New.setCell ?_ ?_ _)); all_goals (first | done | (simp [size_aft]; done) | (simp [size_aft]; omega)))).mono ?_; rintro en w1 ⟨rfl, pw, rfl⟩)
        refine wp_loop_rounds 3 ?_
        repeat any_goals (rw [rounds_succ]; go_wp2)
        all_goals (try (exfalso; omega))
        have hlen : (l.map (frP a b c d)).length = n := by rw [List.length_map, HN.out]
        go_loopw [11, 36] (fun v i wr => ∃ k : Nat, k ≤ n ∧ i = .int .i64 k ∧ wr.ownsRow w.heap.size 23 2 v k (ptCells ((l.map (frP a b c d)).take k)) ∧ New w wr) (fun _ i _ => n - (intOf i).toNat)
        case atStart => exact ⟨0, Nat.zero_le _, rfl, (by have h := World.ownsRow_made (e := 23) (size := 2) (base := w.heap.size) (Aft (w.alloc (.cells #[.int .i64 u, .int .i64 v] 152)) pw.d pw.os) (madeCells #[.int .i64 0, .int .i64 0] (n * 2)) n (by simp [size_aft]; omega) (by unfold maxLen; omega) (by simp [size_madeCells]); simp only [size_aft, World.size_alloc] at h; simpa [ptCells] using h), by (repeat (first | exact New.refl _ | apply New.alloc | apply New.aft | apply New.drew | refine New.setCell ?_ ?_ _)); all_goals (first | done | (simp [size_aft]; done) | (simp [size_aft]; omega))⟩
        case round =>
          obtain ⟨k, hk, rfl, hown, pr, rfl⟩ := hrel
          have HO := Lib.hid hown
          clear hown
          by_cases hlt : k < n
          · obtain ⟨c1, c2⟩ := hcell k hlt
            have b1 := HB.out k
            have HCM := Lib.hid (cells_map l a b c d k (by rw [HN.out]; exact hlt))
            have HF3 := Lib.hid (fun (w1 : World) (h1 : New w w1) => HF2.out w1 h1 (px l k) (py l k) b1.1 b1.2)
            generalize a * px l k + b = X at *
            generalize c * py l k + d = Y at *
            go_wp2_with (first | (go_at_call 162; refine (HF3.out _ (by (repeat (first | exact New.refl _ | apply New.alloc | apply New.aft | apply New.drew | refine New.setCell ?_ ?_ _)); all_goals (first | done | (simp [size_aft]; done) | (simp [size_aft]; omega)))).mono ?_; rintro en w1 ⟨rfl, pw, rfl⟩) | (at_builtin; refine wpList_append_lies _ rfl (.tmp 40) (.tmp 44) 40 rfl w.heap.size 23 i0 _ 2 16 Tryz.underlying40 hi hz0 hz1 hz2 rfl (by omega) u11 k (ptCells ((l.map (frP a b c d)).take k)) rfl ?_ _ 1 1 [.int .i64 X, .int .i64 Y] rfl rfl ?_ ?_ (by omega) ?_ ?_ ?_ _ rfl ?_; exact own_new HO.out (by (repeat (first | exact New.refl _ | apply New.alloc | apply New.aft | apply New.drew | refine New.setCell ?_ ?_ _)); all_goals (first | done | (simp [size_aft]; done) | (simp [size_aft]; omega))); (refine cells_new _ _ _ _ ?_); (simp [go_sem]); (intro u hu; simp at hu; rcases hu with rfl | rfl <;> rfl); (unfold maxLen; omega); omega; (simp [go_sem, Nat.add_assoc]); intro gg cap2 w2 hown2 hgrow2 hor2 hlt2; have HNW := Lib.hid (show New w w2 from new_grown (by (repeat (first | exact New.refl _ | apply New.alloc | apply New.aft | apply New.drew | refine New.setCell ?_ ?_ _)); all_goals (first | done | (simp [size_aft]; done) | (simp [size_aft]; omega))) hgrow2 HO.out); have HO2 := Lib.hid hown2; clear hown2 hgrow2 hor2 hlt2))
            go_roundw
            case rel => exact ⟨k + 1, by omega, by go_num, by rw [HCM.out]; exact HO2.out, HNW.out⟩
            case measure => simp [intOf]; omega
          · obtain rfl : k = n := by omega
            have HO3 := HO.out
            rw [List.take_of_length_le (by omega)] at HO3
            have HO4 := HO3
            rcases HO3.2 with ⟨_, hk0⟩ | ⟨g, cap, cur, rfl, hg⟩
            · exact absurd hk0 (by omega)
            · have HPT := Lib.hid (pts_own HO4 hlen)
              have HCP := Lib.hid (fun (w1 : World) (h1 : New (Aft w pr.d pr.os) w1) => checkPoints_c g 0 k cap (l.map (frP a b c d)) 400 w1 (by omega) (HPT.out.new h1))
              have hkc : k ≤ cap := hg.2.2.1
              have HRES := Lib.hid (show ∀ w1 : World, New (Aft w pr.d pr.os) w1 → PtsR w1 (.slice (some ⟨g, 0, none⟩) k cap) (l.map (frP a b c d)) from fun w1 h1 => (show PtsR (Aft w pr.d pr.os) (.slice (some ⟨g, 0, none⟩) k cap) (l.map (frP a b c d)) from ⟨some ⟨g, 0, none⟩, cap, by rw [hlen], fun _ => ⟨g, rfl, by rw [hlen]; exact HPT.out⟩, by rw [hlen]; exact hkc⟩).new h1)
              clear HO HO3 HO4 hg
              cases hr : okL (l.map (frP a b c d))
              · have HE := Lib.hid (chE_3 HCK0.out hr)
                rw [show ckPts (l.map (frP a b c d)) 400 = 1 by unfold ckPts; rw [if_neg (by omega), hr]; rfl] at HCP
                go_wp2_with (go_at_call 84; refine (HCP.out _ (New.refl _)).mono ?_; rintro en w1 ⟨rfl, pw, rfl⟩)
                refine bodyPost_ret (v := .tuple #[.slice none 0 0, .int .i64 1]) (by simp [results, Tryz.results158, go_sem]) rfl ⟨_, ret_two HE.out.1.symm, by rw [HE.out.2]; exact PtsR.nil _, by (repeat (first | exact New.refl _ | apply New.alloc | apply New.aft | apply New.drew | refine New.setCell ?_ ?_ _)); all_goals (first | done | (simp [size_aft]; done) | (simp [size_aft]; omega))⟩
              · have HE := Lib.hid (chE_4 HCK0.out hr)
                rw [show ckPts (l.map (frP a b c d)) 400 = 0 by unfold ckPts; rw [if_neg (by omega), hr]; rfl] at HCP
                go_wp2_with (go_at_call 84; refine (HCP.out _ (New.refl _)).mono ?_; rintro en w1 ⟨rfl, hn⟩; have HN2 := Lib.hid hn; clear hn)
                refine bodyPost_ret (v := .tuple #[.slice (some ⟨g, 0, none⟩) k cap, .int .i64 0]) (by simp [results, Tryz.results158, go_sem]) rfl ⟨_, ret_two HE.out.1.symm, by rw [HE.out.2]; exact HRES.out _ HN2.out, New.trans ((New.refl _).aft _ _) HN2.out⟩
      · rw [show inR u v = false from decide_eq_false (fun hh => hv hh.2)]
        have HE := Lib.hid (chE_2 (l := l) (R := l.map (frP a b c d)) HCK0.out)
        have hx0 : ∀ w0 : World, Sem.run Tryz.prog (Instr.index 152 (.agg #[.int .i64 u, .int .i64 v]) (.int .i64 0)) w0 = .ok (.int .i64 u) w0 := fun _ => by rfl
        have hx1 : ∀ w0 : World, Sem.run Tryz.prog (Instr.index 152 (.agg #[.int .i64 u, .int .i64 v]) (.int .i64 1)) w0 = .ok (.int .i64 v) w0 := fun _ => by rfl
        obtain ⟨hu1, hu2⟩ := hu
        have d1 : decide (u < -20000) = false := by simp; omega
        have d2 : decide (20000 < u) = false := by simp; omega
        have d3 : (decide (v < -20000) || decide (20000 < v)) = true := by simp; omega
        have hvv : v < -20000 ∨ 20000 < v := by omega
        clear HF
        rcases hvv with hvv | hvv
        all_goals
          go_enter Tryz.func158, Tryz.ntmps158
          go_wp2_with (go_at_call 84; refine (HCK.out _ (by (repeat (first | exact New.refl _ | apply New.alloc | apply New.aft | apply New.drew | refine New.setCell ?_ ?_ _)); all_goals (first | done | (simp [size_aft]; done) | (simp [size_aft]; omega)))).mono ?_; rintro en w1 ⟨rfl, pw, rfl⟩)
          refine wp_loop_rounds 3 ?_
          repeat any_goals (rw [rounds_succ]; go_wp2)
          all_goals (try (exfalso; omega))
          all_goals (refine bodyPost_ret (v := .tuple #[.slice none 0 0, .int .i64 1]) (by simp [results, Tryz.results158, go_sem]) rfl ⟨_, ret_two HE.out.1.symm, by rw [HE.out.2]; exact PtsR.nil _, by (repeat (first | exact New.refl _ | apply New.alloc | apply New.aft | apply New.drew | refine New.setCell ?_ ?_ _)); all_goals (first | done | (simp [size_aft]; done) | (simp [size_aft]; omega))⟩)
    · rw [show inR u v = false from decide_eq_false (fun hh => hu hh.1)]
      have HE := Lib.hid (chE_2 (l := l) (R := l.map (frP a b c d)) HCK0.out)
      have hx0 : ∀ w0 : World, Sem.run Tryz.prog (Instr.index 152 (.agg #[.int .i64 u, .int .i64 v]) (.int .i64 0)) w0 = .ok (.int .i64 u) w0 := fun _ => by rfl
      have huu : u < -20000 ∨ 20000 < u := by omega
      clear HF
      rcases huu with huu | huu
      all_goals
        go_enter Tryz.func158, Tryz.ntmps158
        go_wp2_with (go_at_call 84; refine (HCK.out _ (by (repeat (first | exact New.refl _ | apply New.alloc | apply New.aft | apply New.drew | refine New.setCell ?_ ?_ _)); all_goals (first | done | (simp [size_aft]; done) | (simp [size_aft]; omega)))).mono ?_; rintro en w1 ⟨rfl, pw, rfl⟩)
        refine wp_loop_rounds 3 ?_
        repeat any_goals (rw [rounds_succ]; go_wp2)
        all_goals (try (exfalso; omega))
        all_goals (refine bodyPost_ret (v := .tuple #[.slice none 0 0, .int .i64 1]) (by simp [results, Tryz.results158, go_sem]) rfl ⟨_, ret_two HE.out.1.symm, by rw [HE.out.2]; exact PtsR.nil _, by (repeat (first | exact New.refl _ | apply New.alloc | apply New.aft | apply New.drew | refine New.setCell ?_ ?_ _)); all_goals (first | done | (simp [size_aft]; done) | (simp [size_aft]; omega))⟩)
  · have HE := Lib.hid (chE_1 (R := l.map (frP a b c d)) (g := inR u v) hck)
    have z1 : (ckPts l 400 == 0) = false := by simpa using hck
    have z2 : (ckPts l 400 != 0) = true := by simpa using hck
    clear hck HF
    go_enter Tryz.func158, Tryz.ntmps158
    go_wp2_with (go_at_call 84; refine (HCK.out _ (by (repeat (first | exact New.refl _ | apply New.alloc | apply New.aft | apply New.drew | refine New.setCell ?_ ?_ _)); all_goals (first | done | (simp [size_aft]; done) | (simp [size_aft]; omega)))).mono ?_; rintro en w1 ⟨rfl, pw, rfl⟩)
    refine bodyPost_ret (v := .tuple #[.slice none 0 0, .int .i64 (ckPts l 400)]) (by simp [results, Tryz.results158, go_sem]) rfl ⟨_, ret_two HE.out.1.symm, by rw [HE.out.2]; exact PtsR.nil _, by (repeat (first | exact New.refl _ | apply New.alloc | apply New.aft | apply New.drew | refine New.setCell ?_ ?_ _)); all_goals (first | done | (simp [size_aft]; done) | (simp [size_aft]; omega))⟩


set_option maxHeartbeats 4000000 in
theorem changed_nil (av : Option Addr) (cp : Nat) (u v : Int) (fv : Value) (w : World) : Calls Tryz.prog 158 #[.slice av 0 cp, .agg #[.int .i64 u, .int .i64 v], fv] w fun en w' => ∃ r, en = .returned (.tuple #[r, .int .i64 (chE [] [] (inR u v))]) ∧ PtsR w' r (chL [] [] (inR u v)) ∧ New w w' := by
  obtain ⟨i0, hi, hz0, hz1, hz2⟩ := info_parts info23
  have HCK := Lib.hid (fun (a : Option Addr) (c : Nat) (w1 : World) => checkPoints_nil a c 400 (by omega) w1)
  have hx0 : ∀ w0 : World, Sem.run Tryz.prog (Instr.index 152 (.agg #[.int .i64 u, .int .i64 v]) (.int .i64 0)) w0 = .ok (.int .i64 u) w0 := fun _ => by rfl
  have hx1 : ∀ w0 : World, Sem.run Tryz.prog (Instr.index 152 (.agg #[.int .i64 u, .int .i64 v]) (.int .i64 1)) w0 = .ok (.int .i64 v) w0 := fun _ => by rfl
  have hmk : ∀ w : World, (Instr.makeSlice 40 (.int .i64 0) (.int .i64 0)).run Tryz.prog w = .ok (.slice (some ⟨w.heap.size, 0, none⟩) 0 0) (w.alloc (.cells (madeCells (.agg #[.int .i64 0, .int .i64 0] : Value).cells (0 * 2)) 23)) := by
    intro w
    have := run_make (P := Tryz.prog) w 40 23 i0 _ Tryz.underlying40 hi hz0 .i64 .i64 0 0 (by omega) (by omega) (by rw [hz2]; omega) (by omega)
    rw [hz1] at this
    simpa using this
  have hck : ckPts ([] : List P2) 400 = 0 := by decide
  by_cases hu : -20000 ≤ u ∧ u ≤ 20000
  · by_cases hv : -20000 ≤ v ∧ v ≤ 20000
    · rw [show inR u v = true from decide_eq_true ⟨hu, hv⟩]
      have HE := Lib.hid (chE_4 (R := []) hck rfl)
      obtain ⟨hu1, hu2⟩ := hu
      obtain ⟨hv1, hv2⟩ := hv
      go_enter Tryz.func158, Tryz.ntmps158
      go_wp2_with (go_at_call 84; refine (HCK.out _ _ _).mono ?_; rintro en w1 ⟨rfl, pw, rfl⟩)
      refine wp_loop_rounds 3 ?_
      repeat any_goals (rw [rounds_succ]; go_wp2)
      all_goals (try (exfalso; omega))
      refine wp_loop_rounds 1 ?_
      rw [rounds_succ]
      go_wp2_with (go_at_call 84; refine (HCK.out _ _ _).mono ?_; rintro en w1 ⟨rfl, pw2, rfl⟩)
      all_goals (refine bodyPost_ret (v := .tuple #[.slice (some ⟨w.heap.size + 1 + pw.os.size, 0, none⟩) 0 0, .int .i64 0]) (by simp [results, Tryz.results158, go_sem]) rfl ⟨_, ret_two HE.out.1.symm, by rw [HE.out.2]; exact ⟨_, 0, rfl, fun h => absurd h (by simp), by simp⟩, by (repeat (first | exact New.refl _ | apply New.alloc | apply New.aft | apply New.drew | refine New.setCell ?_ ?_ _)); all_goals (first | done | (simp [size_aft]; done) | (simp [size_aft]; omega))⟩)
    · rw [show inR u v = false from decide_eq_false (fun hh => hv hh.2)]
      have HE := Lib.hid (chE_2 (l := []) (R := []) hck)
      obtain ⟨hu1, hu2⟩ := hu
      have hvv : v < -20000 ∨ 20000 < v := by omega
      rcases hvv with hvv | hvv
      all_goals
        go_enter Tryz.func158, Tryz.ntmps158
        go_wp2_with (go_at_call 84; refine (HCK.out _ _ _).mono ?_; rintro en w1 ⟨rfl, pw, rfl⟩)
        refine wp_loop_rounds 3 ?_
        repeat any_goals (rw [rounds_succ]; go_wp2)
        all_goals (try (exfalso; omega))
        all_goals (refine bodyPost_ret (v := .tuple #[.slice none 0 0, .int .i64 1]) (by simp [results, Tryz.results158, go_sem]) rfl ⟨_, ret_two HE.out.1.symm, by rw [HE.out.2]; exact PtsR.nil _, by (repeat (first | exact New.refl _ | apply New.alloc | apply New.aft | apply New.drew | refine New.setCell ?_ ?_ _)); all_goals (first | done | (simp [size_aft]; done) | (simp [size_aft]; omega))⟩)
  · rw [show inR u v = false from decide_eq_false (fun hh => hu hh.1)]
    have HE := Lib.hid (chE_2 (l := []) (R := []) hck)
    have huu : u < -20000 ∨ 20000 < u := by omega
    rcases huu with huu | huu
    all_goals
      go_enter Tryz.func158, Tryz.ntmps158
      go_wp2_with (go_at_call 84; refine (HCK.out _ _ _).mono ?_; rintro en w1 ⟨rfl, pw, rfl⟩)
      refine wp_loop_rounds 3 ?_
      repeat any_goals (rw [rounds_succ]; go_wp2)
      all_goals (try (exfalso; omega))
      all_goals (refine bodyPost_ret (v := .tuple #[.slice none 0 0, .int .i64 1]) (by simp [results, Tryz.results158, go_sem]) rfl ⟨_, ret_two HE.out.1.symm, by rw [HE.out.2]; exact PtsR.nil _, by (repeat (first | exact New.refl _ | apply New.alloc | apply New.aft | apply New.drew | refine New.setCell ?_ ?_ _)); all_goals (first | done | (simp [size_aft]; done) | (simp [size_aft]; omega))⟩)

def inR4 (a b c d : Int) : Bool := inR a b && inR c d
theorem inR4_cases (a b c d : Int) : (inR4 a b c d = true ∧ (-20000 ≤ a ∧ a ≤ 20000) ∧ (-20000 ≤ b ∧ b ≤ 20000) ∧ (-20000 ≤ c ∧ c ≤ 20000) ∧ (-20000 ≤ d ∧ d ≤ 20000)) ∨
    (inR4 a b c d = false ∧ ((a < -20000 ∨ 20000 < a) ∨ ((-20000 ≤ a ∧ a ≤ 20000) ∧ (b < -20000 ∨ 20000 < b)) ∨ ((-20000 ≤ a ∧ a ≤ 20000) ∧ (-20000 ≤ b ∧ b ≤ 20000) ∧ (c < -20000 ∨ 20000 < c)) ∨ ((-20000 ≤ a ∧ a ≤ 20000) ∧ (-20000 ≤ b ∧ b ≤ 20000) ∧ (-20000 ≤ c ∧ c ≤ 20000) ∧ (d < -20000 ∨ 20000 < d)))) := by
  cases h : inR4 a b c d
  · right
    refine ⟨rfl, ?_⟩
    unfold inR4 inR at h
    rw [Bool.and_eq_false_iff, decide_eq_false_iff_not, decide_eq_false_iff_not] at h
    omega
  · left
    unfold inR4 inR at h
    simp only [Bool.and_eq_true, decide_eq_true_eq] at h
    exact ⟨rfl, h.1.1, h.1.2, h.2.1, h.2.2⟩

end Go.Proofs.YtpdfbboagaflhaaGreat

set_option linter.unusedSimpArgs false
set_option linter.unusedVariables false
set_option maxRecDepth 100000
namespace Go.Proofs.YtpdfbboagaflhaaGreat
open Go.RowKit

/-- every list of points -/
def PtsA (w : World) (av : Option Addr) (n : Nat) (l : List P2) : Prop := l.length = n ∧ (0 < n → ∃ b off, av = some ⟨b, off, none⟩ ∧ Pts w b off n l)
theorem PtsA.new {w w' : World} {av : Option Addr} {n : Nat} {l : List P2} (h : PtsA w av n l) (hn : New w w') : PtsA w' av n l :=
  ⟨h.1, fun h0 => by obtain ⟨b, off, h1, h2⟩ := h.2 h0; exact ⟨b, off, h1, h2.new hn⟩⟩


def ChgIs (w w' : World) (en : Ending) (l R : List P2) (g : Bool) : Prop := ∃ r, en = .returned (.tuple #[r, .int .i64 (chE l R g)]) ∧ PtsR w' r (chL l R g) ∧ New w w'
theorem frP_move (l : List P2) (dx dy : Int) : inR4 1 dx 1 dy = inR dx dy := by
  unfold inR4 inR; rw [Bool.eq_iff_iff]; simp only [Bool.and_eq_true, decide_eq_true_eq]; omega
theorem inR4_mirror (dx : Int) : inR4 (-1) dx 1 0 = inR dx 0 := by
  unfold inR4 inR; rw [Bool.eq_iff_iff]; simp only [Bool.and_eq_true, decide_eq_true_eq]; omega
theorem inR4_enlarge (k : Int) : inR4 k 0 k 0 = inR k 0 := by
  unfold inR4 inR; rw [Bool.eq_iff_iff]; simp only [Bool.and_eq_true, decide_eq_true_eq]; omega

set_option maxHeartbeats 4000000 in
theorem move_c (av : Option Addr) (n cp : Nat) (l : List P2) (dx dy : Int) (w : World) (hl : n ≤ 1000000) (hp : PtsA w av n l) :
    Calls Tryz.prog 75 #[.slice av n cp, .int .i64 dx, .int .i64 dy] w fun en w' => ∃ r, en = .returned (.tuple #[r, .int .i64 (chE l (l.map (frP 1 dx 1 dy)) (inR dx dy))]) ∧ PtsR w' r (chL l (l.map (frP 1 dx 1 dy)) (inR dx dy)) ∧ New w w' := by
  have hmf : ∀ (fn : Fn) (first cap : Array Value) (w : World), (Instr.makeFunc fn first cap).run Tryz.prog w = .ok (.func fn first cap) w := fun _ _ _ _ => rfl
  have HCH := Lib.hid (show ∀ w1 : World, New w w1 → (w1.cell? ⟨w.heap.size, 0, none⟩ = some (.int .i64 dx) ∧ w.heap.size < w1.heap.size) ∧ (w1.cell? ⟨w.heap.size + 1, 0, none⟩ = some (.int .i64 dy) ∧ w.heap.size + 1 < w1.heap.size) → Calls Tryz.prog 158 #[.slice av n cp, .agg #[.int .i64 dx, .int .i64 dy], .func (.func 159) #[] #[.pointer (some ⟨w.heap.size, 0, none⟩), .pointer (some ⟨w.heap.size + 1, 0, none⟩)]] w1 fun en w' => ∃ r, en = .returned (.tuple #[r, .int .i64 (chE l (l.map (frP 1 dx 1 dy)) (inR dx dy))]) ∧ PtsR w' r (chL l (l.map (frP 1 dx 1 dy)) (inR dx dy)) ∧ New w1 w' from fun w1 hn hc => by
    by_cases h0 : 0 < n
    · obtain ⟨b0, off, rfl, hw⟩ := hp.2 h0
      exact changed159 b0 off n cp w.heap.size (w.heap.size + 1) l 1 dx 1 dy dx dy w1 h0 hl (hw.new hn) (Lib.hid (fun w2 hn2 x y hx hy hr => by
        have := (move1_c x y dx dy w.heap.size (w.heap.size + 1) w2 hx hy hr.1 hr.2 ((hn2.cell hc.1.2).trans hc.1.1) ((hn2.cell hc.2.2).trans hc.2.1) (Nat.lt_of_lt_of_le hc.1.2 hn2.size) (Nat.lt_of_lt_of_le hc.2.2 hn2.size))
        rw [show x + dx = 1 * x + dx by omega, show y + dy = 1 * y + dy by omega] at this
        exact this))
    · obtain rfl : n = 0 := by omega
      have : l = [] := List.eq_nil_of_length_eq_zero hp.1
      subst this
      exact changed_nil av cp dx dy _ w1)
  generalize chE l (l.map (frP 1 dx 1 dy)) (inR dx dy) = E at *
  generalize chL l (l.map (frP 1 dx 1 dy)) (inR dx dy) = L at *
  clear hp
  go_enter Tryz.func75, Tryz.ntmps75
  go_wp2_with (go_at_call 158; refine (HCH.out _ (by (repeat (first | exact New.refl _ | apply New.alloc | apply New.aft | apply New.drew | refine New.setCell ?_ ?_ _)); all_goals (first | done | (simp [size_aft]; done) | (simp [size_aft]; omega))) (by simp [go_sem])).mono ?_; rintro en w1 ⟨r, rfl, hr, hn⟩; have HR := Lib.hid hr; have HN := Lib.hid (New.trans (by (repeat (first | exact New.refl _ | apply New.alloc | apply New.aft | apply New.drew | refine New.setCell ?_ ?_ _)); all_goals (first | done | (simp [size_aft]; done) | (simp [size_aft]; omega))) hn : New w w1); clear hr hn)
  all_goals (refine bodyPost_ret (v := .tuple #[r, .int .i64 E]) (by simp [results, Tryz.results75, go_sem]) rfl ⟨r, rfl, HR.out, HN.out⟩)

set_option maxHeartbeats 4000000 in
theorem mirror_c (av : Option Addr) (n cp : Nat) (l : List P2) (dx : Int) (w : World) (hl : n ≤ 1000000) (hp : PtsA w av n l) :
    Calls Tryz.prog 77 #[.slice av n cp, .int .i64 dx] w fun en w' => ∃ r, en = .returned (.tuple #[r, .int .i64 (chE l (l.map (frP (-1) dx 1 0)) (inR dx 0))]) ∧ PtsR w' r (chL l (l.map (frP (-1) dx 1 0)) (inR dx 0)) ∧ New w w' := by
  have hmf : ∀ (fn : Fn) (first cap : Array Value) (w : World), (Instr.makeFunc fn first cap).run Tryz.prog w = .ok (.func fn first cap) w := fun _ _ _ _ => rfl
  have HCH := Lib.hid (show ∀ w1 : World, New w w1 → (w1.cell? ⟨w.heap.size, 0, none⟩ = some (.int .i64 dx) ∧ w.heap.size < w1.heap.size) → Calls Tryz.prog 158 #[.slice av n cp, .agg #[.int .i64 dx, .int .i64 0], .func (.func 161) #[] #[.pointer (some ⟨w.heap.size, 0, none⟩)]] w1 fun en w' => ∃ r, en = .returned (.tuple #[r, .int .i64 (chE l (l.map (frP (-1) dx 1 0)) (inR dx 0))]) ∧ PtsR w' r (chL l (l.map (frP (-1) dx 1 0)) (inR dx 0)) ∧ New w1 w' from fun w1 hn hc => by
    by_cases h0 : 0 < n
    · obtain ⟨b0, off, rfl, hw⟩ := hp.2 h0
      exact changed161 b0 off n cp w.heap.size l (-1) dx 1 0 dx 0 w1 h0 hl (hw.new hn) (Lib.hid (fun w2 hn2 x y hx hy hr => by
        have := (mirror1_c x y dx w.heap.size w2 hx hy hr.1 ((hn2.cell hc.2).trans hc.1) (Nat.lt_of_lt_of_le hc.2 hn2.size))
        rw [show dx - x = (-1) * x + dx by omega, show pv ((-1) * x + dx) y = pv ((-1) * x + dx) (1 * y + 0) by rw [show 1 * y + 0 = y by omega]] at this
        exact this))
    · obtain rfl : n = 0 := by omega
      have : l = [] := List.eq_nil_of_length_eq_zero hp.1
      subst this
      exact changed_nil av cp dx 0 _ w1)
  generalize chE l (l.map (frP (-1) dx 1 0)) (inR dx 0) = E at *
  generalize chL l (l.map (frP (-1) dx 1 0)) (inR dx 0) = L at *
  clear hp
  go_enter Tryz.func77, Tryz.ntmps77
  go_wp2_with (go_at_call 158; refine (HCH.out _ (by (repeat (first | exact New.refl _ | apply New.alloc | apply New.aft | apply New.drew | refine New.setCell ?_ ?_ _)); all_goals (first | done | (simp [size_aft]; done) | (simp [size_aft]; omega))) (by simp [go_sem])).mono ?_; rintro en w1 ⟨r, rfl, hr, hn⟩; have HR := Lib.hid hr; have HN := Lib.hid (New.trans (by (repeat (first | exact New.refl _ | apply New.alloc | apply New.aft | apply New.drew | refine New.setCell ?_ ?_ _)); all_goals (first | done | (simp [size_aft]; done) | (simp [size_aft]; omega))) hn : New w w1); clear hr hn)
  all_goals (refine bodyPost_ret (v := .tuple #[r, .int .i64 E]) (by simp [results, Tryz.results77, go_sem]) rfl ⟨r, rfl, HR.out, HN.out⟩)

set_option maxHeartbeats 4000000 in
theorem enlarge_c (av : Option Addr) (n cp : Nat) (l : List P2) (k : Int) (w : World) (hl : n ≤ 1000000) (hp : PtsA w av n l) :
    Calls Tryz.prog 79 #[.slice av n cp, .int .i64 k] w fun en w' => ∃ r, en = .returned (.tuple #[r, .int .i64 (chE l (l.map (frP k 0 k 0)) (inR k 0))]) ∧ PtsR w' r (chL l (l.map (frP k 0 k 0)) (inR k 0)) ∧ New w w' := by
  have hmf : ∀ (fn : Fn) (first cap : Array Value) (w : World), (Instr.makeFunc fn first cap).run Tryz.prog w = .ok (.func fn first cap) w := fun _ _ _ _ => rfl
  have HCH := Lib.hid (show ∀ w1 : World, New w w1 → (w1.cell? ⟨w.heap.size, 0, none⟩ = some (.int .i64 k) ∧ w.heap.size < w1.heap.size) → Calls Tryz.prog 158 #[.slice av n cp, .agg #[.int .i64 k, .int .i64 0], .func (.func 162) #[] #[.pointer (some ⟨w.heap.size, 0, none⟩)]] w1 fun en w' => ∃ r, en = .returned (.tuple #[r, .int .i64 (chE l (l.map (frP k 0 k 0)) (inR k 0))]) ∧ PtsR w' r (chL l (l.map (frP k 0 k 0)) (inR k 0)) ∧ New w1 w' from fun w1 hn hc => by
    by_cases h0 : 0 < n
    · obtain ⟨b0, off, rfl, hw⟩ := hp.2 h0
      exact changed162 b0 off n cp w.heap.size l k 0 k 0 k 0 w1 h0 hl (hw.new hn) (Lib.hid (fun w2 hn2 x y hx hy hr => by
        have := (enlarge1_c x y k w.heap.size w2 hx hy hr.1 ((hn2.cell hc.2).trans hc.1) (Nat.lt_of_lt_of_le hc.2 hn2.size))
        rw [show x * k = k * x + 0 by rw [Int.mul_comm]; omega, show y * k = k * y + 0 by rw [Int.mul_comm]; omega] at this
        exact this))
    · obtain rfl : n = 0 := by omega
      have : l = [] := List.eq_nil_of_length_eq_zero hp.1
      subst this
      exact changed_nil av cp k 0 _ w1)
  generalize chE l (l.map (frP k 0 k 0)) (inR k 0) = E at *
  generalize chL l (l.map (frP k 0 k 0)) (inR k 0) = L at *
  clear hp
  go_enter Tryz.func79, Tryz.ntmps79
  go_wp2_with (go_at_call 158; refine (HCH.out _ (by (repeat (first | exact New.refl _ | apply New.alloc | apply New.aft | apply New.drew | refine New.setCell ?_ ?_ _)); all_goals (first | done | (simp [size_aft]; done) | (simp [size_aft]; omega))) (by simp [go_sem])).mono ?_; rintro en w1 ⟨r, rfl, hr, hn⟩; have HR := Lib.hid hr; have HN := Lib.hid (New.trans (by (repeat (first | exact New.refl _ | apply New.alloc | apply New.aft | apply New.drew | refine New.setCell ?_ ?_ _)); all_goals (first | done | (simp [size_aft]; done) | (simp [size_aft]; omega))) hn : New w w1); clear hr hn)
  all_goals (refine bodyPost_ret (v := .tuple #[r, .int .i64 E]) (by simp [results, Tryz.results79, go_sem]) rfl ⟨r, rfl, HR.out, HN.out⟩)

end Go.Proofs.YtpdfbboagaflhaaGreat

set_option linter.unusedSimpArgs false
set_option linter.unusedVariables false
set_option linter.unusedSectionVars false
namespace Go.Proofs.YtpdfbboagaflhaaGreat
open Go.RowKit

theorem turnI_fr (a b c d x1 y1 x2 y2 x3 y3 : Int) : turnI (a * x1 + b) (c * y1 + d) (a * x2 + b) (c * y2 + d) (a * x3 + b) (c * y3 + d) = Int.sign (a * c) * turnI x1 y1 x2 y2 x3 y3 := by
  rw [turnI_sign, turnI_sign, ← Int.sign_mul]
  congr 1
  grind
theorem mul_lt_iff {a x y : Int} (h : 0 < a) : a * x < a * y ↔ x < y := ⟨fun h' => Int.lt_of_mul_lt_mul_left h' (by omega), fun h' => Int.mul_lt_mul_of_pos_left h' h⟩
theorem mul_lt_iff' {a x y : Int} (h : a < 0) : a * x < a * y ↔ y < x := by
  have := mul_lt_iff (a := -a) (x := y) (y := x) (by omega)
  rw [Int.neg_mul, Int.neg_mul] at this
  omega
theorem btwB_iff (x u v : Int) : btwB x u v = true ↔ ¬ ((x < u ∧ x < v) ∨ (u < x ∧ v < x)) := by
  simp only [btwB, Bool.and_eq_true, decide_eq_true_eq]; omega
theorem btwB_fr {a b x u v : Int} (h : a ≠ 0) : btwB (a * x + b) (a * u + b) (a * v + b) = btwB x u v := by
  rw [Bool.eq_iff_iff, btwB_iff, btwB_iff]
  have s : ∀ m n : Int, m + b < n + b ↔ m < n := fun m n => by omega
  simp only [s]
  rcases Int.lt_or_gt_of_ne h with h | h
  · simp only [mul_lt_iff' h]; omega
  · simp only [mul_lt_iff h]
theorem fr_inj {a b x y : Int} (h : a ≠ 0) : a * x + b = a * y + b ↔ x = y := by
  constructor
  · intro e
    have : a * x = a * y := by omega
    exact Int.eq_of_mul_eq_mul_left h this
  · rintro rfl; rfl
theorem onR_fr {a b c d p q x1 y1 x2 y2 : Int} (ha : a ≠ 0) (hc : c ≠ 0) : onR (a * p + b) (c * q + d) (a * x1 + b) (c * y1 + d) (a * x2 + b) (c * y2 + d) = onR p q x1 y1 x2 y2 := by
  unfold onR
  rw [btwB_fr ha, btwB_fr hc, turnI_fr]
  congr 1
  rcases sign_ne (mul_ne ha hc) with h | h <;> rw [h, Bool.eq_iff_iff] <;> simp
theorem frP_inj {a b c d : Int} (ha : a ≠ 0) (hc : c ≠ 0) {p q : P2} : frP a b c d p = frP a b c d q ↔ p = q := by
  obtain ⟨p1, p2⟩ := p; obtain ⟨q1, q2⟩ := q
  simp only [frP, Prod.mk.injEq, fr_inj ha, fr_inj hc]
theorem contains_fr {a b c d : Int} (ha : a ≠ 0) (hc : c ≠ 0) (o : List P2) (p : P2) : (o.map (frP a b c d)).contains (frP a b c d p) = o.contains p := by
  rw [Bool.eq_iff_iff]
  simp only [List.contains_iff_mem, List.mem_map]
  constructor
  · rintro ⟨q, hq, he⟩; rw [(frP_inj ha hc).1 he] at hq; exact hq
  · intro h; exact ⟨p, h, rfl⟩
section
variable {a b c d : Int} (ha : a ≠ 0) (hc : c ≠ 0) (x1 y1 x2 y2 x3 y3 x4 y4 : Int)
include ha hc
theorem endStep_fr (o : List P2) (p : P2) : endStep (a * x1 + b) (c * y1 + d) (a * x2 + b) (c * y2 + d) (a * x3 + b) (c * y3 + d) (a * x4 + b) (c * y4 + d) (o.map (frP a b c d)) (frP a b c d p) = (endStep x1 y1 x2 y2 x3 y3 x4 y4 o p).map (frP a b c d) := by
  unfold endStep
  rw [contains_fr ha hc]
  have : bothB (a * x1 + b) (c * y1 + d) (a * x2 + b) (c * y2 + d) (a * x3 + b) (c * y3 + d) (a * x4 + b) (c * y4 + d) (frP a b c d p) = bothB x1 y1 x2 y2 x3 y3 x4 y4 p := by
    unfold bothB frP; simp only [onR_fr ha hc]
  rw [this]
  split <;> simp
theorem endsL_fr : endsL (a * x1 + b) (c * y1 + d) (a * x2 + b) (c * y2 + d) (a * x3 + b) (c * y3 + d) (a * x4 + b) (c * y4 + d) = (endsL x1 y1 x2 y2 x3 y3 x4 y4).map (frP a b c d) := by
  unfold endsL
  have h : ∀ (l o : List P2), (l.map (frP a b c d)).foldl (endStep (a * x1 + b) (c * y1 + d) (a * x2 + b) (c * y2 + d) (a * x3 + b) (c * y3 + d) (a * x4 + b) (c * y4 + d)) (o.map (frP a b c d)) = (l.foldl (endStep x1 y1 x2 y2 x3 y3 x4 y4) o).map (frP a b c d) := by
    intro l
    induction l with
    | nil => intro o; rfl
    | cons p l ih => intro o; simp only [List.map_cons, List.foldl_cons]; rw [endStep_fr ha hc, ih]
  exact h [(x1, y1), (x2, y2), (x3, y3), (x4, y4)] []
theorem meetR_fr : meetR (a * x1 + b) (c * y1 + d) (a * x2 + b) (c * y2 + d) (a * x3 + b) (c * y3 + d) (a * x4 + b) (c * y4 + d) = meetR x1 y1 x2 y2 x3 y3 x4 y4 := by
  unfold meetR
  rw [endsL_fr ha hc]
  have s2 : Int.sign (a * c) * Int.sign (a * c) = 1 := by rcases sign_ne (mul_ne ha hc) with h | h <;> rw [h] <;> rfl
  have s3 : ∀ u v : Int, Int.sign (a * c) * u * (Int.sign (a * c) * v) = u * v := fun u v => by
    rw [show Int.sign (a * c) * u * (Int.sign (a * c) * v) = Int.sign (a * c) * Int.sign (a * c) * (u * v) by grind, s2, Int.one_mul]
  have fe : ∀ (p : P2) (x y : Int), frP a b c d p = (a * x + b, c * y + d) ↔ p = (x, y) := fun p x y => frP_inj (q := (x, y)) ha hc
  cases endsL x1 y1 x2 y2 x3 y3 x4 y4 with
  | nil => simp only [List.map_nil, meetOf, turnI_fr, s3]
  | cons p l =>
    cases l with
    | nil => simp only [List.map_cons, List.map_nil, meetOf, fe]
    | cons q l => rfl
theorem okS_fr (h1 : okP x1 y1 = true) (h2 : okP x2 y2 = true) (h1' : okP (a * x1 + b) (c * y1 + d) = true) (h2' : okP (a * x2 + b) (c * y2 + d) = true) :
    okS (a * x1 + b) (c * y1 + d) (a * x2 + b) (c * y2 + d) = okS x1 y1 x2 y2 := by
  unfold okS
  rw [h1, h2, h1', h2']
  congr 2
  rw [Bool.eq_iff_iff]
  simp only [Bool.and_eq_true, beq_iff_eq, fr_inj ha, fr_inj hc]
theorem meetI_fr (h1 : okS x1 y1 x2 y2 = true) (h2 : okS x3 y3 x4 y4 = true) (h1' : okS (a * x1 + b) (c * y1 + d) (a * x2 + b) (c * y2 + d) = true) (h2' : okS (a * x3 + b) (c * y3 + d) (a * x4 + b) (c * y4 + d) = true) :
    meetI (a * x1 + b) (c * y1 + d) (a * x2 + b) (c * y2 + d) (a * x3 + b) (c * y3 + d) (a * x4 + b) (c * y4 + d) = meetI x1 y1 x2 y2 x3 y3 x4 y4 := by
  rw [← meet_eq h1 h2, ← meet_eq h1' h2', meetR_fr ha hc]
end

/-! lists -/
theorem px_fr {a b c d : Int} (l : List P2) (k : Nat) (h : k < l.length) : px (l.map (frP a b c d)) k = a * px l k + b ∧ py (l.map (frP a b c d)) k = c * py l k + d := px_map l _ k h
theorem edges_fr {a b c d : Int} (l : List P2) (i : Nat) (h : i < l.length) :
    q1 (edgesL (l.map (frP a b c d))) i = a * q1 (edgesL l) i + b ∧ q2 (edgesL (l.map (frP a b c d))) i = c * q2 (edgesL l) i + d ∧ q3 (edgesL (l.map (frP a b c d))) i = a * q3 (edgesL l) i + b ∧ q4 (edgesL (l.map (frP a b c d))) i = c * q4 (edgesL l) i + d := by
  obtain ⟨e1, e2, e3, e4⟩ := edgesL_at l i h
  obtain ⟨g1, g2, g3, g4⟩ := edgesL_at (l.map (frP a b c d)) i (by simpa using h)
  rw [List.length_map] at g3 g4
  have hm : (i + 1) % l.length < l.length := Nat.mod_lt _ (by omega)
  rw [g1, g2, g3, g4, e1, e2, e3, e4, (px_fr l i h).1, (px_fr l i h).2, (px_fr l _ hm).1, (px_fr l _ hm).2]
  exact ⟨rfl, rfl, rfl, rfl⟩
theorem rep_fr {a b c d : Int} (ha : a ≠ 0) (hc : c ≠ 0) {l : List P2} (hok' : okL (l.map (frP a b c d)) = true) (h : repI l = false) : repI (l.map (frP a b c d)) = false := by
  refine rep_none1 hok' fun i j hj hi => ?_
  rw [List.length_map] at hi
  rw [(px_fr l i hi).1, (px_fr l i hi).2, (px_fr l j (by omega)).1, (px_fr l j (by omega)).2, fr_inj ha, fr_inj hc]
  rintro ⟨u, v⟩
  have := rep_no h hi (by omega) u v
  omega
theorem rep_back {a b c d : Int} {l : List P2} (hok : okL l = true) (h : repI (l.map (frP a b c d)) = false) : repI l = false := by
  refine rep_none1 hok fun i j hj hi => ?_
  rintro ⟨u, v⟩
  have := rep_no h (i := i) (j := j) (by simpa using hi) (by simp; omega) (by rw [(px_fr l i hi).1, (px_fr l j (by omega)).1, u]) (by rw [(px_fr l i hi).2, (px_fr l j (by omega)).2, v])
  omega
theorem meetE_fr {a b c d : Int} (ha : a ≠ 0) (hc : c ≠ 0) {l : List P2} (hok : okL l = true) (hok' : okL (l.map (frP a b c d)) = true) (h2 : 2 ≤ l.length) (h : repI l = false) (i j : Nat) (hi : i < l.length) (hj : j < l.length) :
    meetE (edgesL (l.map (frP a b c d))) i j = meetE (edgesL l) i j := by
  have k1 := edge_okS hok h h2 i hi
  have k2 := edge_okS hok h h2 j hj
  have k3 := edge_okS hok' (rep_fr ha hc hok' h) (by simpa using h2) i (by simpa using hi)
  have k4 := edge_okS hok' (rep_fr ha hc hok' h) (by simpa using h2) j (by simpa using hj)
  obtain ⟨e1, e2, e3, e4⟩ := edges_fr (a := a) (b := b) (c := c) (d := d) l i hi
  obtain ⟨g1, g2, g3, g4⟩ := edges_fr (a := a) (b := b) (c := c) (d := d) l j hj
  rw [e1, e2, e3, e4] at k3
  rw [g1, g2, g3, g4] at k4
  unfold meetE
  rw [e1, e2, e3, e4, g1, g2, g3, g4, meetI_fr ha hc _ _ _ _ _ _ _ _ k1 k2 k3 k4]
theorem poly_fr {a b c d : Int} (ha : a ≠ 0) (hc : c ≠ 0) {l : List P2} (hok : okL l = true) (hok' : okL (l.map (frP a b c d)) = true) : polyI (l.map (frP a b c d)) = 0 ↔ polyI l = 0 := by
  have ck : ckPts (l.map (frP a b c d)) 200 = ckPts l 200 := by unfold ckPts; rw [List.length_map, hok, hok']
  constructor
  · intro h
    obtain ⟨h1, h2, h3, h4⟩ := polyI_ok h
    rw [List.length_map] at h2
    have hr := rep_back hok h3
    refine (poly_4 (by rw [← ck]; exact h1) (by omega) hr ?_).symm
    rw [apartB_iff] at h4 ⊢
    intro i hi j hij hj
    rw [← meetE_fr ha hc hok hok' (by omega) hr i j hi hj]
    have := h4 i (by simpa using hi) j hij (by simpa using hj)
    rw [this, List.length_map]
  · intro h
    obtain ⟨h1, h2, h3, h4⟩ := polyI_ok h
    refine (poly_4 (by rw [ck]; exact h1) (by rw [List.length_map]; omega) (rep_fr ha hc hok' h3) ?_).symm
    rw [apartB_iff] at h4 ⊢
    rw [List.length_map]
    intro i hi j hij hj
    rw [meetE_fr ha hc hok hok' (by omega) h3 i j hi hj]
    exact h4 i hi j hij hj

/-! where -/
theorem onAt_fr {a b c d : Int} (ha : a ≠ 0) (hc : c ≠ 0) (l : List P2) (p q : Int) (i : Nat) (hi : i < l.length) : onAt (edgesL (l.map (frP a b c d))) (a * p + b) (c * q + d) i = onAt (edgesL l) p q i := by
  obtain ⟨e1, e2, e3, e4⟩ := edges_fr (a := a) (b := b) (c := c) (d := d) l i hi
  unfold onAt
  rw [← onR_eq, ← onR_eq, e1, e2, e3, e4, onR_fr ha hc]
theorem anyOn_fr {a b c d : Int} (ha : a ≠ 0) (hc : c ≠ 0) (l : List P2) (p q : Int) : anyOn (edgesL (l.map (frP a b c d))) (a * p + b) (c * q + d) l.length = anyOn (edgesL l) p q l.length := by
  unfold anyOn
  rw [Bool.eq_iff_iff]
  simp only [List.any_eq_true, List.mem_range]
  constructor
  · rintro ⟨i, hi, h⟩; exact ⟨i, hi, by rw [← onAt_fr ha hc l p q i hi]; exact h⟩
  · rintro ⟨i, hi, h⟩; exact ⟨i, hi, by rw [onAt_fr ha hc l p q i hi]; exact h⟩
theorem passB_pos {a b c d x1 y1 x2 y2 p q : Int} (ha : 0 < a) (hc : 0 < c) : passB (a * x1 + b) (c * y1 + d) (a * x2 + b) (c * y2 + d) (a * p + b) (c * q + d) = passB x1 y1 x2 y2 p q := by
  have s1 : Int.sign (a * c) = 1 := Int.sign_eq_one_of_pos (Int.mul_pos ha hc)
  have s : ∀ m n : Int, c * m + d < c * n + d ↔ m < n := fun m n => by rw [← mul_lt_iff hc (x := m)]; omega
  have s' : ∀ m n : Int, c * m + d ≤ c * n + d ↔ m ≤ n := fun m n => by have := s n m; omega
  unfold passB
  rw [turnI_fr, turnI_fr, s1]
  simp only [s, s', Int.one_mul]
/-- whether one end is at most so high, and the other one is not -/
def strB (y1 y2 q : Int) : Bool := xor (decide (y1 ≤ q)) (decide (y2 ≤ q))
theorem passB_neg {a b c d x1 y1 x2 y2 p q : Int} (ha : a < 0) (hc : 0 < c) (ho : onR p q x1 y1 x2 y2 = false) : passB (a * x1 + b) (c * y1 + d) (a * x2 + b) (c * y2 + d) (a * p + b) (c * q + d) = xor (passB x1 y1 x2 y2 p q) (strB y1 y2 q) := by
  have s1 : Int.sign (a * c) = -1 := Int.sign_eq_neg_one_of_neg (by have := Int.mul_pos (a := -a) (b := c) (by omega) hc; rw [Int.neg_mul] at this; omega)
  have s : ∀ m n : Int, c * m + d < c * n + d ↔ m < n := fun m n => by rw [← mul_lt_iff hc (x := m)]; omega
  have s' : ∀ m n : Int, c * m + d ≤ c * n + d ↔ m ≤ n := fun m n => by have := s n m; omega
  have key : ∀ {x1 y1 x2 y2 : Int}, onR p q x1 y1 x2 y2 = false → y1 ≤ q → q < y2 → turnI x1 y1 x2 y2 p q ≠ 0 := by
    intro x1 y1 x2 y2 ho h1 h2 h0
    have h0' := h0
    rw [turnI_sign, Int.sign_eq_zero_iff_zero] at h0
    obtain ⟨k, _, _⟩ := on_core (a := y1) (b := x1) (c := y2) (d := x2) (p := q) (q := p) (by omega) (by rw [Int.mul_comm (x2 - x1)] at h0; grind) (by omega) (by omega)
    have : onR p q x1 y1 x2 y2 = true := by
      unfold onR btwB
      rw [h0']
      simp only [Bool.and_eq_true, decide_eq_true_eq, beq_iff_eq]
      exact ⟨⟨k, by omega, by omega⟩, trivial⟩
    rw [this] at ho; cases ho
  have three : ∀ {x1 y1 x2 y2 : Int}, turnI x1 y1 x2 y2 p q ≠ 0 → (-1 * turnI x1 y1 x2 y2 p q == 1) = !(turnI x1 y1 x2 y2 p q == 1) := by
    intro x1 y1 x2 y2 h
    have : turnI x1 y1 x2 y2 p q = 1 ∨ turnI x1 y1 x2 y2 p q = -1 := by rw [turnI_sign] at h ⊢; exact sign_ne (fun e => h (by rw [e]; rfl))
    rcases this with e | e <;> rw [e] <;> rfl
  have hrev : onR p q x2 y2 x1 y1 = false := by
    rw [← ho]; unfold onR btwB
    have : turnI x2 y2 x1 y1 p q = - turnI x1 y1 x2 y2 p q := by rw [turnI_sign, turnI_sign, ← Int.sign_neg]; congr 1; grind
    rw [this, Int.min_comm, Int.max_comm, Int.min_comm y2, Int.max_comm y2]
    congr 1
    rw [Bool.eq_iff_iff]; simp
  unfold passB
  rw [turnI_fr, turnI_fr, s1]
  simp only [s, s']
  by_cases hy : y2 < y1
  · rw [if_pos hy, if_pos hy]
    by_cases h1 : y2 ≤ q
    · by_cases h2 : q < y1
      · have : strB y1 y2 q = true := by unfold strB; rw [decide_eq_false (by omega), decide_eq_true h1]; rfl
        rw [this, three (key hrev h1 h2)]
        simp [h1, h2]
      · have : strB y1 y2 q = false := by unfold strB; rw [decide_eq_true (by omega), decide_eq_true h1]; rfl
        rw [this]; simp [h2]
    · have : strB y1 y2 q = false := by unfold strB; rw [decide_eq_false (by omega), decide_eq_false h1]; rfl
      rw [this]; simp [h1]
  · rw [if_neg hy, if_neg hy]
    by_cases h1 : y1 ≤ q
    · by_cases h2 : q < y2
      · have : strB y1 y2 q = true := by unfold strB; rw [decide_eq_true h1, decide_eq_false (by omega)]; rfl
        rw [this, three (key ho h1 h2)]
        simp [h1, h2]
      · have : strB y1 y2 q = false := by unfold strB; rw [decide_eq_true h1, decide_eq_true (by omega)]; rfl
        rw [this]; simp [h2]
    · have : strB y1 y2 q = false := by unfold strB; rw [decide_eq_false h1, decide_eq_false (by omega)]; rfl
      rw [this]; simp [h1]
theorem oddTo_pos {a b c d : Int} (ha : 0 < a) (hc : 0 < c) (l : List P2) (p q : Int) : ∀ k, k ≤ l.length → oddTo (edgesL (l.map (frP a b c d))) (a * p + b) (c * q + d) k = oddTo (edgesL l) p q k
  | 0, _ => rfl
  | k + 1, h => by
    obtain ⟨e1, e2, e3, e4⟩ := edges_fr (a := a) (b := b) (c := c) (d := d) l k (by omega)
    have e : passAt (edgesL (l.map (frP a b c d))) (a * p + b) (c * q + d) k = passAt (edgesL l) p q k := by unfold passAt; rw [e1, e2, e3, e4, passB_pos ha hc]
    simp only [oddTo, e, oddTo_pos ha hc l p q k (by omega)]
theorem oddTo_neg {a b c d : Int} (ha : a < 0) (hc : 0 < c) (l : List P2) (p q : Int) (hn : anyOn (edgesL l) p q l.length = false) : ∀ k, k ≤ l.length → oddTo (edgesL (l.map (frP a b c d))) (a * p + b) (c * q + d) k = xor (oddTo (edgesL l) p q k) (strB (py l 0) (py l (k % l.length)) q)
  | 0, _ => by rw [Nat.zero_mod]; simp only [oddTo, strB, Bool.xor_self]
  | k + 1, h => by
    obtain ⟨e1, e2, e3, e4⟩ := edges_fr (a := a) (b := b) (c := c) (d := d) l k (by omega)
    obtain ⟨g1, g2, g3, g4⟩ := edgesL_at l k (by omega)
    have ho := anyOn_false.1 hn k (by omega)
    rw [onAt, ← onR_eq] at ho
    have hp := passB_neg (a := a) (b := b) (c := c) (d := d) ha hc ho
    have e : passAt (edgesL (l.map (frP a b c d))) (a * p + b) (c * q + d) k = xor (passAt (edgesL l) p q k) (strB (py l k) (py l ((k + 1) % l.length)) q) := by unfold passAt; rw [e1, e2, e3, e4, hp, g2, g4]
    have ih := oddTo_neg (b := b) (d := d) ha hc l p q hn k (by omega)
    rw [Nat.mod_eq_of_lt (show k < l.length by omega)] at ih
    simp only [oddTo, e, ih, strB]
    cases decide (py l 0 ≤ q) <;> cases decide (py l k ≤ q) <;> cases decide (py l ((k + 1) % l.length) ≤ q) <;> cases passAt (edgesL l) p q k <;> cases oddTo (edgesL l) p q k <;> rfl
theorem where_fr {a b c d : Int} (ha : a ≠ 0) (hc : 0 < c) (l : List P2) (p q : Int) : whereI (l.map (frP a b c d)) (a * p + b) (c * q + d) = whereI l p q := by
  unfold whereI
  rw [List.length_map, anyOn_fr ha (by omega)]
  cases hn : anyOn (edgesL l) p q l.length
  · rcases Int.lt_or_gt_of_ne ha with h | h
    · rw [oddTo_neg h hc l p q hn _ (Nat.le_refl _), Nat.mod_self]
      have : strB (py l 0) (py l 0) q = false := by simp [strB]
      rw [this]; simp
    · rw [oddTo_pos h hc l p q _ (Nat.le_refl _)]
  · rfl
theorem Where_fr {a b c d : Int} (ha : a ≠ 0) (hc : 0 < c) {l : List P2} {p q : Int} (hok : okL l = true) (hok' : okL (l.map (frP a b c d)) = true) (hp : okP p q = true) (hp' : okP (a * p + b) (c * q + d) = true) :
    WhereI (l.map (frP a b c d)) (a * p + b) (c * q + d) = WhereI l p q := by
  unfold WhereI
  rw [where_fr ha hc, hp, hp']
  simp only [poly_fr ha (by omega : c ≠ 0) hok hok']
theorem Meet_fr {a b c d : Int} (ha : a ≠ 0) (hc : c ≠ 0) {x1 y1 x2 y2 x3 y3 x4 y4 : Int} (h1 : okP x1 y1 = true) (h2 : okP x2 y2 = true) (h3 : okP x3 y3 = true) (h4 : okP x4 y4 = true)
    (k1 : okP (a * x1 + b) (c * y1 + d) = true) (k2 : okP (a * x2 + b) (c * y2 + d) = true) (k3 : okP (a * x3 + b) (c * y3 + d) = true) (k4 : okP (a * x4 + b) (c * y4 + d) = true) :
    MeetI (a * x1 + b) (c * y1 + d) (a * x2 + b) (c * y2 + d) (a * x3 + b) (c * y3 + d) (a * x4 + b) (c * y4 + d) = MeetI x1 y1 x2 y2 x3 y3 x4 y4 := by
  have s1 := okS_fr ha hc x1 y1 x2 y2 h1 h2 k1 k2
  have s2 := okS_fr ha hc x3 y3 x4 y4 h3 h4 k3 k4
  unfold MeetI
  rw [s1, s2]
  by_cases h : okS x1 y1 x2 y2 = true ∧ okS x3 y3 x4 y4 = true
  · rw [if_pos h, if_pos h, meetI_fr ha hc _ _ _ _ _ _ _ _ h.1 h.2 (by rw [s1]; exact h.1) (by rw [s2]; exact h.2)]
  · rw [if_neg h, if_neg h]

/-! areas -/
theorem crossTo_fr {a b c d : Int} (l : List P2) : ∀ k, k ≤ l.length → crossTo (edgesL (l.map (frP a b c d))) k = a * c * crossTo (edgesL l) k + a * d * (px l 0 - px l (k % l.length)) + b * c * (py l (k % l.length) - py l 0)
  | 0, _ => by simp [crossTo]
  | k + 1, h => by
    obtain ⟨e1, e2, e3, e4⟩ := edges_fr (a := a) (b := b) (c := c) (d := d) l k (by omega)
    obtain ⟨g1, g2, g3, g4⟩ := edgesL_at l k (by omega)
    simp only [crossTo]
    rw [crossTo_fr l k (by omega), e1, e2, e3, e4, g1, g2, g3, g4, Nat.mod_eq_of_lt (show k < l.length by omega)]
    grind
theorem area_fr {a b c d : Int} {l : List P2} (hok : okL l = true) (hok' : okL (l.map (frP a b c d)) = true) : areaI (l.map (frP a b c d)) = a * c * areaI l := by
  have ck : ckPts (l.map (frP a b c d)) 400 = ckPts l 400 := by unfold ckPts; rw [List.length_map, hok, hok']
  unfold areaI
  rw [ck]
  split
  · rw [List.length_map, crossTo_fr l _ (Nat.le_refl _), Nat.mod_self]; simp
  · simp
/-- points that are made no less by a factor below 0 are all the least one -/
theorem neg_same {k : Int} (hk : k < 0) {l : List P2} (hok : okL l = true) (hok' : okL (l.map (frP k 0 k 0)) = true) : l.map (frP k 0 k 0) = l := by
  apply List.ext_getElem (by simp)
  intro i h1 h2
  have b1 := okL_bd hok i
  have b2 := okL_bd hok' i
  obtain ⟨e1, e2⟩ := px_fr (a := k) (b := 0) (c := k) (d := 0) l i h2
  rw [e1, e2] at b2
  have z : ∀ x : Int, 0 ≤ x → 0 ≤ k * x + 0 → x = 0 := fun x hx hkx => by
    rcases Int.lt_or_eq_of_le hx with h | h
    · have := Int.mul_pos (a := -k) (b := x) (by omega) h
      rw [Int.neg_mul] at this; omega
    · exact h.symm
  have z1 := z _ b1.1.1 b2.1.1
  have z2 := z _ b1.2.1 b2.2.1
  have hg : l[i] = (px l i, py l i) := by simp [px, py, List.getD_eq_getElem?_getD, h2]
  simp only [List.getElem_map, hg, z1, z2, frP]
  simp

end Go.Proofs.YtpdfbboagaflhaaGreat
