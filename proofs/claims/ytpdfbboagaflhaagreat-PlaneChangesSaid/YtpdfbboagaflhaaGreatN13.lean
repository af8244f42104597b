/- PlaneChanges returns true for every input, and its arguments read afterwards as before: the given statement, without a condition. -/
import Derived.Test.YtpdfbboagaflhaaGreatN10
import Derived.Test.YtpdfbboagaflhaaGreatN03
import Derived.Deep.RegionHeld3
import Derived.Deep.RegionWith
import Derived.BigRegion
import Derived.LoopTactic
import Derived.Deep.AppendLies
import Derived.Deep.RegionLaw
import Derived.Test.YtpdfbboagaflhaaGreatM51
import Derived.Test.YtpdfbboagaflhaaGreatRows
import Derived.ProofKit
import Derived.OpenShut
import Derived.Lib.SmallJoins
import Derived.Carry

set_option linter.unusedSimpArgs false
set_option linter.unusedVariables false
set_option maxRecDepth 100000
namespace Go.Proofs.YtpdfbboagaflhaaGreat
open Go.RowKit

/-- a result that is a list of points -/
def PtsR (w : World) (v : Value) (R : List P2) : Prop := ∃ av cap, v = .slice av R.length cap ∧ (0 < R.length → ∃ g, av = some ⟨g, 0, none⟩ ∧ Pts w g 0 R.length R)
theorem PtsR.new {w w' : World} {v : Value} {R : List P2} (h : PtsR w v R) (hn : New w w') : PtsR w' v R := by
  obtain ⟨av, cap, h1, h2⟩ := h
  exact ⟨av, cap, h1, fun h0 => by obtain ⟨g, h3, h4⟩ := h2 h0; exact ⟨g, h3, h4.new hn⟩⟩

set_option maxHeartbeats 2000000 in
theorem move1_c (x y dx dy : Int) (B1 B2 : Nat) (w : World) (hx : 0 ≤ x ∧ x ≤ 10000) (hy : 0 ≤ y ∧ y ≤ 10000) (h1 : -20000 ≤ dx ∧ dx ≤ 20000) (h2 : -20000 ≤ dy ∧ dy ≤ 20000) (c1 : w.cell? ⟨B1, 0, none⟩ = some (.int .i64 dx)) (c2 : w.cell? ⟨B2, 0, none⟩ = some (.int .i64 dy)) (b1 : B1 < w.heap.size) (b2 : B2 < w.heap.size) :
    Calls Tryz.prog 159 #[pv x y, .pointer (some ⟨B1, 0, none⟩), .pointer (some ⟨B2, 0, none⟩)] w fun en w' => en = .returned (pv (x + dx) (y + dy)) ∧ New w w' := by
  have b3 : B1 < w.heap.size + 1 := by omega
  have b4 : B2 < w.heap.size + 1 := by omega
  have b5 : B1 < w.heap.size + 1 + 1 := by omega
  have b6 : B2 < w.heap.size + 1 + 1 := by omega
  go_enter Tryz.func159, Tryz.ntmps159
  go_wp2_with fail
  all_goals (refine bodyPost_ret (v := pv (x + dx) (y + dy)) (by simp [results, Tryz.results159, go_sem]) rfl ⟨rfl, ?_⟩; (repeat (first | exact New.refl _ | apply New.alloc | apply New.aft | apply New.drew | refine New.setCell ?_ ?_ _)); all_goals (first | done | (simp [size_aft]; done) | (simp [size_aft]; omega)))
set_option maxHeartbeats 2000000 in
theorem mirror1_c (x y dx : Int) (B1 : Nat) (w : World) (hx : 0 ≤ x ∧ x ≤ 10000) (hy : 0 ≤ y ∧ y ≤ 10000) (h1 : -20000 ≤ dx ∧ dx ≤ 20000) (c1 : w.cell? ⟨B1, 0, none⟩ = some (.int .i64 dx)) (b1 : B1 < w.heap.size) :
    Calls Tryz.prog 161 #[pv x y, .pointer (some ⟨B1, 0, none⟩)] w fun en w' => en = .returned (pv (dx - x) y) ∧ New w w' := by
  have b3 : B1 < w.heap.size + 1 := by omega
  have b5 : B1 < w.heap.size + 1 + 1 := by omega
  go_enter Tryz.func161, Tryz.ntmps161
  go_wp2_with fail
  all_goals (refine bodyPost_ret (v := pv (dx - x) y) (by simp [results, Tryz.results161, go_sem]) rfl ⟨rfl, ?_⟩; (repeat (first | exact New.refl _ | apply New.alloc | apply New.aft | apply New.drew | refine New.setCell ?_ ?_ _)); all_goals (first | done | (simp [size_aft]; done) | (simp [size_aft]; omega)))
set_option maxHeartbeats 2000000 in
theorem enlarge1_c (x y k : Int) (B1 : Nat) (w : World) (hx : 0 ≤ x ∧ x ≤ 10000) (hy : 0 ≤ y ∧ y ≤ 10000) (h1 : -20000 ≤ k ∧ k ≤ 20000) (c1 : w.cell? ⟨B1, 0, none⟩ = some (.int .i64 k)) (b1 : B1 < w.heap.size) :
    Calls Tryz.prog 162 #[pv x y, .pointer (some ⟨B1, 0, none⟩)] w fun en w' => en = .returned (pv (x * k) (y * k)) ∧ New w w' := by
  have m1 := mul_bd x k 10000 20000 (by omega) (by omega) (by omega) (by omega)
  have m2 := mul_bd y k 10000 20000 (by omega) (by omega) (by omega) (by omega)
  simp only [Int.reduceMul, Int.reduceNeg] at m1 m2
  have b3 : B1 < w.heap.size + 1 := by omega
  have b5 : B1 < w.heap.size + 1 + 1 := by omega
  go_enter Tryz.func162, Tryz.ntmps162
  go_wp2_with fail
  all_goals (refine bodyPost_ret (v := pv (x * k) (y * k)) (by simp [results, Tryz.results162, go_sem]) rfl ⟨rfl, ?_⟩; (repeat (first | exact New.refl _ | apply New.alloc | apply New.aft | apply New.drew | refine New.setCell ?_ ?_ _)); all_goals (first | done | (simp [size_aft]; done) | (simp [size_aft]; omega)))

set_option maxHeartbeats 4000000 in
theorem samePoints_c (v u : Value) (R : List P2) (w : World) (hl : R.length ≤ 1000000) (hv : PtsR w v R) (hu : PtsR w u R) : Calls Tryz.prog 52 #[v, u] w fun en w' => en = .returned (.bool true) ∧ New w w' := by
  obtain ⟨av, cv, rfl, hv⟩ := hv
  obtain ⟨au, cu, rfl, hu⟩ := hu
  by_cases h0 : 0 < R.length
  · obtain ⟨g, rfl, _, hg1, hg2⟩ := hv h0
    obtain ⟨g', rfl, _, hg3, hg4⟩ := hu h0
    generalize R.length = n at *
    have t0 : ((n : Int) != (n : Int)) = false := by simp
    clear hv hu
    go_enter Tryz.func52, Tryz.ntmps52
    go_wp2_with fail
    go_loopw [5] (fun i wr => ∃ k : Nat, k ≤ n ∧ i = .int .i64 k ∧ New w wr) (fun i _ => n - (intOf i).toNat)
    case atStart => exact ⟨0, Nat.zero_le _, rfl, New.refl _⟩
    case round =>
      obtain ⟨k, hk, rfl, pr, rfl⟩ := hrel
      by_cases hlt : k < n
      · obtain ⟨c1, c2⟩ := hg2 k hlt
        obtain ⟨d1, d2⟩ := hg4 k hlt
        simp only [Nat.zero_add] at c1 c2 d1 d2
        have hkn : (k : Int) < (n : Int) := by omega
        clear hg2 hg4
        generalize px R k = X at *
        generalize py R k = Y at *
        have e1 : (X == X) = true := by simp
        have e2 : (Y == Y) = true := by simp
        go_wp2_with fail
        first | refine wp_region_at2 (by kernel_rfl) (by kernel_rfl) ?_ | refine wp_region_at (by kernel_rfl) (by kernel_rfl) ?_
        repeat (go_big_quiet_step (fail))
        refine wpQuiet_nil ?_
        rintro _ ⟨q, rfl⟩
        go_wp2_with fail
        go_roundw
        case rel => exact ⟨k + 1, by omega, by go_num, by (repeat (first | exact New.refl _ | apply New.alloc | apply New.aft | apply New.drew | refine New.setCell ?_ ?_ _)); all_goals (first | done | (simp [size_aft]; done) | (simp [size_aft]; omega))⟩
        case measure => simp [intOf]; omega
      · go_wp2_with fail
        go_ret
        exact ⟨rfl, by (repeat (first | exact New.refl _ | apply New.alloc | apply New.aft | apply New.drew | refine New.setCell ?_ ?_ _)); all_goals (first | done | (simp [size_aft]; done) | (simp [size_aft]; omega))⟩
  · have h1 : R.length = 0 := by omega
    rw [h1]
    clear hv hu
    go_enter Tryz.func52, Tryz.ntmps52
    go_wp2_with fail
    refine wp_loop_rounds 1 ?_
    repeat any_goals (rw [rounds_succ]; go_wp2)
    go_ret; exact ⟨rfl, New.refl _⟩

def frP (a b c d : Int) (p : P2) : P2 := (a * p.1 + b, c * p.2 + d)
def inR (u v : Int) : Bool := decide ((-20000 ≤ u ∧ u ≤ 20000) ∧ (-20000 ≤ v ∧ v ≤ 20000))
def chE (l R : List P2) (g : Bool) : Int := if ckPts l 400 ≠ 0 then ckPts l 400 else if g = true then (if okL R = true then 0 else 1) else 1
def chL (l R : List P2) (g : Bool) : List P2 := if chE l R g = 0 then R else []
theorem px_map (l : List P2) (f : P2 → P2) (k : Nat) (h : k < l.length) : px (l.map f) k = (f (px l k, py l k)).1 ∧ py (l.map f) k = (f (px l k, py l k)).2 := by
  simp [px, py, List.getD_eq_getElem?_getD, h]
theorem cells_map (l : List P2) (a b c d : Int) (k : Nat) (h : k < l.length) : ptCells ((l.map (frP a b c d)).take (k + 1)) = ptCells ((l.map (frP a b c d)).take k) ++ [.int .i64 (a * px l k + b), .int .i64 (c * py l k + d)] := by
  rw [take_snoc _ _ (by simpa using h), ptCells_snoc, (px_map l _ k h).1, (px_map l _ k h).2]; rfl
theorem chE_1 {l R : List P2} {g : Bool} (h : ckPts l 400 ≠ 0) : chE l R g = ckPts l 400 ∧ chL l R g = [] := by
  have : chE l R g = ckPts l 400 := if_pos h
  exact ⟨this, by rw [chL, this, if_neg h]⟩
theorem chE_2 {l R : List P2} (h : ckPts l 400 = 0) : chE l R false = 1 ∧ chL l R false = [] := by
  have : chE l R false = 1 := by unfold chE; rw [if_neg (by omega), if_neg (by simp)]
  exact ⟨this, by rw [chL, this]; rfl⟩
theorem chE_3 {l R : List P2} (h : ckPts l 400 = 0) (k : okL R = false) : chE l R true = 1 ∧ chL l R true = [] := by
  have : chE l R true = 1 := by unfold chE; rw [if_neg (by omega), if_pos rfl, k]; rfl
  exact ⟨this, by rw [chL, this]; rfl⟩
theorem chE_4 {l R : List P2} (h : ckPts l 400 = 0) (k : okL R = true) : chE l R true = 0 ∧ chL l R true = R := by
  have : chE l R true = 0 := by unfold chE; rw [if_neg (by omega), if_pos rfl, k]; rfl
  exact ⟨this, by rw [chL, this]; rfl⟩
theorem PtsR.nil (w : World) : PtsR w (.slice none 0 0) [] := ⟨none, 0, rfl, fun h => absurd h (by simp)⟩
theorem PtsR.own {w : World} {B : Nat} {v : Value} {R : List P2} (h : w.ownsRow B 23 2 v R.length (ptCells R)) : PtsR w v R := own_form h
theorem ret_two {a a' : Int} {v : Value} (h : a = a') : Ending.returned (.tuple #[v, .int .i64 a]) = .returned (.tuple #[v, .int .i64 a']) := by rw [h]

set_option maxHeartbeats 16000000 in
theorem changed159 (b0 off n cp B1 B2 : Nat) (l : List P2) (a b c d u v : Int) (w : World) (h0 : 0 < n) (hl : n ≤ 1000000) (hw : Pts w b0 off n l)
    (HF : Hid (∀ (w1 : World), New w w1 → ∀ x y : Int, 0 ≤ x ∧ x ≤ 10000 → 0 ≤ y ∧ y ≤ 10000 → (-20000 ≤ u ∧ u ≤ 20000) ∧ (-20000 ≤ v ∧ v ≤ 20000) → Calls Tryz.prog 159 #[pv x y, .pointer (some ⟨B1, 0, none⟩), .pointer (some ⟨B2, 0, none⟩)] w1 fun en w' => en = .returned (pv (a * x + b) (c * y + d)) ∧ New w1 w')) :
    Calls Tryz.prog 158 #[.slice (some ⟨b0, off, none⟩) n cp, .agg #[.int .i64 u, .int .i64 v], .func (.func 159) #[] #[.pointer (some ⟨B1, 0, none⟩), .pointer (some ⟨B2, 0, none⟩)]] w fun en w' =>
      ∃ r, en = .returned (.tuple #[r, .int .i64 (chE l (l.map (frP a b c d)) (inR u v))]) ∧ PtsR w' r (chL l (l.map (frP a b c d)) (inR u v)) ∧ New w w' := by
  obtain ⟨i0, hi, hz0, hz1, hz2⟩ := info_parts info23
  have HW := Lib.hid hw
  have HN := Lib.hid hw.1
  obtain ⟨_, hb, hcell⟩ := hw
  have HCK := Lib.hid (fun (w1 : World) (h1 : New w w1) => checkPoints_c b0 off n cp l 400 w1 (by omega) (HW.out.new h1))
  by_cases hck : ckPts l 400 = 0
  · rw [hck] at HCK
    obtain ⟨hn4, hok⟩ := ckPts_zero hck
    have hn5 : (n : Int) ≤ 400 := by rw [← HN.out]; exact hn4
    have HCK0 := Lib.hid hck
    have HB := Lib.hid (okL_bd hok)
    clear hck hok hn4
    by_cases hu : -20000 ≤ u ∧ u ≤ 20000
    · by_cases hv : -20000 ≤ v ∧ v ≤ 20000
      · rw [show inR u v = true from decide_eq_true ⟨hu, hv⟩]
        have HF2 := Lib.hid (fun (w1 : World) (h1 : New w w1) (x y : Int) (hx : 0 ≤ x ∧ x ≤ 10000) (hy : 0 ≤ y ∧ y ≤ 10000) => HF.out w1 h1 x y hx hy ⟨hu, hv⟩)
        have hmk : ∀ w : World, (Instr.makeSlice 40 (.int .i64 0) (.int .i64 (n : Int))).run Tryz.prog w = .ok (.slice (some ⟨w.heap.size, 0, none⟩) 0 n) (w.alloc (.cells (madeCells (.agg #[.int .i64 0, .int .i64 0] : Value).cells (n * 2)) 23)) := by
          intro w
          have := run_make (P := Tryz.prog) w 40 23 i0 _ Tryz.underlying40 hi hz0 .i64 .i64 0 n (by omega) (by omega) (by rw [hz2]; omega) (by omega)
          rw [hz1] at this
          simpa using this
        obtain ⟨hu1, hu2⟩ := hu
        obtain ⟨hv1, hv2⟩ := hv
        have hx0 : ∀ w0 : World, Sem.run Tryz.prog (Instr.index 152 (.agg #[.int .i64 u, .int .i64 v]) (.int .i64 0)) w0 = .ok (.int .i64 u) w0 := fun _ => by rfl
        have hx1 : ∀ w0 : World, Sem.run Tryz.prog (Instr.index 152 (.agg #[.int .i64 u, .int .i64 v]) (.int .i64 1)) w0 = .ok (.int .i64 v) w0 := fun _ => by rfl
        clear HF
        go_enter Tryz.func158, Tryz.ntmps158
        go_wp2_with (go_at_call 84; refine (HCK.out _ (by (repeat (first | exact New.refl _ | apply New.alloc | apply New.aft | apply New.drew | refine New.setCell ?_ ?_ _)); all_goals (first | done | (simp [size_aft]; done) | (simp [size_aft]; omega)))).mono ?_; rintro en w1 ⟨rfl, pw, rfl⟩)
        refine wp_loop_rounds 3 ?_
        repeat any_goals (rw [rounds_succ]; go_wp2)
        all_goals (try (exfalso; omega))
        have hlen : (l.map (frP a b c d)).length = n := by rw [List.length_map, HN.out]
        go_loopw [11, 36] (fun v i wr => ∃ k : Nat, k ≤ n ∧ i = .int .i64 k ∧ wr.ownsRow w.heap.size 23 2 v k (ptCells ((l.map (frP a b c d)).take k)) ∧ New w wr) (fun _ i _ => n - (intOf i).toNat)
        case atStart => exact ⟨0, Nat.zero_le _, rfl, (by have h := World.ownsRow_made (e := 23) (size := 2) (base := w.heap.size) (Aft (w.alloc (.cells #[.int .i64 u, .int .i64 v] 152)) pw.d pw.os) (madeCells #[.int .i64 0, .int .i64 0] (n * 2)) n (by simp [size_aft]; omega) (by unfold maxLen; omega) (by simp [size_madeCells]); simp only [size_aft, World.size_alloc] at h; simpa [ptCells] using h), by (repeat (first | exact New.refl _ | apply New.alloc | apply New.aft | apply New.drew | refine New.setCell ?_ ?_ _)); all_goals (first | done | (simp [size_aft]; done) | (simp [size_aft]; omega))⟩
        case round =>
          obtain ⟨k, hk, rfl, hown, pr, rfl⟩ := hrel
          have HO := Lib.hid hown
          clear hown
          by_cases hlt : k < n
          · obtain ⟨c1, c2⟩ := hcell k hlt
            have b1 := HB.out k
            have HCM := Lib.hid (cells_map l a b c d k (by rw [HN.out]; exact hlt))
            have HF3 := Lib.hid (fun (w1 : World) (h1 : New w w1) => HF2.out w1 h1 (px l k) (py l k) b1.1 b1.2)
            generalize a * px l k + b = X at *
            generalize c * py l k + d = Y at *
            go_wp2_with (first | (go_at_call 159; refine (HF3.out _ (by (repeat (first | exact New.refl _ | apply New.alloc | apply New.aft | apply New.drew | refine New.setCell ?_ ?_ _)); all_goals (first | done | (simp [size_aft]; done) | (simp [size_aft]; omega)))).mono ?_; rintro en w1 ⟨rfl, pw, rfl⟩) | (at_builtin; refine wpList_append_lies _ rfl (.tmp 40) (.tmp 44) 40 rfl w.heap.size 23 i0 _ 2 16 Tryz.underlying40 hi hz0 hz1 hz2 rfl (by omega) u11 k (ptCells ((l.map (frP a b c d)).take k)) rfl ?_ _ 1 1 [.int .i64 X, .int .i64 Y] rfl rfl ?_ ?_ (by omega) ?_ ?_ ?_ _ rfl ?_; exact own_new HO.out (by (repeat (first | exact New.refl _ | apply New.alloc | apply New.aft | apply New.drew | refine New.setCell ?_ ?_ _)); all_goals (first | done | (simp [size_aft]; done) | (simp [size_aft]; omega))); (refine cells_new _ _ _ _ ?_); (simp [go_sem]); (intro u hu; simp at hu; rcases hu with rfl | rfl <;> rfl); (unfold maxLen; omega); omega; (simp [go_sem, Nat.add_assoc]); intro gg cap2 w2 hown2 hgrow2 hor2 hlt2; have HNW := Lib.hid (show New w w2 from new_grown (by (repeat (first | exact New.refl _ | apply New.alloc | apply New.aft | apply New.drew | refine New.setCell ?_ ?_ _)); all_goals (first | done | (simp [size_aft]; done) | (simp [size_aft]; omega))) hgrow2 HO.out); have HO2 := Lib.hid hown2; clear hown2 hgrow2 hor2 hlt2))
            go_roundw
            case rel => exact ⟨k + 1, by omega, by go_num, by rw [HCM.out]; exact HO2.out, HNW.out⟩
            case measure => simp [intOf]; omega
          · obtain rfl : k = n := by omega
            have HO3 := HO.out
            rw [List.take_of_length_le (by omega)] at HO3
            have HO4 := HO3
            rcases HO3.2 with ⟨_, hk0⟩ | ⟨g, cap, cur, rfl, hg⟩
            · exact absurd hk0 (by omega)
            · have HPT := Lib.hid (pts_own HO4 hlen)
              have HCP := Lib.hid (fun (w1 : World) (h1 : New (Aft w pr.d pr.os) w1) => checkPoints_c g 0 k cap (l.map (frP a b c d)) 400 w1 (by omega) (HPT.out.new h1))
              have HRES := Lib.hid (show ∀ w1 : World, New (Aft w pr.d pr.os) w1 → PtsR w1 (.slice (some ⟨g, 0, none⟩) k cap) (l.map (frP a b c d)) from fun w1 h1 => (show PtsR (Aft w pr.d pr.os) (.slice (some ⟨g, 0, none⟩) k cap) (l.map (frP a b c d)) from ⟨some ⟨g, 0, none⟩, cap, by rw [hlen], fun _ => ⟨g, rfl, by rw [hlen]; exact HPT.out⟩⟩).new h1)
              clear HO HO3 HO4 hg
              cases hr : okL (l.map (frP a b c d))
              · have HE := Lib.hid (chE_3 HCK0.out hr)
                rw [show ckPts (l.map (frP a b c d)) 400 = 1 by unfold ckPts; rw [if_neg (by omega), hr]; rfl] at HCP
                go_wp2_with (go_at_call 84; refine (HCP.out _ (New.refl _)).mono ?_; rintro en w1 ⟨rfl, pw, rfl⟩)
                refine bodyPost_ret (v := .tuple #[.slice none 0 0, .int .i64 1]) (by simp [results, Tryz.results158, go_sem]) rfl ⟨_, ret_two HE.out.1.symm, by rw [HE.out.2]; exact PtsR.nil _, by (repeat (first | exact New.refl _ | apply New.alloc | apply New.aft | apply New.drew | refine New.setCell ?_ ?_ _)); all_goals (first | done | (simp [size_aft]; done) | (simp [size_aft]; omega))⟩
              · have HE := Lib.hid (chE_4 HCK0.out hr)
                rw [show ckPts (l.map (frP a b c d)) 400 = 0 by unfold ckPts; rw [if_neg (by omega), hr]; rfl] at HCP
                go_wp2_with (go_at_call 84; refine (HCP.out _ (New.refl _)).mono ?_; rintro en w1 ⟨rfl, hn⟩; have HN2 := Lib.hid hn; clear hn)
                refine bodyPost_ret (v := .tuple #[.slice (some ⟨g, 0, none⟩) k cap, .int .i64 0]) (by simp [results, Tryz.results158, go_sem]) rfl ⟨_, ret_two HE.out.1.symm, by rw [HE.out.2]; exact HRES.out _ HN2.out, New.trans ((New.refl _).aft _ _) HN2.out⟩
      · rw [show inR u v = false from decide_eq_false (fun hh => hv hh.2)]
        have HE := Lib.hid (chE_2 (l := l) (R := l.map (frP a b c d)) HCK0.out)
        have hx0 : ∀ w0 : World, Sem.run Tryz.prog (Instr.index 152 (.agg #[.int .i64 u, .int .i64 v]) (.int .i64 0)) w0 = .ok (.int .i64 u) w0 := fun _ => by rfl
        have hx1 : ∀ w0 : World, Sem.run Tryz.prog (Instr.index 152 (.agg #[.int .i64 u, .int .i64 v]) (.int .i64 1)) w0 = .ok (.int .i64 v) w0 := fun _ => by rfl
        obtain ⟨hu1, hu2⟩ := hu
        have d1 : decide (u < -20000) = false := by simp; omega
        have d2 : decide (20000 < u) = false := by simp; omega
        have d3 : (decide (v < -20000) || decide (20000 < v)) = true := by simp; omega
        have hvv : v < -20000 ∨ 20000 < v := by omega
        clear HF
        rcases hvv with hvv | hvv
        all_goals
          go_enter Tryz.func158, Tryz.ntmps158
          go_wp2_with (go_at_call 84; refine (HCK.out _ (by (repeat (first | exact New.refl _ | apply New.alloc | apply New.aft | apply New.drew | refine New.setCell ?_ ?_ _)); all_goals (first | done | (simp [size_aft]; done) | (simp [size_aft]; omega)))).mono ?_; rintro en w1 ⟨rfl, pw, rfl⟩)
          refine wp_loop_rounds 3 ?_
          repeat any_goals (rw [rounds_succ]; go_wp2)
          all_goals (try (exfalso; omega))
          all_goals (refine bodyPost_ret (v := .tuple #[.slice none 0 0, .int .i64 1]) (by simp [results, Tryz.results158, go_sem]) rfl ⟨_, ret_two HE.out.1.symm, by rw [HE.out.2]; exact PtsR.nil _, by (repeat (first | exact New.refl _ | apply New.alloc | apply New.aft | apply New.drew | refine New.setCell ?_ ?_ _)); all_goals (first | done | (simp [size_aft]; done) | (simp [size_aft]; omega))⟩)
    · rw [show inR u v = false from decide_eq_false (fun hh => hu hh.1)]
      have HE := Lib.hid (chE_2 (l := l) (R := l.map (frP a b c d)) HCK0.out)
      have hx0 : ∀ w0 : World, Sem.run Tryz.prog (Instr.index 152 (.agg #[.int .i64 u, .int .i64 v]) (.int .i64 0)) w0 = .ok (.int .i64 u) w0 := fun _ => by rfl
      have huu : u < -20000 ∨ 20000 < u := by omega
      clear HF
      rcases huu with huu | huu
      all_goals
        go_enter Tryz.func158, Tryz.ntmps158
        go_wp2_with (go_at_call 84; refine (HCK.out _ (by (repeat (first | exact New.refl _ | apply New.alloc | apply New.aft | apply New.drew | refine New.setCell ?_ ?_ _)); all_goals (first | done | (simp [size_aft]; done) | (simp [size_aft]; omega)))).mono ?_; rintro en w1 ⟨rfl, pw, rfl⟩)
        refine wp_loop_rounds 3 ?_
        repeat any_goals (rw [rounds_succ]; go_wp2)
        all_goals (try (exfalso; omega))
        all_goals (refine bodyPost_ret (v := .tuple #[.slice none 0 0, .int .i64 1]) (by simp [results, Tryz.results158, go_sem]) rfl ⟨_, ret_two HE.out.1.symm, by rw [HE.out.2]; exact PtsR.nil _, by (repeat (first | exact New.refl _ | apply New.alloc | apply New.aft | apply New.drew | refine New.setCell ?_ ?_ _)); all_goals (first | done | (simp [size_aft]; done) | (simp [size_aft]; omega))⟩)
  · have HE := Lib.hid (chE_1 (R := l.map (frP a b c d)) (g := inR u v) hck)
    have z1 : (ckPts l 400 == 0) = false := by simpa using hck
    have z2 : (ckPts l 400 != 0) = true := by simpa using hck
    clear hck HF
    go_enter Tryz.func158, Tryz.ntmps158
    go_wp2_with (go_at_call 84; refine (HCK.out _ (by (repeat (first | exact New.refl _ | apply New.alloc | apply New.aft | apply New.drew | refine New.setCell ?_ ?_ _)); all_goals (first | done | (simp [size_aft]; done) | (simp [size_aft]; omega)))).mono ?_; rintro en w1 ⟨rfl, pw, rfl⟩)
    refine bodyPost_ret (v := .tuple #[.slice none 0 0, .int .i64 (ckPts l 400)]) (by simp [results, Tryz.results158, go_sem]) rfl ⟨_, ret_two HE.out.1.symm, by rw [HE.out.2]; exact PtsR.nil _, by (repeat (first | exact New.refl _ | apply New.alloc | apply New.aft | apply New.drew | refine New.setCell ?_ ?_ _)); all_goals (first | done | (simp [size_aft]; done) | (simp [size_aft]; omega))⟩

end Go.Proofs.YtpdfbboagaflhaaGreat

set_option linter.unusedSimpArgs false
set_option linter.unusedVariables false
set_option maxRecDepth 100000
namespace Go.Proofs.YtpdfbboagaflhaaGreat
open Go.RowKit

set_option maxHeartbeats 16000000 in
theorem changed161 (b0 off n cp B1 : Nat) (l : List P2) (a b c d u v : Int) (w : World) (h0 : 0 < n) (hl : n ≤ 1000000) (hw : Pts w b0 off n l)
    (HF : Hid (∀ (w1 : World), New w w1 → ∀ x y : Int, 0 ≤ x ∧ x ≤ 10000 → 0 ≤ y ∧ y ≤ 10000 → (-20000 ≤ u ∧ u ≤ 20000) ∧ (-20000 ≤ v ∧ v ≤ 20000) → Calls Tryz.prog 161 #[pv x y, .pointer (some ⟨B1, 0, none⟩)] w1 fun en w' => en = .returned (pv (a * x + b) (c * y + d)) ∧ New w1 w')) :
    Calls Tryz.prog 158 #[.slice (some ⟨b0, off, none⟩) n cp, .agg #[.int .i64 u, .int .i64 v], .func (.func 161) #[] #[.pointer (some ⟨B1, 0, none⟩)]] w fun en w' =>
      ∃ r, en = .returned (.tuple #[r, .int .i64 (chE l (l.map (frP a b c d)) (inR u v))]) ∧ PtsR w' r (chL l (l.map (frP a b c d)) (inR u v)) ∧ New w w' := by
  obtain ⟨i0, hi, hz0, hz1, hz2⟩ := info_parts info23
  have HW := Lib.hid hw
  have HN := Lib.hid hw.1
  obtain ⟨_, hb, hcell⟩ := hw
  have HCK := Lib.hid (fun (w1 : World) (h1 : New w w1) => checkPoints_c b0 off n cp l 400 w1 (by omega) (HW.out.new h1))
  by_cases hck : ckPts l 400 = 0
  · rw [hck] at HCK
    obtain ⟨hn4, hok⟩ := ckPts_zero hck
    have hn5 : (n : Int) ≤ 400 := by rw [← HN.out]; exact hn4
    have HCK0 := Lib.hid hck
    have HB := Lib.hid (okL_bd hok)
    clear hck hok hn4
    by_cases hu : -20000 ≤ u ∧ u ≤ 20000
    · by_cases hv : -20000 ≤ v ∧ v ≤ 20000
      · rw [show inR u v = true from decide_eq_true ⟨hu, hv⟩]
        have HF2 := Lib.hid (fun (w1 : World) (h1 : New w w1) (x y : Int) (hx : 0 ≤ x ∧ x ≤ 10000) (hy : 0 ≤ y ∧ y ≤ 10000) => HF.out w1 h1 x y hx hy ⟨hu, hv⟩)
        have hmk : ∀ w : World, (Instr.makeSlice 40 (.int .i64 0) (.int .i64 (n : Int))).run Tryz.prog w = .ok (.slice (some ⟨w.heap.size, 0, none⟩) 0 n) (w.alloc (.cells (madeCells (.agg #[.int .i64 0, .int .i64 0] : Value).cells (n * 2)) 23)) := by
          intro w
          have := run_make (P := Tryz.prog) w 40 23 i0 _ Tryz.underlying40 hi hz0 .i64 .i64 0 n (by omega) (by omega) (by rw [hz2]; omega) (by omega)
          rw [hz1] at this
          simpa using this
        obtain ⟨hu1, hu2⟩ := hu
        obtain ⟨hv1, hv2⟩ := hv
        have hx0 : ∀ w0 : World, Sem.run Tryz.prog (Instr.index 152 (.agg #[.int .i64 u, .int .i64 v]) (.int .i64 0)) w0 = .ok (.int .i64 u) w0 := fun _ => by rfl
        have hx1 : ∀ w0 : World, Sem.run Tryz.prog (Instr.index 152 (.agg #[.int .i64 u, .int .i64 v]) (.int .i64 1)) w0 = .ok (.int .i64 v) w0 := fun _ => by rfl
        clear HF
        go_enter Tryz.func158, Tryz.ntmps158
        go_wp2_with (go_at_call 84; refine (HCK.out _ (by (repeat (first | exact New.refl _ | apply New.alloc | apply New.aft | apply New.drew | refine New.setCell ?_ ?_ _)); all_goals (first | done | (simp [size_aft]; done) | (simp [size_aft]; omega)))).mono ?_; rintro en w1 ⟨rfl, pw, rfl⟩)
        refine wp_loop_rounds 3 ?_
        repeat any_goals (rw [rounds_succ]; go_wp2)
        all_goals (try (exfalso; omega))
        have hlen : (l.map (frP a b c d)).length = n := by rw [List.length_map, HN.out]
        go_loopw [11, 36] (fun v i wr => ∃ k : Nat, k ≤ n ∧ i = .int .i64 k ∧ wr.ownsRow w.heap.size 23 2 v k (ptCells ((l.map (frP a b c d)).take k)) ∧ New w wr) (fun _ i _ => n - (intOf i).toNat)
        case atStart => exact ⟨0, Nat.zero_le _, rfl, (by have h := World.ownsRow_made (e := 23) (size := 2) (base := w.heap.size) (Aft (w.alloc (.cells #[.int .i64 u, .int .i64 v] 152)) pw.d pw.os) (madeCells #[.int .i64 0, .int .i64 0] (n * 2)) n (by simp [size_aft]; omega) (by unfold maxLen; omega) (by simp [size_madeCells]); simp only [size_aft, World.size_alloc] at h; simpa [ptCells] using h), by (repeat (first | exact New.refl _ | apply New.alloc | apply New.aft | apply New.drew | refine New.setCell ?_ ?_ _)); all_goals (first | done | (simp [size_aft]; done) | (simp [size_aft]; omega))⟩
        case round =>
          obtain ⟨k, hk, rfl, hown, pr, rfl⟩ := hrel
          have HO := Lib.hid hown
          clear hown
          by_cases hlt : k < n
          · obtain ⟨c1, c2⟩ := hcell k hlt
            have b1 := HB.out k
            have HCM := Lib.hid (cells_map l a b c d k (by rw [HN.out]; exact hlt))
            have HF3 := Lib.hid (fun (w1 : World) (h1 : New w w1) => HF2.out w1 h1 (px l k) (py l k) b1.1 b1.2)
            generalize a * px l k + b = X at *
            generalize c * py l k + d = Y at *
            go_wp2_with (first | (go_at_call 161; refine (HF3.out _ (by (repeat (first | exact New.refl _ | apply New.alloc | apply New.aft | apply New.drew | refine New.setCell ?_ ?_ _)); all_goals (first | done | (simp [size_aft]; done) | (simp [size_aft]; omega)))).mono ?_; rintro en w1 ⟨rfl, pw, rfl⟩) | (at_builtin; refine wpList_append_lies _ rfl (.tmp 40) (.tmp 44) 40 rfl w.heap.size 23 i0 _ 2 16 Tryz.underlying40 hi hz0 hz1 hz2 rfl (by omega) u11 k (ptCells ((l.map (frP a b c d)).take k)) rfl ?_ _ 1 1 [.int .i64 X, .int .i64 Y] rfl rfl ?_ ?_ (by omega) ?_ ?_ ?_ _ rfl ?_; exact own_new HO.out (by (repeat (first | exact New.refl _ | apply New.alloc | apply New.aft | apply New.drew | refine New.setCell ?_ ?_ _)); all_goals (first | done | (simp [size_aft]; done) | (simp [size_aft]; omega))); (refine cells_new _ _ _ _ ?_); (simp [go_sem]); (intro u hu; simp at hu; rcases hu with rfl | rfl <;> rfl); (unfold maxLen; omega); omega; (simp [go_sem, Nat.add_assoc]); intro gg cap2 w2 hown2 hgrow2 hor2 hlt2; have HNW := Lib.hid (show New w w2 from new_grown (by (repeat (first | exact New.refl _ | apply New.alloc | apply New.aft | apply New.drew | refine New.setCell ?_ ?_ _)); all_goals (first | done | (simp [size_aft]; done) | (simp [size_aft]; omega))) hgrow2 HO.out); have HO2 := Lib.hid hown2; clear hown2 hgrow2 hor2 hlt2))
            go_roundw
            case rel => exact ⟨k + 1, by omega, by go_num, by rw [HCM.out]; exact HO2.out, HNW.out⟩
            case measure => simp [intOf]; omega
          · obtain rfl : k = n := by omega
            have HO3 := HO.out
            rw [List.take_of_length_le (by omega)] at HO3
            have HO4 := HO3
            rcases HO3.2 with ⟨_, hk0⟩ | ⟨g, cap, cur, rfl, hg⟩
            · exact absurd hk0 (by omega)
            · have HPT := Lib.hid (pts_own HO4 hlen)
              have HCP := Lib.hid (fun (w1 : World) (h1 : New (Aft w pr.d pr.os) w1) => checkPoints_c g 0 k cap (l.map (frP a b c d)) 400 w1 (by omega) (HPT.out.new h1))
              have HRES := Lib.hid (show ∀ w1 : World, New (Aft w pr.d pr.os) w1 → PtsR w1 (.slice (some ⟨g, 0, none⟩) k cap) (l.map (frP a b c d)) from fun w1 h1 => (show PtsR (Aft w pr.d pr.os) (.slice (some ⟨g, 0, none⟩) k cap) (l.map (frP a b c d)) from ⟨some ⟨g, 0, none⟩, cap, by rw [hlen], fun _ => ⟨g, rfl, by rw [hlen]; exact HPT.out⟩⟩).new h1)
              clear HO HO3 HO4 hg
              cases hr : okL (l.map (frP a b c d))
              · have HE := Lib.hid (chE_3 HCK0.out hr)
                rw [show ckPts (l.map (frP a b c d)) 400 = 1 by unfold ckPts; rw [if_neg (by omega), hr]; rfl] at HCP
                go_wp2_with (go_at_call 84; refine (HCP.out _ (New.refl _)).mono ?_; rintro en w1 ⟨rfl, pw, rfl⟩)
                refine bodyPost_ret (v := .tuple #[.slice none 0 0, .int .i64 1]) (by simp [results, Tryz.results158, go_sem]) rfl ⟨_, ret_two HE.out.1.symm, by rw [HE.out.2]; exact PtsR.nil _, by (repeat (first | exact New.refl _ | apply New.alloc | apply New.aft | apply New.drew | refine New.setCell ?_ ?_ _)); all_goals (first | done | (simp [size_aft]; done) | (simp [size_aft]; omega))⟩
              · have HE := Lib.hid (chE_4 HCK0.out hr)
                rw [show ckPts (l.map (frP a b c d)) 400 = 0 by unfold ckPts; rw [if_neg (by omega), hr]; rfl] at HCP
                go_wp2_with (go_at_call 84; refine (HCP.out _ (New.refl _)).mono ?_; rintro en w1 ⟨rfl, hn⟩; have HN2 := Lib.hid hn; clear hn)
                refine bodyPost_ret (v := .tuple #[.slice (some ⟨g, 0, none⟩) k cap, .int .i64 0]) (by simp [results, Tryz.results158, go_sem]) rfl ⟨_, ret_two HE.out.1.symm, by rw [HE.out.2]; exact HRES.out _ HN2.out, New.trans ((New.refl _).aft _ _) HN2.out⟩
      · rw [show inR u v = false from decide_eq_false (fun hh => hv hh.2)]
        have HE := Lib.hid (chE_2 (l := l) (R := l.map (frP a b c d)) HCK0.out)
        have hx0 : ∀ w0 : World, Sem.run Tryz.prog (Instr.index 152 (.agg #[.int .i64 u, .int .i64 v]) (.int .i64 0)) w0 = .ok (.int .i64 u) w0 := fun _ => by rfl
        have hx1 : ∀ w0 : World, Sem.run Tryz.prog (Instr.index 152 (.agg #[.int .i64 u, .int .i64 v]) (.int .i64 1)) w0 = .ok (.int .i64 v) w0 := fun _ => by rfl
        obtain ⟨hu1, hu2⟩ := hu
        have d1 : decide (u < -20000) = false := by simp; omega
        have d2 : decide (20000 < u) = false := by simp; omega
        have d3 : (decide (v < -20000) || decide (20000 < v)) = true := by simp; omega
        have hvv : v < -20000 ∨ 20000 < v := by omega
        clear HF
        rcases hvv with hvv | hvv
        all_goals
          go_enter Tryz.func158, Tryz.ntmps158
          go_wp2_with (go_at_call 84; refine (HCK.out _ (by (repeat (first | exact New.refl _ | apply New.alloc | apply New.aft | apply New.drew | refine New.setCell ?_ ?_ _)); all_goals (first | done | (simp [size_aft]; done) | (simp [size_aft]; omega)))).mono ?_; rintro en w1 ⟨rfl, pw, rfl⟩)
          refine wp_loop_rounds 3 ?_
          repeat any_goals (rw [rounds_succ]; go_wp2)
          all_goals (try (exfalso; omega))
          all_goals (refine bodyPost_ret (v := .tuple #[.slice none 0 0, .int .i64 1]) (by simp [results, Tryz.results158, go_sem]) rfl ⟨_, ret_two HE.out.1.symm, by rw [HE.out.2]; exact PtsR.nil _, by (repeat (first | exact New.refl _ | apply New.alloc | apply New.aft | apply New.drew | refine New.setCell ?_ ?_ _)); all_goals (first | done | (simp [size_aft]; done) | (simp [size_aft]; omega))⟩)
    · rw [show inR u v = false from decide_eq_false (fun hh => hu hh.1)]
      have HE := Lib.hid (chE_2 (l := l) (R := l.map (frP a b c d)) HCK0.out)
      have hx0 : ∀ w0 : World, Sem.run Tryz.prog (Instr.index 152 (.agg #[.int .i64 u, .int .i64 v]) (.int .i64 0)) w0 = .ok (.int .i64 u) w0 := fun _ => by rfl
      have huu : u < -20000 ∨ 20000 < u := by omega
      clear HF
      rcases huu with huu | huu
      all_goals
        go_enter Tryz.func158, Tryz.ntmps158
        go_wp2_with (go_at_call 84; refine (HCK.out _ (by (repeat (first | exact New.refl _ | apply New.alloc | apply New.aft | apply New.drew | refine New.setCell ?_ ?_ _)); all_goals (first | done | (simp [size_aft]; done) | (simp [size_aft]; omega)))).mono ?_; rintro en w1 ⟨rfl, pw, rfl⟩)
        refine wp_loop_rounds 3 ?_
        repeat any_goals (rw [rounds_succ]; go_wp2)
        all_goals (try (exfalso; omega))
        all_goals (refine bodyPost_ret (v := .tuple #[.slice none 0 0, .int .i64 1]) (by simp [results, Tryz.results158, go_sem]) rfl ⟨_, ret_two HE.out.1.symm, by rw [HE.out.2]; exact PtsR.nil _, by (repeat (first | exact New.refl _ | apply New.alloc | apply New.aft | apply New.drew | refine New.setCell ?_ ?_ _)); all_goals (first | done | (simp [size_aft]; done) | (simp [size_aft]; omega))⟩)
  · have HE := Lib.hid (chE_1 (R := l.map (frP a b c d)) (g := inR u v) hck)
    have z1 : (ckPts l 400 == 0) = false := by simpa using hck
    have z2 : (ckPts l 400 != 0) = true := by simpa using hck
    clear hck HF
    go_enter Tryz.func158, Tryz.ntmps158
    go_wp2_with (go_at_call 84; refine (HCK.out _ (by (repeat (first | exact New.refl _ | apply New.alloc | apply New.aft | apply New.drew | refine New.setCell ?_ ?_ _)); all_goals (first | done | (simp [size_aft]; done) | (simp [size_aft]; omega)))).mono ?_; rintro en w1 ⟨rfl, pw, rfl⟩)
    refine bodyPost_ret (v := .tuple #[.slice none 0 0, .int .i64 (ckPts l 400)]) (by simp [results, Tryz.results158, go_sem]) rfl ⟨_, ret_two HE.out.1.symm, by rw [HE.out.2]; exact PtsR.nil _, by (repeat (first | exact New.refl _ | apply New.alloc | apply New.aft | apply New.drew | refine New.setCell ?_ ?_ _)); all_goals (first | done | (simp [size_aft]; done) | (simp [size_aft]; omega))⟩


set_option maxHeartbeats 16000000 in
theorem changed162 (b0 off n cp B1 : Nat) (l : List P2) (a b c d u v : Int) (w : World) (h0 : 0 < n) (hl : n ≤ 1000000) (hw : Pts w b0 off n l)
    (HF : Hid (∀ (w1 : World), New w w1 → ∀ x y : Int, 0 ≤ x ∧ x ≤ 10000 → 0 ≤ y ∧ y ≤ 10000 → (-20000 ≤ u ∧ u ≤ 20000) ∧ (-20000 ≤ v ∧ v ≤ 20000) → Calls Tryz.prog 162 #[pv x y, .pointer (some ⟨B1, 0, none⟩)] w1 fun en w' => en = .returned (pv (a * x + b) (c * y + d)) ∧ New w1 w')) :
    Calls Tryz.prog 158 #[.slice (some ⟨b0, off, none⟩) n cp, .agg #[.int .i64 u, .int .i64 v], .func (.func 162) #[] #[.pointer (some ⟨B1, 0, none⟩)]] w fun en w' =>
      ∃ r, en = .returned (.tuple #[r, .int .i64 (chE l (l.map (frP a b c d)) (inR u v))]) ∧ PtsR w' r (chL l (l.map (frP a b c d)) (inR u v)) ∧ New w w' := by
  obtain ⟨i0, hi, hz0, hz1, hz2⟩ := info_parts info23
  have HW := Lib.hid hw
  have HN := Lib.hid hw.1
  obtain ⟨_, hb, hcell⟩ := hw
  have HCK := Lib.hid (fun (w1 : World) (h1 : New w w1) => checkPoints_c b0 off n cp l 400 w1 (by omega) (HW.out.new h1))
  by_cases hck : ckPts l 400 = 0
  · rw [hck] at HCK
    obtain ⟨hn4, hok⟩ := ckPts_zero hck
    have hn5 : (n : Int) ≤ 400 := by rw [← HN.out]; exact hn4
    have HCK0 := Lib.hid hck
    have HB := Lib.hid (okL_bd hok)
    clear hck hok hn4
    by_cases hu : -20000 ≤ u ∧ u ≤ 20000
    · by_cases hv : -20000 ≤ v ∧ v ≤ 20000
      · rw [show inR u v = true from decide_eq_true ⟨hu, hv⟩]
        have HF2 := Lib.hid (fun (w1 : World) (h1 : New w w1) (x y : Int) (hx : 0 ≤ x ∧ x ≤ 10000) (hy : 0 ≤ y ∧ y ≤ 10000) => HF.out w1 h1 x y hx hy ⟨hu, hv⟩)
        have hmk : ∀ w : World, (Instr.makeSlice 40 (.int .i64 0) (.int .i64 (n : Int))).run Tryz.prog w = .ok (.slice (some ⟨w.heap.size, 0, none⟩) 0 n) (w.alloc (.cells (madeCells (.agg #[.int .i64 0, .int .i64 0] : Value).cells (n * 2)) 23)) := by
          intro w
          have := run_make (P := Tryz.prog) w 40 23 i0 _ Tryz.underlying40 hi hz0 .i64 .i64 0 n (by omega) (by omega) (by rw [hz2]; omega) (by omega)
          rw [hz1] at this
          simpa using this
        obtain ⟨hu1, hu2⟩ := hu
        obtain ⟨hv1, hv2⟩ := hv
        have hx0 : ∀ w0 : World, Sem.run Tryz.prog (Instr.index 152 (.agg #[.int .i64 u, .int .i64 v]) (.int .i64 0)) w0 = .ok (.int .i64 u) w0 := fun _ => by rfl
        have hx1 : ∀ w0 : World, Sem.run Tryz.prog (Instr.index 152 (.agg #[.int .i64 u, .int .i64 v]) (.int .i64 1)) w0 = .ok (.int .i64 v) w0 := fun _ => by rfl
        clear HF
        go_enter Tryz.func158, Tryz.ntmps158
        go_wp2_with (go_at_call 84; refine (HCK.out _ (by (repeat (first | exact New.refl _ | apply New.alloc | apply New.aft | apply New.drew | refine New.setCell ?_ ?_ _)); all_goals (first | done | (simp [size_aft]; done) | (simp [size_aft]; omega)))).mono ?_; rintro en w1 ⟨rfl, pw, rfl⟩)
        refine wp_loop_rounds 3 ?_
        repeat any_goals (rw [rounds_succ]; go_wp2)
        all_goals (try (exfalso; omega))
        have hlen : (l.map (frP a b c d)).length = n := by rw [List.length_map, HN.out]
        go_loopw [11, 36] (fun v i wr => ∃ k : Nat, k ≤ n ∧ i = .int .i64 k ∧ wr.ownsRow w.heap.size 23 2 v k (ptCells ((l.map (frP a b c d)).take k)) ∧ New w wr) (fun _ i _ => n - (intOf i).toNat)
        case atStart => exact ⟨0, Nat.zero_le _, rfl, (by have h := World.ownsRow_made (e := 23) (size := 2) (base := w.heap.size) (Aft (w.alloc (.cells #[.int .i64 u, .int .i64 v] 152)) pw.d pw.os) (madeCells #[.int .i64 0, .int .i64 0] (n * 2)) n (by simp [size_aft]; omega) (by unfold maxLen; omega) (by simp [size_madeCells]); simp only [size_aft, World.size_alloc] at h; simpa [ptCells] using h), by (repeat (first | exact New.refl _ | apply New.alloc | apply New.aft | apply New.drew | refine New.setCell ?_ ?_ _)); all_goals (first | done | (simp [size_aft]; done) | (simp [size_aft]; omega))⟩
        case round =>
          obtain ⟨k, hk, rfl, hown, pr, rfl⟩ := hrel
          have HO := Lib.hid hown
          clear hown
          by_cases hlt : k < n
          · obtain ⟨c1, c2⟩ := hcell k hlt
            have b1 := HB.out k
            have HCM := Lib.hid (cells_map l a b c d k (by rw [HN.out]; exact hlt))
            have HF3 := Lib.hid (fun (w1 : World) (h1 : New w w1) => HF2.out w1 h1 (px l k) (py l k) b1.1 b1.2)
            generalize a * px l k + b = X at *
            generalize c * py l k + d = Y at *
            go_wp2_with (first | (go_at_call 162; refine (HF3.out _ (by (repeat (first | exact New.refl _ | apply New.alloc | apply New.aft | apply New.drew | refine New.setCell ?_ ?_ _)); all_goals (first | done | (simp [size_aft]; done) | (simp [size_aft]; omega)))).mono ?_; rintro en w1 ⟨rfl, pw, rfl⟩) | (at_builtin; refine wpList_append_lies _ rfl (.tmp 40) (.tmp 44) 40 rfl w.heap.size 23 i0 _ 2 16 Tryz.underlying40 hi hz0 hz1 hz2 rfl (by omega) u11 k (ptCells ((l.map (frP a b c d)).take k)) rfl ?_ _ 1 1 [.int .i64 X, .int .i64 Y] rfl rfl ?_ ?_ (by omega) ?_ ?_ ?_ _ rfl ?_; exact own_new HO.out (by (repeat (first | exact New.refl _ | apply New.alloc | apply New.aft | apply New.drew | refine New.setCell ?_ ?_ _)); all_goals (first | done | (simp [size_aft]; done) | (simp [size_aft]; omega))); (refine cells_new _ _ _ _ ?_); (simp [go_sem]); (intro u hu; simp at hu; rcases hu with rfl | rfl <;> rfl); (unfold maxLen; omega); omega; (simp [go_sem, Nat.add_assoc]); intro gg cap2 w2 hown2 hgrow2 hor2 hlt2; have HNW := Lib.hid (show New w w2 from new_grown (by (repeat (first | exact New.refl _ | apply New.alloc | apply New.aft | apply New.drew | refine New.setCell ?_ ?_ _)); all_goals (first | done | (simp [size_aft]; done) | (simp [size_aft]; omega))) hgrow2 HO.out); have HO2 := Lib.hid hown2; clear hown2 hgrow2 hor2 hlt2))
            go_roundw
            case rel => exact ⟨k + 1, by omega, by go_num, by rw [HCM.out]; exact HO2.out, HNW.out⟩
            case measure => simp [intOf]; omega
          · obtain rfl : k = n := by omega
            have HO3 := HO.out
            rw [List.take_of_length_le (by omega)] at HO3
            have HO4 := HO3
            rcases HO3.2 with ⟨_, hk0⟩ | ⟨g, cap, cur, rfl, hg⟩
            · exact absurd hk0 (by omega)
            · have HPT := Lib.hid (pts_own HO4 hlen)
              have HCP := Lib.hid (fun (w1 : World) (h1 : New (Aft w pr.d pr.os) w1) => checkPoints_c g 0 k cap (l.map (frP a b c d)) 400 w1 (by omega) (HPT.out.new h1))
              have HRES := Lib.hid (show ∀ w1 : World, New (Aft w pr.d pr.os) w1 → PtsR w1 (.slice (some ⟨g, 0, none⟩) k cap) (l.map (frP a b c d)) from fun w1 h1 => (show PtsR (Aft w pr.d pr.os) (.slice (some ⟨g, 0, none⟩) k cap) (l.map (frP a b c d)) from ⟨some ⟨g, 0, none⟩, cap, by rw [hlen], fun _ => ⟨g, rfl, by rw [hlen]; exact HPT.out⟩⟩).new h1)
              clear HO HO3 HO4 hg
              cases hr : okL (l.map (frP a b c d))
              · have HE := Lib.hid (chE_3 HCK0.out hr)
                rw [show ckPts (l.map (frP a b c d)) 400 = 1 by unfold ckPts; rw [if_neg (by omega), hr]; rfl] at HCP
                go_wp2_with (go_at_call 84; refine (HCP.out _ (New.refl _)).mono ?_; rintro en w1 ⟨rfl, pw, rfl⟩)
                refine bodyPost_ret (v := .tuple #[.slice none 0 0, .int .i64 1]) (by simp [results, Tryz.results158, go_sem]) rfl ⟨_, ret_two HE.out.1.symm, by rw [HE.out.2]; exact PtsR.nil _, by (repeat (first | exact New.refl _ | apply New.alloc | apply New.aft | apply New.drew | refine New.setCell ?_ ?_ _)); all_goals (first | done | (simp [size_aft]; done) | (simp [size_aft]; omega))⟩
              · have HE := Lib.hid (chE_4 HCK0.out hr)
                rw [show ckPts (l.map (frP a b c d)) 400 = 0 by unfold ckPts; rw [if_neg (by omega), hr]; rfl] at HCP
                go_wp2_with (go_at_call 84; refine (HCP.out _ (New.refl _)).mono ?_; rintro en w1 ⟨rfl, hn⟩; have HN2 := Lib.hid hn; clear hn)
                refine bodyPost_ret (v := .tuple #[.slice (some ⟨g, 0, none⟩) k cap, .int .i64 0]) (by simp [results, Tryz.results158, go_sem]) rfl ⟨_, ret_two HE.out.1.symm, by rw [HE.out.2]; exact HRES.out _ HN2.out, New.trans ((New.refl _).aft _ _) HN2.out⟩
      · rw [show inR u v = false from decide_eq_false (fun hh => hv hh.2)]
        have HE := Lib.hid (chE_2 (l := l) (R := l.map (frP a b c d)) HCK0.out)
        have hx0 : ∀ w0 : World, Sem.run Tryz.prog (Instr.index 152 (.agg #[.int .i64 u, .int .i64 v]) (.int .i64 0)) w0 = .ok (.int .i64 u) w0 := fun _ => by rfl
        have hx1 : ∀ w0 : World, Sem.run Tryz.prog (Instr.index 152 (.agg #[.int .i64 u, .int .i64 v]) (.int .i64 1)) w0 = .ok (.int .i64 v) w0 := fun _ => by rfl
        obtain ⟨hu1, hu2⟩ := hu
        have d1 : decide (u < -20000) = false := by simp; omega
        have d2 : decide (20000 < u) = false := by simp; omega
        have d3 : (decide (v < -20000) || decide (20000 < v)) = true := by simp; omega
        have hvv : v < -20000 ∨ 20000 < v := by omega
        clear HF
        rcases hvv with hvv | hvv
        all_goals
          go_enter Tryz.func158, Tryz.ntmps158
          go_wp2_with (go_at_call 84; refine (HCK.out _ (by (repeat (first | exact New.refl _ | apply New.alloc | apply New.aft | apply New.drew | refine New.setCell ?_ ?_ _)); all_goals (first | done | (simp [size_aft]; done) | (simp [size_aft]; omega)))).mono ?_; rintro en w1 ⟨rfl, pw, rfl⟩)
          refine wp_loop_rounds 3 ?_
          repeat any_goals (rw [rounds_succ]; go_wp2)
          all_goals (try (exfalso; omega))
          all_goals (refine bodyPost_ret (v := .tuple #[.slice none 0 0, .int .i64 1]) (by simp [results, Tryz.results158, go_sem]) rfl ⟨_, ret_two HE.out.1.symm, by rw [HE.out.2]; exact PtsR.nil _, by (repeat (first | exact New.refl _ | apply New.alloc | apply New.aft | apply New.drew | refine New.setCell ?_ ?_ _)); all_goals (first | done | (simp [size_aft]; done) | (simp [size_aft]; omega))⟩)
    · rw [show inR u v = false from decide_eq_false (fun hh => hu hh.1)]
      have HE := Lib.hid (chE_2 (l := l) (R := l.map (frP a b c d)) HCK0.out)
      have hx0 : ∀ w0 : World, Sem.run Tryz.prog (Instr.index 152 (.agg #[.int .i64 u, .int .i64 v]) (.int .i64 0)) w0 = .ok (.int .i64 u) w0 := fun _ => by rfl
      have huu : u < -20000 ∨ 20000 < u := by omega
      clear HF
      rcases huu with huu | huu
      all_goals
        go_enter Tryz.func158, Tryz.ntmps158
        go_wp2_with (go_at_call 84; refine (HCK.out _ (by (repeat (first | exact New.refl _ | apply New.alloc | apply New.aft | apply New.drew | refine New.setCell ?_ ?_ _)); all_goals (first | done | (simp [size_aft]; done) | (simp [size_aft]; omega)))).mono ?_; rintro en w1 ⟨rfl, pw, rfl⟩)
        refine wp_loop_rounds 3 ?_
        repeat any_goals (rw [rounds_succ]; go_wp2)
        all_goals (try (exfalso; omega))
        all_goals (refine bodyPost_ret (v := .tuple #[.slice none 0 0, .int .i64 1]) (by simp [results, Tryz.results158, go_sem]) rfl ⟨_, ret_two HE.out.1.symm, by rw [HE.out.2]; exact PtsR.nil _, by (repeat (first | exact New.refl _ | apply New.alloc | apply New.aft | apply New.drew | refine New.setCell ?_ ?_ _)); all_goals (first | done | (simp [size_aft]; done) | (simp [size_aft]; omega))⟩)
  · have HE := Lib.hid (chE_1 (R := l.map (frP a b c d)) (g := inR u v) hck)
    have z1 : (ckPts l 400 == 0) = false := by simpa using hck
    have z2 : (ckPts l 400 != 0) = true := by simpa using hck
    clear hck HF
    go_enter Tryz.func158, Tryz.ntmps158
    go_wp2_with (go_at_call 84; refine (HCK.out _ (by (repeat (first | exact New.refl _ | apply New.alloc | apply New.aft | apply New.drew | refine New.setCell ?_ ?_ _)); all_goals (first | done | (simp [size_aft]; done) | (simp [size_aft]; omega)))).mono ?_; rintro en w1 ⟨rfl, pw, rfl⟩)
    refine bodyPost_ret (v := .tuple #[.slice none 0 0, .int .i64 (ckPts l 400)]) (by simp [results, Tryz.results158, go_sem]) rfl ⟨_, ret_two HE.out.1.symm, by rw [HE.out.2]; exact PtsR.nil _, by (repeat (first | exact New.refl _ | apply New.alloc | apply New.aft | apply New.drew | refine New.setCell ?_ ?_ _)); all_goals (first | done | (simp [size_aft]; done) | (simp [size_aft]; omega))⟩


set_option maxHeartbeats 4000000 in
theorem changed_nil (av : Option Addr) (cp : Nat) (u v : Int) (fv : Value) (w : World) : Calls Tryz.prog 158 #[.slice av 0 cp, .agg #[.int .i64 u, .int .i64 v], fv] w fun en w' => ∃ r, en = .returned (.tuple #[r, .int .i64 (chE [] [] (inR u v))]) ∧ PtsR w' r (chL [] [] (inR u v)) ∧ New w w' := by
  obtain ⟨i0, hi, hz0, hz1, hz2⟩ := info_parts info23
  have HCK := Lib.hid (fun (a : Option Addr) (c : Nat) (w1 : World) => checkPoints_nil a c 400 (by omega) w1)
  have hx0 : ∀ w0 : World, Sem.run Tryz.prog (Instr.index 152 (.agg #[.int .i64 u, .int .i64 v]) (.int .i64 0)) w0 = .ok (.int .i64 u) w0 := fun _ => by rfl
  have hx1 : ∀ w0 : World, Sem.run Tryz.prog (Instr.index 152 (.agg #[.int .i64 u, .int .i64 v]) (.int .i64 1)) w0 = .ok (.int .i64 v) w0 := fun _ => by rfl
  have hmk : ∀ w : World, (Instr.makeSlice 40 (.int .i64 0) (.int .i64 0)).run Tryz.prog w = .ok (.slice (some ⟨w.heap.size, 0, none⟩) 0 0) (w.alloc (.cells (madeCells (.agg #[.int .i64 0, .int .i64 0] : Value).cells (0 * 2)) 23)) := by
    intro w
    have := run_make (P := Tryz.prog) w 40 23 i0 _ Tryz.underlying40 hi hz0 .i64 .i64 0 0 (by omega) (by omega) (by rw [hz2]; omega) (by omega)
    rw [hz1] at this
    simpa using this
  have hck : ckPts ([] : List P2) 400 = 0 := by decide
  by_cases hu : -20000 ≤ u ∧ u ≤ 20000
  · by_cases hv : -20000 ≤ v ∧ v ≤ 20000
    · rw [show inR u v = true from decide_eq_true ⟨hu, hv⟩]
      have HE := Lib.hid (chE_4 (R := []) hck rfl)
      obtain ⟨hu1, hu2⟩ := hu
      obtain ⟨hv1, hv2⟩ := hv
      go_enter Tryz.func158, Tryz.ntmps158
      go_wp2_with (go_at_call 84; refine (HCK.out _ _ _).mono ?_; rintro en w1 ⟨rfl, pw, rfl⟩)
      refine wp_loop_rounds 3 ?_
      repeat any_goals (rw [rounds_succ]; go_wp2)
      all_goals (try (exfalso; omega))
      refine wp_loop_rounds 1 ?_
      rw [rounds_succ]
      go_wp2_with (go_at_call 84; refine (HCK.out _ _ _).mono ?_; rintro en w1 ⟨rfl, pw2, rfl⟩)
      all_goals (refine bodyPost_ret (v := .tuple #[.slice (some ⟨w.heap.size + 1 + pw.os.size, 0, none⟩) 0 0, .int .i64 0]) (by simp [results, Tryz.results158, go_sem]) rfl ⟨_, ret_two HE.out.1.symm, by rw [HE.out.2]; exact ⟨_, 0, rfl, fun h => absurd h (by simp)⟩, by (repeat (first | exact New.refl _ | apply New.alloc | apply New.aft | apply New.drew | refine New.setCell ?_ ?_ _)); all_goals (first | done | (simp [size_aft]; done) | (simp [size_aft]; omega))⟩)
    · rw [show inR u v = false from decide_eq_false (fun hh => hv hh.2)]
      have HE := Lib.hid (chE_2 (l := []) (R := []) hck)
      obtain ⟨hu1, hu2⟩ := hu
      have hvv : v < -20000 ∨ 20000 < v := by omega
      rcases hvv with hvv | hvv
      all_goals
        go_enter Tryz.func158, Tryz.ntmps158
        go_wp2_with (go_at_call 84; refine (HCK.out _ _ _).mono ?_; rintro en w1 ⟨rfl, pw, rfl⟩)
        refine wp_loop_rounds 3 ?_
        repeat any_goals (rw [rounds_succ]; go_wp2)
        all_goals (try (exfalso; omega))
        all_goals (refine bodyPost_ret (v := .tuple #[.slice none 0 0, .int .i64 1]) (by simp [results, Tryz.results158, go_sem]) rfl ⟨_, ret_two HE.out.1.symm, by rw [HE.out.2]; exact PtsR.nil _, by (repeat (first | exact New.refl _ | apply New.alloc | apply New.aft | apply New.drew | refine New.setCell ?_ ?_ _)); all_goals (first | done | (simp [size_aft]; done) | (simp [size_aft]; omega))⟩)
  · rw [show inR u v = false from decide_eq_false (fun hh => hu hh.1)]
    have HE := Lib.hid (chE_2 (l := []) (R := []) hck)
    have huu : u < -20000 ∨ 20000 < u := by omega
    rcases huu with huu | huu
    all_goals
      go_enter Tryz.func158, Tryz.ntmps158
      go_wp2_with (go_at_call 84; refine (HCK.out _ _ _).mono ?_; rintro en w1 ⟨rfl, pw, rfl⟩)
      refine wp_loop_rounds 3 ?_
      repeat any_goals (rw [rounds_succ]; go_wp2)
      all_goals (try (exfalso; omega))
      all_goals (refine bodyPost_ret (v := .tuple #[.slice none 0 0, .int .i64 1]) (by simp [results, Tryz.results158, go_sem]) rfl ⟨_, ret_two HE.out.1.symm, by rw [HE.out.2]; exact PtsR.nil _, by (repeat (first | exact New.refl _ | apply New.alloc | apply New.aft | apply New.drew | refine New.setCell ?_ ?_ _)); all_goals (first | done | (simp [size_aft]; done) | (simp [size_aft]; omega))⟩)

def inR4 (a b c d : Int) : Bool := inR a b && inR c d
theorem inR4_cases (a b c d : Int) : (inR4 a b c d = true ∧ (-20000 ≤ a ∧ a ≤ 20000) ∧ (-20000 ≤ b ∧ b ≤ 20000) ∧ (-20000 ≤ c ∧ c ≤ 20000) ∧ (-20000 ≤ d ∧ d ≤ 20000)) ∨
    (inR4 a b c d = false ∧ ((a < -20000 ∨ 20000 < a) ∨ ((-20000 ≤ a ∧ a ≤ 20000) ∧ (b < -20000 ∨ 20000 < b)) ∨ ((-20000 ≤ a ∧ a ≤ 20000) ∧ (-20000 ≤ b ∧ b ≤ 20000) ∧ (c < -20000 ∨ 20000 < c)) ∨ ((-20000 ≤ a ∧ a ≤ 20000) ∧ (-20000 ≤ b ∧ b ≤ 20000) ∧ (-20000 ≤ c ∧ c ≤ 20000) ∧ (d < -20000 ∨ 20000 < d)))) := by
  cases h : inR4 a b c d
  · right
    refine ⟨rfl, ?_⟩
    unfold inR4 inR at h
    rw [Bool.and_eq_false_iff, decide_eq_false_iff_not, decide_eq_false_iff_not] at h
    omega
  · left
    unfold inR4 inR at h
    simp only [Bool.and_eq_true, decide_eq_true_eq] at h
    exact ⟨rfl, h.1.1, h.1.2, h.2.1, h.2.2⟩

set_option maxHeartbeats 16000000 in
theorem ref_changed_bad (v0 : Value) (av : Option Addr) (n cp : Nat) (l : List P2) (a b c d : Int) (w : World) (hl : n ≤ 400) (hL : l.length = n) (hok : okL l = true)
    (HA : Hid (∀ w1 : World, New w w1 → Calls Tryz.prog 104 #[.slice av n cp] w1 fun en w' => en = .returned (.bool true) ∧ New w1 w')) (hbad : inR4 a b c d = false) :
    Calls Tryz.prog 160 #[.slice av n cp, .int .i64 a, .int .i64 b, .int .i64 c, .int .i64 d] w fun en w' => ∃ r, en = .returned (.tuple #[r, .int .i64 (chE l (l.map (frP a b c d)) (inR4 a b c d))]) ∧ PtsR w' r (chL l (l.map (frP a b c d)) (inR4 a b c d)) ∧ New w w' := by
  have hck : ckPts l 400 = 0 := by unfold ckPts; rw [if_neg (by omega), hok]; rfl
  rcases inR4_cases a b c d with ⟨h, _⟩ | ⟨_, h⟩
  · rw [h] at hbad; cases hbad
  · rw [hbad]
    have HE := Lib.hid (chE_2 (l := l) (R := l.map (frP a b c d)) hck)
    have hn4 : ¬ (400 : Int) < (n : Int) := by omega
    clear hbad hck hok
    rcases h with (h | h) | ⟨⟨h1, h2⟩, h | h⟩ | ⟨⟨h1, h2⟩, ⟨h3, h4⟩, h | h⟩ | ⟨⟨h1, h2⟩, ⟨h3, h4⟩, ⟨h5, h6⟩, h | h⟩
    all_goals
      go_enter Tryz.func160, Tryz.ntmps160
      go_wp2_with (go_at_call 104; refine (HA.out _ (by (repeat (first | exact New.refl _ | apply New.alloc | apply New.aft | apply New.drew | refine New.setCell ?_ ?_ _)); all_goals (first | done | (simp [size_aft]; done) | (simp [size_aft]; omega)))).mono ?_; rintro en w1 ⟨rfl, pw, rfl⟩)
      refine wp_loop_rounds 5 ?_
      repeat any_goals (rw [rounds_succ]; go_wp2)
      all_goals (try (exfalso; omega))
      all_goals (refine bodyPost_ret (v := .tuple #[.slice none 0 0, .int .i64 1]) (by simp [results, Tryz.results160, go_sem]) rfl ⟨_, ret_two HE.out.1.symm, by rw [HE.out.2]; exact PtsR.nil _, by (repeat (first | exact New.refl _ | apply New.alloc | apply New.aft | apply New.drew | refine New.setCell ?_ ?_ _)); all_goals (first | done | (simp [size_aft]; done) | (simp [size_aft]; omega))⟩)

end Go.Proofs.YtpdfbboagaflhaaGreat

set_option linter.unusedSimpArgs false
set_option linter.unusedVariables false
set_option maxRecDepth 100000
namespace Go.Proofs.YtpdfbboagaflhaaGreat
open Go.RowKit

set_option maxHeartbeats 16000000 in
theorem ref_changed_good (b0 off n cp : Nat) (l : List P2) (a b c d : Int) (w : World) (h0 : 0 < n) (hl : n ≤ 400) (hw : Pts w b0 off n l) (hok : okL l = true) (hin : inR4 a b c d = true) :
    Calls Tryz.prog 160 #[.slice (some ⟨b0, off, none⟩) n cp, .int .i64 a, .int .i64 b, .int .i64 c, .int .i64 d] w fun en w' => ∃ r, en = .returned (.tuple #[r, .int .i64 (chE l (l.map (frP a b c d)) (inR4 a b c d))]) ∧ PtsR w' r (chL l (l.map (frP a b c d)) (inR4 a b c d)) ∧ New w w' := by
  obtain ⟨i0, hi, hz0, hz1, hz2⟩ := info_parts info23
  have HW := Lib.hid hw
  have HN := Lib.hid hw.1
  obtain ⟨_, hb, hcell⟩ := hw
  have HA := Lib.hid (fun (w1 : World) (h1 : New w w1) => ref_allValid b0 off n cp l w1 (by omega) (HW.out.new h1))
  rw [hok] at HA
  have hck : ckPts l 400 = 0 := by unfold ckPts; rw [if_neg (by rw [HN.out]; omega), hok]; rfl
  have HCK0 := Lib.hid hck
  have HB := Lib.hid (okL_bd hok)
  have hlen : (l.map (frP a b c d)).length = n := by rw [List.length_map, HN.out]
  rcases inR4_cases a b c d with ⟨_, ⟨a1, a2⟩, ⟨e1, e2⟩, ⟨f1, f2⟩, ⟨g1, g2⟩⟩ | ⟨h, _⟩
  · rw [hin]
    have hn4 : ¬ (400 : Int) < (n : Int) := by omega
    clear hck hok hin
    go_enter Tryz.func160, Tryz.ntmps160
    go_wp2_with (go_at_call 104; refine (HA.out _ (by (repeat (first | exact New.refl _ | apply New.alloc | apply New.aft | apply New.drew | refine New.setCell ?_ ?_ _)); all_goals (first | done | (simp [size_aft]; done) | (simp [size_aft]; omega)))).mono ?_; rintro en w1 ⟨rfl, pw, rfl⟩)
    refine wp_loop_rounds 5 ?_
    repeat any_goals (rw [rounds_succ]; go_wp2)
    all_goals (try (exfalso; omega))
    go_loopw [15, 16] (fun v i wr => ∃ k : Nat, k ≤ n ∧ i = .int .i64 k ∧ wr.ownsRow w.heap.size 23 2 v k (ptCells ((l.map (frP a b c d)).take k)) ∧ New w wr) (fun _ i _ => n - (intOf i).toNat)
    case atStart => exact ⟨0, Nat.zero_le _, rfl, by simpa [ptCells] using World.ownsRow_nil _ _ _ _, by (repeat (first | exact New.refl _ | apply New.alloc | apply New.aft | apply New.drew | refine New.setCell ?_ ?_ _)); all_goals (first | done | (simp [size_aft]; done) | (simp [size_aft]; omega))⟩
    case round =>
      obtain ⟨k, hk, rfl, hown, pr, rfl⟩ := hrel
      have HO := Lib.hid hown
      clear hown
      by_cases hlt : k < n
      · obtain ⟨c1, c2⟩ := hcell k hlt
        have b1 := HB.out k
        have hkn : (k : Int) < (n : Int) := by omega
        have HCM := Lib.hid (cells_map l a b c d k (by rw [HN.out]; exact hlt))
        have m1 := mul_bd a (px l k) 20000 10000 (by omega) (by omega) (by omega) (by omega)
        have m2 := mul_bd c (py l k) 20000 10000 (by omega) (by omega) (by omega) (by omega)
        simp only [Int.reduceMul, Int.reduceNeg] at m1 m2
        have x1 : IntKind.i64.wrap (a * px l k) = a * px l k := IntWalk.i64_in _ (by omega)
        have x2 : IntKind.i64.wrap (a * px l k + b) = a * px l k + b := IntWalk.i64_in _ (by omega)
        have x3 : IntKind.i64.wrap (c * py l k) = c * py l k := IntWalk.i64_in _ (by omega)
        have x4 : IntKind.i64.wrap (c * py l k + d) = c * py l k + d := IntWalk.i64_in _ (by omega)
        go_wp2_with fail
        go_region_law (first | (refine step_append_lies _ ?_ (.tmp 48) (.tmp 68) 40 ?_ w.heap.size 23 i0 _ 2 16 Tryz.underlying40 hi hz0 hz1 hz2 rfl (by omega) u15 k (ptCells ((l.map (frP a b c d)).take k)) ?_ ?_ ⟨w.heap.size + pr.os.size, 0, none⟩ 1 1 [.int .i64 (a * px l k + b), .int .i64 (c * py l k + d)] ?_ rfl ?_ ?_ (by omega) ?_ ?_ ?_ _ rfl ?_; exact rfl; exact rfl; exact rfl; exact (HO.out.alloc _); exact rfl; (refine cells_new _ _ _ _ ?_); (simp [go_sem]); (intro u hu; simp at hu; rcases hu with rfl | rfl <;> rfl); (unfold maxLen; omega); omega; (simp [go_sem, Nat.add_assoc]); intro gg cap w2 hown2 hgrow2 hor2 hlt2))
        all_goals
          have hnw : New w w2 := new_grown (by (repeat (first | exact New.refl _ | apply New.alloc | apply New.aft | apply New.drew | refine New.setCell ?_ ?_ _)); all_goals (first | done | (simp [size_aft]; done) | (simp [size_aft]; omega))) hgrow2 HO.out
          have HO2 := Lib.hid hown2
          clear hown2 hgrow2 hor2 hlt2 HO x1 x2 x3 x4
          obtain ⟨p2, rfl⟩ := hnw
          go_wp2_with fail
          go_roundw
          case rel => exact ⟨k + 1, by omega, by go_num, by rw [HCM.out]; exact HO2.out, by (repeat (first | exact New.refl _ | apply New.alloc | apply New.aft | apply New.drew | refine New.setCell ?_ ?_ _)); all_goals (first | done | (simp [size_aft]; done) | (simp [size_aft]; omega))⟩
          case measure => simp [intOf]; omega
      · obtain rfl : k = n := by omega
        have HO3 := HO.out
        rw [List.take_of_length_le (by omega)] at HO3
        have HO4 := HO3
        rcases HO3.2 with ⟨_, hk0⟩ | ⟨g, cap, cur, rfl, hg⟩
        · exact absurd hk0 (by omega)
        · have HPT := Lib.hid (pts_own HO4 hlen)
          have HCP := Lib.hid (fun (w1 : World) (h1 : New (Aft w pr.d pr.os) w1) => ref_allValid g 0 k cap (l.map (frP a b c d)) w1 (by omega) (HPT.out.new h1))
          have HRES := Lib.hid (show ∀ w1 : World, New (Aft w pr.d pr.os) w1 → PtsR w1 (.slice (some ⟨g, 0, none⟩) k cap) (l.map (frP a b c d)) from fun w1 h1 => (show PtsR (Aft w pr.d pr.os) (.slice (some ⟨g, 0, none⟩) k cap) (l.map (frP a b c d)) from ⟨some ⟨g, 0, none⟩, cap, by rw [hlen], fun _ => ⟨g, rfl, by rw [hlen]; exact HPT.out⟩⟩).new h1)
          clear HO HO3 HO4 hg
          cases hr : okL (l.map (frP a b c d))
          · have HE := Lib.hid (chE_3 HCK0.out hr)
            rw [hr] at HCP
            go_wp2_with (go_at_call 104; refine (HCP.out _ (New.refl _)).mono ?_; rintro en w1 ⟨rfl, pw, rfl⟩)
            refine bodyPost_ret (v := .tuple #[.slice none 0 0, .int .i64 1]) (by simp [results, Tryz.results160, go_sem]) rfl ⟨_, ret_two HE.out.1.symm, by rw [HE.out.2]; exact PtsR.nil _, by (repeat (first | exact New.refl _ | apply New.alloc | apply New.aft | apply New.drew | refine New.setCell ?_ ?_ _)); all_goals (first | done | (simp [size_aft]; done) | (simp [size_aft]; omega))⟩
          · have HE := Lib.hid (chE_4 HCK0.out hr)
            rw [hr] at HCP
            go_wp2_with (go_at_call 104; refine (HCP.out _ (New.refl _)).mono ?_; rintro en w1 ⟨rfl, hn⟩; have HN2 := Lib.hid hn; clear hn)
            refine bodyPost_ret (v := .tuple #[.slice (some ⟨g, 0, none⟩) k cap, .int .i64 0]) (by simp [results, Tryz.results160, go_sem]) rfl ⟨_, ret_two HE.out.1.symm, by rw [HE.out.2]; exact HRES.out _ HN2.out, New.trans ((New.refl _).aft _ _) HN2.out⟩
  · rw [h] at hin; cases hin

set_option maxHeartbeats 4000000 in
theorem ref_changed_nil (av : Option Addr) (cp : Nat) (a b c d : Int) (w : World) : Calls Tryz.prog 160 #[.slice av 0 cp, .int .i64 a, .int .i64 b, .int .i64 c, .int .i64 d] w fun en w' => ∃ r, en = .returned (.tuple #[r, .int .i64 (chE [] [] (inR4 a b c d))]) ∧ PtsR w' r (chL [] [] (inR4 a b c d)) ∧ New w w' := by
  have HA := Lib.hid (fun (x : Option Addr) (y : Nat) (w1 : World) => ref_allValid_nil w1 x y)
  rcases inR4_cases a b c d with ⟨h, ⟨a1, a2⟩, ⟨e1, e2⟩, ⟨f1, f2⟩, ⟨g1, g2⟩⟩ | ⟨h, _⟩
  · rw [h]
    have HE := Lib.hid (chE_4 (l := []) (R := []) rfl rfl)
    clear h
    go_enter Tryz.func160, Tryz.ntmps160
    go_wp2_with (go_at_call 104; refine (HA.out _ _ _).mono ?_; rintro en w1 ⟨rfl, pw, rfl⟩)
    refine wp_loop_rounds 5 ?_
    repeat any_goals (rw [rounds_succ]; go_wp2)
    all_goals (try (exfalso; omega))
    refine wp_loop_rounds 1 ?_
    rw [rounds_succ]
    go_wp2_with (go_at_call 104; refine (HA.out _ _ _).mono ?_; rintro en w1 ⟨rfl, pw2, rfl⟩)
    all_goals (refine bodyPost_ret (v := .tuple #[.slice none 0 0, .int .i64 0]) (by simp [results, Tryz.results160, go_sem]) rfl ⟨_, ret_two HE.out.1.symm, by rw [HE.out.2]; exact PtsR.nil _, by (repeat (first | exact New.refl _ | apply New.alloc | apply New.aft | apply New.drew | refine New.setCell ?_ ?_ _)); all_goals (first | done | (simp [size_aft]; done) | (simp [size_aft]; omega))⟩)
  · exact ref_changed_bad (.bool true) av 0 cp [] a b c d w (by omega) rfl rfl (Lib.hid (fun w1 _ => ref_allValid_nil w1 av cp)) h

set_option maxHeartbeats 4000000 in
theorem ref_changed_err (b0 off n cp : Nat) (l : List P2) (a b c d : Int) (w : World) (hl : n ≤ 1000000) (hw : Pts w b0 off n l) (hck : ckPts l 400 ≠ 0) :
    Calls Tryz.prog 160 #[.slice (some ⟨b0, off, none⟩) n cp, .int .i64 a, .int .i64 b, .int .i64 c, .int .i64 d] w fun en w' => ∃ r, en = .returned (.tuple #[r, .int .i64 (chE l (l.map (frP a b c d)) (inR4 a b c d))]) ∧ PtsR w' r (chL l (l.map (frP a b c d)) (inR4 a b c d)) ∧ New w w' := by
  have HE := Lib.hid (chE_1 (R := l.map (frP a b c d)) (g := inR4 a b c d) hck)
  have hN := hw.1
  have HA := Lib.hid (fun (w1 : World) (h1 : New w w1) => ref_allValid b0 off n cp l w1 (by omega) (hw.new h1))
  by_cases h4 : 400 < n
  · have hn4 : (400 : Int) < (n : Int) := by omega
    have hv : ckPts l 400 = 2 := if_pos (by rw [hN]; omega)
    rw [hv] at HE
    clear hck hv hN HA
    go_enter Tryz.func160, Tryz.ntmps160
    go_wp2_with fail
    all_goals (refine bodyPost_ret (v := .tuple #[.slice none 0 0, .int .i64 2]) (by simp [results, Tryz.results160, go_sem]) rfl ⟨_, ret_two HE.out.1.symm, by rw [HE.out.2]; exact PtsR.nil _, by (repeat (first | exact New.refl _ | apply New.alloc | apply New.aft | apply New.drew | refine New.setCell ?_ ?_ _)); all_goals (first | done | (simp [size_aft]; done) | (simp [size_aft]; omega))⟩)
  · have hn4 : ¬ (400 : Int) < (n : Int) := by omega
    have hok : okL l = false := by
      cases hh : okL l
      · rfl
      · exact absurd (by unfold ckPts; rw [if_neg (by rw [hN]; omega), hh]; rfl) hck
    have hv : ckPts l 400 = 1 := by unfold ckPts; rw [if_neg (by rw [hN]; omega), hok]; rfl
    rw [hv] at HE
    rw [hok] at HA
    clear hck hv hN hok
    go_enter Tryz.func160, Tryz.ntmps160
    go_wp2_with (go_at_call 104; refine (HA.out _ (by (repeat (first | exact New.refl _ | apply New.alloc | apply New.aft | apply New.drew | refine New.setCell ?_ ?_ _)); all_goals (first | done | (simp [size_aft]; done) | (simp [size_aft]; omega)))).mono ?_; rintro en w1 ⟨rfl, pw, rfl⟩)
    all_goals (refine bodyPost_ret (v := .tuple #[.slice none 0 0, .int .i64 1]) (by simp [results, Tryz.results160, go_sem]) rfl ⟨_, ret_two HE.out.1.symm, by rw [HE.out.2]; exact PtsR.nil _, by (repeat (first | exact New.refl _ | apply New.alloc | apply New.aft | apply New.drew | refine New.setCell ?_ ?_ _)); all_goals (first | done | (simp [size_aft]; done) | (simp [size_aft]; omega))⟩)

/-- every list of points -/
def PtsA (w : World) (av : Option Addr) (n : Nat) (l : List P2) : Prop := l.length = n ∧ (0 < n → ∃ b off, av = some ⟨b, off, none⟩ ∧ Pts w b off n l)
theorem PtsA.new {w w' : World} {av : Option Addr} {n : Nat} {l : List P2} (h : PtsA w av n l) (hn : New w w') : PtsA w' av n l :=
  ⟨h.1, fun h0 => by obtain ⟨b, off, h1, h2⟩ := h.2 h0; exact ⟨b, off, h1, h2.new hn⟩⟩
theorem ref_changed (av : Option Addr) (n cp : Nat) (l : List P2) (a b c d : Int) (w : World) (hl : n ≤ 1000000) (hp : PtsA w av n l) :
    Calls Tryz.prog 160 #[.slice av n cp, .int .i64 a, .int .i64 b, .int .i64 c, .int .i64 d] w fun en w' => ∃ r, en = .returned (.tuple #[r, .int .i64 (chE l (l.map (frP a b c d)) (inR4 a b c d))]) ∧ PtsR w' r (chL l (l.map (frP a b c d)) (inR4 a b c d)) ∧ New w w' := by
  by_cases h0 : 0 < n
  · obtain ⟨b0, off, rfl, hw⟩ := hp.2 h0
    by_cases hck : ckPts l 400 = 0
    · obtain ⟨h4, hok⟩ := ckPts_zero hck
      have hn := hw.1
      cases hin : inR4 a b c d
      · rw [← hin]; exact ref_changed_bad (.bool true) _ n cp l a b c d w (by omega) hn hok (Lib.hid (fun w1 h1 => by have := ref_allValid b0 off n cp l w1 (by omega) (hw.new h1); rwa [hok] at this)) hin
      · rw [← hin]; exact ref_changed_good b0 off n cp l a b c d w h0 (by omega) hw hok hin
    · exact ref_changed_err b0 off n cp l a b c d w hl hw hck
  · obtain rfl : n = 0 := by omega
    have : l = [] := List.eq_nil_of_length_eq_zero hp.1
    subst this
    exact ref_changed_nil av cp a b c d w

end Go.Proofs.YtpdfbboagaflhaaGreat

set_option linter.unusedSimpArgs false
set_option linter.unusedVariables false
set_option maxRecDepth 100000
namespace Go.Proofs.YtpdfbboagaflhaaGreat
open Go.RowKit

def ChgIs (w w' : World) (en : Ending) (l R : List P2) (g : Bool) : Prop := ∃ r, en = .returned (.tuple #[r, .int .i64 (chE l R g)]) ∧ PtsR w' r (chL l R g) ∧ New w w'
theorem frP_move (l : List P2) (dx dy : Int) : inR4 1 dx 1 dy = inR dx dy := by
  unfold inR4 inR; rw [Bool.eq_iff_iff]; simp only [Bool.and_eq_true, decide_eq_true_eq]; omega
theorem inR4_mirror (dx : Int) : inR4 (-1) dx 1 0 = inR dx 0 := by
  unfold inR4 inR; rw [Bool.eq_iff_iff]; simp only [Bool.and_eq_true, decide_eq_true_eq]; omega
theorem inR4_enlarge (k : Int) : inR4 k 0 k 0 = inR k 0 := by
  unfold inR4 inR; rw [Bool.eq_iff_iff]; simp only [Bool.and_eq_true, decide_eq_true_eq]; omega

set_option maxHeartbeats 4000000 in
theorem move_c (av : Option Addr) (n cp : Nat) (l : List P2) (dx dy : Int) (w : World) (hl : n ≤ 1000000) (hp : PtsA w av n l) :
    Calls Tryz.prog 75 #[.slice av n cp, .int .i64 dx, .int .i64 dy] w fun en w' => ∃ r, en = .returned (.tuple #[r, .int .i64 (chE l (l.map (frP 1 dx 1 dy)) (inR dx dy))]) ∧ PtsR w' r (chL l (l.map (frP 1 dx 1 dy)) (inR dx dy)) ∧ New w w' := by
  have hmf : ∀ (fn : Fn) (first cap : Array Value) (w : World), (Instr.makeFunc fn first cap).run Tryz.prog w = .ok (.func fn first cap) w := fun _ _ _ _ => rfl
  have HCH := Lib.hid (show ∀ w1 : World, New w w1 → (w1.cell? ⟨w.heap.size, 0, none⟩ = some (.int .i64 dx) ∧ w.heap.size < w1.heap.size) ∧ (w1.cell? ⟨w.heap.size + 1, 0, none⟩ = some (.int .i64 dy) ∧ w.heap.size + 1 < w1.heap.size) → Calls Tryz.prog 158 #[.slice av n cp, .agg #[.int .i64 dx, .int .i64 dy], .func (.func 159) #[] #[.pointer (some ⟨w.heap.size, 0, none⟩), .pointer (some ⟨w.heap.size + 1, 0, none⟩)]] w1 fun en w' => ∃ r, en = .returned (.tuple #[r, .int .i64 (chE l (l.map (frP 1 dx 1 dy)) (inR dx dy))]) ∧ PtsR w' r (chL l (l.map (frP 1 dx 1 dy)) (inR dx dy)) ∧ New w1 w' from fun w1 hn hc => by
    by_cases h0 : 0 < n
    · obtain ⟨b0, off, rfl, hw⟩ := hp.2 h0
      exact changed159 b0 off n cp w.heap.size (w.heap.size + 1) l 1 dx 1 dy dx dy w1 h0 hl (hw.new hn) (Lib.hid (fun w2 hn2 x y hx hy hr => by
        have := (move1_c x y dx dy w.heap.size (w.heap.size + 1) w2 hx hy hr.1 hr.2 ((hn2.cell hc.1.2).trans hc.1.1) ((hn2.cell hc.2.2).trans hc.2.1) (Nat.lt_of_lt_of_le hc.1.2 hn2.size) (Nat.lt_of_lt_of_le hc.2.2 hn2.size))
        rw [show x + dx = 1 * x + dx by omega, show y + dy = 1 * y + dy by omega] at this
        exact this))
    · obtain rfl : n = 0 := by omega
      have : l = [] := List.eq_nil_of_length_eq_zero hp.1
      subst this
      exact changed_nil av cp dx dy _ w1)
  generalize chE l (l.map (frP 1 dx 1 dy)) (inR dx dy) = E at *
  generalize chL l (l.map (frP 1 dx 1 dy)) (inR dx dy) = L at *
  clear hp
  go_enter Tryz.func75, Tryz.ntmps75
  go_wp2_with (go_at_call 158; refine (HCH.out _ (by (repeat (first | exact New.refl _ | apply New.alloc | apply New.aft | apply New.drew | refine New.setCell ?_ ?_ _)); all_goals (first | done | (simp [size_aft]; done) | (simp [size_aft]; omega))) (by simp [go_sem])).mono ?_; rintro en w1 ⟨r, rfl, hr, hn⟩; have HR := Lib.hid hr; have HN := Lib.hid (New.trans (by (repeat (first | exact New.refl _ | apply New.alloc | apply New.aft | apply New.drew | refine New.setCell ?_ ?_ _)); all_goals (first | done | (simp [size_aft]; done) | (simp [size_aft]; omega))) hn : New w w1); clear hr hn)
  all_goals (refine bodyPost_ret (v := .tuple #[r, .int .i64 E]) (by simp [results, Tryz.results75, go_sem]) rfl ⟨r, rfl, HR.out, HN.out⟩)

set_option maxHeartbeats 4000000 in
theorem mirror_c (av : Option Addr) (n cp : Nat) (l : List P2) (dx : Int) (w : World) (hl : n ≤ 1000000) (hp : PtsA w av n l) :
    Calls Tryz.prog 77 #[.slice av n cp, .int .i64 dx] w fun en w' => ∃ r, en = .returned (.tuple #[r, .int .i64 (chE l (l.map (frP (-1) dx 1 0)) (inR dx 0))]) ∧ PtsR w' r (chL l (l.map (frP (-1) dx 1 0)) (inR dx 0)) ∧ New w w' := by
  have hmf : ∀ (fn : Fn) (first cap : Array Value) (w : World), (Instr.makeFunc fn first cap).run Tryz.prog w = .ok (.func fn first cap) w := fun _ _ _ _ => rfl
  have HCH := Lib.hid (show ∀ w1 : World, New w w1 → (w1.cell? ⟨w.heap.size, 0, none⟩ = some (.int .i64 dx) ∧ w.heap.size < w1.heap.size) → Calls Tryz.prog 158 #[.slice av n cp, .agg #[.int .i64 dx, .int .i64 0], .func (.func 161) #[] #[.pointer (some ⟨w.heap.size, 0, none⟩)]] w1 fun en w' => ∃ r, en = .returned (.tuple #[r, .int .i64 (chE l (l.map (frP (-1) dx 1 0)) (inR dx 0))]) ∧ PtsR w' r (chL l (l.map (frP (-1) dx 1 0)) (inR dx 0)) ∧ New w1 w' from fun w1 hn hc => by
    by_cases h0 : 0 < n
    · obtain ⟨b0, off, rfl, hw⟩ := hp.2 h0
      exact changed161 b0 off n cp w.heap.size l (-1) dx 1 0 dx 0 w1 h0 hl (hw.new hn) (Lib.hid (fun w2 hn2 x y hx hy hr => by
        have := (mirror1_c x y dx w.heap.size w2 hx hy hr.1 ((hn2.cell hc.2).trans hc.1) (Nat.lt_of_lt_of_le hc.2 hn2.size))
        rw [show dx - x = (-1) * x + dx by omega, show pv ((-1) * x + dx) y = pv ((-1) * x + dx) (1 * y + 0) by rw [show 1 * y + 0 = y by omega]] at this
        exact this))
    · obtain rfl : n = 0 := by omega
      have : l = [] := List.eq_nil_of_length_eq_zero hp.1
      subst this
      exact changed_nil av cp dx 0 _ w1)
  generalize chE l (l.map (frP (-1) dx 1 0)) (inR dx 0) = E at *
  generalize chL l (l.map (frP (-1) dx 1 0)) (inR dx 0) = L at *
  clear hp
  go_enter Tryz.func77, Tryz.ntmps77
  go_wp2_with (go_at_call 158; refine (HCH.out _ (by (repeat (first | exact New.refl _ | apply New.alloc | apply New.aft | apply New.drew | refine New.setCell ?_ ?_ _)); all_goals (first | done | (simp [size_aft]; done) | (simp [size_aft]; omega))) (by simp [go_sem])).mono ?_; rintro en w1 ⟨r, rfl, hr, hn⟩; have HR := Lib.hid hr; have HN := Lib.hid (New.trans (by (repeat (first | exact New.refl _ | apply New.alloc | apply New.aft | apply New.drew | refine New.setCell ?_ ?_ _)); all_goals (first | done | (simp [size_aft]; done) | (simp [size_aft]; omega))) hn : New w w1); clear hr hn)
  all_goals (refine bodyPost_ret (v := .tuple #[r, .int .i64 E]) (by simp [results, Tryz.results77, go_sem]) rfl ⟨r, rfl, HR.out, HN.out⟩)

set_option maxHeartbeats 4000000 in
theorem enlarge_c (av : Option Addr) (n cp : Nat) (l : List P2) (k : Int) (w : World) (hl : n ≤ 1000000) (hp : PtsA w av n l) :
    Calls Tryz.prog 79 #[.slice av n cp, .int .i64 k] w fun en w' => ∃ r, en = .returned (.tuple #[r, .int .i64 (chE l (l.map (frP k 0 k 0)) (inR k 0))]) ∧ PtsR w' r (chL l (l.map (frP k 0 k 0)) (inR k 0)) ∧ New w w' := by
  have hmf : ∀ (fn : Fn) (first cap : Array Value) (w : World), (Instr.makeFunc fn first cap).run Tryz.prog w = .ok (.func fn first cap) w := fun _ _ _ _ => rfl
  have HCH := Lib.hid (show ∀ w1 : World, New w w1 → (w1.cell? ⟨w.heap.size, 0, none⟩ = some (.int .i64 k) ∧ w.heap.size < w1.heap.size) → Calls Tryz.prog 158 #[.slice av n cp, .agg #[.int .i64 k, .int .i64 0], .func (.func 162) #[] #[.pointer (some ⟨w.heap.size, 0, none⟩)]] w1 fun en w' => ∃ r, en = .returned (.tuple #[r, .int .i64 (chE l (l.map (frP k 0 k 0)) (inR k 0))]) ∧ PtsR w' r (chL l (l.map (frP k 0 k 0)) (inR k 0)) ∧ New w1 w' from fun w1 hn hc => by
    by_cases h0 : 0 < n
    · obtain ⟨b0, off, rfl, hw⟩ := hp.2 h0
      exact changed162 b0 off n cp w.heap.size l k 0 k 0 k 0 w1 h0 hl (hw.new hn) (Lib.hid (fun w2 hn2 x y hx hy hr => by
        have := (enlarge1_c x y k w.heap.size w2 hx hy hr.1 ((hn2.cell hc.2).trans hc.1) (Nat.lt_of_lt_of_le hc.2 hn2.size))
        rw [show x * k = k * x + 0 by rw [Int.mul_comm]; omega, show y * k = k * y + 0 by rw [Int.mul_comm]; omega] at this
        exact this))
    · obtain rfl : n = 0 := by omega
      have : l = [] := List.eq_nil_of_length_eq_zero hp.1
      subst this
      exact changed_nil av cp k 0 _ w1)
  generalize chE l (l.map (frP k 0 k 0)) (inR k 0) = E at *
  generalize chL l (l.map (frP k 0 k 0)) (inR k 0) = L at *
  clear hp
  go_enter Tryz.func79, Tryz.ntmps79
  go_wp2_with (go_at_call 158; refine (HCH.out _ (by (repeat (first | exact New.refl _ | apply New.alloc | apply New.aft | apply New.drew | refine New.setCell ?_ ?_ _)); all_goals (first | done | (simp [size_aft]; done) | (simp [size_aft]; omega))) (by simp [go_sem])).mono ?_; rintro en w1 ⟨r, rfl, hr, hn⟩; have HR := Lib.hid hr; have HN := Lib.hid (New.trans (by (repeat (first | exact New.refl _ | apply New.alloc | apply New.aft | apply New.drew | refine New.setCell ?_ ?_ _)); all_goals (first | done | (simp [size_aft]; done) | (simp [size_aft]; omega))) hn : New w w1); clear hr hn)
  all_goals (refine bodyPost_ret (v := .tuple #[r, .int .i64 E]) (by simp [results, Tryz.results79, go_sem]) rfl ⟨r, rfl, HR.out, HN.out⟩)

set_option maxHeartbeats 2000000 in
theorem ref_move (av : Option Addr) (n cp : Nat) (l : List P2) (dx dy : Int) (w : World) (hl : n ≤ 1000000) (hp : PtsA w av n l) :
    Calls Tryz.prog 76 #[.slice av n cp, .int .i64 dx, .int .i64 dy] w fun en w' => ∃ r, en = .returned (.tuple #[r, .int .i64 (chE l (l.map (frP 1 dx 1 dy)) (inR4 1 dx 1 dy))]) ∧ PtsR w' r (chL l (l.map (frP 1 dx 1 dy)) (inR4 1 dx 1 dy)) ∧ New w w' := by
  have HCH := Lib.hid (fun (w1 : World) (hn : New w w1) => ref_changed av n cp l 1 dx 1 dy w1 hl (hp.new hn))
  generalize chE l (l.map (frP 1 dx 1 dy)) (inR4 1 dx 1 dy) = E at *
  generalize chL l (l.map (frP 1 dx 1 dy)) (inR4 1 dx 1 dy) = L at *
  clear hp
  go_enter Tryz.func76, Tryz.ntmps76
  go_wp2_with (go_at_call 160; refine (HCH.out _ (by (repeat (first | exact New.refl _ | apply New.alloc | apply New.aft | apply New.drew | refine New.setCell ?_ ?_ _)); all_goals (first | done | (simp [size_aft]; done) | (simp [size_aft]; omega)))).mono ?_; rintro en w1 ⟨r, rfl, hr, hn⟩; have HR := Lib.hid hr; have HN := Lib.hid (New.trans (by (repeat (first | exact New.refl _ | apply New.alloc | apply New.aft | apply New.drew | refine New.setCell ?_ ?_ _)); all_goals (first | done | (simp [size_aft]; done) | (simp [size_aft]; omega))) hn : New w w1); clear hr hn)
  all_goals (refine bodyPost_ret (v := .tuple #[r, .int .i64 E]) (by simp [results, Tryz.results76, go_sem]) rfl ⟨r, rfl, HR.out, HN.out⟩)

set_option maxHeartbeats 2000000 in
theorem ref_mirror (av : Option Addr) (n cp : Nat) (l : List P2) (dx : Int) (w : World) (hl : n ≤ 1000000) (hp : PtsA w av n l) :
    Calls Tryz.prog 78 #[.slice av n cp, .int .i64 dx] w fun en w' => ∃ r, en = .returned (.tuple #[r, .int .i64 (chE l (l.map (frP (-1) dx 1 0)) (inR4 (-1) dx 1 0))]) ∧ PtsR w' r (chL l (l.map (frP (-1) dx 1 0)) (inR4 (-1) dx 1 0)) ∧ New w w' := by
  have HCH := Lib.hid (fun (w1 : World) (hn : New w w1) => ref_changed av n cp l (-1) dx 1 0 w1 hl (hp.new hn))
  generalize chE l (l.map (frP (-1) dx 1 0)) (inR4 (-1) dx 1 0) = E at *
  generalize chL l (l.map (frP (-1) dx 1 0)) (inR4 (-1) dx 1 0) = L at *
  clear hp
  go_enter Tryz.func78, Tryz.ntmps78
  go_wp2_with (go_at_call 160; refine (HCH.out _ (by (repeat (first | exact New.refl _ | apply New.alloc | apply New.aft | apply New.drew | refine New.setCell ?_ ?_ _)); all_goals (first | done | (simp [size_aft]; done) | (simp [size_aft]; omega)))).mono ?_; rintro en w1 ⟨r, rfl, hr, hn⟩; have HR := Lib.hid hr; have HN := Lib.hid (New.trans (by (repeat (first | exact New.refl _ | apply New.alloc | apply New.aft | apply New.drew | refine New.setCell ?_ ?_ _)); all_goals (first | done | (simp [size_aft]; done) | (simp [size_aft]; omega))) hn : New w w1); clear hr hn)
  all_goals (refine bodyPost_ret (v := .tuple #[r, .int .i64 E]) (by simp [results, Tryz.results78, go_sem]) rfl ⟨r, rfl, HR.out, HN.out⟩)

set_option maxHeartbeats 2000000 in
theorem ref_enlarge (av : Option Addr) (n cp : Nat) (l : List P2) (k : Int) (w : World) (hl : n ≤ 1000000) (hp : PtsA w av n l) :
    Calls Tryz.prog 80 #[.slice av n cp, .int .i64 k] w fun en w' => ∃ r, en = .returned (.tuple #[r, .int .i64 (chE l (l.map (frP k 0 k 0)) (inR4 k 0 k 0))]) ∧ PtsR w' r (chL l (l.map (frP k 0 k 0)) (inR4 k 0 k 0)) ∧ New w w' := by
  have HCH := Lib.hid (fun (w1 : World) (hn : New w w1) => ref_changed av n cp l k 0 k 0 w1 hl (hp.new hn))
  generalize chE l (l.map (frP k 0 k 0)) (inR4 k 0 k 0) = E at *
  generalize chL l (l.map (frP k 0 k 0)) (inR4 k 0 k 0) = L at *
  clear hp
  go_enter Tryz.func80, Tryz.ntmps80
  go_wp2_with (go_at_call 160; refine (HCH.out _ (by (repeat (first | exact New.refl _ | apply New.alloc | apply New.aft | apply New.drew | refine New.setCell ?_ ?_ _)); all_goals (first | done | (simp [size_aft]; done) | (simp [size_aft]; omega)))).mono ?_; rintro en w1 ⟨r, rfl, hr, hn⟩; have HR := Lib.hid hr; have HN := Lib.hid (New.trans (by (repeat (first | exact New.refl _ | apply New.alloc | apply New.aft | apply New.drew | refine New.setCell ?_ ?_ _)); all_goals (first | done | (simp [size_aft]; done) | (simp [size_aft]; omega))) hn : New w w1); clear hr hn)
  all_goals (refine bodyPost_ret (v := .tuple #[r, .int .i64 E]) (by simp [results, Tryz.results80, go_sem]) rfl ⟨r, rfl, HR.out, HN.out⟩)

end Go.Proofs.YtpdfbboagaflhaaGreat

set_option linter.unusedSimpArgs false
set_option linter.unusedVariables false
set_option maxRecDepth 100000
namespace Go.Proofs.YtpdfbboagaflhaaGreat
open Go.RowKit

theorem chL_len {l R : List P2} {g : Bool} (h : R.length ≤ 1000000) : (chL l R g).length ≤ 1000000 := by
  unfold chL; split
  · exact h
  · simp

set_option maxHeartbeats 8000000 in
theorem planeChanges_in (av : Option Addr) (n cp : Nat) (l : List P2) (dx dy : Int) (w : World) (hn5 : n ≤ 500) (hp : PtsA w av n l) :
    Calls Tryz.prog 18 #[.slice av n cp, .int .i64 dx, .int .i64 dy] w fun e w' => e = .returned (.bool true) ∧ New w w' := by
  have HL := Lib.hid alive_c
  have hlm : ∀ f : P2 → P2, (l.map f).length ≤ 1000000 := fun f => by rw [List.length_map, hp.1]; omega
  have HA1 := Lib.hid (fun (w1 : World) (h1 : New w w1) => move_c av n cp l dx dy w1 (by omega) (hp.new h1))
  have HA2 := Lib.hid (fun (w1 : World) (h1 : New w w1) => ref_move av n cp l dx dy w1 (by omega) (hp.new h1))
  have HB1 := Lib.hid (fun (w1 : World) (h1 : New w w1) => mirror_c av n cp l dx w1 (by omega) (hp.new h1))
  have HB2 := Lib.hid (fun (w1 : World) (h1 : New w w1) => ref_mirror av n cp l dx w1 (by omega) (hp.new h1))
  have HC1 := Lib.hid (fun (w1 : World) (h1 : New w w1) => enlarge_c av n cp l dy w1 (by omega) (hp.new h1))
  have HC2 := Lib.hid (fun (w1 : World) (h1 : New w w1) => ref_enlarge av n cp l dy w1 (by omega) (hp.new h1))
  rw [frP_move l dx dy] at HA2
  rw [inR4_mirror] at HB2
  rw [inR4_enlarge] at HC2
  have la := chL_len (l := l) (g := inR dx dy) (hlm (frP 1 dx 1 dy))
  have lb := chL_len (l := l) (g := inR dx 0) (hlm (frP (-1) dx 1 0))
  have lc := chL_len (l := l) (g := inR dy 0) (hlm (frP dy 0 dy 0))
  generalize chE l (l.map (frP 1 dx 1 dy)) (inR dx dy) = EA at *
  generalize chL l (l.map (frP 1 dx 1 dy)) (inR dx dy) = LA at *
  generalize chE l (l.map (frP (-1) dx 1 0)) (inR dx 0) = EB at *
  generalize chL l (l.map (frP (-1) dx 1 0)) (inR dx 0) = LB at *
  generalize chE l (l.map (frP dy 0 dy 0)) (inR dy 0) = EC at *
  generalize chL l (l.map (frP dy 0 dy 0)) (inR dy 0) = LC at *
  have t1 : (EA == EA) = true := by simp
  have t2 : (EB == EB) = true := by simp
  have t3 : (EC == EC) = true := by simp
  have hn6 : ¬ (500 : Int) < (n : Int) := by omega
  clear hp hlm
  go_enter Tryz.func18, Tryz.ntmps18
  go_wp2_with (go_at_call 75; refine (HA1.out _ (by first | exact (New.refl _) | (repeat (first | exact New.refl _ | apply New.alloc | apply New.aft | apply New.drew | refine New.setCell ?_ ?_ _)); all_goals (first | done | (simp [size_aft]; done) | (simp [size_aft]; omega)))).mono ?_; rintro en w1 ⟨rA1, rfl, hr, hn⟩; have PA1 := Lib.hid hr; have N1 := Lib.hid (New.trans (by first | exact (New.refl _) | (repeat (first | exact New.refl _ | apply New.alloc | apply New.aft | apply New.drew | refine New.setCell ?_ ?_ _)); all_goals (first | done | (simp [size_aft]; done) | (simp [size_aft]; omega))) hn : New w w1); have D1 := Lib.hid hn; clear hr hn)
  go_wp2_with (go_at_call 76; refine (HA2.out _ (by first | exact N1.out | (repeat (first | exact New.refl _ | apply New.alloc | apply New.aft | apply New.drew | refine New.setCell ?_ ?_ _)); all_goals (first | done | (simp [size_aft]; done) | (simp [size_aft]; omega)))).mono ?_; rintro en w2 ⟨rA2, rfl, hr, hn⟩; have PA2 := Lib.hid hr; have N2 := Lib.hid (New.trans (by first | exact N1.out | (repeat (first | exact New.refl _ | apply New.alloc | apply New.aft | apply New.drew | refine New.setCell ?_ ?_ _)); all_goals (first | done | (simp [size_aft]; done) | (simp [size_aft]; omega))) hn : New w w2); have D2 := Lib.hid hn; clear hr hn)
  go_wp2_with (go_at_call 77; refine (HB1.out _ (by first | exact N2.out | (repeat (first | exact New.refl _ | apply New.alloc | apply New.aft | apply New.drew | refine New.setCell ?_ ?_ _)); all_goals (first | done | (simp [size_aft]; done) | (simp [size_aft]; omega)))).mono ?_; rintro en w3 ⟨rB1, rfl, hr, hn⟩; have PB1 := Lib.hid hr; have N3 := Lib.hid (New.trans (by first | exact N2.out | (repeat (first | exact New.refl _ | apply New.alloc | apply New.aft | apply New.drew | refine New.setCell ?_ ?_ _)); all_goals (first | done | (simp [size_aft]; done) | (simp [size_aft]; omega))) hn : New w w3); have D3 := Lib.hid hn; clear hr hn)
  go_wp2_with (go_at_call 78; refine (HB2.out _ (by first | exact N3.out | (repeat (first | exact New.refl _ | apply New.alloc | apply New.aft | apply New.drew | refine New.setCell ?_ ?_ _)); all_goals (first | done | (simp [size_aft]; done) | (simp [size_aft]; omega)))).mono ?_; rintro en w4 ⟨rB2, rfl, hr, hn⟩; have PB2 := Lib.hid hr; have N4 := Lib.hid (New.trans (by first | exact N3.out | (repeat (first | exact New.refl _ | apply New.alloc | apply New.aft | apply New.drew | refine New.setCell ?_ ?_ _)); all_goals (first | done | (simp [size_aft]; done) | (simp [size_aft]; omega))) hn : New w w4); have D4 := Lib.hid hn; clear hr hn)
  go_wp2_with (go_at_call 79; refine (HC1.out _ (by first | exact N4.out | (repeat (first | exact New.refl _ | apply New.alloc | apply New.aft | apply New.drew | refine New.setCell ?_ ?_ _)); all_goals (first | done | (simp [size_aft]; done) | (simp [size_aft]; omega)))).mono ?_; rintro en w5 ⟨rC1, rfl, hr, hn⟩; have PC1 := Lib.hid hr; have N5 := Lib.hid (New.trans (by first | exact N4.out | (repeat (first | exact New.refl _ | apply New.alloc | apply New.aft | apply New.drew | refine New.setCell ?_ ?_ _)); all_goals (first | done | (simp [size_aft]; done) | (simp [size_aft]; omega))) hn : New w w5); have D5 := Lib.hid hn; clear hr hn)
  go_wp2_with (go_at_call 80; refine (HC2.out _ (by first | exact N5.out | (repeat (first | exact New.refl _ | apply New.alloc | apply New.aft | apply New.drew | refine New.setCell ?_ ?_ _)); all_goals (first | done | (simp [size_aft]; done) | (simp [size_aft]; omega)))).mono ?_; rintro en w6 ⟨rC2, rfl, hr, hn⟩; have PC2 := Lib.hid hr; have N6 := Lib.hid (New.trans (by first | exact N5.out | (repeat (first | exact New.refl _ | apply New.alloc | apply New.aft | apply New.drew | refine New.setCell ?_ ?_ _)); all_goals (first | done | (simp [size_aft]; done) | (simp [size_aft]; omega))) hn : New w w6); have D6 := Lib.hid hn; clear hr hn)
  go_wp2_with (first | (go_at_call 31; refine (HL.out _).mono ?_; rintro en wq ⟨rfl, hn⟩; have HQ := Lib.hid hn; clear hn; have SA := Lib.hid (fun (W : World) (h : New wq W) => samePoints_c rA1 rA2 LA W la (PA1.out.new ((((((D2.out.trans D3.out).trans D4.out).trans D5.out).trans D6.out).trans HQ.out).trans h)) (PA2.out.new (((((D3.out.trans D4.out).trans D5.out).trans D6.out).trans HQ.out).trans h))); have SB := Lib.hid (fun (W : World) (h : New wq W) => samePoints_c rB1 rB2 LB W lb (PB1.out.new ((((D4.out.trans D5.out).trans D6.out).trans HQ.out).trans h)) (PB2.out.new (((D5.out.trans D6.out).trans HQ.out).trans h))); have SC := Lib.hid (fun (W : World) (h : New wq W) => samePoints_c rC1 rC2 LC W lc (PC1.out.new ((D6.out.trans HQ.out).trans h)) (PC2.out.new (HQ.out.trans h))); have NQ := Lib.hid (N6.out.trans HQ.out)) | (go_at_call 52; (with_reducible refine (SA.out _ (by (repeat (first | exact New.refl _ | apply New.alloc | apply New.aft | apply New.drew | refine New.setCell ?_ ?_ _)); all_goals (first | done | (simp [size_aft]; done) | (simp [size_aft]; omega)))).mono ?_); rintro en wz ⟨rfl, pz, rfl⟩) | (go_at_call 52; (with_reducible refine (SB.out _ (by (repeat (first | exact New.refl _ | apply New.alloc | apply New.aft | apply New.drew | refine New.setCell ?_ ?_ _)); all_goals (first | done | (simp [size_aft]; done) | (simp [size_aft]; omega)))).mono ?_); rintro en wz ⟨rfl, pz, rfl⟩) | (go_at_call 52; (with_reducible refine (SC.out _ (by (repeat (first | exact New.refl _ | apply New.alloc | apply New.aft | apply New.drew | refine New.setCell ?_ ?_ _)); all_goals (first | done | (simp [size_aft]; done) | (simp [size_aft]; omega)))).mono ?_); rintro en wz ⟨rfl, pz, rfl⟩))
  all_goals (go_ret; refine ⟨ret_bool (by simp), ?_⟩; (repeat (first | exact NQ.out | exact New.refl _ | apply New.alloc | apply New.aft | apply New.drew | refine New.setCell ?_ ?_ _)); all_goals (first | done | (simp [size_aft]; done) | (simp [size_aft]; omega)))

theorem planeChanges_all (w : World) (av : Option Addr) (n c : Nat) (l : List P2) (hl : l.length = n) (hp : 0 < n → ∃ b off, av = some ⟨b, off, none⟩ ∧ Pts w b off n l) (dx : Int) (hx : (Lit.int .i64 dx).wf = true) (dy : Int) (hy : (Lit.int .i64 dy).wf = true) : Calls Tryz.prog 18 #[.slice av n c, .int .i64 dx, .int .i64 dy] w fun e w' => e = .returned (.bool true) ∧ New w w' := by
  by_cases hn : n ≤ 500
  · exact planeChanges_in av n c l dx dy w hn ⟨hl, hp⟩
  · have HL := Lib.hid alive_c
    have hn2 : (500 : Int) < (n : Int) := by omega
    clear hp hl
    go_enter Tryz.func18, Tryz.ntmps18
    go_wp2_with (go_at_call 31; refine (HL.out _).mono ?_; rintro e w1 ⟨rfl, pw, rfl⟩)
    all_goals (go_ret; refine ⟨ret_bool (by simp), ?_⟩; (repeat (first | exact New.refl _ | apply New.alloc | apply New.aft | apply New.drew | refine New.setCell ?_ ?_ _)); all_goals (first | done | (simp [size_aft]; done) | (simp [size_aft]; omega)))

end Go.Proofs.YtpdfbboagaflhaaGreat

set_option linter.unusedSimpArgs false
set_option linter.unusedVariables false
set_option linter.constructorNameAsVariable false
namespace Go.Proofs.YtpdfbboagaflhaaGreat
open Go.ChangeShapes Go.WideShapes Go.ChangeAt Go.RowKit Go.Joins
set_option maxRecDepth 100000

theorem jCh_wf : Rows.planeChangesRow.wf (OpenSpec.ofChange Rows.planeChangesSpec) = true := by kernel_rfl
theorem jCh_par : Tryz.f18.params.all (Tryz.prog.readableRec ·) = true := by kernel_rfl
theorem jCh_tie : namedTie Tryz.prog Rows.planeChangesRow.named Rows.planeChangesSpec.vars = true := by kernel_rfl
theorem jCh_st : (Rows.planeChangesRow.stops == []) = true := by kernel_rfl
theorem jCh_kn : (Rows.planeChangesRow.knobs == []) = true := by kernel_rfl
theorem jCh_inp : (Rows.planeChangesRow.inPlace == Tryz.prog.inPlace 18) = true := by kernel_rfl
theorem jCh_unf : (Rows.planeChangesRow.unfollowed == Tryz.prog.unfollowed 18) = true := by kernel_rfl
theorem jCh_rec : (Rows.planeChangesRow.recurses == Tryz.prog.recurses 18) = true := by kernel_rfl
theorem jCh_nam : (Rows.planeChangesRow.named == Tryz.prog.varsNamed 18) = true := by kernel_rfl
theorem jCh_maps : (Rows.planeChangesRow.maps == (Tryz.f18.params.toList ++ Rows.planeChangesSpec.plain.varTypes Tryz.prog).any (Tryz.prog.mapsRec ·)) = true := by kernel_rfl
theorem jCh_ifs : (Rows.planeChangesRow.ifaces == (Tryz.f18.params.toList ++ Rows.planeChangesSpec.plain.varTypes Tryz.prog).any (Tryz.prog.ifacesRec ·)) = true := by kernel_rfl
theorem jCh_mout : (Rows.planeChangesRow.mapsOut == Tryz.prog.mapsAmong Tryz.f18.resultTypes.toList) = true := by kernel_rfl
theorem jCh_loops : (Rows.planeChangesRow.loops == (Tryz.f18.params.toList ++ Rows.planeChangesSpec.plain.varTypes Tryz.prog).any (Tryz.prog.loopsFrom ·)) = true := by kernel_rfl
theorem jCh_wide : (Rows.planeChangesRow.wideKeys == (Tryz.f18.params.toList ++ Rows.planeChangesSpec.plain.varTypes Tryz.prog ++ Tryz.f18.resultTypes.toList).any (Tryz.prog.wideKeysFrom ·)) = true := by kernel_rfl
theorem jCh_vars : Rows.planeChangesSpec.vars.all (Tryz.prog.varReadable ·) = true := by kernel_rfl
theorem jCh_res : Tryz.f18.resultTypes.all (fun t => Tryz.prog.readableRec t && decide (t < Tryz.prog.types.size)) = true := by kernel_rfl
theorem jCh_iout : (Rows.planeChangesRow.ifacesOut == Tryz.f18.resultTypes.toList.any (Tryz.prog.ifacesRec ·)) = true := by kernel_rfl
theorem jCh_lout : (Rows.planeChangesRow.loopsOut == Tryz.f18.resultTypes.toList.any (Tryz.prog.loopsFrom ·)) = true := by kernel_rfl
theorem jCh_plain : (Rows.planeChangesRow.plainKeys == Tryz.prog.plainKeys) = true := by kernel_rfl
theorem jCh_short : Rows.planeChangesRow.shortTexts.isNone = true := by kernel_rfl
theorem jCh_lift0 : (Rows.planeChangesRow.lifted == false) = true := by kernel_rfl
theorem jCh_lift : (Rows.planeChangesRow.lifted == Tryz.prog.liftsFinal) = true := (congrArg (fun b => (Rows.planeChangesRow.lifted == b)) lift_is).trans jCh_lift0
theorem jCh_make0 : (some Make.cut == some Rows.planeChangesRow.make) = true := by kernel_rfl
theorem jCh_make : (Tryz.prog.make == some Rows.planeChangesRow.make) = true := (congrArg (fun b => (b == some Rows.planeChangesRow.make)) make_is).trans jCh_make0
theorem jCh_kinds : (Rows.planeChangesRow.kinds == (if Rows.planeChangesRow.domain.isEmpty then [] else Tryz.f18.params.toList.map fun t => match Tryz.prog.underlying t with | some (.int k) => some k | _ => none)) = true := by kernel_rfl
theorem jCh_pin : (Rows.planeChangesRow.pinned == Rows.planeChangesRow.pinnedBy) = true := by kernel_rfl
theorem jCh_veil : (Rows.planeChangesRow.veiled == (Tryz.f18.params.toList ++ Rows.planeChangesSpec.plain.varTypes Tryz.prog ++ Tryz.f18.resultTypes.toList).any (Tryz.prog.veiledRec ·)) = true := by kernel_rfl
theorem jCh_vfit : Rows.planeChangesRow.veiledFits Tryz.prog Tryz.f18.params.toList (Tryz.f18.params.toList ++ Rows.planeChangesSpec.plain.varTypes Tryz.prog ++ Tryz.f18.resultTypes.toList) = true := by kernel_rfl
theorem jCh_closed : joinedFacts Tryz.prog 18 Tryz.f18 Rows.planeChangesSpec Rows.planeChangesRow = true := (b_and (b_and (b_and (b_and (b_and (b_and (b_and (b_and (b_and (b_and (b_and (b_and (b_and (b_and (b_and (b_and (b_and (b_and (b_and (b_and (b_and (b_and (b_and (b_and (b_and (b_and (b_and (b_and (b_and (b_and (b_and jCh_wf jp_laid) jp_rowed) jCh_par) jCh_tie) jCh_st) jp_stops) jCh_kn) jp_knobs) jCh_inp) jCh_unf) jCh_rec) jCh_nam) jCh_maps) jCh_ifs) jCh_mout) jCh_loops) jCh_wide) jCh_vars) jCh_res) jCh_iout) jCh_lout) jCh_plain) jCh_short) jp_heard) jp_enter) jCh_lift) jCh_make) jCh_kinds) jCh_pin) jCh_veil) jCh_vfit)
theorem jCh_name : Tryz.prog.funcNamed Rows.planeChangesRow.func = some 18 := by kernel_rfl
theorem jCh_inst : Tryz.f18.isInstance Tryz.prog Rows.planeChangesRow.origin Rows.planeChangesRow.targs := of_decide_eq_true (by kernel_rfl)
theorem jCh_wrap : Tryz.f18.isWrapper Tryz.prog Rows.planeChangesRow.wrapper Rows.planeChangesRow.mainSum := by unfold Func.isWrapper; rw [if_neg (by decide +kernel)]; exact ⟨rfl, rfl⟩

set_option maxHeartbeats 2000000 in
theorem jCh_lifted (os : Os) (started : os.Started) (H : Type) (enc : TypeId × Value → H) :
    ReturnsInHanded {} Tryz.checked os 18 .any (Rows.planeChangesSpec.pre6 enc Tryz.prog Tryz.f18 Rows.planeChangesRow.domain false) (Rows.planeChangesSpec.post enc Tryz.prog Tryz.f18 false true false false) := by
  refine returnsInHanded_of_change (C := Tryz.checked) own_knob started (by kernel_rfl) Tryz.func18
    (ChangeSpec.witness6 (enc := enc) (C := Tryz.checked) false ⟨#[], #[.slice none 0 0, .int .i64 0, .int .i64 0], []⟩ 8 (by kernel_rfl) (by kernel_rfl) (by kernel_rfl) (by kernel_rfl)) ?_
  intro W base args ds gs before hval0 hW hcnd _
  have hval : ∀ (j : Nat) t v, Tryz.f18.params[j]? = some t → args[j]? = some v → Value.okWide Tryz.prog W .any base t v := hval0
  have hW' := hW
  obtain ⟨p, q, hA0, hV, rfl, hfz, hnd⟩ := hW
  have hA : DataW.TrodAll enc Tryz.prog W 0 (fun _ => true) true Tryz.f18.params.toList args.toList ds p := hA0
  rw [Tryz.params18] at hA hval
  obtain ⟨v0, vs0, d0, ds0, p0, q0, hargs, rfl, rfl, h0, r0⟩ := trodAll_cons hA
  obtain ⟨v1, vs1, d1, ds1, p1, q1, rfl, rfl, rfl, h1, r1⟩ := trodAll_cons r0
  obtain ⟨v2, vs2, d2, ds2, p2, q2, rfl, rfl, rfl, h2, r2⟩ := trodAll_cons r1
  obtain ⟨rfl, rfl, rfl⟩ := trodAll_nil r2
  obtain rfl : args = #[v0, v1, v2] := by cases args; simp_all
  obtain ⟨rfl, rfl⟩ := trodVars_none hV
  have hlt : ∀ x ∈ p0 ++ p1 ++ p2, x.block < W.heap.size := fun x hx => hW'.lt x (by simpa using hx)
  have g0 := h0
  obtain ⟨av0, n0, cap0, l0, rfl, hl0, hp0⟩ := open_pts (hval 0 40 v0 rfl rfl) h0
  have g1 := h1
  obtain ⟨x1, rfl, hx1⟩ := open_int (hval 1 3 v1 rfl rfl) h1
  have g2 := h2
  obtain ⟨x2, rfl, hx2⟩ := open_int (hval 2 3 v2 rfl rfl) h2
  clear hA0 hval0 hval
  refine (planeChanges_all W av0 n0 cap0 l0 hl0 hp0 x1 hx1 x2 hx2).mono fun e W' ⟨he, hg⟩ => ?_
  subst he
  have t2 := Below.trod laidOut (by kernel_rfl) (of_decide_eq_true (by kernel_rfl)) g2 hg.below (fun x hx => hlt x (by simp [hx]))
  have t1 := Below.trod laidOut (by kernel_rfl) (of_decide_eq_true (by kernel_rfl)) g1 hg.below (fun x hx => hlt x (by simp [hx]))
  have t0 := Below.trod laidOut (by kernel_rfl) (of_decide_eq_true (by kernel_rfl)) g0 hg.below (fun x hx => hlt x (by simp [hx]))
  exact ⟨_, rfl, _, _, _, _, _, _, hW', trodAll_cons_mk (shut_bool Tryz.underlying4 _) trodAll_mk0, trodAll_cons_mk t0 (trodAll_cons_mk t1 (trodAll_cons_mk t2 trodAll_mk0)), rfl, hg.below.frame _, fun h => by cases h⟩

/-- PlaneChanges, as it is given -/
theorem planeChanges_proved : Rows.PlaneChangesSaid :=
  OpenClaim.holds_of_wide 18 Tryz.f18 rfl rfl rfl rfl rfl rfl rfl ⟨rfl, rfl, rfl, rfl, rfl⟩ rfl rfl rfl rfl rfl jCh_name Tryz.func18 jCh_closed jCh_inst jCh_wrap
    (fun os started H enc _ => jCh_lifted os started H enc)

end Go.Proofs.YtpdfbboagaflhaaGreat
