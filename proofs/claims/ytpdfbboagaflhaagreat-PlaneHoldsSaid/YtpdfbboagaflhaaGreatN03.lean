/- How two segments meet, as meet and Meet of the reference return it. -/
import Derived.Test.YtpdfbboagaflhaaGreatN01
import Derived.Test.YtpdfbboagaflhaaGreatM21
import Derived.Deep.RegionHeld3
import Derived.Deep.RegionWith
import Derived.BigRegion
import Derived.LoopTactic
import Derived.Deep.AppendLies
import Derived.Deep.RegionLaw

set_option linter.unusedSimpArgs false
set_option linter.unusedVariables false
set_option maxRecDepth 100000
namespace Go.Proofs.YtpdfbboagaflhaaGreat
open Go.RowKit

def fourP (a b c d e f g h : Int) : List P2 := [(a, b), (c, d), (e, f), (g, h)]
def endTo (a b c d e f g h : Int) (k : Nat) : List P2 := ((fourP a b c d e f g h).take k).foldl (endStep a b c d e f g h) []
theorem endTo_succ (a b c d e f g h : Int) (k : Nat) (hk : k < 4) : endTo a b c d e f g h (k + 1) = endStep a b c d e f g h (endTo a b c d e f g h k) (px (fourP a b c d e f g h) k, py (fourP a b c d e f g h) k) := by
  unfold endTo
  rw [take_snoc _ _ (by simpa [fourP] using hk), List.foldl_append]; rfl
theorem endTo_le (a b c d e f g h : Int) : ∀ k, k ≤ 4 → (endTo a b c d e f g h k).length ≤ k
  | 0, _ => by simp [endTo]
  | k + 1, hk => by
    have := endTo_le a b c d e f g h k (by omega)
    rw [endTo_succ _ _ _ _ _ _ _ _ _ (by omega), endStep]
    split <;> simp <;> omega
theorem endTo_four (a b c d e f g h : Int) : endTo a b c d e f g h 4 = endsL a b c d e f g h := rfl
theorem four_bd {a b c d e f g h : Int} (ha : 0 ≤ a ∧ a ≤ 10000) (hb : 0 ≤ b ∧ b ≤ 10000) (hc : 0 ≤ c ∧ c ≤ 10000) (hd : 0 ≤ d ∧ d ≤ 10000) (he : 0 ≤ e ∧ e ≤ 10000) (hf : 0 ≤ f ∧ f ≤ 10000) (hg : 0 ≤ g ∧ g ≤ 10000) (hh : 0 ≤ h ∧ h ≤ 10000) (k : Nat) :
    (-40000 ≤ px (fourP a b c d e f g h) k ∧ px (fourP a b c d e f g h) k ≤ 40000) ∧ (-40000 ≤ py (fourP a b c d e f g h) k ∧ py (fourP a b c d e f g h) k ≤ 40000) := by
  match k with
  | 0 => simp [px, py, fourP]; omega
  | 1 => simp [px, py, fourP]; omega
  | 2 => simp [px, py, fourP]; omega
  | 3 => simp [px, py, fourP]; omega
  | k + 4 => simp [px, py, fourP]
/-- whether a point lies among the first m of a list -/
def inTo (l : List P2) (x y : Int) (m : Nat) : Bool := (l.take m).contains (x, y)
theorem inTo_succ (l : List P2) (x y : Int) (m : Nat) (h : m < l.length) : inTo l x y (m + 1) = (inTo l x y m || (px l m == x && py l m == y)) := by
  unfold inTo
  rw [take_snoc l m h, List.contains_append]
  congr 1
  simp only [List.contains_cons, List.contains_nil, Bool.or_false]
  rw [Bool.eq_iff_iff]; simp; constructor <;> (rintro ⟨h1, h2⟩; exact ⟨h1.symm, h2.symm⟩)
theorem inTo_all (l : List P2) (x y : Int) (m : Nat) (h : l.length ≤ m) : inTo l x y m = l.contains (x, y) := by unfold inTo; rw [List.take_of_length_le h]

theorem own_low {w : World} {B B' e size n : Nat} {v : Value} {xs : List Value} (h : w.ownsRow B e size v n xs) (hB : B' ≤ B) : w.ownsRow B' e size v n xs := by
  obtain ⟨h1, h2⟩ := h
  refine ⟨h1, ?_⟩
  rcases h2 with h3 | ⟨g, cap, cur, rfl, hg⟩
  · exact .inl h3
  · exact .inr ⟨g, cap, cur, rfl, Nat.le_trans hB hg.1, hg.2⟩

theorem own_form {w : World} {B : Nat} {v : Value} {l : List P2} (h : w.ownsRow B 23 2 v l.length (ptCells l)) : ∃ av cap, v = .slice av l.length cap ∧ (0 < l.length → ∃ g, av = some ⟨g, 0, none⟩ ∧ Pts w g 0 l.length l) := by
  have h0 := h
  obtain ⟨h1, h2⟩ := h
  rcases h2 with ⟨rfl, h3⟩ | ⟨g, cap, cur, rfl, hg⟩
  · exact ⟨none, 0, by rw [h3], fun hh => absurd hh (by omega)⟩
  · exact ⟨_, cap, rfl, fun _ => ⟨g, rfl, pts_own h0 rfl⟩⟩

set_option maxHeartbeats 8000000 in
theorem ref_ends (a b c d e f g h : Int) (w : World) (ha : 0 ≤ a ∧ a ≤ 10000) (hb : 0 ≤ b ∧ b ≤ 10000) (hc : 0 ≤ c ∧ c ≤ 10000) (hd : 0 ≤ d ∧ d ≤ 10000) (he : 0 ≤ e ∧ e ≤ 10000) (hf : 0 ≤ f ∧ f ≤ 10000) (hg : 0 ≤ g ∧ g ≤ 10000) (hh : 0 ≤ h ∧ h ≤ 10000) :
    Calls Tryz.prog 95 #[sv a b c d, sv e f g h] w fun en w' => ∃ v, en = .returned v ∧ w'.ownsRow w.heap.size 23 2 v (endsL a b c d e f g h).length (ptCells (endsL a b c d e f g h)) ∧ New w w' := by
  obtain ⟨i0, hi, hz0, hz1, hz2⟩ := info_parts info23
  have HBD := Lib.hid (four_bd ha hb hc hd he hf hg hh)
  have HON1 := Lib.hid (fun (p q : Int) (w1 : World) (hp : -40000 ≤ p ∧ p ≤ 40000) (hq : -40000 ≤ q ∧ q ≤ 40000) => ref_on p q a b c d w1 hp hq (by omega) (by omega) (by omega) (by omega))
  have HON2 := Lib.hid (fun (p q : Int) (w1 : World) (hp : -40000 ≤ p ∧ p ≤ 40000) (hq : -40000 ≤ q ∧ q ≤ 40000) => ref_on p q e f g h w1 hp hq (by omega) (by omega) (by omega) (by omega))
  go_enter Tryz.func95, Tryz.ntmps95
  go_wp2_with fail
  generalize hwo : ((w.alloc _).alloc _).alloc _ = wo
  have HNO := Lib.hid (show New w wo by rw [← hwo]; (repeat (first | exact New.refl _ | apply New.alloc | apply New.aft | apply New.drew | refine New.setCell ?_ ?_ _)))
  have HPO := Lib.hid (show Pts wo (w.heap.size + 1 + 1) 0 4 (fourP a b c d e f g h) by rw [← hwo]; exact pts4 _ _ _ _ _ _ _ _ _ _ (by simp [go_sem]))
  have z1 : w.heap.size < wo.heap.size := by rw [← hwo]; simp [go_sem]
  have z2 : w.heap.size + 1 < wo.heap.size := by rw [← hwo]; simp [go_sem]
  have s1 : wo.cell? ⟨w.heap.size, 0, none⟩ = some (.int .i64 a) := by rw [← hwo]; simp [go_sem]
  have s2 : wo.cell? ⟨w.heap.size, 1, none⟩ = some (.int .i64 b) := by rw [← hwo]; simp [go_sem]
  have s3 : wo.cell? ⟨w.heap.size, 2, none⟩ = some (.int .i64 c) := by rw [← hwo]; simp [go_sem]
  have s4 : wo.cell? ⟨w.heap.size, 3, none⟩ = some (.int .i64 d) := by rw [← hwo]; simp [go_sem]
  have t1 : wo.cell? ⟨w.heap.size + 1, 0, none⟩ = some (.int .i64 e) := by rw [← hwo]; simp [go_sem]
  have t2 : wo.cell? ⟨w.heap.size + 1, 1, none⟩ = some (.int .i64 f) := by rw [← hwo]; simp [go_sem]
  have t3 : wo.cell? ⟨w.heap.size + 1, 2, none⟩ = some (.int .i64 g) := by rw [← hwo]; simp [go_sem]
  have t4 : wo.cell? ⟨w.heap.size + 1, 3, none⟩ = some (.int .i64 h) := by rw [← hwo]; simp [go_sem]
  clear hwo
  obtain ⟨hPl, hPb, hPc⟩ := HPO.out
  clear hPl
  go_loopw [5, 7] (fun v i wr => ∃ k : Nat, k ≤ 4 ∧ i = .int .i64 k ∧ wr.ownsRow wo.heap.size 23 2 v (endTo a b c d e f g h k).length (ptCells (endTo a b c d e f g h k)) ∧ New wo wr) (fun _ i _ => 4 - (intOf i).toNat)
  case atStart => exact ⟨0, Nat.zero_le _, rfl, World.ownsRow_nil _ _ _ _, New.refl _⟩
  case round =>
    obtain ⟨k, hk, rfl, hown, pr, rfl⟩ := hrel
    have HNR0 := Lib.hid (show New wo (Aft wo pr.d pr.os) from ⟨pr, rfl⟩)
    generalize Aft wo pr.d pr.os = wk at *
    have HNR := HNR0
    clear HNR0
    have HO := Lib.hid hown
    obtain ⟨av, cap, rfl, hav⟩ := own_form hown
    have HAV := Lib.hid hav
    clear hown hav
    have zz1 : w.heap.size < wk.heap.size := Nat.lt_of_lt_of_le z1 HNR.out.size
    have zz2 : w.heap.size + 1 < wk.heap.size := Nat.lt_of_lt_of_le z2 HNR.out.size
    have zz3 : w.heap.size + 1 + 1 < wk.heap.size := Nat.lt_of_lt_of_le hPb HNR.out.size
    have ss1 := (HNR.out.cell z1).trans s1
    have ss2 := (HNR.out.cell z1).trans s2
    have ss3 := (HNR.out.cell z1).trans s3
    have ss4 := (HNR.out.cell z1).trans s4
    have tt1 := (HNR.out.cell z2).trans t1
    have tt2 := (HNR.out.cell z2).trans t2
    have tt3 := (HNR.out.cell z2).trans t3
    have tt4 := (HNR.out.cell z2).trans t4
    by_cases hlt : k < 4
    · obtain ⟨c1, c2⟩ := hPc k hlt
      simp only [Nat.zero_add] at c1 c2
      have cc1 := (HNR.out.cell hPb).trans c1
      have cc2 := (HNR.out.cell hPb).trans c2
      clear c1 c2
      have hle := endTo_le a b c d e f g h k (by omega)
      have HS := Lib.hid (endTo_succ a b c d e f g h k hlt)
      have b1 := HBD.out k
      have H1 := Lib.hid (fun w1 : World => HON1.out (px (fourP a b c d e f g h) k) (py (fourP a b c d e f g h) k) w1 b1.1 b1.2)
      have H2 := Lib.hid (fun w1 : World => HON2.out (px (fourP a b c d e f g h) k) (py (fourP a b c d e f g h) k) w1 b1.1 b1.2)
      have hk4 : (k : Int) < 4 := by omega
      have HB := Lib.hid (show bothB a b c d e f g h (px (fourP a b c d e f g h) k, py (fourP a b c d e f g h) k) = (onR (px (fourP a b c d e f g h) k) (py (fourP a b c d e f g h) k) a b c d && onR (px (fourP a b c d e f g h) k) (py (fourP a b c d e f g h) k) e f g h) from rfl)
      clear b1
      generalize onR (px (fourP a b c d e f g h) k) (py (fourP a b c d e f g h) k) a b c d = S at *
      generalize onR (px (fourP a b c d e f g h) k) (py (fourP a b c d e f g h) k) e f g h = T at *
      generalize hX : px (fourP a b c d e f g h) k = X at *
      generalize hY : py (fourP a b c d e f g h) k = Y at *
      generalize hE : endTo a b c d e f g h k = E at *
      clear hX hY hE
      go_wp2_with fail
      first | refine wp_region_at2 (by kernel_rfl) (by kernel_rfl) ?_ | refine wp_region_at (by kernel_rfl) (by kernel_rfl) ?_
      repeat (go_big_quiet_step ((go_at_call 91; exact calls_new (H1.out _))))
      refine wpQuiet_nil ?_
      rintro _ ⟨q1, rfl⟩
      go_wp2_with fail
      first | refine wp_region_at2 (by kernel_rfl) (by kernel_rfl) ?_ | refine wp_region_at (by kernel_rfl) (by kernel_rfl) ?_
      repeat (go_big_quiet_step ((go_at_call 91; exact calls_new (H2.out _))))
      refine wpQuiet_nil ?_
      rintro _ ⟨q2, rfl⟩
      go_wp2_with fail
      go_loopw [10, 11] (fun u i wr => ∃ j : Nat, j ≤ E.length ∧ i = .int .i64 j ∧ u = .bool (inTo E X Y j) ∧ New wk wr) (fun _ i _ => E.length - (intOf i).toNat)
      case atStart => exact ⟨0, Nat.zero_le _, rfl, by simp [inTo], ⟨q2, rfl⟩⟩
      case round =>
        obtain ⟨j, hj, rfl, rfl, pj, rfl⟩ := hrel
        by_cases hjl : j < E.length
        · obtain ⟨gE, rfl, _, hgb, hgc⟩ := HAV.out (by omega)
          obtain ⟨d1, d2⟩ := hgc j hjl
          simp only [Nat.zero_add] at d1 d2
          have HIN := Lib.hid (inTo_succ E X Y j hjl)
          have hj1 : (j : Int) < (E.length : Int) := by omega
          cases hin : inTo E X Y j
          · rw [hin, Bool.false_or] at HIN
            cases hx : (px E j == X) <;> cases hy : (py E j == Y)
            all_goals
              rw [hx, hy] at HIN
              have HX := Lib.hid hx
              have HY := Lib.hid hy
              simp only [beq_eq_false_iff_ne, beq_iff_eq, ne_eq] at hx hy
              go_wp2_with fail
              first | refine wp_region_at2 (by kernel_rfl) (by kernel_rfl) ?_ | refine wp_region_at (by kernel_rfl) (by kernel_rfl) ?_
              repeat (go_big_quiet_step (fail))
              refine wpQuiet_nil ?_
              rintro _ ⟨q3, rfl⟩
              go_wp2_with fail
              go_roundw
              case rel => exact ⟨j + 1, by omega, by go_num, by rw [HIN.out]; rfl, (New.refl _).aft _ _⟩
              case measure => simp [intOf]; omega
          · rw [hin, Bool.true_or] at HIN
            go_wp2_with fail
            first | refine wp_region_at2 (by kernel_rfl) (by kernel_rfl) ?_ | refine wp_region_at (by kernel_rfl) (by kernel_rfl) ?_
            repeat (go_big_quiet_step (fail))
            refine wpQuiet_nil ?_
            rintro _ ⟨q3, rfl⟩
            go_wp2_with fail
            go_roundw
            case rel => exact ⟨j + 1, by omega, by go_num, by rw [HIN.out], (New.refl _).aft _ _⟩
            case measure => simp [intOf]; omega
        · have HIA := Lib.hid (inTo_all E X Y j (by omega))
          have hj2 : ¬ ((j : Int) < (E.length : Int)) := by omega
          rw [endStep, HB.out, ← HIA.out] at HS
          generalize inTo E X Y j = IN at *
          cases S
          · go_wp2_with fail
            go_roundw
            case rel => exact ⟨k + 1, by omega, by go_num, by rw [HS.out]; exact own_new HO.out ((New.refl _).aft _ _), HNR.out.trans ((New.refl _).aft _ _)⟩
            case measure => simp [intOf]; omega
          · cases T
            · go_wp2_with fail
              go_roundw
              case rel => exact ⟨k + 1, by omega, by go_num, by rw [HS.out]; exact own_new HO.out ((New.refl _).aft _ _), HNR.out.trans ((New.refl _).aft _ _)⟩
              case measure => simp [intOf]; omega
            · cases IN
              · have hlen : ∀ w0 : World, Sem.run Tryz.prog (Builtin.len_ #[40] 3 #[Value.slice av E.length cap]) w0 = .ok (.int .i64 (E.length : Int)) w0 := fun _ => rfl
                generalize hvv : Value.slice av E.length cap = vv at *
                clear hvv HAV
                go_wp2_with (at_builtin; refine wpList_append_lies _ rfl (.tmp 65) (.tmp 70) 40 rfl wo.heap.size 23 i0 _ 2 16 Tryz.underlying40 hi hz0 hz1 hz2 rfl (by omega) vv E.length (ptCells E) rfl ?_ _ 1 1 [.int .i64 X, .int .i64 Y] rfl rfl ?_ ?_ (by omega) ?_ ?_ ?_ _ rfl ?_; exact own_new HO.out (by (repeat (first | exact New.refl _ | apply New.alloc | apply New.aft | apply New.drew | refine New.setCell ?_ ?_ _)); all_goals (first | done | (simp [size_aft]; done) | (simp [size_aft]; omega))); (refine cells_new _ _ _ _ ?_); (simp [go_sem]); (intro u hu; simp at hu; rcases hu with rfl | rfl <;> rfl); (unfold maxLen; omega); omega; (have hsz := HNR.out.size; simp [go_sem]; omega); intro gg cap2 w2 hown2 hgrow2 hor2 hlt2; have HNW := Lib.hid (show New wo w2 from new_grown (HNR.out.trans (by (repeat (first | exact New.refl _ | apply New.alloc | apply New.aft | apply New.drew | refine New.setCell ?_ ?_ _)); all_goals (first | done | (simp [size_aft]; done) | (simp [size_aft]; omega)))) hgrow2 HO.out); have HO2 := Lib.hid hown2; clear hown2 hgrow2 hor2 hlt2)
                go_roundw
                case rel => exact ⟨k + 1, by omega, by go_num, by rw [HS.out]; simp only [Bool.and_self, Bool.not_false, if_true, ptCells_snoc, List.length_append, List.length_cons, List.length_nil]; exact HO2.out, HNW.out⟩
                case measure => simp [intOf]; omega
              · go_wp2_with fail
                go_roundw
                case rel => exact ⟨k + 1, by omega, by go_num, by rw [HS.out]; exact own_new HO.out ((New.refl _).aft _ _), HNR.out.trans ((New.refl _).aft _ _)⟩
                case measure => simp [intOf]; omega
    · obtain rfl : k = 4 := by omega
      go_wp2_with fail
      go_ret
      exact ⟨_, rfl, own_low HO.out HNO.out.size, HNO.out.trans HNR.out⟩

end Go.Proofs.YtpdfbboagaflhaaGreat

set_option linter.unusedSimpArgs false
set_option linter.unusedVariables false
set_option maxRecDepth 100000
namespace Go.Proofs.YtpdfbboagaflhaaGreat
open Go.RowKit

section
variable {a b c d e f g h : Int}
theorem meetR_nil (hE : endsL a b c d e f g h = []) : meetR a b c d e f g h = if turnI a b c d e f * turnI a b c d g h < 0 ∧ turnI e f g h a b * turnI e f g h c d < 0 then 3 else 0 := by rw [meetR, hE]; rfl
theorem meetR_one {p : P2} (hE : endsL a b c d e f g h = [p]) : meetR a b c d e f g h = if (p = (a, b) ∨ p = (c, d)) ∧ (p = (e, f) ∨ p = (g, h)) then 1 else 2 := by rw [meetR, hE]; rfl
theorem meetR_two {p q : P2} {r : List P2} (hE : endsL a b c d e f g h = p :: q :: r) : meetR a b c d e f g h = 4 := by rw [meetR, hE]; rfl
end

set_option maxHeartbeats 8000000 in
theorem ref_meet (a b c d e f g h : Int) (w : World) (ha : 0 ≤ a ∧ a ≤ 10000) (hb : 0 ≤ b ∧ b ≤ 10000) (hc : 0 ≤ c ∧ c ≤ 10000) (hd : 0 ≤ d ∧ d ≤ 10000) (he : 0 ≤ e ∧ e ≤ 10000) (hf : 0 ≤ f ∧ f ≤ 10000) (hg : 0 ≤ g ∧ g ≤ 10000) (hh : 0 ≤ h ∧ h ≤ 10000) :
    Calls Tryz.prog 97 #[sv a b c d, sv e f g h] w fun en w' => en = .returned (.int .u8 (meetR a b c d e f g h)) ∧ New w w' := by
  have HE := Lib.hid (fun w1 : World => ref_ends a b c d e f g h w1 ha hb hc hd he hf hg hh)
  rcases hE : endsL a b c d e f g h with _ | ⟨p, _ | ⟨p2, r⟩⟩
  · have HV := Lib.hid (meetR_nil hE)
    rw [hE] at HE
    have HA := Lib.hid (fun w1 : World => ref_turn a b c d e f w1 (by omega) (by omega) (by omega) (by omega) (by omega) (by omega))
    have HB := Lib.hid (fun w1 : World => ref_turn a b c d g h w1 (by omega) (by omega) (by omega) (by omega) (by omega) (by omega))
    have HC := Lib.hid (fun w1 : World => ref_turn e f g h a b w1 (by omega) (by omega) (by omega) (by omega) (by omega) (by omega))
    have HD := Lib.hid (fun w1 : World => ref_turn e f g h c d w1 (by omega) (by omega) (by omega) (by omega) (by omega) (by omega))
    have m1 := m_bd _ _ (turnI_bd a b c d e f) (turnI_bd a b c d g h)
    have m2 := m_bd _ _ (turnI_bd e f g h a b) (turnI_bd e f g h c d)
    generalize turnI a b c d e f = A1 at *
    generalize turnI a b c d g h = A2 at *
    generalize turnI e f g h a b = B1 at *
    generalize turnI e f g h c d = B2 at *
    have w1 : IntKind.i64.wrap (A1 * A2) = A1 * A2 := IntWalk.i64_in _ (by omega)
    have w2 : IntKind.i64.wrap (B1 * B2) = B1 * B2 := IntWalk.i64_in _ (by omega)
    clear hE ha hb hc hd he hf hg hh
    by_cases h1 : A1 * A2 < 0
    · by_cases h2 : B1 * B2 < 0
      · rw [show (meetR a b c d e f g h) = 3 by rw [HV.out, if_pos ⟨h1, h2⟩]]
        go_enter Tryz.func97, Tryz.ntmps97
        go_wp2_with (go_at_call 95; refine (HE.out _).mono ?_; rintro en w1 ⟨v, rfl, hown, pw, rfl⟩; obtain ⟨av, cap, rfl, _⟩ := own_form hown; clear hown)
        first | refine wp_region_at2 (by kernel_rfl) (by kernel_rfl) ?_ | refine wp_region_at (by kernel_rfl) (by kernel_rfl) ?_
        repeat (go_big_quiet_step (first | (go_at_call 87; with_reducible exact calls_new (HA.out _)) | (go_at_call 87; with_reducible exact calls_new (HB.out _)) | (go_at_call 87; with_reducible exact calls_new (HC.out _)) | (go_at_call 87; with_reducible exact calls_new (HD.out _))))
        refine wpQuiet_nil ?_
        rintro _ ⟨q, rfl⟩
        go_wp2_with fail
        all_goals (go_ret; refine ⟨rfl, ?_⟩; (repeat (first | exact New.refl _ | apply New.alloc | apply New.aft | apply New.drew | refine New.setCell ?_ ?_ _)); all_goals (first | done | (simp [size_aft]; done) | (simp [size_aft]; omega)))
      · rw [show (meetR a b c d e f g h) = 0 by rw [HV.out, if_neg (fun x => h2 x.2)]]
        have hd2 : decide (B1 * B2 < 0) = false := by simpa using h2
        go_enter Tryz.func97, Tryz.ntmps97
        go_wp2_with (go_at_call 95; refine (HE.out _).mono ?_; rintro en w1 ⟨v, rfl, hown, pw, rfl⟩; obtain ⟨av, cap, rfl, _⟩ := own_form hown; clear hown)
        first | refine wp_region_at2 (by kernel_rfl) (by kernel_rfl) ?_ | refine wp_region_at (by kernel_rfl) (by kernel_rfl) ?_
        repeat (go_big_quiet_step (first | (go_at_call 87; with_reducible exact calls_new (HA.out _)) | (go_at_call 87; with_reducible exact calls_new (HB.out _)) | (go_at_call 87; with_reducible exact calls_new (HC.out _)) | (go_at_call 87; with_reducible exact calls_new (HD.out _))))
        refine wpQuiet_nil ?_
        rintro _ ⟨q, rfl⟩
        go_wp2_with fail
        all_goals (go_ret; refine ⟨rfl, ?_⟩; (repeat (first | exact New.refl _ | apply New.alloc | apply New.aft | apply New.drew | refine New.setCell ?_ ?_ _)); all_goals (first | done | (simp [size_aft]; done) | (simp [size_aft]; omega)))
    · rw [show (meetR a b c d e f g h) = 0 by rw [HV.out, if_neg (fun x => h1 x.1)]]
      have hd1 : decide (A1 * A2 < 0) = false := by simpa using h1
      go_enter Tryz.func97, Tryz.ntmps97
      go_wp2_with (go_at_call 95; refine (HE.out _).mono ?_; rintro en w1 ⟨v, rfl, hown, pw, rfl⟩; obtain ⟨av, cap, rfl, _⟩ := own_form hown; clear hown)
      first | refine wp_region_at2 (by kernel_rfl) (by kernel_rfl) ?_ | refine wp_region_at (by kernel_rfl) (by kernel_rfl) ?_
      repeat (go_big_quiet_step (first | (go_at_call 87; with_reducible exact calls_new (HA.out _)) | (go_at_call 87; with_reducible exact calls_new (HB.out _)) | (go_at_call 87; with_reducible exact calls_new (HC.out _)) | (go_at_call 87; with_reducible exact calls_new (HD.out _))))
      refine wpQuiet_nil ?_
      rintro _ ⟨q, rfl⟩
      go_wp2_with fail
      all_goals (go_ret; refine ⟨rfl, ?_⟩; (repeat (first | exact New.refl _ | apply New.alloc | apply New.aft | apply New.drew | refine New.setCell ?_ ?_ _)); all_goals (first | done | (simp [size_aft]; done) | (simp [size_aft]; omega)))
  · have HV := Lib.hid (meetR_one hE)
    rw [hE] at HE
    clear hE ha hb hc hd he hf hg hh
    obtain ⟨x, y⟩ := p
    simp only [Prod.mk.injEq] at HV
    go_enter Tryz.func97, Tryz.ntmps97
    go_wp2_with (go_at_call 95; refine (HE.out _).mono ?_; rintro en w1 ⟨v, rfl, hown, hnew⟩; obtain ⟨av, cap, rfl, hav⟩ := own_form hown; obtain ⟨gE, rfl, _, hgb, hgc⟩ := hav (by simp); obtain ⟨e1, e2⟩ := hgc 0 (by simp); have d1 : w1.cell? ⟨gE, 0, none⟩ = some (.int .i64 x) := (by simpa [px] using e1); have d2 : w1.cell? ⟨gE, 1, none⟩ = some (.int .i64 y) := (by simpa [py] using e2); clear e1 e2; have z1 : w.heap.size < w1.heap.size := (by have := hnew.size; simp [go_sem] at this; omega); have z2 : w.heap.size + 1 < w1.heap.size := (by have := hnew.size; simp [go_sem] at this; omega); have s1 : w1.cell? ⟨w.heap.size, 0, none⟩ = some (.int .i64 a) := (by rw [hnew.cell (by simp [go_sem])]; simp [go_sem]); have s2 : w1.cell? ⟨w.heap.size, 1, none⟩ = some (.int .i64 b) := (by rw [hnew.cell (by simp [go_sem])]; simp [go_sem]); have s3 : w1.cell? ⟨w.heap.size, 2, none⟩ = some (.int .i64 c) := (by rw [hnew.cell (by simp [go_sem])]; simp [go_sem]); have s4 : w1.cell? ⟨w.heap.size, 3, none⟩ = some (.int .i64 d) := (by rw [hnew.cell (by simp [go_sem])]; simp [go_sem]); have t1 : w1.cell? ⟨w.heap.size + 1, 0, none⟩ = some (.int .i64 e) := (by rw [hnew.cell (by simp [go_sem])]; simp [go_sem]); have t2 : w1.cell? ⟨w.heap.size + 1, 1, none⟩ = some (.int .i64 f) := (by rw [hnew.cell (by simp [go_sem])]; simp [go_sem]); have t3 : w1.cell? ⟨w.heap.size + 1, 2, none⟩ = some (.int .i64 g) := (by rw [hnew.cell (by simp [go_sem])]; simp [go_sem]); have t4 : w1.cell? ⟨w.heap.size + 1, 3, none⟩ = some (.int .i64 h) := (by rw [hnew.cell (by simp [go_sem])]; simp [go_sem]); have HNW := Lib.hid (New.trans ((by (repeat (first | exact New.refl _ | apply New.alloc | apply New.aft | apply New.drew | refine New.setCell ?_ ?_ _)); all_goals (first | done | (simp [size_aft]; done) | (simp [size_aft]; omega))) : New w _) hnew); clear hown hav hgc hnew)
    all_goals (go_ret; refine ⟨ret_int (by rw [HV.out]; split <;> omega), HNW.out.trans ?_⟩; (repeat (first | exact New.refl _ | apply New.alloc | apply New.aft | apply New.drew | refine New.setCell ?_ ?_ _)); all_goals (first | done | (simp [size_aft]; done) | (simp [size_aft]; omega)))
  · have HV := Lib.hid (meetR_two hE)
    rw [hE] at HE
    clear hE ha hb hc hd he hf hg hh
    rw [HV.out]
    have hl : (1 : Int) < ((p :: p2 :: r).length : Int) := by simp; omega
    generalize (p :: p2 :: r) = L at *
    go_enter Tryz.func97, Tryz.ntmps97
    go_wp2_with (go_at_call 95; refine (HE.out _).mono ?_; rintro en w1 ⟨v, rfl, hown, pw, rfl⟩; obtain ⟨av, cap, rfl, _⟩ := own_form hown; clear hown)
    all_goals (go_ret; refine ⟨rfl, ?_⟩; (repeat (first | exact New.refl _ | apply New.alloc | apply New.aft | apply New.drew | refine New.setCell ?_ ?_ _)); all_goals (first | done | (simp [size_aft]; done) | (simp [size_aft]; omega)))

set_option maxHeartbeats 4000000 in
theorem ref_Meet (a b c d e f g h : Int) (w : World) : Calls Tryz.prog 37 #[sv a b c d, sv e f g h] w fun en w' => en = .returned (.int .u8 (MeetI a b c d e f g h)) ∧ New w w' := by
  have H1 := Lib.hid (ref_validSeg a b c d)
  have H2 := Lib.hid (ref_validSeg e f g h)
  by_cases k1 : okS a b c d = true
  · by_cases k2 : okS e f g h = true
    · obtain ⟨⟨ha, hb⟩, ⟨hc, hd⟩, _⟩ := okS_iff.1 k1
      obtain ⟨⟨he, hf⟩, ⟨hg, hh⟩, _⟩ := okS_iff.1 k2
      have HM := Lib.hid (fun w1 : World => ref_meet a b c d e f g h w1 ha hb hc hd he hf hg hh)
      rw [k1] at H1
      rw [k2] at H2
      rw [meet_eq k1 k2, show meetI a b c d e f g h = MeetI a b c d e f g h from (if_pos ⟨k1, k2⟩).symm] at HM
      clear k1 k2 ha hb hc hd he hf hg hh
      generalize MeetI a b c d e f g h = K at *
      go_enter Tryz.func37, Tryz.ntmps37
      go_wp2_with (first | (go_at_call 90; (with_reducible refine (H1.out _).mono ?_); rintro en w1 ⟨rfl, pw, rfl⟩) | (go_at_call 90; (with_reducible refine (H2.out _).mono ?_); rintro en w1 ⟨rfl, pw, rfl⟩) | (go_at_call 97; refine (HM.out _).mono ?_; rintro en w1 ⟨rfl, pw, rfl⟩))
      all_goals (go_ret; refine ⟨rfl, ?_⟩; (repeat (first | exact New.refl _ | apply New.alloc | apply New.aft | apply New.drew | refine New.setCell ?_ ?_ _)); all_goals (first | done | (simp [size_aft]; done) | (simp [size_aft]; omega)))
    · rw [show MeetI a b c d e f g h = 0 from if_neg (fun x => k2 x.2)]
      rw [show okS e f g h = false by simpa using k2] at H2
      rw [k1] at H1
      clear k1 k2
      go_enter Tryz.func37, Tryz.ntmps37
      go_wp2_with (first | (go_at_call 90; (with_reducible refine (H1.out _).mono ?_); rintro en w1 ⟨rfl, pw, rfl⟩) | (go_at_call 90; (with_reducible refine (H2.out _).mono ?_); rintro en w1 ⟨rfl, pw, rfl⟩))
      all_goals (go_ret; refine ⟨rfl, ?_⟩; (repeat (first | exact New.refl _ | apply New.alloc | apply New.aft | apply New.drew | refine New.setCell ?_ ?_ _)); all_goals (first | done | (simp [size_aft]; done) | (simp [size_aft]; omega)))
  · rw [show MeetI a b c d e f g h = 0 from if_neg (fun x => k1 x.1)]
    rw [show okS a b c d = false by simpa using k1] at H1
    clear k1
    generalize okS e f g h = B at *
    go_enter Tryz.func37, Tryz.ntmps37
    go_wp2_with (first | (go_at_call 90; (with_reducible refine (H1.out _).mono ?_); rintro en w1 ⟨rfl, pw, rfl⟩) | (go_at_call 90; (with_reducible refine (H2.out _).mono ?_); rintro en w1 ⟨rfl, pw, rfl⟩))
    all_goals (go_ret; refine ⟨rfl, ?_⟩; (repeat (first | exact New.refl _ | apply New.alloc | apply New.aft | apply New.drew | refine New.setCell ?_ ?_ _)); all_goals (first | done | (simp [size_aft]; done) | (simp [size_aft]; omega)))

end Go.Proofs.YtpdfbboagaflhaaGreat
