/- PlaneSweeps returns true for every input, and its arguments read afterwards as before: the given statement, without a condition. -/
import Derived.Test.YtpdfbboagaflhaaGreatS71
import Derived.Test.YtpdfbboagaflhaaGreatS44
import Derived.Test.YtpdfbboagaflhaaGreatS42
import Derived.Test.YtpdfbboagaflhaaGreatS41
import Derived.Test.YtpdfbboagaflhaaGreatM51
import Derived.Test.YtpdfbboagaflhaaGreatM21
import Derived.Deep.RegionHeld3
import Derived.Deep.RegionWith
import Derived.BigRegion
import Derived.LoopTactic
import Derived.Deep.AppendLies
import Derived.Deep.RegionLaw
import Derived.Test.YtpdfbboagaflhaaGreatM19
import Derived.Test.YtpdfbboagaflhaaGreatM48
import Derived.Deep.DeepCutAuto
import Derived.SizedLaws
import Derived.Test.YtpdfbboagaflhaaGreatRows
import Derived.ProofKit
import Derived.OpenShut
import Derived.Lib.SmallJoins
import Derived.Carry

set_option linter.unusedSimpArgs false
set_option linter.unusedVariables false
set_option maxRecDepth 100000
namespace Go.Proofs.YtpdfbboagaflhaaGreat
open Go.RowKit

def fourP (a b c d e f g h : Int) : List P2 := [(a, b), (c, d), (e, f), (g, h)]
def endTo (a b c d e f g h : Int) (k : Nat) : List P2 := ((fourP a b c d e f g h).take k).foldl (endStep a b c d e f g h) []
theorem endTo_succ (a b c d e f g h : Int) (k : Nat) (hk : k < 4) : endTo a b c d e f g h (k + 1) = endStep a b c d e f g h (endTo a b c d e f g h k) (px (fourP a b c d e f g h) k, py (fourP a b c d e f g h) k) := by
  unfold endTo
  rw [take_snoc _ _ (by simpa [fourP] using hk), List.foldl_append]; rfl
theorem endTo_le (a b c d e f g h : Int) : ∀ k, k ≤ 4 → (endTo a b c d e f g h k).length ≤ k
  | 0, _ => by simp [endTo]
  | k + 1, hk => by
    have := endTo_le a b c d e f g h k (by omega)
    rw [endTo_succ _ _ _ _ _ _ _ _ _ (by omega), endStep]
    split <;> simp <;> omega
theorem endTo_four (a b c d e f g h : Int) : endTo a b c d e f g h 4 = endsL a b c d e f g h := rfl
theorem four_bd {a b c d e f g h : Int} (ha : 0 ≤ a ∧ a ≤ 10000) (hb : 0 ≤ b ∧ b ≤ 10000) (hc : 0 ≤ c ∧ c ≤ 10000) (hd : 0 ≤ d ∧ d ≤ 10000) (he : 0 ≤ e ∧ e ≤ 10000) (hf : 0 ≤ f ∧ f ≤ 10000) (hg : 0 ≤ g ∧ g ≤ 10000) (hh : 0 ≤ h ∧ h ≤ 10000) (k : Nat) :
    (-40000 ≤ px (fourP a b c d e f g h) k ∧ px (fourP a b c d e f g h) k ≤ 40000) ∧ (-40000 ≤ py (fourP a b c d e f g h) k ∧ py (fourP a b c d e f g h) k ≤ 40000) := by
  match k with
  | 0 => simp [px, py, fourP]; omega
  | 1 => simp [px, py, fourP]; omega
  | 2 => simp [px, py, fourP]; omega
  | 3 => simp [px, py, fourP]; omega
  | k + 4 => simp [px, py, fourP]
/-- whether a point lies among the first m of a list -/
def inTo (l : List P2) (x y : Int) (m : Nat) : Bool := (l.take m).contains (x, y)
theorem inTo_succ (l : List P2) (x y : Int) (m : Nat) (h : m < l.length) : inTo l x y (m + 1) = (inTo l x y m || (px l m == x && py l m == y)) := by
  unfold inTo
  rw [take_snoc l m h, List.contains_append]
  congr 1
  simp only [List.contains_cons, List.contains_nil, Bool.or_false]
  rw [Bool.eq_iff_iff]; simp; constructor <;> (rintro ⟨h1, h2⟩; exact ⟨h1.symm, h2.symm⟩)
theorem inTo_all (l : List P2) (x y : Int) (m : Nat) (h : l.length ≤ m) : inTo l x y m = l.contains (x, y) := by unfold inTo; rw [List.take_of_length_le h]

theorem own_low {w : World} {B B' e size n : Nat} {v : Value} {xs : List Value} (h : w.ownsRow B e size v n xs) (hB : B' ≤ B) : w.ownsRow B' e size v n xs := by
  obtain ⟨h1, h2⟩ := h
  refine ⟨h1, ?_⟩
  rcases h2 with h3 | ⟨g, cap, cur, rfl, hg⟩
  · exact .inl h3
  · exact .inr ⟨g, cap, cur, rfl, Nat.le_trans hB hg.1, hg.2⟩

theorem own_form {w : World} {B : Nat} {v : Value} {l : List P2} (h : w.ownsRow B 23 2 v l.length (ptCells l)) : ∃ av cap, v = .slice av l.length cap ∧ (0 < l.length → ∃ g, av = some ⟨g, 0, none⟩ ∧ Pts w g 0 l.length l) := by
  have h0 := h
  obtain ⟨h1, h2⟩ := h
  rcases h2 with ⟨rfl, h3⟩ | ⟨g, cap, cur, rfl, hg⟩
  · exact ⟨none, 0, by rw [h3], fun hh => absurd hh (by omega)⟩
  · exact ⟨_, cap, rfl, fun _ => ⟨g, rfl, pts_own h0 rfl⟩⟩

set_option maxHeartbeats 8000000 in
theorem ref_ends (a b c d e f g h : Int) (w : World) (ha : 0 ≤ a ∧ a ≤ 10000) (hb : 0 ≤ b ∧ b ≤ 10000) (hc : 0 ≤ c ∧ c ≤ 10000) (hd : 0 ≤ d ∧ d ≤ 10000) (he : 0 ≤ e ∧ e ≤ 10000) (hf : 0 ≤ f ∧ f ≤ 10000) (hg : 0 ≤ g ∧ g ≤ 10000) (hh : 0 ≤ h ∧ h ≤ 10000) :
    Calls Tryz.prog 95 #[sv a b c d, sv e f g h] w fun en w' => ∃ v, en = .returned v ∧ w'.ownsRow w.heap.size 23 2 v (endsL a b c d e f g h).length (ptCells (endsL a b c d e f g h)) ∧ New w w' := by
  obtain ⟨i0, hi, hz0, hz1, hz2⟩ := info_parts info23
  have HBD := Lib.hid (four_bd ha hb hc hd he hf hg hh)
  have HON1 := Lib.hid (fun (p q : Int) (w1 : World) (hp : -40000 ≤ p ∧ p ≤ 40000) (hq : -40000 ≤ q ∧ q ≤ 40000) => ref_on p q a b c d w1 hp hq (by omega) (by omega) (by omega) (by omega))
  have HON2 := Lib.hid (fun (p q : Int) (w1 : World) (hp : -40000 ≤ p ∧ p ≤ 40000) (hq : -40000 ≤ q ∧ q ≤ 40000) => ref_on p q e f g h w1 hp hq (by omega) (by omega) (by omega) (by omega))
  go_enter Tryz.func95, Tryz.ntmps95
  go_wp2_with fail
  generalize hwo : ((w.alloc _).alloc _).alloc _ = wo
  have HNO := Lib.hid (show New w wo by rw [← hwo]; (repeat (first | exact New.refl _ | apply New.alloc | apply New.aft | apply New.drew | refine New.setCell ?_ ?_ _)))
  have HPO := Lib.hid (show Pts wo (w.heap.size + 1 + 1) 0 4 (fourP a b c d e f g h) by rw [← hwo]; exact pts4 _ _ _ _ _ _ _ _ _ _ (by simp [go_sem]))
  have z1 : w.heap.size < wo.heap.size := by rw [← hwo]; simp [go_sem]
  have z2 : w.heap.size + 1 < wo.heap.size := by rw [← hwo]; simp [go_sem]
  have s1 : wo.cell? ⟨w.heap.size, 0, none⟩ = some (.int .i64 a) := by rw [← hwo]; simp [go_sem]
  have s2 : wo.cell? ⟨w.heap.size, 1, none⟩ = some (.int .i64 b) := by rw [← hwo]; simp [go_sem]
  have s3 : wo.cell? ⟨w.heap.size, 2, none⟩ = some (.int .i64 c) := by rw [← hwo]; simp [go_sem]
  have s4 : wo.cell? ⟨w.heap.size, 3, none⟩ = some (.int .i64 d) := by rw [← hwo]; simp [go_sem]
  have t1 : wo.cell? ⟨w.heap.size + 1, 0, none⟩ = some (.int .i64 e) := by rw [← hwo]; simp [go_sem]
  have t2 : wo.cell? ⟨w.heap.size + 1, 1, none⟩ = some (.int .i64 f) := by rw [← hwo]; simp [go_sem]
  have t3 : wo.cell? ⟨w.heap.size + 1, 2, none⟩ = some (.int .i64 g) := by rw [← hwo]; simp [go_sem]
  have t4 : wo.cell? ⟨w.heap.size + 1, 3, none⟩ = some (.int .i64 h) := by rw [← hwo]; simp [go_sem]
  clear hwo
  obtain ⟨hPl, hPb, hPc⟩ := HPO.out
  clear hPl
  go_loopw [5, 7] (fun v i wr => ∃ k : Nat, k ≤ 4 ∧ i = .int .i64 k ∧ wr.ownsRow wo.heap.size 23 2 v (endTo a b c d e f g h k).length (ptCells (endTo a b c d e f g h k)) ∧ New wo wr) (fun _ i _ => 4 - (intOf i).toNat)
  case atStart => exact ⟨0, Nat.zero_le _, rfl, World.ownsRow_nil _ _ _ _, New.refl _⟩
  case round =>
    obtain ⟨k, hk, rfl, hown, pr, rfl⟩ := hrel
    have HNR0 := Lib.hid (show New wo (Aft wo pr.d pr.os) from ⟨pr, rfl⟩)
    generalize Aft wo pr.d pr.os = wk at *
    have HNR := HNR0
    clear HNR0
    have HO := Lib.hid hown
    obtain ⟨av, cap, rfl, hav⟩ := own_form hown
    have HAV := Lib.hid hav
    clear hown hav
    have zz1 : w.heap.size < wk.heap.size := Nat.lt_of_lt_of_le z1 HNR.out.size
    have zz2 : w.heap.size + 1 < wk.heap.size := Nat.lt_of_lt_of_le z2 HNR.out.size
    have zz3 : w.heap.size + 1 + 1 < wk.heap.size := Nat.lt_of_lt_of_le hPb HNR.out.size
    have ss1 := (HNR.out.cell z1).trans s1
    have ss2 := (HNR.out.cell z1).trans s2
    have ss3 := (HNR.out.cell z1).trans s3
    have ss4 := (HNR.out.cell z1).trans s4
    have tt1 := (HNR.out.cell z2).trans t1
    have tt2 := (HNR.out.cell z2).trans t2
    have tt3 := (HNR.out.cell z2).trans t3
    have tt4 := (HNR.out.cell z2).trans t4
    by_cases hlt : k < 4
    · obtain ⟨c1, c2⟩ := hPc k hlt
      simp only [Nat.zero_add] at c1 c2
      have cc1 := (HNR.out.cell hPb).trans c1
      have cc2 := (HNR.out.cell hPb).trans c2
      clear c1 c2
      have hle := endTo_le a b c d e f g h k (by omega)
      have HS := Lib.hid (endTo_succ a b c d e f g h k hlt)
      have b1 := HBD.out k
      have H1 := Lib.hid (fun w1 : World => HON1.out (px (fourP a b c d e f g h) k) (py (fourP a b c d e f g h) k) w1 b1.1 b1.2)
      have H2 := Lib.hid (fun w1 : World => HON2.out (px (fourP a b c d e f g h) k) (py (fourP a b c d e f g h) k) w1 b1.1 b1.2)
      have hk4 : (k : Int) < 4 := by omega
      have HB := Lib.hid (show bothB a b c d e f g h (px (fourP a b c d e f g h) k, py (fourP a b c d e f g h) k) = (onR (px (fourP a b c d e f g h) k) (py (fourP a b c d e f g h) k) a b c d && onR (px (fourP a b c d e f g h) k) (py (fourP a b c d e f g h) k) e f g h) from rfl)
      clear b1
      generalize onR (px (fourP a b c d e f g h) k) (py (fourP a b c d e f g h) k) a b c d = S at *
      generalize onR (px (fourP a b c d e f g h) k) (py (fourP a b c d e f g h) k) e f g h = T at *
      generalize hX : px (fourP a b c d e f g h) k = X at *
      generalize hY : py (fourP a b c d e f g h) k = Y at *
      generalize hE : endTo a b c d e f g h k = E at *
      clear hX hY hE
      go_wp2_with fail
      first | refine wp_region_at2 (by kernel_rfl) (by kernel_rfl) ?_ | refine wp_region_at (by kernel_rfl) (by kernel_rfl) ?_
      repeat (go_big_quiet_step ((go_at_call 91; exact calls_new (H1.out _))))
      refine wpQuiet_nil ?_
      rintro _ ⟨q1, rfl⟩
      go_wp2_with fail
      first | refine wp_region_at2 (by kernel_rfl) (by kernel_rfl) ?_ | refine wp_region_at (by kernel_rfl) (by kernel_rfl) ?_
      repeat (go_big_quiet_step ((go_at_call 91; exact calls_new (H2.out _))))
      refine wpQuiet_nil ?_
      rintro _ ⟨q2, rfl⟩
      go_wp2_with fail
      go_loopw [10, 11] (fun u i wr => ∃ j : Nat, j ≤ E.length ∧ i = .int .i64 j ∧ u = .bool (inTo E X Y j) ∧ New wk wr) (fun _ i _ => E.length - (intOf i).toNat)
      case atStart => exact ⟨0, Nat.zero_le _, rfl, by simp [inTo], ⟨q2, rfl⟩⟩
      case round =>
        obtain ⟨j, hj, rfl, rfl, pj, rfl⟩ := hrel
        by_cases hjl : j < E.length
        · obtain ⟨gE, rfl, _, hgb, hgc⟩ := HAV.out (by omega)
          obtain ⟨d1, d2⟩ := hgc j hjl
          simp only [Nat.zero_add] at d1 d2
          have HIN := Lib.hid (inTo_succ E X Y j hjl)
          have hj1 : (j : Int) < (E.length : Int) := by omega
          cases hin : inTo E X Y j
          · rw [hin, Bool.false_or] at HIN
            cases hx : (px E j == X) <;> cases hy : (py E j == Y)
            all_goals
              rw [hx, hy] at HIN
              have HX := Lib.hid hx
              have HY := Lib.hid hy
              simp only [beq_eq_false_iff_ne, beq_iff_eq, ne_eq] at hx hy
              go_wp2_with fail
              first | refine wp_region_at2 (by kernel_rfl) (by kernel_rfl) ?_ | refine wp_region_at (by kernel_rfl) (by kernel_rfl) ?_
              repeat (go_big_quiet_step (fail))
              refine wpQuiet_nil ?_
              rintro _ ⟨q3, rfl⟩
              go_wp2_with fail
              go_roundw
              case rel => exact ⟨j + 1, by omega, by go_num, by rw [HIN.out]; rfl, (New.refl _).aft _ _⟩
              case measure => simp [intOf]; omega
          · rw [hin, Bool.true_or] at HIN
            go_wp2_with fail
            first | refine wp_region_at2 (by kernel_rfl) (by kernel_rfl) ?_ | refine wp_region_at (by kernel_rfl) (by kernel_rfl) ?_
            repeat (go_big_quiet_step (fail))
            refine wpQuiet_nil ?_
            rintro _ ⟨q3, rfl⟩
            go_wp2_with fail
            go_roundw
            case rel => exact ⟨j + 1, by omega, by go_num, by rw [HIN.out], (New.refl _).aft _ _⟩
            case measure => simp [intOf]; omega
        · have HIA := Lib.hid (inTo_all E X Y j (by omega))
          have hj2 : ¬ ((j : Int) < (E.length : Int)) := by omega
          rw [endStep, HB.out, ← HIA.out] at HS
          generalize inTo E X Y j = IN at *
          cases S
          · go_wp2_with fail
            go_roundw
            case rel => exact ⟨k + 1, by omega, by go_num, by rw [HS.out]; exact own_new HO.out ((New.refl _).aft _ _), HNR.out.trans ((New.refl _).aft _ _)⟩
            case measure => simp [intOf]; omega
          · cases T
            · go_wp2_with fail
              go_roundw
              case rel => exact ⟨k + 1, by omega, by go_num, by rw [HS.out]; exact own_new HO.out ((New.refl _).aft _ _), HNR.out.trans ((New.refl _).aft _ _)⟩
              case measure => simp [intOf]; omega
            · cases IN
              · have hlen : ∀ w0 : World, Sem.run Tryz.prog (Builtin.len_ #[40] 3 #[Value.slice av E.length cap]) w0 = .ok (.int .i64 (E.length : Int)) w0 := fun _ => rfl
                generalize hvv : Value.slice av E.length cap = vv at *
                clear hvv HAV
                go_wp2_with (at_builtin; refine wpList_append_lies _ rfl (.tmp 65) (.tmp 70) 40 rfl wo.heap.size 23 i0 _ 2 16 Tryz.underlying40 hi hz0 hz1 hz2 rfl (by omega) vv E.length (ptCells E) rfl ?_ _ 1 1 [.int .i64 X, .int .i64 Y] rfl rfl ?_ ?_ (by omega) ?_ ?_ ?_ _ rfl ?_; exact own_new HO.out (by (repeat (first | exact New.refl _ | apply New.alloc | apply New.aft | apply New.drew | refine New.setCell ?_ ?_ _)); all_goals (first | done | (simp [size_aft]; done) | (simp [size_aft]; omega))); (refine cells_new _ _ _ _ ?_); (simp [go_sem]); (intro u hu; simp at hu; rcases hu with rfl | rfl <;> rfl); (unfold maxLen; omega); omega; (have hsz := HNR.out.size; simp [go_sem]; omega); intro gg cap2 w2 hown2 hgrow2 hor2 hlt2; have HNW := Lib.hid (show New wo w2 from new_grown (HNR.out.trans (by (repeat (first | exact New.refl _ | apply New.alloc | apply New.aft | apply New.drew | refine New.setCell ?_ ?_ _)); all_goals (first | done | (simp [size_aft]; done) | (simp [size_aft]; omega)))) hgrow2 HO.out); have HO2 := Lib.hid hown2; clear hown2 hgrow2 hor2 hlt2)
                go_roundw
                case rel => exact ⟨k + 1, by omega, by go_num, by rw [HS.out]; simp only [Bool.and_self, Bool.not_false, if_true, ptCells_snoc, List.length_append, List.length_cons, List.length_nil]; exact HO2.out, HNW.out⟩
                case measure => simp [intOf]; omega
              · go_wp2_with fail
                go_roundw
                case rel => exact ⟨k + 1, by omega, by go_num, by rw [HS.out]; exact own_new HO.out ((New.refl _).aft _ _), HNR.out.trans ((New.refl _).aft _ _)⟩
                case measure => simp [intOf]; omega
    · obtain rfl : k = 4 := by omega
      go_wp2_with fail
      go_ret
      exact ⟨_, rfl, own_low HO.out HNO.out.size, HNO.out.trans HNR.out⟩

end Go.Proofs.YtpdfbboagaflhaaGreat

set_option linter.unusedSimpArgs false
set_option linter.unusedVariables false
set_option maxRecDepth 100000
namespace Go.Proofs.YtpdfbboagaflhaaGreat
open Go.RowKit

section
variable {a b c d e f g h : Int}
theorem meetR_nil (hE : endsL a b c d e f g h = []) : meetR a b c d e f g h = if turnI a b c d e f * turnI a b c d g h < 0 ∧ turnI e f g h a b * turnI e f g h c d < 0 then 3 else 0 := by rw [meetR, hE]; rfl
theorem meetR_one {p : P2} (hE : endsL a b c d e f g h = [p]) : meetR a b c d e f g h = if (p = (a, b) ∨ p = (c, d)) ∧ (p = (e, f) ∨ p = (g, h)) then 1 else 2 := by rw [meetR, hE]; rfl
theorem meetR_two {p q : P2} {r : List P2} (hE : endsL a b c d e f g h = p :: q :: r) : meetR a b c d e f g h = 4 := by rw [meetR, hE]; rfl
end

set_option maxHeartbeats 8000000 in
theorem ref_meet (a b c d e f g h : Int) (w : World) (ha : 0 ≤ a ∧ a ≤ 10000) (hb : 0 ≤ b ∧ b ≤ 10000) (hc : 0 ≤ c ∧ c ≤ 10000) (hd : 0 ≤ d ∧ d ≤ 10000) (he : 0 ≤ e ∧ e ≤ 10000) (hf : 0 ≤ f ∧ f ≤ 10000) (hg : 0 ≤ g ∧ g ≤ 10000) (hh : 0 ≤ h ∧ h ≤ 10000) :
    Calls Tryz.prog 97 #[sv a b c d, sv e f g h] w fun en w' => en = .returned (.int .u8 (meetR a b c d e f g h)) ∧ New w w' := by
  have HE := Lib.hid (fun w1 : World => ref_ends a b c d e f g h w1 ha hb hc hd he hf hg hh)
  rcases hE : endsL a b c d e f g h with _ | ⟨p, _ | ⟨p2, r⟩⟩
  · have HV := Lib.hid (meetR_nil hE)
    rw [hE] at HE
    have HA := Lib.hid (fun w1 : World => ref_turn a b c d e f w1 (by omega) (by omega) (by omega) (by omega) (by omega) (by omega))
    have HB := Lib.hid (fun w1 : World => ref_turn a b c d g h w1 (by omega) (by omega) (by omega) (by omega) (by omega) (by omega))
    have HC := Lib.hid (fun w1 : World => ref_turn e f g h a b w1 (by omega) (by omega) (by omega) (by omega) (by omega) (by omega))
    have HD := Lib.hid (fun w1 : World => ref_turn e f g h c d w1 (by omega) (by omega) (by omega) (by omega) (by omega) (by omega))
    have m1 := m_bd _ _ (turnI_bd a b c d e f) (turnI_bd a b c d g h)
    have m2 := m_bd _ _ (turnI_bd e f g h a b) (turnI_bd e f g h c d)
    generalize turnI a b c d e f = A1 at *
    generalize turnI a b c d g h = A2 at *
    generalize turnI e f g h a b = B1 at *
    generalize turnI e f g h c d = B2 at *
    have w1 : IntKind.i64.wrap (A1 * A2) = A1 * A2 := IntWalk.i64_in _ (by omega)
    have w2 : IntKind.i64.wrap (B1 * B2) = B1 * B2 := IntWalk.i64_in _ (by omega)
    clear hE ha hb hc hd he hf hg hh
    by_cases h1 : A1 * A2 < 0
    · by_cases h2 : B1 * B2 < 0
      · rw [show (meetR a b c d e f g h) = 3 by rw [HV.out, if_pos ⟨h1, h2⟩]]
        go_enter Tryz.func97, Tryz.ntmps97
        go_wp2_with (go_at_call 95; refine (HE.out _).mono ?_; rintro en w1 ⟨v, rfl, hown, pw, rfl⟩; obtain ⟨av, cap, rfl, _⟩ := own_form hown; clear hown)
        first | refine wp_region_at2 (by kernel_rfl) (by kernel_rfl) ?_ | refine wp_region_at (by kernel_rfl) (by kernel_rfl) ?_
        repeat (go_big_quiet_step (first | (go_at_call 87; with_reducible exact calls_new (HA.out _)) | (go_at_call 87; with_reducible exact calls_new (HB.out _)) | (go_at_call 87; with_reducible exact calls_new (HC.out _)) | (go_at_call 87; with_reducible exact calls_new (HD.out _))))
        refine wpQuiet_nil ?_
        rintro _ ⟨q, rfl⟩
        go_wp2_with fail
        all_goals (go_ret; refine ⟨rfl, ?_⟩; (repeat (first | exact New.refl _ | apply New.alloc | apply New.aft | apply New.drew | refine New.setCell ?_ ?_ _)); all_goals (first | done | (simp [size_aft]; done) | (simp [size_aft]; omega)))
      · rw [show (meetR a b c d e f g h) = 0 by rw [HV.out, if_neg (fun x => h2 x.2)]]
        have hd2 : decide (B1 * B2 < 0) = false := by simpa using h2
        go_enter Tryz.func97, Tryz.ntmps97
        go_wp2_with (go_at_call 95; refine (HE.out _).mono ?_; rintro en w1 ⟨v, rfl, hown, pw, rfl⟩; obtain ⟨av, cap, rfl, _⟩ := own_form hown; clear hown)
        first | refine wp_region_at2 (by kernel_rfl) (by kernel_rfl) ?_ | refine wp_region_at (by kernel_rfl) (by kernel_rfl) ?_
        repeat (go_big_quiet_step (first | (go_at_call 87; with_reducible exact calls_new (HA.out _)) | (go_at_call 87; with_reducible exact calls_new (HB.out _)) | (go_at_call 87; with_reducible exact calls_new (HC.out _)) | (go_at_call 87; with_reducible exact calls_new (HD.out _))))
        refine wpQuiet_nil ?_
        rintro _ ⟨q, rfl⟩
        go_wp2_with fail
        all_goals (go_ret; refine ⟨rfl, ?_⟩; (repeat (first | exact New.refl _ | apply New.alloc | apply New.aft | apply New.drew | refine New.setCell ?_ ?_ _)); all_goals (first | done | (simp [size_aft]; done) | (simp [size_aft]; omega)))
    · rw [show (meetR a b c d e f g h) = 0 by rw [HV.out, if_neg (fun x => h1 x.1)]]
      have hd1 : decide (A1 * A2 < 0) = false := by simpa using h1
      go_enter Tryz.func97, Tryz.ntmps97
      go_wp2_with (go_at_call 95; refine (HE.out _).mono ?_; rintro en w1 ⟨v, rfl, hown, pw, rfl⟩; obtain ⟨av, cap, rfl, _⟩ := own_form hown; clear hown)
      first | refine wp_region_at2 (by kernel_rfl) (by kernel_rfl) ?_ | refine wp_region_at (by kernel_rfl) (by kernel_rfl) ?_
      repeat (go_big_quiet_step (first | (go_at_call 87; with_reducible exact calls_new (HA.out _)) | (go_at_call 87; with_reducible exact calls_new (HB.out _)) | (go_at_call 87; with_reducible exact calls_new (HC.out _)) | (go_at_call 87; with_reducible exact calls_new (HD.out _))))
      refine wpQuiet_nil ?_
      rintro _ ⟨q, rfl⟩
      go_wp2_with fail
      all_goals (go_ret; refine ⟨rfl, ?_⟩; (repeat (first | exact New.refl _ | apply New.alloc | apply New.aft | apply New.drew | refine New.setCell ?_ ?_ _)); all_goals (first | done | (simp [size_aft]; done) | (simp [size_aft]; omega)))
  · have HV := Lib.hid (meetR_one hE)
    rw [hE] at HE
    clear hE ha hb hc hd he hf hg hh
    obtain ⟨x, y⟩ := p
    simp only [Prod.mk.injEq] at HV
    go_enter Tryz.func97, Tryz.ntmps97
    go_wp2_with (go_at_call 95; refine (HE.out _).mono ?_; rintro en w1 ⟨v, rfl, hown, hnew⟩; obtain ⟨av, cap, rfl, hav⟩ := own_form hown; obtain ⟨gE, rfl, _, hgb, hgc⟩ := hav (by simp); obtain ⟨e1, e2⟩ := hgc 0 (by simp); have d1 : w1.cell? ⟨gE, 0, none⟩ = some (.int .i64 x) := (by simpa [px] using e1); have d2 : w1.cell? ⟨gE, 1, none⟩ = some (.int .i64 y) := (by simpa [py] using e2); clear e1 e2; have z1 : w.heap.size < w1.heap.size := (by have := hnew.size; simp [go_sem] at this; omega); have z2 : w.heap.size + 1 < w1.heap.size := (by have := hnew.size; simp [go_sem] at this; omega); have s1 : w1.cell? ⟨w.heap.size, 0, none⟩ = some (.int .i64 a) := (by rw [hnew.cell (by simp [go_sem])]; simp [go_sem]); have s2 : w1.cell? ⟨w.heap.size, 1, none⟩ = some (.int .i64 b) := (by rw [hnew.cell (by simp [go_sem])]; simp [go_sem]); have s3 : w1.cell? ⟨w.heap.size, 2, none⟩ = some (.int .i64 c) := (by rw [hnew.cell (by simp [go_sem])]; simp [go_sem]); have s4 : w1.cell? ⟨w.heap.size, 3, none⟩ = some (.int .i64 d) := (by rw [hnew.cell (by simp [go_sem])]; simp [go_sem]); have t1 : w1.cell? ⟨w.heap.size + 1, 0, none⟩ = some (.int .i64 e) := (by rw [hnew.cell (by simp [go_sem])]; simp [go_sem]); have t2 : w1.cell? ⟨w.heap.size + 1, 1, none⟩ = some (.int .i64 f) := (by rw [hnew.cell (by simp [go_sem])]; simp [go_sem]); have t3 : w1.cell? ⟨w.heap.size + 1, 2, none⟩ = some (.int .i64 g) := (by rw [hnew.cell (by simp [go_sem])]; simp [go_sem]); have t4 : w1.cell? ⟨w.heap.size + 1, 3, none⟩ = some (.int .i64 h) := (by rw [hnew.cell (by simp [go_sem])]; simp [go_sem]); have HNW := Lib.hid (New.trans ((by (repeat (first | exact New.refl _ | apply New.alloc | apply New.aft | apply New.drew | refine New.setCell ?_ ?_ _)); all_goals (first | done | (simp [size_aft]; done) | (simp [size_aft]; omega))) : New w _) hnew); clear hown hav hgc hnew)
    all_goals (go_ret; refine ⟨ret_int (by rw [HV.out]; split <;> omega), HNW.out.trans ?_⟩; (repeat (first | exact New.refl _ | apply New.alloc | apply New.aft | apply New.drew | refine New.setCell ?_ ?_ _)); all_goals (first | done | (simp [size_aft]; done) | (simp [size_aft]; omega)))
  · have HV := Lib.hid (meetR_two hE)
    rw [hE] at HE
    clear hE ha hb hc hd he hf hg hh
    rw [HV.out]
    have hl : (1 : Int) < ((p :: p2 :: r).length : Int) := by simp; omega
    generalize (p :: p2 :: r) = L at *
    go_enter Tryz.func97, Tryz.ntmps97
    go_wp2_with (go_at_call 95; refine (HE.out _).mono ?_; rintro en w1 ⟨v, rfl, hown, pw, rfl⟩; obtain ⟨av, cap, rfl, _⟩ := own_form hown; clear hown)
    all_goals (go_ret; refine ⟨rfl, ?_⟩; (repeat (first | exact New.refl _ | apply New.alloc | apply New.aft | apply New.drew | refine New.setCell ?_ ?_ _)); all_goals (first | done | (simp [size_aft]; done) | (simp [size_aft]; omega)))

set_option maxHeartbeats 4000000 in
theorem ref_Meet (a b c d e f g h : Int) (w : World) : Calls Tryz.prog 37 #[sv a b c d, sv e f g h] w fun en w' => en = .returned (.int .u8 (MeetI a b c d e f g h)) ∧ New w w' := by
  have H1 := Lib.hid (ref_validSeg a b c d)
  have H2 := Lib.hid (ref_validSeg e f g h)
  by_cases k1 : okS a b c d = true
  · by_cases k2 : okS e f g h = true
    · obtain ⟨⟨ha, hb⟩, ⟨hc, hd⟩, _⟩ := okS_iff.1 k1
      obtain ⟨⟨he, hf⟩, ⟨hg, hh⟩, _⟩ := okS_iff.1 k2
      have HM := Lib.hid (fun w1 : World => ref_meet a b c d e f g h w1 ha hb hc hd he hf hg hh)
      rw [k1] at H1
      rw [k2] at H2
      rw [meet_eq k1 k2, show meetI a b c d e f g h = MeetI a b c d e f g h from (if_pos ⟨k1, k2⟩).symm] at HM
      clear k1 k2 ha hb hc hd he hf hg hh
      generalize MeetI a b c d e f g h = K at *
      go_enter Tryz.func37, Tryz.ntmps37
      go_wp2_with (first | (go_at_call 90; (with_reducible refine (H1.out _).mono ?_); rintro en w1 ⟨rfl, pw, rfl⟩) | (go_at_call 90; (with_reducible refine (H2.out _).mono ?_); rintro en w1 ⟨rfl, pw, rfl⟩) | (go_at_call 97; refine (HM.out _).mono ?_; rintro en w1 ⟨rfl, pw, rfl⟩))
      all_goals (go_ret; refine ⟨rfl, ?_⟩; (repeat (first | exact New.refl _ | apply New.alloc | apply New.aft | apply New.drew | refine New.setCell ?_ ?_ _)); all_goals (first | done | (simp [size_aft]; done) | (simp [size_aft]; omega)))
    · rw [show MeetI a b c d e f g h = 0 from if_neg (fun x => k2 x.2)]
      rw [show okS e f g h = false by simpa using k2] at H2
      rw [k1] at H1
      clear k1 k2
      go_enter Tryz.func37, Tryz.ntmps37
      go_wp2_with (first | (go_at_call 90; (with_reducible refine (H1.out _).mono ?_); rintro en w1 ⟨rfl, pw, rfl⟩) | (go_at_call 90; (with_reducible refine (H2.out _).mono ?_); rintro en w1 ⟨rfl, pw, rfl⟩))
      all_goals (go_ret; refine ⟨rfl, ?_⟩; (repeat (first | exact New.refl _ | apply New.alloc | apply New.aft | apply New.drew | refine New.setCell ?_ ?_ _)); all_goals (first | done | (simp [size_aft]; done) | (simp [size_aft]; omega)))
  · rw [show MeetI a b c d e f g h = 0 from if_neg (fun x => k1 x.1)]
    rw [show okS a b c d = false by simpa using k1] at H1
    clear k1
    generalize okS e f g h = B at *
    go_enter Tryz.func37, Tryz.ntmps37
    go_wp2_with (first | (go_at_call 90; (with_reducible refine (H1.out _).mono ?_); rintro en w1 ⟨rfl, pw, rfl⟩) | (go_at_call 90; (with_reducible refine (H2.out _).mono ?_); rintro en w1 ⟨rfl, pw, rfl⟩))
    all_goals (go_ret; refine ⟨rfl, ?_⟩; (repeat (first | exact New.refl _ | apply New.alloc | apply New.aft | apply New.drew | refine New.setCell ?_ ?_ _)); all_goals (first | done | (simp [size_aft]; done) | (simp [size_aft]; omega)))

end Go.Proofs.YtpdfbboagaflhaaGreat

set_option linter.unusedSimpArgs false
set_option linter.unusedVariables false
set_option maxRecDepth 100000
namespace Go.Proofs.YtpdfbboagaflhaaGreat
open Go.RowKit

set_option maxHeartbeats 4000000 in
theorem ref_checkSegs (b off n c : Nat) (l : List S4) (w : World) (hl : n ≤ 1000000000) (hw : Segs w b off n l) :
    Calls Tryz.prog 136 #[.slice (some ⟨b, off, none⟩) n c] w fun en w' => en = .returned (.int .i64 (ckSegs l)) ∧ New w w' := by
  obtain ⟨hn, hb, hcell⟩ := hw
  have HN := Lib.hid hn
  clear hn
  by_cases hm : 400 < (n : Int)
  · rw [show ckSegs l = 2 from if_pos (by rw [HN.out]; exact hm)]
    go_enter Tryz.func136, Tryz.ntmps136
    go_wp2_with fail
    all_goals (go_ret; refine ⟨rfl, ?_⟩; (repeat (first | exact New.refl _ | apply New.alloc | apply New.aft | apply New.drew | refine New.setCell ?_ ?_ _)); all_goals (first | done | (simp [size_aft]; done) | (simp [size_aft]; omega)))
  · go_enter Tryz.func136, Tryz.ntmps136
    go_wp2_with fail
    go_loopw [3] (fun i wr => ∃ k : Nat, k ≤ n ∧ i = .int .i64 k ∧ okSegs (l.take k) = true ∧ New w wr) (fun i _ => n - (intOf i).toNat)
    case atStart => exact ⟨0, Nat.zero_le _, rfl, by simp [okSegs], New.refl w⟩
    case round =>
      obtain ⟨k, hk, rfl, hok, pr, rfl⟩ := hrel
      have HOK := Lib.hid hok
      clear hok
      by_cases hlt : k < n
      · obtain ⟨c1, c2, c3, c4⟩ := hcell k hlt
        have HV := Lib.hid (ref_validSeg (q1 l k) (q2 l k) (q3 l k) (q4 l k))
        by_cases hv : okS (q1 l k) (q2 l k) (q3 l k) (q4 l k) = true
        · rw [hv] at HV
          have HVV := Lib.hid hv
          clear hv
          go_wp2_with (go_at_call 90; refine (HV.out _).mono ?_; rintro e w1 ⟨rfl, pw, rfl⟩)
          go_roundw
          case rel => exact ⟨k + 1, by omega, by go_num, by rw [okSegs_snoc l k (by rw [HN.out]; exact hlt), HOK.out, HVV.out]; rfl, by (repeat (first | exact New.refl _ | apply New.alloc | apply New.aft | apply New.drew | refine New.setCell ?_ ?_ _)); all_goals (first | done | (simp [size_aft]; done) | (simp [size_aft]; omega))⟩
          case measure => simp [intOf]; omega
        · have hv' : okS (q1 l k) (q2 l k) (q3 l k) (q4 l k) = false := by simpa using hv
          rw [hv'] at HV
          have HF := Lib.hid (okSegs_not l k (by rw [HN.out]; exact hlt) hv')
          clear hv hv'
          go_wp2_with (go_at_call 90; refine (HV.out _).mono ?_; rintro e w1 ⟨rfl, pw, rfl⟩)
          go_ret
          refine ⟨ret_int ?_, ?_⟩
          · rw [ckSegs, if_neg (by rw [HN.out]; omega), HF.out]; rfl
          · (repeat (first | exact New.refl _ | apply New.alloc | apply New.aft | apply New.drew | refine New.setCell ?_ ?_ _)); all_goals (first | done | (simp [size_aft]; done) | (simp [size_aft]; omega))
      · go_wp2_with fail
        go_ret
        refine ⟨ret_int ?_, ?_⟩
        · have h1 : okSegs l = true := by
            have := HOK.out
            rwa [List.take_of_length_le (by rw [HN.out]; omega)] at this
          rw [ckSegs, if_neg (by rw [HN.out]; omega), h1]; rfl
        · (repeat (first | exact New.refl _ | apply New.alloc | apply New.aft | apply New.drew | refine New.setCell ?_ ?_ _)); all_goals (first | done | (simp [size_aft]; done) | (simp [size_aft]; omega))

theorem ckSegs_okS {l : List S4} (h : ckSegs l = 0) (i : Nat) (hi : i < l.length) : okS (q1 l i) (q2 l i) (q3 l i) (q4 l i) = true := by
  have h2 : okSegs l = true := by
    unfold ckSegs at h
    split at h
    · cases h
    · split at h
      · assumption
      · cases h
  exact okSegs_at l i hi h2

set_option maxHeartbeats 8000000 in
theorem ref_Crossing (b off n c : Nat) (l : List S4) (w : World) (hl : n ≤ 1000000) (hw : Segs w b off n l) :
    Calls Tryz.prog 65 #[.slice (some ⟨b, off, none⟩) n c] w fun en w' => CrossIs l en ∧ New w w' := by
  have HCK := Lib.hid (ref_checkSegs b off n c l w (by omega) hw)
  have HN := Lib.hid hw.1
  have hb := hw.2.1
  have HSC := Lib.hid hw.2.2
  clear hw
  by_cases he : ckSegs l = 0
  · rw [he] at HCK
    have HE := Lib.hid he
    have HB := Lib.hid (ckSegs_okS he)
    clear he
    go_enter Tryz.func65, Tryz.ntmps65
    go_wp2_with (go_at_call 136; refine (HCK.out).mono ?_; rintro e w2 ⟨rfl, pw, rfl⟩)
    go_loopw [7] (fun i wr => ∃ k : Nat, k ≤ n ∧ i = .int .i64 k ∧ RowsFree l n k ∧ New w wr) (fun i _ => n - (intOf i).toNat)
    case atStart => exact ⟨0, Nat.zero_le _, rfl, fun i hi => absurd hi (Nat.not_lt_zero _), by (repeat (first | exact New.refl _ | apply New.alloc | apply New.aft | apply New.drew | refine New.setCell ?_ ?_ _)); all_goals (first | done | (simp [size_aft]; done) | (simp [size_aft]; omega))⟩
    case round =>
      obtain ⟨k, hk, rfl, hrows, pr, rfl⟩ := hrel
      have HR := Lib.hid hrows
      clear hrows
      by_cases hlt : k < n
      · obtain ⟨c1, c2, c3, c4⟩ := HSC.out k hlt
        have k1 := HB.out k (by rw [HN.out]; exact hlt)
        have hkn : (k : Int) < (n : Int) := by omega
        go_wp2_with fail
        go_loopw [8] (fun j wr => ∃ m : Nat, k + 1 ≤ m ∧ m ≤ n ∧ j = .int .i64 m ∧ RowFree l k m ∧ New w wr) (fun j _ => n - (intOf j).toNat)
        case atStart => exact ⟨k + 1, Nat.le_refl _, by omega, by go_num, rowFree_start _ _, by (repeat (first | exact New.refl _ | apply New.alloc | apply New.aft | apply New.drew | refine New.setCell ?_ ?_ _)); all_goals (first | done | (simp [size_aft]; done) | (simp [size_aft]; omega))⟩
        case round =>
          obtain ⟨m, hm1, hm2, rfl, hrow, po, rfl⟩ := hrel
          have HM := Lib.hid hrow
          clear hrow
          by_cases hmn : m < n
          · obtain ⟨d1, d2, d3, d4⟩ := HSC.out m hmn
            have k2 := HB.out m (by rw [HN.out]; exact hmn)
            have hmn2 : (m : Int) < (n : Int) := by omega
            obtain ⟨⟨a1, a2⟩, ⟨a3, a4⟩, _⟩ := okS_iff.1 k1
            obtain ⟨⟨e1, e2⟩, ⟨e3, e4⟩, _⟩ := okS_iff.1 k2
            have HMT := Lib.hid (fun w3 : World => ref_meet (q1 l k) (q2 l k) (q3 l k) (q4 l k) (q1 l m) (q2 l m) (q3 l m) (q4 l m) w3 a1 a2 a3 a4 e1 e2 e3 e4)
            rw [meet_eq k1 k2] at HMT
            clear a1 a2 a3 a4 e1 e2 e3 e4 k2
            by_cases h3 : meetQ l k m = 3
            · have HC := Lib.hid (show crB l k m = true by simp [crB, h3])
              rw [show meetI (q1 l k) (q2 l k) (q3 l k) (q4 l k) (q1 l m) (q2 l m) (q3 l m) (q4 l m) = 3 from h3] at HMT
              clear h3
              go_wp2_with fail
              first | refine wp_region_at2 (by kernel_rfl) (by kernel_rfl) ?_ | refine wp_region_at (by kernel_rfl) (by kernel_rfl) ?_
              repeat (go_big_quiet_step ((go_at_call 97; exact calls_new (HMT.out _))))
              refine wpQuiet_nil ?_
              rintro _ ⟨q, rfl⟩
              go_wp2_with fail
              refine bodyPost_ret (v := .tuple #[.int .i64 k, .int .i64 m, .bool true, .int .i64 0]) (by simp [results, Tryz.results65, go_sem]) rfl ⟨crossIs_yes HN.out HE.out (by omega) hmn HR.out HM.out HC.out, ?_⟩; (repeat (first | exact New.refl _ | apply New.alloc | apply New.aft | apply New.drew | refine New.setCell ?_ ?_ _)); all_goals (first | done | (simp [size_aft]; done) | (simp [size_aft]; omega))
            · by_cases h4 : meetQ l k m = 4
              · have HC := Lib.hid (show crB l k m = true by simp [crB, h4])
                rw [show meetI (q1 l k) (q2 l k) (q3 l k) (q4 l k) (q1 l m) (q2 l m) (q3 l m) (q4 l m) = 4 from h4] at HMT
                clear h3 h4
                go_wp2_with fail
                first | refine wp_region_at2 (by kernel_rfl) (by kernel_rfl) ?_ | refine wp_region_at (by kernel_rfl) (by kernel_rfl) ?_
                repeat (go_big_quiet_step ((go_at_call 97; exact calls_new (HMT.out _))))
                refine wpQuiet_nil ?_
                rintro _ ⟨q, rfl⟩
                go_wp2_with fail
                refine bodyPost_ret (v := .tuple #[.int .i64 k, .int .i64 m, .bool true, .int .i64 0]) (by simp [results, Tryz.results65, go_sem]) rfl ⟨crossIs_yes HN.out HE.out (by omega) hmn HR.out HM.out HC.out, ?_⟩; (repeat (first | exact New.refl _ | apply New.alloc | apply New.aft | apply New.drew | refine New.setCell ?_ ?_ _)); all_goals (first | done | (simp [size_aft]; done) | (simp [size_aft]; omega))
              · have HC := Lib.hid (show crB l k m = false by simp [crB, h3, h4])
                obtain ⟨M, hM⟩ : ∃ M, M = meetQ l k m := ⟨_, rfl⟩
                rw [show meetI (q1 l k) (q2 l k) (q3 l k) (q4 l k) (q1 l m) (q2 l m) (q3 l m) (q4 l m) = M from hM.symm] at HMT
                have t3 : (M == 3) = false := by rw [hM]; simpa using h3
                have t4 : (M == 4) = false := by rw [hM]; simpa using h4
                clear h3 h4 hM
                go_wp2_with fail
                first | refine wp_region_at2 (by kernel_rfl) (by kernel_rfl) ?_ | refine wp_region_at (by kernel_rfl) (by kernel_rfl) ?_
                repeat (go_big_quiet_step ((go_at_call 97; exact calls_new (HMT.out _))))
                refine wpQuiet_nil ?_
                rintro _ ⟨q, rfl⟩
                go_wp2_with fail
                go_roundw
                case rel => exact ⟨m + 1, by omega, by omega, by go_num, rowFree_succ HM.out HC.out, by (repeat (first | exact New.refl _ | apply New.alloc | apply New.aft | apply New.drew | refine New.setCell ?_ ?_ _)); all_goals (first | done | (simp [size_aft]; done) | (simp [size_aft]; omega))⟩
                case measure => simp [intOf]; omega
          · have HMN := Lib.hid (show m = n by omega)
            go_wp2_with fail
            go_roundw
            case rel => exact ⟨k + 1, by omega, by go_num, rowsFree_succ HR.out (by have := HM.out; rwa [HMN.out] at this), by (repeat (first | exact New.refl _ | apply New.alloc | apply New.aft | apply New.drew | refine New.setCell ?_ ?_ _)); all_goals (first | done | (simp [size_aft]; done) | (simp [size_aft]; omega))⟩
            case measure => simp [intOf]; omega
      · have HKN := Lib.hid (show k = n by omega)
        go_wp2_with fail
        refine bodyPost_ret (v := .tuple #[.int .i64 0, .int .i64 0, .bool false, .int .i64 0]) (by simp [results, Tryz.results65, go_sem]) rfl ⟨crossIs_no HN.out HE.out (by have := HR.out; rwa [HKN.out] at this), ?_⟩; (repeat (first | exact New.refl _ | apply New.alloc | apply New.aft | apply New.drew | refine New.setCell ?_ ?_ _)); all_goals (first | done | (simp [size_aft]; done) | (simp [size_aft]; omega))
  · have he1 : (ckSegs l == 0) = false := by simpa using he
    have he2 : (ckSegs l != 0) = true := by simpa using he
    have HER := Lib.hid (crossIs_err rfl he)
    clear he
    go_enter Tryz.func65, Tryz.ntmps65
    go_wp2_with (go_at_call 136; refine (HCK.out).mono ?_; rintro e w2 ⟨rfl, pw, rfl⟩)
    refine bodyPost_ret (v := .tuple #[.int .i64 0, .int .i64 0, .bool false, .int .i64 (ckSegs l)]) (by simp [results, Tryz.results65, go_sem]) rfl ⟨HER.out, ?_⟩; (repeat (first | exact New.refl _ | apply New.alloc | apply New.aft | apply New.drew | refine New.setCell ?_ ?_ _)); all_goals (first | done | (simp [size_aft]; done) | (simp [size_aft]; omega))

/-- there is one answer alone -/
theorem CrossIs.val {l : List S4} : ∃ i j f e, ∀ en, CrossIs l en → en = .returned (.tuple #[.int .i64 i, .int .i64 j, .bool f, .int .i64 e]) := by
  by_cases he : ckSegs l = 0
  · by_cases hr : RowsFree l l.length l.length
    · refine ⟨0, 0, false, 0, fun en h => ?_⟩
      rcases h with ⟨h1, h2⟩ | ⟨_, _, h2⟩ | ⟨_, i, j, h1, h2, h3, h4, h5, h6⟩
      · exact absurd he h1
      · exact h2
      · have := hr i (by omega) j h1 h2
        rw [this] at h5; cases h5
    · by_cases hx : ∃ i j : Nat, i < j ∧ j < l.length ∧ RowsFree l l.length i ∧ RowFree l i j ∧ crB l i j = true
      · obtain ⟨i, j, h1, h2, h3, h4, h5⟩ := hx
        refine ⟨(i : Int), (j : Int), true, 0, fun en h => ?_⟩
        rcases h with ⟨k1, k2⟩ | ⟨_, k1, k2⟩ | ⟨_, i', j', k1, k2, k3, k4, k5, k6⟩
        · exact absurd he k1
        · exact absurd k1 hr
        · have hi : i' = i := by
            rcases Nat.lt_trichotomy i' i with hh | hh | hh
            · have := h3 i' hh j' k1 k2; rw [this] at k5; cases k5
            · exact hh
            · have := k3 i hh j h1 h2; rw [this] at h5; cases h5
          subst hi
          have hj : j' = j := by
            rcases Nat.lt_trichotomy j' j with hh | hh | hh
            · have := h4 j' k1 hh; rw [this] at k5; cases k5
            · exact hh
            · have := k4 j h1 hh; rw [this] at h5; cases h5
          subst hj
          exact k6
      · refine ⟨0, 0, false, 0, fun en h => ?_⟩
        rcases h with ⟨k1, k2⟩ | ⟨_, k1, k2⟩ | ⟨_, i', j', k1, k2, k3, k4, k5, k6⟩
        · exact absurd he k1
        · exact k2
        · exact absurd ⟨i', j', k1, k2, k3, k4, k5⟩ hx
  · refine ⟨0, 0, false, ckSegs l, fun en h => ?_⟩
    rcases h with ⟨k1, k2⟩ | ⟨k0, k1, k2⟩ | ⟨k0, i', j', k1, k2, k3, k4, k5, k6⟩
    · exact k2
    · exact absurd k0 he
    · exact absurd k0 he

set_option maxHeartbeats 1000000 in
theorem crossing_nil (v : Option Addr) (c : Nat) (w : World) : Calls Tryz.prog 64 #[.slice v 0 c] w fun en w' => en = .returned (.tuple #[.int .i64 0, .int .i64 0, .bool false, .int .i64 0]) ∧ New w w' := by
  have HC := Lib.hid (show ∀ w1 : World, Calls Tryz.prog 135 #[.slice v 0 c] w1 fun en w' => en = .returned (.int .i64 0) ∧ New w1 w' from fun w1 => by
    go_enter Tryz.func135, Tryz.ntmps135
    go_wp2_with fail
    refine wp_loop_rounds 1 ?_
    repeat any_goals (rw [rounds_succ]; go_wp2)
    go_ret; exact ⟨rfl, New.refl _⟩)
  go_enter Tryz.func64, Tryz.ntmps64
  go_wp2_with (go_at_call 135; refine (HC.out _).mono ?_; rintro e w1 ⟨rfl, pw, rfl⟩)
  refine wp_loop_rounds 1 ?_
  repeat any_goals (rw [rounds_succ]; go_wp2)
  refine bodyPost_ret (v := .tuple #[.int .i64 0, .int .i64 0, .bool false, .int .i64 0]) (by simp [results, Tryz.results64, go_sem]) rfl ⟨rfl, ?_⟩; (repeat (first | exact New.refl _ | apply New.alloc | apply New.aft | apply New.drew | refine New.setCell ?_ ?_ _)); all_goals (first | done | (simp [size_aft]; done) | (simp [size_aft]; omega))
set_option maxHeartbeats 1000000 in
theorem ref_crossing_nil (v : Option Addr) (c : Nat) (w : World) : Calls Tryz.prog 65 #[.slice v 0 c] w fun en w' => en = .returned (.tuple #[.int .i64 0, .int .i64 0, .bool false, .int .i64 0]) ∧ New w w' := by
  have HC := Lib.hid (show ∀ w1 : World, Calls Tryz.prog 136 #[.slice v 0 c] w1 fun en w' => en = .returned (.int .i64 0) ∧ New w1 w' from fun w1 => by
    go_enter Tryz.func136, Tryz.ntmps136
    go_wp2_with fail
    refine wp_loop_rounds 1 ?_
    repeat any_goals (rw [rounds_succ]; go_wp2)
    go_ret; exact ⟨rfl, New.refl _⟩)
  go_enter Tryz.func65, Tryz.ntmps65
  go_wp2_with (go_at_call 136; refine (HC.out _).mono ?_; rintro e w1 ⟨rfl, pw, rfl⟩)
  refine wp_loop_rounds 1 ?_
  repeat any_goals (rw [rounds_succ]; go_wp2)
  refine bodyPost_ret (v := .tuple #[.int .i64 0, .int .i64 0, .bool false, .int .i64 0]) (by simp [results, Tryz.results65, go_sem]) rfl ⟨rfl, ?_⟩; (repeat (first | exact New.refl _ | apply New.alloc | apply New.aft | apply New.drew | refine New.setCell ?_ ?_ _)); all_goals (first | done | (simp [size_aft]; done) | (simp [size_aft]; omega))

set_option maxHeartbeats 4000000 in
theorem crossing_of (v : Option Addr) (n c : Nat) (I J E : Int) (O : Bool) (w : World)
    (HA : Hid (∀ w1 : World, New w w1 → Calls Tryz.prog 64 #[.slice v n c] w1 fun en w' => en = .returned (.tuple #[.int .i64 I, .int .i64 J, .bool O, .int .i64 E]) ∧ New w1 w'))
    (HB : Hid (∀ w1 : World, New w w1 → Calls Tryz.prog 65 #[.slice v n c] w1 fun en w' => en = .returned (.tuple #[.int .i64 I, .int .i64 J, .bool O, .int .i64 E]) ∧ New w1 w')) :
    Calls Tryz.prog 15 #[.slice v n c] w fun e w' => e = .returned (.bool true) ∧ New w w' := by
  have HL := Lib.hid alive_c
  have t1 : (I == I) = true := by simp
  have t2 : (J == J) = true := by simp
  have t3 : (E == E) = true := by simp
  have t4 : (O == O) = true := by simp
  have hcase : (n ≤ 60) ∨ (60 < n ∧ n ≤ 400) ∨ (400 < n ∧ n ≤ 500) ∨ 500 < n := by omega
  rcases hcase with h | ⟨h, h'⟩ | ⟨h, h'⟩ | h
  all_goals
    have d1 : ((60 : Int) < (n : Int)) ↔ (60 < n) := by omega
    go_enter Tryz.func15, Tryz.ntmps15
    go_wp2_with (first | (go_at_call 31; refine (HL.out _).mono ?_; rintro e w1 ⟨rfl, pw, rfl⟩) | (go_at_call 64; refine (HA.out _ (by (repeat (first | exact New.refl _ | apply New.alloc | apply New.aft | apply New.drew | refine New.setCell ?_ ?_ _)); all_goals (first | done | (simp [size_aft]; done) | (simp [size_aft]; omega)))).mono ?_; rintro e w1 ⟨rfl, pw, rfl⟩) | (go_at_call 65; refine (HB.out _ (by (repeat (first | exact New.refl _ | apply New.alloc | apply New.aft | apply New.drew | refine New.setCell ?_ ?_ _)); all_goals (first | done | (simp [size_aft]; done) | (simp [size_aft]; omega)))).mono ?_; rintro e w1 ⟨rfl, pw, rfl⟩))
    all_goals (try (exfalso; omega))
    all_goals (go_ret; refine ⟨ret_bool (by simp), ?_⟩; (repeat (first | exact New.refl _ | apply New.alloc | apply New.aft | apply New.drew | refine New.setCell ?_ ?_ _)); all_goals (first | done | (simp [size_aft]; done) | (simp [size_aft]; omega)))

theorem planeCrossing_all (w : World) (av : Option Addr) (n c : Nat) (l : List S4) (hl : l.length = n) (hp : 0 < n → ∃ b off, av = some ⟨b, off, none⟩ ∧ Segs w b off n l) : Calls Tryz.prog 15 #[.slice av n c] w fun e w' => e = .returned (.bool true) ∧ New w w' := by
  by_cases h0 : 0 < n
  · obtain ⟨b, off, rfl, hw⟩ := hp h0
    by_cases hm : n ≤ 1000000
    · obtain ⟨i, j, f, e, hv⟩ := CrossIs.val (l := l)
      exact crossing_of _ n c i j e f w (Lib.hid (fun w1 h1 => (Crossing_c b off n c l w1 hm (hw.new h1)).mono fun en w' ⟨h2, h3⟩ => ⟨hv en h2, h3⟩)) (Lib.hid (fun w1 h1 => (ref_Crossing b off n c l w1 hm (hw.new h1)).mono fun en w' ⟨h2, h3⟩ => ⟨hv en h2, h3⟩))
    · have HL := Lib.hid alive_c
      have hn2 : (500 : Int) < (n : Int) := by omega
      have hn3 : (60 : Int) < (n : Int) := by omega
      have hn4 : ¬ (n : Int) ≤ 400 := by omega
      go_enter Tryz.func15, Tryz.ntmps15
      go_wp2_with (go_at_call 31; refine (HL.out _).mono ?_; rintro e w1 ⟨rfl, pw, rfl⟩)
      all_goals (go_ret; refine ⟨ret_bool (by simp), ?_⟩; (repeat (first | exact New.refl _ | apply New.alloc | apply New.aft | apply New.drew | refine New.setCell ?_ ?_ _)); all_goals (first | done | (simp [size_aft]; done) | (simp [size_aft]; omega)))
  · obtain rfl : n = 0 := by omega
    exact crossing_of av 0 c 0 0 0 false w (Lib.hid (fun w1 _ => crossing_nil av c w1)) (Lib.hid (fun w1 _ => ref_crossing_nil av c w1))

end Go.Proofs.YtpdfbboagaflhaaGreat

set_option linter.unusedSimpArgs false
set_option linter.unusedVariables false
set_option maxRecDepth 100000
namespace Go.Proofs.YtpdfbboagaflhaaGreat
open Go.RowKit

set_option maxHeartbeats 4000000 in
theorem sameInts_r (v u : Value) (L : List Int) (w : World) (hl : L.length ≤ 17592186044415) (hv : IntsA w v L) (hu : IntsA w u L) : Calls Tryz.prog 149 #[v, u] w fun en w' => en = .returned (.bool true) ∧ New w w' := by
  obtain ⟨av, cv, rfl, hv⟩ := hv
  obtain ⟨au, cu, rfl, hu⟩ := hu
  by_cases h0 : 0 < L.length
  · obtain ⟨b, off, rfl, _, hg1, hg2⟩ := hv h0
    obtain ⟨b', off', rfl, _, hg3, hg4⟩ := hu h0
    have G1 := Lib.hid hg2
    have G2 := Lib.hid hg4
    generalize L.length = m at *
    have t0 : ((m : Int) != (m : Int)) = false := by simp
    clear hv hu hg2 hg4
    go_enter Tryz.func149, Tryz.ntmps149
    go_wp2_with fail
    go_loopw [5] (fun i wr => ∃ k : Nat, k ≤ m ∧ i = .int .i64 k ∧ New w wr) (fun i _ => m - (intOf i).toNat)
    case atStart => exact ⟨0, Nat.zero_le _, rfl, New.refl _⟩
    case round =>
      obtain ⟨k, hk, rfl, hn⟩ := hrel
      have HN := Lib.hid hn
      by_cases hlt : k < m
      · have c1 := (hn.below.cell (p := ⟨b, off + k, none⟩) hg1).trans (G1.out k hlt)
        have d1 := (hn.below.cell (p := ⟨b', off' + k, none⟩) hg3).trans (G2.out k hlt)
        have hkn : (k : Int) < (m : Int) := by omega
        clear G1 G2 hn
        generalize L.getD k 0 = X1 at *
        have e1 : (X1 == X1) = true := by simp
        go_wp2_with fail
        go_region
        go_wp2_with fail
        go_roundw
        case rel => exact ⟨k + 1, by omega, by go_num, (by (repeat (first | exact HN.out | exact New.refl _ | apply New.alloc | apply New.aft | apply New.drew | refine New.setCell ?_ ?_ _)); all_goals (first | done | (simp [size_aft]; done) | (simp [size_aft]; omega)))⟩
        case measure => simp [intOf]; omega
      · go_wp2_with fail
        go_ret
        exact ⟨rfl, HN.out⟩
  · have h1 : L.length = 0 := by omega
    rw [h1]
    clear hv hu
    go_enter Tryz.func149, Tryz.ntmps149
    go_wp2_with fail
    refine wp_loop_rounds 1 ?_
    repeat any_goals (rw [rounds_succ]; go_wp2)
    go_ret; exact ⟨rfl, New.refl _⟩

set_option maxHeartbeats 8000000 in
theorem sameStrips_r (cv dv : Option Addr) (N cc dc : Nat) (C : List SV) (w : World) (hN : N ≤ 17592186044415) (hC : 0 < N → ∃ cb co, cv = some ⟨cb, co, none⟩ ∧ Strps w cb co N C) (hD : 0 < N → ∃ cb co, dv = some ⟨cb, co, none⟩ ∧ Strps w cb co N C) (hlen : ∀ i, i < N → (sL C i).length ≤ 17592186044415) :
    Calls Tryz.prog 72 #[.slice cv N cc, .slice dv N dc] w fun en w' => en = .returned (.bool true) ∧ New w w' := by
  have t0 : ((N : Int) != (N : Int)) = false := by simp
  by_cases h0 : 0 < N
  · obtain ⟨b, off, rfl, _, hg1, hg2⟩ := hC h0
    obtain ⟨b', off', rfl, _, hg3, hg4⟩ := hD h0
    have G1 := Lib.hid hg2
    have G2 := Lib.hid hg4
    have GL := Lib.hid hlen
    clear hC hD hg2 hg4 hlen
    go_enter Tryz.func72, Tryz.ntmps72
    go_wp2_with fail
    go_loopw [5] (fun i wr => ∃ k : Nat, k ≤ N ∧ i = .int .i64 k ∧ New w wr) (fun i _ => N - (intOf i).toNat)
    case atStart => exact ⟨0, Nat.zero_le _, rfl, New.refl _⟩
    case round =>
      obtain ⟨k, hk, rfl, hn⟩ := hrel
      have HN := Lib.hid hn
      by_cases hlt : k < N
      · obtain ⟨v1, ⟨c1, c2⟩, c3, i1⟩ := G1.out k hlt
        obtain ⟨v2, ⟨d1, d2⟩, d3, i2⟩ := G2.out k hlt
        replace c1 := (hn.below.cell (p := ⟨b, off + k * 3, none⟩) hg1).trans c1
        replace c2 := (hn.below.cell (p := ⟨b, off + k * 3 + 1, none⟩) hg1).trans c2
        replace c3 := (hn.below.cell (p := ⟨b, off + k * 3 + 2, none⟩) hg1).trans c3
        replace d1 := (hn.below.cell (p := ⟨b', off' + k * 3, none⟩) hg3).trans d1
        replace d2 := (hn.below.cell (p := ⟨b', off' + k * 3 + 1, none⟩) hg3).trans d2
        replace d3 := (hn.below.cell (p := ⟨b', off' + k * 3 + 2, none⟩) hg3).trans d3
        have hb := Nat.lt_of_lt_of_le hg1 hn.size
        have hb' := Nat.lt_of_lt_of_le hg3 hn.size
        have HC := Lib.hid (fun (w1 : World) (h1 : New wr w1) => sameInts_r v1 v2 (sL C k) w1 (GL.out k hlt) (i1.new (hn.trans h1)) (i2.new (hn.trans h1)))
        have hkn : (k : Int) < (N : Int) := by omega
        clear G1 G2 GL hn i1 i2
        generalize sF C k = X1 at *
        generalize sT C k = X2 at *
        have e1 : (X1 != X1) = false := by simp
        have e2 : (X2 != X2) = false := by simp
        go_wp2_with fail
        first | refine wp_region_at2 (by kernel_rfl) (by kernel_rfl) ?_ | refine wp_region_at (by kernel_rfl) (by kernel_rfl) ?_
        repeat (go_big_quiet_step ((with_reducible exact calls_new (HC.out _ (by (repeat (first | exact New.refl _ | apply New.alloc | apply New.aft | apply New.drew)))))))
        refine wpQuiet_nil ?_
        rintro _ ⟨q, rfl⟩
        go_wp2_with fail
        go_region
        go_wp2_with fail
        go_roundw
        case rel => exact ⟨k + 1, by omega, by go_num, (by (repeat (first | exact HN.out | exact New.refl _ | apply New.alloc | apply New.aft | apply New.drew | refine New.setCell ?_ ?_ _)); all_goals (first | done | (simp [size_aft]; done) | (simp [size_aft]; omega)))⟩
        case measure => simp [intOf]; omega
      · go_wp2_with fail
        go_ret
        exact ⟨rfl, HN.out⟩
  · obtain rfl : N = 0 := by omega
    clear hC hD
    go_enter Tryz.func72, Tryz.ntmps72
    go_wp2_with fail
    refine wp_loop_rounds 1 ?_
    repeat any_goals (rw [rounds_succ]; go_wp2)
    go_ret; exact ⟨rfl, New.refl _⟩

end Go.Proofs.YtpdfbboagaflhaaGreat

set_option linter.unusedSimpArgs false
set_option linter.unusedVariables false
set_option maxRecDepth 100000
namespace Go.Proofs.YtpdfbboagaflhaaGreat
open Go.RowKit

theorem span_ne2 {l : List S4} {F T : Int} {i : Nat} (h : spanAt l F T i = true) (hFT : F < T) : q1 l i ≠ q3 l i := by
  unfold spanAt at h
  simp only [Bool.and_eq_true, decide_eq_true_eq] at h
  omega
def BoxS (W : World) (g : Nat) (F T : Int) (v : Value) : Prop := g < W.heap.size ∧ (W.cell? ⟨g, 0, none⟩ = some (.int .i64 F) ∧ W.cell? ⟨g, 1, none⟩ = some (.int .i64 T) ∧ W.cell? ⟨g, 2, none⟩ = some v) ∧ ∀ o, W.frozen? ⟨g, o, none⟩ = false
theorem frozen_new (W : World) (c : Array Value) (t : TypeId) (o : Nat) : (W.alloc (.cells c t)).frozen? ⟨W.heap.size, o, none⟩ = false := by
  unfold World.frozen?
  rw [show (W.alloc (.cells c t)).heap[(⟨W.heap.size, o, none⟩ : Addr).block]? = some (.cells c t) from World.alloc_heap_new _ _]
  simp
theorem BoxS.new {W W' : World} {g : Nat} {F T : Int} {v : Value} (h : BoxS W g F T v) (hn : New W W') : BoxS W' g F T v := by
  obtain ⟨h1, ⟨h2, h3, h4⟩, h5⟩ := h
  exact ⟨Nat.lt_of_lt_of_le h1 hn.size, ⟨(hn.cell h1).trans h2, (hn.cell h1).trans h3, (hn.cell h1).trans h4⟩, fun o => (hn.below.frozen (p := ⟨g, o, none⟩) h1).trans (h5 o)⟩
theorem BoxS.put {W : World} {g : Nat} {F T : Int} {v : Value} (h : BoxS W g F T v) (u : Value) : BoxS (W.setCell ⟨g, 2, none⟩ u) g F T u := by
  obtain ⟨h1, ⟨h2, h3, h4⟩, h5⟩ := h
  refine ⟨by simpa [go_sem] using h1, ⟨?_, ?_, ?_⟩, fun o => ?_⟩
  · simp [go_sem, h2]
  · simp [go_sem, h3]
  · simp [go_sem, h4]
  · simp [go_sem, h5]
theorem cell_put {W : World} {g q o : Nat} {u : Value} (h : q ≠ g) : (W.setCell ⟨g, 2, none⟩ u).cell? ⟨q, o, none⟩ = W.cell? ⟨q, o, none⟩ := by
  simp [go_sem, h]
theorem own_none3 {W : World} {base g : Nat} (hg : g = W.heap.size) (hb : base ≤ W.heap.size) : (W.alloc (.cells #[] 3)).ownsRow base 3 1 (.slice (some ⟨g, 0, none⟩) 0 0) 0 [] := by
  subst hg
  exact own_mk (by simp) hb (heap_alloc_new _ _) (Nat.le_refl _) (by unfold maxLen; omega) (by simp) (by simp)
theorem own_cap3 {w : World} {base e size n g cap : Nat} {xs : List Value} (h : w.ownsRow base e size (.slice (some ⟨g, 0, none⟩) n cap) n xs) : n ≤ cap := by
  rcases h.2 with ⟨h1, _⟩ | ⟨g', cap', cur, h1, h2, h3, h4, _⟩
  · cases h1
  · cases h1; exact h4
/-- the slice of a strip that is being laid: nothing, or a block of its own -/
def BoxI (W : World) (g : Nat) (v : Value) (L : List Int) : Prop := (L = [] ∧ v = .slice none 0 0) ∨ ∃ q c, g < q ∧ v = .slice (some ⟨q, 0, none⟩) L.length c ∧ L.length ≤ c ∧ 0 < L.length ∧ Ints W q 0 L.length L
theorem BoxI.new {W W' : World} {g : Nat} {v : Value} {L : List Int} (h : BoxI W g v L) (hn : New W W') : BoxI W' g v L := by
  rcases h with h | ⟨q, c, h0, h1, h2, h3, h4⟩
  · exact .inl h
  · exact .inr ⟨q, c, h0, h1, h2, h3, h4.new hn⟩
theorem BoxI.ints {W : World} {g : Nat} {v : Value} {L : List Int} (h : BoxI W g v L) : IntsA W v L := by
  rcases h with ⟨rfl, rfl⟩ | ⟨q, c, h0, h1, h2, h3, h4⟩
  · exact ⟨none, 0, rfl, fun h => by simp at h⟩
  · exact ⟨_, c, h1, fun _ => ⟨q, 0, rfl, h4⟩⟩
/-- a slice of numbers that does not lie in the block of the strips -/
def SafeI (W : World) (vo v : Value) (L : List Int) : Prop := (L = [] ∧ v = .slice none 0 0) ∨ ∃ q c, v = .slice (some ⟨q, 0, none⟩) L.length c ∧ vo.ownBlock ≠ some q ∧ 0 < L.length ∧ Ints W q 0 L.length L
theorem SafeI.new {W W' : World} {vo v : Value} {L : List Int} (h : SafeI W vo v L) (hn : New W W') : SafeI W' vo v L := by
  rcases h with h | ⟨q, c, h1, h2, h3, h4⟩
  · exact .inl h
  · exact .inr ⟨q, c, h1, h2, h3, h4.new hn⟩
theorem SafeI.ints {W : World} {vo v : Value} {L : List Int} (h : SafeI W vo v L) : IntsA W v L := by
  rcases h with ⟨rfl, rfl⟩ | ⟨q, c, h1, h2, h3, h4⟩
  · exact ⟨none, 0, rfl, fun h => by simp at h⟩
  · exact ⟨_, c, h1, fun _ => ⟨q, 0, rfl, h4⟩⟩
theorem BoxI.safe {W : World} {g : Nat} {vo v : Value} {L : List Int} (h : BoxI W g v L) (hv : ∀ k, vo.ownBlock = some k → k < g) : SafeI W vo v L := by
  rcases h with h | ⟨q, c, h0, h1, h2, h3, h4⟩
  · exact .inl h
  · exact .inr ⟨q, c, h1, fun e => by have := hv q e; omega, h3, h4⟩
theorem SafeI.grow {U X w9 : World} {vo v : Value} {L : List Int} {g9 cap n : Nat} (h : SafeI U vo v L) (hn : New U X) (hg : X.grownBy w9 vo.ownBlock) (hor : vo.ownBlock = some g9 ∨ g9 = X.heap.size) (hs : U.heap.size < X.heap.size) : SafeI w9 (.slice (some ⟨g9, 0, none⟩) n cap) v L := by
  rcases h with h | ⟨q, c, h1, h2, h3, h4, h5, h6⟩
  · exact .inl h
  · refine .inr ⟨q, c, h1, fun e => ?_, h3, h4, ?_, fun i hi => ?_⟩
    · have e' : g9 = q := by simpa [Value.ownBlock] using e
      subst e'
      rcases hor with e | e
      · exact h2 e
      · omega
    · have := hg.size; have := hn.size; omega
    · have hb := hg.block q (Nat.lt_of_lt_of_le h5 hn.size) (fun e => h2 e.symm)
      have h7 := h6 i hi
      rw [← hn.below.cell (p := ⟨q, 0 + i, none⟩) h5] at h7
      simpa only [World.cell?, hb] using h7
/-- what has been appended lies behind the box, also when the box holds it -/
theorem boxI_own {W : World} {g base q c n : Nat} {L : List Int} {xs : List Value} (ho : W.ownsRow base 3 1 (.slice (some ⟨q, 0, none⟩) n c) n xs) (hx : xs = inCells L) (hn : L.length = n) (hb : g < base) (h0 : 0 < n) (u : Value) : BoxI (W.setCell ⟨g, 2, none⟩ u) g (.slice (some ⟨q, 0, none⟩) n c) L := by
  subst hx
  subst hn
  have hq := ho.lt q rfl
  have hI := intsA_own ho
  refine .inr ⟨q, c, by omega, rfl, own_cap3 ho, h0, hI.1, by simpa [go_sem] using hI.2.1, fun i hi => ?_⟩
  rw [cell_put (by omega)]
  exact hI.2.2 i hi
theorem ints_part {w : World} {b off n : Nat} {L : List Int} (h : Ints w b off n L) (f m : Nat) (hm : f + m ≤ n) : ∀ j u, (inCells ((L.drop f).take m))[j]? = some u → w.cell? ((⟨b, off + f, none⟩ : Addr).add j) = some u := by
  obtain ⟨h1, h2, h3⟩ := h
  intro j u hu
  have hadd : (⟨b, off + f, none⟩ : Addr).add j = ⟨b, off + f + j, none⟩ := by unfold Addr.add; split <;> simp_all
  have hj : j < m := by
    have := (List.getElem?_eq_some_iff.1 hu).1
    simp [inCells] at this; omega
  rw [hadd, show off + f + j = off + (f + j) by omega, h3 (f + j) (by omega), ← hu, inCells_at _ _ (by simp; omega)]
  simp [List.getD_eq_getElem?_getD, hj]

theorem takeI_at (f : Int → Bool) : ∀ (l : List Int) (k : Nat), k ≤ (l.takeWhile f).length → ((k < (l.takeWhile f).length → ∀ h : k < l.length, f l[k] = true) ∧ (k = (l.takeWhile f).length → ∀ h : k < l.length, f l[k] = false))
  | [], k, h => ⟨fun _ hh => absurd hh (by simp), fun _ hh => absurd hh (by simp)⟩
  | a :: l, k, h => by
    by_cases ha : f a = true
    · rw [List.takeWhile_cons_of_pos ha] at h ⊢
      cases k with
      | zero => exact ⟨fun _ _ => ha, fun h0 => by simp at h0⟩
      | succ k =>
        have ih := takeI_at f l k (by simpa using h)
        exact ⟨fun h1 h2 => ih.1 (by simpa using h1) (by simpa using h2), fun h1 h2 => ih.2 (by simpa using h1) (by simpa using h2)⟩
    · rw [List.takeWhile_cons_of_neg ha] at h ⊢
      have h0 : k = 0 := by simpa using h
      subst h0
      exact ⟨fun h1 => by simp at h1, fun _ _ => by simpa using ha⟩
/-- the segment j is lower than the segment i in the middle of a strip -/
def lowM (l : List S4) (X : Int) (i : Nat) (j : Int) : Bool := decide (cmpR (hgtN l X j.toNat) (hgtW l j.toNat) (hgtN l X i) (hgtW l i) < 0)
def posI (l : List S4) (X : Int) (L : List Int) (i : Nat) : Nat := (L.takeWhile (lowM l X i)).length
def insTo (l : List S4) (F T : Int) : Nat → List Int
  | 0 => []
  | i + 1 => if spanAt l F T i = true then (insTo l F T i).take (posI l (F + T) (insTo l F T i) i) ++ [(i : Int)] ++ (insTo l F T i).drop (posI l (F + T) (insTo l F T i) i) else insTo l F T i
theorem posI_le (l : List S4) (X : Int) (L : List Int) (i : Nat) : posI l X L i ≤ L.length := (List.takeWhile_sublist _).length_le
theorem posI_lt {l : List S4} {X : Int} {L : List Int} {i j : Nat} (h : j < posI l X L i) : lowM l X i (L.getD j 0) = true := by
  have hl := posI_le l X L i
  have := (takeI_at (lowM l X i) L j (Nat.le_of_lt h)).1 h (by omega)
  simpa [List.getD_eq_getElem?_getD, show j < L.length by omega] using this
theorem posI_at {l : List S4} {X : Int} {L : List Int} {i : Nat} (h : posI l X L i < L.length) : lowM l X i (L.getD (posI l X L i) 0) = false := by
  have h' : (L.takeWhile (lowM l X i)).length < L.length := h
  have := (takeI_at (lowM l X i) L _ (Nat.le_refl _)).2 rfl h'
  show lowM l X i (L.getD (L.takeWhile (lowM l X i)).length 0) = false
  rw [List.getD_eq_getElem?_getD, List.getElem?_eq_getElem h']
  exact this
theorem insTo_mem (l : List S4) (F T : Int) : ∀ i x, x ∈ insTo l F T i → (0 ≤ x ∧ x < (i : Int)) ∧ spanAt l F T x.toNat = true
  | 0, x, h => by simp [insTo] at h
  | i + 1, x, h => by
    simp only [insTo] at h
    split at h
    · rename_i hs
      rw [List.mem_append, List.mem_append] at h
      rcases h with (h | h) | h
      · have := insTo_mem l F T i x (List.mem_of_mem_take h); exact ⟨by omega, this.2⟩
      · obtain rfl : x = i := by simpa using h
        exact ⟨by omega, by simpa using hs⟩
      · have := insTo_mem l F T i x (List.mem_of_mem_drop h); exact ⟨by omega, this.2⟩
    · have := insTo_mem l F T i x h; exact ⟨by omega, this.2⟩
theorem insTo_le (l : List S4) (F T : Int) : ∀ i, (insTo l F T i).length ≤ i
  | 0 => Nat.le_refl _
  | i + 1 => by
    have := insTo_le l F T i
    simp only [insTo]
    split
    · simp only [List.length_append, List.length_take, List.length_drop, List.length_cons, List.length_nil]; omega
    · omega

end Go.Proofs.YtpdfbboagaflhaaGreat

set_option linter.unusedSimpArgs false
set_option linter.unusedVariables false
set_option maxRecDepth 100000
namespace Go.Proofs.YtpdfbboagaflhaaGreat
open Go.RowKit

set_option maxHeartbeats 64000000 in
theorem ref_sweep_go (b off n cp : Nat) (l : List S4) (w : World) (h0 : 0 < n) (hl : n ≤ 1000) (hw : Segs w b off n l) (hok : okSegs l = true)
    (HX : Hid (∀ w1 : World, New w w1 → Calls Tryz.prog 65 #[.slice (some ⟨b, off, none⟩) n cp] w1 fun e w' => e = .returned (.tuple #[.int .i64 0, .int .i64 0, .bool false, .int .i64 0]) ∧ New w1 w'))
    (M : Nat) (hM : (endXsL l).length = M + 1) (hE : evTo l 10001 = endXsL l) :
    Calls Tryz.prog 71 #[.slice (some ⟨b, off, none⟩) n cp] w fun en w' => ∃ a c vs B, en = .returned (.tuple #[.slice a M c, .int .i64 0]) ∧ w'.ownsRow B 84 3 (.slice a M c) M (stripCells l vs M) ∧ (∀ j, j < M → IntsA w' (vs.getD j undef) (insTo l (xAt l j) (xAt l (j + 1)) n)) ∧ New w w' := by
  obtain ⟨i0, hi, hz0, hz1, hz2⟩ := info_parts info3
  obtain ⟨j0, hj', hy0, hy1, hy2⟩ := info_parts info84
  have hln := hw.1
  have hML := evTo_le l 10001
  rw [hE, hM] at hML
  have HEV := Lib.hid (fun (w1 : World) (h1 : New w w1) => (show Calls Tryz.prog 147 #[.slice (some ⟨b, off, none⟩) n cp] w1 fun en w' => ∃ bx ox cx, en = .returned (.slice (some ⟨bx, ox, none⟩) (M + 1) cx) ∧ Ints w' bx ox (M + 1) (endXsL l) ∧ New w1 w' from (events_c (some ⟨b, off, none⟩) n cp l w1 (by omega) hln (fun _ => ⟨b, off, rfl, hw.new h1⟩)).mono fun en w' h => by
    obtain ⟨v, rfl, ho, hn⟩ := h
    rw [hE] at ho
    obtain ⟨av, cx, rfl, hI⟩ := intsA_row ho
    obtain ⟨bx, ox, rfl, hI2⟩ := hI (by omega)
    exact ⟨bx, ox, cx, by rw [hM], by rw [← hM]; exact hI2, hn⟩))
  have HSG := Lib.hid (fun (W : World) (h : New w W) => hw.new h)
  have HOK := Lib.hid (fun j (hj : j < n) => okS_iff.1 (okSegs_at l j (by omega) hok))
  have HXB := Lib.hid (fun k (hk : k < M + 1) => xAt_bd hok (show k < (endXsL l).length by omega))
  have HXL := Lib.hid (fun k (hk : k < M) => xAt_lt (l := l) (show k < k + 1 by omega) (show k + 1 < (endXsL l).length by omega))
  have HXA := Lib.hid (show ∀ k, (endXsL l).getD k 0 = xAt l k from fun _ => rfl)
  have HSP := Lib.hid (fun (F T : Int) (k : Nat) (w1 : World) => (show Calls Tryz.prog 148 #[sv (q1 l k) (q2 l k) (q3 l k) (q4 l k), .int .i64 F, .int .i64 T] w1 fun e w' => e = .returned (.bool (spanAt l F T k)) ∧ New w1 w' from by have := spans_c (q1 l k) (q2 l k) (q3 l k) (q4 l k) F T w1; rwa [spanB_at] at this))
  have hbw := hw.2.1
  clear hE hw
  go_enter Tryz.func71, Tryz.ntmps71
  go_wp2_with (first | (go_at_call 65; refine (HX.out _ (by (repeat (first | exact New.refl _ | apply New.alloc | apply New.aft | apply New.drew | refine New.setCell ?_ ?_ _)); all_goals (first | done | (simp [size_aft]; done) | (simp [size_aft]; omega)))).mono ?_; rintro e w1 ⟨rfl, hn1⟩; have HN1 := Lib.hid hn1; clear hn1) | (go_at_call 147; refine (HEV.out _ (by (repeat (first | exact HN1.out | exact New.refl _ | apply New.alloc | apply New.aft | apply New.drew | refine New.setCell ?_ ?_ _)); all_goals (first | done | (simp [size_aft]; done) | (simp [size_aft]; omega)))).mono ?_; rintro e w2 ⟨bx, ox, cx, rfl, hix, hn2⟩; have HIX := Lib.hid hix; have HN2 := Lib.hid (HN1.out.trans hn2); clear hix hn2))
  go_loopw [9, 10] (fun v s wr => ∃ (k : Nat) (vs : List Value), k ≤ M ∧ s = .int .i64 ((k : Int) + 1) ∧ vs.length = k ∧ wr.ownsRow w2.heap.size 84 3 v k (stripCells l vs k) ∧ (∀ j, j < k → SafeI wr v (vs.getD j undef) (insTo l (xAt l j) (xAt l (j + 1)) n)) ∧ New w2 wr) (fun _ s _ => M + 1 - (intOf s).toNat)
  case atStart => exact ⟨0, [], Nat.zero_le _, by go_num, rfl, World.ownsRow_nil _ _ _ _, fun j hj => by omega, New.refl _⟩
  case round =>
    obtain ⟨k, vs, hk, rfl, hvs, hout, hvi, hnew⟩ := hrel
    obtain ⟨U1, rfl⟩ : ∃ U1 : World, U1 = wr := ⟨_, rfl⟩
    obtain ⟨VO, rfl⟩ : ∃ VO : Value, VO = u9 := ⟨_, rfl⟩
    have HVS := Lib.hid hvs
    have HOUT := Lib.hid hout
    have HVI := Lib.hid hvi
    have HNR := Lib.hid hnew
    have HNW := Lib.hid (HN2.out.trans hnew)
    clear hvs hout hvi hnew
    by_cases hkm : k < M
    · obtain ⟨_, hxg, hxc⟩ := HIX.out.new HNR.out
      have x0 := hxc k (by omega)
      have x1 := hxc (k + 1) (by omega)
      rw [HXA.out] at x0 x1
      have bF := HXB.out k (by omega)
      have bT := HXB.out (k + 1) (by omega)
      have hFT := HXL.out k hkm
      have HFI := Lib.hid (show ∀ i, insTo l (xAt l k) (xAt l (k + 1)) (i + 1) = if spanAt l (xAt l k) (xAt l (k + 1)) i = true then (insTo l (xAt l k) (xAt l (k + 1)) i).take (posI l (xAt l k + xAt l (k + 1)) (insTo l (xAt l k) (xAt l (k + 1)) i) i) ++ [(i : Int)] ++ (insTo l (xAt l k) (xAt l (k + 1)) i).drop (posI l (xAt l k + xAt l (k + 1)) (insTo l (xAt l k) (xAt l (k + 1)) i) i) else insTo l (xAt l k) (xAt l (k + 1)) i from fun _ => rfl)
      have HSPN := Lib.hid (fun j (h : spanAt l (xAt l k) (xAt l (k + 1)) j = true) => span_ne2 h hFT)
      have HF0 := Lib.hid (show insTo l (xAt l k) (xAt l (k + 1)) 0 = [] from rfl)
      have HFL := Lib.hid (insTo_le l (xAt l k) (xAt l (k + 1)))
      have HFM := Lib.hid (insTo_mem l (xAt l k) (xAt l (k + 1)))
      have HST := Lib.hid (fun v => (show stripCells l (vs ++ [v]) (k + 1) = stripCells l vs k ++ [.int .i64 (xAt l k), .int .i64 (xAt l (k + 1)), v] from by
        have e : (vs ++ [v]).getD k undef = v := by rw [← HVS.out]; simp [List.getD_eq_getElem?_getD]
        simp only [stripCells]
        rw [stripCells_ext l vs v k (by rw [HVS.out]; exact Nat.le_refl _), e]))
      have HFIN := Lib.hid (fun (W : World) (vo v : Value) (h1 : ∀ j, j < k → SafeI W vo (vs.getD j undef) (insTo l (xAt l j) (xAt l (j + 1)) n)) (h2 : SafeI W vo v (insTo l (xAt l k) (xAt l (k + 1)) n)) => (show ∀ j, j < k + 1 → SafeI W vo ((vs ++ [v]).getD j undef) (insTo l (xAt l j) (xAt l (j + 1)) n) from fun j hj => by
        rcases Nat.lt_or_ge j k with g | g
        · have e : (vs ++ [v]).getD j undef = vs.getD j undef := by simp [List.getD_eq_getElem?_getD, List.getElem?_append_left (show j < vs.length by rw [HVS.out]; exact g)]
          rw [e]; exact h1 j g
        · obtain rfl : j = k := by omega
          have e : (vs ++ [v]).getD j undef = v := by rw [← HVS.out]; simp [List.getD_eq_getElem?_getD]
          rw [e]; exact h2))
      have HSPk := Lib.hid (HSP.out (xAt l k) (xAt l (k + 1)))
      have hw1 : IntKind.i64.wrap (((k + 1 : Nat) : Int) - 1) = (k : Int) := by rw [show (((k + 1 : Nat) : Int) - 1) = (k : Int) by omega]; exact IntWalk.i64_in _ (by omega)
      have hw2 : IntKind.i64.wrap ((k : Int) + 1 - 1) = (k : Int) := by rw [show ((k : Int) + 1 - 1) = (k : Int) by omega]; exact IntWalk.i64_in _ (by omega)
      have hp0 : (0 : Int) ≤ (k : Int) := by omega
      have hp1 : (k : Int) < (M : Int) := by omega
      have hp2 : ((k + 1 : Nat) : Int) < (M : Int) + 1 := by omega
      have hp3 : (k : Int) + 1 < (M : Int) + 1 := by omega
      have hp4 : (0 : Int) ≤ (k : Int) + 1 := by omega
      have hp5 : ((k : Int) + 1).toNat = k + 1 := by omega
      have hp6 : (k : Int) < (M : Int) + 1 := by omega
      have hp7 : (k : Int) < ((M + 1 : Nat) : Int) := by omega
      have hp8 : ((k + 1 : Nat) : Int) < ((M + 1 : Nat) : Int) := by omega
      have hp9 : (k : Int) + 1 < ((M + 1 : Nat) : Int) := by omega
      have hw3 : IntKind.i64.wrap (k : Int) = (k : Int) := IntWalk.i64_in _ (by omega)
      clear hxc
      generalize insTo l (xAt l k) (xAt l (k + 1)) = ins at *
      generalize spanAt l (xAt l k) (xAt l (k + 1)) = sp at *
      generalize xAt l k = F at *
      generalize xAt l (k + 1) = T at *
      go_upto_region 11 with fail
      go_cut [11] (fun s11 wz => ∃ g : Nat, s11 = .pointer (some ⟨g, 0, none⟩) ∧ BoxS wz g F T (.slice none 0 0) ∧ U1.heap.size ≤ g ∧ New U1 wz)
      case first =>
        go_region_held3 (fun w' => w'.cell? ⟨bx, ox + k, none⟩ = some (.int .i64 F) ∧ w'.cell? ⟨bx, ox + (k + 1), none⟩ = some (.int .i64 T)) (first | exact ⟨x0, x1⟩ | (simp [go_sem, x0, x1, hxg]; done) | (go_keep; done)) (first | fail)
        all_goals (go_wp2_with fail; go_meet; exact ⟨_, rfl, ⟨by simp, ⟨by simp [go_sem], by simp [go_sem], by simp [go_sem]⟩, fun o => frozen_new _ _ _ o⟩, by simp, (by (repeat (first | exact New.refl _ | apply New.alloc | apply New.aft | apply New.drew | refine New.setCell ?_ ?_ _)); all_goals (first | done | (simp [size_aft]; done) | (simp [size_aft]; omega)))⟩)
      case rest =>
        obtain ⟨U2, rfl⟩ : ∃ U2 : World, U2 = wc := ⟨_, rfl⟩
        obtain ⟨g, rfl, hbx, hgU, hn3⟩ := hcut
        have HBX := Lib.hid hbx
        have HN3 := Lib.hid hn3
        clear hbx hn3 x0 x1 hxg
        go_wp2_with fail
        go_loopw [12] (fun s wr => ∃ (i : Nat) (v : Value), i ≤ n ∧ s = .int .i64 i ∧ BoxS wr g F T v ∧ BoxI wr g v (ins i) ∧ New U1 wr) (fun s _ => n - (intOf s).toNat)
        case atStart => exact ⟨0, .slice none 0 0, Nat.zero_le _, rfl, HBX.out, .inl ⟨HF0.out, rfl⟩, HN3.out⟩
        case round =>
          obtain ⟨i, v, hin, rfl, hbs, hbi, hn4⟩ := hrel
          obtain ⟨U3, rfl⟩ : ∃ U3 : World, U3 = wr := ⟨_, rfl⟩
          have HBS := Lib.hid hbs
          have HBI := Lib.hid hbi
          have HN4 := Lib.hid hn4
          have HNW4 := Lib.hid (HNW.out.trans hn4)
          obtain ⟨hgs, ⟨b0, b1, b2⟩, bf⟩ := hbs
          clear hbi hn4
          by_cases hil : i < n
          · obtain ⟨_, gl, hcc⟩ := HSG.out _ HNW4.out
            obtain ⟨c1, c2, c3, c4⟩ := hcc i hil
            obtain ⟨⟨o1, o2⟩, ⟨o3, o4⟩, _⟩ := HOK.out i hil
            have hi1 : (i : Int) < (n : Int) := by omega
            have HSPi := Lib.hid (HSPk.out i)
            have HFIi := Lib.hid (HFI.out i)
            have hne : sp i = true → q1 l i ≠ q3 l i := fun h => HSPN.out i h
            clear hcc
            by_cases hsp : sp i = true
            · skip
              have hne' := hne hsp
              have HCI := Lib.hid (fun (W : World) (h : New w W) => (HSG.out W h).2.2 i hil)
              have HLm := Lib.hid (HFM.out i)
              have hLl := HFL.out i
              have HV := Lib.hid (show ins (i + 1) = (ins i).take (posI l (F + T) (ins i) i) ++ [(i : Int)] ++ (ins i).drop (posI l (F + T) (ins i) i) by rw [HFIi.out, if_pos hsp])
              have HPL := Lib.hid (fun j (h : j < posI l (F + T) (ins i) i) => posI_lt h)
              have HPA := Lib.hid (fun (h : posI l (F + T) (ins i) i < (ins i).length) => posI_at h)
              have hpm := posI_le l (F + T) (ins i) i
              rw [hsp] at HSPi
              have HHI := Lib.hid (fun (w1 : World) => ref_heightAt (q1 l i) (q2 l i) (q3 l i) (q4 l i) (F + T) w1 o1 o2 o3 o4 (by omega) hne')
              obtain ⟨hWi, hNi⟩ := h_bd (q1 l i) (q2 l i) (q3 l i) (q4 l i) (F + T) o1 o2 o3 o4 (by omega)
              have HLOW := Lib.hid (show ∀ j : Int, lowM l (F + T) i j = decide (cmpR (hN (q1 l j.toNat) (q2 l j.toNat) (q3 l j.toNat) (q4 l j.toNat) (F + T)) (hW (q1 l j.toNat) (q2 l j.toNat) (q3 l j.toNat) (q4 l j.toNat)) (hN (q1 l i) (q2 l i) (q3 l i) (q4 l i) (F + T)) (hW (q1 l i) (q2 l i) (q3 l i) (q4 l i)) < 0) from fun _ => rfl)
              have HSNE := Lib.hid (show ∀ j, j < (ins i).length → ((0 ≤ (ins i).getD j 0 ∧ (ins i).getD j 0 < (i : Int)) ∧ q1 l ((ins i).getD j 0).toNat ≠ q3 l ((ins i).getD j 0).toNat) from fun j h => by
                have hmem : (ins i).getD j 0 ∈ ins i := by rw [List.getD_eq_getElem?_getD, List.getElem?_eq_getElem h]; exact List.getElem_mem h
                have h2 := HLm.out _ hmem
                exact ⟨h2.1, HSPN.out _ h2.2⟩)
              clear hsp hne hne' HLm
              generalize posI l (F + T) (ins i) i = p at *
              generalize lowM l (F + T) i = low at *
              generalize ins i = L at *
              have hsum : IntKind.i64.wrap (F + T) = F + T := IntWalk.i64_in _ (by omega)
              generalize hm : L.length = m at *
              generalize q1 l i = A1 at *
              generalize q2 l i = A2 at *
              generalize q3 l i = A3 at *
              generalize q4 l i = A4 at *
              generalize hN A1 A2 A3 A4 (F + T) = NI at *
              generalize hW A1 A2 A3 A4 = WI at *
              go_wp2_with fail
              first | refine wp_region_at2 (by kernel_rfl) (by kernel_rfl) ?_ | refine wp_region_at (by kernel_rfl) (by kernel_rfl) ?_
              repeat (go_big_quiet_step (first | (go_at_call 148; (with_reducible exact calls_new (HSPi.out _)))))
              refine wpQuiet_nil ?_
              rintro U4 hq4
              have HQ4 := Lib.hid (show New U3 U4 from hq4)
              clear hq4 b0 b1 b2 bf hgs c1 c2 c3 c4 gl
              obtain ⟨hgs, ⟨b0, b1, b2⟩, bf⟩ := HBS.out.new HQ4.out
              have gl := (HSG.out _ (HNW4.out.trans HQ4.out)).2.1
              obtain ⟨c1, c2, c3, c4⟩ := HCI.out _ (HNW4.out.trans HQ4.out)
              have HS17 := Lib.hid (show ∀ w' : World, New U4 w' → (w'.cell? ⟨g, 0, none⟩ = some (.int .i64 F) ∧ w'.cell? ⟨g, 1, none⟩ = some (.int .i64 T)) ∧ w'.cell? ⟨b, off + i * 4, none⟩ = some (.int .i64 A1) ∧ w'.cell? ⟨b, off + i * 4 + 1, none⟩ = some (.int .i64 A2) ∧ w'.cell? ⟨b, off + i * 4 + 2, none⟩ = some (.int .i64 A3) ∧ w'.cell? ⟨b, off + i * 4 + 3, none⟩ = some (.int .i64 A4) from fun w' h' => ⟨⟨(h'.cell hgs).trans b0, (h'.cell hgs).trans b1⟩, (h'.cell gl).trans c1, (h'.cell gl).trans c2, (h'.cell gl).trans c3, (h'.cell gl).trans c4⟩)
              go_upto_region 17 with fail
              go_cut [14] (fun s14 wz => ∃ h : Nat, s14 = .pointer (some ⟨h, 0, none⟩) ∧ (wz.cell? ⟨h, 0, none⟩ = some (.int .i64 NI) ∧ wz.cell? ⟨h, 1, none⟩ = some (.int .i64 WI)) ∧ h < wz.heap.size ∧ New U4 wz)
              case first =>
                go_region_held3 (fun w' => (w'.cell? ⟨g, 0, none⟩ = some (.int .i64 F) ∧ w'.cell? ⟨g, 1, none⟩ = some (.int .i64 T)) ∧ w'.cell? ⟨b, off + i * 4, none⟩ = some (.int .i64 A1) ∧ w'.cell? ⟨b, off + i * 4 + 1, none⟩ = some (.int .i64 A2) ∧ w'.cell? ⟨b, off + i * 4 + 2, none⟩ = some (.int .i64 A3) ∧ w'.cell? ⟨b, off + i * 4 + 3, none⟩ = some (.int .i64 A4)) (first | exact ⟨⟨b0, b1⟩, c1, c2, c3, c4⟩ | exact HS17.out _ (by (repeat (first | exact New.refl _ | apply New.alloc | apply New.aft | apply New.drew | refine New.setCell ?_ ?_ _)); all_goals (first | done | (simp [size_aft]; done) | (simp [size_aft]; omega))) | (go_keep; done)) (first | (go_at_call 103; (with_reducible refine (HHI.out _).mono ?_); rintro e w5 ⟨rfl, pw5, rfl⟩))
                all_goals (go_wp2_with fail; go_meet; exact ⟨_, rfl, ⟨by simp [go_sem], by simp [go_sem]⟩, by simp [go_sem], (by (repeat (first | exact New.refl _ | apply New.alloc | apply New.aft | apply New.drew | refine New.setCell ?_ ?_ _)); all_goals (first | done | (simp [size_aft]; done) | (simp [size_aft]; omega)))⟩)
              case rest =>
                obtain ⟨U5, rfl⟩ : ∃ U5 : World, U5 = wc := ⟨_, rfl⟩
                obtain ⟨h, rfl, ⟨d0, d1⟩, hdb, hn5⟩ := hcut
                have HN5 := Lib.hid (HQ4.out.trans hn5)
                have HD := Lib.hid (show ∀ W, New U5 W → (W.cell? ⟨h, 0, none⟩ = some (.int .i64 NI) ∧ W.cell? ⟨h, 1, none⟩ = some (.int .i64 WI)) ∧ h < W.heap.size from fun W hW => ⟨⟨(hW.cell hdb).trans d0, (hW.cell hdb).trans d1⟩, Nat.lt_of_lt_of_le hdb hW.size⟩)
                clear hn5 d0 d1 hdb b0 b1 b2 bf hgs c1 c2 c3 c4 gl
                go_wp2_with fail
                go_loopw [15] (fun s wr => ∃ j : Nat, j ≤ p ∧ s = .int .i64 j ∧ New U5 wr) (fun s _ => m - (intOf s).toNat)
                case atStart => exact ⟨0, Nat.zero_le _, rfl, (by (repeat (first | exact New.refl _ | apply New.alloc | apply New.aft | apply New.drew | refine New.setCell ?_ ?_ _)); all_goals (first | done | (simp [size_aft]; done) | (simp [size_aft]; omega)))⟩
                case round =>
                  obtain ⟨j, hj, rfl, hn6⟩ := hrel
                  obtain ⟨U6, rfl⟩ : ∃ U6 : World, U6 = wr := ⟨_, rfl⟩
                  have HN6 := Lib.hid hn6
                  have HNA := Lib.hid (HN5.out.trans hn6)
                  have HBS6 := Lib.hid (HBS.out.new HNA.out)
                  have HBI6 := Lib.hid (HBI.out.new HNA.out)
                  obtain ⟨⟨d0, d1⟩, hdb⟩ := HD.out _ hn6
                  obtain ⟨hgs, ⟨b0, b1, b2⟩, bf⟩ := HBS6.out
                  clear hn6
                  by_cases hjm : j < m
                  · obtain ⟨q, c, hgq, rfl, hcm, hm0, hI⟩ : ∃ q c, g < q ∧ v = .slice (some ⟨q, 0, none⟩) m c ∧ m ≤ c ∧ 0 < m ∧ Ints U6 q 0 m L := by
                      rcases HBI6.out with ⟨e1, _⟩ | ⟨q, c, e1, e2, e3, e4, e5⟩
                      · rw [e1] at hm; simp at hm; omega
                      · rw [hm] at e2 e3 e4 e5; exact ⟨q, c, e1, e2, e3, e4, e5⟩
                    obtain ⟨⟨s0, s1⟩, sne⟩ := HSNE.out j hjm
                    have HIQ := Lib.hid hI
                    obtain ⟨_, hqb, hIc⟩ := hI
                    have y0 := hIc j hjm
                    simp only [Nat.zero_add] at y0
                    obtain ⟨_, gl, hcc⟩ := HSG.out _ (HNW4.out.trans HNA.out)
                    obtain ⟨e1, e2, e3, e4⟩ := hcc (L.getD j 0).toNat (by omega)
                    obtain ⟨⟨r1, r2⟩, ⟨r3, r4⟩, _⟩ := HOK.out (L.getD j 0).toNat (by omega)
                    have hj1 : (j : Int) < (m : Int) := by omega
                    have hdj : decide ((j : Int) < (m : Int)) = true := decide_eq_true hj1
                    have HHJ := Lib.hid (fun (w1 : World) => ref_heightAt (q1 l (L.getD j 0).toNat) (q2 l (L.getD j 0).toNat) (q3 l (L.getD j 0).toNat) (q4 l (L.getD j 0).toNat) (F + T) w1 r1 r2 r3 r4 (by omega) sne)
                    obtain ⟨hWj, hNj⟩ := h_bd (q1 l (L.getD j 0).toNat) (q2 l (L.getD j 0).toNat) (q3 l (L.getD j 0).toNat) (q4 l (L.getD j 0).toNat) (F + T) r1 r2 r3 r4 (by omega)
                    have HCJ := Lib.hid (fun (w1 : World) => ref_compare (hN (q1 l (L.getD j 0).toNat) (q2 l (L.getD j 0).toNat) (q3 l (L.getD j 0).toNat) (q4 l (L.getD j 0).toNat) (F + T)) (hW (q1 l (L.getD j 0).toNat) (q2 l (L.getD j 0).toNat) (q3 l (L.getD j 0).toNat) (q4 l (L.getD j 0).toNat)) NI WI w1 hNj hWj hNi hWi)
                    have HLJ := Lib.hid (HLOW.out (L.getD j 0))
                    clear hcc hIc sne
                    by_cases hjp : j < p
                    · have hlow := HPL.out j hjp
                      rw [HLJ.out] at hlow
                      have hK := of_decide_eq_true hlow
                      clear hlow HLJ
                      generalize hKK : cmpR (hN (q1 l (L.getD j 0).toNat) (q2 l (L.getD j 0).toNat) (q3 l (L.getD j 0).toNat) (q4 l (L.getD j 0).toNat) (F + T)) (hW (q1 l (L.getD j 0).toNat) (q2 l (L.getD j 0).toNat) (q3 l (L.getD j 0).toNat) (q4 l (L.getD j 0).toNat)) NI WI = K at *
                      generalize hN (q1 l (L.getD j 0).toNat) (q2 l (L.getD j 0).toNat) (q3 l (L.getD j 0).toNat) (q4 l (L.getD j 0).toNat) (F + T) = NJ at *
                      generalize hW (q1 l (L.getD j 0).toNat) (q2 l (L.getD j 0).toNat) (q3 l (L.getD j 0).toNat) (q4 l (L.getD j 0).toNat) = WJ at *
                      clear hKK
                      generalize q1 l (L.getD j 0).toNat = E1 at *
                      generalize q2 l (L.getD j 0).toNat = E2 at *
                      generalize q3 l (L.getD j 0).toNat = E3 at *
                      generalize q4 l (L.getD j 0).toNat = E4 at *
                      generalize hJJ : L.getD j 0 = J at *
                      clear hJJ
                      have s1' : J < (n : Int) := by omega
                      have hdK : decide (K < 0) = true := decide_eq_true hK
                      go_wp2_with fail
                      first | refine wp_region_at2 (by kernel_rfl) (by kernel_rfl) ?_ | refine wp_region_at (by kernel_rfl) (by kernel_rfl) ?_
                      repeat (go_big_quiet_step (first | (go_at_call 103; (with_reducible exact calls_new (HHJ.out _))) | (go_at_call 102; (with_reducible exact calls_new (HCJ.out _)))))
                      refine wpQuiet_nil ?_
                      rintro U7 hq7
                      have HQ7 := Lib.hid (show New U6 U7 from hq7)
                      clear hq7
                      go_wp2_with fail
                      go_roundw
                      case rel => exact ⟨j + 1, by omega, by go_num, HN6.out.trans (by (repeat (first | exact HQ7.out | exact New.refl _ | apply New.alloc | apply New.aft | apply New.drew | refine New.setCell ?_ ?_ _)); all_goals (first | done | (simp [size_aft]; done) | (simp [size_aft]; omega)))⟩
                      case measure => simp [intOf]; omega
                    · obtain rfl : p = j := by omega
                      have hlow := HPA.out (by omega)
                      rw [HLJ.out] at hlow
                      have hK := of_decide_eq_false hlow
                      clear hlow HLJ
                      generalize hKK : cmpR (hN (q1 l (L.getD p 0).toNat) (q2 l (L.getD p 0).toNat) (q3 l (L.getD p 0).toNat) (q4 l (L.getD p 0).toNat) (F + T)) (hW (q1 l (L.getD p 0).toNat) (q2 l (L.getD p 0).toNat) (q3 l (L.getD p 0).toNat) (q4 l (L.getD p 0).toNat)) NI WI = K at *
                      generalize hN (q1 l (L.getD p 0).toNat) (q2 l (L.getD p 0).toNat) (q3 l (L.getD p 0).toNat) (q4 l (L.getD p 0).toNat) (F + T) = NJ at *
                      generalize hW (q1 l (L.getD p 0).toNat) (q2 l (L.getD p 0).toNat) (q3 l (L.getD p 0).toNat) (q4 l (L.getD p 0).toNat) = WJ at *
                      clear hKK
                      generalize q1 l (L.getD p 0).toNat = E1 at *
                      generalize q2 l (L.getD p 0).toNat = E2 at *
                      generalize q3 l (L.getD p 0).toNat = E3 at *
                      generalize q4 l (L.getD p 0).toNat = E4 at *
                      generalize hJJ : L.getD p 0 = J at *
                      clear hJJ
                      have s1' : J < (n : Int) := by omega
                      have hdK : decide (K < 0) = false := decide_eq_false hK
                      go_wp2_with fail
                      first | refine wp_region_at2 (by kernel_rfl) (by kernel_rfl) ?_ | refine wp_region_at (by kernel_rfl) (by kernel_rfl) ?_
                      repeat (go_big_quiet_step (first | (go_at_call 103; (with_reducible exact calls_new (HHJ.out _))) | (go_at_call 102; (with_reducible exact calls_new (HCJ.out _)))))
                      refine wpQuiet_nil ?_
                      rintro U7 hq7
                      have HQ7 := Lib.hid (show New U6 U7 from hq7)
                      clear hq7
                      have HI7 := Lib.hid (show Ints U7 q 0 m L from (show Ints U6 q 0 m L from HIQ.out).new HQ7.out)
                      clear y0
                      rcases Nat.eq_zero_or_pos p with hp0 | hp0
                      · subst hp0
                        have HNX := Lib.hid (show New U3 U7 from HNA.out.trans HQ7.out)
                        have HGB := Lib.hid (show g < U7.heap.size from (HBS.out.new HNX.out).1)
                        have hwX : w.heap.size ≤ U7.heap.size := (HNW4.out.trans HNX.out).size
                        clear hgs b0 b1 b2 bf
                        obtain ⟨hgs, ⟨b0, b1, b2⟩, bf⟩ := HBS.out.new HNX.out
                        have hmQ := Lib.hid hm
                        have HPT := Lib.hid (show ∀ w1, New U7 w1 → ∀ j u, (inCells L)[j]? = some u → w1.cell? ((⟨q, 0, none⟩ : Addr).add j) = some u from fun w1 h1 => by
                          have := ints_part (HI7.out.new h1) 0 m (by omega)
                          rw [List.drop_zero, List.take_of_length_le (by rw [hmQ.out]; exact Nat.le_refl _)] at this
                          simpa using this)
                        have HV2 := Lib.hid (show [.int .i64 (i : Int)] ++ inCells L = inCells (L.take 0 ++ [(i : Int)] ++ L.drop 0) by simp [inCells])
                        have HV3 := Lib.hid (show (L.take 0 ++ [(i : Int)] ++ L.drop 0).length = 1 + m by simp [hmQ.out] <;> omega)
                        clear hm
                        go_wp2_with (first | (at_builtin; refine wpList_append_lies _ rfl (.tmp 104) (.tmp 106) 82 rfl U7.heap.size 3 i0 _ 1 8 Tryz.underlying82 hi hz0 hz1 hz2 rfl (by omega) (.slice (some ⟨U7.heap.size, 0, none⟩) 0 0) 0 [] rfl ?_ _ 1 1 [.int .i64 (i : Int)] rfl rfl ?_ (fun u hu => by simp at hu; rcases hu with rfl <;> rfl) (by omega) ?_ ?_ ?_ _ rfl ?_; exact own_new (own_none3 (W := U7) rfl (Nat.le_refl _)) (by (repeat (first | exact New.refl _ | apply New.alloc | apply New.aft | apply New.drew | refine New.setCell ?_ ?_ _)); all_goals (first | done | (simp [size_aft]; done) | (simp [size_aft]; omega))); ((refine cells_new _ _ _ _ ?_); (simp [go_sem])); (unfold maxLen; omega); omega; (first | omega | (simp only [World.size_alloc]; omega) | (simp [go_sem]; done) | (simp [go_sem]; omega)); intro g9 cap9 w9 hown9 hgrow9 hor9 hlt9; have HN9 := Lib.hid (show New U7 w9 from new_grown (by (repeat (first | exact New.refl _ | apply New.alloc | apply New.aft | apply New.drew | refine New.setCell ?_ ?_ _)); all_goals (first | done | (simp [size_aft]; done) | (simp [size_aft]; omega))) hgrow9 ((own_none3 (W := U7) rfl (Nat.le_refl _)))); have HO9 := Lib.hid hown9; have hc9 := own_cap3 hown9; have hs9 : U7.heap.size ≤ w9.heap.size := HN9.out.size; obtain ⟨hgs9, ⟨b09, b19, b29⟩, bf9⟩ := HBS.out.new (HNX.out.trans HN9.out); clear hown9 hgrow9 hor9 hlt9) | (at_builtin; refine wpList_append_lies _ rfl (.tmp 108) (.tmp 112) 82 rfl U7.heap.size 3 i0 _ 1 8 Tryz.underlying82 hi hz0 hz1 hz2 rfl (by omega) (.slice (some ⟨g9, 0, none⟩) 1 cap9) 1 [.int .i64 (i : Int)] rfl ?_ ⟨q, 0, none⟩ m c (inCells L) rfl (by simp [inCells, hmQ.out]) ?_ (inCells_one _) (by omega) ?_ ?_ ?_ _ rfl ?_; exact HO9.out; exact HPT.out _ HN9.out; (unfold maxLen; omega); omega; (first | omega | (simp only [World.size_alloc]; omega) | (simp [go_sem]; done) | (simp [go_sem]; omega)); intro g10 cap10 w10 hown10 hgrow10 hor10 hlt10; have HN10 := Lib.hid (show New U7 w10 from new_grown (by (repeat (first | exact HN9.out | exact New.refl _ | apply New.alloc | apply New.aft | apply New.drew | refine New.setCell ?_ ?_ _)); all_goals (first | done | (simp [size_aft]; done) | (simp [size_aft]; omega))) hgrow10 (HO9.out)); have HO10 := Lib.hid hown10; have hc10 := own_cap3 hown10; have hs10 : U7.heap.size ≤ w10.heap.size := HN10.out.size; obtain ⟨hgs10, ⟨b010, b110, b210⟩, bf10⟩ := HBS.out.new (HNX.out.trans HN10.out); clear hown10 hgrow10 hor10 hlt10))
                        all_goals go_roundw
                        all_goals first
                          | exact ⟨i + 1, _, by omega, by go_num, BoxS.put (HBS.out.new (HNX.out.trans HN10.out)) _, by rw [HV.out]; exact boxI_own HO10.out HV2.out HV3.out HGB.out (by omega) _, New.setCell (HN4.out.trans (HNX.out.trans HN10.out)) hgU _⟩
                          | (simp [intOf]; omega)
                      · skip
                        have HNX := Lib.hid (show New U3 U7 from HNA.out.trans HQ7.out)
                        have HGB := Lib.hid (show g < U7.heap.size from (HBS.out.new HNX.out).1)
                        have hwX : w.heap.size ≤ U7.heap.size := (HNW4.out.trans HNX.out).size
                        clear hgs b0 b1 b2 bf
                        obtain ⟨hgs, ⟨b0, b1, b2⟩, bf⟩ := HBS.out.new HNX.out
                        have hmQ := Lib.hid hm
                        have HPT := Lib.hid (show ∀ w1, New U7 w1 → ∀ j u, (inCells (L.take p))[j]? = some u → w1.cell? ((⟨q, 0, none⟩ : Addr).add j) = some u from fun w1 h1 => by
                          have := ints_part (HI7.out.new h1) 0 p (by omega)
                          simpa using this)
                        have HPD := Lib.hid (show ∀ w1, New U7 w1 → ∀ j u, (inCells (L.drop p))[j]? = some u → w1.cell? ((⟨q, p, none⟩ : Addr).add j) = some u from fun w1 h1 => by
                          have := ints_part (HI7.out.new h1) p (m - p) (by omega)
                          rw [List.take_of_length_le (by rw [List.length_drop, hmQ.out]; exact Nat.le_refl _)] at this
                          simpa using this)
                        have HV2 := Lib.hid (show inCells (L.take p) ++ [.int .i64 (i : Int)] ++ inCells (L.drop p) = inCells (L.take p ++ [(i : Int)] ++ L.drop p) by simp [inCells])
                        have HV3 := Lib.hid (show (L.take p ++ [(i : Int)] ++ L.drop p).length = p + 1 + (m - p) by simp [hmQ.out] <;> omega)
                        have kk1 : (p : Int) ≤ (c : Int) := by omega
                        have kk2 : (0 : Int) ≤ (p : Int) := by omega
                        have kk3 : (p : Int) ≤ (m : Int) := by omega
                        clear hm
                        go_wp2_with (first | (at_builtin; refine wpList_append_lies _ rfl (.tmp 99) (.tmp 103) 82 rfl U7.heap.size 3 i0 _ 1 8 Tryz.underlying82 hi hz0 hz1 hz2 rfl (by omega) (.slice (some ⟨U7.heap.size, 0, none⟩) 0 0) 0 [] rfl ?_ ⟨q, 0, none⟩ p c (inCells (L.take p)) rfl (by simp [inCells, hmQ.out]; omega) ?_ (inCells_one _) (by omega) ?_ ?_ ?_ _ rfl ?_; exact (own_none3 (W := U7) rfl (Nat.le_refl _)); exact HPT.out _ (by (repeat (first | exact New.refl _ | apply New.alloc | apply New.aft | apply New.drew | refine New.setCell ?_ ?_ _)); all_goals (first | done | (simp [size_aft]; done) | (simp [size_aft]; omega))); (unfold maxLen; omega); omega; (first | omega | (simp only [World.size_alloc]; omega) | (simp [go_sem]; done) | (simp [go_sem]; omega)); intro g8 cap8 w8 hown8 hgrow8 hor8 hlt8; have HN8 := Lib.hid (show New U7 w8 from new_grown (by (repeat (first | exact New.refl _ | apply New.alloc | apply New.aft | apply New.drew | refine New.setCell ?_ ?_ _)); all_goals (first | done | (simp [size_aft]; done) | (simp [size_aft]; omega))) hgrow8 ((own_none3 (W := U7) rfl (Nat.le_refl _)))); simp only [Nat.zero_add, List.nil_append] at hown8; have HO8 := Lib.hid hown8; have hc8 := own_cap3 hown8; have hs8 : U7.heap.size ≤ w8.heap.size := HN8.out.size; obtain ⟨hgs8, ⟨b08, b18, b28⟩, bf8⟩ := HBS.out.new (HNX.out.trans HN8.out); clear hown8 hgrow8 hor8 hlt8) | (at_builtin; refine wpList_append_lies _ rfl (.tmp 104) (.tmp 106) 82 rfl U7.heap.size 3 i0 _ 1 8 Tryz.underlying82 hi hz0 hz1 hz2 rfl (by omega) (.slice (some ⟨g8, 0, none⟩) p cap8) p (inCells (L.take p)) rfl ?_ _ 1 1 [.int .i64 (i : Int)] rfl rfl ?_ (fun u hu => by simp at hu; rcases hu with rfl <;> rfl) (by omega) ?_ ?_ ?_ _ rfl ?_; exact own_new HO8.out (by (repeat (first | exact New.refl _ | apply New.alloc | apply New.aft | apply New.drew | refine New.setCell ?_ ?_ _)); all_goals (first | done | (simp [size_aft]; done) | (simp [size_aft]; omega))); ((refine cells_new _ _ _ _ ?_); (simp [go_sem])); (unfold maxLen; omega); omega; (first | omega | (simp only [World.size_alloc]; omega) | (simp [go_sem]; done) | (simp [go_sem]; omega)); intro g9 cap9 w9 hown9 hgrow9 hor9 hlt9; have HN9 := Lib.hid (show New U7 w9 from new_grown (by (repeat (first | exact HN8.out | exact New.refl _ | apply New.alloc | apply New.aft | apply New.drew | refine New.setCell ?_ ?_ _)); all_goals (first | done | (simp [size_aft]; done) | (simp [size_aft]; omega))) hgrow9 (HO8.out)); have HO9 := Lib.hid hown9; have hc9 := own_cap3 hown9; have hs9 : U7.heap.size ≤ w9.heap.size := HN9.out.size; obtain ⟨hgs9, ⟨b09, b19, b29⟩, bf9⟩ := HBS.out.new (HNX.out.trans HN9.out); clear hown9 hgrow9 hor9 hlt9) | (at_builtin; refine wpList_append_lies _ rfl (.tmp 108) (.tmp 112) 82 rfl U7.heap.size 3 i0 _ 1 8 Tryz.underlying82 hi hz0 hz1 hz2 rfl (by omega) (.slice (some ⟨g9, 0, none⟩) (p + 1) cap9) (p + 1) (inCells (L.take p) ++ [.int .i64 (i : Int)]) rfl ?_ ⟨q, p, none⟩ (m - p) (c - p) (inCells (L.drop p)) rfl (by simp [inCells, hmQ.out]) ?_ (inCells_one _) (by omega) ?_ ?_ ?_ _ rfl ?_; exact HO9.out; exact HPD.out _ HN9.out; (unfold maxLen; omega); omega; (first | omega | (simp only [World.size_alloc]; omega) | (simp [go_sem]; done) | (simp [go_sem]; omega)); intro g10 cap10 w10 hown10 hgrow10 hor10 hlt10; have HN10 := Lib.hid (show New U7 w10 from new_grown (by (repeat (first | exact HN9.out | exact New.refl _ | apply New.alloc | apply New.aft | apply New.drew | refine New.setCell ?_ ?_ _)); all_goals (first | done | (simp [size_aft]; done) | (simp [size_aft]; omega))) hgrow10 (HO9.out)); have HO10 := Lib.hid hown10; have hc10 := own_cap3 hown10; have hs10 : U7.heap.size ≤ w10.heap.size := HN10.out.size; obtain ⟨hgs10, ⟨b010, b110, b210⟩, bf10⟩ := HBS.out.new (HNX.out.trans HN10.out); clear hown10 hgrow10 hor10 hlt10))
                        all_goals go_roundw
                        all_goals first
                          | exact ⟨i + 1, _, by omega, by go_num, BoxS.put (HBS.out.new (HNX.out.trans HN10.out)) _, by rw [HV.out]; exact boxI_own HO10.out HV2.out HV3.out HGB.out (by omega) _, New.setCell (HN4.out.trans (HNX.out.trans HN10.out)) hgU _⟩
                          | (simp [intOf]; omega)
                  · obtain rfl : p = j := by omega
                    have hpm2 : p = m := by omega
                    have hj1 : ¬ (p : Int) < (m : Int) := by omega
                    have hdj : decide ((p : Int) < (m : Int)) = false := decide_eq_false hj1
                    rcases HBI6.out with ⟨e1, e2⟩ | ⟨q, c, hgq, e2, hcm, hm0, hI⟩
                    · subst e2
                      rw [e1] at hm
                      have hm00 : m = 0 := by simpa using hm.symm
                      go_wp2_with fail
                      first | refine wp_region_at2 (by kernel_rfl) (by kernel_rfl) ?_ | refine wp_region_at (by kernel_rfl) (by kernel_rfl) ?_
                      repeat (go_big_quiet_step (fail))
                      refine wpQuiet_nil ?_
                      rintro U7 hq7
                      have HQ7 := Lib.hid (show New U6 U7 from hq7)
                      clear hq7
                      have HNX := Lib.hid (show New U3 U7 from HNA.out.trans HQ7.out)
                      have HGB := Lib.hid (show g < U7.heap.size from (HBS.out.new HNX.out).1)
                      have hwX : w.heap.size ≤ U7.heap.size := (HNW4.out.trans HNX.out).size
                      clear hgs b0 b1 b2 bf
                      obtain ⟨hgs, ⟨b0, b1, b2⟩, bf⟩ := HBS.out.new HNX.out
                      have HV2 := Lib.hid (show [] ++ [.int .i64 (i : Int)] = inCells (L.take p ++ [(i : Int)] ++ L.drop p) by rw [e1]; simp [inCells])
                      have HV3 := Lib.hid (show (L.take p ++ [(i : Int)] ++ L.drop p).length = 1 by rw [e1]; simp)
                      have hp0 : p = 0 := by omega
                      clear hpm2 hpm
                      subst hp0
                      subst hm00
                      clear e1
                      go_wp2_with (first | (at_builtin; refine wpList_append_lies _ rfl (.tmp 104) (.tmp 106) 82 rfl U7.heap.size 3 i0 _ 1 8 Tryz.underlying82 hi hz0 hz1 hz2 rfl (by omega) (.slice (some ⟨U7.heap.size, 0, none⟩) 0 0) 0 [] rfl ?_ _ 1 1 [.int .i64 (i : Int)] rfl rfl ?_ (fun u hu => by simp at hu; rcases hu with rfl <;> rfl) (by omega) ?_ ?_ ?_ _ rfl ?_; exact own_new (own_none3 (W := U7) rfl (Nat.le_refl _)) (by (repeat (first | exact New.refl _ | apply New.alloc | apply New.aft | apply New.drew | refine New.setCell ?_ ?_ _)); all_goals (first | done | (simp [size_aft]; done) | (simp [size_aft]; omega))); ((refine cells_new _ _ _ _ ?_); (simp [go_sem])); (unfold maxLen; omega); omega; (first | omega | (simp only [World.size_alloc]; omega) | (simp [go_sem]; done) | (simp [go_sem]; omega)); intro g9 cap9 w9 hown9 hgrow9 hor9 hlt9; have HN9 := Lib.hid (show New U7 w9 from new_grown (by (repeat (first | exact New.refl _ | apply New.alloc | apply New.aft | apply New.drew | refine New.setCell ?_ ?_ _)); all_goals (first | done | (simp [size_aft]; done) | (simp [size_aft]; omega))) hgrow9 ((own_none3 (W := U7) rfl (Nat.le_refl _)))); have HO9 := Lib.hid hown9; have hc9 := own_cap3 hown9; have hs9 : U7.heap.size ≤ w9.heap.size := HN9.out.size; obtain ⟨hgs9, ⟨b09, b19, b29⟩, bf9⟩ := HBS.out.new (HNX.out.trans HN9.out); clear hown9 hgrow9 hor9 hlt9))
                      all_goals go_roundw
                      all_goals first
                        | exact ⟨i + 1, _, by omega, by go_num, BoxS.put (HBS.out.new (HNX.out.trans HN9.out)) _, by rw [HV.out]; exact boxI_own HO9.out HV2.out HV3.out HGB.out (by omega) _, New.setCell (HN4.out.trans (HNX.out.trans HN9.out)) hgU _⟩
                        | (simp [intOf]; omega)
                    · rw [hm] at e2 hcm hm0 hI
                      subst e2
                      subst hpm2
                      have HI7 := Lib.hid hI
                      clear hI
                      go_wp2_with fail
                      first | refine wp_region_at2 (by kernel_rfl) (by kernel_rfl) ?_ | refine wp_region_at (by kernel_rfl) (by kernel_rfl) ?_
                      repeat (go_big_quiet_step (fail))
                      refine wpQuiet_nil ?_
                      rintro U7 hq7
                      have HQ7 := Lib.hid (show New U6 U7 from hq7)
                      clear hq7
                      replace HI7 := Lib.hid (show Ints U7 q 0 p L from HI7.out.new HQ7.out)
                      have HNX := Lib.hid (show New U3 U7 from HNA.out.trans HQ7.out)
                      have HGB := Lib.hid (show g < U7.heap.size from (HBS.out.new HNX.out).1)
                      have hwX : w.heap.size ≤ U7.heap.size := (HNW4.out.trans HNX.out).size
                      clear hgs b0 b1 b2 bf
                      obtain ⟨hgs, ⟨b0, b1, b2⟩, bf⟩ := HBS.out.new HNX.out
                      have hmQ := Lib.hid hm
                      have HPT := Lib.hid (show ∀ w1, New U7 w1 → ∀ j u, (inCells L)[j]? = some u → w1.cell? ((⟨q, 0, none⟩ : Addr).add j) = some u from fun w1 h1 => by
                        have := ints_part (HI7.out.new h1) 0 p (by omega)
                        rw [List.drop_zero, List.take_of_length_le (by rw [hmQ.out]; exact Nat.le_refl _)] at this
                        simpa using this)
                      have HV2 := Lib.hid (show inCells L ++ [.int .i64 (i : Int)] = inCells (L.take p ++ [(i : Int)] ++ L.drop p) by rw [List.take_of_length_le (by rw [hmQ.out]; exact Nat.le_refl _), List.drop_of_length_le (by rw [hmQ.out]; exact Nat.le_refl _)]; simp [inCells])
                      have HV3 := Lib.hid (show (L.take p ++ [(i : Int)] ++ L.drop p).length = p + 1 by simp [hmQ.out] <;> omega)
                      have kk1 : (p : Int) ≤ (c : Int) := by omega
                      have kk2 : (0 : Int) ≤ (p : Int) := by omega
                      clear hm
                      go_wp2_with (first | (at_builtin; refine wpList_append_lies _ rfl (.tmp 99) (.tmp 103) 82 rfl U7.heap.size 3 i0 _ 1 8 Tryz.underlying82 hi hz0 hz1 hz2 rfl (by omega) (.slice (some ⟨U7.heap.size, 0, none⟩) 0 0) 0 [] rfl ?_ ⟨q, 0, none⟩ p c (inCells L) rfl (by simp [inCells, hmQ.out]) ?_ (inCells_one _) (by omega) ?_ ?_ ?_ _ rfl ?_; exact (own_none3 (W := U7) rfl (Nat.le_refl _)); exact HPT.out _ (by (repeat (first | exact New.refl _ | apply New.alloc | apply New.aft | apply New.drew | refine New.setCell ?_ ?_ _)); all_goals (first | done | (simp [size_aft]; done) | (simp [size_aft]; omega))); (unfold maxLen; omega); omega; (first | omega | (simp only [World.size_alloc]; omega) | (simp [go_sem]; done) | (simp [go_sem]; omega)); intro g8 cap8 w8 hown8 hgrow8 hor8 hlt8; have HN8 := Lib.hid (show New U7 w8 from new_grown (by (repeat (first | exact New.refl _ | apply New.alloc | apply New.aft | apply New.drew | refine New.setCell ?_ ?_ _)); all_goals (first | done | (simp [size_aft]; done) | (simp [size_aft]; omega))) hgrow8 ((own_none3 (W := U7) rfl (Nat.le_refl _)))); simp only [Nat.zero_add, List.nil_append] at hown8; have HO8 := Lib.hid hown8; have hc8 := own_cap3 hown8; have hs8 : U7.heap.size ≤ w8.heap.size := HN8.out.size; obtain ⟨hgs8, ⟨b08, b18, b28⟩, bf8⟩ := HBS.out.new (HNX.out.trans HN8.out); clear hown8 hgrow8 hor8 hlt8) | (at_builtin; refine wpList_append_lies _ rfl (.tmp 104) (.tmp 106) 82 rfl U7.heap.size 3 i0 _ 1 8 Tryz.underlying82 hi hz0 hz1 hz2 rfl (by omega) (.slice (some ⟨g8, 0, none⟩) p cap8) p (inCells L) rfl ?_ _ 1 1 [.int .i64 (i : Int)] rfl rfl ?_ (fun u hu => by simp at hu; rcases hu with rfl <;> rfl) (by omega) ?_ ?_ ?_ _ rfl ?_; exact own_new HO8.out (by (repeat (first | exact New.refl _ | apply New.alloc | apply New.aft | apply New.drew | refine New.setCell ?_ ?_ _)); all_goals (first | done | (simp [size_aft]; done) | (simp [size_aft]; omega))); ((refine cells_new _ _ _ _ ?_); (simp [go_sem])); (unfold maxLen; omega); omega; (first | omega | (simp only [World.size_alloc]; omega) | (simp [go_sem]; done) | (simp [go_sem]; omega)); intro g9 cap9 w9 hown9 hgrow9 hor9 hlt9; have HN9 := Lib.hid (show New U7 w9 from new_grown (by (repeat (first | exact HN8.out | exact New.refl _ | apply New.alloc | apply New.aft | apply New.drew | refine New.setCell ?_ ?_ _)); all_goals (first | done | (simp [size_aft]; done) | (simp [size_aft]; omega))) hgrow9 (HO8.out)); have HO9 := Lib.hid hown9; have hc9 := own_cap3 hown9; have hs9 : U7.heap.size ≤ w9.heap.size := HN9.out.size; obtain ⟨hgs9, ⟨b09, b19, b29⟩, bf9⟩ := HBS.out.new (HNX.out.trans HN9.out); clear hown9 hgrow9 hor9 hlt9))
                      all_goals go_roundw
                      all_goals first
                        | exact ⟨i + 1, _, by omega, by go_num, BoxS.put (HBS.out.new (HNX.out.trans HN9.out)) _, by rw [HV.out]; exact boxI_own HO9.out HV2.out HV3.out HGB.out (by omega) _, New.setCell (HN4.out.trans (HNX.out.trans HN9.out)) hgU _⟩
                        | (simp [intOf]; omega)
            · have hspf : sp i = false := by simpa using hsp
              have HV := Lib.hid (show ins (i + 1) = ins i by rw [HFIi.out, if_neg hsp])
              rw [hspf] at HSPi
              clear hsp hspf hne
              generalize q1 l i = A1 at *
              generalize q2 l i = A2 at *
              generalize q3 l i = A3 at *
              generalize q4 l i = A4 at *
              go_wp2_with fail
              first | refine wp_region_at2 (by kernel_rfl) (by kernel_rfl) ?_ | refine wp_region_at (by kernel_rfl) (by kernel_rfl) ?_
              repeat (go_big_quiet_step (first | (go_at_call 148; (with_reducible exact calls_new (HSPi.out _)))))
              refine wpQuiet_nil ?_
              rintro U4 hq4
              have HQ4 := Lib.hid (show New U3 U4 from hq4)
              clear hq4
              go_wp2_with fail
              go_roundw
              case rel => exact ⟨i + 1, v, by omega, by go_num, HBS.out.new (by (repeat (first | exact HQ4.out | exact New.refl _ | apply New.alloc | apply New.aft | apply New.drew | refine New.setCell ?_ ?_ _)); all_goals (first | done | (simp [size_aft]; done) | (simp [size_aft]; omega))), by rw [HV.out]; exact HBI.out.new (by (repeat (first | exact HQ4.out | exact New.refl _ | apply New.alloc | apply New.aft | apply New.drew | refine New.setCell ?_ ?_ _)); all_goals (first | done | (simp [size_aft]; done) | (simp [size_aft]; omega))), HN4.out.trans (by (repeat (first | exact HQ4.out | exact New.refl _ | apply New.alloc | apply New.aft | apply New.drew | refine New.setCell ?_ ?_ _)); all_goals (first | done | (simp [size_aft]; done) | (simp [size_aft]; omega)))⟩
              case measure => simp [intOf]; omega
          · obtain rfl : n = i := by omega
            have HOU := Lib.hid (own_new HOUT.out HN4.out)
            have HONE := Lib.hid (show v.oneCell' = true from by rcases HBI.out with ⟨_, rfl⟩ | ⟨q, c, _, rfl, _⟩ <;> rfl)
            have HSF := Lib.hid (show SafeI U3 VO v (ins n) from HBI.out.safe (fun kk hkk => by have := (HOUT.out.lt kk hkk).2; omega))
            have HSV := Lib.hid (fun j hj => (HVI.out j hj).new HN4.out)
            have hs3 : w2.heap.size ≤ U3.heap.size := (HNR.out.trans HN4.out).size
            clear hgU
            go_wp2_with (at_builtin; refine wpList_append_lies _ rfl (.tmp 115) (.tmp 117) 65 rfl w2.heap.size 84 j0 _ 3 40 Tryz.underlying65 hj' hy0 hy1 hy2 rfl (by omega) VO k (stripCells l vs k) rfl ?_ _ 1 1 [.int .i64 F, .int .i64 T, v] rfl rfl ?_ ?_ (by omega) ?_ ?_ ?_ _ rfl ?_; exact own_new HOU.out (by (repeat (first | exact New.refl _ | apply New.alloc | apply New.aft | apply New.drew | refine New.setCell ?_ ?_ _)); all_goals (first | done | (simp [size_aft]; done) | (simp [size_aft]; omega))); (refine cells_new _ _ _ _ ?_); (simp [go_sem]); (intro u hu; simp at hu; rcases hu with rfl | rfl | rfl; rfl; rfl; exact HONE.out); (unfold maxLen; omega); omega; (first | (simp [go_sem, Nat.add_assoc]; done) | (simp [go_sem, Nat.add_assoc]; omega)); intro g9 cap9 w9 hown9 hgrow9 hor9 hlt9; have HNR9 := Lib.hid (show New w2 w9 from new_grown (HNR.out.trans (HN4.out.trans (by (repeat (first | exact New.refl _ | apply New.alloc | apply New.aft | apply New.drew | refine New.setCell ?_ ?_ _)); all_goals (first | done | (simp [size_aft]; done) | (simp [size_aft]; omega))))) hgrow9 HOU.out); have HSF9 := Lib.hid (HSF.out.grow (n := k + 1) (cap := cap9) (by (repeat (first | exact New.refl _ | apply New.alloc | apply New.aft | apply New.drew | refine New.setCell ?_ ?_ _)); all_goals (first | done | (simp [size_aft]; done) | (simp [size_aft]; omega))) hgrow9 hor9 (by simp)); have HSV9 := Lib.hid (fun j hj => (HSV.out j hj).grow (n := k + 1) (cap := cap9) (by (repeat (first | exact New.refl _ | apply New.alloc | apply New.aft | apply New.drew | refine New.setCell ?_ ?_ _)); all_goals (first | done | (simp [size_aft]; done) | (simp [size_aft]; omega))) hgrow9 hor9 (by simp)); have HO9 := Lib.hid hown9; clear hown9 hgrow9 hor9 hlt9)
            go_roundw
            case rel => exact ⟨k + 1, vs ++ [v], by omega, by go_num, by rw [List.length_append, HVS.out]; rfl, by rw [HST.out]; exact HO9.out, HFIN.out w9 _ v HSV9.out HSF9.out, HNR9.out⟩
            case measure => simp [intOf]; omega
    · obtain rfl : k = M := by omega
      go_wp2_with fail
      obtain ⟨a, c, rfl⟩ : ∃ a c, VO = .slice a k c := own_slice HOUT.out
      refine bodyPost_ret (v := .tuple #[.slice a k c, .int .i64 0]) (by simp [results, Tryz.results71, go_sem]) rfl ⟨a, c, vs, w2.heap.size, rfl, HOUT.out, fun j hj => (HVI.out j hj).ints, HNW.out⟩

end Go.Proofs.YtpdfbboagaflhaaGreat

set_option linter.unusedSimpArgs false
set_option linter.unusedVariables false
namespace Go.Proofs.YtpdfbboagaflhaaGreat
open Go.RowKit

theorem perm_sub : ∀ {L S : List Int}, L.Nodup → (∀ x ∈ L, x ∈ S) → S.length ≤ L.length → L.Perm S
  | [], S, _, _, h => by
    obtain rfl : S = [] := List.eq_nil_of_length_eq_zero (by simpa using h)
    exact List.Perm.refl _
  | a :: L, S, nd, hs, h => by
    have ha : a ∈ S := hs a (by simp)
    have hp := List.perm_cons_erase ha
    have hl : (S.erase a).length = S.length - 1 := List.length_erase_of_mem ha
    refine (List.Perm.cons a (perm_sub (S := S.erase a) (List.nodup_cons.1 nd).2 (fun x hx => ?_) (by simp at h; omega))).trans hp.symm
    refine (List.mem_erase_of_ne ?_).2 (hs x (by simp [hx]))
    rintro rfl
    exact (List.nodup_cons.1 nd).1 hx

/- the X of ends -/
theorem evHit_iff {l : List S4} {X : Nat} : evHit l X = true ↔ ∃ i, i < l.length ∧ (q1 l i = (X : Int) ∨ q3 l i = (X : Int)) := by
  unfold evHit hitB
  simp [List.any_eq_true]
theorem evTo_up (l : List S4) : ∀ X, (evTo l X).Pairwise (· < ·) ∧ ∀ x, x ∈ evTo l X ↔ ∃ k : Nat, x = (k : Int) ∧ k < X ∧ evHit l k = true
  | 0 => by simp [evTo]
  | X + 1 => by
    obtain ⟨h1, h2⟩ := evTo_up l X
    simp only [evTo]
    split
    · rename_i hX
      refine ⟨List.pairwise_append.2 ⟨h1, List.pairwise_singleton _ _, fun a ha b hb => ?_⟩, fun x => ?_⟩
      · obtain rfl : b = X := by simpa using hb
        obtain ⟨k, rfl, hk, _⟩ := (h2 a).1 ha
        omega
      · rw [List.mem_append, h2]
        constructor
        · rintro (⟨k, e, hk, hh⟩ | h)
          · exact ⟨k, e, by omega, hh⟩
          · exact ⟨X, by simpa using h, by omega, hX⟩
        · rintro ⟨k, e, hk, hh⟩
          rcases Nat.lt_or_ge k X with g | g
          · exact .inl ⟨k, e, g, hh⟩
          · obtain rfl : k = X := by omega
            exact .inr (by simp [e])
    · rename_i hX
      refine ⟨h1, fun x => ?_⟩
      rw [h2]
      constructor
      · rintro ⟨k, e, hk, hh⟩; exact ⟨k, e, by omega, hh⟩
      · rintro ⟨k, e, hk, hh⟩
        rcases Nat.lt_or_ge k X with g | g
        · exact ⟨k, e, g, hh⟩
        · obtain rfl : k = X := by omega
          exact absurd hh hX
theorem asc_eq {a b : List Int} (ha : a.Pairwise (· < ·)) (hb : b.Pairwise (· < ·)) (h : ∀ x, x ∈ a ↔ x ∈ b) : a = b := by
  have hp : a.Perm b := (List.perm_ext_iff_of_nodup (ha.imp (fun g => by omega)) (hb.imp (fun g => by omega))).2 h
  exact hp.eq_of_pairwise (fun x y _ _ (u : x < y) (v : y < x) => by omega) ha hb
theorem ev_eq {l : List S4} (hok : okSegs l = true) : evTo l 10001 = endXsL l := by
  refine asc_eq (evTo_up l _).1 (compact_lt (sortI_le _)) (fun x => ?_)
  rw [(evTo_up l _).2, endXs_mem]
  constructor
  · rintro ⟨k, rfl, hk, hh⟩
    obtain ⟨i, hi, h⟩ := evHit_iff.1 hh
    exact ⟨i, hi, by omega⟩
  · rintro ⟨i, hi, h⟩
    obtain ⟨⟨o1, _⟩, ⟨o3, _⟩, _⟩ := okS_iff.1 (okSegs_at l i hi hok)
    refine ⟨x.toNat, by omega, by omega, evHit_iff.2 ⟨i, hi, by omega⟩⟩

/- one strip -/
structure RefOk (l : List S4) (C : List SV) : Prop where
  segs : ckSegs l = 0
  len : C.length = (endXsL l).length - 1
  each : ∀ j, j < C.length → (sF C j = xAt l j ∧ sT C j = xAt l (j + 1)) ∧ StripR l (sF C j) (sT C j) (sL C j)
  vert : ∀ i, i < l.length → q1 l i = q3 l i → upB l i = true

theorem idx_nodup {l : List S4} {L : List Int} {F T : Int} (h : ∀ k, k < L.length → idxB l L F T k = true) : L.Nodup := by
  refine List.pairwise_iff_getElem.2 (fun i j hi hj hij => ?_)
  have := (idxB_iff.1 (h j hj)).2 i hij
  simpa [List.getD_eq_getElem?_getD, hi, hj] using this
theorem idx_sub {l : List S4} {L : List Int} {F T : Int} (h : ∀ k, k < L.length → idxB l L F T k = true) : ∀ x ∈ L, x ∈ spanTo l F T l.length := by
  intro x hx
  obtain ⟨k, hk, e⟩ := List.getElem_of_mem hx
  obtain ⟨⟨⟨a1, a2⟩, a3⟩, _⟩ := idxB_iff.1 (h k hk)
  have e2 : L.getD k 0 = x := by rw [List.getD_eq_getElem?_getD, List.getElem?_eq_getElem hk]; exact e
  rw [e2] at a1 a2 a3
  exact spanTo_span.2 ⟨x.toNat, by omega, by omega, a3⟩
theorem strip_sort {l : List S4} {L : List Int} {F T : Int} (h : StripR l F T L) : sortI L = spanTo l F T l.length :=
  sorted_eq (spanTo_up l _ _ _).1 (perm_sub (idx_nodup h.idx) (idx_sub h.idx) (by have := h.len; omega))
theorem lone_iff {l : List S4} {L : List Int} {x : Int} (hnd : (natsL L).Nodup) : loneB l L x = true ↔ Geo.Lone (fwdAt l) (natsL L) x := by
  have hne : ∀ p q, p < q → q < L.length → (L.getD p 0).toNat ≠ (L.getD q 0).toNat := fun p q hpq hq => by
    have := List.pairwise_iff_getElem.1 hnd p q (by rw [natsL_len]; omega) (by rw [natsL_len]; omega) hpq
    rw [← natsL_getD L (show p < L.length by omega), ← natsL_getD L hq]
    simpa [List.getD_eq_getElem?_getD, show p < (natsL L).length by rw [natsL_len]; omega, show q < (natsL L).length by rw [natsL_len]; omega] using this
  have hb : loneB l L x = true ↔ ∀ k, k < L.length → ∀ j, j < k → ¬ ((¬ Geo.EndAt (fwdAt l) x (L.getD k 0).toNat ∧ ¬ Geo.EndAt (fwdAt l) x (L.getD j 0).toNat) ∧ Geo.DD (fwdAt l (L.getD k 0).toNat) (fwdAt l (L.getD j 0).toNat) (2 * x) = 0) := by
    unfold loneB lonA lonB
    simp only [Bool.not_eq_true', List.any_eq_false, List.mem_range, Bool.and_eq_true, beq_iff_eq, free_end, (cmA_DD l L (2 * x) _ _).2.2, List.any_eq_true, not_exists, not_and]
  rw [hb]
  constructor
  · intro h i hi j hj hij hd
    obtain ⟨p, hp, rfl⟩ := idx_at L hi
    obtain ⟨q, hq, rfl⟩ := idx_at L hj
    rcases Nat.lt_trichotomy p q with g | g | g
    · have := h q hq p g
      refine Classical.byContradiction fun hn => this ⟨⟨fun e => hn (.inr e), fun e => hn (.inl e)⟩, ?_⟩
      rw [Geo.DD_swap]; omega
    · subst g; exact absurd rfl hij
    · have := h p hp q g
      exact Classical.byContradiction fun hn => this ⟨⟨fun e => hn (.inl e), fun e => hn (.inr e)⟩, hd⟩
  · intro h k hk j hj hh
    obtain ⟨⟨e1, e2⟩, hd⟩ := hh
    rcases h _ (at_idx L hk) _ (at_idx L (show j < L.length by omega)) (Ne.symm (hne j k hj hk)) hd with e | e
    · exact e1 e
    · exact e2 e

/- vertical segments -/
theorem fwd_vert (a b c d : Int) (h : a = c) : f2 a b c d = min b d ∧ f4 a b c d = max b d := by
  unfold f2 f4 orI cmpI
  subst h
  simp only [Int.lt_irrefl, if_false, ne_eq, not_true_eq_false]
  split <;> omega
theorem fwdAt_vert {l : List S4} {i : Nat} (h : q1 l i = q3 l i) : ((fwdAt l i).1 = q1 l i ∧ (fwdAt l i).2.2.1 = q1 l i) ∧ (fwdAt l i).2.1 = min (q2 l i) (q4 l i) ∧ (fwdAt l i).2.2.2 = max (q2 l i) (q4 l i) := by
  obtain ⟨e1, e2⟩ := fwdAt_x l i
  obtain ⟨e3, e4⟩ := fwd_vert (q1 l i) (q2 l i) (q3 l i) (q4 l i) h
  exact ⟨⟨by omega, by omega⟩, e3, e4⟩
theorem upB_iff {l : List S4} {i : Nat} : upB l i = true ↔ ∀ k, k < l.length → upO l i k = false ∧ upT l i k = false := by
  unfold upB upBad
  simp only [Bool.not_eq_true', List.any_eq_false, List.mem_range, Bool.or_eq_true, not_or, Bool.not_eq_true]
theorem upT_iff {l : List S4} {i : Nat} (hv : q1 l i = q3 l i) (k : Nat) : upT l i k = true ↔ ((fwdAt l k).1 < (fwdAt l i).1 ∧ (fwdAt l i).1 < (fwdAt l k).2.2.1) ∧ (fwdAt l i).2.1 * Geo.WW (fwdAt l k) < Geo.NN (fwdAt l k) (2 * (fwdAt l i).1) ∧ Geo.NN (fwdAt l k) (2 * (fwdAt l i).1) < (fwdAt l i).2.2.2 * Geo.WW (fwdAt l k) := by
  obtain ⟨⟨e1, _⟩, e2, e3⟩ := fwdAt_vert hv
  rw [e1, e2, e3]
  have hN : Geo.NN (fwdAt l k) (2 * q1 l i) = hN (q1 l k) (q2 l k) (q3 l k) (q4 l k) (2 * q1 l i) := rfl
  have hWW : Geo.WW (fwdAt l k) = hW (q1 l k) (q2 l k) (q3 l k) (q4 l k) := rfl
  obtain ⟨g1, g2⟩ := h1_two (q1 l k) (q2 l k) (q3 l k) (q4 l k) (q1 l i)
  rw [hN, hWW, g1, g2]
  unfold upT
  rw [show (fwdAt l k).1 = f1 (q1 l k) (q2 l k) (q3 l k) (q4 l k) from rfl, show (fwdAt l k).2.2.1 = f3 (q1 l k) (q2 l k) (q3 l k) (q4 l k) from rfl]
  simp only [Bool.and_eq_true, decide_eq_true_eq]
  rw [show min (q2 l i) (q4 l i) * (2 * hW1 (q1 l k) (q2 l k) (q3 l k) (q4 l k)) = 2 * (min (q2 l i) (q4 l i) * hW1 (q1 l k) (q2 l k) (q3 l k) (q4 l k)) by grind, show max (q2 l i) (q4 l i) * (2 * hW1 (q1 l k) (q2 l k) (q3 l k) (q4 l k)) = 2 * (max (q2 l i) (q4 l i) * hW1 (q1 l k) (q2 l k) (q3 l k) (q4 l k)) by grind]
  omega
theorem upO_iff {l : List S4} (hok : okSegs l = true) {i k : Nat} (hi : i < l.length) (hk : k < l.length) (hv : q1 l i = q3 l i) : upO l i k = true ↔ k ≠ i ∧ ((fwdAt l k).1 = (fwdAt l k).2.2.1 ∧ (fwdAt l i).1 = (fwdAt l k).1 ∧ (fwdAt l i).2.1 < (fwdAt l k).2.2.2 ∧ (fwdAt l k).2.1 < (fwdAt l i).2.2.2) := by
  obtain ⟨⟨e1, _⟩, e2, e3⟩ := fwdAt_vert hv
  rw [e1, e2, e3]
  obtain ⟨_, _, o⟩ := okS_iff.1 (okSegs_at l i hi hok)
  obtain ⟨_, _, o'⟩ := okS_iff.1 (okSegs_at l k hk hok)
  unfold upO
  simp only [Bool.and_eq_true, decide_eq_true_eq, Bool.not_eq_true', beq_eq_false_iff_ne, ne_eq, beq_iff_eq]
  by_cases hvk : q1 l k = q3 l k
  · obtain ⟨⟨k1, k1'⟩, k2, k3⟩ := fwdAt_vert hvk
    rw [k1, k1', k2, k3]
    omega
  · obtain ⟨x1, x2⟩ := fwdAt_x l k
    rw [x1, x2]
    constructor
    · rintro ⟨⟨_, g1, g2⟩, _⟩; omega
    · rintro ⟨_, g1, g2, _⟩; omega
theorem vert_iff {l : List S4} (hok : okSegs l = true) : (∀ i, i < l.length → q1 l i = q3 l i → upB l i = true) ↔ Geo.VertOk l.length (fwdAt l) := by
  have hv : ∀ i, (q1 l i = q3 l i ↔ (fwdAt l i).1 = (fwdAt l i).2.2.1) := fun i => by
    obtain ⟨x1, x2⟩ := fwdAt_x l i; omega
  constructor
  · intro h i hi vi j hj hji
    have vi' := (hv i).2 vi
    obtain ⟨h1, h2⟩ := upB_iff.1 (h i hi vi') j hj
    constructor
    · intro g
      have := (upO_iff hok hi hj vi').2 ⟨hji, g⟩
      rw [h1] at this; cases this
    · intro g
      have := (upT_iff vi' j).2 g
      rw [h2] at this; cases this
  · intro h i hi vi'
    have vi := (hv i).1 vi'
    refine upB_iff.2 (fun k hk => ⟨?_, ?_⟩)
    · rw [Bool.eq_false_iff]
      intro g
      obtain ⟨hne, g⟩ := (upO_iff hok hi hk vi').1 g
      exact (h i hi vi k hk hne).1 g
    · rw [Bool.eq_false_iff]
      intro g
      have g := (upT_iff vi' k).1 g
      refine (h i hi vi k hk ?_).2 g
      rintro rfl
      omega

theorem ref_iff {l : List S4} {C : List SV} : RefOk l C ↔ ChkOk l C := by
  constructor
  · intro h
    have hok := ck_ok h.segs
    have hS : StripsAre l C := ⟨h.len, fun j hj => by
      obtain ⟨⟨e1, e2⟩, hr⟩ := h.each j hj
      refine ⟨⟨e1, e2⟩, ?_⟩
      rw [strip_sort hr, e1, e2]; rfl⟩
    have hR : ∀ j, j < C.length → risB l (sL C j) (sF C j) (sT C j) = true := fun j hj => (h.each j hj).2.ris
    have hvert := (vert_iff hok).1 h.vert
    refine ⟨h.segs, hS, fun j hj => ?_, ?_, ?_⟩
    · have hr := (h.each j hj).2
      have hpos := fun p hp => hS.pos hok hj (i := p) hp
      have hri := rise_of hr.ris
      refine ⟨⟨hr.ris, ?_⟩, ?_⟩
      · refine (crow_lone (fun p hp => ?_) hpos (hS.nodup hj)).2 ((lone_iff (hS.nodup hj)).1 hr.low)
        have := (hri p (by rw [natsL_len]; exact hp)).1
        rwa [natsL_getD _ (by omega), natsL_getD _ hp] at this
      · refine (crow_lone (fun p hp => ?_) hpos (hS.nodup hj)).2 ((lone_iff (hS.nodup hj)).1 hr.high)
        have := (hri p (by rw [natsL_len]; exact hp)).2.1
        rwa [natsL_getD _ (by omega), natsL_getD _ hp] at this
    · refine (over_iff hok).2 (fun i j hi hj hij vi vj o => ?_)
      exact (hvert i hi vi j hj (Ne.symm hij)).1 ⟨vj, o.1, o.2.1, o.2.2⟩
    · intro u hu hc
      have hmem := upL_at hu
      obtain ⟨i, hi, vi, ei⟩ := vertTo_mem.1 ((upL_perm l).mem_iff.1 hmem)
      have e0 : q1 (upL l) u = (fwdAt l i).1 ∧ q2 (upL l) u = (fwdAt l i).2.1 ∧ q4 (upL l) u = (fwdAt l i).2.2.2 := by
        unfold q1 q2 q4; rw [ei]; exact ⟨rfl, rfl, rfl⟩
      rw [e0.1, e0.2.1, e0.2.2] at hc
      obtain ⟨j, hj, g1, g2, g3⟩ := (crs_iff hok hS hR ⟨i, hi, rfl⟩).1 hc
      have hji : j ≠ i := by
        rintro rfl
        omega
      exact (hvert i hi vi j hj hji).2 ⟨g1, g2, g3⟩
  · intro h
    have hok := ck_ok h.segs
    have hlen := h.are.len
    have hR := fun j hj => (h.each j hj).1.1
    refine ⟨h.segs, hlen, fun j hj => ?_, ?_⟩
    · obtain ⟨⟨e1, e2⟩, e3⟩ := h.are.mt j hj
      obtain ⟨⟨r, c1⟩, c2⟩ := h.each j hj
      have hr := rise_of r
      have hpos := fun p hp => h.are.pos hok hj (i := p) hp
      have hnd : (sL C j).Nodup := by
        have hp : (sortI (sL C j)).Perm (sL C j) := List.mergeSort_perm _ _
        refine hp.nodup_iff.1 ?_
        rw [e3]
        exact (spanTo_up l _ _ _).1.imp (fun h => by omega)
      refine ⟨⟨e1, e2⟩, ⟨?_, fun k hk => ?_, r, ?_, ?_⟩⟩
      · have := congrArg List.length e3
        rw [sortI_length] at this
        rw [this, e1, e2]; rfl
      · obtain ⟨a1, a2⟩ := h.are.at hj hk
        refine idxB_iff.2 ⟨⟨a1, a2⟩, fun i hi => ?_⟩
        have := List.pairwise_iff_getElem.1 hnd i k (by omega) hk hi
        simpa [List.getD_eq_getElem?_getD, hk, show i < (sL C j).length by omega] using this
      · refine (lone_iff (h.are.nodup hj)).2 ((crow_lone (fun p hp => ?_) hpos (h.are.nodup hj)).1 c1)
        have := (hr p (by rw [natsL_len]; exact hp)).1
        rwa [natsL_getD _ (by omega), natsL_getD _ hp] at this
      · refine (lone_iff (h.are.nodup hj)).2 ((crow_lone (fun p hp => ?_) hpos (h.are.nodup hj)).1 c2)
        have := (hr p (by rw [natsL_len]; exact hp)).2.1
        rwa [natsL_getD _ (by omega), natsL_getD _ hp] at this
    · refine (vert_iff hok).2 ?_
      intro i hi vi j hj hji
      constructor
      · rintro ⟨vj, e, g1, g2⟩
        exact (over_iff hok).1 h.over i j hi hj (Ne.symm hji) vi vj ⟨e, g1, g2⟩
      · rintro ⟨g1, g2, g3⟩
        have hm : fwdAt l i ∈ upL l := (upL_perm l).mem_iff.2 (vertTo_mem.2 ⟨i, hi, vi, rfl⟩)
        obtain ⟨u, hu, eu⟩ := List.getElem_of_mem hm
        refine h.vert u hu ?_
        have eq1 : q1 (upL l) u = (fwdAt l i).1 ∧ q2 (upL l) u = (fwdAt l i).2.1 ∧ q4 (upL l) u = (fwdAt l i).2.2.2 := by
          simp [q1, q2, q4, List.getD_eq_getElem?_getD, hu, eu]
        rw [eq1.1, eq1.2.1, eq1.2.2]
        exact (crs_iff hok h.are hR ⟨i, hi, rfl⟩).2 ⟨j, hj, g1, g2, g3⟩

end Go.Proofs.YtpdfbboagaflhaaGreat

set_option linter.unusedSimpArgs false
set_option linter.unusedVariables false
namespace Go.Proofs.YtpdfbboagaflhaaGreat
open Go.RowKit

/-- a number with its height -/
def hOf (l : List S4) (X : Int) (j : Int) : H3 := (hgtN l X j.toNat, hgtW l j.toNat, j)
theorem pileL_map (l : List S4) (k : Nat) : pileL l k = (spanI l k).map (hOf l (xAt l k + xAt l (k + 1))) := by
  rw [← pileL_third l k, List.map_map]
  have h : ∀ x ∈ pileL l k, x = (hOf l (xAt l k + xAt l (k + 1)) ∘ fun h => h.2.2) x := fun x hx => by
    obtain ⟨i, _, rfl⟩ := pileL_at l k hx
    simp [hOf]
  conv => lhs; rw [← List.map_id (pileL l k)]
  exact List.map_congr_left (fun x hx => h x hx)
theorem sortQ_up {L : List H3} (hP : Pile L) : (sortQ L).Pairwise fun x y => ¬ ltQ y x = true := by
  have hp2 : L.attach.map Subtype.val = L := List.attach_map_subtype_val _
  have := List.pairwise_mergeSort (le := fun (x y : PB L) => !ltQ y.1 x.1) (fun a b c h1 h2 => by
    simp only [ltQ, Bool.not_eq_true', decide_eq_false_iff_not] at *
    have := (fr_trans (hP.pos _ a.2) (hP.pos _ b.2) (hP.pos _ c.2) (show a.1.1 * b.1.2.1 ≤ b.1.1 * a.1.2.1 by omega) (show b.1.1 * c.1.2.1 ≤ c.1.1 * b.1.2.1 by omega)).1
    omega) (fun a b => by
    simp only [ltQ, Bool.or_eq_true, Bool.not_eq_true', decide_eq_false_iff_not]; omega) L.attach
  have h2 : (L.attach.mergeSort fun x y => !ltQ y.1 x.1).map Subtype.val = sortQ L := by
    unfold sortQ
    rw [List.map_mergeSort (s := fun x y => !ltQ y x) (fun a _ b _ => rfl), hp2]
  rw [← h2]
  refine List.pairwise_map.2 (this.imp fun {a b} h => ?_)
  simpa using h
theorem lowM_iff {l : List S4} {X : Int} {i : Nat} {j : Int} : lowM l X i j = true ↔ hgtN l X j.toNat * hgtW l i < hgtN l X i * hgtW l j.toNat := by
  unfold lowM cmpR
  have := (Geo.cmpI_sub (hgtN l X j.toNat * hgtW l i) (hgtN l X i * hgtW l j.toNat)).1
  rw [decide_eq_true_eq]; omega
/-- not above -/
def LeM (l : List S4) (X : Int) (a b : Int) : Prop := hgtN l X a.toNat * hgtW l b.toNat ≤ hgtN l X b.toNat * hgtW l a.toNat
theorem take_pos (l : List S4) (X : Int) (L : List Int) (i : Nat) : L.take (posI l X L i) = L.takeWhile (lowM l X i) ∧ L.drop (posI l X L i) = L.dropWhile (lowM l X i) := by
  have h := List.takeWhile_append_dropWhile (p := lowM l X i) (l := L)
  have h1 := List.take_left' (l₂ := L.dropWhile (lowM l X i)) (rfl : (L.takeWhile (lowM l X i)).length = (L.takeWhile (lowM l X i)).length)
  have h2 := List.drop_left' (l₂ := L.dropWhile (lowM l X i)) (rfl : (L.takeWhile (lowM l X i)).length = (L.takeWhile (lowM l X i)).length)
  rw [h] at h1 h2
  exact ⟨h1, h2⟩
theorem insTo_perm (l : List S4) (F T : Int) : ∀ i, (insTo l F T i).Perm (spanTo l F T i)
  | 0 => List.Perm.refl _
  | i + 1 => by
    have ih := insTo_perm l F T i
    simp only [insTo, spanTo]
    split
    · have h1 : ((insTo l F T i).take (posI l (F + T) (insTo l F T i) i) ++ [(i : Int)] ++ (insTo l F T i).drop (posI l (F + T) (insTo l F T i) i)).Perm ((i : Int) :: insTo l F T i) := by
        rw [List.append_assoc]
        refine (List.perm_append_comm).trans ?_
        rw [List.singleton_append, List.cons_append]
        refine List.Perm.cons _ ?_
        refine (List.perm_append_comm).trans ?_
        rw [List.take_append_drop]
      refine h1.trans ?_
      refine ((ih.cons _).trans ?_)
      exact (List.perm_append_singleton _ _).symm
    · exact ih
theorem insTo_up (l : List S4) (F T : Int) (hFT : F < T) : ∀ i, (insTo l F T i).Pairwise (LeM l (F + T))
  | 0 => List.Pairwise.nil
  | i + 1 => by
    have ih := insTo_up l F T hFT i
    have hpos : ∀ x : Int, spanAt l F T x.toNat = true → 0 < hgtW l x.toNat := fun x hx => by
      have e2 : hgtW l x.toNat = 2 * ((fwdAt l x.toNat).2.2.1 - (fwdAt l x.toNat).1) := rfl
      have := span_iff.1 hx
      omega
    have hmem := insTo_mem l F T i
    simp only [insTo]
    split
    · rename_i hs
      obtain ⟨t1, t2⟩ := take_pos l (F + T) (insTo l F T i) i
      rw [t1, t2]
      generalize insTo l F T i = L at *
      have hsp : L.takeWhile (lowM l (F + T) i) ++ L.dropWhile (lowM l (F + T) i) = L := List.takeWhile_append_dropWhile
      have ih2 := ih
      rw [← hsp] at ih2
      obtain ⟨a1, a2, a3⟩ := List.pairwise_append.1 ih2
      have htk : ∀ a ∈ L.takeWhile (lowM l (F + T) i), LeM l (F + T) a i := fun a ha => by
        have hq : lowM l (F + T) i a = true := by
          have := List.all_takeWhile (p := lowM l (F + T) i) (l := L)
          exact List.all_eq_true.1 this a ha
        have := lowM_iff.1 hq
        unfold LeM
        rw [Int.toNat_natCast]; omega
      have hi0 : 0 < hgtW l i := hpos i (by simpa using hs)
      have hdr : ∀ b ∈ L.dropWhile (lowM l (F + T) i), LeM l (F + T) i b := fun b hb => by
        cases hd : L.dropWhile (lowM l (F + T) i) with
        | nil => rw [hd] at hb; simp at hb
        | cons d r =>
          have hnd : lowM l (F + T) i d = false := by
            have := List.head_dropWhile_not (lowM l (F + T) i) (l := L) (by rw [hd]; simp)
            simpa [hd] using this
          have hnd2 : LeM l (F + T) i d := by
            have : ¬ lowM l (F + T) i d = true := by rw [hnd]; simp
            rw [lowM_iff] at this
            unfold LeM
            rw [Int.toNat_natCast]; omega
          rw [hd] at hb a2
          rcases List.mem_cons.1 hb with rfl | hr
          · exact hnd2
          · have h3 := (List.pairwise_cons.1 a2).1 b hr
            have hdL : d ∈ L := by rw [← hsp, hd]; simp
            have hbL : b ∈ L := by rw [← hsp, hd]; simp [hr]
            have pd := hpos d (hmem d hdL).2
            have pb := hpos b (hmem b hbL).2
            unfold LeM at hnd2 h3 ⊢
            rw [Int.toNat_natCast] at hnd2 ⊢
            exact (fr_trans hi0 pd pb hnd2 h3).1
      rw [List.append_assoc]
      refine List.pairwise_append.2 ⟨a1, ?_, ?_⟩
      · rw [List.singleton_append]
        exact List.pairwise_cons.2 ⟨hdr, a2⟩
      · intro a ha b hb
        rw [List.singleton_append] at hb
        rcases List.mem_cons.1 hb with rfl | hb
        · exact htk a ha
        · exact a3 a ha b hb
    · exact ih
theorem insTo_segs {l : List S4} (hok : okSegs l = true) (hb : Geo.NoBad l.length (fwdAt l)) {k : Nat} (hk : k + 1 < (endXsL l).length) : insTo l (xAt l k) (xAt l (k + 1)) l.length = segsQ l k := by
  have hP := pile_of hok hb hk
  have hFT := xAt_lt (l := l) (show k < k + 1 by omega) hk
  have e : (insTo l (xAt l k) (xAt l (k + 1)) l.length).map (hOf l (xAt l k + xAt l (k + 1))) = sortQ (pileL l k) := by
    have hp : ((insTo l (xAt l k) (xAt l (k + 1)) l.length).map (hOf l (xAt l k + xAt l (k + 1)))).Perm (sortQ (pileL l k)) := by
      refine List.Perm.trans ?_ (sortQ_perm (pileL l k)).symm
      rw [pileL_map]
      exact (insTo_perm l _ _ _).map _
    refine hp.eq_of_pairwise (le := fun x y => ¬ ltQ y x = true) (fun a b ha hb' h1 h2 => ?_) ?_ (sortQ_up hP)
    · have ma := (sortQ_perm (pileL l k)).mem_iff.1 (hp.mem_iff.1 ha)
      have mb := (sortQ_perm (pileL l k)).mem_iff.1 hb'
      simp only [ltQ, decide_eq_true_eq] at h1 h2
      exact hP.tot a ma b mb (by omega)
    · refine List.pairwise_map.2 ((insTo_up l _ _ hFT _).imp fun {a b} h => ?_)
      unfold LeM at h
      show ¬ decide (hgtN l (xAt l k + xAt l (k + 1)) b.toNat * hgtW l a.toNat < hgtN l (xAt l k + xAt l (k + 1)) a.toNat * hgtW l b.toNat) = true
      rw [decide_eq_true_eq]
      omega
  have e2 : segsQ l k = ((insTo l (xAt l k) (xAt l (k + 1)) l.length).map (hOf l (xAt l k + xAt l (k + 1)))).map (fun h => h.2.2) := by
    rw [e]; rfl
  rw [e2, List.map_map]
  conv => lhs; rw [← List.map_id (insTo l (xAt l k) (xAt l (k + 1)) l.length)]
  exact List.map_congr_left (fun x _ => rfl)

end Go.Proofs.YtpdfbboagaflhaaGreat

set_option linter.unusedSimpArgs false
set_option linter.unusedVariables false
set_option maxRecDepth 100000
namespace Go.Proofs.YtpdfbboagaflhaaGreat
open Go.RowKit

theorem first_bad (P : Nat → Bool) : ∀ m, (∀ k, k < m → P k = true) ∨ ∃ K, K < m ∧ (∀ k, k < K → P k = true) ∧ P K = false
  | 0 => .inl (fun k h => by omega)
  | m + 1 => by
    rcases first_bad P m with h | ⟨K, h1, h2, h3⟩
    · cases e : P m
      · exact .inr ⟨m, by omega, h, e⟩
      · refine .inl (fun k hk => ?_)
        rcases Nat.lt_or_ge k m with g | g
        · exact h k g
        · obtain rfl : k = m := by omega
          exact e
    · exact .inr ⟨K, by omega, h2, h3⟩
theorem strip_c (b off n c : Nat) (l : List S4) (L : List Int) (F T : Int) (v : Value) (w : World) (hl : n ≤ 1000000) (hw : Segs w b off n l) (hv : IntsA w v L) (hL : L.length ≤ 17592186044415) (hok : okSegs l = true) (hF : 0 ≤ F ∧ F ≤ 10000) (hT : 0 ≤ T ∧ T ≤ 10000) (hFT : F < T) (r : Bool) (hr : r = true ↔ StripR l F T L) :
    Calls Tryz.prog 156 #[.slice (some ⟨b, off, none⟩) n c, .agg #[.int .i64 F, .int .i64 T, v]] w fun e w' => e = .returned (.bool r) ∧ New w w' := by
  have hln := hw.1
  by_cases h1 : L.length = wantN l F T n
  · rcases first_bad (idxB l L F T) L.length with h2 | ⟨K, hK, h2, h3⟩
    · have e : r = ((risB l L F T && loneB l L F) && loneB l L T) := by
        rw [Bool.eq_iff_iff, hr, Bool.and_eq_true, Bool.and_eq_true]
        exact ⟨fun h => ⟨⟨h.ris, h.low⟩, h.high⟩, fun h => ⟨by rw [hln]; exact h1, h2, h.1.1, h.1.2, h.2⟩⟩
      rw [e]
      exact strip_go b off n c l L F T v w L.length hl hw rfl hv hok hF hT hFT h1 h2
    · have e : r = false := Bool.eq_false_iff.2 (fun h => by have := (hr.1 h).idx K hK; rw [h3] at this; cases this)
      rw [e]
      exact strip_idx b off n c l L F T v w L.length hl hw rfl hv hok hF hT hFT h1 K hK h2 h3
  · have e : r = false := Bool.eq_false_iff.2 (fun h => h1 (by have := (hr.1 h).len; rw [hln] at this; exact this))
    rw [e]
    exact strip_len b off n c l L F T v w L.length hl hw rfl hv hok hF hT hFT hL h1

theorem refCheckSegs_nil (v : Option Addr) (c : Nat) (w : World) : Calls Tryz.prog 136 #[.slice v 0 c] w fun en w' => en = .returned (.int .i64 0) ∧ New w w' := by
  go_enter Tryz.func136, Tryz.ntmps136
  go_wp2_with fail
  refine wp_loop_rounds 1 ?_
  repeat any_goals (rw [rounds_succ]; go_wp2)
  go_ret; exact ⟨rfl, (by (repeat (first | exact New.refl _ | apply New.alloc | apply New.aft | apply New.drew | refine New.setCell ?_ ?_ _)); all_goals (first | done | (simp [size_aft]; done) | (simp [size_aft]; omega)))⟩

set_option maxHeartbeats 4000000 in
theorem refCheck_no (A cv : Option Addr) (n cp N cc : Nat) (K : Int) (w : World) (hK : K ≠ 0)
    (HC : Hid (∀ w1 : World, New w w1 → Calls Tryz.prog 136 #[.slice A n cp] w1 fun en w' => en = .returned (.int .i64 K) ∧ New w1 w')) :
    Calls Tryz.prog 74 #[.slice A n cp, .slice cv N cc] w fun e w' => e = .returned (.bool false) ∧ New w w' := by
  have z1 : (K == 0) = false := by simpa using hK
  have z2 : (K != 0) = true := by simpa using hK
  go_enter Tryz.func74, Tryz.ntmps74
  go_wp2_with (go_at_call 136; refine (HC.out _ (by (repeat (first | exact New.refl _ | apply New.alloc | apply New.aft | apply New.drew | refine New.setCell ?_ ?_ _)); all_goals (first | done | (simp [size_aft]; done) | (simp [size_aft]; omega)))).mono ?_; rintro en w1 ⟨rfl, pw, rfl⟩)
  all_goals (go_ret; exact ⟨rfl, (by (repeat (first | exact New.refl _ | apply New.alloc | apply New.aft | apply New.drew | refine New.setCell ?_ ?_ _)); all_goals (first | done | (simp [size_aft]; done) | (simp [size_aft]; omega)))⟩)

set_option maxHeartbeats 32000000 in
theorem refCheck_go (A cv : Option Addr) (n cp N cc : Nat) (l : List S4) (C : List SV) (w : World) (hl : n ≤ 1000000) (hln : l.length = n) (hp : 0 < n → ∃ b off, A = some ⟨b, off, none⟩ ∧ Segs w b off n l) (hCn : C.length = N) (hN : N ≤ 17592186044415)
    (hC : 0 < N → ∃ cb co, cv = some ⟨cb, co, none⟩ ∧ Strps w cb co N C) (hlen : ∀ i, i < N → (sL C i).length ≤ 17592186044415) (hck : ckSegs l = 0)
    (HK : Hid (∀ w1 : World, New w w1 → Calls Tryz.prog 136 #[.slice A n cp] w1 fun en w' => en = .returned (.int .i64 0) ∧ New w1 w')) (r : Bool) (hr : r = true ↔ RefOk l C) :
    Calls Tryz.prog 74 #[.slice A n cp, .slice cv N cc] w fun e w' => e = .returned (.bool r) ∧ New w w' := by
  have hok := ck_ok hck
  have hE := ev_eq hok
  have hML := evTo_le l 10001
  rw [hE] at hML
  have hM0 : n = 0 → (endXsL l).length = 0 := fun h => by
    cases hx : endXsL l with
    | nil => rfl
    | cons a t =>
      obtain ⟨i, hi, _⟩ := endXs_mem.1 (show a ∈ endXsL l by rw [hx]; simp)
      omega
  have HEV := Lib.hid (fun (w1 : World) (h1 : New w w1) => (show Calls Tryz.prog 147 #[.slice A n cp] w1 fun en w' => ∃ ax cx, en = .returned (.slice ax (endXsL l).length cx) ∧ (0 < (endXsL l).length → ∃ bx ox, ax = some ⟨bx, ox, none⟩ ∧ Ints w' bx ox (endXsL l).length (endXsL l)) ∧ New w1 w' from (events_c A n cp l w1 hl hln (fun h => by obtain ⟨b, off, e1, e2⟩ := hp h; exact ⟨b, off, e1, e2.new h1⟩)).mono fun en w' h => by
    obtain ⟨v, rfl, ho, hn⟩ := h
    rw [hE] at ho
    obtain ⟨av, cx, rfl, hI⟩ := intsA_row ho
    exact ⟨av, cx, rfl, hI, hn⟩))
  have HP := Lib.hid hp
  have HC := Lib.hid hC
  have HXB := Lib.hid (fun k (hk : k < (endXsL l).length) => (xAt_bd hok hk : 0 ≤ xAt l k ∧ xAt l k ≤ 10000))
  have HXL := Lib.hid (fun k (hk : k + 1 < (endXsL l).length) => xAt_lt (l := l) (show k < k + 1 by omega) hk)
  have HXA := Lib.hid (show ∀ k, (endXsL l).getD k 0 = xAt l k from fun _ => rfl)
  have HRF := Lib.hid (fun (h1 : N = (endXsL l).length - 1) (h2 : ∀ j, j < N → (sF C j = xAt l j ∧ sT C j = xAt l (j + 1)) ∧ StripR l (sF C j) (sT C j) (sL C j)) (h3 : ∀ i, i < n → q1 l i = q3 l i → upB l i = true) => (hr.2 ⟨hck, by rw [hCn]; exact h1, fun j hj => h2 j (by omega), fun i hi => h3 i (by omega)⟩ : r = true))
  have HFL := Lib.hid (fun (h1 : ¬ N = (endXsL l).length - 1) => (Bool.eq_false_iff.2 (fun h => h1 (by have := (hr.1 h).len; omega)) : r = false))
  have HFS := Lib.hid (fun j (hj : j < N) (h1 : ¬ ((sF C j = xAt l j ∧ sT C j = xAt l (j + 1)) ∧ StripR l (sF C j) (sT C j) (sL C j))) => (Bool.eq_false_iff.2 (fun h => h1 ((hr.1 h).each j (by omega))) : r = false))
  have HFV := Lib.hid (fun i (hi : i < n) (h1 : q1 l i = q3 l i) (h2 : upB l i = false) => (Bool.eq_false_iff.2 (fun h => by have := (hr.1 h).vert i (by omega) h1; rw [h2] at this; cases this) : r = false))
  have HUP := Lib.hid (fun (b off i : Nat) (w1 : World) (h1 : New w w1) (hs : Segs w1 b off n l) (hi : i < n) => upright_c b off n cp l i w1 hl hs hok hi)
  have HSTR := Lib.hid (fun (b off k : Nat) (v : Value) (w1 : World) (hs : Segs w1 b off n l) (hv : IntsA w1 v (sL C k)) (hk : k < N) (hF : 0 ≤ sF C k ∧ sF C k ≤ 10000) (hT : 0 ≤ sT C k ∧ sT C k ≤ 10000) (hFT : sF C k < sT C k) (sb : Bool) (hsb : sb = true ↔ StripR l (sF C k) (sT C k) (sL C k)) => strip_c b off n cp l (sL C k) (sF C k) (sT C k) v w1 hl hs hv (hlen k hk) hok hF hT hFT sb hsb)
  clear hp hC hr hE hlen
  generalize hM : (endXsL l).length = M at *
  have hw1 : IntKind.i64.wrap ((M : Int) - 1) = (M : Int) - 1 := IntWalk.i64_in _ (by omega)
  have hmx : max ((M : Int) - 1) 0 = ((M - 1 : Nat) : Int) := by omega
  by_cases hND : N = M - 1
  · have zN : ((N : Int) != ((M - 1 : Nat) : Int)) = false := by simp; omega
    have HND := Lib.hid hND
    clear hND
    go_enter Tryz.func74, Tryz.ntmps74
    go_wp2_with (first | (go_at_call 136; refine (HK.out _ (by (repeat (first | exact New.refl _ | apply New.alloc | apply New.aft | apply New.drew | refine New.setCell ?_ ?_ _)); all_goals (first | done | (simp [size_aft]; done) | (simp [size_aft]; omega)))).mono ?_; rintro e w1 ⟨rfl, hn1⟩; have HN1 := Lib.hid (show New w w1 from (New.refl w).trans hn1); clear hn1) | (go_at_call 147; refine (HEV.out _ (by (repeat (first | exact HN1.out | exact New.refl _ | apply New.alloc | apply New.aft | apply New.drew | refine New.setCell ?_ ?_ _)); all_goals (first | done | (simp [size_aft]; done) | (simp [size_aft]; omega)))).mono ?_; rintro e w2 ⟨ax, cx, rfl, hix, hn2⟩; have HIX := Lib.hid hix; have HN2 := Lib.hid (HN1.out.trans hn2); clear hix hn2))
    clear hw1 hmx zN
    go_loopw [6] (fun i wr => ∃ k : Nat, k ≤ N ∧ i = .int .i64 k ∧ (∀ j, j < k → (sF C j = xAt l j ∧ sT C j = xAt l (j + 1)) ∧ StripR l (sF C j) (sT C j) (sL C j)) ∧ New w2 wr) (fun i _ => N - (intOf i).toNat)
    case atStart => exact ⟨0, Nat.zero_le _, rfl, fun j hj => by omega, (by (repeat (first | exact New.refl _ | apply New.alloc | apply New.aft | apply New.drew | refine New.setCell ?_ ?_ _)); all_goals (first | done | (simp [size_aft]; done) | (simp [size_aft]; omega)))⟩
    case round =>
      obtain ⟨k, hk, rfl, hall, hn3⟩ := hrel
      obtain ⟨U1, rfl⟩ : ∃ U1 : World, U1 = wr := ⟨_, rfl⟩
      have HALL := Lib.hid hall
      have HNR := Lib.hid hn3
      have HNW := Lib.hid (HN2.out.trans hn3)
      clear hall hn3
      by_cases hkn : k < N
      · have hk2 : k + 1 < M := by have := HND.out; omega
        obtain ⟨bx, ox, rfl, hI⟩ := HIX.out (by omega)
        obtain ⟨_, hxg, hxc⟩ := hI.new HNR.out
        have x0 := hxc k (by omega)
        have x1 := hxc (k + 1) (by omega)
        rw [HXA.out] at x0 x1
        obtain ⟨cb, co, rfl, hst⟩ := HC.out (by omega)
        obtain ⟨_, hcb, hcc⟩ := hst.new HNW.out
        obtain ⟨v, ⟨y0, y1⟩, y2, hvI⟩ := hcc k hkn
        obtain ⟨b, off, rfl, hs⟩ := HP.out (by omega)
        have HSW := Lib.hid (hs.new HNW.out)
        have HVI := Lib.hid hvI
        have hk1 : (k : Int) < (N : Int) := by omega
        have hp1 : (k : Int) < (M : Int) := by omega
        have hp3 : (k : Int) + 1 < (M : Int) := by omega
        have hp4 : (0 : Int) ≤ (k : Int) + 1 := by omega
        have hp5 : ((k : Int) + 1).toNat = k + 1 := by omega
        have hw2 : IntKind.i64.wrap ((k : Int) + 1) = (k : Int) + 1 := IntWalk.i64_in _ (by omega)
        have HFSk := Lib.hid (HFS.out k hkn)
        have hxb := HXB.out k (by omega)
        have hxb2 := HXB.out (k + 1) (by omega)
        have hxl := HXL.out k (by omega)
        have HALS := Lib.hid (fun (h : (sF C k = xAt l k ∧ sT C k = xAt l (k + 1)) ∧ StripR l (sF C k) (sT C k) (sL C k)) => (show ∀ j, j < k + 1 → (sF C j = xAt l j ∧ sT C j = xAt l (j + 1)) ∧ StripR l (sF C j) (sT C j) (sL C j) from fun j hj => by
          rcases Nat.lt_or_ge j k with g | g
          · exact HALL.out j g
          · obtain rfl : j = k := by omega
            exact h))
        obtain ⟨sb, hsb⟩ : ∃ sb : Bool, sb = true ↔ StripR l (sF C k) (sT C k) (sL C k) := by
          rcases Classical.em (StripR l (sF C k) (sT C k) (sL C k)) with h | h
          · exact ⟨true, ⟨fun _ => h, fun _ => rfl⟩⟩
          · exact ⟨false, ⟨fun e => Bool.noConfusion e, fun g => absurd g h⟩⟩
        have HSB := Lib.hid hsb
        have HSK := Lib.hid (fun (w1 : World) (h1 : New U1 w1) (hF : 0 ≤ sF C k ∧ sF C k ≤ 10000) (hT : 0 ≤ sT C k ∧ sT C k ≤ 10000) (hFT : sF C k < sT C k) => HSTR.out b off k v w1 (HSW.out.new h1) (HVI.out.new h1) hkn hF hT hFT sb hsb)
        clear hsb hcc hst hxc hI hs hvI
        by_cases e1 : sF C k = xAt l k
        · by_cases e2 : sT C k = xAt l (k + 1)
          · have HST := Lib.hid (fun (w1 : World) (h1 : New U1 w1) => HSK.out w1 h1 (by omega) (by omega) (by omega))
            have HE1 := Lib.hid e1
            have HE2 := Lib.hid e2
            have z1 : (sF C k != xAt l k) = false := by simpa using e1
            have z2 : (sT C k != xAt l (k + 1)) = false := by simpa using e2
            clear e1 e2 HSK hxb hxb2 hxl
            generalize sF C k = F at *
            generalize sT C k = T at *
            generalize xAt l k = X0 at *
            generalize xAt l (k + 1) = X1 at *
            cases sb
            · have HV := Lib.hid (HFSk.out (fun h => by have := HSB.out.2 h.2; cases this))
              go_wp2_with fail
              first | refine wp_region_at2 (by kernel_rfl) (by kernel_rfl) ?_ | refine wp_region_at (by kernel_rfl) (by kernel_rfl) ?_
              repeat (go_big_quiet_step (fail))
              refine wpQuiet_nil ?_
              rintro _ ⟨pq, rfl⟩
              go_wp2_with (go_at_call 156; (with_reducible refine (HST.out _ (by (repeat (first | exact New.refl _ | apply New.alloc | apply New.aft | apply New.drew | refine New.setCell ?_ ?_ _)); all_goals (first | done | (simp [size_aft]; done) | (simp [size_aft]; omega)))).mono ?_); rintro e w4 ⟨rfl, pw4, rfl⟩)
              go_ret
              exact ⟨ret_bool HV.out.symm, HNW.out.trans (by (repeat (first | exact New.refl _ | apply New.alloc | apply New.aft | apply New.drew | refine New.setCell ?_ ?_ _)); all_goals (first | done | (simp [size_aft]; done) | (simp [size_aft]; omega)))⟩
            · have HV := Lib.hid (HALS.out ⟨⟨HE1.out, HE2.out⟩, HSB.out.1 rfl⟩)
              go_wp2_with fail
              first | refine wp_region_at2 (by kernel_rfl) (by kernel_rfl) ?_ | refine wp_region_at (by kernel_rfl) (by kernel_rfl) ?_
              repeat (go_big_quiet_step (fail))
              refine wpQuiet_nil ?_
              rintro _ ⟨pq, rfl⟩
              go_wp2_with (go_at_call 156; (with_reducible refine (HST.out _ (by (repeat (first | exact New.refl _ | apply New.alloc | apply New.aft | apply New.drew | refine New.setCell ?_ ?_ _)); all_goals (first | done | (simp [size_aft]; done) | (simp [size_aft]; omega)))).mono ?_); rintro e w4 ⟨rfl, pw4, rfl⟩)
              go_roundw
              case rel => exact ⟨k + 1, by omega, by go_num, HV.out, HNR.out.trans (by (repeat (first | exact New.refl _ | apply New.alloc | apply New.aft | apply New.drew | refine New.setCell ?_ ?_ _)); all_goals (first | done | (simp [size_aft]; done) | (simp [size_aft]; omega)))⟩
              case measure => simp [intOf]; omega
          · have HV := Lib.hid (HFSk.out (fun h => e2 h.1.2))
            have z1 : (sF C k != xAt l k) = false := by simpa using e1
            have z2 : (sT C k != xAt l (k + 1)) = true := by simpa using e2
            clear e1 e2 HSK
            generalize sF C k = F at *
            generalize sT C k = T at *
            generalize xAt l k = X0 at *
            generalize xAt l (k + 1) = X1 at *
            go_wp2_with fail
            first | refine wp_region_at2 (by kernel_rfl) (by kernel_rfl) ?_ | refine wp_region_at (by kernel_rfl) (by kernel_rfl) ?_
            repeat (go_big_quiet_step (fail))
            refine wpQuiet_nil ?_
            rintro _ ⟨pq, rfl⟩
            go_wp2_with fail
            go_ret
            exact ⟨ret_bool HV.out.symm, HNW.out.trans (by (repeat (first | exact New.refl _ | apply New.alloc | apply New.aft | apply New.drew | refine New.setCell ?_ ?_ _)); all_goals (first | done | (simp [size_aft]; done) | (simp [size_aft]; omega)))⟩
        · have HV := Lib.hid (HFSk.out (fun h => e1 h.1.1))
          have z1 : (sF C k != xAt l k) = true := by simpa using e1
          clear e1 HSK
          generalize sF C k = F at *
          generalize sT C k = T at *
          generalize xAt l k = X0 at *
          generalize xAt l (k + 1) = X1 at *
          go_wp2_with fail
          first | refine wp_region_at2 (by kernel_rfl) (by kernel_rfl) ?_ | refine wp_region_at (by kernel_rfl) (by kernel_rfl) ?_
          repeat (go_big_quiet_step (fail))
          refine wpQuiet_nil ?_
          rintro _ ⟨pq, rfl⟩
          go_wp2_with fail
          go_ret
          exact ⟨ret_bool HV.out.symm, HNW.out.trans (by (repeat (first | exact New.refl _ | apply New.alloc | apply New.aft | apply New.drew | refine New.setCell ?_ ?_ _)); all_goals (first | done | (simp [size_aft]; done) | (simp [size_aft]; omega)))⟩
      · obtain rfl : N = k := by omega
        go_wp2_with fail
        go_loopw [8] (fun s wr => ∃ i : Nat, i ≤ n ∧ s = .int .i64 i ∧ (∀ j, j < i → q1 l j = q3 l j → upB l j = true) ∧ New U1 wr) (fun s _ => n - (intOf s).toNat)
        case atStart => exact ⟨0, Nat.zero_le _, rfl, fun j hj => by omega, (by (repeat (first | exact New.refl _ | apply New.alloc | apply New.aft | apply New.drew | refine New.setCell ?_ ?_ _)); all_goals (first | done | (simp [size_aft]; done) | (simp [size_aft]; omega)))⟩
        case round =>
          obtain ⟨i, hin, rfl, hup, hn4⟩ := hrel
          obtain ⟨U2, rfl⟩ : ∃ U2 : World, U2 = wr := ⟨_, rfl⟩
          have HUA := Lib.hid hup
          have HN4 := Lib.hid hn4
          have HNW4 := Lib.hid (HNW.out.trans hn4)
          clear hup hn4
          by_cases hil : i < n
          · obtain ⟨b, off, rfl, hs⟩ := HP.out (by omega)
            obtain ⟨_, gl, hcc⟩ := hs.new HNW4.out
            obtain ⟨c1, c2, c3, c4⟩ := hcc i hil
            have HUS := Lib.hid (fun (w1 : World) (h1 : New U2 w1) => HUP.out b off i w1 (HNW4.out.trans h1) (hs.new (HNW4.out.trans h1)) hil)
            have HFVi := Lib.hid (HFV.out i hil)
            have HUN := Lib.hid (fun (h : q1 l i = q3 l i → upB l i = true) => (show ∀ j, j < i + 1 → q1 l j = q3 l j → upB l j = true from fun j hj => by
              rcases Nat.lt_or_ge j i with g | g
              · exact HUA.out j g
              · obtain rfl : j = i := by omega
                exact h))
            have hi1 : (i : Int) < (n : Int) := by omega
            clear hcc hs
            generalize upB l i = up at *
            generalize q1 l i = A1 at *
            generalize q2 l i = A2 at *
            generalize q3 l i = A3 at *
            generalize q4 l i = A4 at *
            by_cases e1 : A1 = A3
            · have z1 : (A1 != A3) = false := by simpa using e1
              have HE1 := Lib.hid e1
              clear e1
              cases up
              · have HV := Lib.hid (HFVi.out HE1.out rfl)
                go_wp2_with fail
                first | refine wp_region_at2 (by kernel_rfl) (by kernel_rfl) ?_ | refine wp_region_at (by kernel_rfl) (by kernel_rfl) ?_
                repeat (go_big_quiet_step (fail))
                refine wpQuiet_nil ?_
                rintro _ ⟨pq, rfl⟩
                go_wp2_with (go_at_call 157; (with_reducible refine (HUS.out _ (by (repeat (first | exact New.refl _ | apply New.alloc | apply New.aft | apply New.drew | refine New.setCell ?_ ?_ _)); all_goals (first | done | (simp [size_aft]; done) | (simp [size_aft]; omega)))).mono ?_); rintro e w4 ⟨rfl, pw4, rfl⟩)
                go_ret
                exact ⟨ret_bool HV.out.symm, HNW4.out.trans (by (repeat (first | exact New.refl _ | apply New.alloc | apply New.aft | apply New.drew | refine New.setCell ?_ ?_ _)); all_goals (first | done | (simp [size_aft]; done) | (simp [size_aft]; omega)))⟩
              · have HV := Lib.hid (HUN.out (fun _ => rfl))
                go_wp2_with fail
                first | refine wp_region_at2 (by kernel_rfl) (by kernel_rfl) ?_ | refine wp_region_at (by kernel_rfl) (by kernel_rfl) ?_
                repeat (go_big_quiet_step (fail))
                refine wpQuiet_nil ?_
                rintro _ ⟨pq, rfl⟩
                go_wp2_with (go_at_call 157; (with_reducible refine (HUS.out _ (by (repeat (first | exact New.refl _ | apply New.alloc | apply New.aft | apply New.drew | refine New.setCell ?_ ?_ _)); all_goals (first | done | (simp [size_aft]; done) | (simp [size_aft]; omega)))).mono ?_); rintro e w4 ⟨rfl, pw4, rfl⟩)
                go_roundw
                case rel => exact ⟨i + 1, by omega, by go_num, HV.out, HN4.out.trans (by (repeat (first | exact New.refl _ | apply New.alloc | apply New.aft | apply New.drew | refine New.setCell ?_ ?_ _)); all_goals (first | done | (simp [size_aft]; done) | (simp [size_aft]; omega)))⟩
                case measure => simp [intOf]; omega
            · have z1 : (A1 != A3) = true := by simpa using e1
              have HV := Lib.hid (HUN.out (fun h => absurd h e1))
              clear e1
              go_wp2_with fail
              first | refine wp_region_at2 (by kernel_rfl) (by kernel_rfl) ?_ | refine wp_region_at (by kernel_rfl) (by kernel_rfl) ?_
              repeat (go_big_quiet_step (fail))
              refine wpQuiet_nil ?_
              rintro _ ⟨pq, rfl⟩
              go_wp2_with fail
              go_roundw
              case rel => exact ⟨i + 1, by omega, by go_num, HV.out, HN4.out.trans (by (repeat (first | exact New.refl _ | apply New.alloc | apply New.aft | apply New.drew | refine New.setCell ?_ ?_ _)); all_goals (first | done | (simp [size_aft]; done) | (simp [size_aft]; omega)))⟩
              case measure => simp [intOf]; omega
          · obtain rfl : n = i := by omega
            have HV := Lib.hid (HRF.out HND.out HALL.out HUA.out)
            go_wp2_with fail
            go_ret
            exact ⟨ret_bool HV.out.symm, HNW4.out⟩
  · have zN : ((N : Int) != ((M - 1 : Nat) : Int)) = true := by simp; omega
    have HV := Lib.hid (HFL.out hND)
    go_enter Tryz.func74, Tryz.ntmps74
    go_wp2_with (first | (go_at_call 136; refine (HK.out _ (by (repeat (first | exact New.refl _ | apply New.alloc | apply New.aft | apply New.drew | refine New.setCell ?_ ?_ _)); all_goals (first | done | (simp [size_aft]; done) | (simp [size_aft]; omega)))).mono ?_; rintro e w1 ⟨rfl, hn1⟩; have HN1 := Lib.hid (show New w w1 from (New.refl w).trans hn1); clear hn1) | (go_at_call 147; refine (HEV.out _ (by (repeat (first | exact HN1.out | exact New.refl _ | apply New.alloc | apply New.aft | apply New.drew | refine New.setCell ?_ ?_ _)); all_goals (first | done | (simp [size_aft]; done) | (simp [size_aft]; omega)))).mono ?_; rintro e w2 ⟨ax, cx, rfl, hix, hn2⟩; have HN2 := Lib.hid (HN1.out.trans hn2); clear hix hn2))
    go_ret
    exact ⟨ret_bool HV.out.symm, (by (repeat (first | exact HN2.out | exact New.refl _ | apply New.alloc | apply New.aft | apply New.drew | refine New.setCell ?_ ?_ _)); all_goals (first | done | (simp [size_aft]; done) | (simp [size_aft]; omega)))⟩

end Go.Proofs.YtpdfbboagaflhaaGreat

set_option linter.unusedSimpArgs false
set_option linter.unusedVariables false
set_option maxRecDepth 100000
namespace Go.Proofs.YtpdfbboagaflhaaGreat
open Go.RowKit

set_option maxHeartbeats 4000000 in
theorem ref_sweep_err (A : Option Addr) (n cp : Nat) (K : Int) (w : World) (hK : K ≠ 0)
    (HX : Hid (∀ w1 : World, New w w1 → Calls Tryz.prog 65 #[.slice A n cp] w1 fun e w' => e = .returned (.tuple #[.int .i64 0, .int .i64 0, .bool false, .int .i64 K]) ∧ New w1 w')) :
    Calls Tryz.prog 71 #[.slice A n cp] w fun en w' => en = .returned (.tuple #[.slice none 0 0, .int .i64 K]) ∧ New w w' := by
  have z1 : (K == 0) = false := by simpa using hK
  have z2 : (K != 0) = true := by simpa using hK
  go_enter Tryz.func71, Tryz.ntmps71
  go_wp2_with (go_at_call 65; refine (HX.out _ (by (repeat (first | exact New.refl _ | apply New.alloc | apply New.aft | apply New.drew | refine New.setCell ?_ ?_ _)); all_goals (first | done | (simp [size_aft]; done) | (simp [size_aft]; omega)))).mono ?_; rintro e w1 ⟨rfl, pw, rfl⟩)
  refine bodyPost_ret (v := .tuple #[.slice none 0 0, .int .i64 K]) (by simp [results, Tryz.results71, go_sem]) rfl ⟨rfl, (by (repeat (first | exact New.refl _ | apply New.alloc | apply New.aft | apply New.drew | refine New.setCell ?_ ?_ _)); all_goals (first | done | (simp [size_aft]; done) | (simp [size_aft]; omega)))⟩
set_option maxHeartbeats 4000000 in
theorem ref_sweep_cross (A : Option Addr) (n cp : Nat) (w : World)
    (HX : Hid (∀ w1 : World, New w w1 → Calls Tryz.prog 65 #[.slice A n cp] w1 fun e w' => (∃ i j : Nat, e = .returned (.tuple #[.int .i64 i, .int .i64 j, .bool true, .int .i64 0])) ∧ New w1 w')) :
    Calls Tryz.prog 71 #[.slice A n cp] w fun en w' => en = .returned (.tuple #[.slice none 0 0, .int .i64 10]) ∧ New w w' := by
  go_enter Tryz.func71, Tryz.ntmps71
  go_wp2_with (go_at_call 65; refine (HX.out _ (by (repeat (first | exact New.refl _ | apply New.alloc | apply New.aft | apply New.drew | refine New.setCell ?_ ?_ _)); all_goals (first | done | (simp [size_aft]; done) | (simp [size_aft]; omega)))).mono ?_; rintro e w1 ⟨⟨i, j, rfl⟩, pw, rfl⟩)
  refine bodyPost_ret (v := .tuple #[.slice none 0 0, .int .i64 10]) (by simp [results, Tryz.results71, go_sem]) rfl ⟨rfl, (by (repeat (first | exact New.refl _ | apply New.alloc | apply New.aft | apply New.drew | refine New.setCell ?_ ?_ _)); all_goals (first | done | (simp [size_aft]; done) | (simp [size_aft]; omega)))⟩
set_option maxHeartbeats 8000000 in
theorem ref_sweep_nil (A : Option Addr) (cp : Nat) (w : World) :
    Calls Tryz.prog 71 #[.slice A 0 cp] w fun en w' => en = .returned (.tuple #[.slice none 0 0, .int .i64 0]) ∧ New w w' := by
  have HX := Lib.hid (fun w1 : World => ref_crossing_nil A cp w1)
  have hE : evTo [] 10001 = [] := by
    have h : ∀ k, evTo [] k = [] := fun k => by
      induction k with
      | zero => rfl
      | succ k ih => simp only [evTo]; rw [ih]; simp [evHit]
    exact h _
  have HEV := Lib.hid (fun (w1 : World) => (show Calls Tryz.prog 147 #[.slice A 0 cp] w1 fun en w' => ∃ a c, en = .returned (.slice a 0 c) ∧ New w1 w' from (events_c A 0 cp [] w1 (by omega) rfl (fun h => by omega)).mono fun en w' h => by
    obtain ⟨v, rfl, ho, hn⟩ := h
    rw [hE] at ho
    obtain ⟨av, cx, rfl, hI⟩ := intsA_row ho
    exact ⟨av, cx, rfl, hn⟩))
  clear hE
  go_enter Tryz.func71, Tryz.ntmps71
  go_wp2_with (first | (go_at_call 65; refine (HX.out _).mono ?_; rintro e w1 ⟨rfl, pw, rfl⟩) | (go_at_call 147; refine (HEV.out _).mono ?_; rintro e w2 ⟨ax, cx, rfl, pw2, rfl⟩))
  refine wp_loop_rounds 1 ?_
  repeat any_goals (rw [rounds_succ]; go_wp2)
  refine bodyPost_ret (v := .tuple #[.slice none 0 0, .int .i64 0]) (by simp [results, Tryz.results71, go_sem]) rfl ⟨rfl, (by (repeat (first | exact New.refl _ | apply New.alloc | apply New.aft | apply New.drew | refine New.setCell ?_ ?_ _)); all_goals (first | done | (simp [size_aft]; done) | (simp [size_aft]; omega)))⟩

set_option maxHeartbeats 4000000 in
theorem sweeps_long (A cv : Option Addr) (n cp N cc : Nat) (w : World) (hn : 30 < n) : Calls Tryz.prog 17 #[.slice A n cp, .slice cv N cc] w fun e w' => e = .returned (.bool true) ∧ New w w' := by
  have HL := Lib.hid alive_c
  have hn2 : (30 : Int) < (n : Int) := by omega
  go_enter Tryz.func17, Tryz.ntmps17
  go_wp2_with (go_at_call 31; refine (HL.out _).mono ?_; rintro e w1 ⟨rfl, pw, rfl⟩)
  all_goals (go_ret; exact ⟨rfl, (by (repeat (first | exact New.refl _ | apply New.alloc | apply New.aft | apply New.drew | refine New.setCell ?_ ?_ _)); all_goals (first | done | (simp [size_aft]; done) | (simp [size_aft]; omega)))⟩)
set_option maxHeartbeats 4000000 in
theorem sweeps_thick (A cv : Option Addr) (n cp N cc : Nat) (w : World) (hn : n ≤ 30)
    (HT : Hid (∀ w1 : World, New w w1 → Calls Tryz.prog 69 #[.slice cv N cc] w1 fun e w' => e = .returned (.bool false) ∧ New w1 w')) : Calls Tryz.prog 17 #[.slice A n cp, .slice cv N cc] w fun e w' => e = .returned (.bool true) ∧ New w w' := by
  have HL := Lib.hid alive_c
  have hn2 : ¬ (30 : Int) < (n : Int) := by omega
  go_enter Tryz.func17, Tryz.ntmps17
  go_wp2_with (first | (go_at_call 31; refine (HL.out _).mono ?_; rintro e w1 ⟨rfl, pw, rfl⟩) | (go_at_call 69; refine (HT.out _ (by (repeat (first | exact New.refl _ | apply New.alloc | apply New.aft | apply New.drew | refine New.setCell ?_ ?_ _)); all_goals (first | done | (simp [size_aft]; done) | (simp [size_aft]; omega)))).mono ?_; rintro e w1 ⟨rfl, pw, rfl⟩))
  all_goals (go_ret; exact ⟨rfl, (by (repeat (first | exact New.refl _ | apply New.alloc | apply New.aft | apply New.drew | refine New.setCell ?_ ?_ _)); all_goals (first | done | (simp [size_aft]; done) | (simp [size_aft]; omega)))⟩)
set_option maxHeartbeats 8000000 in
theorem sweeps_go (A cv : Option Addr) (n cp N cc : Nat) (E : Int) (r : Bool) (R : Value → World → Prop) (hR : ∀ v w1 w2, R v w1 → New w1 w2 → R v w2) (w : World) (hn : n ≤ 30)
    (HT : Hid (∀ w1 : World, New w w1 → Calls Tryz.prog 69 #[.slice cv N cc] w1 fun e w' => e = .returned (.bool true) ∧ New w1 w'))
    (HS : Hid (∀ w1 : World, New w w1 → Calls Tryz.prog 70 #[.slice A n cp] w1 fun e w' => ∃ a m c, e = .returned (.tuple #[.slice a m c, .int .i64 E]) ∧ R (.slice a m c) w' ∧ New w1 w'))
    (HF : Hid (∀ w1 : World, New w w1 → Calls Tryz.prog 71 #[.slice A n cp] w1 fun e w' => ∃ a m c, e = .returned (.tuple #[.slice a m c, .int .i64 E]) ∧ R (.slice a m c) w' ∧ New w1 w'))
    (HM : Hid (∀ (v u : Value) (w1 : World), New w w1 → R v w1 → R u w1 → Calls Tryz.prog 72 #[v, u] w1 fun e w' => e = .returned (.bool true) ∧ New w1 w'))
    (HC : Hid (∀ w1 : World, New w w1 → Calls Tryz.prog 73 #[.slice A n cp, .slice cv N cc] w1 fun e w' => e = .returned (.bool r) ∧ New w1 w'))
    (HD : Hid (∀ w1 : World, New w w1 → Calls Tryz.prog 74 #[.slice A n cp, .slice cv N cc] w1 fun e w' => e = .returned (.bool r) ∧ New w1 w')) :
    Calls Tryz.prog 17 #[.slice A n cp, .slice cv N cc] w fun e w' => e = .returned (.bool true) ∧ New w w' := by
  have HL := Lib.hid alive_c
  have HRR := Lib.hid hR
  have hn2 : ¬ (30 : Int) < (n : Int) := by omega
  have zE : (E == E) = true := by simp
  have zr : (r == r) = true := by simp
  clear hR
  go_enter Tryz.func17, Tryz.ntmps17
  go_wp2_with (first | (go_at_call 69; refine (HT.out _ (by (repeat (first | exact New.refl _ | apply New.alloc | apply New.aft | apply New.drew | refine New.setCell ?_ ?_ _)); all_goals (first | done | (simp [size_aft]; done) | (simp [size_aft]; omega)))).mono ?_; rintro e w1 ⟨rfl, pw1, rfl⟩) | (go_at_call 70; refine (HS.out _ (by (repeat (first | exact New.refl _ | apply New.alloc | apply New.aft | apply New.drew | refine New.setCell ?_ ?_ _)); all_goals (first | done | (simp [size_aft]; done) | (simp [size_aft]; omega)))).mono ?_; rintro e w5 ⟨a1, m1, k1, rfl, hR1, hn5⟩; have HR1 := Lib.hid hR1; have HN5 := Lib.hid (show New w w5 from New.trans (by (repeat (first | exact New.refl _ | apply New.alloc | apply New.aft | apply New.drew | refine New.setCell ?_ ?_ _)); all_goals (first | done | (simp [size_aft]; done) | (simp [size_aft]; omega))) hn5); clear hR1 hn5) | (go_at_call 71; refine (HF.out _ HN5.out).mono ?_; rintro e w6 ⟨a2, m2, k2, rfl, hR2, hn6⟩; have HR2 := Lib.hid hR2; have HR16 := Lib.hid (HRR.out _ _ _ HR1.out hn6); have HN6 := Lib.hid (HN5.out.trans hn6); clear hR2 hn6) | (go_at_call 31; refine (HL.out _).mono ?_; rintro e w7 ⟨rfl, hn7⟩; have HR17 := Lib.hid (HRR.out _ _ _ HR16.out hn7); have HR27 := Lib.hid (HRR.out _ _ _ HR2.out hn7); have HN7 := Lib.hid (HN6.out.trans hn7); clear hn7) | (go_at_call 72; refine (HM.out _ _ _ HN7.out HR17.out HR27.out).mono ?_; rintro e w8 ⟨rfl, hn8⟩; have HN8 := Lib.hid (HN7.out.trans hn8); clear hn8) | (go_at_call 73; refine (HC.out _ HN8.out).mono ?_; rintro e w9 ⟨rfl, hn9⟩; have HN9 := Lib.hid (HN8.out.trans hn9); clear hn9) | (go_at_call 74; refine (HD.out _ HN9.out).mono ?_; rintro e w10 ⟨rfl, hn10⟩; have HN10 := Lib.hid (HN9.out.trans hn10); clear hn10))
  all_goals (go_ret; exact ⟨rfl, (by (repeat (first | exact HN10.out | exact New.refl _ | apply New.alloc | apply New.aft | apply New.drew | refine New.setCell ?_ ?_ _)); all_goals (first | done | (simp [size_aft]; done) | (simp [size_aft]; omega)))⟩)

end Go.Proofs.YtpdfbboagaflhaaGreat

set_option linter.unusedSimpArgs false
set_option linter.unusedVariables false
namespace Go.Proofs.YtpdfbboagaflhaaGreat
open Go.RowKit

theorem ref_strps {l : List S4} {w : World} {B c : Nat} {a : Option Addr} {vs : List Value} (hok : okSegs l = true) (hb : Geo.NoBad l.length (fwdAt l)) (ho : w.ownsRow B 84 3 (.slice a ((endXsL l).length - 1) c) ((endXsL l).length - 1) (stripCells l vs ((endXsL l).length - 1)))
    (hv : ∀ j, j < (endXsL l).length - 1 → IntsA w (vs.getD j undef) (insTo l (xAt l j) (xAt l (j + 1)) l.length)) (h0 : 0 < (endXsL l).length - 1) : ∃ cb co, a = some ⟨cb, co, none⟩ ∧ Strps w cb co ((endXsL l).length - 1) (sweptC l) := by
  obtain ⟨g, cap, hg0, hg1, hg2⟩ := ho.form h0
  obtain ⟨rfl, rfl⟩ : a = some ⟨g, 0, none⟩ ∧ c = cap := by cases hg0; exact ⟨rfl, rfl⟩
  refine ⟨g, 0, rfl, sweptC_len l, hg2, fun i hi => ?_⟩
  obtain ⟨c1, c2, c3⟩ := stripCells_at l vs _ i hi
  obtain ⟨⟨e1, e2⟩, e3⟩ := sweptC_at l hi
  rw [e1, e2, e3, Nat.zero_add]
  have h := hv i hi
  rw [insTo_segs hok hb (by omega)] at h
  exact ⟨vs.getD i undef, ⟨(own_cell ho c1).1, (own_cell ho c2).1⟩, (own_cell ho c3).1, h⟩
theorem bool_of (P : Prop) : ∃ r : Bool, r = true ↔ P := by
  rcases Classical.em P with h | h
  · exact ⟨true, ⟨fun _ => h, fun _ => rfl⟩⟩
  · exact ⟨false, ⟨fun e => Bool.noConfusion e, fun g => absurd g h⟩⟩

theorem planeSweeps_all (w : World) (av : Option Addr) (n cap : Nat) (l : List S4) (hl : l.length = n) (hp : 0 < n → ∃ b off, av = some ⟨b, off, none⟩ ∧ Segs w b off n l)
    (cv : Option Addr) (N cc : Nat) (C : List SV) (hCn : C.length = N) (hC : 0 < N → ∃ cb co, cv = some ⟨cb, co, none⟩ ∧ Strps w cb co N C) (hN : N ≤ 17592186044415) (hlen : ∀ i, i < N → (sL C i).length ≤ 17592186044415) :
    Calls Tryz.prog 17 #[.slice av n cap, .slice cv N cc] w fun e w' => e = .returned (.bool true) ∧ New w w' := by
  by_cases hn : n ≤ 30
  · have hCat : ∀ w1, New w w1 → 0 < N → ∃ cb co, cv = some ⟨cb, co, none⟩ ∧ Strps w1 cb co N C := fun w1 h1 g => by
      obtain ⟨cb, co, e1, e2⟩ := hC g
      exact ⟨cb, co, e1, e2.new h1⟩
    have hPat : ∀ w1, New w w1 → 0 < n → ∃ b off, av = some ⟨b, off, none⟩ ∧ Segs w1 b off n l := fun w1 h1 g => by
      obtain ⟨b, off, e1, e2⟩ := hp g
      exact ⟨b, off, e1, e2.new h1⟩
    have HT := fun (w1 : World) (h1 : New w w1) => thin_c cv N cc C w1 hN hCn (hCat w1 h1)
    have hnilM : ∀ (v u : Value) (w1 : World), New w w1 → v = .slice none 0 0 → u = .slice none 0 0 → Calls Tryz.prog 72 #[v, u] w1 fun e w' => e = .returned (.bool true) ∧ New w1 w' := fun v u w1 _ e1 e2 => by
      subst e1; subst e2
      exact sameStrips_r none none 0 0 0 [] w1 (by omega) (fun h => by omega) (fun h => by omega) (fun i h => by omega)
    cases ht : decide (thinW C N ≤ 4000)
    · rw [ht] at HT
      exact sweeps_thick av cv n cap N cc w hn (Lib.hid HT)
    · rw [ht] at HT
      by_cases h0 : 0 < n
      · obtain ⟨b, off, rfl, hw⟩ := hp h0
        obtain ⟨r, hr⟩ := bool_of (ChkOk l C)
        have HX := fun (w1 : World) (h1 : New w w1) => ref_Crossing b off n cap l w1 (by omega) (hw.new h1)
        have HAP := fun (w1 : World) (h1 : New w w1) => checkApart_c b off n cap l w1 (by omega) (hw.new h1)
        have HCK := fun (w1 : World) (h1 : New w w1) => checkSweep_c b off n cap N cc cv l C w1 h0 (by omega) (hw.new h1) hCn hN (hCat w1 h1) hlen r hr
        have HRK := fun (w1 : World) (h1 : New w w1) => ref_checkSegs b off n cap l w1 (by omega) (hw.new h1)
        by_cases hck : ckSegs l = 0
        · have hok := ck_ok hck
          have HRC := fun (w1 : World) (h1 : New w w1) => refCheck_go (some ⟨b, off, none⟩) cv n cap N cc l C w1 (by omega) hl (fun _ => ⟨b, off, rfl, hw.new h1⟩) hCn hN (hCat w1 h1) hlen hck (Lib.hid (fun w2 h2 => by have := HRK w2 (h1.trans h2); rwa [hck] at this)) r (hr.trans ref_iff.symm)
          rcases Classical.em (RowsFree l l.length l.length) with hf | hf
          · have hb := (nobad_iff hok).2 hf
            have hpos : 0 < (endXsL l).length := List.length_pos_of_mem (endXs_mem.2 ⟨0, by omega, .inl rfl⟩)
            have hle := endXsL_le l
            refine sweeps_go (some ⟨b, off, none⟩) cv n cap N cc 0 r (fun v w' => ∃ a c, v = .slice a ((endXsL l).length - 1) c ∧ (0 < (endXsL l).length - 1 → ∃ cb co, a = some ⟨cb, co, none⟩ ∧ Strps w' cb co ((endXsL l).length - 1) (sweptC l))) (fun v w1 w2 h1 h2 => ?_) w hn (Lib.hid HT) (Lib.hid (fun w1 h1 => ?_)) (Lib.hid (fun w1 h1 => ?_)) (Lib.hid (fun v u w1 h1 hv hu => ?_)) (Lib.hid HCK) (Lib.hid HRC)
            · obtain ⟨a, c, e, hs⟩ := h1
              exact ⟨a, c, e, fun g => by obtain ⟨cb, co, e1, e2⟩ := hs g; exact ⟨cb, co, e1, e2.new h2⟩⟩
            · refine (sweep_any b off n cap l w1 h0 (by omega) (hw.new h1) hok (fun en hen => ?_) (xAt_bd' hok) (fun k hk => pile_of hok hb hk)).mono ?_
              · rcases hen with ⟨h2, _⟩ | ⟨_, _, h2⟩ | ⟨_, ⟨i, j, h2, h3, h4⟩, _⟩
                · exact absurd hck h2
                · exact h2
                · have := hf i (by omega) j h2 h3
                  rw [h4] at this; cases this
              · rintro e w' ⟨a, c, vs, he, _, ho, hv, hnew⟩
                exact ⟨a, (endXsL l).length - 1, c, he, ⟨a, c, rfl, fun g => swept_strps ho hv g⟩, hnew⟩
            · refine (ref_sweep_go b off n cap l w1 h0 (by omega) (hw.new h1) hok (Lib.hid (fun w2 h2 => (HX w2 (h1.trans h2)).mono fun e w' h => ⟨?_, h.2⟩)) ((endXsL l).length - 1) (by omega) (ev_eq hok)).mono ?_
              · rcases h.1 with ⟨h3, _⟩ | ⟨_, _, h3⟩ | ⟨_, i, j, h3, h4, _, _, h5, _⟩
                · exact absurd hck h3
                · exact h3
                · have := hf i (by omega) j h3 h4
                  rw [h5] at this; cases this
              · rintro e w' ⟨a, c, vs, B, he, ho, hv, hnew⟩
                exact ⟨a, (endXsL l).length - 1, c, he, ⟨a, c, rfl, fun g => ref_strps hok hb ho (by rw [hl]; exact hv) g⟩, hnew⟩
            · obtain ⟨a1, c1, rfl, s1⟩ := hv
              obtain ⟨a2, c2, rfl, s2⟩ := hu
              exact sameStrips_r a1 a2 ((endXsL l).length - 1) c1 c2 (sweptC l) w1 (by omega) s1 s2 (fun i hi => by
                have := (swept_are l).small (show i < (sweptC l).length by rw [sweptC_len]; exact hi); omega)
          · refine sweeps_go (some ⟨b, off, none⟩) cv n cap N cc 10 r (fun v _ => v = .slice none 0 0) (fun v w1 w2 h1 _ => h1) w hn (Lib.hid HT) (Lib.hid (fun w1 h1 => ?_)) (Lib.hid (fun w1 h1 => ?_)) (Lib.hid hnilM) (Lib.hid HCK) (Lib.hid HRC)
            · refine (sweep_err (some ⟨b, off, none⟩) n cap 10 w1 (by decide) (Lib.hid (fun w2 h2 => (HAP w2 (h1.trans h2)).mono fun e w' h => ⟨?_, h.2⟩))).mono fun e w' h => ⟨none, 0, 0, h.1, rfl, h.2⟩
              rcases h.1 with ⟨h2, _⟩ | ⟨_, h2, _⟩ | ⟨_, _, h2⟩
              · exact absurd hck h2
              · exact absurd h2 hf
              · exact h2
            · refine (ref_sweep_cross (some ⟨b, off, none⟩) n cap w1 (Lib.hid (fun w2 h2 => (HX w2 (h1.trans h2)).mono fun e w' h => ⟨?_, h.2⟩))).mono fun e w' h => ⟨none, 0, 0, h.1, rfl, h.2⟩
              rcases h.1 with ⟨h3, _⟩ | ⟨_, h3, _⟩ | ⟨_, i, j, _, _, _, _, _, h3⟩
              · exact absurd hck h3
              · exact absurd h3 hf
              · exact ⟨i, j, h3⟩
        · have hrf : r = false := Bool.eq_false_iff.2 (fun h => hck (hr.1 h).segs)
          subst hrf
          refine sweeps_go (some ⟨b, off, none⟩) cv n cap N cc (ckSegs l) false (fun v _ => v = .slice none 0 0) (fun v w1 w2 h1 _ => h1) w hn (Lib.hid HT) (Lib.hid (fun w1 h1 => ?_)) (Lib.hid (fun w1 h1 => ?_)) (Lib.hid hnilM) (Lib.hid HCK) (Lib.hid (fun w1 h1 => refCheck_no (some ⟨b, off, none⟩) cv n cap N cc (ckSegs l) w1 hck (Lib.hid (fun w2 h2 => HRK w2 (h1.trans h2)))))
          · refine (sweep_err (some ⟨b, off, none⟩) n cap (ckSegs l) w1 hck (Lib.hid (fun w2 h2 => (HAP w2 (h1.trans h2)).mono fun e w' h => ⟨?_, h.2⟩))).mono fun e w' h => ⟨none, 0, 0, h.1, rfl, h.2⟩
            rcases h.1 with ⟨_, h2⟩ | ⟨h2, _⟩ | ⟨h2, _⟩
            · exact h2
            · exact absurd h2 hck
            · exact absurd h2 hck
          · refine (ref_sweep_err (some ⟨b, off, none⟩) n cap (ckSegs l) w1 hck (Lib.hid (fun w2 h2 => (HX w2 (h1.trans h2)).mono fun e w' h => ⟨?_, h.2⟩))).mono fun e w' h => ⟨none, 0, 0, h.1, rfl, h.2⟩
            rcases h.1 with ⟨_, h2⟩ | ⟨h2, _⟩ | ⟨h2, _⟩
            · exact h2
            · exact absurd h2 hck
            · exact absurd h2 hck
      · obtain rfl : n = 0 := by omega
        obtain rfl : l = [] := List.eq_nil_of_length_eq_zero hl
        have hE0 : (endXsL []).length = 0 := by
          cases hx : endXsL [] with
          | nil => rfl
          | cons a t =>
            obtain ⟨i, hi, _⟩ := endXs_mem.1 (show a ∈ endXsL [] by rw [hx]; simp)
            simp at hi
        have hck : ckSegs [] = 0 := by decide
        refine sweeps_go av cv 0 cap N cc 0 (decide (N = 0)) (fun v _ => v = .slice none 0 0) (fun v w1 w2 h1 _ => h1) w hn (Lib.hid HT) (Lib.hid (fun w1 _ => (sweep_nil av cap w1).mono fun e w' h => ⟨none, 0, 0, h.1, rfl, h.2⟩)) (Lib.hid (fun w1 _ => (ref_sweep_nil av cap w1).mono fun e w' h => ⟨none, 0, 0, h.1, rfl, h.2⟩)) (Lib.hid hnilM) (Lib.hid (fun w1 _ => checkSweep_nil av cv cap N cc w1)) (Lib.hid (fun w1 h1 => ?_))
        refine refCheck_go av cv 0 cap N cc [] C w1 (by omega) rfl (fun h => by omega) hCn hN (hCat w1 h1) hlen hck (Lib.hid (fun w2 _ => refCheckSegs_nil av cap w2)) (decide (N = 0)) ?_
        rw [decide_eq_true_eq]
        constructor
        · intro hN0
          exact ⟨hck, by rw [hE0]; omega, fun j hj => by omega, fun i hi => by simp at hi⟩
        · intro h
          have := h.len
          rw [hE0] at this; omega
  · exact sweeps_long av cv n cap N cc w (by omega)

end Go.Proofs.YtpdfbboagaflhaaGreat

set_option linter.unusedSimpArgs false
set_option linter.unusedVariables false
set_option linter.constructorNameAsVariable false
namespace Go.Proofs.YtpdfbboagaflhaaGreat
open Go.ChangeShapes Go.WideShapes Go.ChangeAt Go.RowKit Go.Joins
set_option maxRecDepth 100000

theorem jSx_wf : Rows.planeSweepsRow.wf (OpenSpec.ofChange Rows.planeSweepsSpec) = true := by kernel_rfl
theorem jSx_par : Tryz.f17.params.all (Tryz.prog.readableRec ·) = true := by kernel_rfl
theorem jSx_tie : namedTie Tryz.prog Rows.planeSweepsRow.named Rows.planeSweepsSpec.vars = true := by kernel_rfl
theorem jSx_st : (Rows.planeSweepsRow.stops == []) = true := by kernel_rfl
theorem jSx_kn : (Rows.planeSweepsRow.knobs == []) = true := by kernel_rfl
theorem jSx_inp : (Rows.planeSweepsRow.inPlace == Tryz.prog.inPlace 17) = true := by kernel_rfl
theorem jSx_unf : (Rows.planeSweepsRow.unfollowed == Tryz.prog.unfollowed 17) = true := by kernel_rfl
theorem jSx_rec : (Rows.planeSweepsRow.recurses == Tryz.prog.recurses 17) = true := by kernel_rfl
theorem jSx_nam : (Rows.planeSweepsRow.named == Tryz.prog.varsNamed 17) = true := by kernel_rfl
theorem jSx_maps : (Rows.planeSweepsRow.maps == (Tryz.f17.params.toList ++ Rows.planeSweepsSpec.plain.varTypes Tryz.prog).any (Tryz.prog.mapsRec ·)) = true := by kernel_rfl
theorem jSx_ifs : (Rows.planeSweepsRow.ifaces == (Tryz.f17.params.toList ++ Rows.planeSweepsSpec.plain.varTypes Tryz.prog).any (Tryz.prog.ifacesRec ·)) = true := by kernel_rfl
theorem jSx_mout : (Rows.planeSweepsRow.mapsOut == Tryz.prog.mapsAmong Tryz.f17.resultTypes.toList) = true := by kernel_rfl
theorem jSx_loops : (Rows.planeSweepsRow.loops == (Tryz.f17.params.toList ++ Rows.planeSweepsSpec.plain.varTypes Tryz.prog).any (Tryz.prog.loopsFrom ·)) = true := by kernel_rfl
theorem jSx_wide : (Rows.planeSweepsRow.wideKeys == (Tryz.f17.params.toList ++ Rows.planeSweepsSpec.plain.varTypes Tryz.prog ++ Tryz.f17.resultTypes.toList).any (Tryz.prog.wideKeysFrom ·)) = true := by kernel_rfl
theorem jSx_vars : Rows.planeSweepsSpec.vars.all (Tryz.prog.varReadable ·) = true := by kernel_rfl
theorem jSx_res : Tryz.f17.resultTypes.all (fun t => Tryz.prog.readableRec t && decide (t < Tryz.prog.types.size)) = true := by kernel_rfl
theorem jSx_iout : (Rows.planeSweepsRow.ifacesOut == Tryz.f17.resultTypes.toList.any (Tryz.prog.ifacesRec ·)) = true := by kernel_rfl
theorem jSx_lout : (Rows.planeSweepsRow.loopsOut == Tryz.f17.resultTypes.toList.any (Tryz.prog.loopsFrom ·)) = true := by kernel_rfl
theorem jSx_plain : (Rows.planeSweepsRow.plainKeys == Tryz.prog.plainKeys) = true := by kernel_rfl
theorem jSx_short : Rows.planeSweepsRow.shortTexts.isNone = true := by kernel_rfl
theorem jSx_lift0 : (Rows.planeSweepsRow.lifted == false) = true := by kernel_rfl
theorem jSx_lift : (Rows.planeSweepsRow.lifted == Tryz.prog.liftsFinal) = true := (congrArg (fun b => (Rows.planeSweepsRow.lifted == b)) lift_is).trans jSx_lift0
theorem jSx_make0 : (some Make.cut == some Rows.planeSweepsRow.make) = true := by kernel_rfl
theorem jSx_make : (Tryz.prog.make == some Rows.planeSweepsRow.make) = true := (congrArg (fun b => (b == some Rows.planeSweepsRow.make)) make_is).trans jSx_make0
theorem jSx_kinds : (Rows.planeSweepsRow.kinds == (if Rows.planeSweepsRow.domain.isEmpty then [] else Tryz.f17.params.toList.map fun t => match Tryz.prog.underlying t with | some (.int k) => some k | _ => none)) = true := by kernel_rfl
theorem jSx_pin : (Rows.planeSweepsRow.pinned == Rows.planeSweepsRow.pinnedBy) = true := by kernel_rfl
theorem jSx_veil : (Rows.planeSweepsRow.veiled == (Tryz.f17.params.toList ++ Rows.planeSweepsSpec.plain.varTypes Tryz.prog ++ Tryz.f17.resultTypes.toList).any (Tryz.prog.veiledRec ·)) = true := by kernel_rfl
theorem jSx_vfit : Rows.planeSweepsRow.veiledFits Tryz.prog Tryz.f17.params.toList (Tryz.f17.params.toList ++ Rows.planeSweepsSpec.plain.varTypes Tryz.prog ++ Tryz.f17.resultTypes.toList) = true := by kernel_rfl
theorem jSx_closed : joinedFacts Tryz.prog 17 Tryz.f17 Rows.planeSweepsSpec Rows.planeSweepsRow = true := (b_and (b_and (b_and (b_and (b_and (b_and (b_and (b_and (b_and (b_and (b_and (b_and (b_and (b_and (b_and (b_and (b_and (b_and (b_and (b_and (b_and (b_and (b_and (b_and (b_and (b_and (b_and (b_and (b_and (b_and (b_and jSx_wf jp_laid) jp_rowed) jSx_par) jSx_tie) jSx_st) jp_stops) jSx_kn) jp_knobs) jSx_inp) jSx_unf) jSx_rec) jSx_nam) jSx_maps) jSx_ifs) jSx_mout) jSx_loops) jSx_wide) jSx_vars) jSx_res) jSx_iout) jSx_lout) jSx_plain) jSx_short) jp_heard) jp_enter) jSx_lift) jSx_make) jSx_kinds) jSx_pin) jSx_veil) jSx_vfit)
theorem jSx_name : Tryz.prog.funcNamed Rows.planeSweepsRow.func = some 17 := by kernel_rfl
theorem jSx_inst : Tryz.f17.isInstance Tryz.prog Rows.planeSweepsRow.origin Rows.planeSweepsRow.targs := of_decide_eq_true (by kernel_rfl)
theorem jSx_wrap : Tryz.f17.isWrapper Tryz.prog Rows.planeSweepsRow.wrapper Rows.planeSweepsRow.mainSum := by unfold Func.isWrapper; rw [if_neg (by decide +kernel)]; exact ⟨rfl, rfl⟩

set_option maxHeartbeats 2000000 in
theorem jSx_lifted (os : Os) (started : os.Started) (H : Type) (enc : TypeId × Value → H) :
    ReturnsInHanded {} Tryz.checked os 17 .any (Rows.planeSweepsSpec.pre6 enc Tryz.prog Tryz.f17 Rows.planeSweepsRow.domain false) (Rows.planeSweepsSpec.post enc Tryz.prog Tryz.f17 false true false false) := by
  refine returnsInHanded_of_change_sized (C := Tryz.checked) own_knob started (by kernel_rfl) Tryz.func17
    (ChangeSpec.witness6 (enc := enc) (C := Tryz.checked) false ⟨#[], #[.slice none 0 0, .slice none 0 0], []⟩ 8 (by kernel_rfl) (by kernel_rfl) (by kernel_rfl) (by kernel_rfl)) ?_
  intro W base args ds gs before hval0 hW hcnd hsz _
  have hval : ∀ (j : Nat) t v, Tryz.f17.params[j]? = some t → args[j]? = some v → Value.okWide Tryz.prog W .any base t v := hval0
  have hW' := hW
  obtain ⟨p, q, hA0, hV, rfl, hfz, hnd⟩ := hW
  have hA : DataW.TrodAll enc Tryz.prog W 0 (fun _ => true) true Tryz.f17.params.toList args.toList ds p := hA0
  rw [Tryz.params17] at hA hval
  obtain ⟨v0, vs0, d0, ds0, p0, q0, hargs, rfl, rfl, h0, r0⟩ := trodAll_cons hA
  obtain ⟨v1, vs1, d1, ds1, p1, q1, rfl, rfl, rfl, h1, r1⟩ := trodAll_cons r0
  obtain ⟨rfl, rfl, rfl⟩ := trodAll_nil r1
  obtain rfl : args = #[v0, v1] := by cases args; simp_all
  obtain ⟨rfl, rfl⟩ := trodVars_none hV
  have hlt : ∀ x ∈ p0 ++ p1, x.block < W.heap.size := fun x hx => hW'.lt x (by simpa using hx)
  have g0 := h0
  obtain ⟨av0, n0, cap0, l0, rfl, hl0, hp0⟩ := open_segs (hval 0 58 v0 rfl rfl) h0
  have g1 := h1
  have hz1 : ∀ k ∈ d1.weights Tryz.prog 65, k ≤ reachBytes := fun k hk => of_decide_eq_true (List.all_eq_true.1 hsz k (DataW.weights_mem_each (j := 1) (t := 65) (d := d1) (by rw [Tryz.params17]; rfl) rfl k hk))
  obtain ⟨cv1, N1, cc1, C1, rfl, hCn1, hC1, hN1, hlen1⟩ := open_strips (hval 1 65 v1 rfl rfl) h1 hz1
  clear hA0 hval0 hval
  refine (planeSweeps_all W av0 n0 cap0 l0 hl0 hp0 cv1 N1 cc1 C1 hCn1 hC1 hN1 hlen1).mono fun e W' ⟨he, hg⟩ => ?_
  subst he
  have t1 := Below.trod laidOut (by kernel_rfl) (of_decide_eq_true (by kernel_rfl)) g1 hg.below (fun x hx => hlt x (by simp [hx]))
  have t0 := Below.trod laidOut (by kernel_rfl) (of_decide_eq_true (by kernel_rfl)) g0 hg.below (fun x hx => hlt x (by simp [hx]))
  exact ⟨_, rfl, _, _, _, _, _, _, hW', trodAll_cons_mk (shut_bool Tryz.underlying4 _) trodAll_mk0, trodAll_cons_mk t0 (trodAll_cons_mk t1 trodAll_mk0), rfl, hg.below.frame _, fun h => by cases h⟩

/-- PlaneSweeps, as it is given -/
theorem planeSweeps_proved : Rows.PlaneSweepsSaid :=
  OpenClaim.holds_of_wide 17 Tryz.f17 rfl rfl rfl rfl rfl rfl rfl ⟨rfl, rfl, rfl, rfl, rfl⟩ rfl rfl rfl rfl rfl jSx_name Tryz.func17 jSx_closed jSx_inst jSx_wrap
    (fun os started H enc _ => jSx_lifted os started H enc)

end Go.Proofs.YtpdfbboagaflhaaGreat
