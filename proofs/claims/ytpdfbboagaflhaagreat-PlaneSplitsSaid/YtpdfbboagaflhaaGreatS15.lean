/- PlaneSplits returns true for every input, and its arguments read afterwards as before: the given statement, without a condition. -/
import Derived.Test.YtpdfbboagaflhaaGreatM51
import Derived.Test.YtpdfbboagaflhaaGreatS02
import Derived.Test.YtpdfbboagaflhaaGreatS05
import Derived.Deep.RegionHeld3
import Derived.Deep.RegionWith
import Derived.BigRegion
import Derived.LoopTactic
import Derived.WalkSpells
import Derived.Deep.AppendLies
import Derived.Deep.RegionLaw
import Derived.Deep.DeepCutAuto
import Derived.Deep.LoopGhost
import Derived.Test.YtpdfbboagaflhaaGreatRows
import Derived.ProofKit
import Derived.OpenShut
import Derived.Lib.SmallJoins
import Derived.Carry

set_option linter.unusedSimpArgs false
set_option linter.unusedVariables false
set_option maxRecDepth 100000
namespace Go.Proofs.YtpdfbboagaflhaaGreat
open Go.RowKit

theorem fieldsS_23 : ((Tryz.prog.fieldsOf 23).toList.map fun f => (f.type, f.offset, decide (f.name = "_"))) = [(3, 0, false), (3, 1, false)] := by kernel_rfl
theorem eqlS_bool (a b c d : Int) : ∃ e : Bool, e = (a == c && b == d) ∧ ∀ w : World, (binOp .eql 23 (.agg #[.int .i64 a, .int .i64 b]) (.agg #[.int .i64 c, .int .i64 d])).run Tryz.prog w = .ok (.bool e) w := by
  refine ⟨a == c && b == d, rfl, fun w => ?_⟩
  have hs : Tryz.prog.underlying 23 = some (.struct (Tryz.prog.fieldsOf 23)) := by kernel_rfl
  have hp : Tryz.prog.stoodInHeld 23 = false := by kernel_rfl
  have hf := fieldsS_23
  rw [run_eql_struct, run_equalIn_agg _ _ _ _ _ hs hp]
  generalize (Tryz.prog.fieldsOf 23).toList = F at *
  rcases F with _ | ⟨f, _ | ⟨g, _ | ⟨x, F⟩⟩⟩
  · simp at hf
  · simp at hf
  · simp only [List.map_cons, List.map_nil, List.cons.injEq, Prod.mk.injEq, and_true, decide_eq_false_iff_not] at hf
    obtain ⟨⟨h1, h2, h3⟩, h4, h5, h6⟩ := hf
    simp [go_sem, Op.eqFields, h1, h2, h3, h4, h5, h6, Tryz.underlying3]
    by_cases k1 : a = c <;> by_cases k2 : b = d <;> simp [k1, k2]
  · simp at hf

theorem lessS_B (x y : S4) : lessS x y = (lessB x.1 x.2.1 y.1 y.2.1 || (x.1 == y.1 && x.2.1 == y.2.1) && lessB x.2.2.1 x.2.2.2 y.2.2.1 y.2.2.2) := by
  unfold lessS lessB
  by_cases h1 : (x.1 < y.1 ∨ x.1 = y.1 ∧ x.2.1 < y.2.1) <;> by_cases h2 : (x.1 = y.1 ∧ x.2.1 = y.2.1) <;> by_cases h3 : (x.2.2.1 < y.2.2.1 ∨ x.2.2.1 = y.2.2.1 ∧ x.2.2.2 < y.2.2.2) <;> simp [h1, h2, h3] <;> omega

set_option maxHeartbeats 4000000 in
theorem lessSeg_c (x y : S4) (w : World) : Calls Tryz.prog 178 #[sv x.1 x.2.1 x.2.2.1 x.2.2.2, sv y.1 y.2.1 y.2.2.1 y.2.2.2] w fun en w' => en = .returned (.bool (lessS x y)) ∧ New w w' := by
  rw [lessS_B]
  rcases x with ⟨x1, x2, x3, x4⟩
  rcases y with ⟨y1, y2, y3, y4⟩
  show Calls Tryz.prog 178 #[sv x1 x2 x3 x4, sv y1 y2 y3 y4] w fun en w' => en = .returned (.bool (lessB x1 x2 y1 y2 || (x1 == y1 && x2 == y2) && lessB x3 x4 y3 y4)) ∧ New w w'
  have HA := Lib.hid (ref_less x1 x2 y1 y2)
  have HB := Lib.hid (ref_less x3 x4 y3 y4)
  obtain ⟨e, he, hr⟩ := eqlS_bool x1 x2 y1 y2
  rw [← he]
  clear he
  generalize lessB x1 x2 y1 y2 = A at *
  generalize lessB x3 x4 y3 y4 = B at *
  cases A <;> cases e
  all_goals
    go_enter Tryz.func178, Tryz.ntmps178
    go_wp2_with (first | (go_at_call 116; with_reducible refine (HA.out _).mono ?_; go_must (rintro en w2 ⟨rfl, hn⟩; have HN1 := Lib.hid hn; have dq0 : w2.cell? ⟨w.heap.size, 0, none⟩ = some (.int .i64 x1) := (hn.below.cell (p := ⟨w.heap.size, 0, none⟩) (by first | (simp; done) | (simp; omega))).trans (by simp [go_sem]); have dq1 : w2.cell? ⟨w.heap.size, 1, none⟩ = some (.int .i64 x2) := (hn.below.cell (p := ⟨w.heap.size, 1, none⟩) (by first | (simp; done) | (simp; omega))).trans (by simp [go_sem]); have dq2 : w2.cell? ⟨w.heap.size, 2, none⟩ = some (.int .i64 x3) := (hn.below.cell (p := ⟨w.heap.size, 2, none⟩) (by first | (simp; done) | (simp; omega))).trans (by simp [go_sem]); have dq3 : w2.cell? ⟨w.heap.size, 3, none⟩ = some (.int .i64 x4) := (hn.below.cell (p := ⟨w.heap.size, 3, none⟩) (by first | (simp; done) | (simp; omega))).trans (by simp [go_sem]); have dp0 : w2.cell? ⟨w.heap.size + 1, 0, none⟩ = some (.int .i64 y1) := (hn.below.cell (p := ⟨w.heap.size + 1, 0, none⟩) (by first | (simp; done) | (simp; omega))).trans (by simp [go_sem]); have dp1 : w2.cell? ⟨w.heap.size + 1, 1, none⟩ = some (.int .i64 y2) := (hn.below.cell (p := ⟨w.heap.size + 1, 1, none⟩) (by first | (simp; done) | (simp; omega))).trans (by simp [go_sem]); have dp2 : w2.cell? ⟨w.heap.size + 1, 2, none⟩ = some (.int .i64 y3) := (hn.below.cell (p := ⟨w.heap.size + 1, 2, none⟩) (by first | (simp; done) | (simp; omega))).trans (by simp [go_sem]); have dp3 : w2.cell? ⟨w.heap.size + 1, 3, none⟩ = some (.int .i64 y4) := (hn.below.cell (p := ⟨w.heap.size + 1, 3, none⟩) (by first | (simp; done) | (simp; omega))).trans (by simp [go_sem]); have hq : w.heap.size < w2.heap.size := (by have := hn.size; simp at this; omega); have hp : w.heap.size + 1 < w2.heap.size := (by have := hn.size; simp at this; omega); clear hn)) | (go_at_call 116; with_reducible refine (HB.out _).mono ?_; rintro en w3 ⟨rfl, hn⟩; have HN2 := Lib.hid hn; have eq0 : w3.cell? ⟨w.heap.size, 0, none⟩ = some (.int .i64 x1) := (hn.below.cell (p := ⟨w.heap.size, 0, none⟩) hq).trans dq0; have eq1 : w3.cell? ⟨w.heap.size, 1, none⟩ = some (.int .i64 x2) := (hn.below.cell (p := ⟨w.heap.size, 1, none⟩) hq).trans dq1; have eq2 : w3.cell? ⟨w.heap.size, 2, none⟩ = some (.int .i64 x3) := (hn.below.cell (p := ⟨w.heap.size, 2, none⟩) hq).trans dq2; have eq3 : w3.cell? ⟨w.heap.size, 3, none⟩ = some (.int .i64 x4) := (hn.below.cell (p := ⟨w.heap.size, 3, none⟩) hq).trans dq3; have ep0 : w3.cell? ⟨w.heap.size + 1, 0, none⟩ = some (.int .i64 y1) := (hn.below.cell (p := ⟨w.heap.size + 1, 0, none⟩) hp).trans dp0; have ep1 : w3.cell? ⟨w.heap.size + 1, 1, none⟩ = some (.int .i64 y2) := (hn.below.cell (p := ⟨w.heap.size + 1, 1, none⟩) hp).trans dp1; have ep2 : w3.cell? ⟨w.heap.size + 1, 2, none⟩ = some (.int .i64 y3) := (hn.below.cell (p := ⟨w.heap.size + 1, 2, none⟩) hp).trans dp2; have ep3 : w3.cell? ⟨w.heap.size + 1, 3, none⟩ = some (.int .i64 y4) := (hn.below.cell (p := ⟨w.heap.size + 1, 3, none⟩) hp).trans dp3; clear hn))
    go_ret
    exact ⟨rfl, (by (refine New.trans ?_ HN2.out; refine New.trans ?_ HN1.out; repeat (first | exact HN2.out | exact HN1.out | exact New.refl _ | apply New.alloc | apply New.aft | apply New.drew | refine New.setCell ?_ ?_ _)); all_goals (first | done | (simp [size_aft]; done) | (simp [size_aft]; omega)))⟩

theorem neqS_bool (a b c d : Int) : ∃ e : Bool, e = (a == c && b == d) ∧ ∀ w : World, (binOp .neq 23 (.agg #[.int .i64 a, .int .i64 b]) (.agg #[.int .i64 c, .int .i64 d])).run Tryz.prog w = .ok (.bool (!e)) w := by
  refine ⟨a == c && b == d, rfl, fun w => ?_⟩
  have hs : Tryz.prog.underlying 23 = some (.struct (Tryz.prog.fieldsOf 23)) := by kernel_rfl
  have hp : Tryz.prog.stoodInHeld 23 = false := by kernel_rfl
  have hf := fieldsS_23
  rw [run_neq_struct, run_equalIn_agg _ _ _ _ _ hs hp]
  generalize (Tryz.prog.fieldsOf 23).toList = F at *
  rcases F with _ | ⟨f, _ | ⟨g, _ | ⟨x, F⟩⟩⟩
  · simp at hf
  · simp at hf
  · simp only [List.map_cons, List.map_nil, List.cons.injEq, Prod.mk.injEq, and_true, decide_eq_false_iff_not] at hf
    obtain ⟨⟨h1, h2, h3⟩, h4, h5, h6⟩ := hf
    simp [go_sem, Op.eqFields, h1, h2, h3, h4, h5, h6, Tryz.underlying3]
    by_cases k1 : a = c <;> by_cases k2 : b = d <;> simp [k1, k2]
  · simp at hf

set_option maxHeartbeats 4000000 in
theorem inside_c (p q a b c d : Int) (w : World) (hp : -40000 ≤ p ∧ p ≤ 40000) (hq : -40000 ≤ q ∧ q ≤ 40000) (ha : -40000 ≤ a ∧ a ≤ 40000) (hb : -40000 ≤ b ∧ b ≤ 40000) (hc : -40000 ≤ c ∧ c ≤ 40000) (hd : -40000 ≤ d ∧ d ≤ 40000) :
    Calls Tryz.prog 141 #[pv p q, sv a b c d] w fun en w' => en = .returned (.bool (insR (p, q) (a, b) (c, d))) ∧ New w w' := by
  have HO := Lib.hid (fun w1 => ref_on p q a b c d w1 hp hq ha hb hc hd)
  obtain ⟨e, he, hr⟩ := neqS_bool p q a b
  obtain ⟨f, hf, hs⟩ := neqS_bool p q c d
  rw [show insR (p, q) (a, b) (c, d) = (onR p q a b c d && !e && !f) by rw [he, hf]; rfl]
  clear he hf
  generalize onR p q a b c d = O at *
  cases O
  · go_enter Tryz.func141, Tryz.ntmps141
    go_wp2_with (go_at_call 91; refine (HO.out _).mono ?_; go_must (rintro en w2 ⟨rfl, hn⟩; have HN1 := Lib.hid hn; clear hn))
    go_ret
    exact ⟨rfl, (by (refine New.trans ?_ HN1.out; repeat (first | exact HN1.out | exact New.refl _ | apply New.alloc | apply New.aft | apply New.drew | refine New.setCell ?_ ?_ _)); all_goals (first | done | (simp [size_aft]; done) | (simp [size_aft]; omega)))⟩
  · cases e <;> cases f
    all_goals
      simp only [Bool.not_true, Bool.not_false] at hr hs
      go_enter Tryz.func141, Tryz.ntmps141
      go_wp2_with (go_at_call 91; refine (HO.out _).mono ?_; go_must (rintro en w2 ⟨rfl, hn⟩; have HN1 := Lib.hid hn; have dq0 : w2.cell? ⟨w.heap.size, 0, none⟩ = some (.int .i64 p) := (hn.below.cell (p := ⟨w.heap.size, 0, none⟩) (by first | (simp; done) | (simp; omega))).trans (by simp [go_sem]); have dq1 : w2.cell? ⟨w.heap.size, 1, none⟩ = some (.int .i64 q) := (hn.below.cell (p := ⟨w.heap.size, 1, none⟩) (by first | (simp; done) | (simp; omega))).trans (by simp [go_sem]); have dp0 : w2.cell? ⟨w.heap.size + 1, 0, none⟩ = some (.int .i64 a) := (hn.below.cell (p := ⟨w.heap.size + 1, 0, none⟩) (by first | (simp; done) | (simp; omega))).trans (by simp [go_sem]); have dp1 : w2.cell? ⟨w.heap.size + 1, 1, none⟩ = some (.int .i64 b) := (hn.below.cell (p := ⟨w.heap.size + 1, 1, none⟩) (by first | (simp; done) | (simp; omega))).trans (by simp [go_sem]); have dp2 : w2.cell? ⟨w.heap.size + 1, 2, none⟩ = some (.int .i64 c) := (hn.below.cell (p := ⟨w.heap.size + 1, 2, none⟩) (by first | (simp; done) | (simp; omega))).trans (by simp [go_sem]); have dp3 : w2.cell? ⟨w.heap.size + 1, 3, none⟩ = some (.int .i64 d) := (hn.below.cell (p := ⟨w.heap.size + 1, 3, none⟩) (by first | (simp; done) | (simp; omega))).trans (by simp [go_sem]); clear hn))
      go_ret
      exact ⟨rfl, (by (refine New.trans ?_ HN1.out; repeat (first | exact HN1.out | exact New.refl _ | apply New.alloc | apply New.aft | apply New.drew | refine New.setCell ?_ ?_ _)); all_goals (first | done | (simp [size_aft]; done) | (simp [size_aft]; omega)))⟩

set_option maxHeartbeats 4000000 in
theorem sameSegs_c (v u : Value) (R : List S4) (w : World) (hl : R.length ≤ 1000000) (hv : SegsR w v R) (hu : SegsR w u R) : Calls Tryz.prog 68 #[v, u] w fun en w' => en = .returned (.bool true) ∧ New w w' := by
  obtain ⟨av, cv, rfl, _, hv⟩ := hv
  obtain ⟨au, cu, rfl, _, hu⟩ := hu
  by_cases h0 : 0 < R.length
  · obtain ⟨g, rfl, _, hg1, hg2⟩ := hv h0
    obtain ⟨g', rfl, _, hg3, hg4⟩ := hu h0
    have G1 := Lib.hid hg2
    have G2 := Lib.hid hg4
    generalize R.length = m at *
    have t0 : ((m : Int) != (m : Int)) = false := by simp
    clear hv hu hg2 hg4
    go_enter Tryz.func68, Tryz.ntmps68
    go_wp2_with fail
    go_loopw [5] (fun i wr => ∃ k : Nat, k ≤ m ∧ i = .int .i64 k ∧ New w wr) (fun i _ => m - (intOf i).toNat)
    case atStart => exact ⟨0, Nat.zero_le _, rfl, New.refl _⟩
    case round =>
      obtain ⟨k, hk, rfl, hn⟩ := hrel
      have HN := Lib.hid hn
      by_cases hlt : k < m
      · obtain ⟨c1, c2, c3, c4⟩ := G1.out k hlt
        obtain ⟨d1, d2, d3, d4⟩ := G2.out k hlt
        simp only [Nat.zero_add] at c1 c2 c3 c4 d1 d2 d3 d4
        have L1 := fun o => hn.below.cell (p := ⟨g, o, none⟩) hg1
        have L2 := fun o => hn.below.cell (p := ⟨g', o, none⟩) hg3
        replace c1 := (L1 _).trans c1
        replace c2 := (L1 _).trans c2
        replace c3 := (L1 _).trans c3
        replace c4 := (L1 _).trans c4
        replace d1 := (L2 _).trans d1
        replace d2 := (L2 _).trans d2
        replace d3 := (L2 _).trans d3
        replace d4 := (L2 _).trans d4
        have hkn : (k : Int) < (m : Int) := by omega
        clear L1 L2 G1 G2 hn
        generalize q1 R k = X1 at *
        generalize q2 R k = X2 at *
        generalize q3 R k = X3 at *
        generalize q4 R k = X4 at *
        have e1 : (X1 == X1) = true := by simp
        have e2 : (X2 == X2) = true := by simp
        have e3 : (X3 == X3) = true := by simp
        have e4 : (X4 == X4) = true := by simp
        go_wp2_with fail
        go_region
        go_wp2_with fail
        go_roundw
        case rel => exact ⟨k + 1, by omega, by go_num, (by (repeat (first | exact HN.out | exact New.refl _ | apply New.alloc | apply New.aft | apply New.drew | refine New.setCell ?_ ?_ _)); all_goals (first | done | (simp [size_aft]; done) | (simp [size_aft]; omega)))⟩
        case measure => simp [intOf]; omega
      · go_wp2_with fail
        go_ret
        exact ⟨rfl, HN.out⟩
  · have h1 : R.length = 0 := by omega
    rw [h1]
    clear hv hu
    go_enter Tryz.func68, Tryz.ntmps68
    go_wp2_with fail
    refine wp_loop_rounds 1 ?_
    repeat any_goals (rw [rounds_succ]; go_wp2)
    go_ret; exact ⟨rfl, New.refl _⟩

theorem fieldsS_30 : ((Tryz.prog.fieldsOf 30).toList.map fun f => (f.type, f.offset, decide (f.name = "_"))) = [(23, 0, false), (23, 2, false)] := by kernel_rfl
theorem eqlS30_bool (a b c d a' b' c' d' : Int) : ∃ e : Bool, e = ((a == a' && b == b') && (c == c' && d == d')) ∧ ∀ w : World, (binOp .eql 30 (sv a b c d) (sv a' b' c' d')).run Tryz.prog w = .ok (.bool e) w := by
  refine ⟨_, rfl, fun w => ?_⟩
  have hs : Tryz.prog.underlying 30 = some (.struct (Tryz.prog.fieldsOf 30)) := by kernel_rfl
  have hp : Tryz.prog.stoodInHeld 30 = false := by kernel_rfl
  have hs3 : Tryz.prog.underlying 23 = some (.struct (Tryz.prog.fieldsOf 23)) := by kernel_rfl
  have hp3 : Tryz.prog.stoodInHeld 23 = false := by kernel_rfl
  have hf := fieldsS_30
  have hf3 := fieldsS_23
  show (binOp .eql 30 (.agg #[.int .i64 a, .int .i64 b, .int .i64 c, .int .i64 d]) (.agg #[.int .i64 a', .int .i64 b', .int .i64 c', .int .i64 d'])).run Tryz.prog w = _
  rw [run_eql_struct, run_equalIn_agg _ _ _ _ _ hs hp]
  generalize hF : (Tryz.prog.fieldsOf 30).toList = F at *
  generalize hG : (Tryz.prog.fieldsOf 23).toList = G at *
  rcases F with _ | ⟨f, _ | ⟨g, _ | ⟨x, F⟩⟩⟩
  · simp at hf
  · simp at hf
  · rcases G with _ | ⟨f', _ | ⟨g', _ | ⟨x', G⟩⟩⟩
    · simp at hf3
    · simp at hf3
    · simp only [List.map_cons, List.map_nil, List.cons.injEq, Prod.mk.injEq, and_true, decide_eq_false_iff_not] at hf hf3
      obtain ⟨⟨h1, h2, h3⟩, h4, h5, h6⟩ := hf
      obtain ⟨⟨k1, k2, k3⟩, k4, k5, k6⟩ := hf3
      simp [go_sem, Op.eqFields, h1, h2, h3, h4, h5, h6, k1, k2, k3, k4, k5, k6, Tryz.underlying3, run_equalIn_agg _ _ _ _ _ hs3 hp3, hG]
      by_cases m1 : a = a' <;> by_cases m2 : b = b' <;> by_cases m3 : c = c' <;> by_cases m4 : d = d' <;> simp [m1, m2, m3, m4]
    · simp at hf3
  · simp at hf

end Go.Proofs.YtpdfbboagaflhaaGreat

set_option linter.unusedSimpArgs false
set_option linter.unusedVariables false
set_option maxRecDepth 100000
namespace Go.Proofs.YtpdfbboagaflhaaGreat
open Go.RowKit

/-- a list of segments, as insert hands it on -/
def SegsV (w : World) (v : Value) (l : List S4) : Prop := (l = [] ∧ v = .slice none 0 0) ∨ ∃ g cap, v = .slice (some ⟨g, 0, none⟩) l.length cap ∧ l.length ≤ cap ∧ 0 < l.length ∧ Segs w g 0 l.length l
theorem SegsV.new {w w' : World} {v : Value} {l : List S4} (h : SegsV w v l) (hn : New w w') : SegsV w' v l := by
  rcases h with h | ⟨g, cap, h1, h2, h3, h4⟩
  · exact .inl h
  · exact .inr ⟨g, cap, h1, h2, h3, h4.new hn⟩
theorem takeWhile_at (f : S4 → Bool) : ∀ (l : List S4) (k : Nat), k ≤ (l.takeWhile f).length → ((k < (l.takeWhile f).length → ∀ h : k < l.length, f l[k] = true) ∧ (k = (l.takeWhile f).length → ∀ h : k < l.length, f l[k] = false))
  | [], k, h => ⟨fun _ hh => absurd hh (by simp), fun _ hh => absurd hh (by simp)⟩
  | a :: l, k, h => by
    by_cases ha : f a = true
    · rw [List.takeWhile_cons_of_pos ha] at h ⊢
      cases k with
      | zero => exact ⟨fun _ _ => ha, fun h0 => by simp at h0⟩
      | succ k =>
        have ih := takeWhile_at f l k (by simpa using h)
        exact ⟨fun h1 h2 => ih.1 (by simpa using h1) (by simpa using h2), fun h1 h2 => ih.2 (by simpa using h1) (by simpa using h2)⟩
    · rw [List.takeWhile_cons_of_neg ha] at h ⊢
      have h0 : k = 0 := by simpa using h
      subst h0
      exact ⟨fun h1 => by simp at h1, fun _ _ => by simpa using ha⟩
theorem segAt_getI {l : List S4} {k : Nat} (h : k < l.length) : segAt l k = l[k] := by
  unfold segAt q1 q2 q3 q4
  simp [List.getD_eq_getElem?_getD, h]

theorem own_noneV {W : World} {base g : Nat} (hg : g = W.heap.size) (hb : base ≤ W.heap.size) : (W.alloc (.cells #[] 30)).ownsRow base 30 4 (.slice (some ⟨g, 0, none⟩) 0 0) 0 [] := by
  subst hg
  exact own_mk (by simp) hb (heap_alloc_new _ _) (Nat.le_refl _) (by unfold maxLen; omega) (by simp) (by simp)
theorem own_capV {w : World} {base e size n g cap : Nat} {xs : List Value} (h : w.ownsRow base e size (.slice (some ⟨g, 0, none⟩) n cap) n xs) : n ≤ cap := by
  rcases h.2 with ⟨h1, _⟩ | ⟨g', cap', cur, h1, h2, h3, h4, _⟩
  · cases h1
  · cases h1; exact h4
/-- the cells of a part of a list of segments -/
theorem segs_part {w : World} {b off n : Nat} {l : List S4} (h : Segs w b off n l) (f m : Nat) (hm : f + m ≤ n) : ∀ j u, (segCells ((l.drop f).take m))[j]? = some u → w.cell? ((⟨b, off + f * 4, none⟩ : Addr).add j) = some u := by
  obtain ⟨h1, h2, h3⟩ := h
  intro j u hu
  have hadd : (⟨b, off + f * 4, none⟩ : Addr).add j = ⟨b, off + f * 4 + j, none⟩ := by unfold Addr.add; split <;> simp_all
  rw [hadd]
  have hj : j < m * 4 := by
    have := (List.getElem?_eq_some_iff.1 hu).1
    rw [segCells_length] at this
    simp at this; omega
  have hlen : j / 4 < ((l.drop f).take m).length := by simp; omega
  have e1 : q1 ((l.drop f).take m) (j / 4) = q1 l (f + j / 4) := by simp [q1, List.getD_eq_getElem?_getD, show j / 4 < m by omega]
  have e2 : q2 ((l.drop f).take m) (j / 4) = q2 l (f + j / 4) := by simp [q2, List.getD_eq_getElem?_getD, show j / 4 < m by omega]
  have e3 : q3 ((l.drop f).take m) (j / 4) = q3 l (f + j / 4) := by simp [q3, List.getD_eq_getElem?_getD, show j / 4 < m by omega]
  have e4 : q4 ((l.drop f).take m) (j / 4) = q4 l (f + j / 4) := by simp [q4, List.getD_eq_getElem?_getD, show j / 4 < m by omega]
  obtain ⟨a1, a2, a3, a4⟩ := segCells_at _ _ hlen
  obtain ⟨b1, b2, b3, b4⟩ := h3 (f + j / 4) (by omega)
  have hm4 : j % 4 = 0 ∨ j % 4 = 1 ∨ j % 4 = 2 ∨ j % 4 = 3 := by omega
  rcases hm4 with hp | hp | hp | hp
  · rw [show j / 4 * 4 = j by omega, hu, e1] at a1
    rw [show off + f * 4 + j = off + (f + j / 4) * 4 by omega, b1, a1]
  · rw [show j / 4 * 4 + 1 = j by omega, hu, e2] at a2
    rw [show off + f * 4 + j = off + (f + j / 4) * 4 + 1 by omega, b2, a2]
  · rw [show j / 4 * 4 + 2 = j by omega, hu, e3] at a3
    rw [show off + f * 4 + j = off + (f + j / 4) * 4 + 2 by omega, b3, a3]
  · rw [show j / 4 * 4 + 3 = j by omega, hu, e4] at a4
    rw [show off + f * 4 + j = off + (f + j / 4) * 4 + 3 by omega, b4, a4]

set_option maxHeartbeats 8000000 in
theorem insert_some (g n c : Nat) (l : List S4) (x : S4) (w : World) (hl : n ≤ 100000) (hc : n ≤ c) (h0 : 0 < n) (hs : Segs w g 0 n l) :
    Calls Tryz.prog 142 #[.slice (some ⟨g, 0, none⟩) n c, sv x.1 x.2.1 x.2.2.1 x.2.2.2] w fun en w' => ∃ v', en = .returned v' ∧ SegsV w' v' (insS l x) ∧ New w w' := by
  obtain ⟨i0, hi, hz0, hz1, hz2⟩ := info_parts info30
  have hln := hs.1
  have hK : atTo l x ≤ n := by rw [← hln]; exact atTo_le l x
  have HLT := Lib.hid (show ∀ k, k < atTo l x → lessS (segAt l k) x = true from fun k hk => by
    rw [segAt_getI (by omega)]; exact (takeWhile_at _ l k (Nat.le_of_lt hk)).1 hk _)
  have HLF := Lib.hid (show atTo l x < n → lessS (segAt l (atTo l x)) x = false from fun hk => by
    rw [segAt_getI (by omega)]; exact (takeWhile_at (fun y => lessS y x) l _ (Nat.le_refl _)).2 rfl _)
  have HIN := Lib.hid (show insS l x = if atTo l x < n ∧ segAt l (atTo l x) = x then l else l.take (atTo l x) ++ [x] ++ l.drop (atTo l x) by unfold insS; rw [hln])
  generalize insS l x = IN at *
  generalize atTo l x = K at *
  have HS := Lib.hid hs
  have HLS := Lib.hid (fun (k : Nat) (w1 : World) => lessSeg_c (segAt l k) x w1)
  rcases x with ⟨x1, x2, x3, x4⟩
  have HLS' := Lib.hid (show ∀ (k : Nat) (w1 : World), Calls Tryz.prog 178 #[sv (q1 l k) (q2 l k) (q3 l k) (q4 l k), sv x1 x2 x3 x4] w1 fun en w' => en = .returned (.bool (lessS (segAt l k) (x1, x2, x3, x4))) ∧ New w1 w' from fun k w1 => HLS.out k w1)
  clear HLS hs
  have hgb := HS.out.2.1
  show Calls Tryz.prog 142 #[.slice (some ⟨g, 0, none⟩) n c, sv x1 x2 x3 x4] w _
  go_enter Tryz.func142, Tryz.ntmps142
  go_wp2_with fail
  go_loopw [5, 6] (fun i b wr => ∃ k : Nat, k ≤ K ∧ i = .int .i64 k ∧ New (w.alloc (.cells #[.int .i64 x1, .int .i64 x2, .int .i64 x3, .int .i64 x4] 30)) wr) (fun i _ _ => n - (intOf i).toNat)
  case atStart => exact ⟨0, Nat.zero_le _, rfl, New.refl _⟩
  case round =>
    obtain ⟨k, hk, rfl, hn⟩ := hrel
    obtain ⟨W1, rfl⟩ : ∃ W1 : World, W1 = wr := ⟨_, rfl⟩
    have HN := Lib.hid hn
    have d0 : W1.cell? ⟨w.heap.size, 0, none⟩ = some (.int .i64 x1) := (hn.below.cell (p := ⟨w.heap.size, 0, none⟩) (by simp)).trans (by simp [go_sem])
    have d1 : W1.cell? ⟨w.heap.size, 1, none⟩ = some (.int .i64 x2) := (hn.below.cell (p := ⟨w.heap.size, 1, none⟩) (by simp)).trans (by simp [go_sem])
    have d2 : W1.cell? ⟨w.heap.size, 2, none⟩ = some (.int .i64 x3) := (hn.below.cell (p := ⟨w.heap.size, 2, none⟩) (by simp)).trans (by simp [go_sem])
    have d3 : W1.cell? ⟨w.heap.size, 3, none⟩ = some (.int .i64 x4) := (hn.below.cell (p := ⟨w.heap.size, 3, none⟩) (by simp)).trans (by simp [go_sem])
    have HSW := Lib.hid (show Segs W1 g 0 n l from HS.out.new (((New.refl w).alloc _).trans hn))
    have hgb1 : g < W1.heap.size := HSW.out.2.1
    have hxb1 : w.heap.size < W1.heap.size := by have := hn.size; simp at this; omega
    clear hn
    by_cases hkn : k < n
    · obtain ⟨c1, c2, c3, c4⟩ := HSW.out.2.2 k hkn
      simp only [Nat.zero_add] at c1 c2 c3 c4
      have hkn' : (k : Int) < (n : Int) := by omega
      by_cases hkK : k < K
      · have HC := Lib.hid (show ∀ w1, Calls Tryz.prog 178 #[sv (q1 l k) (q2 l k) (q3 l k) (q4 l k), sv x1 x2 x3 x4] w1 fun en w' => en = .returned (.bool true) ∧ New w1 w' from fun w1 => by have := HLS'.out k w1; rw [HLT.out k hkK] at this; exact this)
        generalize q1 l k = Y1 at *
        generalize q2 l k = Y2 at *
        generalize q3 l k = Y3 at *
        generalize q4 l k = Y4 at *
        go_wp2_with fail
        first | refine wp_region_at2 (by kernel_rfl) (by kernel_rfl) ?_ | refine wp_region_at (by kernel_rfl) (by kernel_rfl) ?_
        repeat (go_big_quiet_step (first | (go_at_call 178; exact calls_new (HC.out _))))
        refine wpQuiet_nil ?_
        rintro _ ⟨pq, rfl⟩
        go_wp2_with fail
        go_roundw
        case rel => exact ⟨k + 1, by omega, by go_num, (by (repeat (first | exact HN.out | exact New.refl _ | apply New.alloc | apply New.aft | apply New.drew | refine New.setCell ?_ ?_ _)); all_goals (first | done | (simp [size_aft]; done) | (simp [size_aft]; omega)))⟩
        case measure => simp [intOf]; omega
      · obtain rfl : k = K := by omega
        have HC := Lib.hid (show ∀ w1, Calls Tryz.prog 178 #[sv (q1 l k) (q2 l k) (q3 l k) (q4 l k), sv x1 x2 x3 x4] w1 fun en w' => en = .returned (.bool false) ∧ New w1 w' from fun w1 => by have := HLS'.out k w1; rw [HLF.out hkn] at this; exact this)
        have HSA := Lib.hid (show segAt l k = (q1 l k, q2 l k, q3 l k, q4 l k) from rfl)
        generalize q1 l k = Y1 at *
        generalize q2 l k = Y2 at *
        generalize q3 l k = Y3 at *
        generalize q4 l k = Y4 at *
        go_wp2_with fail
        first | refine wp_region_at2 (by kernel_rfl) (by kernel_rfl) ?_ | refine wp_region_at (by kernel_rfl) (by kernel_rfl) ?_
        repeat (go_big_quiet_step (first | (go_at_call 178; exact calls_new (HC.out _))))
        refine wpQuiet_nil ?_
        rintro _ ⟨pq, rfl⟩
        obtain ⟨e, he, hr⟩ := eqlS30_bool Y1 Y2 Y3 Y4 x1 x2 x3 x4
        have HE := Lib.hid he
        clear he
        go_upto_region 6 with fail
        first | refine wp_region_at2 (by kernel_rfl) (by kernel_rfl) ?_ | refine wp_region_at (by kernel_rfl) (by kernel_rfl) ?_
        repeat (go_big_quiet_step (fail))
        refine wpQuiet_nil ?_
        rintro W2 hq2
        have HN2 := Lib.hid (show New W1 W2 from hq2)
        have e0 := HN2.out.below.cell (p := ⟨w.heap.size, 0, none⟩) hxb1
        have e1 := HN2.out.below.cell (p := ⟨w.heap.size, 1, none⟩) hxb1
        have e2 := HN2.out.below.cell (p := ⟨w.heap.size, 2, none⟩) hxb1
        have e3 := HN2.out.below.cell (p := ⟨w.heap.size, 3, none⟩) hxb1
        replace d0 := e0.trans d0
        replace d1 := e1.trans d1
        replace d2 := e2.trans d2
        replace d3 := e3.trans d3
        have HSW2 := Lib.hid (show Segs W2 g 0 n l from HSW.out.new HN2.out)
        have hgb2 : g < W2.heap.size := HSW2.out.2.1
        have hxb2 : w.heap.size < W2.heap.size := Nat.lt_of_lt_of_le hxb1 HN2.out.size
        have HNA := Lib.hid (show New w W2 from ((New.refl w).alloc _).trans (HN.out.trans HN2.out))
        clear hq2 e0 e1 e2 e3
        cases e
        · have HIN' := Lib.hid (show l.take k ++ [(x1, x2, x3, x4)] ++ l.drop k = IN by
            rw [HIN.out, if_neg]
            rintro ⟨_, h2⟩
            rw [HSA.out] at h2
            simp only [Prod.mk.injEq] at h2
            obtain ⟨m1, m2, m3, m4⟩ := h2
            have := HE.out
            simp [m1, m2, m3, m4] at this)
          have HLQ := Lib.hid hln
          clear hln
          by_cases hk0 : k = 0
          · skip
            subst hk0
            have kk4 : ¬ c = 0 := by omega
            have HDK := Lib.hid (show (l.drop 0).length = n - 0 by rw [List.length_drop, HLQ.out])
            have HWA := Lib.hid (show ∀ w1, New W2 w1 → ∀ j u, (segCells (l.take 0))[j]? = some u → w1.cell? ((⟨g, 0, none⟩ : Addr).add j) = some u from fun w1 h1 => by
              have := segs_part (HSW2.out.new h1) 0 0 (by omega)
              simpa using this)
            have HWB := Lib.hid (show ∀ w1, New W2 w1 → ∀ j u, (segCells (l.drop 0))[j]? = some u → w1.cell? ((⟨g, 0 * 4, none⟩ : Addr).add j) = some u from fun w1 h1 => by
              have := segs_part (HSW2.out.new h1) 0 (n - 0) (by omega)
              rw [List.take_of_length_le (by rw [HDK.out]; exact Nat.le_refl _)] at this
              simpa using this)
            have HCn := Lib.hid (show ∀ w1, New W2 w1 → w1.cell? ⟨w.heap.size, 0, none⟩ = some (.int .i64 x1) ∧ w1.cell? ⟨w.heap.size, 1, none⟩ = some (.int .i64 x2) ∧ w1.cell? ⟨w.heap.size, 2, none⟩ = some (.int .i64 x3) ∧ w1.cell? ⟨w.heap.size, 3, none⟩ = some (.int .i64 x4) from fun w1 h1 => by
              have K := fun o => h1.below.cell (p := ⟨w.heap.size, o, none⟩) hxb2
              exact ⟨(K _).trans d0, (K _).trans d1, (K _).trans d2, (K _).trans d3⟩)
            have HWC := Lib.hid (show ∀ w1, New W2 w1 → ∀ j u, (segCells l)[j]? = some u → w1.cell? ((⟨g, 0, none⟩ : Addr).add j) = some u from fun w1 h1 => by have := HWB.out w1 h1; simpa using this)
            go_upto_region 9 with fail
            have hb4 : W2.heap.size + 1 ≤ (W2.alloc (.cells #[] 30)).heap.size := by simp
            have HN4' := Lib.hid (show New W2 (W2.alloc (.cells #[] 30)) from (New.refl W2).alloc _)
            have HO4' := Lib.hid (own_noneV (W := W2) (base := W2.heap.size) rfl (Nat.le_refl _))
            generalize W2.alloc (.cells #[] 30) = w4 at *
            have HN4 := HN4'
            have HO4 := HO4'
            obtain ⟨f0, f1, f2, f3⟩ := HCn.out _ HN4.out
            have hw4 : W2.heap.size ≤ w4.heap.size := by omega
            go_region_held3 (fun w' => w'.cell? ⟨w.heap.size, 0, none⟩ = some (.int .i64 x1) ∧ w'.cell? ⟨w.heap.size, 1, none⟩ = some (.int .i64 x2) ∧ w'.cell? ⟨w.heap.size, 2, none⟩ = some (.int .i64 x3) ∧ w'.cell? ⟨w.heap.size, 3, none⟩ = some (.int .i64 x4)) (first | exact HS6.out | exact HS5.out | exact HCn.out _ (by (repeat (first | exact HN4.out | exact New.refl _ | apply New.alloc | apply New.aft | apply New.drew)))) (first | (refine step_append_lies _ ?_ (.tmp 40) (.tmp 42) 58 ?_ W2.heap.size 30 i0 _ 4 32 Tryz.underlying58 hi hz0 hz1 hz2 rfl (by omega) (.slice (some ⟨W2.heap.size, 0, none⟩) 0 0) 0 [] ?_ ?_ ⟨w4.heap.size, 0, none⟩ 1 1 [.int .i64 x1, .int .i64 x2, .int .i64 x3, .int .i64 x4] ?_ rfl ?_ ?_ (by omega) ?_ ?_ ?_ _ rfl ?_; exact rfl; exact rfl; exact rfl; exact own_new HO4.out (by (repeat (first | exact New.refl _ | exact New.refl _ | apply New.alloc | apply New.aft | apply New.drew))); exact rfl; (refine cells_new _ _ _ _ ?_); (simp [go_sem]); (intro u hu; simp at hu; rcases hu with rfl | rfl | rfl | rfl <;> rfl); (unfold maxLen; omega); omega; (simp [go_sem]; omega); intro g5 cap5 w5 hown5 hgrow5 hor5 hlt5; have HN5 := Lib.hid (show New W2 w5 from new_grown (by (repeat (first | exact HN4.out | exact New.refl _ | apply New.alloc | apply New.aft | apply New.drew))) hgrow5 HO4.out); have HO5 := Lib.hid hown5; have HS5 := Lib.hid (HCn.out _ HN5.out)) | (refine step_append_lies _ ?_ (.tmp 43) (.tmp 46) 58 ?_ W2.heap.size 30 i0 _ 4 32 Tryz.underlying58 hi hz0 hz1 hz2 rfl (by omega) (.slice (some ⟨g5, 0, none⟩) 1 cap5) 1 ([] ++ [.int .i64 x1, .int .i64 x2, .int .i64 x3, .int .i64 x4]) ?_ ?_ ⟨g, 0, none⟩ n c (segCells l) ?_ ?_ ?_ (segCells_one _) (by omega) ?_ ?_ ?_ _ rfl ?_; exact rfl; exact rfl; exact rfl; exact own_new HO5.out (by (repeat (first | exact New.refl _ | exact New.refl _ | apply New.alloc | apply New.aft | apply New.drew))); exact rfl; (rw [segCells_length, HLQ.out]); (exact HWC.out _ (by (repeat (first | exact HN5.out | exact New.refl _ | apply New.alloc | apply New.aft | apply New.drew)))); (unfold maxLen; omega); omega; (exact New.size (by (repeat (first | exact HN5.out | exact New.refl _ | apply New.alloc | apply New.aft | apply New.drew)))); intro g6 cap6 w6 hown6 hgrow6 hor6 hlt6; have HN6 := Lib.hid (show New W2 w6 from new_grown (by (repeat (first | exact HN5.out | exact New.refl _ | apply New.alloc | apply New.aft | apply New.drew))) hgrow6 HO5.out); have HO6 := Lib.hid hown6; have HS6 := Lib.hid (HCn.out _ HN6.out)))
            all_goals (go_wp2_with fail)
            have HIL := Lib.hid (show IN.length = 1 + n by rw [← HIN'.out, ← HLQ.out]; simp; omega)
            have HIC := Lib.hid (show [] ++ [.int .i64 x1, .int .i64 x2, .int .i64 x3, .int .i64 x4] ++ segCells l = segCells IN by rw [← HIN'.out]; simp [segCells])
            have HO7 := Lib.hid (show w6.ownsRow W2.heap.size 30 4 (.slice (some ⟨g6, 0, none⟩) (1 + n) cap6) (1 + n) (segCells IN) from by have := HO6.out; rw [HIC.out] at this; exact this)
            go_ret
            exact ⟨_, rfl, .inr ⟨g6, cap6, by rw [HIL.out]; rfl, by rw [HIL.out]; exact own_capV HO7.out, by rw [HIL.out]; omega, by rw [HIL.out]; exact segs_own (own_new HO7.out (by (repeat (first | exact New.refl _ | exact New.refl _ | apply New.alloc | apply New.aft | apply New.drew)))) HIL.out⟩, HNA.out.trans (by (repeat (first | exact HN6.out | exact New.refl _ | apply New.alloc | apply New.aft | apply New.drew)))⟩
          · have kk1 : (k : Int) ≤ (c : Int) := by omega
            have kk2 : (0 : Int) ≤ (k : Int) := by omega
            have kk3 : (k : Int) ≤ (n : Int) := by omega
            have kk4 : ¬ c = k := by omega
            have HTK := Lib.hid (show (l.take k).length = k by rw [List.length_take, HLQ.out]; omega)
            have HDK := Lib.hid (show (l.drop k).length = n - k by rw [List.length_drop, HLQ.out])
            have HWA := Lib.hid (show ∀ w1, New W2 w1 → ∀ j u, (segCells (l.take k))[j]? = some u → w1.cell? ((⟨g, 0, none⟩ : Addr).add j) = some u from fun w1 h1 => by
              have := segs_part (HSW2.out.new h1) 0 k (by omega)
              simpa using this)
            have HWB := Lib.hid (show ∀ w1, New W2 w1 → ∀ j u, (segCells (l.drop k))[j]? = some u → w1.cell? ((⟨g, k * 4, none⟩ : Addr).add j) = some u from fun w1 h1 => by
              have := segs_part (HSW2.out.new h1) k (n - k) (by omega)
              rw [List.take_of_length_le (by rw [HDK.out]; exact Nat.le_refl _)] at this
              simpa using this)
            have HCn := Lib.hid (show ∀ w1, New W2 w1 → w1.cell? ⟨w.heap.size, 0, none⟩ = some (.int .i64 x1) ∧ w1.cell? ⟨w.heap.size, 1, none⟩ = some (.int .i64 x2) ∧ w1.cell? ⟨w.heap.size, 2, none⟩ = some (.int .i64 x3) ∧ w1.cell? ⟨w.heap.size, 3, none⟩ = some (.int .i64 x4) from fun w1 h1 => by
              have K := fun o => h1.below.cell (p := ⟨w.heap.size, o, none⟩) hxb2
              exact ⟨(K _).trans d0, (K _).trans d1, (K _).trans d2, (K _).trans d3⟩)
            go_wp2_with (at_builtin; go_must (refine wpList_append_lies _ rfl (.tmp 35) (.tmp 38) 58 rfl W2.heap.size 30 i0 _ 4 32 Tryz.underlying58 hi hz0 hz1 hz2 rfl (by omega) (.slice (some ⟨W2.heap.size, 0, none⟩) 0 0) 0 [] rfl ?_ ⟨g, 0, none⟩ k c (segCells (l.take k)) rfl (by rw [segCells_length, HTK.out]) ?_ (segCells_one _) (by omega) ?_ ?_ ?_ _ rfl ?_; (exact own_noneV rfl (Nat.le_refl _)); (exact HWA.out _ (by (repeat (first | exact New.refl _ | apply New.alloc | apply New.aft | apply New.drew)))); (unfold maxLen; omega); omega; (simp); (intro g4 cap4 w4 hown4 hgrow4 hor4 hlt4; have HN4 := Lib.hid (show New W2 w4 from new_grown (by (repeat (first | exact New.refl _ | apply New.alloc | apply New.aft | apply New.drew))) hgrow4 (own_noneV (W := W2) rfl (Nat.le_refl _))); simp only [Nat.zero_add, List.nil_append] at hown4; have HO4 := Lib.hid hown4; have hb4 := hgrow4.size; simp at hb4; clear hown4 hgrow4 hor4)))
            obtain ⟨f0, f1, f2, f3⟩ := HCn.out _ HN4.out
            have hw4 : W2.heap.size ≤ w4.heap.size := by omega
            go_region_held3 (fun w' => w'.cell? ⟨w.heap.size, 0, none⟩ = some (.int .i64 x1) ∧ w'.cell? ⟨w.heap.size, 1, none⟩ = some (.int .i64 x2) ∧ w'.cell? ⟨w.heap.size, 2, none⟩ = some (.int .i64 x3) ∧ w'.cell? ⟨w.heap.size, 3, none⟩ = some (.int .i64 x4)) (first | exact HS6.out | exact HS5.out | exact HCn.out _ (by (repeat (first | exact HN4.out | exact New.refl _ | apply New.alloc | apply New.aft | apply New.drew)))) (first | (refine step_append_lies _ ?_ (.tmp 40) (.tmp 42) 58 ?_ W2.heap.size 30 i0 _ 4 32 Tryz.underlying58 hi hz0 hz1 hz2 rfl (by omega) (.slice (some ⟨g4, 0, none⟩) k cap4) k (segCells (l.take k)) ?_ ?_ ⟨w4.heap.size, 0, none⟩ 1 1 [.int .i64 x1, .int .i64 x2, .int .i64 x3, .int .i64 x4] ?_ rfl ?_ ?_ (by omega) ?_ ?_ ?_ _ rfl ?_; exact rfl; exact rfl; exact rfl; exact own_new HO4.out (by (repeat (first | exact New.refl _ | exact New.refl _ | apply New.alloc | apply New.aft | apply New.drew))); exact rfl; (refine cells_new _ _ _ _ ?_); (simp [go_sem]); (intro u hu; simp at hu; rcases hu with rfl | rfl | rfl | rfl <;> rfl); (unfold maxLen; omega); omega; (simp [go_sem]; omega); intro g5 cap5 w5 hown5 hgrow5 hor5 hlt5; have HN5 := Lib.hid (show New W2 w5 from new_grown (by (repeat (first | exact HN4.out | exact New.refl _ | apply New.alloc | apply New.aft | apply New.drew))) hgrow5 HO4.out); have HO5 := Lib.hid hown5; have HS5 := Lib.hid (HCn.out _ HN5.out)) | (refine step_append_lies _ ?_ (.tmp 43) (.tmp 46) 58 ?_ W2.heap.size 30 i0 _ 4 32 Tryz.underlying58 hi hz0 hz1 hz2 rfl (by omega) (.slice (some ⟨g5, 0, none⟩) (k + 1) cap5) (k + 1) (segCells (l.take k) ++ [.int .i64 x1, .int .i64 x2, .int .i64 x3, .int .i64 x4]) ?_ ?_ ⟨g, k * 4, none⟩ (n - k) (c - k) (segCells (l.drop k)) ?_ ?_ ?_ (segCells_one _) (by omega) ?_ ?_ ?_ _ rfl ?_; exact rfl; exact rfl; exact rfl; exact own_new HO5.out (by (repeat (first | exact New.refl _ | exact New.refl _ | apply New.alloc | apply New.aft | apply New.drew))); exact rfl; (rw [segCells_length, HDK.out]); (exact HWB.out _ (by (repeat (first | exact HN5.out | exact New.refl _ | apply New.alloc | apply New.aft | apply New.drew)))); (unfold maxLen; omega); omega; (exact New.size (by (repeat (first | exact HN5.out | exact New.refl _ | apply New.alloc | apply New.aft | apply New.drew)))); intro g6 cap6 w6 hown6 hgrow6 hor6 hlt6; have HN6 := Lib.hid (show New W2 w6 from new_grown (by (repeat (first | exact HN5.out | exact New.refl _ | apply New.alloc | apply New.aft | apply New.drew))) hgrow6 HO5.out); have HO6 := Lib.hid hown6; have HS6 := Lib.hid (HCn.out _ HN6.out)))
            all_goals (go_wp2_with fail)
            have HIL := Lib.hid (show IN.length = k + 1 + (n - k) by rw [← HIN'.out]; simp only [List.length_append, List.length_cons, List.length_nil]; rw [HTK.out, HDK.out])
            have HIC := Lib.hid (show segCells (l.take k) ++ [.int .i64 x1, .int .i64 x2, .int .i64 x3, .int .i64 x4] ++ segCells (l.drop k) = segCells IN by rw [← HIN'.out, segCells_append, segCells_snoc])
            have HO7 := Lib.hid (show w6.ownsRow W2.heap.size 30 4 (.slice (some ⟨g6, 0, none⟩) (k + 1 + (n - k)) cap6) (k + 1 + (n - k)) (segCells IN) from by have := HO6.out; rw [HIC.out] at this; exact this)
            go_ret
            exact ⟨_, rfl, .inr ⟨g6, cap6, by rw [HIL.out]; rfl, by rw [HIL.out]; exact own_capV HO7.out, by rw [HIL.out]; omega, by rw [HIL.out]; exact segs_own (own_new HO7.out (by (repeat (first | exact New.refl _ | exact New.refl _ | apply New.alloc | apply New.aft | apply New.drew)))) HIL.out⟩, HNA.out.trans (by (repeat (first | exact HN6.out | exact New.refl _ | apply New.alloc | apply New.aft | apply New.drew)))⟩
        · have HIN' := Lib.hid (show l = IN by
            rw [HIN.out, if_pos ⟨hkn, by
              have := HE.out
              simp only [Bool.true_eq, Bool.and_eq_true, beq_iff_eq] at this
              rw [HSA.out, this.1.1, this.1.2, this.2.1, this.2.2]⟩])
          go_wp2_with fail
          go_ret
          exact ⟨_, rfl, .inr ⟨g, c, by rw [← HIN'.out, hln]; rfl, by rw [← HIN'.out, hln]; exact hc, by rw [← HIN'.out, hln]; exact h0, by rw [← HIN'.out, hln]; exact HSW2.out.new (by (repeat (first | exact New.refl _ | exact New.refl _ | apply New.alloc | apply New.aft | apply New.drew | refine New.setCell ?_ ?_ _)); all_goals (first | done | (simp [size_aft]; done) | (simp [size_aft]; omega)))⟩, (by (repeat (first | exact HNA.out | exact New.refl _ | apply New.alloc | apply New.aft | apply New.drew | refine New.setCell ?_ ?_ _)); all_goals (first | done | (simp [size_aft]; done) | (simp [size_aft]; omega)))⟩
    · obtain rfl : k = K := by omega
      obtain rfl : k = n := by omega
      have kf : decide ((k : Int) < (k : Int)) = false := by simp
      go_upto_region 6 with fail
      first | refine wp_region_at2 (by kernel_rfl) (by kernel_rfl) ?_ | refine wp_region_at (by kernel_rfl) (by kernel_rfl) ?_
      repeat (go_big_quiet_step (fail))
      refine wpQuiet_nil ?_
      rintro W2 hq2
      have HN2 := Lib.hid (show New W1 W2 from hq2)
      have e0 := HN2.out.below.cell (p := ⟨w.heap.size, 0, none⟩) hxb1
      have e1 := HN2.out.below.cell (p := ⟨w.heap.size, 1, none⟩) hxb1
      have e2 := HN2.out.below.cell (p := ⟨w.heap.size, 2, none⟩) hxb1
      have e3 := HN2.out.below.cell (p := ⟨w.heap.size, 3, none⟩) hxb1
      replace d0 := e0.trans d0
      replace d1 := e1.trans d1
      replace d2 := e2.trans d2
      replace d3 := e3.trans d3
      have HSW2 := Lib.hid (show Segs W2 g 0 k l from HSW.out.new HN2.out)
      have hgb2 : g < W2.heap.size := HSW2.out.2.1
      have hxb2 : w.heap.size < W2.heap.size := Nat.lt_of_lt_of_le hxb1 HN2.out.size
      have HNA := Lib.hid (show New w W2 from ((New.refl w).alloc _).trans (HN.out.trans HN2.out))
      have HLQ := Lib.hid hln
      have HIN' := Lib.hid (show l ++ [(x1, x2, x3, x4)] = IN by
        rw [HIN.out, if_neg (by rintro ⟨h1, _⟩; omega), List.take_of_length_le (by omega), List.drop_of_length_le (by omega), List.append_nil])
      clear hq2 e0 e1 e2 e3 hln
      have kk1 : (k : Int) ≤ (c : Int) := by omega
      have kk2 : (0 : Int) ≤ (k : Int) := by omega
      have HWA := Lib.hid (show ∀ w1, New W2 w1 → ∀ j u, (segCells l)[j]? = some u → w1.cell? ((⟨g, 0, none⟩ : Addr).add j) = some u from fun w1 h1 => by
        have := segs_part (HSW2.out.new h1) 0 k (by omega)
        rw [List.drop_zero, List.take_of_length_le (by rw [HLQ.out]; exact Nat.le_refl _)] at this
        simpa using this)
      have HCn := Lib.hid (show ∀ w1, New W2 w1 → w1.cell? ⟨w.heap.size, 0, none⟩ = some (.int .i64 x1) ∧ w1.cell? ⟨w.heap.size, 1, none⟩ = some (.int .i64 x2) ∧ w1.cell? ⟨w.heap.size, 2, none⟩ = some (.int .i64 x3) ∧ w1.cell? ⟨w.heap.size, 3, none⟩ = some (.int .i64 x4) from fun w1 h1 => by
        have K := fun o => h1.below.cell (p := ⟨w.heap.size, o, none⟩) hxb2
        exact ⟨(K _).trans d0, (K _).trans d1, (K _).trans d2, (K _).trans d3⟩)
      by_cases hck : c = k
      · subst hck
        go_wp2_with (at_builtin; go_must (refine wpList_append_lies _ rfl (.tmp 35) (.tmp 38) 58 rfl W2.heap.size 30 i0 _ 4 32 Tryz.underlying58 hi hz0 hz1 hz2 rfl (by omega) (.slice (some ⟨W2.heap.size, 0, none⟩) 0 0) 0 [] rfl ?_ ⟨g, 0, none⟩ c c (segCells l) rfl (by rw [segCells_length, HLQ.out]) ?_ (segCells_one _) (by omega) ?_ ?_ ?_ _ rfl ?_; (exact own_noneV rfl (Nat.le_refl _)); (exact HWA.out _ (by (repeat (first | exact New.refl _ | apply New.alloc | apply New.aft | apply New.drew)))); (unfold maxLen; omega); omega; (simp); (intro g4 cap4 w4 hown4 hgrow4 hor4 hlt4; have HN4 := Lib.hid (show New W2 w4 from new_grown (by (repeat (first | exact New.refl _ | apply New.alloc | apply New.aft | apply New.drew))) hgrow4 (own_noneV (W := W2) rfl (Nat.le_refl _))); simp only [Nat.zero_add, List.nil_append] at hown4; have HO4 := Lib.hid hown4; have hb4 := hgrow4.size; simp at hb4; clear hown4 hgrow4 hor4)))
        obtain ⟨f0, f1, f2, f3⟩ := HCn.out _ HN4.out
        have hw4 : W2.heap.size ≤ w4.heap.size := by omega
        go_region_held3 (fun w' => w'.cell? ⟨w.heap.size, 0, none⟩ = some (.int .i64 x1) ∧ w'.cell? ⟨w.heap.size, 1, none⟩ = some (.int .i64 x2) ∧ w'.cell? ⟨w.heap.size, 2, none⟩ = some (.int .i64 x3) ∧ w'.cell? ⟨w.heap.size, 3, none⟩ = some (.int .i64 x4)) (first | exact HS5.out | exact HCn.out _ (by (repeat (first | exact HN4.out | exact New.refl _ | apply New.alloc | apply New.aft | apply New.drew)))) (first | (refine step_append_lies _ ?_ (.tmp 40) (.tmp 42) 58 ?_ W2.heap.size 30 i0 _ 4 32 Tryz.underlying58 hi hz0 hz1 hz2 rfl (by omega) (.slice (some ⟨g4, 0, none⟩) c cap4) c (segCells l) ?_ ?_ ⟨w4.heap.size, 0, none⟩ 1 1 [.int .i64 x1, .int .i64 x2, .int .i64 x3, .int .i64 x4] ?_ rfl ?_ ?_ (by omega) ?_ ?_ ?_ _ rfl ?_; exact rfl; exact rfl; exact rfl; exact own_new HO4.out (by (repeat (first | exact New.refl _ | exact New.refl _ | apply New.alloc | apply New.aft | apply New.drew))); exact rfl; (refine cells_new _ _ _ _ ?_); (simp [go_sem]); (intro u hu; simp at hu; rcases hu with rfl | rfl | rfl | rfl <;> rfl); (unfold maxLen; omega); omega; (simp [go_sem]; omega); intro g5 cap5 w5 hown5 hgrow5 hor5 hlt5; have HN5 := Lib.hid (show New W2 w5 from new_grown (by (repeat (first | exact HN4.out | exact New.refl _ | apply New.alloc | apply New.aft | apply New.drew))) hgrow5 HO4.out); have HO5 := Lib.hid hown5; have hc5 := own_capV hown5; have HS5 := Lib.hid (HCn.out _ HN5.out)))
        all_goals (go_wp2_with fail)
        have HIL := Lib.hid (show IN.length = c + 1 by rw [← HIN'.out, List.length_append, HLQ.out]; rfl)
        have HIC := Lib.hid (show segCells l ++ [.int .i64 x1, .int .i64 x2, .int .i64 x3, .int .i64 x4] = segCells IN by rw [← HIN'.out, segCells_snoc])
        have HO7 := Lib.hid (show w5.ownsRow W2.heap.size 30 4 (.slice (some ⟨g5, 0, none⟩) (c + 1) cap5) (c + 1) (segCells IN) from by have := HO5.out; rw [HIC.out] at this; exact this)
        go_ret
        exact ⟨_, rfl, .inr ⟨g5, cap5, by rw [HIL.out]; rfl, by rw [HIL.out]; exact own_capV HO7.out, by rw [HIL.out]; omega, by rw [HIL.out]; exact segs_own (own_new HO7.out (by (repeat (first | exact New.refl _ | exact New.refl _ | apply New.alloc | apply New.aft | apply New.drew)))) HIL.out⟩, HNA.out.trans (by (repeat (first | exact HN5.out | exact New.refl _ | apply New.alloc | apply New.aft | apply New.drew)))⟩
      · skip
        go_wp2_with (at_builtin; go_must (refine wpList_append_lies _ rfl (.tmp 35) (.tmp 38) 58 rfl W2.heap.size 30 i0 _ 4 32 Tryz.underlying58 hi hz0 hz1 hz2 rfl (by omega) (.slice (some ⟨W2.heap.size, 0, none⟩) 0 0) 0 [] rfl ?_ ⟨g, 0, none⟩ k c (segCells l) rfl (by rw [segCells_length, HLQ.out]) ?_ (segCells_one _) (by omega) ?_ ?_ ?_ _ rfl ?_; (exact own_noneV rfl (Nat.le_refl _)); (exact HWA.out _ (by (repeat (first | exact New.refl _ | apply New.alloc | apply New.aft | apply New.drew)))); (unfold maxLen; omega); omega; (simp); (intro g4 cap4 w4 hown4 hgrow4 hor4 hlt4; have HN4 := Lib.hid (show New W2 w4 from new_grown (by (repeat (first | exact New.refl _ | apply New.alloc | apply New.aft | apply New.drew))) hgrow4 (own_noneV (W := W2) rfl (Nat.le_refl _))); simp only [Nat.zero_add, List.nil_append] at hown4; have HO4 := Lib.hid hown4; have hb4 := hgrow4.size; simp at hb4; clear hown4 hgrow4 hor4)))
        obtain ⟨f0, f1, f2, f3⟩ := HCn.out _ HN4.out
        have hw4 : W2.heap.size ≤ w4.heap.size := by omega
        go_region_held3 (fun w' => w'.cell? ⟨w.heap.size, 0, none⟩ = some (.int .i64 x1) ∧ w'.cell? ⟨w.heap.size, 1, none⟩ = some (.int .i64 x2) ∧ w'.cell? ⟨w.heap.size, 2, none⟩ = some (.int .i64 x3) ∧ w'.cell? ⟨w.heap.size, 3, none⟩ = some (.int .i64 x4)) (first | exact HS5.out | exact HCn.out _ (by (repeat (first | exact HN4.out | exact New.refl _ | apply New.alloc | apply New.aft | apply New.drew)))) (first | (refine step_append_lies _ ?_ (.tmp 40) (.tmp 42) 58 ?_ W2.heap.size 30 i0 _ 4 32 Tryz.underlying58 hi hz0 hz1 hz2 rfl (by omega) (.slice (some ⟨g4, 0, none⟩) k cap4) k (segCells l) ?_ ?_ ⟨w4.heap.size, 0, none⟩ 1 1 [.int .i64 x1, .int .i64 x2, .int .i64 x3, .int .i64 x4] ?_ rfl ?_ ?_ (by omega) ?_ ?_ ?_ _ rfl ?_; exact rfl; exact rfl; exact rfl; exact own_new HO4.out (by (repeat (first | exact New.refl _ | exact New.refl _ | apply New.alloc | apply New.aft | apply New.drew))); exact rfl; (refine cells_new _ _ _ _ ?_); (simp [go_sem]); (intro u hu; simp at hu; rcases hu with rfl | rfl | rfl | rfl <;> rfl); (unfold maxLen; omega); omega; (simp [go_sem]; omega); intro g5 cap5 w5 hown5 hgrow5 hor5 hlt5; have HN5 := Lib.hid (show New W2 w5 from new_grown (by (repeat (first | exact HN4.out | exact New.refl _ | apply New.alloc | apply New.aft | apply New.drew))) hgrow5 HO4.out); have HO5 := Lib.hid hown5; have hc5 := own_capV hown5; have HS5 := Lib.hid (HCn.out _ HN5.out)))
        all_goals (go_wp2_with fail)
        have HIL := Lib.hid (show IN.length = k + 1 by rw [← HIN'.out, List.length_append, HLQ.out]; rfl)
        have HIC := Lib.hid (show segCells l ++ [.int .i64 x1, .int .i64 x2, .int .i64 x3, .int .i64 x4] = segCells IN by rw [← HIN'.out, segCells_snoc])
        have HO7 := Lib.hid (show w5.ownsRow W2.heap.size 30 4 (.slice (some ⟨g5, 0, none⟩) (k + 1) cap5) (k + 1) (segCells IN) from by have := HO5.out; rw [HIC.out] at this; exact this)
        go_ret
        exact ⟨_, rfl, .inr ⟨g5, cap5, by rw [HIL.out]; rfl, by rw [HIL.out]; exact own_capV HO7.out, by rw [HIL.out]; omega, by rw [HIL.out]; exact segs_own (own_new HO7.out (by (repeat (first | exact New.refl _ | exact New.refl _ | apply New.alloc | apply New.aft | apply New.drew)))) HIL.out⟩, HNA.out.trans (by (repeat (first | exact HN5.out | exact New.refl _ | apply New.alloc | apply New.aft | apply New.drew)))⟩

set_option maxHeartbeats 4000000 in
theorem insert_nil (x : S4) (w : World) : Calls Tryz.prog 142 #[.slice none 0 0, sv x.1 x.2.1 x.2.2.1 x.2.2.2] w fun en w' => ∃ v', en = .returned v' ∧ SegsV w' v' (insS [] x) ∧ New w w' := by
  obtain ⟨i0, hi, hz0, hz1, hz2⟩ := info_parts info30
  rcases x with ⟨x1, x2, x3, x4⟩
  have HIN' := Lib.hid (show [(x1, x2, x3, x4)] = insS [] (x1, x2, x3, x4) by simp [insS, atTo])
  generalize insS [] (x1, x2, x3, x4) = IN at *
  show Calls Tryz.prog 142 #[.slice none 0 0, sv x1 x2 x3 x4] w _
  have kf : decide ((0 : Int) < (0 : Int)) = false := by simp
  go_enter Tryz.func142, Tryz.ntmps142
  go_wp2_with fail
  refine wp_loop_rounds 1 ?_
  rw [rounds_succ]
  go_upto_region 6 with fail
  have HNA := Lib.hid (show New w (w.alloc (.cells #[.int .i64 x1, .int .i64 x2, .int .i64 x3, .int .i64 x4] 30)) from (New.refl w).alloc _)
  have d0 : (w.alloc (.cells #[.int .i64 x1, .int .i64 x2, .int .i64 x3, .int .i64 x4] 30)).cell? ⟨w.heap.size, 0, none⟩ = some (.int .i64 x1) := by simp [go_sem]
  have d1 : (w.alloc (.cells #[.int .i64 x1, .int .i64 x2, .int .i64 x3, .int .i64 x4] 30)).cell? ⟨w.heap.size, 1, none⟩ = some (.int .i64 x2) := by simp [go_sem]
  have d2 : (w.alloc (.cells #[.int .i64 x1, .int .i64 x2, .int .i64 x3, .int .i64 x4] 30)).cell? ⟨w.heap.size, 2, none⟩ = some (.int .i64 x3) := by simp [go_sem]
  have d3 : (w.alloc (.cells #[.int .i64 x1, .int .i64 x2, .int .i64 x3, .int .i64 x4] 30)).cell? ⟨w.heap.size, 3, none⟩ = some (.int .i64 x4) := by simp [go_sem]
  have hxb1 : w.heap.size < (w.alloc (.cells #[.int .i64 x1, .int .i64 x2, .int .i64 x3, .int .i64 x4] 30)).heap.size := by simp
  generalize w.alloc (.cells #[.int .i64 x1, .int .i64 x2, .int .i64 x3, .int .i64 x4] 30) = W1 at *
  first | refine wp_region_at2 (by kernel_rfl) (by kernel_rfl) ?_ | refine wp_region_at (by kernel_rfl) (by kernel_rfl) ?_
  repeat (go_big_quiet_step (fail))
  refine wpQuiet_nil ?_
  rintro W2 hq2
  have HN2 := Lib.hid (show New W1 W2 from hq2)
  have hxb2 : w.heap.size < W2.heap.size := Nat.lt_of_lt_of_le hxb1 HN2.out.size
  have HCn := Lib.hid (show ∀ w1, New W2 w1 → w1.cell? ⟨w.heap.size, 0, none⟩ = some (.int .i64 x1) ∧ w1.cell? ⟨w.heap.size, 1, none⟩ = some (.int .i64 x2) ∧ w1.cell? ⟨w.heap.size, 2, none⟩ = some (.int .i64 x3) ∧ w1.cell? ⟨w.heap.size, 3, none⟩ = some (.int .i64 x4) from fun w1 h1 => by
    have K := fun o => (HN2.out.trans h1).below.cell (p := ⟨w.heap.size, o, none⟩) hxb1
    exact ⟨(K _).trans d0, (K _).trans d1, (K _).trans d2, (K _).trans d3⟩)
  clear hq2 d0 d1 d2 d3
  go_upto_region 9 with fail
  have hb4 : W2.heap.size + 1 ≤ (W2.alloc (.cells #[] 30)).heap.size := by simp
  have HN4 := Lib.hid (show New W2 (W2.alloc (.cells #[] 30)) from (New.refl W2).alloc _)
  have HO4 := Lib.hid (own_noneV (W := W2) (base := W2.heap.size) rfl (Nat.le_refl _))
  generalize W2.alloc (.cells #[] 30) = w4 at *
  obtain ⟨f0, f1, f2, f3⟩ := HCn.out _ HN4.out
  have hw4 : W2.heap.size ≤ w4.heap.size := by omega
  go_region_held3 (fun w' => w'.cell? ⟨w.heap.size, 0, none⟩ = some (.int .i64 x1) ∧ w'.cell? ⟨w.heap.size, 1, none⟩ = some (.int .i64 x2) ∧ w'.cell? ⟨w.heap.size, 2, none⟩ = some (.int .i64 x3) ∧ w'.cell? ⟨w.heap.size, 3, none⟩ = some (.int .i64 x4)) (first | exact HS5.out | exact HCn.out _ (by (repeat (first | exact HN4.out | exact New.refl _ | apply New.alloc | apply New.aft | apply New.drew)))) (first | (refine step_append_lies _ ?_ (.tmp 40) (.tmp 42) 58 ?_ W2.heap.size 30 i0 _ 4 32 Tryz.underlying58 hi hz0 hz1 hz2 rfl (by omega) (.slice (some ⟨W2.heap.size, 0, none⟩) 0 0) 0 [] ?_ ?_ ⟨w4.heap.size, 0, none⟩ 1 1 [.int .i64 x1, .int .i64 x2, .int .i64 x3, .int .i64 x4] ?_ rfl ?_ ?_ (by omega) ?_ ?_ ?_ _ rfl ?_; exact rfl; exact rfl; exact rfl; exact own_new HO4.out (by (repeat (first | exact New.refl _ | exact New.refl _ | apply New.alloc | apply New.aft | apply New.drew))); exact rfl; (refine cells_new _ _ _ _ ?_); (simp [go_sem]); (intro u hu; simp at hu; rcases hu with rfl | rfl | rfl | rfl <;> rfl); (unfold maxLen; omega); omega; (simp [go_sem]; omega); intro g5 cap5 w5 hown5 hgrow5 hor5 hlt5; have HN5 := Lib.hid (show New W2 w5 from new_grown (by (repeat (first | exact HN4.out | exact New.refl _ | apply New.alloc | apply New.aft | apply New.drew))) hgrow5 HO4.out); have HO5 := Lib.hid hown5; have hc5 := own_capV hown5; have HS5 := Lib.hid (HCn.out _ HN5.out)))
  all_goals (go_wp2_with fail)
  have HIL := Lib.hid (show IN.length = 1 by rw [← HIN'.out]; rfl)
  have HIC := Lib.hid (show [] ++ [.int .i64 x1, .int .i64 x2, .int .i64 x3, .int .i64 x4] = segCells IN by rw [← HIN'.out]; rfl)
  have HO7 := Lib.hid (show w5.ownsRow W2.heap.size 30 4 (.slice (some ⟨g5, 0, none⟩) 1 cap5) 1 (segCells IN) from by have := HO5.out; rw [HIC.out] at this; exact this)
  go_ret
  exact ⟨_, rfl, .inr ⟨g5, cap5, by rw [HIL.out]; rfl, by rw [HIL.out]; exact own_capV HO7.out, by rw [HIL.out]; omega, by rw [HIL.out]; exact segs_own (own_new HO7.out (by (repeat (first | exact New.refl _ | exact New.refl _ | apply New.alloc | apply New.aft | apply New.drew)))) HIL.out⟩, HNA.out.trans (HN2.out.trans (by (repeat (first | exact HN5.out | exact New.refl _ | apply New.alloc | apply New.aft | apply New.drew))))⟩

theorem insert_c (v : Value) (l : List S4) (x : S4) (w : World) (hl : l.length ≤ 100000) (hv : SegsV w v l) : Calls Tryz.prog 142 #[v, sv x.1 x.2.1 x.2.2.1 x.2.2.2] w fun en w' => ∃ v', en = .returned v' ∧ SegsV w' v' (insS l x) ∧ New w w' := by
  rcases hv with ⟨rfl, rfl⟩ | ⟨g, cap, rfl, h2, h3, h4⟩
  · exact insert_nil x w
  · exact insert_some g l.length cap l x w hl h2 h3 h4

end Go.Proofs.YtpdfbboagaflhaaGreat

set_option linter.unusedSimpArgs false
set_option linter.unusedVariables false
set_option maxRecDepth 100000
namespace Go.Proofs.YtpdfbboagaflhaaGreat
open Go.RowKit

def badE (l : List S4) : Int := if ckSegs l = 0 then 10 else ckSegs l
theorem badE_ne (l : List S4) : badE l ≠ 0 := by unfold badE; split <;> omega

set_option maxHeartbeats 4000000 in
theorem ref_split_bad (b off n c : Nat) (l : List S4) (w : World) (hl : n ≤ 1000000) (hw : Segs w b off n l) (h : ¬ (ckSegs l = 0 ∧ RowsFree l l.length l.length)) :
    Calls Tryz.prog 67 #[.slice (some ⟨b, off, none⟩) n c] w fun en w' => en = .returned (.tuple #[.slice none 0 0, .int .i64 (badE l)]) ∧ New w w' := by
  have HC := Lib.hid (ref_Crossing b off n c l w hl hw)
  by_cases hk : ckSegs l = 0
  · have hf : ¬ RowsFree l l.length l.length := fun hf => h ⟨hk, hf⟩
    have HX := Lib.hid (show ∀ en, CrossIs l en → ∃ i j : Int, en = .returned (.tuple #[.int .i64 i, .int .i64 j, .bool true, .int .i64 0]) from fun en hc => by
      rcases hc with ⟨h1, _⟩ | ⟨_, h2, _⟩ | ⟨_, i, j, _, _, _, _, _, rfl⟩
      · exact absurd hk h1
      · exact absurd h2 hf
      · exact ⟨i, j, rfl⟩)
    rw [show badE l = 10 from if_pos hk]
    clear hk hf h hw
    go_enter Tryz.func67, Tryz.ntmps67
    go_wp2_with (go_at_call 65; refine HC.out.mono ?_; rintro en w2 ⟨hcr, hn⟩; have HN1 := Lib.hid hn; obtain ⟨i, j, rfl⟩ := HX.out _ hcr; clear hn hcr)
    go_ret2; exact ⟨rfl, HN1.out⟩
  · have HX := Lib.hid (show ∀ en, CrossIs l en → en = .returned (.tuple #[.int .i64 0, .int .i64 0, .bool false, .int .i64 (badE l)]) from fun en hc => by
      rcases hc with ⟨_, rfl⟩ | ⟨h1, _⟩ | ⟨h1, _⟩
      · rw [show badE l = ckSegs l from if_neg hk]; rfl
      · exact absurd h1 hk
      · exact absurd h1 hk)
    have hE := badE_ne l
    have q2 : (badE l != 0) = true := by simpa using hE
    clear hk h hw
    generalize badE l = E at *
    go_enter Tryz.func67, Tryz.ntmps67
    go_wp2_with (go_at_call 65; refine HC.out.mono ?_; rintro en w2 ⟨hcr, hn⟩; have HN1 := Lib.hid hn; obtain rfl := HX.out _ hcr; clear hn hcr)
    go_ret2; exact ⟨rfl, HN1.out⟩

theorem ref_split_nil (v : Option Addr) (c : Nat) (w : World) : Calls Tryz.prog 67 #[.slice v 0 c] w fun en w' => en = .returned (.tuple #[.slice none 0 0, .int .i64 0]) ∧ New w w' := by
  have HC := Lib.hid (fun w1 : World => ref_crossing_nil v c w1)
  go_enter Tryz.func67, Tryz.ntmps67
  go_wp2_with (go_at_call 65; refine (HC.out _).mono ?_; rintro en w2 ⟨rfl, hn⟩; have HN1 := Lib.hid hn; clear hn)
  refine wp_loop_rounds 1 ?_
  rw [rounds_succ]
  go_wp2_with fail
  go_ret2; exact ⟨rfl, HN1.out⟩

theorem split_badE (b off n c : Nat) (l : List S4) (w : World) (hl : n ≤ 1000000) (hw : Segs w b off n l) (h : ¬ (ckSegs l = 0 ∧ RowsFree l l.length l.length)) : Calls Tryz.prog 66 #[.slice (some ⟨b, off, none⟩) n c] w fun en w' => en = .returned (.tuple #[.slice none 0 0, .int .i64 (badE l)]) ∧ New w w' := by
  by_cases hk : ckSegs l = 0
  · have hf : ¬ RowsFree l l.length l.length := fun hf => h ⟨hk, hf⟩
    rw [show badE l = 10 from if_pos hk]
    refine split_err b off n c l 10 w hl hw (by decide) (fun en h => ?_)
    rcases h with ⟨h1, _⟩ | ⟨_, h2, _⟩ | ⟨_, _, h3⟩
    · exact absurd hk h1
    · exact absurd h2 hf
    · exact h3
  · rw [show badE l = ckSegs l from if_neg hk]
    refine split_err b off n c l (ckSegs l) w hl hw hk (fun en h => ?_)
    rcases h with ⟨_, h2⟩ | ⟨h1, _⟩ | ⟨h1, _⟩
    · exact h2
    · exact absurd h1 hk
    · exact absurd h1 hk

theorem sameSegs_nil (w : World) : Calls Tryz.prog 68 #[.slice none 0 0, .slice none 0 0] w fun en w' => en = .returned (.bool true) ∧ New w w' :=
  sameSegs_c (.slice none 0 0) (.slice none 0 0) [] w (by simp) ⟨none, 0, rfl, by simp, fun h => by simp at h⟩ ⟨none, 0, rfl, by simp, fun h => by simp at h⟩

set_option maxHeartbeats 4000000 in
theorem spl_long (av : Option Addr) (n c : Nat) (w : World) (h : 30 < n) : Calls Tryz.prog 16 #[.slice av n c] w fun e w' => e = .returned (.bool true) ∧ New w w' := by
  have k1 : (30 : Int) < (n : Int) := by omega
  have HL := Lib.hid alive_c
  go_enter Tryz.func16, Tryz.ntmps16
  go_wp2_with (go_at_call 31; refine (HL.out _).mono ?_; rintro e w2 ⟨rfl, hn⟩; have HN1 := Lib.hid hn; clear hn)
  go_ret; exact ⟨rfl, HN1.out⟩

set_option maxHeartbeats 4000000 in
/-- the law, where both return what they return (R: the list of both) -/
theorem spl_of (v : Option Addr) (n c : Nat) (E : Int) (R : List S4) (w : World) (h : n ≤ 30) (hR : R.length ≤ 1000000)
    (H1 : Hid (∀ w1, New w w1 → Calls Tryz.prog 66 #[.slice v n c] w1 fun en w' => ∃ r, en = .returned (.tuple #[r, .int .i64 E]) ∧ SegsR w' r R ∧ New w1 w'))
    (H2 : Hid (∀ w1, New w w1 → Calls Tryz.prog 67 #[.slice v n c] w1 fun en w' => ∃ r, en = .returned (.tuple #[r, .int .i64 E]) ∧ SegsR w' r R ∧ New w1 w')) :
    Calls Tryz.prog 16 #[.slice v n c] w fun e w' => e = .returned (.bool true) ∧ New w w' := by
  have k1 : ¬ (30 : Int) < (n : Int) := by omega
  have HL := Lib.hid alive_c
  have HS := Lib.hid (fun (a b : Value) (w1 : World) => sameSegs_c a b R w1 hR)
  have q1 : (E == E) = true := by simp
  clear hR
  go_enter Tryz.func16, Tryz.ntmps16
  go_wp2_with (first | (go_at_call 66; refine (H1.out _ (New.refl _)).mono ?_; rintro e w2 ⟨ra, rfl, hr, hn⟩; have HN1 := Lib.hid hn; have HR1 := Lib.hid hr; clear hn hr) | (go_at_call 67; refine (H2.out _ HN1.out).mono ?_; rintro e w3 ⟨rb, rfl, hr, hn⟩; have HN2 := Lib.hid hn; have HR2 := Lib.hid hr; clear hn hr) | (go_at_call 31; refine (HL.out _).mono ?_; rintro e w4 ⟨rfl, hn⟩; have HN3 := Lib.hid hn; clear hn) | (go_at_call 68; refine (HS.out ra rb _ (HR1.out.new (HN2.out.trans HN3.out)) (HR2.out.new HN3.out)).mono ?_; rintro e w5 ⟨rfl, hn⟩; have HN4 := Lib.hid hn; clear hn))
  go_ret; exact ⟨rfl, HN1.out.trans (HN2.out.trans (HN3.out.trans HN4.out))⟩

end Go.Proofs.YtpdfbboagaflhaaGreat

set_option linter.unusedSimpArgs false
set_option linter.unusedVariables false
namespace Go.Proofs.YtpdfbboagaflhaaGreat

theorem lexLt_asym {p q : P2} (h : lexLt p q) : ¬ lexLt q p := by unfold lexLt at *; omega
/-- the first cut and the last one are the ends, the lesser first -/
theorem cut_ends {E : List P2} {s : S4} (hE : ∀ p, p ∈ E → valid p) (hs : okSeg s = true) (hA : eA s ∈ E) (hB : eB s ∈ E) :
    2 ≤ (cutsL E s.1 s.2.1 s.2.2.1 s.2.2.2).length ∧ (lessP (eB s) (eA s) = true → ptAt (cutsL E s.1 s.2.1 s.2.2.1 s.2.2.2) 0 = eB s ∧ ptAt (cutsL E s.1 s.2.1 s.2.2.1 s.2.2.2) ((cutsL E s.1 s.2.1 s.2.2.1 s.2.2.2).length - 1) = eA s) ∧
      (lessP (eB s) (eA s) = false → ptAt (cutsL E s.1 s.2.1 s.2.2.1 s.2.2.2) 0 = eA s ∧ ptAt (cutsL E s.1 s.2.1 s.2.2.1 s.2.2.2) ((cutsL E s.1 s.2.1 s.2.2.1 s.2.2.2).length - 1) = eB s) := by
  obtain ⟨h1, h2⟩ := cutsL_spec hE hs hA hB
  generalize cutsL E s.1 s.2.1 s.2.2.1 s.2.2.2 = C at *
  obtain ⟨i, hi, ei⟩ := mem_ptAt ((h2 _).2 ⟨hA, onS_A s⟩)
  obtain ⟨j, hj, ej⟩ := mem_ptAt ((h2 _).2 ⟨hB, onS_B s⟩)
  have hne := (okSeg_iff.1 hs).2.2
  have hij : i ≠ j := fun e => hne (by rw [ei, ej, e])
  have two : 2 ≤ C.length := by omega
  have val : ∀ k, k < C.length → valid (ptAt C k) ∧ onS (ptAt C k) s := fun k hk => by
    have := (h2 _).1 (ptAt_mem hk)
    exact ⟨hE _ this.1, this.2⟩
  have mono : ∀ a b, a < b → b < C.length → ky 1 (ptAt C a) < ky 1 (ptAt C b) := fun a b hab hb => (ky_lt (val a (by omega)).1 (val b hb).1).1 (lex_lt h1 hb hab)
  have b0 := (val 0 (by omega)).2.2
  have bn := (val (C.length - 1) (by omega)).2.2
  rw [ei, ej] at b0 bn
  refine ⟨two, ?_⟩
  by_cases hlt : i < j
  · have i0 : i = 0 := by
      apply Classical.byContradiction; intro h
      have := mono 0 i (by omega) hi
      have := mono i j hlt hj
      omega
    have jn : j = C.length - 1 := by
      apply Classical.byContradiction; intro h
      have := mono j (C.length - 1) (by omega) (by omega)
      have := mono i j hlt hj
      omega
    have hl : ¬ lexLt (eB s) (eA s) := by rw [ei, ej]; exact lexLt_asym (lex_lt h1 hj hlt)
    refine ⟨fun h => absurd ((lessP_iff _ _).1 h) hl, fun _ => ⟨by rw [ei, i0], by rw [ej, jn]⟩⟩
  · have i0 : j = 0 := by
      apply Classical.byContradiction; intro h
      have := mono 0 j (by omega) hj
      have := mono j i (by omega) hi
      omega
    have jn : i = C.length - 1 := by
      apply Classical.byContradiction; intro h
      have := mono i (C.length - 1) (by omega) (by omega)
      have := mono j i (by omega) hi
      omega
    have hl : lexLt (eB s) (eA s) := by rw [ei, ej]; exact lex_lt h1 hi (by omega)
    refine ⟨fun _ => ⟨by rw [ej, i0], by rw [ei, jn]⟩, fun h => ?_⟩
    rw [(lessP_iff _ _).2 hl] at h; cases h

/-- the parts before, and the first j of segment i -/
def wayTo (l : List S4) (E : List P2) (i j : Nat) : List S4 := partsTo l E i ++ pairsTo (cutsL E (q1 l i) (q2 l i) (q3 l i) (q4 l i)) j
theorem way_zero (l : List S4) (E : List P2) (i : Nat) : insAll (wayTo l E i 0) = insAll (partsTo l E i) := by simp [wayTo, pairsTo]
theorem way_step (l : List S4) (E : List P2) (i j : Nat) : insAll (wayTo l E i (j + 1)) = insS (insAll (wayTo l E i j)) ((ptAt (cutsL E (q1 l i) (q2 l i) (q3 l i) (q4 l i)) j).1, (ptAt (cutsL E (q1 l i) (q2 l i) (q3 l i) (q4 l i)) j).2, (ptAt (cutsL E (q1 l i) (q2 l i) (q3 l i) (q4 l i)) (j + 1)).1, (ptAt (cutsL E (q1 l i) (q2 l i) (q3 l i) (q4 l i)) (j + 1)).2) := by
  unfold wayTo insAll
  rw [pairsTo_succ, ← List.append_assoc, List.foldl_append]
  rfl
theorem way_all (l : List S4) (E : List P2) (i : Nat) : insAll (wayTo l E i ((cutsL E (q1 l i) (q2 l i) (q3 l i) (q4 l i)).length - 1)) = insAll (partsTo l E (i + 1)) := rfl
theorem insS_len (l : List S4) (x : S4) : (insS l x).length ≤ l.length + 1 := by
  unfold insS
  split
  · omega
  · simp only [List.length_append, List.length_cons, List.length_nil, List.length_take, List.length_drop]; omega
theorem insAll_len (l : List S4) : (insAll l).length ≤ l.length := by
  have : ∀ (m : List S4) (o : List S4), (m.foldl insS o).length ≤ o.length + m.length := by
    intro m
    induction m with
    | nil => intro o; simp
    | cons a m ih => intro o; have h1 := ih (insS o a); have h2 := insS_len o a; simp only [List.foldl_cons, List.length_cons]; omega
  simpa [insAll] using this l []
/-- one more end looked at -/
theorem nextP_succ {E : List P2} (a b : P2) {k : Nat} (h : k < E.length) : nextP E a b (k + 1) = nextStep a b (nextP E a b k) (ptAt E k) := by
  unfold nextP
  rw [List.take_add_one, List.getElem?_eq_getElem h]
  simp only [Option.toList_some, List.foldl_append, List.foldl_cons, List.foldl_nil]
  rw [ptAt_get E k h]
theorem nextP_zero (E : List P2) (a b : P2) : nextP E a b 0 = b := rfl
/-- the ends, in their order -/
theorem endsTo_at (l : List S4) : ∀ n k, k < n → ptAt (endsTo l n) (2 * k) = (q1 l k, q2 l k) ∧ ptAt (endsTo l n) (2 * k + 1) = (q3 l k, q4 l k)
  | 0, k, h => by omega
  | n + 1, k, h => by
    have hlen := endsTo_length l n
    by_cases e : k = n
    · subst e
      unfold endsTo ptAt px py
      constructor <;> simp [List.getD_eq_getElem?_getD, List.getElem?_append, hlen]
    · obtain ⟨i1, i2⟩ := endsTo_at l n k (by omega)
      rw [← i1, ← i2]
      unfold ptAt px py
      constructor <;> simp only [endsTo, List.getD_eq_getElem?_getD] <;> rw [List.getElem?_append_left (by omega)]

end Go.Proofs.YtpdfbboagaflhaaGreat

set_option linter.unusedSimpArgs false
set_option linter.unusedVariables false
set_option maxRecDepth 100000
namespace Go.Proofs.YtpdfbboagaflhaaGreat
open Go.RowKit

/-- a point in a block of the call's own -/
def PtK (w : World) (H : Nat) (p : P2) : Prop := H < w.heap.size ∧ (w.cell? ⟨H, 0, none⟩ = some (.int .i64 p.1) ∧ w.cell? ⟨H, 1, none⟩ = some (.int .i64 p.2)) ∧ (∀ o, w.frozen? ⟨H, o, none⟩ = false) ∧ w.cell? ⟨H, 2, none⟩ = none
theorem PtK.new {w w' : World} {H : Nat} {p : P2} (h : PtK w H p) (hn : New w w') : PtK w' H p := by
  obtain ⟨h1, ⟨h2, h3⟩, h6, h7⟩ := h
  exact ⟨Nat.lt_of_lt_of_le h1 hn.size, ⟨(hn.cell h1).trans h2, (hn.cell h1).trans h3⟩, fun o => (hn.below.frozen (p := ⟨H, o, none⟩) h1).trans (h6 o), (hn.cell h1).trans h7⟩
theorem cell_set_other {w : World} {H g o x : Nat} {u : Value} (h : g ≠ H) : (w.setCell ⟨H, o, none⟩ u).cell? ⟨g, x, none⟩ = w.cell? ⟨g, x, none⟩ := by
  unfold World.cell? World.setCell
  simp [Array.getElem?_modify, Ne.symm h]
theorem SegsV.set {w : World} {v : Value} {l : List S4} (h : SegsV w v l) {H : Nat} (hH : w.cell? ⟨H, 2, none⟩ = none) (o : Nat) (x : Value) : SegsV (w.setCell ⟨H, o, none⟩ x) v l := by
  rcases h with h | ⟨g, cap, h1, h2, h3, h4⟩
  · exact .inl h
  · have hg : g ≠ H := by
      rintro rfl
      have := (h4.2.2 0 h3).2.2.1
      simp only [Nat.zero_mul, Nat.zero_add, Nat.add_zero] at this
      rw [hH] at this; cases this
    refine .inr ⟨g, cap, h1, h2, h3, h4.1, by simpa [World.setCell] using h4.2.1, fun i hi => ?_⟩
    obtain ⟨c1, c2, c3, c4⟩ := h4.2.2 i hi
    exact ⟨(cell_set_other hg).trans c1, (cell_set_other hg).trans c2, (cell_set_other hg).trans c3, (cell_set_other hg).trans c4⟩
theorem set_two {w : World} {H o : Nat} {x : Value} (hH : w.cell? ⟨H, 2, none⟩ = none) (ho : o < 2) : (w.setCell ⟨H, o, none⟩ x).cell? ⟨H, 2, none⟩ = none := by
  have : o = 0 ∨ o = 1 := by omega
  rcases this with rfl | rfl <;> simp [go_sem, hH]
theorem PtK.set {w : World} {g : Nat} {p : P2} (h : PtK w g p) {H : Nat} (hg : g ≠ H) (o : Nat) (x : Value) : PtK (w.setCell ⟨H, o, none⟩ x) g p :=
  ⟨by simpa [World.setCell] using h.1, ⟨(cell_set_other hg).trans h.2.1.1, (cell_set_other hg).trans h.2.1.2⟩, fun k => by rw [World.frozen?_setCell]; exact h.2.2.1 k, (cell_set_other hg).trans h.2.2.2⟩
theorem PtK.put {w : World} {H : Nat} {p q : P2} (h : PtK w H p) : PtK ((w.setCell ⟨H, 0, none⟩ (.int .i64 q.1)).setCell ⟨H, 1, none⟩ (.int .i64 q.2)) H q := by
  obtain ⟨h1, ⟨h2, h3⟩, h4, h5⟩ := h
  exact ⟨by simpa [World.setCell] using h1, ⟨by simp [go_sem, h2, h3], by simp [go_sem, h2, h3]⟩, fun k => by rw [World.frozen?_setCell, World.frozen?_setCell]; exact h4 k, set_two (set_two h5 (by omega)) (by omega)⟩
/-- two points in a row of the call's own -/
def TwoP (w : World) (g : Nat) (P : Nat → P2) : Prop := g < w.heap.size ∧ ∀ t, t < 2 → w.cell? ⟨g, t * 2, none⟩ = some (.int .i64 (P t).1) ∧ w.cell? ⟨g, t * 2 + 1, none⟩ = some (.int .i64 (P t).2)
theorem TwoP.new {w w' : World} {g : Nat} {P : Nat → P2} (h : TwoP w g P) (hn : New w w') : TwoP w' g P := ⟨Nat.lt_of_lt_of_le h.1 hn.size, fun t ht => ⟨(hn.cell h.1).trans (h.2 t ht).1, (hn.cell h.1).trans (h.2 t ht).2⟩⟩
theorem TwoP.set {w : World} {g : Nat} {P : Nat → P2} (h : TwoP w g P) {H : Nat} (hH : w.cell? ⟨H, 2, none⟩ = none) (o : Nat) (x : Value) : TwoP (w.setCell ⟨H, o, none⟩ x) g P := by
  have hg : g ≠ H := by
    rintro rfl
    have := (h.2 1 (by omega)).1
    simp only [Nat.one_mul] at this
    rw [hH] at this; cases this
  exact ⟨by simpa [World.setCell] using h.1, fun t ht => ⟨(cell_set_other hg).trans (h.2 t ht).1, (cell_set_other hg).trans (h.2 t ht).2⟩⟩
theorem lessB_P (p q : P2) : lessB p.1 p.2 q.1 q.2 = lessP p q := rfl
/-- what the ways of one segment are -/
structure SegWay (l : List S4) (E : List P2) (i m : Nat) (C : List P2) : Prop where
  len : C.length = m + 1
  pos : 0 < m
  yes : lessP (q3 l i, q4 l i) (q1 l i, q2 l i) = true → ptAt C 0 = (q3 l i, q4 l i) ∧ ptAt C m = (q1 l i, q2 l i)
  no : lessP (q3 l i, q4 l i) (q1 l i, q2 l i) = false → ptAt C 0 = (q1 l i, q2 l i) ∧ ptAt C m = (q3 l i, q4 l i)
  step : ∀ j, j < m → insAll (wayTo l E i (j + 1)) = insS (insAll (wayTo l E i j)) ((ptAt C j).1, (ptAt C j).2, (ptAt C (j + 1)).1, (ptAt C (j + 1)).2)
  next : ∀ j, j < m → nextP E (ptAt C j) (ptAt C m) E.length = ptAt C (j + 1)
  ne : ∀ j, j < m → ptAt C j ≠ ptAt C m
  start : insAll (wayTo l E i 0) = insAll (partsTo l E i)
  all : insAll (wayTo l E i m) = insAll (partsTo l E (i + 1))
  val : ∀ j, j ≤ m → valid (ptAt C j)
  small : ∀ j, j ≤ m → (insAll (wayTo l E i j)).length ≤ 100000
theorem segWay_of {l : List S4} (hok : okSegs l = true) (h30 : l.length ≤ 30) {i : Nat} (hi : i < l.length) : ∃ m C, SegWay l (endsTo l l.length) i m C := by
  have hE := ends_valid hok
  have hs := seg_ok hok hi
  have hA := ends_A hok hi
  have hB := ends_B hok hi
  obtain ⟨c1, c2, c3⟩ := cut_ends hE hs hA hB
  obtain ⟨p1, p2⟩ := cutsL_spec hE hs hA hB
  have w0 := way_zero l (endsTo l l.length) i
  have ws := fun j => way_step l (endsTo l l.length) i j
  have wa := way_all l (endsTo l l.length) i
  have sm : ∀ j, j ≤ 61 → (insAll (wayTo l (endsTo l l.length) i j)).length ≤ 100000 := fun j hj => by
    have h1 := insAll_len (wayTo l (endsTo l l.length) i j)
    have h2 := partsTo_len l (endsTo l l.length) i
    have h3 := endsTo_length l l.length
    have h4 : (wayTo l (endsTo l l.length) i j).length = (partsTo l (endsTo l l.length) i).length + j := by unfold wayTo; rw [List.length_append, pairsTo_length]
    have h5 : i * ((endsTo l l.length).length + 1) ≤ 30 * 61 := Nat.mul_le_mul (by omega) (by omega)
    omega
  have cl := (cutsL_le (endsTo l l.length) (q1 l i) (q2 l i) (q3 l i) (q4 l i)).2
  have el := endsTo_length l l.length
  have hC : cutsL (endsTo l l.length) (segAt l i).1 (segAt l i).2.1 (segAt l i).2.2.1 (segAt l i).2.2.2 = cutsL (endsTo l l.length) (q1 l i) (q2 l i) (q3 l i) (q4 l i) := rfl
  rw [hC] at c1 c2 c3 p1 p2
  have eb : eB (segAt l i) = (q3 l i, q4 l i) := rfl
  have ea : eA (segAt l i) = (q1 l i, q2 l i) := rfl
  rw [ea, eb] at c2 c3
  generalize cutsL (endsTo l l.length) (q1 l i) (q2 l i) (q3 l i) (q4 l i) = C at *
  refine ⟨C.length - 1, C, by omega, by omega, c2, c3, fun j _ => ws j, fun j hj => next_cut hE hs p1 p2 (by omega), fun j hj e => ?_, w0, wa, fun j hj => hE _ ((p2 _).1 (ptAt_mem (by omega))).1, fun j hj => sm j (by omega)⟩
  have := lex_lt p1 (show C.length - 1 < C.length by omega) hj
  rw [e] at this
  unfold lexLt at this; omega

set_option maxHeartbeats 16000000 in
theorem ref_split_good (b off n c : Nat) (l : List S4) (w : World) (h0 : 0 < n) (hn : n ≤ 30) (hw : Segs w b off n l) (hk : ckSegs l = 0) (hf : RowsFree l l.length l.length) :
    Calls Tryz.prog 67 #[.slice (some ⟨b, off, none⟩) n c] w fun en w' => ∃ r, en = .returned (.tuple #[r, .int .i64 0]) ∧ SegsV w' r (splitL l) ∧ New w w' := by
  have hok := okSegs_ck hk
  have hln := hw.1
  have HC := Lib.hid (ref_Crossing b off n c l w (by omega) hw)
  have HX := Lib.hid (show ∀ en, CrossIs l en → en = .returned (.tuple #[.int .i64 0, .int .i64 0, .bool false, .int .i64 0]) from fun en hc => by
    rcases hc with ⟨h1, _⟩ | ⟨_, _, rfl⟩ | ⟨_, i, j, h2, h3, h4, h5, h6, rfl⟩
    · exact absurd hk h1
    · rfl
    · exact absurd h6 (by rw [hf i (by omega) j h2 h3]; simp))
  have HSP := Lib.hid (split_ref hok hf)
  have HW := Lib.hid hw
  have HWAY := Lib.hid (show ∀ i, i < n → ∃ m C, SegWay l (endsTo l n) i m C from fun i hi => by have := segWay_of hok (by omega) (i := i) (by omega); rw [hln] at this; exact this)
  have HEA := Lib.hid (show ∀ k, k < n → ptAt (endsTo l n) (2 * k) = (q1 l k, q2 l k) ∧ ptAt (endsTo l n) (2 * k + 1) = (q3 l k, q4 l k) from fun k hk => endsTo_at l n k hk)
  have HEL := Lib.hid (endsTo_length l n)
  have HLN := Lib.hid hln
  have HEV := Lib.hid (show ∀ k, k < 2 * n → valid (ptAt (endsTo l n) k) from fun k hk => by have h1 := ends_valid hok _ (ptAt_mem (show k < (endsTo l l.length).length by rw [endsTo_length]; omega)); rw [hln] at h1; exact h1)
  have hbl : b < w.heap.size := hw.2.1
  clear hw hln hok hk hf
  rw [HLN.out] at HSP
  generalize endsTo l n = E at *
  go_enter Tryz.func67, Tryz.ntmps67
  go_wp2_with (go_at_call 65; refine HC.out.mono ?_; rintro en w2 ⟨hcr, hn2⟩; have HN1 := Lib.hid hn2; obtain rfl := HX.out _ hcr; clear hn2 hcr)
  go_loopw [8, 9] (fun s8 s9 wr => ∃ i : Nat, i ≤ n ∧ s9 = .int .i64 i ∧ SegsV wr s8 (insAll (partsTo l E i)) ∧ New w2 wr) (fun _ i _ => n - (intOf i).toNat)
  case atStart => exact ⟨0, Nat.zero_le _, rfl, .inl ⟨rfl, rfl⟩, New.refl _⟩
  case round =>
    obtain ⟨i, hi, rfl, hv, hnw⟩ := hrel
    obtain ⟨W1, rfl⟩ : ∃ W1 : World, W1 = wr := ⟨_, rfl⟩
    have HV := Lib.hid hv
    have HNW := Lib.hid hnw
    have HS := Lib.hid (show Segs W1 b off n l from HW.out.new (HN1.out.trans hnw))
    clear hv hnw
    by_cases hin : i < n
    · obtain ⟨m, C, way⟩ := HWAY.out i hin
      have HY := Lib.hid way
      clear way
      obtain ⟨c1, c2, c3, c4⟩ := HS.out.2.2 i hin
      have hb1 : b < W1.heap.size := HS.out.2.1
      have HA := Lib.hid (show (lessB (q3 l i) (q4 l i) (q1 l i) (q2 l i) = true → ptAt C 0 = (q3 l i, q4 l i) ∧ ptAt C m = (q1 l i, q2 l i)) ∧ (lessB (q3 l i) (q4 l i) (q1 l i) (q2 l i) = false → ptAt C 0 = (q1 l i, q2 l i) ∧ ptAt C m = (q3 l i, q4 l i)) from ⟨HY.out.yes, HY.out.no⟩)
      have HL := Lib.hid (fun w1 => ref_less (q3 l i) (q4 l i) (q1 l i) (q2 l i) w1)
      generalize q1 l i = X1 at *
      generalize q2 l i = X2 at *
      generalize q3 l i = X3 at *
      generalize q4 l i = X4 at *
      generalize lessB X3 X4 X1 X2 = BK at *
      have hin' : (i : Int) < (n : Int) := by omega
      cases BK
      · obtain ⟨e0, em⟩ := HA.out.2 rfl
        have H0 := Lib.hid e0
        have HM := Lib.hid em
        clear e0 em
        go_wp2_with (go_at_call 116; go_must (refine (HL.out _).mono ?_; rintro en w3 ⟨rfl, hn3⟩; have d0 : w3.cell? ⟨W1.heap.size, 0, none⟩ = some (.int .i64 X1) := (hn3.below.cell (p := ⟨W1.heap.size, 0, none⟩) (by first | (simp; done) | (simp; omega))).trans (by simp [go_sem]); have d1 : w3.cell? ⟨W1.heap.size, 1, none⟩ = some (.int .i64 X2) := (hn3.below.cell (p := ⟨W1.heap.size, 1, none⟩) (by first | (simp; done) | (simp; omega))).trans (by simp [go_sem]); have e0 : w3.cell? ⟨W1.heap.size + 1, 0, none⟩ = some (.int .i64 X3) := (hn3.below.cell (p := ⟨W1.heap.size + 1, 0, none⟩) (by first | (simp; done) | (simp; omega))).trans (by simp [go_sem]); have e1 : w3.cell? ⟨W1.heap.size + 1, 1, none⟩ = some (.int .i64 X4) := (hn3.below.cell (p := ⟨W1.heap.size + 1, 1, none⟩) (by first | (simp; done) | (simp; omega))).trans (by simp [go_sem]); have d2 : w3.cell? ⟨W1.heap.size, 2, none⟩ = none := (hn3.below.cell (p := ⟨W1.heap.size, 2, none⟩) (by first | (simp; done) | (simp; omega))).trans (by simp [go_sem]); have e2 : w3.cell? ⟨W1.heap.size + 1, 2, none⟩ = none := (hn3.below.cell (p := ⟨W1.heap.size + 1, 2, none⟩) (by first | (simp; done) | (simp; omega))).trans (by simp [go_sem]); have f1 : ∀ o, w3.frozen? ⟨W1.heap.size, o, none⟩ = false := fun o => (hn3.below.frozen (p := ⟨W1.heap.size, o, none⟩) (by first | (simp; done) | (simp; omega))).trans (by simp [go_sem]); have f2 : ∀ o, w3.frozen? ⟨W1.heap.size + 1, o, none⟩ = false := fun o => (hn3.below.frozen (p := ⟨W1.heap.size + 1, o, none⟩) (by first | (simp; done) | (simp; omega))).trans (by simp [go_sem]); have HN3 := Lib.hid (show New W1 w3 from (((New.refl W1).alloc _).alloc _).trans hn3); have hs3 := cell_lt e1; clear hn3))
        have HPA := Lib.hid (show PtK w3 W1.heap.size (ptAt C 0) by rw [H0.out]; exact ⟨by omega, ⟨d0, d1⟩, f1, d2⟩)
        have HPB := Lib.hid (show PtK w3 (W1.heap.size + 1) (ptAt C m) by rw [HM.out]; exact ⟨by omega, ⟨e0, e1⟩, f2, e2⟩)
        have hal : W1.heap.size + 1 < w3.heap.size := by omega
        clear HL HA c1 c2 c3 c4 d0 d1 d2 e0 e1 e2 f1 f2
        go_loopg [8] m (fun gk s8 wx => ∃ j : Nat, j + gk = m ∧ SegsV wx s8 (insAll (wayTo l E i j)) ∧ PtK wx W1.heap.size (ptAt C j) ∧ PtK wx (W1.heap.size + 1) (ptAt C m) ∧ New W1 wx)
        case atStart => exact ⟨0, by omega, by rw [HY.out.start]; exact HV.out.new HN3.out, HPA.out, HPB.out, HN3.out⟩
        case round =>
          obtain ⟨wx, rfl⟩ : ∃ wx : World, wx = wr := ⟨_, rfl⟩
          obtain ⟨j, hj, hv2, hpa, hpb, hnx⟩ := hrel
          have HV2 := Lib.hid hv2
          have HPA2 := Lib.hid hpa
          have HPB2 := Lib.hid hpb
          have HNX := Lib.hid hnx
          clear hv2 hnx
          obtain ⟨ga, ⟨a1, a2⟩, fa, ea⟩ := hpa
          obtain ⟨gb, ⟨b1, b2⟩, fb, eb⟩ := hpb
          cases gk with
          | zero =>
            obtain rfl : j = m := by omega
            have HALL := Lib.hid HY.out.all
            generalize hA1 : (ptAt C j).1 = A1 at *
            generalize hA2 : (ptAt C j).2 = A2 at *
            obtain ⟨e, he, hr⟩ := neqS_bool A1 A2 A1 A2
            obtain rfl : e = true := by rw [he]; simp
            simp only [Bool.not_true] at hr
            clear he hj hA1 hA2
            go_wp2_with fail
            go_roundw
            case rel => exact ⟨i + 1, by omega, by go_num, by rw [← HALL.out]; exact HV2.out, HNW.out.trans HNX.out⟩
            case measure => simp [intOf]; omega
          | succ gk =>
            have hjm : j < m := by omega
            have HJ := Lib.hid hj
            have HVA := Lib.hid (HY.out.val j (by omega))
            have HVB := Lib.hid (HY.out.val m (Nat.le_refl _))
            have HNE := Lib.hid (HY.out.ne j hjm)
            have HST := Lib.hid (HY.out.step j hjm)
            have HNEXT := Lib.hid (HY.out.next j hjm)
            have HSM := Lib.hid (HY.out.small j (by omega))
            obtain ⟨e, he, hr⟩ := neqS_bool (ptAt C j).1 (ptAt C j).2 (ptAt C m).1 (ptAt C m).2
            obtain rfl : e = false := by
              rw [he]
              cases hb : ((ptAt C j).1 == (ptAt C m).1 && (ptAt C j).2 == (ptAt C m).2)
              · rfl
              · exfalso
                rw [Bool.and_eq_true, beq_iff_eq, beq_iff_eq] at hb
                exact HNE.out (Prod.ext hb.1 hb.2)
            simp only [Bool.not_false] at hr
            clear he hj
            have HNZ := Lib.hid (nextP_zero E (ptAt C j) (ptAt C m))
            generalize hPA : ptAt C j = PA at *
            generalize hPB : ptAt C m = PB at *
            clear hPA hPB
            obtain ⟨A1, A2⟩ := PA
            obtain ⟨B1, B2⟩ := PB
            simp only at a1 a2 b1 b2 hr
            go_upto_region 18 with fail
            have HG0 := Lib.hid (show PtK (wx.alloc (.cells #[.int .i64 B1, .int .i64 B2] 23)) wx.heap.size (B1, B2) from ⟨by simp, ⟨by simp [go_sem], by simp [go_sem]⟩, fun o => by simp [go_sem], by simp [go_sem]⟩)
            have HNG := Lib.hid (show New wx (wx.alloc (.cells #[.int .i64 B1, .int .i64 B2] 23)) from (New.refl _).alloc _)
            generalize wx.alloc (.cells #[.int .i64 B1, .int .i64 B2] 23) = W5 at *
            go_wp2_with fail
            go_loopg [14] n (fun gk s14 wy => ∃ k : Nat, k + gk = n ∧ s14 = .int .i64 k ∧ PtK wy wx.heap.size (nextP E (A1, A2) (B1, B2) (2 * k)) ∧ New wx wy)
            case atStart => exact ⟨0, by omega, rfl, by rw [Nat.mul_zero, HNZ.out]; exact HG0.out, HNG.out⟩
            case round =>
              obtain ⟨wy, rfl⟩ : ∃ wy : World, wy = wr := ⟨_, rfl⟩
              obtain ⟨k, hk, rfl, hpg, hny⟩ := hrel
              have HNY := Lib.hid hny
              have HPG := Lib.hid hpg
              have gy := hny.size
              have a1y := (hny.below.cell (p := ⟨W1.heap.size, 0, none⟩) ga).trans a1
              have a2y := (hny.below.cell (p := ⟨W1.heap.size, 1, none⟩) ga).trans a2
              have b1y := (hny.below.cell (p := ⟨W1.heap.size + 1, 0, none⟩) gb).trans b1
              have b2y := (hny.below.cell (p := ⟨W1.heap.size + 1, 1, none⟩) gb).trans b2
              have fay := fun o => (hny.below.frozen (p := ⟨W1.heap.size, o, none⟩) ga).trans (fa o)
              have eay := (hny.below.cell (p := ⟨W1.heap.size, 2, none⟩) ga).trans ea
              have gay : W1.heap.size < wy.heap.size := by omega
              clear hny
              obtain ⟨gg, ⟨g1, g2⟩, fg, eg⟩ := hpg
              cases gk with
              | zero =>
                have hkn' : ¬ ((k : Int) < (n : Int)) := by omega
                have HQ := Lib.hid (show nextP E (A1, A2) (B1, B2) (2 * k) = ptAt C (j + 1) by rw [← HNEXT.out, HEL.out]; congr 1; omega)
                rw [HQ.out] at g1 g2
                have HQV := Lib.hid (show insAll (wayTo l E i (j + 1)) = insS (insAll (wayTo l E i j)) (A1, A2, (ptAt C (j + 1)).1, (ptAt C (j + 1)).2) from HST.out)
                have HPQ := Lib.hid (show ptAt C (j + 1) = ((ptAt C (j + 1)).1, (ptAt C (j + 1)).2) from rfl)
                generalize hq1 : (ptAt C (j + 1)).1 = Q1 at *
                generalize hq2 : (ptAt C (j + 1)).2 = Q2 at *
                have HINS := Lib.hid (fun (w1 : World) (h1 : New wx w1) => insert_c _ (insAll (wayTo l E i j)) (A1, A2, Q1, Q2) w1 HSM.out (HV2.out.new h1))
                clear hk hq1 hq2
                go_wp2_with (go_at_call 142; go_must (refine (HINS.out _ (by (repeat (first | exact HNY.out | exact New.refl _ | apply New.alloc | apply New.aft | apply New.drew | refine New.setCell ?_ ?_ _)); all_goals (first | done | (simp [size_aft]; done) | (simp [size_aft]; omega)))).mono ?_; rintro en w6 ⟨v', rfl, hv6, hn6⟩; have q1 : w6.cell? ⟨wx.heap.size, 0, none⟩ = some (.int .i64 Q1) := (hn6.below.cell (p := ⟨wx.heap.size, 0, none⟩) (by first | assumption | omega | (simp; done) | (simp; omega))).trans (by first | assumption | (simp [go_sem]; done) | (simp [go_sem, *])); have q2 : w6.cell? ⟨wx.heap.size, 1, none⟩ = some (.int .i64 Q2) := (hn6.below.cell (p := ⟨wx.heap.size, 1, none⟩) (by first | assumption | omega | (simp; done) | (simp; omega))).trans (by first | assumption | (simp [go_sem]; done) | (simp [go_sem, *])); have x1 : w6.cell? ⟨W1.heap.size, 0, none⟩ = some (.int .i64 A1) := (hn6.below.cell (p := ⟨W1.heap.size, 0, none⟩) (by first | assumption | omega | (simp; done) | (simp; omega))).trans (by first | assumption | (simp [go_sem]; done) | (simp [go_sem, *])); have x2 : w6.cell? ⟨W1.heap.size, 1, none⟩ = some (.int .i64 A2) := (hn6.below.cell (p := ⟨W1.heap.size, 1, none⟩) (by first | assumption | omega | (simp; done) | (simp; omega))).trans (by first | assumption | (simp [go_sem]; done) | (simp [go_sem, *])); have e6 : w6.cell? ⟨W1.heap.size, 2, none⟩ = none := (hn6.below.cell (p := ⟨W1.heap.size, 2, none⟩) (by first | assumption | omega | (simp; done) | (simp; omega))).trans (by first | assumption | (simp [go_sem]; done) | (simp [go_sem, *])); have f6 : ∀ o, w6.frozen? ⟨W1.heap.size, o, none⟩ = false := fun o => (hn6.below.frozen (p := ⟨W1.heap.size, o, none⟩) (by first | assumption | omega | (simp; done) | (simp; omega))).trans (by first | exact fay o | (simp [go_sem, fay])); have hs6 := hn6.size; have HV6 := Lib.hid hv6; have HN6 := Lib.hid hn6; clear hn6 hv6))
                go_roundg gk
                case rel => exact ⟨j + 1, by have := HJ.out; omega, by rw [HQV.out]; exact (HV6.out.set e6 0 _).set (set_two e6 (by omega)) 1 _, by rw [HPQ.out]; exact PtK.put (q := (Q1, Q2)) (p := (A1, A2)) ⟨by omega, ⟨x1, x2⟩, f6, e6⟩, ((HPB2.out.new (HNY.out.trans HN6.out)).set (by omega) 0 _).set (by omega) 1 _, ((HNX.out.trans (HNY.out.trans HN6.out)).setCell (by simp) _).setCell (by simp) _⟩
                case measure => omega
              | succ gk =>
                have hkn : k < n := by omega
                have HK := Lib.hid hk
                obtain ⟨p1, p2⟩ := HEA.out k hkn
                have HSY := Lib.hid (show Segs wy b off n l from HS.out.new (HNX.out.trans HNY.out))
                obtain ⟨c1, c2, c3, c4⟩ := HSY.out.2.2 k hkn
                have hby : b < wy.heap.size := HSY.out.2.1
                have HP1 := Lib.hid p1
                have HP2 := Lib.hid p2
                have HV1 := Lib.hid (HEV.out (2 * k) (by omega))
                have HV2' := Lib.hid (HEV.out (2 * k + 1) (by omega))
                clear p1 p2 hk
                generalize hx1 : q1 l k = Y1 at *
                generalize hx2 : q2 l k = Y2 at *
                generalize hx3 : q3 l k = Y3 at *
                generalize hx4 : q4 l k = Y4 at *
                clear hx1 hx2 hx3 hx4
                have hkn2 : (k : Int) < (n : Int) := by omega
                go_upto_region 21 with fail
                go_cut [80, 81, 82] (fun s80 s81 s82 wz => (∃ g cp : Nat, s80 = .slice (some ⟨g, 0, none⟩) 2 cp ∧ TwoP wz g (fun t => ptAt E (2 * k + t))) ∧ s81 = .int .i64 2 ∧ s82 = .int .i64 0 ∧ New wy wz)
                case first =>
                  clear a1 a2 b1 b2 fa ea fb eb ga gb a1y a2y b1y b2y fay eay gay gg g1 g2 fg eg hr hjm hal gy
                  go_region_held3 (fun w' => w'.cell? ⟨b, off + k * 4, none⟩ = some (.int .i64 Y1) ∧ w'.cell? ⟨b, off + k * 4 + 1, none⟩ = some (.int .i64 Y2) ∧ w'.cell? ⟨b, off + k * 4 + 2, none⟩ = some (.int .i64 Y3) ∧ w'.cell? ⟨b, off + k * 4 + 3, none⟩ = some (.int .i64 Y4)) (first | exact ⟨c1, c2, c3, c4⟩ | (simp [go_sem, c1, c2, c3, c4, hby]; done) | (go_keep; done)) (first | fail)
                  all_goals (go_wp2_with fail; go_meet)
                  all_goals exact ⟨⟨_, _, rfl, by simp, fun t ht => by
                    have : t = 0 ∨ t = 1 := by omega
                    rcases this with rfl | rfl
                    · simp only [Nat.add_zero, HP1.out]; simp [go_sem]
                    · simp only [HP2.out]; simp [go_sem]⟩, rfl, rfl, (by (repeat (first | exact New.refl _ | apply New.alloc | apply New.aft | apply New.drew | refine New.setCell ?_ ?_ _)); all_goals (first | done | (simp [size_aft]; done) | (simp [size_aft]; omega)))⟩
                case rest =>
                  obtain ⟨⟨g, cp, rfl, htw⟩, rfl, rfl, hnz⟩ := hcut
                  obtain ⟨W8, rfl⟩ : ∃ W8 : World, W8 = wc := ⟨_, rfl⟩
                  have HTW := Lib.hid htw
                  have HNZ8 := Lib.hid hnz
                  clear htw hnz c1 c2 c3 c4 a1y a2y b1y b2y fay eay g1 g2 fg eg
                  go_wp2_with fail
                  go_loopg [82] 2 (fun gk s82 wv => ∃ t : Nat, t + gk = 2 ∧ s82 = .int .i64 t ∧ TwoP wv g (fun t => ptAt E (2 * k + t)) ∧ PtK wv wx.heap.size (nextP E (A1, A2) (B1, B2) (2 * k + t)) ∧ New wx wv)
                  case atStart => exact ⟨0, rfl, rfl, HTW.out, HPG.out.new HNZ8.out, HNY.out.trans HNZ8.out⟩
                  case round =>
                    obtain ⟨wv, rfl⟩ : ∃ wv : World, wv = wr := ⟨_, rfl⟩
                    obtain ⟨t, ht, rfl, htv, hpv, hnv⟩ := hrel
                    have HTV := Lib.hid htv
                    have HPV := Lib.hid hpv
                    have HNV := Lib.hid hnv
                    have gv := hnv.size
                    clear hnv htv
                    cases gk with
                    | zero =>
                      obtain rfl : t = 2 := by omega
                      clear ht hpv
                      go_wp2_with fail
                      go_roundg gk
                      case rel => exact ⟨k + 1, by have := HK.out; omega, by go_num, by rw [show 2 * (k + 1) = 2 * k + 2 by omega]; exact HPV.out, HNV.out⟩
                      case measure => omega
                    | succ gl =>
                      have ht2 : t < 2 := by omega
                      have HTT := Lib.hid ht
                      obtain ⟨t1, t2⟩ := HTV.out.2 t ht2
                      have hgb : g < wv.heap.size := HTV.out.1
                      have HPP := Lib.hid (HEV.out (2 * k + t) (by omega))
                      have HNS := Lib.hid (nextP_succ (E := E) (A1, A2) (B1, B2) (k := 2 * k + t) (by rw [HEL.out]; omega))
                      have htz : (t : Int) < 2 := by omega
                      simp only at t1 t2
                      generalize ptAt E (2 * k + t) = P at *
                      generalize nextP E (A1, A2) (B1, B2) (2 * k + t) = NX at *
                      obtain ⟨P1, P2⟩ := P
                      obtain ⟨N1, N2⟩ := NX
                      simp only at t1 t2
                      obtain ⟨gg2, ⟨g1, g2⟩, fg, eg⟩ := hpv
                      simp only at g1 g2
                      have a1y := (HNV.out.below.cell (p := ⟨W1.heap.size, 0, none⟩) ga).trans a1
                      have a2y := (HNV.out.below.cell (p := ⟨W1.heap.size, 1, none⟩) ga).trans a2
                      have b1y := (HNV.out.below.cell (p := ⟨W1.heap.size + 1, 0, none⟩) gb).trans b1
                      have b2y := (HNV.out.below.cell (p := ⟨W1.heap.size + 1, 1, none⟩) gb).trans b2
                      have gav : W1.heap.size < wv.heap.size := by omega
                      have gbv : W1.heap.size + 1 < wv.heap.size := by omega
                      have HI := Lib.hid (fun w1 => inside_c P1 P2 A1 A2 B1 B2 w1 (by have := HPP.out; unfold valid at this; simp only at this; omega) (by have := HPP.out; unfold valid at this; simp only at this; omega) (by have := HVA.out; unfold valid at this; simp only at this; omega) (by have := HVA.out; unfold valid at this; simp only at this; omega) (by have := HVB.out; unfold valid at this; simp only at this; omega) (by have := HVB.out; unfold valid at this; simp only at this; omega))
                      have HLS := Lib.hid (fun w1 => ref_less P1 P2 N1 N2 w1)
                      unfold nextStep at HNS
                      have HNS' := Lib.hid (show nextP E (A1, A2) (B1, B2) (2 * k + t + 1) = if insR (P1, P2) (A1, A2) (B1, B2) && lessB P1 P2 N1 N2 then (P1, P2) else (N1, N2) from HNS.out)
                      clear HNS ht
                      generalize insR (P1, P2) (A1, A2) (B1, B2) = IN at *
                      generalize lessB P1 P2 N1 N2 = LS at *
                      cases IN
                      · have HNN := Lib.hid (show nextP E (A1, A2) (B1, B2) (2 * k + t + 1) = (N1, N2) by rw [HNS'.out]; rfl)
                        go_wp2_with (first | (go_at_call 141; with_reducible refine (HI.out _).mono ?_; go_must (rintro en w6 ⟨rfl, hn6⟩; have x0 : w6.cell? ⟨wv.heap.size, 0, none⟩ = some (.int .i64 P1) := (hn6.below.cell (p := ⟨wv.heap.size, 0, none⟩) (by simp)).trans (by simp [go_sem]); have x1 : w6.cell? ⟨wv.heap.size, 1, none⟩ = some (.int .i64 P2) := (hn6.below.cell (p := ⟨wv.heap.size, 1, none⟩) (by simp)).trans (by simp [go_sem]); have hN6 : New wv w6 := ((New.refl wv).alloc _).trans hn6; have x4 := (hN6.cell (o := 0) gg2).trans g1; have x5 := (hN6.cell (o := 1) gg2).trans g2; have x3 := (hN6.cell (o := 2) gg2).trans eg; have xf := fun o => (hN6.below.frozen (p := ⟨wx.heap.size, o, none⟩) gg2).trans (fg o); have HN6 := Lib.hid hN6; have hl0x := cell_lt x0; have hl4x := cell_lt x4; clear hn6 hN6)) | (go_at_call 116; with_reducible refine (HLS.out _).mono ?_; go_must (rintro en w7 ⟨rfl, hn7⟩; have y0 := (hn7.below.cell (p := ⟨wv.heap.size, 0, none⟩) hl0x).trans x0; have y1 := (hn7.below.cell (p := ⟨wv.heap.size, 1, none⟩) hl0x).trans x1; have y4 := (hn7.below.cell (p := ⟨wx.heap.size, 0, none⟩) hl4x).trans x4; have y5 := (hn7.below.cell (p := ⟨wx.heap.size, 1, none⟩) hl4x).trans x5; have y3 := (hn7.below.cell (p := ⟨wx.heap.size, 2, none⟩) hl4x).trans x3; have yf := fun o => (hn7.below.frozen (p := ⟨wx.heap.size, o, none⟩) hl4x).trans (xf o); have hl0y := cell_lt y0; have hl4y := cell_lt y4; have HNW := Lib.hid (show New wv w7 from HN6.out.trans hn7); clear hn7)))
                        go_roundg gl
                        case rel => exact ⟨t + 1, by have := HTT.out; omega, by go_num, HTV.out.new HNW.out, by rw [← Nat.add_assoc, HNN.out]; exact HPV.out.new HNW.out, HNV.out.trans HNW.out⟩
                        case measure => omega
                      · cases LS
                        · have HNN := Lib.hid (show nextP E (A1, A2) (B1, B2) (2 * k + t + 1) = (N1, N2) by rw [HNS'.out]; rfl)
                          go_wp2_with (first | (go_at_call 141; with_reducible refine (HI.out _).mono ?_; go_must (rintro en w6 ⟨rfl, hn6⟩; have x0 : w6.cell? ⟨wv.heap.size, 0, none⟩ = some (.int .i64 P1) := (hn6.below.cell (p := ⟨wv.heap.size, 0, none⟩) (by simp)).trans (by simp [go_sem]); have x1 : w6.cell? ⟨wv.heap.size, 1, none⟩ = some (.int .i64 P2) := (hn6.below.cell (p := ⟨wv.heap.size, 1, none⟩) (by simp)).trans (by simp [go_sem]); have hN6 : New wv w6 := ((New.refl wv).alloc _).trans hn6; have x4 := (hN6.cell (o := 0) gg2).trans g1; have x5 := (hN6.cell (o := 1) gg2).trans g2; have x3 := (hN6.cell (o := 2) gg2).trans eg; have xf := fun o => (hN6.below.frozen (p := ⟨wx.heap.size, o, none⟩) gg2).trans (fg o); have HN6 := Lib.hid hN6; have hl0x := cell_lt x0; have hl4x := cell_lt x4; clear hn6 hN6)) | (go_at_call 116; with_reducible refine (HLS.out _).mono ?_; go_must (rintro en w7 ⟨rfl, hn7⟩; have y0 := (hn7.below.cell (p := ⟨wv.heap.size, 0, none⟩) hl0x).trans x0; have y1 := (hn7.below.cell (p := ⟨wv.heap.size, 1, none⟩) hl0x).trans x1; have y4 := (hn7.below.cell (p := ⟨wx.heap.size, 0, none⟩) hl4x).trans x4; have y5 := (hn7.below.cell (p := ⟨wx.heap.size, 1, none⟩) hl4x).trans x5; have y3 := (hn7.below.cell (p := ⟨wx.heap.size, 2, none⟩) hl4x).trans x3; have yf := fun o => (hn7.below.frozen (p := ⟨wx.heap.size, o, none⟩) hl4x).trans (xf o); have hl0y := cell_lt y0; have hl4y := cell_lt y4; have HNW := Lib.hid (show New wv w7 from HN6.out.trans hn7); clear hn7)))
                          go_roundg gl
                          case rel => exact ⟨t + 1, by have := HTT.out; omega, by go_num, HTV.out.new HNW.out, by rw [← Nat.add_assoc, HNN.out]; exact HPV.out.new HNW.out, HNV.out.trans HNW.out⟩
                          case measure => omega
                        · have HNN := Lib.hid (show nextP E (A1, A2) (B1, B2) (2 * k + t + 1) = (P1, P2) by rw [HNS'.out]; rfl)
                          go_wp2_with (first | (go_at_call 141; with_reducible refine (HI.out _).mono ?_; go_must (rintro en w6 ⟨rfl, hn6⟩; have x0 : w6.cell? ⟨wv.heap.size, 0, none⟩ = some (.int .i64 P1) := (hn6.below.cell (p := ⟨wv.heap.size, 0, none⟩) (by simp)).trans (by simp [go_sem]); have x1 : w6.cell? ⟨wv.heap.size, 1, none⟩ = some (.int .i64 P2) := (hn6.below.cell (p := ⟨wv.heap.size, 1, none⟩) (by simp)).trans (by simp [go_sem]); have hN6 : New wv w6 := ((New.refl wv).alloc _).trans hn6; have x4 := (hN6.cell (o := 0) gg2).trans g1; have x5 := (hN6.cell (o := 1) gg2).trans g2; have x3 := (hN6.cell (o := 2) gg2).trans eg; have xf := fun o => (hN6.below.frozen (p := ⟨wx.heap.size, o, none⟩) gg2).trans (fg o); have HN6 := Lib.hid hN6; have hl0x := cell_lt x0; have hl4x := cell_lt x4; clear hn6 hN6)) | (go_at_call 116; with_reducible refine (HLS.out _).mono ?_; go_must (rintro en w7 ⟨rfl, hn7⟩; have y0 := (hn7.below.cell (p := ⟨wv.heap.size, 0, none⟩) hl0x).trans x0; have y1 := (hn7.below.cell (p := ⟨wv.heap.size, 1, none⟩) hl0x).trans x1; have y4 := (hn7.below.cell (p := ⟨wx.heap.size, 0, none⟩) hl4x).trans x4; have y5 := (hn7.below.cell (p := ⟨wx.heap.size, 1, none⟩) hl4x).trans x5; have y3 := (hn7.below.cell (p := ⟨wx.heap.size, 2, none⟩) hl4x).trans x3; have yf := fun o => (hn7.below.frozen (p := ⟨wx.heap.size, o, none⟩) hl4x).trans (xf o); have hl0y := cell_lt y0; have hl4y := cell_lt y4; have HNW := Lib.hid (show New wv w7 from HN6.out.trans hn7); clear hn7)))
                          go_roundg gl
                          case rel => exact ⟨t + 1, by have := HTT.out; omega, by go_num, ((HTV.out.new HNW.out).set y3 0 _).set (set_two y3 (by omega)) 1 _, by rw [← Nat.add_assoc, HNN.out]; exact PtK.put (q := (P1, P2)) (p := (N1, N2)) ⟨by omega, ⟨y4, y5⟩, yf, y3⟩, ((HNV.out.trans HNW.out).setCell (by simp) _).setCell (by simp) _⟩
                          case measure => omega
      · obtain ⟨e0, em⟩ := HA.out.1 rfl
        have H0 := Lib.hid e0
        have HM := Lib.hid em
        clear e0 em
        go_wp2_with (go_at_call 116; go_must (refine (HL.out _).mono ?_; rintro en w3 ⟨rfl, hn3⟩; have d0 : w3.cell? ⟨W1.heap.size, 0, none⟩ = some (.int .i64 X1) := (hn3.below.cell (p := ⟨W1.heap.size, 0, none⟩) (by first | (simp; done) | (simp; omega))).trans (by simp [go_sem]); have d1 : w3.cell? ⟨W1.heap.size, 1, none⟩ = some (.int .i64 X2) := (hn3.below.cell (p := ⟨W1.heap.size, 1, none⟩) (by first | (simp; done) | (simp; omega))).trans (by simp [go_sem]); have e0 : w3.cell? ⟨W1.heap.size + 1, 0, none⟩ = some (.int .i64 X3) := (hn3.below.cell (p := ⟨W1.heap.size + 1, 0, none⟩) (by first | (simp; done) | (simp; omega))).trans (by simp [go_sem]); have e1 : w3.cell? ⟨W1.heap.size + 1, 1, none⟩ = some (.int .i64 X4) := (hn3.below.cell (p := ⟨W1.heap.size + 1, 1, none⟩) (by first | (simp; done) | (simp; omega))).trans (by simp [go_sem]); have d2 : w3.cell? ⟨W1.heap.size, 2, none⟩ = none := (hn3.below.cell (p := ⟨W1.heap.size, 2, none⟩) (by first | (simp; done) | (simp; omega))).trans (by simp [go_sem]); have e2 : w3.cell? ⟨W1.heap.size + 1, 2, none⟩ = none := (hn3.below.cell (p := ⟨W1.heap.size + 1, 2, none⟩) (by first | (simp; done) | (simp; omega))).trans (by simp [go_sem]); have f1 : ∀ o, w3.frozen? ⟨W1.heap.size, o, none⟩ = false := fun o => (hn3.below.frozen (p := ⟨W1.heap.size, o, none⟩) (by first | (simp; done) | (simp; omega))).trans (by simp [go_sem]); have f2 : ∀ o, w3.frozen? ⟨W1.heap.size + 1, o, none⟩ = false := fun o => (hn3.below.frozen (p := ⟨W1.heap.size + 1, o, none⟩) (by first | (simp; done) | (simp; omega))).trans (by simp [go_sem]); have HN3 := Lib.hid (show New W1 w3 from (((New.refl W1).alloc _).alloc _).trans hn3); have hs3 := cell_lt e1; have l1 := (HN3.out.below.cell (p := ⟨b, off + i * 4, none⟩) hb1).trans c1; have l2 := (HN3.out.below.cell (p := ⟨b, off + i * 4 + 1, none⟩) hb1).trans c2; have l3 := (HN3.out.below.cell (p := ⟨b, off + i * 4 + 2, none⟩) hb1).trans c3; have l4 := (HN3.out.below.cell (p := ⟨b, off + i * 4 + 3, none⟩) hb1).trans c4; clear hn3))
        have hpa : PtK w3 W1.heap.size (X1, X2) := ⟨by omega, ⟨d0, d1⟩, f1, d2⟩
        have hpb : PtK w3 (W1.heap.size + 1) (X3, X4) := ⟨by omega, ⟨e0, e1⟩, f2, e2⟩
        have hpb2 := (hpb.set (H := W1.heap.size) (by omega) 0 (.int .i64 X3)).set (H := W1.heap.size) (by omega) 1 (.int .i64 X4)
        have hv4 := (((((HV.out.new HN3.out).set d2 0 (.int .i64 X3)).set (set_two d2 (by omega)) 1 (.int .i64 X4)).set hpb2.2.2.2 0 (.int .i64 X1)).set (set_two hpb2.2.2.2 (by omega)) 1 (.int .i64 X2))
        have HV4 := Lib.hid hv4
        have HPA4 := Lib.hid (show PtK ((((w3.setCell ⟨W1.heap.size, 0, none⟩ (.int .i64 X3)).setCell ⟨W1.heap.size, 1, none⟩ (.int .i64 X4)).setCell ⟨W1.heap.size + 1, 0, none⟩ (.int .i64 X1)).setCell ⟨W1.heap.size + 1, 1, none⟩ (.int .i64 X2)) W1.heap.size (ptAt C 0) by rw [H0.out]; exact ((hpa.put (q := (X3, X4))).set (by omega) 0 _).set (by omega) 1 _)
        have HPB4 := Lib.hid (show PtK ((((w3.setCell ⟨W1.heap.size, 0, none⟩ (.int .i64 X3)).setCell ⟨W1.heap.size, 1, none⟩ (.int .i64 X4)).setCell ⟨W1.heap.size + 1, 0, none⟩ (.int .i64 X1)).setCell ⟨W1.heap.size + 1, 1, none⟩ (.int .i64 X2)) (W1.heap.size + 1) (ptAt C m) by rw [HM.out]; exact PtK.put (q := (X1, X2)) (p := (X3, X4)) hpb2)
        have HN4 := Lib.hid ((((HN3.out.setCell (p := ⟨W1.heap.size, 0, none⟩) (Nat.le_refl _) (.int .i64 X3)).setCell (p := ⟨W1.heap.size, 1, none⟩) (Nat.le_refl _) (.int .i64 X4)).setCell (p := ⟨W1.heap.size + 1, 0, none⟩) (Nat.le_succ _) (.int .i64 X1)).setCell (p := ⟨W1.heap.size + 1, 1, none⟩) (Nat.le_succ _) (.int .i64 X2))
        have hal : W1.heap.size + 1 < w3.heap.size := by omega
        clear hpa hpb hpb2 hv4 HL HA c1 c2 c3 c4 d0 d1 d2 e0 e1 e2 f1 f2 l1 l2 l3 l4
        go_loopg [8] m (fun gk s8 wx => ∃ j : Nat, j + gk = m ∧ SegsV wx s8 (insAll (wayTo l E i j)) ∧ PtK wx W1.heap.size (ptAt C j) ∧ PtK wx (W1.heap.size + 1) (ptAt C m) ∧ New W1 wx)
        case atStart => exact ⟨0, by omega, by rw [HY.out.start]; exact HV4.out, HPA4.out, HPB4.out, HN4.out⟩
        case round =>
          obtain ⟨wx, rfl⟩ : ∃ wx : World, wx = wr := ⟨_, rfl⟩
          obtain ⟨j, hj, hv2, hpa, hpb, hnx⟩ := hrel
          have HV2 := Lib.hid hv2
          have HPA2 := Lib.hid hpa
          have HPB2 := Lib.hid hpb
          have HNX := Lib.hid hnx
          clear hv2 hnx
          obtain ⟨ga, ⟨a1, a2⟩, fa, ea⟩ := hpa
          obtain ⟨gb, ⟨b1, b2⟩, fb, eb⟩ := hpb
          cases gk with
          | zero =>
            obtain rfl : j = m := by omega
            have HALL := Lib.hid HY.out.all
            generalize hA1 : (ptAt C j).1 = A1 at *
            generalize hA2 : (ptAt C j).2 = A2 at *
            obtain ⟨e, he, hr⟩ := neqS_bool A1 A2 A1 A2
            obtain rfl : e = true := by rw [he]; simp
            simp only [Bool.not_true] at hr
            clear he hj hA1 hA2
            go_wp2_with fail
            go_roundw
            case rel => exact ⟨i + 1, by omega, by go_num, by rw [← HALL.out]; exact HV2.out, HNW.out.trans HNX.out⟩
            case measure => simp [intOf]; omega
          | succ gk =>
            have hjm : j < m := by omega
            have HJ := Lib.hid hj
            have HVA := Lib.hid (HY.out.val j (by omega))
            have HVB := Lib.hid (HY.out.val m (Nat.le_refl _))
            have HNE := Lib.hid (HY.out.ne j hjm)
            have HST := Lib.hid (HY.out.step j hjm)
            have HNEXT := Lib.hid (HY.out.next j hjm)
            have HSM := Lib.hid (HY.out.small j (by omega))
            obtain ⟨e, he, hr⟩ := neqS_bool (ptAt C j).1 (ptAt C j).2 (ptAt C m).1 (ptAt C m).2
            obtain rfl : e = false := by
              rw [he]
              cases hb : ((ptAt C j).1 == (ptAt C m).1 && (ptAt C j).2 == (ptAt C m).2)
              · rfl
              · exfalso
                rw [Bool.and_eq_true, beq_iff_eq, beq_iff_eq] at hb
                exact HNE.out (Prod.ext hb.1 hb.2)
            simp only [Bool.not_false] at hr
            clear he hj
            have HNZ := Lib.hid (nextP_zero E (ptAt C j) (ptAt C m))
            generalize hPA : ptAt C j = PA at *
            generalize hPB : ptAt C m = PB at *
            clear hPA hPB
            obtain ⟨A1, A2⟩ := PA
            obtain ⟨B1, B2⟩ := PB
            simp only at a1 a2 b1 b2 hr
            go_upto_region 18 with fail
            have HG0 := Lib.hid (show PtK (wx.alloc (.cells #[.int .i64 B1, .int .i64 B2] 23)) wx.heap.size (B1, B2) from ⟨by simp, ⟨by simp [go_sem], by simp [go_sem]⟩, fun o => by simp [go_sem], by simp [go_sem]⟩)
            have HNG := Lib.hid (show New wx (wx.alloc (.cells #[.int .i64 B1, .int .i64 B2] 23)) from (New.refl _).alloc _)
            generalize wx.alloc (.cells #[.int .i64 B1, .int .i64 B2] 23) = W5 at *
            go_wp2_with fail
            go_loopg [14] n (fun gk s14 wy => ∃ k : Nat, k + gk = n ∧ s14 = .int .i64 k ∧ PtK wy wx.heap.size (nextP E (A1, A2) (B1, B2) (2 * k)) ∧ New wx wy)
            case atStart => exact ⟨0, by omega, rfl, by rw [Nat.mul_zero, HNZ.out]; exact HG0.out, HNG.out⟩
            case round =>
              obtain ⟨wy, rfl⟩ : ∃ wy : World, wy = wr := ⟨_, rfl⟩
              obtain ⟨k, hk, rfl, hpg, hny⟩ := hrel
              have HNY := Lib.hid hny
              have HPG := Lib.hid hpg
              have gy := hny.size
              have a1y := (hny.below.cell (p := ⟨W1.heap.size, 0, none⟩) ga).trans a1
              have a2y := (hny.below.cell (p := ⟨W1.heap.size, 1, none⟩) ga).trans a2
              have b1y := (hny.below.cell (p := ⟨W1.heap.size + 1, 0, none⟩) gb).trans b1
              have b2y := (hny.below.cell (p := ⟨W1.heap.size + 1, 1, none⟩) gb).trans b2
              have fay := fun o => (hny.below.frozen (p := ⟨W1.heap.size, o, none⟩) ga).trans (fa o)
              have eay := (hny.below.cell (p := ⟨W1.heap.size, 2, none⟩) ga).trans ea
              have gay : W1.heap.size < wy.heap.size := by omega
              clear hny
              obtain ⟨gg, ⟨g1, g2⟩, fg, eg⟩ := hpg
              cases gk with
              | zero =>
                have hkn' : ¬ ((k : Int) < (n : Int)) := by omega
                have HQ := Lib.hid (show nextP E (A1, A2) (B1, B2) (2 * k) = ptAt C (j + 1) by rw [← HNEXT.out, HEL.out]; congr 1; omega)
                rw [HQ.out] at g1 g2
                have HQV := Lib.hid (show insAll (wayTo l E i (j + 1)) = insS (insAll (wayTo l E i j)) (A1, A2, (ptAt C (j + 1)).1, (ptAt C (j + 1)).2) from HST.out)
                have HPQ := Lib.hid (show ptAt C (j + 1) = ((ptAt C (j + 1)).1, (ptAt C (j + 1)).2) from rfl)
                generalize hq1 : (ptAt C (j + 1)).1 = Q1 at *
                generalize hq2 : (ptAt C (j + 1)).2 = Q2 at *
                have HINS := Lib.hid (fun (w1 : World) (h1 : New wx w1) => insert_c _ (insAll (wayTo l E i j)) (A1, A2, Q1, Q2) w1 HSM.out (HV2.out.new h1))
                clear hk hq1 hq2
                go_wp2_with (go_at_call 142; go_must (refine (HINS.out _ (by (repeat (first | exact HNY.out | exact New.refl _ | apply New.alloc | apply New.aft | apply New.drew | refine New.setCell ?_ ?_ _)); all_goals (first | done | (simp [size_aft]; done) | (simp [size_aft]; omega)))).mono ?_; rintro en w6 ⟨v', rfl, hv6, hn6⟩; have q1 : w6.cell? ⟨wx.heap.size, 0, none⟩ = some (.int .i64 Q1) := (hn6.below.cell (p := ⟨wx.heap.size, 0, none⟩) (by first | assumption | omega | (simp; done) | (simp; omega))).trans (by first | assumption | (simp [go_sem]; done) | (simp [go_sem, *])); have q2 : w6.cell? ⟨wx.heap.size, 1, none⟩ = some (.int .i64 Q2) := (hn6.below.cell (p := ⟨wx.heap.size, 1, none⟩) (by first | assumption | omega | (simp; done) | (simp; omega))).trans (by first | assumption | (simp [go_sem]; done) | (simp [go_sem, *])); have x1 : w6.cell? ⟨W1.heap.size, 0, none⟩ = some (.int .i64 A1) := (hn6.below.cell (p := ⟨W1.heap.size, 0, none⟩) (by first | assumption | omega | (simp; done) | (simp; omega))).trans (by first | assumption | (simp [go_sem]; done) | (simp [go_sem, *])); have x2 : w6.cell? ⟨W1.heap.size, 1, none⟩ = some (.int .i64 A2) := (hn6.below.cell (p := ⟨W1.heap.size, 1, none⟩) (by first | assumption | omega | (simp; done) | (simp; omega))).trans (by first | assumption | (simp [go_sem]; done) | (simp [go_sem, *])); have e6 : w6.cell? ⟨W1.heap.size, 2, none⟩ = none := (hn6.below.cell (p := ⟨W1.heap.size, 2, none⟩) (by first | assumption | omega | (simp; done) | (simp; omega))).trans (by first | assumption | (simp [go_sem]; done) | (simp [go_sem, *])); have f6 : ∀ o, w6.frozen? ⟨W1.heap.size, o, none⟩ = false := fun o => (hn6.below.frozen (p := ⟨W1.heap.size, o, none⟩) (by first | assumption | omega | (simp; done) | (simp; omega))).trans (by first | exact fay o | (simp [go_sem, fay])); have hs6 := hn6.size; have HV6 := Lib.hid hv6; have HN6 := Lib.hid hn6; clear hn6 hv6))
                go_roundg gk
                case rel => exact ⟨j + 1, by have := HJ.out; omega, by rw [HQV.out]; exact (HV6.out.set e6 0 _).set (set_two e6 (by omega)) 1 _, by rw [HPQ.out]; exact PtK.put (q := (Q1, Q2)) (p := (A1, A2)) ⟨by omega, ⟨x1, x2⟩, f6, e6⟩, ((HPB2.out.new (HNY.out.trans HN6.out)).set (by omega) 0 _).set (by omega) 1 _, ((HNX.out.trans (HNY.out.trans HN6.out)).setCell (by simp) _).setCell (by simp) _⟩
                case measure => omega
              | succ gk =>
                have hkn : k < n := by omega
                have HK := Lib.hid hk
                obtain ⟨p1, p2⟩ := HEA.out k hkn
                have HSY := Lib.hid (show Segs wy b off n l from HS.out.new (HNX.out.trans HNY.out))
                obtain ⟨c1, c2, c3, c4⟩ := HSY.out.2.2 k hkn
                have hby : b < wy.heap.size := HSY.out.2.1
                have HP1 := Lib.hid p1
                have HP2 := Lib.hid p2
                have HV1 := Lib.hid (HEV.out (2 * k) (by omega))
                have HV2' := Lib.hid (HEV.out (2 * k + 1) (by omega))
                clear p1 p2 hk
                generalize hx1 : q1 l k = Y1 at *
                generalize hx2 : q2 l k = Y2 at *
                generalize hx3 : q3 l k = Y3 at *
                generalize hx4 : q4 l k = Y4 at *
                clear hx1 hx2 hx3 hx4
                have hkn2 : (k : Int) < (n : Int) := by omega
                go_upto_region 21 with fail
                go_cut [80, 81, 82] (fun s80 s81 s82 wz => (∃ g cp : Nat, s80 = .slice (some ⟨g, 0, none⟩) 2 cp ∧ TwoP wz g (fun t => ptAt E (2 * k + t))) ∧ s81 = .int .i64 2 ∧ s82 = .int .i64 0 ∧ New wy wz)
                case first =>
                  clear a1 a2 b1 b2 fa ea fb eb ga gb a1y a2y b1y b2y fay eay gay gg g1 g2 fg eg hr hjm hal gy
                  go_region_held3 (fun w' => w'.cell? ⟨b, off + k * 4, none⟩ = some (.int .i64 Y1) ∧ w'.cell? ⟨b, off + k * 4 + 1, none⟩ = some (.int .i64 Y2) ∧ w'.cell? ⟨b, off + k * 4 + 2, none⟩ = some (.int .i64 Y3) ∧ w'.cell? ⟨b, off + k * 4 + 3, none⟩ = some (.int .i64 Y4)) (first | exact ⟨c1, c2, c3, c4⟩ | (simp [go_sem, c1, c2, c3, c4, hby]; done) | (go_keep; done)) (first | fail)
                  all_goals (go_wp2_with fail; go_meet)
                  all_goals exact ⟨⟨_, _, rfl, by simp, fun t ht => by
                    have : t = 0 ∨ t = 1 := by omega
                    rcases this with rfl | rfl
                    · simp only [Nat.add_zero, HP1.out]; simp [go_sem]
                    · simp only [HP2.out]; simp [go_sem]⟩, rfl, rfl, (by (repeat (first | exact New.refl _ | apply New.alloc | apply New.aft | apply New.drew | refine New.setCell ?_ ?_ _)); all_goals (first | done | (simp [size_aft]; done) | (simp [size_aft]; omega)))⟩
                case rest =>
                  obtain ⟨⟨g, cp, rfl, htw⟩, rfl, rfl, hnz⟩ := hcut
                  obtain ⟨W8, rfl⟩ : ∃ W8 : World, W8 = wc := ⟨_, rfl⟩
                  have HTW := Lib.hid htw
                  have HNZ8 := Lib.hid hnz
                  clear htw hnz c1 c2 c3 c4 a1y a2y b1y b2y fay eay g1 g2 fg eg
                  go_wp2_with fail
                  go_loopg [82] 2 (fun gk s82 wv => ∃ t : Nat, t + gk = 2 ∧ s82 = .int .i64 t ∧ TwoP wv g (fun t => ptAt E (2 * k + t)) ∧ PtK wv wx.heap.size (nextP E (A1, A2) (B1, B2) (2 * k + t)) ∧ New wx wv)
                  case atStart => exact ⟨0, rfl, rfl, HTW.out, HPG.out.new HNZ8.out, HNY.out.trans HNZ8.out⟩
                  case round =>
                    obtain ⟨wv, rfl⟩ : ∃ wv : World, wv = wr := ⟨_, rfl⟩
                    obtain ⟨t, ht, rfl, htv, hpv, hnv⟩ := hrel
                    have HTV := Lib.hid htv
                    have HPV := Lib.hid hpv
                    have HNV := Lib.hid hnv
                    have gv := hnv.size
                    clear hnv htv
                    cases gk with
                    | zero =>
                      obtain rfl : t = 2 := by omega
                      clear ht hpv
                      go_wp2_with fail
                      go_roundg gk
                      case rel => exact ⟨k + 1, by have := HK.out; omega, by go_num, by rw [show 2 * (k + 1) = 2 * k + 2 by omega]; exact HPV.out, HNV.out⟩
                      case measure => omega
                    | succ gl =>
                      have ht2 : t < 2 := by omega
                      have HTT := Lib.hid ht
                      obtain ⟨t1, t2⟩ := HTV.out.2 t ht2
                      have hgb : g < wv.heap.size := HTV.out.1
                      have HPP := Lib.hid (HEV.out (2 * k + t) (by omega))
                      have HNS := Lib.hid (nextP_succ (E := E) (A1, A2) (B1, B2) (k := 2 * k + t) (by rw [HEL.out]; omega))
                      have htz : (t : Int) < 2 := by omega
                      simp only at t1 t2
                      generalize ptAt E (2 * k + t) = P at *
                      generalize nextP E (A1, A2) (B1, B2) (2 * k + t) = NX at *
                      obtain ⟨P1, P2⟩ := P
                      obtain ⟨N1, N2⟩ := NX
                      simp only at t1 t2
                      obtain ⟨gg2, ⟨g1, g2⟩, fg, eg⟩ := hpv
                      simp only at g1 g2
                      have a1y := (HNV.out.below.cell (p := ⟨W1.heap.size, 0, none⟩) ga).trans a1
                      have a2y := (HNV.out.below.cell (p := ⟨W1.heap.size, 1, none⟩) ga).trans a2
                      have b1y := (HNV.out.below.cell (p := ⟨W1.heap.size + 1, 0, none⟩) gb).trans b1
                      have b2y := (HNV.out.below.cell (p := ⟨W1.heap.size + 1, 1, none⟩) gb).trans b2
                      have gav : W1.heap.size < wv.heap.size := by omega
                      have gbv : W1.heap.size + 1 < wv.heap.size := by omega
                      have HI := Lib.hid (fun w1 => inside_c P1 P2 A1 A2 B1 B2 w1 (by have := HPP.out; unfold valid at this; simp only at this; omega) (by have := HPP.out; unfold valid at this; simp only at this; omega) (by have := HVA.out; unfold valid at this; simp only at this; omega) (by have := HVA.out; unfold valid at this; simp only at this; omega) (by have := HVB.out; unfold valid at this; simp only at this; omega) (by have := HVB.out; unfold valid at this; simp only at this; omega))
                      have HLS := Lib.hid (fun w1 => ref_less P1 P2 N1 N2 w1)
                      unfold nextStep at HNS
                      have HNS' := Lib.hid (show nextP E (A1, A2) (B1, B2) (2 * k + t + 1) = if insR (P1, P2) (A1, A2) (B1, B2) && lessB P1 P2 N1 N2 then (P1, P2) else (N1, N2) from HNS.out)
                      clear HNS ht
                      generalize insR (P1, P2) (A1, A2) (B1, B2) = IN at *
                      generalize lessB P1 P2 N1 N2 = LS at *
                      cases IN
                      · have HNN := Lib.hid (show nextP E (A1, A2) (B1, B2) (2 * k + t + 1) = (N1, N2) by rw [HNS'.out]; rfl)
                        go_wp2_with (first | (go_at_call 141; with_reducible refine (HI.out _).mono ?_; go_must (rintro en w6 ⟨rfl, hn6⟩; have x0 : w6.cell? ⟨wv.heap.size, 0, none⟩ = some (.int .i64 P1) := (hn6.below.cell (p := ⟨wv.heap.size, 0, none⟩) (by simp)).trans (by simp [go_sem]); have x1 : w6.cell? ⟨wv.heap.size, 1, none⟩ = some (.int .i64 P2) := (hn6.below.cell (p := ⟨wv.heap.size, 1, none⟩) (by simp)).trans (by simp [go_sem]); have hN6 : New wv w6 := ((New.refl wv).alloc _).trans hn6; have x4 := (hN6.cell (o := 0) gg2).trans g1; have x5 := (hN6.cell (o := 1) gg2).trans g2; have x3 := (hN6.cell (o := 2) gg2).trans eg; have xf := fun o => (hN6.below.frozen (p := ⟨wx.heap.size, o, none⟩) gg2).trans (fg o); have HN6 := Lib.hid hN6; have hl0x := cell_lt x0; have hl4x := cell_lt x4; clear hn6 hN6)) | (go_at_call 116; with_reducible refine (HLS.out _).mono ?_; go_must (rintro en w7 ⟨rfl, hn7⟩; have y0 := (hn7.below.cell (p := ⟨wv.heap.size, 0, none⟩) hl0x).trans x0; have y1 := (hn7.below.cell (p := ⟨wv.heap.size, 1, none⟩) hl0x).trans x1; have y4 := (hn7.below.cell (p := ⟨wx.heap.size, 0, none⟩) hl4x).trans x4; have y5 := (hn7.below.cell (p := ⟨wx.heap.size, 1, none⟩) hl4x).trans x5; have y3 := (hn7.below.cell (p := ⟨wx.heap.size, 2, none⟩) hl4x).trans x3; have yf := fun o => (hn7.below.frozen (p := ⟨wx.heap.size, o, none⟩) hl4x).trans (xf o); have hl0y := cell_lt y0; have hl4y := cell_lt y4; have HNW := Lib.hid (show New wv w7 from HN6.out.trans hn7); clear hn7)))
                        go_roundg gl
                        case rel => exact ⟨t + 1, by have := HTT.out; omega, by go_num, HTV.out.new HNW.out, by rw [← Nat.add_assoc, HNN.out]; exact HPV.out.new HNW.out, HNV.out.trans HNW.out⟩
                        case measure => omega
                      · cases LS
                        · have HNN := Lib.hid (show nextP E (A1, A2) (B1, B2) (2 * k + t + 1) = (N1, N2) by rw [HNS'.out]; rfl)
                          go_wp2_with (first | (go_at_call 141; with_reducible refine (HI.out _).mono ?_; go_must (rintro en w6 ⟨rfl, hn6⟩; have x0 : w6.cell? ⟨wv.heap.size, 0, none⟩ = some (.int .i64 P1) := (hn6.below.cell (p := ⟨wv.heap.size, 0, none⟩) (by simp)).trans (by simp [go_sem]); have x1 : w6.cell? ⟨wv.heap.size, 1, none⟩ = some (.int .i64 P2) := (hn6.below.cell (p := ⟨wv.heap.size, 1, none⟩) (by simp)).trans (by simp [go_sem]); have hN6 : New wv w6 := ((New.refl wv).alloc _).trans hn6; have x4 := (hN6.cell (o := 0) gg2).trans g1; have x5 := (hN6.cell (o := 1) gg2).trans g2; have x3 := (hN6.cell (o := 2) gg2).trans eg; have xf := fun o => (hN6.below.frozen (p := ⟨wx.heap.size, o, none⟩) gg2).trans (fg o); have HN6 := Lib.hid hN6; have hl0x := cell_lt x0; have hl4x := cell_lt x4; clear hn6 hN6)) | (go_at_call 116; with_reducible refine (HLS.out _).mono ?_; go_must (rintro en w7 ⟨rfl, hn7⟩; have y0 := (hn7.below.cell (p := ⟨wv.heap.size, 0, none⟩) hl0x).trans x0; have y1 := (hn7.below.cell (p := ⟨wv.heap.size, 1, none⟩) hl0x).trans x1; have y4 := (hn7.below.cell (p := ⟨wx.heap.size, 0, none⟩) hl4x).trans x4; have y5 := (hn7.below.cell (p := ⟨wx.heap.size, 1, none⟩) hl4x).trans x5; have y3 := (hn7.below.cell (p := ⟨wx.heap.size, 2, none⟩) hl4x).trans x3; have yf := fun o => (hn7.below.frozen (p := ⟨wx.heap.size, o, none⟩) hl4x).trans (xf o); have hl0y := cell_lt y0; have hl4y := cell_lt y4; have HNW := Lib.hid (show New wv w7 from HN6.out.trans hn7); clear hn7)))
                          go_roundg gl
                          case rel => exact ⟨t + 1, by have := HTT.out; omega, by go_num, HTV.out.new HNW.out, by rw [← Nat.add_assoc, HNN.out]; exact HPV.out.new HNW.out, HNV.out.trans HNW.out⟩
                          case measure => omega
                        · have HNN := Lib.hid (show nextP E (A1, A2) (B1, B2) (2 * k + t + 1) = (P1, P2) by rw [HNS'.out]; rfl)
                          go_wp2_with (first | (go_at_call 141; with_reducible refine (HI.out _).mono ?_; go_must (rintro en w6 ⟨rfl, hn6⟩; have x0 : w6.cell? ⟨wv.heap.size, 0, none⟩ = some (.int .i64 P1) := (hn6.below.cell (p := ⟨wv.heap.size, 0, none⟩) (by simp)).trans (by simp [go_sem]); have x1 : w6.cell? ⟨wv.heap.size, 1, none⟩ = some (.int .i64 P2) := (hn6.below.cell (p := ⟨wv.heap.size, 1, none⟩) (by simp)).trans (by simp [go_sem]); have hN6 : New wv w6 := ((New.refl wv).alloc _).trans hn6; have x4 := (hN6.cell (o := 0) gg2).trans g1; have x5 := (hN6.cell (o := 1) gg2).trans g2; have x3 := (hN6.cell (o := 2) gg2).trans eg; have xf := fun o => (hN6.below.frozen (p := ⟨wx.heap.size, o, none⟩) gg2).trans (fg o); have HN6 := Lib.hid hN6; have hl0x := cell_lt x0; have hl4x := cell_lt x4; clear hn6 hN6)) | (go_at_call 116; with_reducible refine (HLS.out _).mono ?_; go_must (rintro en w7 ⟨rfl, hn7⟩; have y0 := (hn7.below.cell (p := ⟨wv.heap.size, 0, none⟩) hl0x).trans x0; have y1 := (hn7.below.cell (p := ⟨wv.heap.size, 1, none⟩) hl0x).trans x1; have y4 := (hn7.below.cell (p := ⟨wx.heap.size, 0, none⟩) hl4x).trans x4; have y5 := (hn7.below.cell (p := ⟨wx.heap.size, 1, none⟩) hl4x).trans x5; have y3 := (hn7.below.cell (p := ⟨wx.heap.size, 2, none⟩) hl4x).trans x3; have yf := fun o => (hn7.below.frozen (p := ⟨wx.heap.size, o, none⟩) hl4x).trans (xf o); have hl0y := cell_lt y0; have hl4y := cell_lt y4; have HNW := Lib.hid (show New wv w7 from HN6.out.trans hn7); clear hn7)))
                          go_roundg gl
                          case rel => exact ⟨t + 1, by have := HTT.out; omega, by go_num, ((HTV.out.new HNW.out).set y3 0 _).set (set_two y3 (by omega)) 1 _, by rw [← Nat.add_assoc, HNN.out]; exact PtK.put (q := (P1, P2)) (p := (N1, N2)) ⟨by omega, ⟨y4, y5⟩, yf, y3⟩, ((HNV.out.trans HNW.out).setCell (by simp) _).setCell (by simp) _⟩
                          case measure => omega
    · obtain rfl : i = n := by omega
      go_wp2_with fail
      first | go_ret2 | skip
      exact ⟨_, rfl, by rw [← HSP.out]; exact HV.out, HN1.out.trans HNW.out⟩

end Go.Proofs.YtpdfbboagaflhaaGreat

set_option linter.unusedSimpArgs false
set_option linter.unusedVariables false
namespace Go.Proofs.YtpdfbboagaflhaaGreat
open Go.RowKit

theorem segsV_R {w : World} {v : Value} {l : List S4} (h : SegsV w v l) : SegsR w v l := by
  rcases h with ⟨rfl, rfl⟩ | ⟨g, cap, rfl, h2, h3, h4⟩
  · exact ⟨none, 0, rfl, by simp, fun h => by simp at h⟩
  · exact ⟨_, cap, rfl, h2, fun _ => ⟨g, rfl, h4⟩⟩
theorem segsR_nil (w : World) : SegsR w (.slice none 0 0) [] := ⟨none, 0, rfl, by simp, fun h => by simp at h⟩
theorem splitL_len {l : List S4} (hok : okSegs l = true) (hf : RowsFree l l.length l.length) (h30 : l.length ≤ 30) : (splitL l).length ≤ 1000000 := by
  rw [← split_ref hok hf]
  have h1 := insAll_len (partsTo l (endsTo l l.length) l.length)
  have h2 := partsTo_len l (endsTo l l.length) l.length
  have h3 := endsTo_length l l.length
  have h5 : l.length * ((endsTo l l.length).length + 1) ≤ 30 * 61 := Nat.mul_le_mul (by omega) (by omega)
  omega
theorem planeSplits_all (w : World) (av : Option Addr) (n c : Nat) (l : List S4) (hl : l.length = n) (hp : 0 < n → ∃ b off, av = some ⟨b, off, none⟩ ∧ Segs w b off n l) : Calls Tryz.prog 16 #[.slice av n c] w fun e w' => e = .returned (.bool true) ∧ New w w' := by
  by_cases h : 30 < n
  · exact spl_long av n c w h
  · by_cases h0 : 0 < n
    · obtain ⟨b, off, rfl, hw⟩ := hp h0
      by_cases hg : ckSegs l = 0 ∧ RowsFree l l.length l.length
      · exact spl_of _ n c 0 (splitL l) w (by omega) (splitL_len (okSegs_ck hg.1) hg.2 (by omega))
          (Lib.hid fun w1 h1 => split_good b off n c l w1 h0 (by omega) (hw.new h1) hg.1 hg.2)
          (Lib.hid fun w1 h1 => (ref_split_good b off n c l w1 h0 (by omega) (hw.new h1) hg.1 hg.2).mono (by
            rintro en w' ⟨r, e, hv, hn⟩; exact ⟨r, e, segsV_R hv, hn⟩))
      · exact spl_of _ n c (badE l) [] w (by omega) (by simp)
          (Lib.hid fun w1 h1 => (split_badE b off n c l w1 (by omega) (hw.new h1) hg).mono (by
            rintro en w' ⟨e, hn⟩; exact ⟨_, e, segsR_nil _, hn⟩))
          (Lib.hid fun w1 h1 => (ref_split_bad b off n c l w1 (by omega) (hw.new h1) hg).mono (by
            rintro en w' ⟨e, hn⟩; exact ⟨_, e, segsR_nil _, hn⟩))
    · obtain rfl : n = 0 := by omega
      exact spl_of av 0 c 0 [] w (by omega) (by simp)
        (Lib.hid fun w1 _ => (split_nil av c w1).mono (by rintro en w' ⟨e, hn⟩; exact ⟨_, e, segsR_nil _, hn⟩))
        (Lib.hid fun w1 _ => (ref_split_nil av c w1).mono (by rintro en w' ⟨e, hn⟩; exact ⟨_, e, segsR_nil _, hn⟩))
end Go.Proofs.YtpdfbboagaflhaaGreat

set_option linter.unusedSimpArgs false
set_option linter.unusedVariables false
set_option linter.constructorNameAsVariable false
namespace Go.Proofs.YtpdfbboagaflhaaGreat
open Go.ChangeShapes Go.WideShapes Go.ChangeAt Go.RowKit Go.Joins
set_option maxRecDepth 100000

theorem jSp_wf : Rows.planeSplitsRow.wf (OpenSpec.ofChange Rows.planeSplitsSpec) = true := by kernel_rfl
theorem jSp_par : Tryz.f16.params.all (Tryz.prog.readableRec ·) = true := by kernel_rfl
theorem jSp_tie : namedTie Tryz.prog Rows.planeSplitsRow.named Rows.planeSplitsSpec.vars = true := by kernel_rfl
theorem jSp_st : (Rows.planeSplitsRow.stops == []) = true := by kernel_rfl
theorem jSp_kn : (Rows.planeSplitsRow.knobs == []) = true := by kernel_rfl
theorem jSp_inp : (Rows.planeSplitsRow.inPlace == Tryz.prog.inPlace 16) = true := by kernel_rfl
theorem jSp_unf : (Rows.planeSplitsRow.unfollowed == Tryz.prog.unfollowed 16) = true := by kernel_rfl
theorem jSp_rec : (Rows.planeSplitsRow.recurses == Tryz.prog.recurses 16) = true := by kernel_rfl
theorem jSp_nam : (Rows.planeSplitsRow.named == Tryz.prog.varsNamed 16) = true := by kernel_rfl
theorem jSp_maps : (Rows.planeSplitsRow.maps == (Tryz.f16.params.toList ++ Rows.planeSplitsSpec.plain.varTypes Tryz.prog).any (Tryz.prog.mapsRec ·)) = true := by kernel_rfl
theorem jSp_ifs : (Rows.planeSplitsRow.ifaces == (Tryz.f16.params.toList ++ Rows.planeSplitsSpec.plain.varTypes Tryz.prog).any (Tryz.prog.ifacesRec ·)) = true := by kernel_rfl
theorem jSp_mout : (Rows.planeSplitsRow.mapsOut == Tryz.prog.mapsAmong Tryz.f16.resultTypes.toList) = true := by kernel_rfl
theorem jSp_loops : (Rows.planeSplitsRow.loops == (Tryz.f16.params.toList ++ Rows.planeSplitsSpec.plain.varTypes Tryz.prog).any (Tryz.prog.loopsFrom ·)) = true := by kernel_rfl
theorem jSp_wide : (Rows.planeSplitsRow.wideKeys == (Tryz.f16.params.toList ++ Rows.planeSplitsSpec.plain.varTypes Tryz.prog ++ Tryz.f16.resultTypes.toList).any (Tryz.prog.wideKeysFrom ·)) = true := by kernel_rfl
theorem jSp_vars : Rows.planeSplitsSpec.vars.all (Tryz.prog.varReadable ·) = true := by kernel_rfl
theorem jSp_res : Tryz.f16.resultTypes.all (fun t => Tryz.prog.readableRec t && decide (t < Tryz.prog.types.size)) = true := by kernel_rfl
theorem jSp_iout : (Rows.planeSplitsRow.ifacesOut == Tryz.f16.resultTypes.toList.any (Tryz.prog.ifacesRec ·)) = true := by kernel_rfl
theorem jSp_lout : (Rows.planeSplitsRow.loopsOut == Tryz.f16.resultTypes.toList.any (Tryz.prog.loopsFrom ·)) = true := by kernel_rfl
theorem jSp_plain : (Rows.planeSplitsRow.plainKeys == Tryz.prog.plainKeys) = true := by kernel_rfl
theorem jSp_short : Rows.planeSplitsRow.shortTexts.isNone = true := by kernel_rfl
theorem jSp_lift0 : (Rows.planeSplitsRow.lifted == false) = true := by kernel_rfl
theorem jSp_lift : (Rows.planeSplitsRow.lifted == Tryz.prog.liftsFinal) = true := (congrArg (fun b => (Rows.planeSplitsRow.lifted == b)) lift_is).trans jSp_lift0
theorem jSp_make0 : (some Make.cut == some Rows.planeSplitsRow.make) = true := by kernel_rfl
theorem jSp_make : (Tryz.prog.make == some Rows.planeSplitsRow.make) = true := (congrArg (fun b => (b == some Rows.planeSplitsRow.make)) make_is).trans jSp_make0
theorem jSp_kinds : (Rows.planeSplitsRow.kinds == (if Rows.planeSplitsRow.domain.isEmpty then [] else Tryz.f16.params.toList.map fun t => match Tryz.prog.underlying t with | some (.int k) => some k | _ => none)) = true := by kernel_rfl
theorem jSp_pin : (Rows.planeSplitsRow.pinned == Rows.planeSplitsRow.pinnedBy) = true := by kernel_rfl
theorem jSp_veil : (Rows.planeSplitsRow.veiled == (Tryz.f16.params.toList ++ Rows.planeSplitsSpec.plain.varTypes Tryz.prog ++ Tryz.f16.resultTypes.toList).any (Tryz.prog.veiledRec ·)) = true := by kernel_rfl
theorem jSp_vfit : Rows.planeSplitsRow.veiledFits Tryz.prog Tryz.f16.params.toList (Tryz.f16.params.toList ++ Rows.planeSplitsSpec.plain.varTypes Tryz.prog ++ Tryz.f16.resultTypes.toList) = true := by kernel_rfl
theorem jSp_closed : joinedFacts Tryz.prog 16 Tryz.f16 Rows.planeSplitsSpec Rows.planeSplitsRow = true := (b_and (b_and (b_and (b_and (b_and (b_and (b_and (b_and (b_and (b_and (b_and (b_and (b_and (b_and (b_and (b_and (b_and (b_and (b_and (b_and (b_and (b_and (b_and (b_and (b_and (b_and (b_and (b_and (b_and (b_and (b_and jSp_wf jp_laid) jp_rowed) jSp_par) jSp_tie) jSp_st) jp_stops) jSp_kn) jp_knobs) jSp_inp) jSp_unf) jSp_rec) jSp_nam) jSp_maps) jSp_ifs) jSp_mout) jSp_loops) jSp_wide) jSp_vars) jSp_res) jSp_iout) jSp_lout) jSp_plain) jSp_short) jp_heard) jp_enter) jSp_lift) jSp_make) jSp_kinds) jSp_pin) jSp_veil) jSp_vfit)
theorem jSp_name : Tryz.prog.funcNamed Rows.planeSplitsRow.func = some 16 := by kernel_rfl
theorem jSp_inst : Tryz.f16.isInstance Tryz.prog Rows.planeSplitsRow.origin Rows.planeSplitsRow.targs := of_decide_eq_true (by kernel_rfl)
theorem jSp_wrap : Tryz.f16.isWrapper Tryz.prog Rows.planeSplitsRow.wrapper Rows.planeSplitsRow.mainSum := by unfold Func.isWrapper; rw [if_neg (by decide +kernel)]; exact ⟨rfl, rfl⟩

set_option maxHeartbeats 2000000 in
theorem jSp_lifted (os : Os) (started : os.Started) (H : Type) (enc : TypeId × Value → H) :
    ReturnsInHanded {} Tryz.checked os 16 .any (Rows.planeSplitsSpec.pre6 enc Tryz.prog Tryz.f16 Rows.planeSplitsRow.domain false) (Rows.planeSplitsSpec.post enc Tryz.prog Tryz.f16 false true false false) := by
  refine returnsInHanded_of_change (C := Tryz.checked) own_knob started (by kernel_rfl) Tryz.func16
    (ChangeSpec.witness6 (enc := enc) (C := Tryz.checked) false ⟨#[], #[.slice none 0 0], []⟩ 8 (by kernel_rfl) (by kernel_rfl) (by kernel_rfl) (by kernel_rfl)) ?_
  intro W base args ds gs before hval0 hW hcnd _
  have hval : ∀ (j : Nat) t v, Tryz.f16.params[j]? = some t → args[j]? = some v → Value.okWide Tryz.prog W .any base t v := hval0
  have hW' := hW
  obtain ⟨p, q, hA0, hV, rfl, hfz, hnd⟩ := hW
  have hA : DataW.TrodAll enc Tryz.prog W 0 (fun _ => true) true Tryz.f16.params.toList args.toList ds p := hA0
  rw [Tryz.params16] at hA hval
  obtain ⟨v0, vs0, d0, ds0, p0, q0, hargs, rfl, rfl, h0, r0⟩ := trodAll_cons hA
  obtain ⟨rfl, rfl, rfl⟩ := trodAll_nil r0
  obtain rfl : args = #[v0] := by cases args; simp_all
  obtain ⟨rfl, rfl⟩ := trodVars_none hV
  have hlt : ∀ x ∈ p0, x.block < W.heap.size := fun x hx => hW'.lt x (by simpa using hx)
  have g0 := h0
  obtain ⟨av0, n0, cap0, l0, rfl, hl0, hp0⟩ := open_segs (hval 0 58 v0 rfl rfl) h0
  clear hA0 hval0 hval
  refine (planeSplits_all W av0 n0 cap0 l0 hl0 hp0).mono fun e W' ⟨he, hg⟩ => ?_
  subst he
  have t0 := Below.trod laidOut (by kernel_rfl) (of_decide_eq_true (by kernel_rfl)) g0 hg.below (fun x hx => hlt x (by simp [hx]))
  exact ⟨_, rfl, _, _, _, _, _, _, hW', trodAll_cons_mk (shut_bool Tryz.underlying4 _) trodAll_mk0, trodAll_cons_mk t0 trodAll_mk0, rfl, hg.below.frame _, fun h => by cases h⟩

/-- PlaneSplits, as it is given -/
theorem planeSplits_proved : Rows.PlaneSplitsSaid :=
  OpenClaim.holds_of_wide 16 Tryz.f16 rfl rfl rfl rfl rfl rfl rfl ⟨rfl, rfl, rfl, rfl, rfl⟩ rfl rfl rfl rfl rfl jSp_name Tryz.func16 jSp_closed jSp_inst jSp_wrap
    (fun os started H enc _ => jSp_lifted os started H enc)

end Go.Proofs.YtpdfbboagaflhaaGreat
