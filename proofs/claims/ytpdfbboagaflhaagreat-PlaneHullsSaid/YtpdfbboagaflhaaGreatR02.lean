/- PlaneHulls returns true for every input, and its arguments read afterwards as before: the given statement, without a condition. -/
import Derived.Test.YtpdfbboagaflhaaGreatN10
import Derived.Test.YtpdfbboagaflhaaGreatN03
import Derived.Deep.RegionHeld3
import Derived.Deep.RegionWith
import Derived.BigRegion
import Derived.LoopTactic
import Derived.Deep.AppendLies
import Derived.Deep.RegionLaw
import Derived.Test.YtpdfbboagaflhaaGreatM05
import Derived.Test.YtpdfbboagaflhaaGreatR01
import Derived.Maps.AppendAt
import Derived.RegionTactic
import Derived.OwnWalk
import Derived.Test.YtpdfbboagaflhaaGreatM51
import Derived.Test.YtpdfbboagaflhaaGreatRows
import Derived.ProofKit
import Derived.OpenShut
import Derived.Lib.SmallJoins
import Derived.Carry

set_option linter.unusedSimpArgs false
set_option linter.unusedVariables false
set_option maxRecDepth 100000
namespace Go.Proofs.YtpdfbboagaflhaaGreat
open Go.RowKit

/-- a result that is a list of points -/
def PtsR (w : World) (v : Value) (R : List P2) : Prop := ∃ av cap, v = .slice av R.length cap ∧ (0 < R.length → ∃ g, av = some ⟨g, 0, none⟩ ∧ Pts w g 0 R.length R)
theorem PtsR.new {w w' : World} {v : Value} {R : List P2} (h : PtsR w v R) (hn : New w w') : PtsR w' v R := by
  obtain ⟨av, cap, h1, h2⟩ := h
  exact ⟨av, cap, h1, fun h0 => by obtain ⟨g, h3, h4⟩ := h2 h0; exact ⟨g, h3, h4.new hn⟩⟩

set_option maxHeartbeats 2000000 in
theorem move1_c (x y dx dy : Int) (B1 B2 : Nat) (w : World) (hx : 0 ≤ x ∧ x ≤ 10000) (hy : 0 ≤ y ∧ y ≤ 10000) (h1 : -20000 ≤ dx ∧ dx ≤ 20000) (h2 : -20000 ≤ dy ∧ dy ≤ 20000) (c1 : w.cell? ⟨B1, 0, none⟩ = some (.int .i64 dx)) (c2 : w.cell? ⟨B2, 0, none⟩ = some (.int .i64 dy)) (b1 : B1 < w.heap.size) (b2 : B2 < w.heap.size) :
    Calls Tryz.prog 159 #[pv x y, .pointer (some ⟨B1, 0, none⟩), .pointer (some ⟨B2, 0, none⟩)] w fun en w' => en = .returned (pv (x + dx) (y + dy)) ∧ New w w' := by
  have b3 : B1 < w.heap.size + 1 := by omega
  have b4 : B2 < w.heap.size + 1 := by omega
  have b5 : B1 < w.heap.size + 1 + 1 := by omega
  have b6 : B2 < w.heap.size + 1 + 1 := by omega
  go_enter Tryz.func159, Tryz.ntmps159
  go_wp2_with fail
  all_goals (refine bodyPost_ret (v := pv (x + dx) (y + dy)) (by simp [results, Tryz.results159, go_sem]) rfl ⟨rfl, ?_⟩; (repeat (first | exact New.refl _ | apply New.alloc | apply New.aft | apply New.drew | refine New.setCell ?_ ?_ _)); all_goals (first | done | (simp [size_aft]; done) | (simp [size_aft]; omega)))
set_option maxHeartbeats 2000000 in
theorem mirror1_c (x y dx : Int) (B1 : Nat) (w : World) (hx : 0 ≤ x ∧ x ≤ 10000) (hy : 0 ≤ y ∧ y ≤ 10000) (h1 : -20000 ≤ dx ∧ dx ≤ 20000) (c1 : w.cell? ⟨B1, 0, none⟩ = some (.int .i64 dx)) (b1 : B1 < w.heap.size) :
    Calls Tryz.prog 161 #[pv x y, .pointer (some ⟨B1, 0, none⟩)] w fun en w' => en = .returned (pv (dx - x) y) ∧ New w w' := by
  have b3 : B1 < w.heap.size + 1 := by omega
  have b5 : B1 < w.heap.size + 1 + 1 := by omega
  go_enter Tryz.func161, Tryz.ntmps161
  go_wp2_with fail
  all_goals (refine bodyPost_ret (v := pv (dx - x) y) (by simp [results, Tryz.results161, go_sem]) rfl ⟨rfl, ?_⟩; (repeat (first | exact New.refl _ | apply New.alloc | apply New.aft | apply New.drew | refine New.setCell ?_ ?_ _)); all_goals (first | done | (simp [size_aft]; done) | (simp [size_aft]; omega)))
set_option maxHeartbeats 2000000 in
theorem enlarge1_c (x y k : Int) (B1 : Nat) (w : World) (hx : 0 ≤ x ∧ x ≤ 10000) (hy : 0 ≤ y ∧ y ≤ 10000) (h1 : -20000 ≤ k ∧ k ≤ 20000) (c1 : w.cell? ⟨B1, 0, none⟩ = some (.int .i64 k)) (b1 : B1 < w.heap.size) :
    Calls Tryz.prog 162 #[pv x y, .pointer (some ⟨B1, 0, none⟩)] w fun en w' => en = .returned (pv (x * k) (y * k)) ∧ New w w' := by
  have m1 := mul_bd x k 10000 20000 (by omega) (by omega) (by omega) (by omega)
  have m2 := mul_bd y k 10000 20000 (by omega) (by omega) (by omega) (by omega)
  simp only [Int.reduceMul, Int.reduceNeg] at m1 m2
  have b3 : B1 < w.heap.size + 1 := by omega
  have b5 : B1 < w.heap.size + 1 + 1 := by omega
  go_enter Tryz.func162, Tryz.ntmps162
  go_wp2_with fail
  all_goals (refine bodyPost_ret (v := pv (x * k) (y * k)) (by simp [results, Tryz.results162, go_sem]) rfl ⟨rfl, ?_⟩; (repeat (first | exact New.refl _ | apply New.alloc | apply New.aft | apply New.drew | refine New.setCell ?_ ?_ _)); all_goals (first | done | (simp [size_aft]; done) | (simp [size_aft]; omega)))

set_option maxHeartbeats 4000000 in
theorem samePoints_c (v u : Value) (R : List P2) (w : World) (hl : R.length ≤ 1000000) (hv : PtsR w v R) (hu : PtsR w u R) : Calls Tryz.prog 52 #[v, u] w fun en w' => en = .returned (.bool true) ∧ New w w' := by
  obtain ⟨av, cv, rfl, hv⟩ := hv
  obtain ⟨au, cu, rfl, hu⟩ := hu
  by_cases h0 : 0 < R.length
  · obtain ⟨g, rfl, _, hg1, hg2⟩ := hv h0
    obtain ⟨g', rfl, _, hg3, hg4⟩ := hu h0
    generalize R.length = n at *
    have t0 : ((n : Int) != (n : Int)) = false := by simp
    clear hv hu
    go_enter Tryz.func52, Tryz.ntmps52
    go_wp2_with fail
    go_loopw [5] (fun i wr => ∃ k : Nat, k ≤ n ∧ i = .int .i64 k ∧ New w wr) (fun i _ => n - (intOf i).toNat)
    case atStart => exact ⟨0, Nat.zero_le _, rfl, New.refl _⟩
    case round =>
      obtain ⟨k, hk, rfl, pr, rfl⟩ := hrel
      by_cases hlt : k < n
      · obtain ⟨c1, c2⟩ := hg2 k hlt
        obtain ⟨d1, d2⟩ := hg4 k hlt
        simp only [Nat.zero_add] at c1 c2 d1 d2
        have hkn : (k : Int) < (n : Int) := by omega
        clear hg2 hg4
        generalize px R k = X at *
        generalize py R k = Y at *
        have e1 : (X == X) = true := by simp
        have e2 : (Y == Y) = true := by simp
        go_wp2_with fail
        first | refine wp_region_at2 (by kernel_rfl) (by kernel_rfl) ?_ | refine wp_region_at (by kernel_rfl) (by kernel_rfl) ?_
        repeat (go_big_quiet_step (fail))
        refine wpQuiet_nil ?_
        rintro _ ⟨q, rfl⟩
        go_wp2_with fail
        go_roundw
        case rel => exact ⟨k + 1, by omega, by go_num, by (repeat (first | exact New.refl _ | apply New.alloc | apply New.aft | apply New.drew | refine New.setCell ?_ ?_ _)); all_goals (first | done | (simp [size_aft]; done) | (simp [size_aft]; omega))⟩
        case measure => simp [intOf]; omega
      · go_wp2_with fail
        go_ret
        exact ⟨rfl, by (repeat (first | exact New.refl _ | apply New.alloc | apply New.aft | apply New.drew | refine New.setCell ?_ ?_ _)); all_goals (first | done | (simp [size_aft]; done) | (simp [size_aft]; omega))⟩
  · have h1 : R.length = 0 := by omega
    rw [h1]
    clear hv hu
    go_enter Tryz.func52, Tryz.ntmps52
    go_wp2_with fail
    refine wp_loop_rounds 1 ?_
    repeat any_goals (rw [rounds_succ]; go_wp2)
    go_ret; exact ⟨rfl, New.refl _⟩

/-- a slice of points, nil or not -/
def PtsA (w : World) (av : Option Addr) (n : Nat) (l : List P2) : Prop := l.length = n ∧ (0 < n → ∃ b off, av = some ⟨b, off, none⟩ ∧ Pts w b off n l)
theorem PtsA.new {w w' : World} {av : Option Addr} {n : Nat} {l : List P2} (h : PtsA w av n l) (hn : New w w') : PtsA w' av n l :=
  ⟨h.1, fun h0 => by obtain ⟨b, off, h1, h2⟩ := h.2 h0; exact ⟨b, off, h1, h2.new hn⟩⟩
theorem PtsR.nil (w : World) : PtsR w (.slice none 0 0) [] := ⟨none, 0, rfl, fun h => absurd h (by simp)⟩
theorem PtsR.own {w : World} {B : Nat} {v : Value} {R : List P2} (h : w.ownsRow B 23 2 v R.length (ptCells R)) : PtsR w v R := own_form h

end Go.Proofs.YtpdfbboagaflhaaGreat

set_option linter.unusedSimpArgs false
set_option linter.unusedVariables false
namespace Go.Proofs.YtpdfbboagaflhaaGreat
open Go.RowKit

def lessB (ax ay bx by' : Int) : Bool := decide (ax < bx ∨ (ax = bx ∧ ay < by'))

set_option maxRecDepth 20000 in
set_option maxHeartbeats 2000000 in
theorem ref_less (ax ay bx by' : Int) (w : World) : Calls Tryz.prog 116 #[pv ax ay, pv bx by'] w fun e w' => e = .returned (.bool (lessB ax ay bx by')) ∧ New w w' := by
  by_cases h1 : ax < bx
  · rw [show lessB ax ay bx by' = true by simp [lessB, h1]]
    go_enter Tryz.func116, Tryz.ntmps116
    go_wp2_with fail
    all_goals (go_ret; refine ⟨rfl, ?_⟩; (repeat (first | exact New.refl _ | apply New.alloc | apply New.aft | apply New.drew | refine New.setCell ?_ ?_ _)); all_goals (first | done | (simp [size_aft]; done) | (simp [size_aft]; omega)))
  · by_cases h2 : ax = bx
    · subst h2
      by_cases h3 : ay < by'
      · rw [show lessB ax ay ax by' = true by simp [lessB, h3]]
        go_enter Tryz.func116, Tryz.ntmps116
        go_wp2_with fail
        all_goals (go_ret; refine ⟨rfl, ?_⟩; (repeat (first | exact New.refl _ | apply New.alloc | apply New.aft | apply New.drew | refine New.setCell ?_ ?_ _)); all_goals (first | done | (simp [size_aft]; done) | (simp [size_aft]; omega)))
      · rw [show lessB ax ay ax by' = false by simp [lessB, h3]]
        go_enter Tryz.func116, Tryz.ntmps116
        go_wp2_with fail
        all_goals (go_ret; refine ⟨rfl, ?_⟩; (repeat (first | exact New.refl _ | apply New.alloc | apply New.aft | apply New.drew | refine New.setCell ?_ ?_ _)); all_goals (first | done | (simp [size_aft]; done) | (simp [size_aft]; omega)))
    · rw [show lessB ax ay bx by' = false by simp [lessB, h1, h2]]
      have h3 : (ax == bx) = false := by simpa using h2
      go_enter Tryz.func116, Tryz.ntmps116
      go_wp2_with fail
      all_goals (go_ret; refine ⟨rfl, ?_⟩; (repeat (first | exact New.refl _ | apply New.alloc | apply New.aft | apply New.drew | refine New.setCell ?_ ?_ _)); all_goals (first | done | (simp [size_aft]; done) | (simp [size_aft]; omega)))

def farN (ax ay bx by' : Int) : Int := (bx - ax) * (bx - ax) + (by' - ay) * (by' - ay)
set_option maxRecDepth 20000 in
set_option maxHeartbeats 2000000 in
theorem ref_far (ax ay bx by' : Int) (w : World) (h1 : 0 ≤ ax ∧ ax ≤ 10000) (h2 : 0 ≤ ay ∧ ay ≤ 10000) (h3 : 0 ≤ bx ∧ bx ≤ 10000) (h4 : 0 ≤ by' ∧ by' ≤ 10000) : Calls Tryz.prog 128 #[pv ax ay, pv bx by'] w fun e w' => e = .returned (.int .i64 (farN ax ay bx by')) ∧ New w w' := by
  obtain ⟨p1, p2⟩ := mul_bd (bx - ax) (bx - ax) 10000 10000 (by omega) (by omega) (by omega) (by omega)
  obtain ⟨p3, p4⟩ := mul_bd (by' - ay) (by' - ay) 10000 10000 (by omega) (by omega) (by omega) (by omega)
  simp only [Int.reduceMul, Int.reduceNeg] at p1 p2 p3 p4
  unfold farN
  go_enter Tryz.func128, Tryz.ntmps128
  go_wp2_with fail
  all_goals (go_ret; refine ⟨rfl, ?_⟩; (repeat (first | exact New.refl _ | apply New.alloc | apply New.aft | apply New.drew | refine New.setCell ?_ ?_ _)); all_goals (first | done | (simp [size_aft]; done) | (simp [size_aft]; omega)))

end Go.Proofs.YtpdfbboagaflhaaGreat

set_option linter.unusedSimpArgs false
set_option linter.unusedVariables false
set_option maxRecDepth 100000
namespace Go.Proofs.YtpdfbboagaflhaaGreat
open Go.RowKit

/-- what Hull returns -/
def hullE (l : List P2) : Int := ckPts l 400
def hullV (l : List P2) : List P2 := if ckPts l 400 ≠ 0 then [] else if (ptsL l).length < 2 then ptsL l else hullL l
def HullIs (w w' : World) (en : Ending) (l : List P2) : Prop := ∃ r, en = .returned (.tuple #[r, .int .i64 (hullE l)]) ∧ PtsR w' r (hullV l) ∧ New w w'

set_option maxHeartbeats 2000000 in
theorem insort_nil (v : Option Addr) (c : Nat) (f : Value) (w : World) : Calls Tryz.prog 193 #[.slice v 0 c, .int .i64 0, .int .i64 0, f] w fun en w' => en = .returned (.tuple #[]) ∧ New w w' := by
  go_enter Tryz.func193, Tryz.ntmps193
  go_wp2_with fail
  go_loopw [8] (fun i wr => i = .int .i64 1 ∧ New w wr) (fun _ _ => 0)
  case atStart => exact ⟨by go_num, New.refl _⟩
  case round =>
    obtain ⟨rfl, hn⟩ := hrel
    have HN := Lib.hid hn
    clear hn
    go_wp2_with fail
    exact bodyPost_end (results_none rfl _ _ _) rfl ⟨rfl, HN.out⟩
set_option maxHeartbeats 2000000 in
theorem pdq_nil (v : Option Addr) (c : Nat) (k : Int) (f : Value) (w : World) : Calls Tryz.prog 171 #[.slice v 0 c, .int .i64 0, .int .i64 0, .int .i64 k, f] w fun en w' => en = .returned (.tuple #[]) ∧ New w w' := by
  have HI := Lib.hid (insort_nil v c f)
  go_enter Tryz.func171, Tryz.ntmps171
  go_wp2_with fail
  go_loopw [1, 2] (fun i j wr => (i = .int .i64 0 ∧ j = .int .i64 0) ∧ New w wr) (fun _ _ _ => 0)
  case atStart => exact ⟨⟨rfl, rfl⟩, New.refl _⟩
  case round =>
    obtain ⟨⟨rfl, rfl⟩, hn⟩ := hrel
    have HN := Lib.hid hn
    clear hn
    go_wp2_with (go_at_call 193; refine (HI.out _).mono ?_; rintro e w1 ⟨rfl, hn⟩; have HN1 := Lib.hid (HN.out.trans hn); clear hn)
    exact bodyPost_ret (results_none rfl _ _ _) rfl ⟨rfl, HN1.out⟩

set_option maxHeartbeats 2000000 in
theorem sort_nil (v : Option Addr) (c : Nat) (w : World) : Calls Tryz.prog 124 #[.slice v 0 c, .func (.func 125) #[] #[]] w fun en w' => en = .returned (.tuple #[]) ∧ New w w' := by
  have HI := Lib.hid (fun k => pdq_nil v c k (.func (.func 125) #[] #[]))
  have HL := Lib.hid (fun w1 : World => hlenH 0 w1 (by omega))
  go_enter Tryz.func124, Tryz.ntmps124
  go_wp2_with (first | (go_at_call 172; refine (HL.out _).mono ?_; rintro e w1 ⟨⟨k, rfl⟩, rfl⟩) | (go_at_call 171; refine (HI.out _ _).mono ?_; rintro e w1 ⟨rfl, hn⟩; have HN1 := Lib.hid hn; clear hn))
  exact bodyPost_end (results_none rfl _ _ _) rfl ⟨rfl, HN1.out⟩
set_option maxHeartbeats 2000000 in
theorem compact_nil (v : Option Addr) (c : Nat) (w : World) : Calls Tryz.prog 126 #[.slice v 0 c] w fun en w' => en = .returned (.slice v 0 c) ∧ New w w' := by
  go_enter Tryz.func126, Tryz.ntmps126
  go_wp2_with fail
  go_ret; exact ⟨rfl, New.refl _⟩
theorem run_append_zero {P : Program} (w : World) (t ty e : TypeId) (i : TypeInfo) (ht : P.underlying t = some (.slice e)) (hi : P.info? e = some i)
    (A : Option Addr) (c : Nat) (B : Option Addr) (d : Nat) : (Builtin.append_ #[t, t] ty #[.slice A 0 c, .slice B 0 d]).run P w = .ok (.slice A 0 c) w := by
  cases A <;> cases B <;> simp [Builtin.append_, run_underlying ht, sizeOf, typeInfo, hi, Builtin.lenOf, Builtin.firstCells, loadCells]
  · rw [show ∀ a : Addr, loadCellsFrom a 0 0 #[] = (pure #[] : Sem _) from fun _ => rfl]; rfl
  · simp [storeCells]
  · rw [show ∀ a : Addr, loadCellsFrom a 0 0 #[] = (pure #[] : Sem _) from fun _ => rfl]; simp [storeCells]
theorem wpList_append_zero {P : Program} {w : World} {ops : Array Oper} {rest : List Oper} {o : Oper} {a : Act} {Q : Exit → Act → World → Prop} (hgd : o.guard = none) (s x : Operand) (t : TypeId)
    (ho : o.op = .call { callee := .builtin .append, args := #[s, x], argTypes := #[t, t] }) (e : TypeId) (i : TypeInfo) (ht : P.underlying t = some (.slice e)) (hi : P.info? e = some i)
    (A : Option Addr) (c : Nat) (B : Option Addr) (d : Nat) (hs : a.eval s = .slice A 0 c) (hx : a.eval x = .slice B 0 d) (h : wpList P ops Q rest (a.put o.dst (.slice A 0 c)) w) : wpList P ops Q (o :: rest) a w :=
  wpList_plain hgd fun _ hK => by
    unfold Oper.wp execOp
    simp only [ho, resolve, invoke, builtin, Sem.run_bind, Sem.run_pure, Result.andThen_ok, List.map_toArray, List.map_cons, List.map_nil, hs, hx, run_append_zero w t _ e i ht hi]
    exact hK _ _ h
set_option maxHeartbeats 2000000 in
theorem clone_nil (v : Option Addr) (c : Nat) (w : World) : Calls Tryz.prog 123 #[.slice v 0 c] w fun en w' => ∃ v2 c2, en = .returned (.slice v2 0 c2) ∧ New w w' := by
  obtain ⟨i0, hi, hz0, hz1, hz2⟩ := info_parts info23
  have hnil : ∀ w' : World, (binOp .eql 40 (.slice v 0 c) (.slice none 0 0)).run Tryz.prog w' = .ok (.bool v.isNone) w' := fun w' => Lib.run_eql_slice_nil w' 40 23 _ 0 c 0 0 Tryz.underlying40
  cases v with
  | none =>
    go_enter Tryz.func123, Tryz.ntmps123
    go_wp2_with fail
    go_ret; exact ⟨none, 0, rfl, New.refl _⟩
  | some a =>
    go_enter Tryz.func123, Tryz.ntmps123
    go_wp2_with (at_builtin; refine wpList_append_zero rfl (.tmp 5) (.tmp 6) 40 rfl 23 i0 Tryz.underlying40 hi _ _ _ _ rfl rfl ?_)
    go_ret; exact ⟨_, _, rfl, (New.refl _).alloc _⟩


set_option maxHeartbeats 2000000 in
theorem hull_nil (v : Option Addr) (c : Nat) (w : World) : Calls Tryz.prog 57 #[.slice v 0 c] w fun en w' => HullIs w w' en [] := by
  have HC := Lib.hid (checkPoints_nil v c 400 (by omega))
  have HV := Lib.hid (show hullE [] = 0 ∧ hullV [] = [] from ⟨rfl, rfl⟩)
  have HK := Lib.hid (fun w1 : World => clone_nil v c w1)
  have HS := Lib.hid (fun (v2 : Option Addr) (c2 : Nat) (w1 : World) => sort_nil v2 c2 w1)
  have HP := Lib.hid (fun (v2 : Option Addr) (c2 : Nat) (w1 : World) => compact_nil v2 c2 w1)
  go_enter Tryz.func57, Tryz.ntmps57
  go_wp2_with (first | (go_at_call 84; refine (HC.out _).mono ?_; rintro e w1 ⟨rfl, hn⟩; have HN1 := Lib.hid hn; clear hn) | (go_at_call 123; refine (HK.out _).mono ?_; rintro e w2 ⟨v2, c2, rfl, hn⟩; have HN2 := Lib.hid (HN1.out.trans hn); clear hn) | (go_at_call 124; refine (HS.out _ _ _).mono ?_; rintro e w3 ⟨rfl, hn⟩; have HN3 := Lib.hid (HN2.out.trans hn); clear hn) | (go_at_call 126; refine (HP.out _ _ _).mono ?_; rintro e w4 ⟨rfl, hn⟩; have HN4 := Lib.hid (HN3.out.trans hn); clear hn))
  go_ret2
  exact ⟨.slice v2 0 c2, by rw [HV.out.1]; rfl, by rw [HV.out.2]; exact ⟨v2, c2, rfl, fun h => absurd h (by simp)⟩, HN4.out⟩
set_option maxHeartbeats 2000000 in
theorem hull_err (b off n c : Nat) (l : List P2) (w : World) (hl : n ≤ 1000000) (hw : Pts w b off n l) (hk : ckPts l 400 ≠ 0) : Calls Tryz.prog 57 #[.slice (some ⟨b, off, none⟩) n c] w fun en w' => HullIs w w' en l := by
  have HC := Lib.hid (checkPoints_c b off n c l 400 w (by omega) hw)
  have HV := Lib.hid (show hullE l = ckPts l 400 ∧ hullV l = [] from ⟨rfl, if_pos hk⟩)
  have hq1 : (ckPts l 400 == 0) = false := by simpa using hk
  have hq2 : (ckPts l 400 != 0) = true := by simpa using hk
  generalize ckPts l 400 = K at *
  clear hw hk
  go_enter Tryz.func57, Tryz.ntmps57
  go_wp2_with (go_at_call 84; refine (HC.out).mono ?_; rintro e w1 ⟨rfl, hn⟩; have HN1 := Lib.hid hn; clear hn)
  go_ret2
  exact ⟨.slice none 0 0, by rw [HV.out.1]; rfl, by rw [HV.out.2]; exact PtsR.nil _, HN1.out⟩
set_option maxHeartbeats 4000000 in
theorem hull_one (b off n c : Nat) (l : List P2) (w : World) (h0 : 0 < n) (hl : n ≤ 1000000) (hw : Pts w b off n l) (hk : ckPts l 400 = 0) (hm : (ptsL l).length < 2) : Calls Tryz.prog 57 #[.slice (some ⟨b, off, none⟩) n c] w fun en w' => HullIs w w' en l := by
  have HW := Lib.hid hw
  have HN := Lib.hid hw.1
  have HV := Lib.hid (show hullE l = 0 ∧ hullV l = ptsL l from ⟨hk, by unfold hullV; rw [if_neg (by rw [hk]; exact fun h => h rfl), if_pos hm]⟩)
  have HCK := Lib.hid (checkPoints_c b off n c l 400 w (by omega) hw)
  rw [hk] at HCK
  have HCL := Lib.hid (fun (w1 : World) (h1 : New w w1) => cloneP_c b off n c l w1 h0 hl (hw.new h1))
  have HPE := Lib.hid (show ddTo (sortP l) n = ptsL l by unfold ptsL; rw [hw.1])
  clear hw hk
  generalize ptsL l = PL at *
  generalize hmm : PL.length = m at *
  have HM := Lib.hid hmm
  clear hmm
  have hm2 : (m : Int) < 2 := by omega
  go_enter Tryz.func57, Tryz.ntmps57
  go_wp2_with (first | (go_at_call 84; refine HCK.out.mono ?_; rintro e w1 ⟨rfl, hn1⟩; have HN1 := Lib.hid hn1; clear hn1) | (go_at_call 123; refine (HCL.out _ HN1.out).mono ?_; rintro e w2 ⟨g, cap, rfl, ho2, hn2⟩; have HO2 := Lib.hid ho2; have HN2 := Lib.hid (HN1.out.trans hn2); have HS := Lib.hid HN1.out.size; clear ho2 hn2) | (go_at_call 124; refine (sortP_c w1.heap.size g n cap l _ hl HN.out HO2.out).mono ?_; rintro e w3 ⟨rfl, ho3, hg3⟩; have HO3 := Lib.hid ho3; have HG3 := Lib.hid hg3; clear ho3 hg3) | (go_at_call 126; refine (compactP_c w1.heap.size g n cap (sortP l) _ hl (by rw [sortP_length]; exact HN.out) HO3.out).mono ?_; rintro e w4 ⟨rfl, ho4, hg4⟩; rw [HPE.out, HM.out] at ho4; rw [HPE.out, HM.out]; have HO4 := Lib.hid ho4; have HG4 := Lib.hid (HG3.out.trans hg4); clear ho4 hg4))
  have HNEW4 := Lib.hid (new_grownBy HN2.out HG4.out (Nat.le_trans HS.out (HO2.out.lt g rfl).1))
  go_ret2
  exact ⟨.slice (some ⟨g, 0, none⟩) m cap, by rw [HV.out.1]; rfl, by rw [HV.out.2]; exact ⟨_, cap, by rw [HM.out], fun _ => ⟨g, rfl, by rw [HM.out]; exact pts_own HO4.out HM.out⟩⟩, HNEW4.out⟩
theorem ptsL_bd {l : List P2} (hok : okL l = true) : bdL (ptsL l) := by
  have : okL (ptsL l) = true := by
    unfold okL
    rw [List.all_eq_true]
    intro p hp
    exact okP_iff.2 (valid_of hok ((ptsL_spec l).2 p |>.1 hp))
  exact bdL_of_ok this
theorem rev_bd {m : List P2} (h : bdL m) : bdL m.reverse := by
  intro i
  by_cases hi : i < m.length
  · rw [(rev_px m i hi).1, (rev_px m i hi).2]; exact h _
  · simp [px, py, List.getD_eq_getElem?_getD, hi]
/-- Hull of any list -/
theorem hull_any (av : Option Addr) (n c : Nat) (l : List P2) (w : World) (hl : n ≤ 1000000) (hp : PtsA w av n l) : Calls Tryz.prog 57 #[.slice av n c] w fun en w' => HullIs w w' en l := by
  by_cases h0 : 0 < n
  · obtain ⟨b, off, rfl, hw⟩ := hp.2 h0
    by_cases hk : ckPts l 400 = 0
    · by_cases hm : (ptsL l).length < 2
      · exact hull_one b off n c l w h0 hl hw hk hm
      · have hbd := ptsL_bd (ckPts_zero hk).2
        refine (hull_many b off n c l w h0 hl hw hk (by omega) hbd (by rw [revTo_rev]; exact rev_bd hbd)).mono ?_
        rintro en w' ⟨g, cap, rfl, ho, hn⟩
        have e1 : hullE l = 0 := hk
        have e2 : hullV l = hullL l := by unfold hullV; rw [if_neg (by rw [hk]; exact fun h => h rfl), if_neg hm]
        exact ⟨_, by rw [e1], by rw [e2]; exact PtsR.own ho, hn⟩
    · exact hull_err b off n c l w hl hw hk
  · obtain rfl : n = 0 := by omega
    have : l = [] := List.eq_nil_of_length_eq_zero hp.1
    subst this
    exact hull_nil av c w

end Go.Proofs.YtpdfbboagaflhaaGreat

set_option linter.unusedSimpArgs false
set_option linter.unusedVariables false
set_option maxRecDepth 100000
namespace Go.Proofs.YtpdfbboagaflhaaGreat
open Go.RowKit

/-- a point in a block of the call's own -/
def PtB (w : World) (H : Nat) (x y : Int) : Prop := H < w.heap.size ∧ (w.cell? ⟨H, 0, none⟩ = some (.int .i64 x) ∧ w.cell? ⟨H, 1, none⟩ = some (.int .i64 y)) ∧ (∀ o, w.frozen? ⟨H, o, none⟩ = false)
theorem PtB.new {w w' : World} {H : Nat} {a b : Int} (h : PtB w H a b) (hn : New w w') : PtB w' H a b := by
  obtain ⟨h1, ⟨h2, h3⟩, h6⟩ := h
  exact ⟨Nat.lt_of_lt_of_le h1 hn.size, ⟨(hn.cell h1).trans h2, (hn.cell h1).trans h3⟩, fun o => (hn.below.frozen (p := ⟨H, o, none⟩) h1).trans (h6 o)⟩
theorem lessB_ltP (l : List P2) (i j : Nat) : lessB (px l i) (py l i) (px l j) (py l j) = ltP l i j := by
  unfold lessB ltP
  rw [decide_eq_decide, orI_lt]
/-- an own row of points as a result -/
def HullR (w w' : World) (en : Ending) (H : List P2) : Prop := ∃ r, en = .returned (.tuple #[r, .int .i64 0]) ∧ PtsR w' r H ∧ New w w'

set_option maxHeartbeats 4000000 in
theorem ref_hull_long (av : Option Addr) (n c : Nat) (w : World) (hn : 400 < n) : Calls Tryz.prog 58 #[.slice av n c] w fun en w' => en = .returned (.tuple #[.slice none 0 0, .int .i64 2]) ∧ New w w' := by
  have hn2 : (400 : Int) < (n : Int) := by omega
  go_enter Tryz.func58, Tryz.ntmps58
  go_wp2_with fail
  all_goals (go_ret2; refine ⟨rfl, ?_⟩; (repeat (first | exact New.refl _ | apply New.alloc | apply New.aft | apply New.drew | refine New.setCell ?_ ?_ _)); all_goals (first | done | (simp [size_aft]; done) | (simp [size_aft]; omega)))
set_option maxHeartbeats 4000000 in
theorem ref_hull_nil (av : Option Addr) (c : Nat) (w : World) : Calls Tryz.prog 58 #[.slice av 0 c] w fun en w' => en = .returned (.tuple #[.slice none 0 0, .int .i64 0]) ∧ New w w' := by
  have HA := Lib.hid (fun w1 : World => ref_allValid_nil w1 av c)
  go_enter Tryz.func58, Tryz.ntmps58
  go_wp2_with (go_at_call 104; refine (HA.out _).mono ?_; rintro e w1 ⟨rfl, pw, rfl⟩)
  all_goals (go_ret2; refine ⟨rfl, ?_⟩; (repeat (first | exact New.refl _ | apply New.alloc | apply New.aft | apply New.drew | refine New.setCell ?_ ?_ _)); all_goals (first | done | (simp [size_aft]; done) | (simp [size_aft]; omega)))
set_option maxHeartbeats 4000000 in
theorem ref_hull_bad (b off n c : Nat) (l : List P2) (w : World) (hl : n ≤ 400) (hw : Pts w b off n l) (hok : okL l = false) : Calls Tryz.prog 58 #[.slice (some ⟨b, off, none⟩) n c] w fun en w' => en = .returned (.tuple #[.slice none 0 0, .int .i64 1]) ∧ New w w' := by
  have HA := Lib.hid (fun (w1 : World) (h1 : New w w1) => ref_allValid b off n c l w1 (by omega) (hw.new h1))
  rw [hok] at HA
  have hn2 : ¬ (400 : Int) < (n : Int) := by omega
  clear hw hok
  go_enter Tryz.func58, Tryz.ntmps58
  go_wp2_with (go_at_call 104; refine (HA.out _ (by (repeat (first | exact New.refl _ | apply New.alloc | apply New.aft | apply New.drew | refine New.setCell ?_ ?_ _)); all_goals (first | done | (simp [size_aft]; done) | (simp [size_aft]; omega)))).mono ?_; rintro e w1 ⟨rfl, pw, rfl⟩)
  all_goals (go_ret2; refine ⟨rfl, ?_⟩; (repeat (first | exact New.refl _ | apply New.alloc | apply New.aft | apply New.drew | refine New.setCell ?_ ?_ _)); all_goals (first | done | (simp [size_aft]; done) | (simp [size_aft]; omega)))

def lenV : Value → Nat
  | .slice _ n _ => n
  | _ => 0
/-- what a way round is for the reference -/
structure WayR (l H : List P2) : Prop where
  pos : 0 < H.length
  len : H.length ≤ 1000
  bd : ∀ k, k < H.length → (0 ≤ px H k ∧ px H k ≤ 10000) ∧ (0 ≤ py H k ∧ py H k ≤ 10000)
  first : ptAt H 0 = ptAt l (leastTo l l.length)
  step : ∀ k, k < H.length → scanTo l (ptAt H k) l.length = ptAt H ((k + 1) % H.length)
  mid : ∀ k, k + 1 < H.length → ptAt H (k + 1) ≠ ptAt H k ∧ ptAt H (k + 1) ≠ ptAt H 0

set_option maxHeartbeats 16000000 in
theorem ref_hull_go (b off n c : Nat) (l H : List P2) (w : World) (h0 : 0 < n) (hl : n ≤ 400) (hw : Pts w b off n l) (hok : okL l = true) (hH : WayR l H) :
    Calls Tryz.prog 58 #[.slice (some ⟨b, off, none⟩) n c] w fun en w' => HullR w w' en H := by
  obtain ⟨i0, hi, hz0, hz1, hz2⟩ := info_parts info23
  have HW := Lib.hid hw
  have HN := Lib.hid hw.1
  have HH := Lib.hid hH
  have HA := Lib.hid (fun (w1 : World) (h1 : New w w1) => ref_allValid b off n c l w1 (by omega) (HW.out.new h1))
  rw [hok] at HA
  have HB := Lib.hid (okL_bd hok)
  have HOK := Lib.hid hok
  have hn2 : ¬ (400 : Int) < (n : Int) := by omega
  have hnz : (n = 0) = False := eq_false (by omega)
  clear hw hok hH
  go_enter Tryz.func58, Tryz.ntmps58
  go_wp2_with (go_at_call 104; refine (HA.out _ (by (repeat (first | exact New.refl _ | apply New.alloc | apply New.aft | apply New.drew | refine New.setCell ?_ ?_ _)); all_goals (first | done | (simp [size_aft]; done) | (simp [size_aft]; omega)))).mono ?_; rintro e w1 ⟨rfl, hn⟩; have HN1 := Lib.hid (New.trans (by (repeat (first | exact New.refl _ | apply New.alloc | apply New.aft | apply New.drew | refine New.setCell ?_ ?_ _)); all_goals (first | done | (simp [size_aft]; done) | (simp [size_aft]; omega))) hn : New w w1); obtain ⟨_, hbb, hcc⟩ := HW.out.new HN1.out; obtain ⟨c1, c2⟩ := hcc 0 h0; simp only [Nat.zero_mul, Nat.add_zero] at c1 c2; have hbb1 : b < w1.heap.size + 1 := (by omega); clear hcc hn)
  go_loopw [6] (fun i wr => ∃ k : Nat, k ≤ n ∧ i = .int .i64 k ∧ PtB wr w1.heap.size (px l (leastTo l k)) (py l (leastTo l k)) ∧ New w1 wr) (fun i _ => n - (intOf i).toNat)
  case atStart => exact ⟨0, Nat.zero_le _, rfl, by refine ⟨?_, ⟨?_, ?_⟩, fun o => ?_⟩ <;> simp [go_sem, leastTo], (New.refl _).alloc _⟩
  case round =>
    rename_i wr
    obtain ⟨k, hk, rfl, hlow, hnew⟩ := hrel
    have HNW1 := Lib.hid hnew
    have HNW := Lib.hid (HN1.out.trans hnew)
    have HLOW := Lib.hid hlow
    clear hlow hnew
    by_cases hlt : k < n
    · obtain ⟨_, hb2, hcell2⟩ := HW.out.new HNW.out
      obtain ⟨c3, c4⟩ := hcell2 k hlt
      obtain ⟨hH1, ⟨l1, l2⟩, fz⟩ := HLOW.out
      clear hcell2
      have hlo : leastTo l (k + 1) = if ltP l k (leastTo l k) = true then k else leastTo l k := rfl
      have HLS := Lib.hid (fun w1 : World => ref_less (px l k) (py l k) (px l (leastTo l k)) (py l (leastTo l k)) w1)
      rw [lessB_ltP] at HLS
      cases hp : ltP l k (leastTo l k)
      · rw [hp] at HLS
        have HLO := Lib.hid (show leastTo l (k + 1) = leastTo l k by rw [hlo, hp]; rfl)
        clear hlo hp
        generalize px l k = X at *
        generalize py l k = Y at *
        generalize hLX : px l (leastTo l k) = LX at *
        generalize hLY : py l (leastTo l k) = LY at *
        have HLX := Lib.hid hLX
        have HLY := Lib.hid hLY
        clear hLX hLY
        go_wp2_with fail
        first | refine wp_region_at2 (by kernel_rfl) (by kernel_rfl) ?_ | refine wp_region_at (by kernel_rfl) (by kernel_rfl) ?_
        repeat (go_big_quiet_step (first | (go_at_call 116; exact calls_new (HLS.out _))))
        refine wpQuiet_nil ?_
        rintro _ ⟨q0, rfl⟩
        go_wp2_with fail
        go_roundw
        case rel => exact ⟨k + 1, by omega, by go_num, by rw [HLO.out, HLX.out, HLY.out]; exact HLOW.out.new (by (repeat (first | exact New.refl _ | apply New.alloc | apply New.aft | apply New.drew | refine New.setCell ?_ ?_ _)); all_goals (first | done | (simp [size_aft]; done) | (simp [size_aft]; omega))), HNW1.out.trans (by (repeat (first | exact New.refl _ | apply New.alloc | apply New.aft | apply New.drew | refine New.setCell ?_ ?_ _)); all_goals (first | done | (simp [size_aft]; done) | (simp [size_aft]; omega)))⟩
        case measure => simp [intOf]; omega
      · rw [hp] at HLS
        have HLO := Lib.hid (show leastTo l (k + 1) = k by rw [hlo, hp]; rfl)
        clear hlo hp
        generalize hX : px l k = X at *
        generalize hY : py l k = Y at *
        have HX := Lib.hid hX
        have HY := Lib.hid hY
        clear hX hY
        generalize px l (leastTo l k) = LX at *
        generalize py l (leastTo l k) = LY at *
        go_wp2_with fail
        first | refine wp_region_at2 (by kernel_rfl) (by kernel_rfl) ?_ | refine wp_region_at (by kernel_rfl) (by kernel_rfl) ?_
        repeat (go_big_quiet_step (first | (go_at_call 116; exact calls_new (HLS.out _))))
        refine wpQuiet_nil ?_
        rintro _ ⟨q0, rfl⟩
        have hH2 : w1.heap.size < wr.heap.size + q0.os.size := by omega
        have hH3 : b < wr.heap.size + q0.os.size := by omega
        go_wp2_with fail
        go_roundw
        case rel => exact ⟨k + 1, by omega, by go_num, by rw [HLO.out, HX.out, HY.out]; refine ⟨?_, ⟨?_, ?_⟩, fun o => ?_⟩ <;> simp [go_sem, size_aft, *], (by (repeat (first | exact HNW1.out | exact New.refl _ | apply New.alloc | apply New.aft | apply New.drew | refine New.setCell ?_ ?_ _)); all_goals (first | done | (simp [size_aft]; done) | (simp [size_aft]; omega)))⟩
        case measure => simp [intOf]; omega
    · have hkn : ¬ (k : Int) < (n : Int) := by omega
      obtain ⟨wl, rfl⟩ : ∃ wl : World, wl = wr := ⟨_, rfl⟩
      have hfi : px l (leastTo l k) = px H 0 ∧ py l (leastTo l k) = py H 0 := by
        have e : k = l.length := by rw [HN.out]; omega
        have := HH.out.first
        rw [← e] at this
        simp only [ptAt, Prod.mk.injEq] at this
        exact ⟨this.1.symm, this.2.symm⟩
      rw [hfi.1, hfi.2] at HLOW
      clear hfi
      obtain ⟨hH1, ⟨l1, l2⟩, fz⟩ := HLOW.out
      have HT1 := Lib.hid (show H.take 1 = [(px H 0, py H 0)] by
        have := take_snoc H 0 HH.out.pos
        simpa using this)
      have hb0 := HH.out.bd 0 HH.out.pos
      generalize hX0 : px H 0 = X0 at *
      generalize hY0 : py H 0 = Y0 at *
      have HX0 := Lib.hid hX0
      have HY0 := Lib.hid hY0
      clear hX0 hY0
      go_wp2_with fail
      go_loopw [8] (fun v wx => ∃ (m G cap : Nat), 1 ≤ m ∧ m ≤ H.length ∧ v = .slice (some ⟨G, 0, none⟩) m cap ∧ wx.ownsRow wl.heap.size 23 2 (.slice (some ⟨G, 0, none⟩) m cap) m (ptCells (H.take m)) ∧ New wl wx) (fun v _ => H.length - lenV v)
      case atStart =>
        refine ⟨1, wl.heap.size, 1, Nat.le_refl _, HH.out.pos, rfl, ?_, (New.refl _).alloc _⟩
        rw [HT1.out]
        exact own_mk rfl (Nat.le_refl _) (heap_alloc_new _ _) (Nat.le_refl _) (by unfold maxLen; omega) rfl rfl
      case round =>
        obtain ⟨wx, rfl⟩ : ∃ wx : World, wx = wr := ⟨_, rfl⟩
        obtain ⟨m, G, cap, hm1, hmH, rfl, hown, hnew⟩ := hrel
        have HO := Lib.hid hown
        have HNX := Lib.hid hnew
        have HNXW := Lib.hid (HNW.out.trans hnew)
        have HLX := Lib.hid (HLOW.out.new hnew)
        have hm1000 := HH.out.len
        clear hown hnew
        obtain ⟨⟨p1, p2⟩, _⟩ := own_pt HO.out (show (H.take m).length = m by rw [List.length_take]; omega) (show m - 1 < m by omega)
        have hpx : px (H.take m) (m - 1) = px H (m - 1) ∧ py (H.take m) (m - 1) = py H (m - 1) := by
          simp [px, py, List.getD_eq_getElem?_getD, List.getElem?_take, show m - 1 < m by omega]
        rw [hpx.1] at p1
        rw [hpx.2] at p2
        clear hpx
        have hcm := (own_cap HO.out).1
        have hGl := (HO.out.lt G rfl).2
        have hbm := HH.out.bd (m - 1) (by omega)
        have HST := Lib.hid (HH.out.step (m - 1) (by omega))
        rw [show m - 1 + 1 = m by omega, HN.out] at HST
        rw [show ptAt H (m - 1) = (px H (m - 1), py H (m - 1)) from rfl] at HST
        have HMID := Lib.hid (fun h : m < H.length => HH.out.mid (m - 1) (by omega))
        generalize hPX : px H (m - 1) = PX at *
        generalize hPY : py H (m - 1) = PY at *
        have HPX := Lib.hid hPX
        have HPY := Lib.hid hPY
        clear hPX hPY
        have hw1 : IntKind.i64.wrap ((m : Int) - 1) = (m : Int) - 1 := IntWalk.i64_in _ (by omega)
        have hp0 : (0 : Int) ≤ (m : Int) - 1 := by omega
        have ht1 : (1 : Int) ≤ (m : Int) := by omega
        have hq1 : ((m : Int) - 1).toNat = m - 1 := by omega
        have hq2 : (m : Int) - 1 < (m : Int) := by omega
        have hG1 : G < wx.heap.size + 1 := by omega
        obtain ⟨hH4, ⟨l3, l4⟩, fz2⟩ := HLX.out
        go_wp2_with fail
        go_loopw [11] (fun i wy => ∃ j : Nat, j ≤ n ∧ i = .int .i64 j ∧ PtB wy wx.heap.size PX PY ∧ PtB wy (wx.heap.size + 1) (scanTo l (PX, PY) j).1 (scanTo l (PX, PY) j).2 ∧ New wx wy) (fun i _ => n - (intOf i).toNat)
        case atStart => exact ⟨0, Nat.zero_le _, rfl, by refine ⟨?_, ⟨?_, ?_⟩, fun o => ?_⟩ <;> simp [go_sem], by refine ⟨?_, ⟨?_, ?_⟩, fun o => ?_⟩ <;> simp [go_sem, scanTo], ((New.refl _).alloc _).alloc _⟩
        case round =>
          obtain ⟨wy, rfl⟩ : ∃ wy : World, wy = wr := ⟨_, rfl⟩
          obtain ⟨j, hj, rfl, hP, hQ, hnew⟩ := hrel
          have HNY := Lib.hid hnew
          have HNYW := Lib.hid (HNXW.out.trans hnew)
          have HQH := Lib.hid hQ
          obtain ⟨hPs, ⟨pp1, pp2⟩, pfz⟩ := hP
          obtain ⟨hQs, ⟨qq1, qq2⟩, qfz⟩ := hQ
          clear hnew
          by_cases hjn : j < n
          · obtain ⟨_, hb3, hcell3⟩ := HW.out.new HNYW.out
            obtain ⟨c3, c4⟩ := hcell3 j hjn
            clear hcell3
            have bj := HB.out j
            have hqv : (0 ≤ (scanTo l (PX, PY) j).1 ∧ (scanTo l (PX, PY) j).1 ≤ 10000) ∧ (0 ≤ (scanTo l (PX, PY) j).2 ∧ (scanTo l (PX, PY) j).2 ≤ 10000) := by
              rcases scan_mem l (PX, PY) j (by rw [HN.out]; omega) with h | h
              · rw [h]; exact hbm
              · exact valid_of HOK.out h
            have HSC0 := Lib.hid (show scanTo l (PX, PY) (j + 1) = if scanTo l (PX, PY) j = (PX, PY) then ptAt l j else if takes (PX, PY) (scanTo l (PX, PY) j) (ptAt l j) then ptAt l j else scanTo l (PX, PY) j from rfl)
            rw [show ptAt l j = (px l j, py l j) from rfl] at HSC0
            generalize hq : scanTo l (PX, PY) j = q at *
            have HQE := Lib.hid hq
            clear hq
            obtain ⟨QX, QY⟩ := q
            simp only at qq1 qq2 hqv
            generalize px l j = X at *
            generalize py l j = Y at *
            by_cases hqp : QX = PX ∧ QY = PY
            · obtain ⟨rfl, rfl⟩ := hqp
              have HSC := Lib.hid (show scanTo l (QX, QY) (j + 1) = (X, Y) by rw [HSC0.out, if_pos rfl])
              clear HSC0
              go_wp2_with fail
              go_roundw
              case rel => exact ⟨j + 1, by omega, by go_num, by refine ⟨?_, ⟨?_, ?_⟩, fun o => ?_⟩ <;> simp [go_sem, size_aft, *], by rw [HSC.out]; refine ⟨?_, ⟨?_, ?_⟩, fun o => ?_⟩ <;> simp [go_sem, size_aft, *], (by (repeat (first | exact HNY.out | exact New.refl _ | apply New.alloc | apply New.aft | apply New.drew | refine New.setCell ?_ ?_ _)); all_goals (first | done | (simp [size_aft]; done) | (simp [size_aft]; omega)))⟩
              case measure => simp [intOf]; omega
            · have HSC1 := Lib.hid (show scanTo l (PX, PY) (j + 1) = if takes (PX, PY) (QX, QY) (X, Y) then (X, Y) else (QX, QY) by rw [HSC0.out, if_neg (fun e => hqp (by simpa using e))])
              have HTU := Lib.hid (fun w1 : World => ref_turn PX PY QX QY X Y w1 (by omega) (by omega) (by omega) (by omega) (by omega) (by omega))
              have HF1 := Lib.hid (fun w1 : World => ref_far PX PY X Y w1 hbm.1 hbm.2 bj.1 bj.2)
              have HF2 := Lib.hid (fun w1 : World => ref_far PX PY QX QY w1 hbm.1 hbm.2 hqv.1 hqv.2)
              have HTK := Lib.hid (show takes (PX, PY) (QX, QY) (X, Y) = (decide (turnI PX PY QX QY X Y < 0) || (turnI PX PY QX QY X Y == 0 && decide (farN PX PY QX QY < farN PX PY X Y))) from rfl)
              clear HSC0
              have htb := turnI_bd PX PY QX QY X Y
              generalize turnI PX PY QX QY X Y = T at *
              generalize farN PX PY QX QY = F2 at *
              generalize farN PX PY X Y = F1 at *
              by_cases hqx : QX = PX
              · have hqy : ¬ QY = PY := fun e => hqp ⟨hqx, e⟩
                clear hqp
                subst hqx
                by_cases ht : T < 0
                · have HSC := Lib.hid (show scanTo l (QX, PY) (j + 1) = (X, Y) by rw [HSC1.out, HTK.out]; simp [ht])
                  clear HSC1 HTK
                  go_wp2_with fail
                  first | refine wp_region_at2 (by kernel_rfl) (by kernel_rfl) ?_ | refine wp_region_at (by kernel_rfl) (by kernel_rfl) ?_
                  repeat (go_big_quiet_step (first | (go_at_call 87; (with_reducible exact calls_new (HTU.out _)))))
                  refine wpQuiet_nil ?_
                  rintro _ ⟨q0, rfl⟩
                  have e1 : wx.heap.size < wy.heap.size + q0.os.size := by omega
                  have e2 : wx.heap.size + 1 < wy.heap.size + q0.os.size := by omega
                  have e3 : b < wy.heap.size + q0.os.size := by omega
                  go_wp2_with fail
                  first | refine wp_region_at2 (by kernel_rfl) (by kernel_rfl) ?_ | refine wp_region_at (by kernel_rfl) (by kernel_rfl) ?_
                  repeat (go_big_quiet_step (first | (go_at_call 128; (with_reducible exact calls_new (HF1.out _))) | (go_at_call 128; (with_reducible exact calls_new (HF2.out _)))))
                  refine wpQuiet_nil ?_
                  rintro _ ⟨q1, rfl⟩
                  have e4 : wx.heap.size < wy.heap.size + q0.os.size + q1.os.size := by omega
                  have e5 : wx.heap.size + 1 < wy.heap.size + q0.os.size + q1.os.size := by omega
                  have e6 : b < wy.heap.size + q0.os.size + q1.os.size := by omega
                  go_wp2_with fail
                  go_roundw
                  case rel => exact ⟨j + 1, by omega, by go_num, by refine ⟨?_, ⟨?_, ?_⟩, fun o => ?_⟩ <;> simp [go_sem, size_aft, *], by rw [HSC.out]; refine ⟨?_, ⟨?_, ?_⟩, fun o => ?_⟩ <;> simp [go_sem, size_aft, *], (by (repeat (first | exact HNY.out | exact New.refl _ | apply New.alloc | apply New.aft | apply New.drew | refine New.setCell ?_ ?_ _)); all_goals (first | done | (simp [size_aft]; done) | (simp [size_aft]; omega)))⟩
                  case measure => simp [intOf]; omega
                · by_cases ht0 : T = 0
                  · subst ht0
                    by_cases hf : F2 < F1
                    · have HSC := Lib.hid (show scanTo l (QX, PY) (j + 1) = (X, Y) by rw [HSC1.out, HTK.out]; simp [hf])
                      clear HSC1 HTK
                      go_wp2_with fail
                      first | refine wp_region_at2 (by kernel_rfl) (by kernel_rfl) ?_ | refine wp_region_at (by kernel_rfl) (by kernel_rfl) ?_
                      repeat (go_big_quiet_step (first | (go_at_call 87; (with_reducible exact calls_new (HTU.out _)))))
                      refine wpQuiet_nil ?_
                      rintro _ ⟨q0, rfl⟩
                      have e1 : wx.heap.size < wy.heap.size + q0.os.size := by omega
                      have e2 : wx.heap.size + 1 < wy.heap.size + q0.os.size := by omega
                      have e3 : b < wy.heap.size + q0.os.size := by omega
                      go_wp2_with fail
                      first | refine wp_region_at2 (by kernel_rfl) (by kernel_rfl) ?_ | refine wp_region_at (by kernel_rfl) (by kernel_rfl) ?_
                      repeat (go_big_quiet_step (first | (go_at_call 128; (with_reducible exact calls_new (HF1.out _))) | (go_at_call 128; (with_reducible exact calls_new (HF2.out _)))))
                      refine wpQuiet_nil ?_
                      rintro _ ⟨q1, rfl⟩
                      have e4 : wx.heap.size < wy.heap.size + q0.os.size + q1.os.size := by omega
                      have e5 : wx.heap.size + 1 < wy.heap.size + q0.os.size + q1.os.size := by omega
                      have e6 : b < wy.heap.size + q0.os.size + q1.os.size := by omega
                      go_wp2_with fail
                      go_roundw
                      case rel => exact ⟨j + 1, by omega, by go_num, by refine ⟨?_, ⟨?_, ?_⟩, fun o => ?_⟩ <;> simp [go_sem, size_aft, *], by rw [HSC.out]; refine ⟨?_, ⟨?_, ?_⟩, fun o => ?_⟩ <;> simp [go_sem, size_aft, *], (by (repeat (first | exact HNY.out | exact New.refl _ | apply New.alloc | apply New.aft | apply New.drew | refine New.setCell ?_ ?_ _)); all_goals (first | done | (simp [size_aft]; done) | (simp [size_aft]; omega)))⟩
                      case measure => simp [intOf]; omega
                    · have HSC := Lib.hid (show scanTo l (QX, PY) (j + 1) = (QX, QY) by rw [HSC1.out, HTK.out]; simp [hf])
                      clear HSC1 HTK
                      go_wp2_with fail
                      first | refine wp_region_at2 (by kernel_rfl) (by kernel_rfl) ?_ | refine wp_region_at (by kernel_rfl) (by kernel_rfl) ?_
                      repeat (go_big_quiet_step (first | (go_at_call 87; (with_reducible exact calls_new (HTU.out _)))))
                      refine wpQuiet_nil ?_
                      rintro _ ⟨q0, rfl⟩
                      have e1 : wx.heap.size < wy.heap.size + q0.os.size := by omega
                      have e2 : wx.heap.size + 1 < wy.heap.size + q0.os.size := by omega
                      have e3 : b < wy.heap.size + q0.os.size := by omega
                      go_wp2_with fail
                      first | refine wp_region_at2 (by kernel_rfl) (by kernel_rfl) ?_ | refine wp_region_at (by kernel_rfl) (by kernel_rfl) ?_
                      repeat (go_big_quiet_step (first | (go_at_call 128; (with_reducible exact calls_new (HF1.out _))) | (go_at_call 128; (with_reducible exact calls_new (HF2.out _)))))
                      refine wpQuiet_nil ?_
                      rintro _ ⟨q1, rfl⟩
                      have e4 : wx.heap.size < wy.heap.size + q0.os.size + q1.os.size := by omega
                      have e5 : wx.heap.size + 1 < wy.heap.size + q0.os.size + q1.os.size := by omega
                      have e6 : b < wy.heap.size + q0.os.size + q1.os.size := by omega
                      go_wp2_with fail
                      go_roundw
                      case rel => exact ⟨j + 1, by omega, by go_num, by refine ⟨?_, ⟨?_, ?_⟩, fun o => ?_⟩ <;> simp [go_sem, size_aft, *], by rw [HSC.out]; refine ⟨?_, ⟨?_, ?_⟩, fun o => ?_⟩ <;> simp [go_sem, size_aft, *], (by (repeat (first | exact HNY.out | exact New.refl _ | apply New.alloc | apply New.aft | apply New.drew | refine New.setCell ?_ ?_ _)); all_goals (first | done | (simp [size_aft]; done) | (simp [size_aft]; omega)))⟩
                      case measure => simp [intOf]; omega
                  · obtain rfl : T = 1 := by omega
                    have HSC := Lib.hid (show scanTo l (QX, PY) (j + 1) = (QX, QY) by rw [HSC1.out, HTK.out]; simp)
                    clear HSC1 HTK ht0 ht htb
                    go_wp2_with fail
                    first | refine wp_region_at2 (by kernel_rfl) (by kernel_rfl) ?_ | refine wp_region_at (by kernel_rfl) (by kernel_rfl) ?_
                    repeat (go_big_quiet_step (first | (go_at_call 87; (with_reducible exact calls_new (HTU.out _)))))
                    refine wpQuiet_nil ?_
                    rintro _ ⟨q0, rfl⟩
                    have e1 : wx.heap.size < wy.heap.size + q0.os.size := by omega
                    have e2 : wx.heap.size + 1 < wy.heap.size + q0.os.size := by omega
                    have e3 : b < wy.heap.size + q0.os.size := by omega
                    go_wp2_with fail
                    first | refine wp_region_at2 (by kernel_rfl) (by kernel_rfl) ?_ | refine wp_region_at (by kernel_rfl) (by kernel_rfl) ?_
                    repeat (go_big_quiet_step (first | (go_at_call 128; (with_reducible exact calls_new (HF1.out _))) | (go_at_call 128; (with_reducible exact calls_new (HF2.out _)))))
                    refine wpQuiet_nil ?_
                    rintro _ ⟨q1, rfl⟩
                    have e4 : wx.heap.size < wy.heap.size + q0.os.size + q1.os.size := by omega
                    have e5 : wx.heap.size + 1 < wy.heap.size + q0.os.size + q1.os.size := by omega
                    have e6 : b < wy.heap.size + q0.os.size + q1.os.size := by omega
                    go_wp2_with fail
                    go_roundw
                    case rel => exact ⟨j + 1, by omega, by go_num, by refine ⟨?_, ⟨?_, ?_⟩, fun o => ?_⟩ <;> simp [go_sem, size_aft, *], by rw [HSC.out]; refine ⟨?_, ⟨?_, ?_⟩, fun o => ?_⟩ <;> simp [go_sem, size_aft, *], (by (repeat (first | exact HNY.out | exact New.refl _ | apply New.alloc | apply New.aft | apply New.drew | refine New.setCell ?_ ?_ _)); all_goals (first | done | (simp [size_aft]; done) | (simp [size_aft]; omega)))⟩
                    case measure => simp [intOf]; omega
              · clear hqp
                by_cases ht : T < 0
                · have HSC := Lib.hid (show scanTo l (PX, PY) (j + 1) = (X, Y) by rw [HSC1.out, HTK.out]; simp [ht])
                  clear HSC1 HTK
                  go_wp2_with fail
                  first | refine wp_region_at2 (by kernel_rfl) (by kernel_rfl) ?_ | refine wp_region_at (by kernel_rfl) (by kernel_rfl) ?_
                  repeat (go_big_quiet_step (first | (go_at_call 87; (with_reducible exact calls_new (HTU.out _)))))
                  refine wpQuiet_nil ?_
                  rintro _ ⟨q0, rfl⟩
                  have e1 : wx.heap.size < wy.heap.size + q0.os.size := by omega
                  have e2 : wx.heap.size + 1 < wy.heap.size + q0.os.size := by omega
                  have e3 : b < wy.heap.size + q0.os.size := by omega
                  go_wp2_with fail
                  first | refine wp_region_at2 (by kernel_rfl) (by kernel_rfl) ?_ | refine wp_region_at (by kernel_rfl) (by kernel_rfl) ?_
                  repeat (go_big_quiet_step (first | (go_at_call 128; (with_reducible exact calls_new (HF1.out _))) | (go_at_call 128; (with_reducible exact calls_new (HF2.out _)))))
                  refine wpQuiet_nil ?_
                  rintro _ ⟨q1, rfl⟩
                  have e4 : wx.heap.size < wy.heap.size + q0.os.size + q1.os.size := by omega
                  have e5 : wx.heap.size + 1 < wy.heap.size + q0.os.size + q1.os.size := by omega
                  have e6 : b < wy.heap.size + q0.os.size + q1.os.size := by omega
                  go_wp2_with fail
                  go_roundw
                  case rel => exact ⟨j + 1, by omega, by go_num, by refine ⟨?_, ⟨?_, ?_⟩, fun o => ?_⟩ <;> simp [go_sem, size_aft, *], by rw [HSC.out]; refine ⟨?_, ⟨?_, ?_⟩, fun o => ?_⟩ <;> simp [go_sem, size_aft, *], (by (repeat (first | exact HNY.out | exact New.refl _ | apply New.alloc | apply New.aft | apply New.drew | refine New.setCell ?_ ?_ _)); all_goals (first | done | (simp [size_aft]; done) | (simp [size_aft]; omega)))⟩
                  case measure => simp [intOf]; omega
                · by_cases ht0 : T = 0
                  · subst ht0
                    by_cases hf : F2 < F1
                    · have HSC := Lib.hid (show scanTo l (PX, PY) (j + 1) = (X, Y) by rw [HSC1.out, HTK.out]; simp [hf])
                      clear HSC1 HTK
                      go_wp2_with fail
                      first | refine wp_region_at2 (by kernel_rfl) (by kernel_rfl) ?_ | refine wp_region_at (by kernel_rfl) (by kernel_rfl) ?_
                      repeat (go_big_quiet_step (first | (go_at_call 87; (with_reducible exact calls_new (HTU.out _)))))
                      refine wpQuiet_nil ?_
                      rintro _ ⟨q0, rfl⟩
                      have e1 : wx.heap.size < wy.heap.size + q0.os.size := by omega
                      have e2 : wx.heap.size + 1 < wy.heap.size + q0.os.size := by omega
                      have e3 : b < wy.heap.size + q0.os.size := by omega
                      go_wp2_with fail
                      first | refine wp_region_at2 (by kernel_rfl) (by kernel_rfl) ?_ | refine wp_region_at (by kernel_rfl) (by kernel_rfl) ?_
                      repeat (go_big_quiet_step (first | (go_at_call 128; (with_reducible exact calls_new (HF1.out _))) | (go_at_call 128; (with_reducible exact calls_new (HF2.out _)))))
                      refine wpQuiet_nil ?_
                      rintro _ ⟨q1, rfl⟩
                      have e4 : wx.heap.size < wy.heap.size + q0.os.size + q1.os.size := by omega
                      have e5 : wx.heap.size + 1 < wy.heap.size + q0.os.size + q1.os.size := by omega
                      have e6 : b < wy.heap.size + q0.os.size + q1.os.size := by omega
                      go_wp2_with fail
                      go_roundw
                      case rel => exact ⟨j + 1, by omega, by go_num, by refine ⟨?_, ⟨?_, ?_⟩, fun o => ?_⟩ <;> simp [go_sem, size_aft, *], by rw [HSC.out]; refine ⟨?_, ⟨?_, ?_⟩, fun o => ?_⟩ <;> simp [go_sem, size_aft, *], (by (repeat (first | exact HNY.out | exact New.refl _ | apply New.alloc | apply New.aft | apply New.drew | refine New.setCell ?_ ?_ _)); all_goals (first | done | (simp [size_aft]; done) | (simp [size_aft]; omega)))⟩
                      case measure => simp [intOf]; omega
                    · have HSC := Lib.hid (show scanTo l (PX, PY) (j + 1) = (QX, QY) by rw [HSC1.out, HTK.out]; simp [hf])
                      clear HSC1 HTK
                      go_wp2_with fail
                      first | refine wp_region_at2 (by kernel_rfl) (by kernel_rfl) ?_ | refine wp_region_at (by kernel_rfl) (by kernel_rfl) ?_
                      repeat (go_big_quiet_step (first | (go_at_call 87; (with_reducible exact calls_new (HTU.out _)))))
                      refine wpQuiet_nil ?_
                      rintro _ ⟨q0, rfl⟩
                      have e1 : wx.heap.size < wy.heap.size + q0.os.size := by omega
                      have e2 : wx.heap.size + 1 < wy.heap.size + q0.os.size := by omega
                      have e3 : b < wy.heap.size + q0.os.size := by omega
                      go_wp2_with fail
                      first | refine wp_region_at2 (by kernel_rfl) (by kernel_rfl) ?_ | refine wp_region_at (by kernel_rfl) (by kernel_rfl) ?_
                      repeat (go_big_quiet_step (first | (go_at_call 128; (with_reducible exact calls_new (HF1.out _))) | (go_at_call 128; (with_reducible exact calls_new (HF2.out _)))))
                      refine wpQuiet_nil ?_
                      rintro _ ⟨q1, rfl⟩
                      have e4 : wx.heap.size < wy.heap.size + q0.os.size + q1.os.size := by omega
                      have e5 : wx.heap.size + 1 < wy.heap.size + q0.os.size + q1.os.size := by omega
                      have e6 : b < wy.heap.size + q0.os.size + q1.os.size := by omega
                      go_wp2_with fail
                      go_roundw
                      case rel => exact ⟨j + 1, by omega, by go_num, by refine ⟨?_, ⟨?_, ?_⟩, fun o => ?_⟩ <;> simp [go_sem, size_aft, *], by rw [HSC.out]; refine ⟨?_, ⟨?_, ?_⟩, fun o => ?_⟩ <;> simp [go_sem, size_aft, *], (by (repeat (first | exact HNY.out | exact New.refl _ | apply New.alloc | apply New.aft | apply New.drew | refine New.setCell ?_ ?_ _)); all_goals (first | done | (simp [size_aft]; done) | (simp [size_aft]; omega)))⟩
                      case measure => simp [intOf]; omega
                  · obtain rfl : T = 1 := by omega
                    have HSC := Lib.hid (show scanTo l (PX, PY) (j + 1) = (QX, QY) by rw [HSC1.out, HTK.out]; simp)
                    clear HSC1 HTK ht0 ht htb
                    go_wp2_with fail
                    first | refine wp_region_at2 (by kernel_rfl) (by kernel_rfl) ?_ | refine wp_region_at (by kernel_rfl) (by kernel_rfl) ?_
                    repeat (go_big_quiet_step (first | (go_at_call 87; (with_reducible exact calls_new (HTU.out _)))))
                    refine wpQuiet_nil ?_
                    rintro _ ⟨q0, rfl⟩
                    have e1 : wx.heap.size < wy.heap.size + q0.os.size := by omega
                    have e2 : wx.heap.size + 1 < wy.heap.size + q0.os.size := by omega
                    have e3 : b < wy.heap.size + q0.os.size := by omega
                    go_wp2_with fail
                    first | refine wp_region_at2 (by kernel_rfl) (by kernel_rfl) ?_ | refine wp_region_at (by kernel_rfl) (by kernel_rfl) ?_
                    repeat (go_big_quiet_step (first | (go_at_call 128; (with_reducible exact calls_new (HF1.out _))) | (go_at_call 128; (with_reducible exact calls_new (HF2.out _)))))
                    refine wpQuiet_nil ?_
                    rintro _ ⟨q1, rfl⟩
                    have e4 : wx.heap.size < wy.heap.size + q0.os.size + q1.os.size := by omega
                    have e5 : wx.heap.size + 1 < wy.heap.size + q0.os.size + q1.os.size := by omega
                    have e6 : b < wy.heap.size + q0.os.size + q1.os.size := by omega
                    go_wp2_with fail
                    go_roundw
                    case rel => exact ⟨j + 1, by omega, by go_num, by refine ⟨?_, ⟨?_, ?_⟩, fun o => ?_⟩ <;> simp [go_sem, size_aft, *], by rw [HSC.out]; refine ⟨?_, ⟨?_, ?_⟩, fun o => ?_⟩ <;> simp [go_sem, size_aft, *], (by (repeat (first | exact HNY.out | exact New.refl _ | apply New.alloc | apply New.aft | apply New.drew | refine New.setCell ?_ ?_ _)); all_goals (first | done | (simp [size_aft]; done) | (simp [size_aft]; omega)))⟩
                    case measure => simp [intOf]; omega
          · have hjn2 : ¬ (j : Int) < (n : Int) := by omega
            have hje : j = n := by omega
            rw [hje, HST.out] at qq1 qq2 HQH
            have hml := HH.out.pos
            by_cases hmH2 : m < H.length
            · rw [Nat.mod_eq_of_lt hmH2] at qq1 qq2
              have hmid := HMID.out hmH2
              have hv := HH.out.bd m hmH2
              have HTM := Lib.hid (show H.take (m + 1) = H.take m ++ [(px H m, py H m)] from take_snoc H m hmH2)
              rw [show m - 1 + 1 = m by omega] at hmid
              rw [show ptAt H (m - 1) = (px H (m - 1), py H (m - 1)) from rfl, show ptAt H 0 = (px H 0, py H 0) from rfl, show ptAt H m = (px H m, py H m) from rfl, HPX.out, HPY.out, HX0.out, HY0.out] at hmid
              rw [show ptAt H m = (px H m, py H m) from rfl] at qq1 qq2
              simp only at qq1 qq2
              generalize px H m = QX at *
              generalize py H m = QY at *
              have d1 : ¬ (QX = PX ∧ QY = PY) := fun h => hmid.1 (by rw [h.1, h.2])
              have d2 : ¬ (QX = X0 ∧ QY = Y0) := fun h => hmid.2 (by rw [h.1, h.2])
              clear hmid HMID HQH
              have o1 := (HNX.out.trans HNY.out).cell hH1 (o := 0)
              have o2 := (HNX.out.trans HNY.out).cell hH1 (o := 1)
              rw [l1] at o1
              rw [l2] at o2
              by_cases k1 : QX = PX
              · have k2 : ¬ QY = PY := fun e => d1 ⟨k1, e⟩
                clear d1
                subst k1
                by_cases k3 : QX = X0
                · have k4 : ¬ QY = Y0 := fun e => d2 ⟨k3, e⟩
                  clear d2
                  subst k3
                  go_wp2_with (at_builtin; refine wpList_append_lies _ rfl (.tmp 103) (.tmp 105) 40 rfl wl.heap.size 23 i0 _ 2 16 Tryz.underlying40 hi hz0 hz1 hz2 rfl (by omega) (.slice (some ⟨G, 0, none⟩) m cap) m (ptCells (H.take m)) rfl ?_ _ 1 1 [.int .i64 QX, .int .i64 QY] rfl rfl ?_ ?_ (by omega) ?_ ?_ ?_ _ rfl ?_; exact own_new HO.out (by (repeat (first | exact HNY.out | exact New.refl _ | apply New.alloc | apply New.aft | apply New.drew | refine New.setCell ?_ ?_ _)); all_goals (first | done | (simp [size_aft]; done) | (simp [size_aft]; omega))); (refine cells_new _ _ _ _ ?_); (simp [go_sem]); (intro u hu; simp at hu; rcases hu with rfl | rfl <;> rfl); (unfold maxLen; omega); omega; (have z1 := HNX.out.size; have z2 := HNY.out.size; simp [go_sem]; omega); intro g4 cap4 w4 hown4 hgrow4 hor4 hlt4; have HNW4 := Lib.hid (show New wl w4 from new_grown ((HNX.out.trans HNY.out).trans (by (repeat (first | exact New.refl _ | apply New.alloc | apply New.aft | apply New.drew | refine New.setCell ?_ ?_ _)); all_goals (first | done | (simp [size_aft]; done) | (simp [size_aft]; omega)))) hgrow4 HO.out); have HO4 := Lib.hid hown4; clear hown4 hgrow4 hor4 hlt4)
                  go_roundw
                  case rel => exact ⟨m + 1, g4, cap4, by omega, by omega, rfl, by rw [HTM.out, ptCells_snoc]; exact HO4.out, HNW4.out⟩
                  case measure => simp [lenV]; omega
                · clear d2
                  go_wp2_with (at_builtin; refine wpList_append_lies _ rfl (.tmp 103) (.tmp 105) 40 rfl wl.heap.size 23 i0 _ 2 16 Tryz.underlying40 hi hz0 hz1 hz2 rfl (by omega) (.slice (some ⟨G, 0, none⟩) m cap) m (ptCells (H.take m)) rfl ?_ _ 1 1 [.int .i64 QX, .int .i64 QY] rfl rfl ?_ ?_ (by omega) ?_ ?_ ?_ _ rfl ?_; exact own_new HO.out (by (repeat (first | exact HNY.out | exact New.refl _ | apply New.alloc | apply New.aft | apply New.drew | refine New.setCell ?_ ?_ _)); all_goals (first | done | (simp [size_aft]; done) | (simp [size_aft]; omega))); (refine cells_new _ _ _ _ ?_); (simp [go_sem]); (intro u hu; simp at hu; rcases hu with rfl | rfl <;> rfl); (unfold maxLen; omega); omega; (have z1 := HNX.out.size; have z2 := HNY.out.size; simp [go_sem]; omega); intro g4 cap4 w4 hown4 hgrow4 hor4 hlt4; have HNW4 := Lib.hid (show New wl w4 from new_grown ((HNX.out.trans HNY.out).trans (by (repeat (first | exact New.refl _ | apply New.alloc | apply New.aft | apply New.drew | refine New.setCell ?_ ?_ _)); all_goals (first | done | (simp [size_aft]; done) | (simp [size_aft]; omega)))) hgrow4 HO.out); have HO4 := Lib.hid hown4; clear hown4 hgrow4 hor4 hlt4)
                  go_roundw
                  case rel => exact ⟨m + 1, g4, cap4, by omega, by omega, rfl, by rw [HTM.out, ptCells_snoc]; exact HO4.out, HNW4.out⟩
                  case measure => simp [lenV]; omega
              · clear d1
                by_cases k3 : QX = X0
                · have k4 : ¬ QY = Y0 := fun e => d2 ⟨k3, e⟩
                  clear d2
                  subst k3
                  go_wp2_with (at_builtin; refine wpList_append_lies _ rfl (.tmp 103) (.tmp 105) 40 rfl wl.heap.size 23 i0 _ 2 16 Tryz.underlying40 hi hz0 hz1 hz2 rfl (by omega) (.slice (some ⟨G, 0, none⟩) m cap) m (ptCells (H.take m)) rfl ?_ _ 1 1 [.int .i64 QX, .int .i64 QY] rfl rfl ?_ ?_ (by omega) ?_ ?_ ?_ _ rfl ?_; exact own_new HO.out (by (repeat (first | exact HNY.out | exact New.refl _ | apply New.alloc | apply New.aft | apply New.drew | refine New.setCell ?_ ?_ _)); all_goals (first | done | (simp [size_aft]; done) | (simp [size_aft]; omega))); (refine cells_new _ _ _ _ ?_); (simp [go_sem]); (intro u hu; simp at hu; rcases hu with rfl | rfl <;> rfl); (unfold maxLen; omega); omega; (have z1 := HNX.out.size; have z2 := HNY.out.size; simp [go_sem]; omega); intro g4 cap4 w4 hown4 hgrow4 hor4 hlt4; have HNW4 := Lib.hid (show New wl w4 from new_grown ((HNX.out.trans HNY.out).trans (by (repeat (first | exact New.refl _ | apply New.alloc | apply New.aft | apply New.drew | refine New.setCell ?_ ?_ _)); all_goals (first | done | (simp [size_aft]; done) | (simp [size_aft]; omega)))) hgrow4 HO.out); have HO4 := Lib.hid hown4; clear hown4 hgrow4 hor4 hlt4)
                  go_roundw
                  case rel => exact ⟨m + 1, g4, cap4, by omega, by omega, rfl, by rw [HTM.out, ptCells_snoc]; exact HO4.out, HNW4.out⟩
                  case measure => simp [lenV]; omega
                · clear d2
                  go_wp2_with (at_builtin; refine wpList_append_lies _ rfl (.tmp 103) (.tmp 105) 40 rfl wl.heap.size 23 i0 _ 2 16 Tryz.underlying40 hi hz0 hz1 hz2 rfl (by omega) (.slice (some ⟨G, 0, none⟩) m cap) m (ptCells (H.take m)) rfl ?_ _ 1 1 [.int .i64 QX, .int .i64 QY] rfl rfl ?_ ?_ (by omega) ?_ ?_ ?_ _ rfl ?_; exact own_new HO.out (by (repeat (first | exact HNY.out | exact New.refl _ | apply New.alloc | apply New.aft | apply New.drew | refine New.setCell ?_ ?_ _)); all_goals (first | done | (simp [size_aft]; done) | (simp [size_aft]; omega))); (refine cells_new _ _ _ _ ?_); (simp [go_sem]); (intro u hu; simp at hu; rcases hu with rfl | rfl <;> rfl); (unfold maxLen; omega); omega; (have z1 := HNX.out.size; have z2 := HNY.out.size; simp [go_sem]; omega); intro g4 cap4 w4 hown4 hgrow4 hor4 hlt4; have HNW4 := Lib.hid (show New wl w4 from new_grown ((HNX.out.trans HNY.out).trans (by (repeat (first | exact New.refl _ | apply New.alloc | apply New.aft | apply New.drew | refine New.setCell ?_ ?_ _)); all_goals (first | done | (simp [size_aft]; done) | (simp [size_aft]; omega)))) hgrow4 HO.out); have HO4 := Lib.hid hown4; clear hown4 hgrow4 hor4 hlt4)
                  go_roundw
                  case rel => exact ⟨m + 1, g4, cap4, by omega, by omega, rfl, by rw [HTM.out, ptCells_snoc]; exact HO4.out, HNW4.out⟩
                  case measure => simp [lenV]; omega
            · have hmE : m = H.length := by omega
              rw [hmE, Nat.mod_self] at qq1 qq2
              rw [show ptAt H 0 = (px H 0, py H 0) from rfl, HX0.out, HY0.out] at qq1 qq2
              simp only at qq1 qq2
              have HHE := Lib.hid (show H.take m = H by rw [hmE, List.take_length])
              have HME := Lib.hid hmE
              clear hmE HQH HMID
              by_cases k1 : X0 = PX
              · by_cases k2 : Y0 = PY
                · subst k1
                  subst k2
                  go_wp2_with fail
                  go_ret2
                  have HPT := own_new HO.out (HNY.out.trans (by (repeat (first | exact New.refl _ | apply New.alloc | apply New.aft | apply New.drew | refine New.setCell ?_ ?_ _)); all_goals (first | done | (simp [size_aft]; done) | (simp [size_aft]; omega))))
                  rw [HHE.out] at HPT
                  exact ⟨.slice (some ⟨G, 0, none⟩) m cap, rfl, ⟨some ⟨G, 0, none⟩, cap, by rw [HME.out], fun _ => ⟨G, rfl, by have := pts_own HPT HME.out.symm; rwa [HME.out] at this⟩⟩, HNYW.out.trans (by (repeat (first | exact New.refl _ | apply New.alloc | apply New.aft | apply New.drew | refine New.setCell ?_ ?_ _)); all_goals (first | done | (simp [size_aft]; done) | (simp [size_aft]; omega)))⟩
                · subst k1
                  have o1 := (HNX.out.trans HNY.out).cell hH1 (o := 0)
                  have o2 := (HNX.out.trans HNY.out).cell hH1 (o := 1)
                  rw [l1] at o1
                  rw [l2] at o2
                  go_wp2_with fail
                  go_ret2
                  have HPT := own_new HO.out (HNY.out.trans (by (repeat (first | exact New.refl _ | apply New.alloc | apply New.aft | apply New.drew | refine New.setCell ?_ ?_ _)); all_goals (first | done | (simp [size_aft]; done) | (simp [size_aft]; omega))))
                  rw [HHE.out] at HPT
                  exact ⟨.slice (some ⟨G, 0, none⟩) m cap, rfl, ⟨some ⟨G, 0, none⟩, cap, by rw [HME.out], fun _ => ⟨G, rfl, by have := pts_own HPT HME.out.symm; rwa [HME.out] at this⟩⟩, HNYW.out.trans (by (repeat (first | exact New.refl _ | apply New.alloc | apply New.aft | apply New.drew | refine New.setCell ?_ ?_ _)); all_goals (first | done | (simp [size_aft]; done) | (simp [size_aft]; omega)))⟩
              · have o1 := (HNX.out.trans HNY.out).cell hH1 (o := 0)
                have o2 := (HNX.out.trans HNY.out).cell hH1 (o := 1)
                rw [l1] at o1
                rw [l2] at o2
                go_wp2_with fail
                go_ret2
                have HPT := own_new HO.out (HNY.out.trans (by (repeat (first | exact New.refl _ | apply New.alloc | apply New.aft | apply New.drew | refine New.setCell ?_ ?_ _)); all_goals (first | done | (simp [size_aft]; done) | (simp [size_aft]; omega))))
                rw [HHE.out] at HPT
                exact ⟨.slice (some ⟨G, 0, none⟩) m cap, rfl, ⟨some ⟨G, 0, none⟩, cap, by rw [HME.out], fun _ => ⟨G, rfl, by have := pts_own HPT HME.out.symm; rwa [HME.out] at this⟩⟩, HNYW.out.trans (by (repeat (first | exact New.refl _ | apply New.alloc | apply New.aft | apply New.drew | refine New.setCell ?_ ?_ _)); all_goals (first | done | (simp [size_aft]; done) | (simp [size_aft]; omega)))⟩

end Go.Proofs.YtpdfbboagaflhaaGreat

set_option linter.unusedSimpArgs false
set_option linter.unusedVariables false
set_option maxRecDepth 100000
namespace Go.Proofs.YtpdfbboagaflhaaGreat
open Go.RowKit

theorem hullL_le (l : List P2) : (hullL l).length ≤ 2 * l.length := by
  have h1 : (belowL l).length ≤ (ptsL l).length := halfTo_le _ _
  have h2 : (aboveL l).length ≤ (ptsL l).length := halfTo_le _ _
  have h3 := ptsL_le l
  unfold hullL
  rw [List.length_append, List.length_take, List.length_take]
  omega
theorem ptsL_pos {l : List P2} (h : 0 < l.length) : 0 < (ptsL l).length := by
  have hm : l[0] ∈ ptsL l := ((ptsL_spec l).2 _).2 (List.getElem_mem h)
  exact List.length_pos_of_mem hm
theorem way_hull {l : List P2} (hk : ckPts l 400 = 0) (h0 : 0 < l.length) : WayR l (hullV l) := by
  obtain ⟨h4, hok⟩ := ckPts_zero hk
  have hp := ptsL_pos h0
  unfold hullV
  rw [if_neg (by rw [hk]; exact fun h => h rfl)]
  split
  next hm =>
    have h1 : (ptsL l).length = 1 := by omega
    have hall := one_all h1
    refine ⟨hp, by omega, fun k hk => ?_, (least_first hp).symm, fun k hk => ?_, fun k hk => absurd hk (by omega)⟩
    · exact valid_of hok (p := ptAt (ptsL l) k) (((ptsL_spec l).2 _).1 (by rw [ptAt_get _ _ hk]; exact List.getElem_mem _))
    · have : k = 0 := by omega
      subst this
      rw [h1]
      exact scan_one hall _ (Nat.le_refl _)
  next hm =>
    obtain ⟨a, b, c, d⟩ := hull_spec hok (by omega)
    have R := hull_round hok (by omega)
    refine ⟨by omega, by have := hullL_le l; omega, fun k hk => valid_of hok (R.mem hk), by rw [b]; exact (least_first hp).symm, fun k hk => (scan_hull hok (by omega) hk).1, fun k hk => ?_⟩
    have e := (scan_hull hok (by omega) (show k < (hullL l).length by omega)).2.1
    rw [Nat.mod_eq_of_lt hk] at e
    exact ⟨e, R.once (k + 1) hk (by omega)⟩
theorem ref_hull_any (av : Option Addr) (n c : Nat) (l : List P2) (w : World) (hl : n ≤ 1000000) (hp : PtsA w av n l) : Calls Tryz.prog 58 #[.slice av n c] w fun en w' => HullIs w w' en l := by
  by_cases h0 : 0 < n
  · obtain ⟨b, off, rfl, hw⟩ := hp.2 h0
    by_cases h4 : 400 < n
    · refine (ref_hull_long _ n c w h4).mono ?_
      rintro en w' ⟨rfl, hn⟩
      have hk : ckPts l 400 = 2 := by unfold ckPts; rw [if_pos (by rw [hw.1]; omega)]
      exact ⟨_, by rw [show hullE l = 2 from hk], by rw [show hullV l = [] from if_pos (by rw [hk]; decide)]; exact PtsR.nil _, hn⟩
    · cases hok : okL l
      · refine (ref_hull_bad b off n c l w (by omega) hw hok).mono ?_
        rintro en w' ⟨rfl, hn⟩
        have hk : ckPts l 400 = 1 := by unfold ckPts; rw [if_neg (by rw [hw.1]; omega), hok]; rfl
        exact ⟨_, by rw [show hullE l = 1 from hk], by rw [show hullV l = [] from if_pos (by rw [hk]; decide)]; exact PtsR.nil _, hn⟩
      · have hk : ckPts l 400 = 0 := by unfold ckPts; rw [if_neg (by rw [hw.1]; omega), hok]; rfl
        refine (ref_hull_go b off n c l (hullV l) w h0 (by omega) hw hok (way_hull hk (by rw [hw.1]; exact h0))).mono ?_
        rintro en w' ⟨r, rfl, hr, hn⟩
        exact ⟨r, by rw [show hullE l = 0 from hk], hr, hn⟩
  · obtain rfl : n = 0 := by omega
    have : l = [] := List.eq_nil_of_length_eq_zero hp.1
    subst this
    refine (ref_hull_nil av c w).mono ?_
    rintro en w' ⟨rfl, hn⟩
    exact ⟨_, rfl, PtsR.nil _, hn⟩
theorem hullV_le {l : List P2} (h : l.length ≤ 500) : (hullV l).length ≤ 1000000 := by
  unfold hullV
  have h1 := hullL_le l
  have h2 := ptsL_le l
  split
  · simp
  · split <;> omega

set_option maxHeartbeats 4000000 in
theorem hulls_long (v : Option Addr) (n c : Nat) (w : World) (hn : (60 < n ∧ n ≤ 400) ∨ 500 < n) : Calls Tryz.prog 12 #[.slice v n c] w fun e w' => e = .returned (.bool true) ∧ New w w' := by
  have HL := Lib.hid alive_c
  rcases hn with ⟨h1, h2⟩ | h1
  · have k1 : (60 : Int) < (n : Int) := by omega
    have k2 : (n : Int) ≤ 400 := by omega
    clear h1 h2
    go_enter Tryz.func12, Tryz.ntmps12
    go_wp2_with (go_at_call 31; refine (HL.out _).mono ?_; rintro e w1 ⟨rfl, pw, rfl⟩)
    all_goals (go_ret; refine ⟨ret_bool (by simp), ?_⟩; (repeat (first | exact New.refl _ | apply New.alloc | apply New.aft | apply New.drew | refine New.setCell ?_ ?_ _)); all_goals (first | done | (simp [size_aft]; done) | (simp [size_aft]; omega)))
  · have k1 : (60 : Int) < (n : Int) := by omega
    have k2 : ¬ (n : Int) ≤ 400 := by omega
    have k3 : (500 : Int) < (n : Int) := by omega
    clear h1
    go_enter Tryz.func12, Tryz.ntmps12
    go_wp2_with (go_at_call 31; refine (HL.out _).mono ?_; rintro e w1 ⟨rfl, pw, rfl⟩)
    all_goals (go_ret; refine ⟨ret_bool (by simp), ?_⟩; (repeat (first | exact New.refl _ | apply New.alloc | apply New.aft | apply New.drew | refine New.setCell ?_ ?_ _)); all_goals (first | done | (simp [size_aft]; done) | (simp [size_aft]; omega)))

set_option maxHeartbeats 4000000 in
theorem hulls_in (av : Option Addr) (n c : Nat) (l : List P2) (w : World) (hn : n ≤ 60 ∨ 400 < n) (hn5 : n ≤ 500) (hp : PtsA w av n l) : Calls Tryz.prog 12 #[.slice av n c] w fun e w' => e = .returned (.bool true) ∧ New w w' := by
  have HL := Lib.hid alive_c
  have H1 := Lib.hid (fun (w1 : World) (h1 : New w w1) => hull_any av n c l w1 (by omega) (hp.new h1))
  have H2 := Lib.hid (fun (w1 : World) (h1 : New w w1) => ref_hull_any av n c l w1 (by omega) (hp.new h1))
  have hle := hullV_le (l := l) (by rw [hp.1]; exact hn5)
  have HIS := Lib.hid (show ∀ w w' en, HullIs w w' en l → ∃ r, en = .returned (.tuple #[r, .int .i64 (hullE l)]) ∧ PtsR w' r (hullV l) ∧ New w w' from fun _ _ _ h => h)
  generalize hullE l = E at *
  generalize hullV l = V at *
  have hE : (E == E) = true := by simp
  clear hp
  rcases hn with h1 | h1
  · have k1 : ¬ (60 : Int) < (n : Int) := by omega
    have k3 : ¬ (500 : Int) < (n : Int) := by omega
    clear h1 hn5
    go_enter Tryz.func12, Tryz.ntmps12
    go_wp2_with (first | (go_at_call 57; refine (H1.out _ (New.refl _)).mono ?_; rintro en w1 hh; obtain ⟨r1, rfl, hr, hn⟩ := HIS.out _ _ _ hh; have R1 := Lib.hid hr; have N1 := Lib.hid hn; clear hr hn hh) | (go_at_call 58; refine (H2.out _ N1.out).mono ?_; rintro en w2 hh; obtain ⟨r2, rfl, hr, hn⟩ := HIS.out _ _ _ hh; have R2 := Lib.hid hr; have D2 := Lib.hid hn; have N2 := Lib.hid (N1.out.trans hn); clear hr hn hh) | (go_at_call 31; refine (HL.out _).mono ?_; rintro e w3 ⟨rfl, hn⟩; have D3 := Lib.hid hn; have N3 := Lib.hid (N2.out.trans hn); clear hn) | (go_at_call 52; refine (samePoints_c r1 r2 V _ hle (R1.out.new (D2.out.trans D3.out)) (R2.out.new D3.out)).mono ?_; rintro e w4 ⟨rfl, hn⟩; have N4 := Lib.hid (N3.out.trans hn); clear hn))
    all_goals (go_ret; exact ⟨ret_bool (by simp), N4.out⟩)
  · have k1 : (60 : Int) < (n : Int) := by omega
    have k2 : ¬ (n : Int) ≤ 400 := by omega
    have k3 : ¬ (500 : Int) < (n : Int) := by omega
    clear h1 hn5
    go_enter Tryz.func12, Tryz.ntmps12
    go_wp2_with (first | (go_at_call 57; refine (H1.out _ (New.refl _)).mono ?_; rintro en w1 hh; obtain ⟨r1, rfl, hr, hn⟩ := HIS.out _ _ _ hh; have R1 := Lib.hid hr; have N1 := Lib.hid hn; clear hr hn hh) | (go_at_call 58; refine (H2.out _ N1.out).mono ?_; rintro en w2 hh; obtain ⟨r2, rfl, hr, hn⟩ := HIS.out _ _ _ hh; have R2 := Lib.hid hr; have D2 := Lib.hid hn; have N2 := Lib.hid (N1.out.trans hn); clear hr hn hh) | (go_at_call 31; refine (HL.out _).mono ?_; rintro e w3 ⟨rfl, hn⟩; have D3 := Lib.hid hn; have N3 := Lib.hid (N2.out.trans hn); clear hn) | (go_at_call 52; refine (samePoints_c r1 r2 V _ hle (R1.out.new (D2.out.trans D3.out)) (R2.out.new D3.out)).mono ?_; rintro e w4 ⟨rfl, hn⟩; have N4 := Lib.hid (N3.out.trans hn); clear hn))
    all_goals (go_ret; exact ⟨ret_bool (by simp), N4.out⟩)

theorem planeHulls_all (w : World) (av : Option Addr) (n c : Nat) (l : List P2) (hl : l.length = n) (hp : 0 < n → ∃ b off, av = some ⟨b, off, none⟩ ∧ Pts w b off n l) : Calls Tryz.prog 12 #[.slice av n c] w fun e w' => e = .returned (.bool true) ∧ New w w' := by
  by_cases h : (60 < n ∧ n ≤ 400) ∨ 500 < n
  · exact hulls_long av n c w h
  · exact hulls_in av n c l w (by omega) (by omega) ⟨hl, hp⟩

end Go.Proofs.YtpdfbboagaflhaaGreat

set_option linter.unusedSimpArgs false
set_option linter.unusedVariables false
set_option linter.constructorNameAsVariable false
namespace Go.Proofs.YtpdfbboagaflhaaGreat
open Go.ChangeShapes Go.WideShapes Go.ChangeAt Go.RowKit Go.Joins
set_option maxRecDepth 100000

theorem jHu_wf : Rows.planeHullsRow.wf (OpenSpec.ofChange Rows.planeHullsSpec) = true := by kernel_rfl
theorem jHu_par : Tryz.f12.params.all (Tryz.prog.readableRec ·) = true := by kernel_rfl
theorem jHu_tie : namedTie Tryz.prog Rows.planeHullsRow.named Rows.planeHullsSpec.vars = true := by kernel_rfl
theorem jHu_st : (Rows.planeHullsRow.stops == []) = true := by kernel_rfl
theorem jHu_kn : (Rows.planeHullsRow.knobs == []) = true := by kernel_rfl
theorem jHu_inp : (Rows.planeHullsRow.inPlace == Tryz.prog.inPlace 12) = true := by kernel_rfl
theorem jHu_unf : (Rows.planeHullsRow.unfollowed == Tryz.prog.unfollowed 12) = true := by kernel_rfl
theorem jHu_rec : (Rows.planeHullsRow.recurses == Tryz.prog.recurses 12) = true := by kernel_rfl
theorem jHu_nam : (Rows.planeHullsRow.named == Tryz.prog.varsNamed 12) = true := by kernel_rfl
theorem jHu_maps : (Rows.planeHullsRow.maps == (Tryz.f12.params.toList ++ Rows.planeHullsSpec.plain.varTypes Tryz.prog).any (Tryz.prog.mapsRec ·)) = true := by kernel_rfl
theorem jHu_ifs : (Rows.planeHullsRow.ifaces == (Tryz.f12.params.toList ++ Rows.planeHullsSpec.plain.varTypes Tryz.prog).any (Tryz.prog.ifacesRec ·)) = true := by kernel_rfl
theorem jHu_mout : (Rows.planeHullsRow.mapsOut == Tryz.prog.mapsAmong Tryz.f12.resultTypes.toList) = true := by kernel_rfl
theorem jHu_loops : (Rows.planeHullsRow.loops == (Tryz.f12.params.toList ++ Rows.planeHullsSpec.plain.varTypes Tryz.prog).any (Tryz.prog.loopsFrom ·)) = true := by kernel_rfl
theorem jHu_wide : (Rows.planeHullsRow.wideKeys == (Tryz.f12.params.toList ++ Rows.planeHullsSpec.plain.varTypes Tryz.prog ++ Tryz.f12.resultTypes.toList).any (Tryz.prog.wideKeysFrom ·)) = true := by kernel_rfl
theorem jHu_vars : Rows.planeHullsSpec.vars.all (Tryz.prog.varReadable ·) = true := by kernel_rfl
theorem jHu_res : Tryz.f12.resultTypes.all (fun t => Tryz.prog.readableRec t && decide (t < Tryz.prog.types.size)) = true := by kernel_rfl
theorem jHu_iout : (Rows.planeHullsRow.ifacesOut == Tryz.f12.resultTypes.toList.any (Tryz.prog.ifacesRec ·)) = true := by kernel_rfl
theorem jHu_lout : (Rows.planeHullsRow.loopsOut == Tryz.f12.resultTypes.toList.any (Tryz.prog.loopsFrom ·)) = true := by kernel_rfl
theorem jHu_plain : (Rows.planeHullsRow.plainKeys == Tryz.prog.plainKeys) = true := by kernel_rfl
theorem jHu_short : Rows.planeHullsRow.shortTexts.isNone = true := by kernel_rfl
theorem jHu_lift0 : (Rows.planeHullsRow.lifted == false) = true := by kernel_rfl
theorem jHu_lift : (Rows.planeHullsRow.lifted == Tryz.prog.liftsFinal) = true := (congrArg (fun b => (Rows.planeHullsRow.lifted == b)) lift_is).trans jHu_lift0
theorem jHu_make0 : (some Make.cut == some Rows.planeHullsRow.make) = true := by kernel_rfl
theorem jHu_make : (Tryz.prog.make == some Rows.planeHullsRow.make) = true := (congrArg (fun b => (b == some Rows.planeHullsRow.make)) make_is).trans jHu_make0
theorem jHu_kinds : (Rows.planeHullsRow.kinds == (if Rows.planeHullsRow.domain.isEmpty then [] else Tryz.f12.params.toList.map fun t => match Tryz.prog.underlying t with | some (.int k) => some k | _ => none)) = true := by kernel_rfl
theorem jHu_pin : (Rows.planeHullsRow.pinned == Rows.planeHullsRow.pinnedBy) = true := by kernel_rfl
theorem jHu_veil : (Rows.planeHullsRow.veiled == (Tryz.f12.params.toList ++ Rows.planeHullsSpec.plain.varTypes Tryz.prog ++ Tryz.f12.resultTypes.toList).any (Tryz.prog.veiledRec ·)) = true := by kernel_rfl
theorem jHu_vfit : Rows.planeHullsRow.veiledFits Tryz.prog Tryz.f12.params.toList (Tryz.f12.params.toList ++ Rows.planeHullsSpec.plain.varTypes Tryz.prog ++ Tryz.f12.resultTypes.toList) = true := by kernel_rfl
theorem jHu_closed : joinedFacts Tryz.prog 12 Tryz.f12 Rows.planeHullsSpec Rows.planeHullsRow = true := (b_and (b_and (b_and (b_and (b_and (b_and (b_and (b_and (b_and (b_and (b_and (b_and (b_and (b_and (b_and (b_and (b_and (b_and (b_and (b_and (b_and (b_and (b_and (b_and (b_and (b_and (b_and (b_and (b_and (b_and (b_and jHu_wf jp_laid) jp_rowed) jHu_par) jHu_tie) jHu_st) jp_stops) jHu_kn) jp_knobs) jHu_inp) jHu_unf) jHu_rec) jHu_nam) jHu_maps) jHu_ifs) jHu_mout) jHu_loops) jHu_wide) jHu_vars) jHu_res) jHu_iout) jHu_lout) jHu_plain) jHu_short) jp_heard) jp_enter) jHu_lift) jHu_make) jHu_kinds) jHu_pin) jHu_veil) jHu_vfit)
theorem jHu_name : Tryz.prog.funcNamed Rows.planeHullsRow.func = some 12 := by kernel_rfl
theorem jHu_inst : Tryz.f12.isInstance Tryz.prog Rows.planeHullsRow.origin Rows.planeHullsRow.targs := of_decide_eq_true (by kernel_rfl)
theorem jHu_wrap : Tryz.f12.isWrapper Tryz.prog Rows.planeHullsRow.wrapper Rows.planeHullsRow.mainSum := by unfold Func.isWrapper; rw [if_neg (by decide +kernel)]; exact ⟨rfl, rfl⟩

set_option maxHeartbeats 2000000 in
theorem jHu_lifted (os : Os) (started : os.Started) (H : Type) (enc : TypeId × Value → H) :
    ReturnsInHanded {} Tryz.checked os 12 .any (Rows.planeHullsSpec.pre6 enc Tryz.prog Tryz.f12 Rows.planeHullsRow.domain false) (Rows.planeHullsSpec.post enc Tryz.prog Tryz.f12 false true false false) := by
  refine returnsInHanded_of_change (C := Tryz.checked) own_knob started (by kernel_rfl) Tryz.func12
    (ChangeSpec.witness6 (enc := enc) (C := Tryz.checked) false ⟨#[], #[.slice none 0 0], []⟩ 8 (by kernel_rfl) (by kernel_rfl) (by kernel_rfl) (by kernel_rfl)) ?_
  intro W base args ds gs before hval0 hW hcnd _
  have hval : ∀ (j : Nat) t v, Tryz.f12.params[j]? = some t → args[j]? = some v → Value.okWide Tryz.prog W .any base t v := hval0
  have hW' := hW
  obtain ⟨p, q, hA0, hV, rfl, hfz, hnd⟩ := hW
  have hA : DataW.TrodAll enc Tryz.prog W 0 (fun _ => true) true Tryz.f12.params.toList args.toList ds p := hA0
  rw [Tryz.params12] at hA hval
  obtain ⟨v0, vs0, d0, ds0, p0, q0, hargs, rfl, rfl, h0, r0⟩ := trodAll_cons hA
  obtain ⟨rfl, rfl, rfl⟩ := trodAll_nil r0
  obtain rfl : args = #[v0] := by cases args; simp_all
  obtain ⟨rfl, rfl⟩ := trodVars_none hV
  have hlt : ∀ x ∈ p0, x.block < W.heap.size := fun x hx => hW'.lt x (by simpa using hx)
  have g0 := h0
  obtain ⟨av0, n0, cap0, l0, rfl, hl0, hp0⟩ := open_pts (hval 0 40 v0 rfl rfl) h0
  clear hA0 hval0 hval
  refine (planeHulls_all W av0 n0 cap0 l0 hl0 hp0).mono fun e W' ⟨he, hg⟩ => ?_
  subst he
  have t0 := Below.trod laidOut (by kernel_rfl) (of_decide_eq_true (by kernel_rfl)) g0 hg.below (fun x hx => hlt x (by simp [hx]))
  exact ⟨_, rfl, _, _, _, _, _, _, hW', trodAll_cons_mk (shut_bool Tryz.underlying4 _) trodAll_mk0, trodAll_cons_mk t0 trodAll_mk0, rfl, hg.below.frame _, fun h => by cases h⟩

/-- PlaneHulls, as it is given -/
theorem planeHulls_proved : Rows.PlaneHullsSaid :=
  OpenClaim.holds_of_wide 12 Tryz.f12 rfl rfl rfl rfl rfl rfl rfl ⟨rfl, rfl, rfl, rfl, rfl⟩ rfl rfl rfl rfl rfl jHu_name Tryz.func12 jHu_closed jHu_inst jHu_wrap
    (fun os started H enc _ => jHu_lifted os started H enc)

end Go.Proofs.YtpdfbboagaflhaaGreat
