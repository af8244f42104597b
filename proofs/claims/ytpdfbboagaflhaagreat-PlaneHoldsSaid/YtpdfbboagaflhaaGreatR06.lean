/- PlaneHolds returns true for every input, and its arguments read afterwards as before: the given statement, without a condition. -/
import Derived.Test.YtpdfbboagaflhaaGreatN10
import Derived.Test.YtpdfbboagaflhaaGreatN03
import Derived.Deep.RegionHeld3
import Derived.Deep.RegionWith
import Derived.BigRegion
import Derived.LoopTactic
import Derived.Deep.AppendLies
import Derived.Deep.RegionLaw
import Derived.Test.YtpdfbboagaflhaaGreatR03
import Derived.Maps.AppendAt
import Derived.RegionTactic
import Derived.OwnWalk
import Derived.Laws.StructEq
import Derived.Test.YtpdfbboagaflhaaGreatM51
import Derived.Test.YtpdfbboagaflhaaGreatRows
import Derived.ProofKit
import Derived.OpenShut
import Derived.Lib.SmallJoins
import Derived.Carry

set_option linter.unusedSimpArgs false
set_option linter.unusedVariables false
set_option maxRecDepth 100000
namespace Go.Proofs.YtpdfbboagaflhaaGreat
open Go.RowKit

/-- a result that is a list of points -/
def PtsR (w : World) (v : Value) (R : List P2) : Prop := ∃ av cap, v = .slice av R.length cap ∧ (0 < R.length → ∃ g, av = some ⟨g, 0, none⟩ ∧ Pts w g 0 R.length R)
theorem PtsR.new {w w' : World} {v : Value} {R : List P2} (h : PtsR w v R) (hn : New w w') : PtsR w' v R := by
  obtain ⟨av, cap, h1, h2⟩ := h
  exact ⟨av, cap, h1, fun h0 => by obtain ⟨g, h3, h4⟩ := h2 h0; exact ⟨g, h3, h4.new hn⟩⟩

set_option maxHeartbeats 2000000 in
theorem move1_c (x y dx dy : Int) (B1 B2 : Nat) (w : World) (hx : 0 ≤ x ∧ x ≤ 10000) (hy : 0 ≤ y ∧ y ≤ 10000) (h1 : -20000 ≤ dx ∧ dx ≤ 20000) (h2 : -20000 ≤ dy ∧ dy ≤ 20000) (c1 : w.cell? ⟨B1, 0, none⟩ = some (.int .i64 dx)) (c2 : w.cell? ⟨B2, 0, none⟩ = some (.int .i64 dy)) (b1 : B1 < w.heap.size) (b2 : B2 < w.heap.size) :
    Calls Tryz.prog 159 #[pv x y, .pointer (some ⟨B1, 0, none⟩), .pointer (some ⟨B2, 0, none⟩)] w fun en w' => en = .returned (pv (x + dx) (y + dy)) ∧ New w w' := by
  have b3 : B1 < w.heap.size + 1 := by omega
  have b4 : B2 < w.heap.size + 1 := by omega
  have b5 : B1 < w.heap.size + 1 + 1 := by omega
  have b6 : B2 < w.heap.size + 1 + 1 := by omega
  go_enter Tryz.func159, Tryz.ntmps159
  go_wp2_with fail
  all_goals (refine bodyPost_ret (v := pv (x + dx) (y + dy)) (by simp [results, Tryz.results159, go_sem]) rfl ⟨rfl, ?_⟩; (repeat (first | exact New.refl _ | apply New.alloc | apply New.aft | apply New.drew | refine New.setCell ?_ ?_ _)); all_goals (first | done | (simp [size_aft]; done) | (simp [size_aft]; omega)))
set_option maxHeartbeats 2000000 in
theorem mirror1_c (x y dx : Int) (B1 : Nat) (w : World) (hx : 0 ≤ x ∧ x ≤ 10000) (hy : 0 ≤ y ∧ y ≤ 10000) (h1 : -20000 ≤ dx ∧ dx ≤ 20000) (c1 : w.cell? ⟨B1, 0, none⟩ = some (.int .i64 dx)) (b1 : B1 < w.heap.size) :
    Calls Tryz.prog 161 #[pv x y, .pointer (some ⟨B1, 0, none⟩)] w fun en w' => en = .returned (pv (dx - x) y) ∧ New w w' := by
  have b3 : B1 < w.heap.size + 1 := by omega
  have b5 : B1 < w.heap.size + 1 + 1 := by omega
  go_enter Tryz.func161, Tryz.ntmps161
  go_wp2_with fail
  all_goals (refine bodyPost_ret (v := pv (dx - x) y) (by simp [results, Tryz.results161, go_sem]) rfl ⟨rfl, ?_⟩; (repeat (first | exact New.refl _ | apply New.alloc | apply New.aft | apply New.drew | refine New.setCell ?_ ?_ _)); all_goals (first | done | (simp [size_aft]; done) | (simp [size_aft]; omega)))
set_option maxHeartbeats 2000000 in
theorem enlarge1_c (x y k : Int) (B1 : Nat) (w : World) (hx : 0 ≤ x ∧ x ≤ 10000) (hy : 0 ≤ y ∧ y ≤ 10000) (h1 : -20000 ≤ k ∧ k ≤ 20000) (c1 : w.cell? ⟨B1, 0, none⟩ = some (.int .i64 k)) (b1 : B1 < w.heap.size) :
    Calls Tryz.prog 162 #[pv x y, .pointer (some ⟨B1, 0, none⟩)] w fun en w' => en = .returned (pv (x * k) (y * k)) ∧ New w w' := by
  have m1 := mul_bd x k 10000 20000 (by omega) (by omega) (by omega) (by omega)
  have m2 := mul_bd y k 10000 20000 (by omega) (by omega) (by omega) (by omega)
  simp only [Int.reduceMul, Int.reduceNeg] at m1 m2
  have b3 : B1 < w.heap.size + 1 := by omega
  have b5 : B1 < w.heap.size + 1 + 1 := by omega
  go_enter Tryz.func162, Tryz.ntmps162
  go_wp2_with fail
  all_goals (refine bodyPost_ret (v := pv (x * k) (y * k)) (by simp [results, Tryz.results162, go_sem]) rfl ⟨rfl, ?_⟩; (repeat (first | exact New.refl _ | apply New.alloc | apply New.aft | apply New.drew | refine New.setCell ?_ ?_ _)); all_goals (first | done | (simp [size_aft]; done) | (simp [size_aft]; omega)))

set_option maxHeartbeats 4000000 in
theorem samePoints_c (v u : Value) (R : List P2) (w : World) (hl : R.length ≤ 1000000) (hv : PtsR w v R) (hu : PtsR w u R) : Calls Tryz.prog 52 #[v, u] w fun en w' => en = .returned (.bool true) ∧ New w w' := by
  obtain ⟨av, cv, rfl, hv⟩ := hv
  obtain ⟨au, cu, rfl, hu⟩ := hu
  by_cases h0 : 0 < R.length
  · obtain ⟨g, rfl, _, hg1, hg2⟩ := hv h0
    obtain ⟨g', rfl, _, hg3, hg4⟩ := hu h0
    generalize R.length = n at *
    have t0 : ((n : Int) != (n : Int)) = false := by simp
    clear hv hu
    go_enter Tryz.func52, Tryz.ntmps52
    go_wp2_with fail
    go_loopw [5] (fun i wr => ∃ k : Nat, k ≤ n ∧ i = .int .i64 k ∧ New w wr) (fun i _ => n - (intOf i).toNat)
    case atStart => exact ⟨0, Nat.zero_le _, rfl, New.refl _⟩
    case round =>
      obtain ⟨k, hk, rfl, pr, rfl⟩ := hrel
      by_cases hlt : k < n
      · obtain ⟨c1, c2⟩ := hg2 k hlt
        obtain ⟨d1, d2⟩ := hg4 k hlt
        simp only [Nat.zero_add] at c1 c2 d1 d2
        have hkn : (k : Int) < (n : Int) := by omega
        clear hg2 hg4
        generalize px R k = X at *
        generalize py R k = Y at *
        have e1 : (X == X) = true := by simp
        have e2 : (Y == Y) = true := by simp
        go_wp2_with fail
        first | refine wp_region_at2 (by kernel_rfl) (by kernel_rfl) ?_ | refine wp_region_at (by kernel_rfl) (by kernel_rfl) ?_
        repeat (go_big_quiet_step (fail))
        refine wpQuiet_nil ?_
        rintro _ ⟨q, rfl⟩
        go_wp2_with fail
        go_roundw
        case rel => exact ⟨k + 1, by omega, by go_num, by (repeat (first | exact New.refl _ | apply New.alloc | apply New.aft | apply New.drew | refine New.setCell ?_ ?_ _)); all_goals (first | done | (simp [size_aft]; done) | (simp [size_aft]; omega))⟩
        case measure => simp [intOf]; omega
      · go_wp2_with fail
        go_ret
        exact ⟨rfl, by (repeat (first | exact New.refl _ | apply New.alloc | apply New.aft | apply New.drew | refine New.setCell ?_ ?_ _)); all_goals (first | done | (simp [size_aft]; done) | (simp [size_aft]; omega))⟩
  · have h1 : R.length = 0 := by omega
    rw [h1]
    clear hv hu
    go_enter Tryz.func52, Tryz.ntmps52
    go_wp2_with fail
    refine wp_loop_rounds 1 ?_
    repeat any_goals (rw [rounds_succ]; go_wp2)
    go_ret; exact ⟨rfl, New.refl _⟩

/-- a slice of points, nil or not -/
def PtsA (w : World) (av : Option Addr) (n : Nat) (l : List P2) : Prop := l.length = n ∧ (0 < n → ∃ b off, av = some ⟨b, off, none⟩ ∧ Pts w b off n l)
theorem PtsA.new {w w' : World} {av : Option Addr} {n : Nat} {l : List P2} (h : PtsA w av n l) (hn : New w w') : PtsA w' av n l :=
  ⟨h.1, fun h0 => by obtain ⟨b, off, h1, h2⟩ := h.2 h0; exact ⟨b, off, h1, h2.new hn⟩⟩
theorem PtsR.nil (w : World) : PtsR w (.slice none 0 0) [] := ⟨none, 0, rfl, fun h => absurd h (by simp)⟩
theorem PtsR.own {w : World} {B : Nat} {v : Value} {R : List P2} (h : w.ownsRow B 23 2 v R.length (ptCells R)) : PtsR w v R := own_form h

end Go.Proofs.YtpdfbboagaflhaaGreat

set_option linter.unusedSimpArgs false
set_option linter.unusedVariables false
set_option maxRecDepth 100000
namespace Go.Proofs.YtpdfbboagaflhaaGreat
open Go.RowKit

/-- what Hull returns -/
def hullE (l : List P2) : Int := ckPts l 400
def hullV (l : List P2) : List P2 := if ckPts l 400 ≠ 0 then [] else if (ptsL l).length < 2 then ptsL l else hullL l
def HullIs (w w' : World) (en : Ending) (l : List P2) : Prop := ∃ r, en = .returned (.tuple #[r, .int .i64 (hullE l)]) ∧ PtsR w' r (hullV l) ∧ New w w'

set_option maxHeartbeats 2000000 in
theorem insort_nil (v : Option Addr) (c : Nat) (f : Value) (w : World) : Calls Tryz.prog 193 #[.slice v 0 c, .int .i64 0, .int .i64 0, f] w fun en w' => en = .returned (.tuple #[]) ∧ New w w' := by
  go_enter Tryz.func193, Tryz.ntmps193
  go_wp2_with fail
  go_loopw [8] (fun i wr => i = .int .i64 1 ∧ New w wr) (fun _ _ => 0)
  case atStart => exact ⟨by go_num, New.refl _⟩
  case round =>
    obtain ⟨rfl, hn⟩ := hrel
    have HN := Lib.hid hn
    clear hn
    go_wp2_with fail
    exact bodyPost_end (results_none rfl _ _ _) rfl ⟨rfl, HN.out⟩
set_option maxHeartbeats 2000000 in
theorem pdq_nil (v : Option Addr) (c : Nat) (k : Int) (f : Value) (w : World) : Calls Tryz.prog 171 #[.slice v 0 c, .int .i64 0, .int .i64 0, .int .i64 k, f] w fun en w' => en = .returned (.tuple #[]) ∧ New w w' := by
  have HI := Lib.hid (insort_nil v c f)
  go_enter Tryz.func171, Tryz.ntmps171
  go_wp2_with fail
  go_loopw [1, 2] (fun i j wr => (i = .int .i64 0 ∧ j = .int .i64 0) ∧ New w wr) (fun _ _ _ => 0)
  case atStart => exact ⟨⟨rfl, rfl⟩, New.refl _⟩
  case round =>
    obtain ⟨⟨rfl, rfl⟩, hn⟩ := hrel
    have HN := Lib.hid hn
    clear hn
    go_wp2_with (go_at_call 193; refine (HI.out _).mono ?_; rintro e w1 ⟨rfl, hn⟩; have HN1 := Lib.hid (HN.out.trans hn); clear hn)
    exact bodyPost_ret (results_none rfl _ _ _) rfl ⟨rfl, HN1.out⟩

set_option maxHeartbeats 2000000 in
theorem sort_nil (v : Option Addr) (c : Nat) (w : World) : Calls Tryz.prog 124 #[.slice v 0 c, .func (.func 125) #[] #[]] w fun en w' => en = .returned (.tuple #[]) ∧ New w w' := by
  have HI := Lib.hid (fun k => pdq_nil v c k (.func (.func 125) #[] #[]))
  have HL := Lib.hid (fun w1 : World => hlenH 0 w1 (by omega))
  go_enter Tryz.func124, Tryz.ntmps124
  go_wp2_with (first | (go_at_call 172; refine (HL.out _).mono ?_; rintro e w1 ⟨⟨k, rfl⟩, rfl⟩) | (go_at_call 171; refine (HI.out _ _).mono ?_; rintro e w1 ⟨rfl, hn⟩; have HN1 := Lib.hid hn; clear hn))
  exact bodyPost_end (results_none rfl _ _ _) rfl ⟨rfl, HN1.out⟩
set_option maxHeartbeats 2000000 in
theorem compact_nil (v : Option Addr) (c : Nat) (w : World) : Calls Tryz.prog 126 #[.slice v 0 c] w fun en w' => en = .returned (.slice v 0 c) ∧ New w w' := by
  go_enter Tryz.func126, Tryz.ntmps126
  go_wp2_with fail
  go_ret; exact ⟨rfl, New.refl _⟩
theorem run_append_zero {P : Program} (w : World) (t ty e : TypeId) (i : TypeInfo) (ht : P.underlying t = some (.slice e)) (hi : P.info? e = some i)
    (A : Option Addr) (c : Nat) (B : Option Addr) (d : Nat) : (Builtin.append_ #[t, t] ty #[.slice A 0 c, .slice B 0 d]).run P w = .ok (.slice A 0 c) w := by
  cases A <;> cases B <;> simp [Builtin.append_, run_underlying ht, sizeOf, typeInfo, hi, Builtin.lenOf, Builtin.firstCells, loadCells]
  · rw [show ∀ a : Addr, loadCellsFrom a 0 0 #[] = (pure #[] : Sem _) from fun _ => rfl]; rfl
  · simp [storeCells]
  · rw [show ∀ a : Addr, loadCellsFrom a 0 0 #[] = (pure #[] : Sem _) from fun _ => rfl]; simp [storeCells]
theorem wpList_append_zero {P : Program} {w : World} {ops : Array Oper} {rest : List Oper} {o : Oper} {a : Act} {Q : Exit → Act → World → Prop} (hgd : o.guard = none) (s x : Operand) (t : TypeId)
    (ho : o.op = .call { callee := .builtin .append, args := #[s, x], argTypes := #[t, t] }) (e : TypeId) (i : TypeInfo) (ht : P.underlying t = some (.slice e)) (hi : P.info? e = some i)
    (A : Option Addr) (c : Nat) (B : Option Addr) (d : Nat) (hs : a.eval s = .slice A 0 c) (hx : a.eval x = .slice B 0 d) (h : wpList P ops Q rest (a.put o.dst (.slice A 0 c)) w) : wpList P ops Q (o :: rest) a w :=
  wpList_plain hgd fun _ hK => by
    unfold Oper.wp execOp
    simp only [ho, resolve, invoke, builtin, Sem.run_bind, Sem.run_pure, Result.andThen_ok, List.map_toArray, List.map_cons, List.map_nil, hs, hx, run_append_zero w t _ e i ht hi]
    exact hK _ _ h
set_option maxHeartbeats 2000000 in
theorem clone_nil (v : Option Addr) (c : Nat) (w : World) : Calls Tryz.prog 123 #[.slice v 0 c] w fun en w' => ∃ v2 c2, en = .returned (.slice v2 0 c2) ∧ New w w' := by
  obtain ⟨i0, hi, hz0, hz1, hz2⟩ := info_parts info23
  have hnil : ∀ w' : World, (binOp .eql 40 (.slice v 0 c) (.slice none 0 0)).run Tryz.prog w' = .ok (.bool v.isNone) w' := fun w' => Lib.run_eql_slice_nil w' 40 23 _ 0 c 0 0 Tryz.underlying40
  cases v with
  | none =>
    go_enter Tryz.func123, Tryz.ntmps123
    go_wp2_with fail
    go_ret; exact ⟨none, 0, rfl, New.refl _⟩
  | some a =>
    go_enter Tryz.func123, Tryz.ntmps123
    go_wp2_with (at_builtin; refine wpList_append_zero rfl (.tmp 5) (.tmp 6) 40 rfl 23 i0 Tryz.underlying40 hi _ _ _ _ rfl rfl ?_)
    go_ret; exact ⟨_, _, rfl, (New.refl _).alloc _⟩


set_option maxHeartbeats 2000000 in
theorem hull_nil (v : Option Addr) (c : Nat) (w : World) : Calls Tryz.prog 57 #[.slice v 0 c] w fun en w' => HullIs w w' en [] := by
  have HC := Lib.hid (checkPoints_nil v c 400 (by omega))
  have HV := Lib.hid (show hullE [] = 0 ∧ hullV [] = [] from ⟨rfl, rfl⟩)
  have HK := Lib.hid (fun w1 : World => clone_nil v c w1)
  have HS := Lib.hid (fun (v2 : Option Addr) (c2 : Nat) (w1 : World) => sort_nil v2 c2 w1)
  have HP := Lib.hid (fun (v2 : Option Addr) (c2 : Nat) (w1 : World) => compact_nil v2 c2 w1)
  go_enter Tryz.func57, Tryz.ntmps57
  go_wp2_with (first | (go_at_call 84; refine (HC.out _).mono ?_; rintro e w1 ⟨rfl, hn⟩; have HN1 := Lib.hid hn; clear hn) | (go_at_call 123; refine (HK.out _).mono ?_; rintro e w2 ⟨v2, c2, rfl, hn⟩; have HN2 := Lib.hid (HN1.out.trans hn); clear hn) | (go_at_call 124; refine (HS.out _ _ _).mono ?_; rintro e w3 ⟨rfl, hn⟩; have HN3 := Lib.hid (HN2.out.trans hn); clear hn) | (go_at_call 126; refine (HP.out _ _ _).mono ?_; rintro e w4 ⟨rfl, hn⟩; have HN4 := Lib.hid (HN3.out.trans hn); clear hn))
  go_ret2
  exact ⟨.slice v2 0 c2, by rw [HV.out.1]; rfl, by rw [HV.out.2]; exact ⟨v2, c2, rfl, fun h => absurd h (by simp)⟩, HN4.out⟩
set_option maxHeartbeats 2000000 in
theorem hull_err (b off n c : Nat) (l : List P2) (w : World) (hl : n ≤ 1000000) (hw : Pts w b off n l) (hk : ckPts l 400 ≠ 0) : Calls Tryz.prog 57 #[.slice (some ⟨b, off, none⟩) n c] w fun en w' => HullIs w w' en l := by
  have HC := Lib.hid (checkPoints_c b off n c l 400 w (by omega) hw)
  have HV := Lib.hid (show hullE l = ckPts l 400 ∧ hullV l = [] from ⟨rfl, if_pos hk⟩)
  have hq1 : (ckPts l 400 == 0) = false := by simpa using hk
  have hq2 : (ckPts l 400 != 0) = true := by simpa using hk
  generalize ckPts l 400 = K at *
  clear hw hk
  go_enter Tryz.func57, Tryz.ntmps57
  go_wp2_with (go_at_call 84; refine (HC.out).mono ?_; rintro e w1 ⟨rfl, hn⟩; have HN1 := Lib.hid hn; clear hn)
  go_ret2
  exact ⟨.slice none 0 0, by rw [HV.out.1]; rfl, by rw [HV.out.2]; exact PtsR.nil _, HN1.out⟩
set_option maxHeartbeats 4000000 in
theorem hull_one (b off n c : Nat) (l : List P2) (w : World) (h0 : 0 < n) (hl : n ≤ 1000000) (hw : Pts w b off n l) (hk : ckPts l 400 = 0) (hm : (ptsL l).length < 2) : Calls Tryz.prog 57 #[.slice (some ⟨b, off, none⟩) n c] w fun en w' => HullIs w w' en l := by
  have HW := Lib.hid hw
  have HN := Lib.hid hw.1
  have HV := Lib.hid (show hullE l = 0 ∧ hullV l = ptsL l from ⟨hk, by unfold hullV; rw [if_neg (by rw [hk]; exact fun h => h rfl), if_pos hm]⟩)
  have HCK := Lib.hid (checkPoints_c b off n c l 400 w (by omega) hw)
  rw [hk] at HCK
  have HCL := Lib.hid (fun (w1 : World) (h1 : New w w1) => cloneP_c b off n c l w1 h0 hl (hw.new h1))
  have HPE := Lib.hid (show ddTo (sortP l) n = ptsL l by unfold ptsL; rw [hw.1])
  clear hw hk
  generalize ptsL l = PL at *
  generalize hmm : PL.length = m at *
  have HM := Lib.hid hmm
  clear hmm
  have hm2 : (m : Int) < 2 := by omega
  go_enter Tryz.func57, Tryz.ntmps57
  go_wp2_with (first | (go_at_call 84; refine HCK.out.mono ?_; rintro e w1 ⟨rfl, hn1⟩; have HN1 := Lib.hid hn1; clear hn1) | (go_at_call 123; refine (HCL.out _ HN1.out).mono ?_; rintro e w2 ⟨g, cap, rfl, ho2, hn2⟩; have HO2 := Lib.hid ho2; have HN2 := Lib.hid (HN1.out.trans hn2); have HS := Lib.hid HN1.out.size; clear ho2 hn2) | (go_at_call 124; refine (sortP_c w1.heap.size g n cap l _ hl HN.out HO2.out).mono ?_; rintro e w3 ⟨rfl, ho3, hg3⟩; have HO3 := Lib.hid ho3; have HG3 := Lib.hid hg3; clear ho3 hg3) | (go_at_call 126; refine (compactP_c w1.heap.size g n cap (sortP l) _ hl (by rw [sortP_length]; exact HN.out) HO3.out).mono ?_; rintro e w4 ⟨rfl, ho4, hg4⟩; rw [HPE.out, HM.out] at ho4; rw [HPE.out, HM.out]; have HO4 := Lib.hid ho4; have HG4 := Lib.hid (HG3.out.trans hg4); clear ho4 hg4))
  have HNEW4 := Lib.hid (new_grownBy HN2.out HG4.out (Nat.le_trans HS.out (HO2.out.lt g rfl).1))
  go_ret2
  exact ⟨.slice (some ⟨g, 0, none⟩) m cap, by rw [HV.out.1]; rfl, by rw [HV.out.2]; exact ⟨_, cap, by rw [HM.out], fun _ => ⟨g, rfl, by rw [HM.out]; exact pts_own HO4.out HM.out⟩⟩, HNEW4.out⟩
theorem ptsL_bd {l : List P2} (hok : okL l = true) : bdL (ptsL l) := by
  have : okL (ptsL l) = true := by
    unfold okL
    rw [List.all_eq_true]
    intro p hp
    exact okP_iff.2 (valid_of hok ((ptsL_spec l).2 p |>.1 hp))
  exact bdL_of_ok this
theorem rev_bd {m : List P2} (h : bdL m) : bdL m.reverse := by
  intro i
  by_cases hi : i < m.length
  · rw [(rev_px m i hi).1, (rev_px m i hi).2]; exact h _
  · simp [px, py, List.getD_eq_getElem?_getD, hi]
/-- Hull of any list -/
theorem hull_any (av : Option Addr) (n c : Nat) (l : List P2) (w : World) (hl : n ≤ 1000000) (hp : PtsA w av n l) : Calls Tryz.prog 57 #[.slice av n c] w fun en w' => HullIs w w' en l := by
  by_cases h0 : 0 < n
  · obtain ⟨b, off, rfl, hw⟩ := hp.2 h0
    by_cases hk : ckPts l 400 = 0
    · by_cases hm : (ptsL l).length < 2
      · exact hull_one b off n c l w h0 hl hw hk hm
      · have hbd := ptsL_bd (ckPts_zero hk).2
        refine (hull_many b off n c l w h0 hl hw hk (by omega) hbd (by rw [revTo_rev]; exact rev_bd hbd)).mono ?_
        rintro en w' ⟨g, cap, rfl, ho, hn⟩
        have e1 : hullE l = 0 := hk
        have e2 : hullV l = hullL l := by unfold hullV; rw [if_neg (by rw [hk]; exact fun h => h rfl), if_neg hm]
        exact ⟨_, by rw [e1], by rw [e2]; exact PtsR.own ho, hn⟩
    · exact hull_err b off n c l w hl hw hk
  · obtain rfl : n = 0 := by omega
    have : l = [] := List.eq_nil_of_length_eq_zero hp.1
    subst this
    exact hull_nil av c w

end Go.Proofs.YtpdfbboagaflhaaGreat

set_option linter.unusedSimpArgs false
set_option linter.unusedVariables false
set_option maxRecDepth 100000
namespace Go.Proofs.YtpdfbboagaflhaaGreat
open Go.RowKit

theorem okL_app (a b : List P2) : okL (a ++ b) = (okL a && okL b) := by simp [okL]
theorem okL_sub {a b : List P2} (h : okL b = true) (hs : ∀ p, p ∈ a → p ∈ b) : okL a = true := by
  unfold okL at *
  rw [List.all_eq_true] at *
  exact fun p hp => h p (hs p hp)
theorem okL_norm {l : List P2} (h : polyI l = 0) : okL (normL l) = true ∧ (normL l).length = (normB l).length := by
  obtain ⟨_, h2, h3⟩ := area_bends h
  refine ⟨okL_sub h3 fun p hp => ?_, normL_length l h2⟩
  unfold normL rotL at hp
  rw [List.mem_append] at hp
  have hc : p ∈ normC l := by
    rcases hp with hp | hp
    · exact List.mem_of_mem_drop hp
    · exact List.mem_of_mem_take hp
  unfold normC at hc
  split at hc
  · rw [revTo_rev] at hc; exact List.mem_reverse.1 hc
  · exact hc
/-- what Convex returns -/
def convV (l : List P2) : Bool := if polyI l = 0 then convB (normL l) else false
theorem convB_iff (m : List P2) : convB m = true ↔ ∀ k, k < m.length → turnAt m m.length k = 1 := by
  unfold convB; simp

set_option maxHeartbeats 4000000 in
theorem convex_nil (v : Option Addr) (c : Nat) (w : World) : Calls Tryz.prog 48 #[.slice v 0 c] w fun en w' => en = .returned (.bool false) ∧ New w w' := by
  have HP := Lib.hid (show ∀ w1 : World, Calls Tryz.prog 50 #[.slice v 0 c] w1 fun en w' => en = .returned (.tuple #[.slice none 0 0, .int .i64 1]) ∧ New w1 w' from fun w1 => by
    have HC := Lib.hid (fun w1 : World => checkPoly_nil v c w1)
    go_enter Tryz.func50, Tryz.ntmps50
    go_wp2_with (go_at_call 44; refine (HC.out _).mono ?_; rintro e w2 ⟨rfl, hn⟩; have HN1 := Lib.hid hn; clear hn)
    go_ret2; exact ⟨rfl, HN1.out⟩)
  go_enter Tryz.func48, Tryz.ntmps48
  go_wp2_with (go_at_call 50; refine (HP.out _).mono ?_; rintro e w2 ⟨rfl, hn⟩; have HN1 := Lib.hid hn; clear hn)
  go_ret; exact ⟨rfl, HN1.out⟩
set_option maxHeartbeats 4000000 in
theorem convex_no (b off n c : Nat) (l : List P2) (w : World) (h0 : 0 < n) (hl : n ≤ 1000000) (hw : Pts w b off n l) (hp : polyI l ≠ 0) : Calls Tryz.prog 48 #[.slice (some ⟨b, off, none⟩) n c] w fun en w' => en = .returned (.bool false) ∧ New w w' := by
  have HP := Lib.hid (normal_no b off n c l w h0 hl hw hp)
  have hq1 : (polyI l == 0) = false := by simpa using hp
  have hq2 : (polyI l != 0) = true := by simpa using hp
  generalize polyI l = E at *
  clear hp hw
  go_enter Tryz.func48, Tryz.ntmps48
  go_wp2_with (go_at_call 50; refine (HP.out).mono ?_; rintro e w2 ⟨rfl, hn⟩; have HN1 := Lib.hid hn; clear hn)
  go_ret; exact ⟨rfl, HN1.out⟩
set_option maxHeartbeats 8000000 in
theorem convex_yes (b off n c : Nat) (l : List P2) (w : World) (h0 : 0 < n) (hl : n ≤ 1000000) (hw : Pts w b off n l) (hp : polyI l = 0) : Calls Tryz.prog 48 #[.slice (some ⟨b, off, none⟩) n c] w fun en w' => en = .returned (.bool (convB (normL l))) ∧ New w w' := by
  obtain ⟨_, hB, _⟩ := area_bends hp
  obtain ⟨hok, hlen⟩ := okL_norm hp
  have HP := Lib.hid (normal_yes b off n c l w h0 hl hw hp hB)
  have HBD := Lib.hid (bdL_of_ok hok)
  have HCV := Lib.hid (convB_iff (normL l))
  have hm5 : (normB l).length ≤ 1000000 := by have := bendsTo_le l l.length l.length; unfold normB; rw [hw.1] at *; omega
  rw [← hlen] at HP hB hm5
  clear hw hp hok hlen
  generalize normL l = M at *
  generalize hmm : M.length = m at *
  have HM := Lib.hid hmm
  clear hmm
  go_enter Tryz.func48, Tryz.ntmps48
  go_wp2_with (go_at_call 50; refine (HP.out).mono ?_; rintro e w1 ⟨g, cap, rfl, ho, hn⟩; have HO := Lib.hid (pts_own ho HM.out); have HN1 := Lib.hid hn; clear hn ho)
  go_loopw [18] (fun i wr => ∃ k : Nat, k ≤ m ∧ i = .int .i64 k ∧ (∀ j, j < k → turnAt M m j = 1) ∧ New w1 wr) (fun i _ => m - (intOf i).toNat)
  case atStart => exact ⟨0, Nat.zero_le _, rfl, fun j hj => absurd hj (Nat.not_lt_zero _), New.refl _⟩
  case round =>
    obtain ⟨k, hk, rfl, hall, pr, rfl⟩ := hrel
    have HALL := Lib.hid hall
    clear hall
    by_cases hlt : k < m
    · have g1 := HBD.out k
      have g2 := HBD.out ((k + m - 1) % m)
      have g3 := HBD.out ((k + 1) % m)
      have HAR := Lib.hid (fun (w2 : World) (h : New w1 w2) => around_c g 0 m cap k M w2 hlt hm5 (HO.out.new h))
      have HTA := Lib.hid (show turnAt M m k = turnI (px M ((k + m - 1) % m)) (py M ((k + m - 1) % m)) (px M k) (py M k) (px M ((k + 1) % m)) (py M ((k + 1) % m)) from rfl)
      have HTU := Lib.hid (fun w2 : World => turn_c (px M ((k + m - 1) % m)) (py M ((k + m - 1) % m)) (px M k) (py M k) (px M ((k + 1) % m)) (py M ((k + 1) % m)) w2 (by omega) (by omega) (by omega) (by omega) (by omega) (by omega))
      generalize px M ((k + m - 1) % m) = A1 at *
      generalize py M ((k + m - 1) % m) = A2 at *
      generalize px M k = B1 at *
      generalize py M k = B2 at *
      generalize px M ((k + 1) % m) = C1 at *
      generalize py M ((k + 1) % m) = C2 at *
      generalize turnI A1 A2 B1 B2 C1 C2 = T at *
      clear g1 g2 g3
      have hkm : (k : Int) < (m : Int) := by omega
      by_cases ht : T = 1
      · subst ht
        go_wp2_with (first | (go_at_call 111; refine (HAR.out _ (by (repeat (first | exact New.refl _ | apply New.alloc | apply New.aft | apply New.drew | refine New.setCell ?_ ?_ _)); all_goals (first | done | (simp [size_aft]; done) | (simp [size_aft]; omega)))).mono ?_; rintro e w2 ⟨rfl, pw, rfl⟩) | (go_at_call 85; refine (HTU.out _).mono ?_; rintro e w3 ⟨rfl, pv3, rfl⟩))
        go_roundw
        case rel => exact ⟨k + 1, by omega, by go_num, fun j hj => by
            by_cases e : j = k
            · subst e; exact HTA.out
            · exact HALL.out j (by omega), by (repeat (first | exact New.refl _ | apply New.alloc | apply New.aft | apply New.drew | refine New.setCell ?_ ?_ _)); all_goals (first | done | (simp [size_aft]; done) | (simp [size_aft]; omega))⟩
        case measure => simp [intOf]; omega
      · have t1 : (T == 1) = false := by simpa using ht
        have t2 : (T != 1) = true := by simpa using ht
        have HV := Lib.hid (show false = convB M by
          cases hc : convB M
          · rfl
          · exact absurd (HTA.out.symm.trans (HCV.out.1 hc k hlt)) ht)
        clear ht
        go_wp2_with (first | (go_at_call 111; refine (HAR.out _ (by (repeat (first | exact New.refl _ | apply New.alloc | apply New.aft | apply New.drew | refine New.setCell ?_ ?_ _)); all_goals (first | done | (simp [size_aft]; done) | (simp [size_aft]; omega)))).mono ?_; rintro e w2 ⟨rfl, pw, rfl⟩) | (go_at_call 85; refine (HTU.out _).mono ?_; rintro e w3 ⟨rfl, pv3, rfl⟩))
        go_ret
        exact ⟨ret_bool HV.out, HN1.out.trans (by (repeat (first | exact New.refl _ | apply New.alloc | apply New.aft | apply New.drew | refine New.setCell ?_ ?_ _)); all_goals (first | done | (simp [size_aft]; done) | (simp [size_aft]; omega)))⟩
    · have hkm : ¬ (k : Int) < (m : Int) := by omega
      have HV := Lib.hid (show true = convB M from (HCV.out.2 fun j hj => HALL.out j (by omega)).symm)
      go_wp2_with fail
      go_ret
      exact ⟨ret_bool HV.out, HN1.out.trans (by (repeat (first | exact New.refl _ | apply New.alloc | apply New.aft | apply New.drew | refine New.setCell ?_ ?_ _)); all_goals (first | done | (simp [size_aft]; done) | (simp [size_aft]; omega)))⟩

end Go.Proofs.YtpdfbboagaflhaaGreat

set_option linter.unusedSimpArgs false
set_option linter.unusedVariables false
set_option maxRecDepth 100000
namespace Go.Proofs.YtpdfbboagaflhaaGreat
open Go.RowKit

/-! two points are compared: one Bool -/
theorem fields_23 : ((Tryz.prog.fieldsOf 23).toList.map fun f => (f.type, f.offset, decide (f.name = "_"))) = [(3, 0, false), (3, 1, false)] := by kernel_rfl
theorem eql_bool (a b c d : Int) : ∃ e : Bool, ((e = true) = (a = c ∧ b = d)) ∧ ∀ w : World, (binOp .eql 23 (.agg #[.int .i64 a, .int .i64 b]) (.agg #[.int .i64 c, .int .i64 d])).run Tryz.prog w = .ok (.bool e) w := by
  refine ⟨a == c && b == d, by simp, fun w => ?_⟩
  have hs : Tryz.prog.underlying 23 = some (.struct (Tryz.prog.fieldsOf 23)) := by kernel_rfl
  have hp : Tryz.prog.stoodInHeld 23 = false := by kernel_rfl
  have hf := fields_23
  rw [run_eql_struct, run_equalIn_agg _ _ _ _ _ hs hp]
  generalize (Tryz.prog.fieldsOf 23).toList = F at *
  rcases F with _ | ⟨f, _ | ⟨g, _ | ⟨x, F⟩⟩⟩
  · simp at hf
  · simp at hf
  · simp only [List.map_cons, List.map_nil, List.cons.injEq, Prod.mk.injEq, and_true, decide_eq_false_iff_not] at hf
    obtain ⟨⟨h1, h2, h3⟩, h4, h5, h6⟩ := hf
    simp [go_sem, Op.eqFields, h1, h2, h3, h4, h5, h6, Tryz.underlying3]
    by_cases k1 : a = c <;> by_cases k2 : b = d <;> simp [k1, k2]
  · simp at hf

/-- whether a point is one of the first k of a list -/
def Fnd (x y : Int) (l : List P2) (k : Nat) : Prop := ∃ i, i < k ∧ x = px l i ∧ y = py l i
theorem fnd_succ (x y : Int) (l : List P2) (k : Nat) : Fnd x y l (k + 1) ↔ (Fnd x y l k ∨ (x = px l k ∧ y = py l k)) := by
  constructor
  · rintro ⟨i, hi, h⟩
    by_cases e : i = k
    · subst e; right; exact h
    · left; exact ⟨i, by omega, h⟩
  · rintro (⟨i, hi, h⟩ | h)
    · exact ⟨i, by omega, h⟩
    · exact ⟨k, by omega, h⟩

/-- what the law asks of a hull -/
structure HoldsR (l H : List P2) (n m : Nat) : Prop where
  mem : ∀ k, k < m → Fnd (px H k) (py H k) l n
  one : m = 1 → ∀ j, j < n → px l j = px H 0 ∧ py l j = py H 0
  two : m = 2 → ∀ j, j < n → ∀ w1 : World, Calls Tryz.prog 32 #[pv (px l j) (py l j), sv (px H 0) (py H 0) (px H 1) (py H 1)] w1 fun en w' => en = .returned (.bool true) ∧ New w1 w'
  whr : 3 ≤ m → ∀ j, j < n → ∃ K : Int, K ≠ 0 ∧ ∀ (w1 : World) (g cap : Nat), Pts w1 g 0 m H → Calls Tryz.prog 53 #[.slice (some ⟨g, 0, none⟩) m cap, pv (px l j) (py l j)] w1 fun en w' => en = .returned (.int .u8 K) ∧ New w1 w'
  trn : 3 ≤ m → ∀ j, j < n → ∀ i, i < m → ∃ T : Int, 0 ≤ T ∧ ∀ w1 : World, Calls Tryz.prog 27 #[pv (px H i) (py H i), pv (px H ((i + 1) % m)) (py H ((i + 1) % m)), pv (px l j) (py l j)] w1 fun en w' => en = .returned (.int .i64 T) ∧ New w1 w'

set_option maxHeartbeats 16000000 in
theorem holds_go (b off n c m : Nat) (l H : List P2) (w : World) (h0 : 0 < n) (hn : n ≤ 100) (hm1 : 0 < m) (hm2 : m ≤ 1000) (hmH : H.length = m) (hw : Pts w b off n l) (hR : HoldsR l H n m)
    (HU1 : Hid (∀ w1 : World, New w w1 → Calls Tryz.prog 57 #[.slice (some ⟨b, off, none⟩) n c] w1 fun en w' => ∃ r, en = .returned (.tuple #[r, .int .i64 0]) ∧ PtsR w' r H ∧ New w1 w'))
    (HU2 : Hid (∀ (w1 : World) (g cap : Nat), Pts w1 g 0 m H → Calls Tryz.prog 57 #[.slice (some ⟨g, 0, none⟩) m cap] w1 fun en w' => ∃ r, en = .returned (.tuple #[r, .int .i64 0]) ∧ PtsR w' r H ∧ New w1 w'))
    (HCV : Hid (3 ≤ m → ∀ (w1 : World) (g cap : Nat), Pts w1 g 0 m H → Calls Tryz.prog 48 #[.slice (some ⟨g, 0, none⟩) m cap] w1 fun en w' => en = .returned (.bool true) ∧ New w1 w')) :
    Calls Tryz.prog 21 #[.slice (some ⟨b, off, none⟩) n c] w fun e w' => e = .returned (.bool true) ∧ New w w' := by
  have HL := Lib.hid alive_c
  have HW := Lib.hid hw
  have HR := Lib.hid hR
  have HMH := Lib.hid hmH
  have k1 : ¬ (100 : Int) < (n : Int) := by omega
  have k2 : (0 : Int) < (n : Int) := by omega
  have z1 : (m = 0) = False := eq_false (by omega)
  have HSP := Lib.hid (fun (v u : Value) (w1 : World) (h1 : PtsR w1 v H) (h2 : PtsR w1 u H) => samePoints_c v u H w1 (by rw [hmH]; omega) h1 h2)
  clear hw hR hmH
  have HRS : Hid (∀ (W : World) (r : Value), PtsR W r H → ∃ g cap, r = .slice (some ⟨g, 0, none⟩) m cap ∧ Pts W g 0 m H) := Lib.hid fun W r h => by
    obtain ⟨av, cap, rfl, h2⟩ := h
    obtain ⟨g, rfl, hg⟩ := h2 (by rw [HMH.out]; exact hm1)
    rw [HMH.out] at hg
    exact ⟨g, cap, by rw [HMH.out], hg⟩
  have HEND : Hid (∀ P : Prop, P → P) := Lib.hid fun _ h => h
  go_enter Tryz.func21, Tryz.ntmps21
  by_cases h3 : 3 ≤ m
  · have k3 : (3 : Int) ≤ (m : Int) := by omega
    have HCW := Lib.hid (HCV.out h3)
    go_wp2_with (first | (go_at_call 57; first | ((with_reducible refine (HU1.out _ (New.refl _)).mono ?_); rintro e w1 ⟨r, rfl, hr, hn1⟩; obtain ⟨g, cap, rfl, hg⟩ := HRS.out _ _ hr; have HG := Lib.hid hg; have HPR := Lib.hid hr; have N1 := Lib.hid hn1; clear hn1 hr hg) | ((with_reducible refine (HU2.out _ g cap HG.out).mono ?_); rintro e w2 ⟨r2, rfl, hr, hn2⟩; have HPR2 := Lib.hid hr; have N2 := Lib.hid hn2; clear hn2 hr)) | (go_at_call 52; refine (HSP.out _ _ _ (HPR.out.new N2.out) HPR2.out).mono ?_; rintro e w3 ⟨rfl, hn3⟩; have N3 := Lib.hid hn3; clear hn3) | (go_at_call 48; refine (HCW.out _ g cap (HG.out.new (N2.out.trans N3.out))).mono ?_; rintro e w4 ⟨rfl, hn4⟩; have N4 := Lib.hid hn4; clear hn4))
    have N0 := Lib.hid (N1.out.trans (N2.out.trans (N3.out.trans N4.out)) : New w w4)
    have HG0 := Lib.hid (HG.out.new (N2.out.trans (N3.out.trans N4.out) : New w1 w4))
    clear HU1 HU2 HPR HPR2 HSP HCV HCW
    go_loopw [67] (fun i wr => ∃ k : Nat, k ≤ m ∧ i = .int .i64 k ∧ New w4 wr) (fun i _ => m - (intOf i).toNat)
    case atStart => exact ⟨0, Nat.zero_le _, rfl, New.refl _⟩
    case round =>
      obtain ⟨wo, rfl⟩ : ∃ wo : World, wo = wr := ⟨_, rfl⟩
      obtain ⟨k, hk, rfl, hnew⟩ := hrel
      have NO := Lib.hid hnew
      clear hnew
      by_cases hkm : k < m
      · have hkm2 : (k : Int) < (m : Int) := by omega
        obtain ⟨_, hb2, hcell⟩ := HG0.out.new NO.out
        obtain ⟨c1, c2⟩ := hcell k hkm
        simp only [Nat.zero_add] at c1 c2
        clear hcell
        have HFD := Lib.hid (HR.out.mem k hkm)
        generalize px H k = X at *
        generalize py H k = Y at *
        go_wp2_with fail
        go_loopw [9, 73] (fun f i wy => ∃ (j : Nat) (F : Bool), j ≤ n ∧ i = .int .i64 j ∧ f = .bool F ∧ (F = true ↔ Fnd X Y l j) ∧ New (wo.alloc (.cells #[.int .i64 X, .int .i64 Y] 23)) wy) (fun _ i _ => n - (intOf i).toNat)
        case atStart => exact ⟨0, false, Nat.zero_le _, rfl, rfl, by simp [Fnd], New.refl _⟩
        case round =>
          obtain ⟨wy, rfl⟩ : ∃ wy : World, wy = wr := ⟨_, rfl⟩
          obtain ⟨j, F, hj, rfl, rfl, hF, hnew⟩ := hrel
          have NY := Lib.hid hnew
          clear hnew
          have x1 : wy.cell? ⟨wo.heap.size, 0, none⟩ = some (.int .i64 X) := (NY.out.below.cell (p := ⟨wo.heap.size, 0, none⟩) (by simp)).trans (by simp [go_sem])
          have x2 : wy.cell? ⟨wo.heap.size, 1, none⟩ = some (.int .i64 Y) := (NY.out.below.cell (p := ⟨wo.heap.size, 1, none⟩) (by simp)).trans (by simp [go_sem])
          have x3 : wo.heap.size < wy.heap.size := by have := NY.out.size; simp at this; omega
          by_cases hjn : j < n
          · have hjn2 : (j : Int) < (n : Int) := by omega
            obtain ⟨_, hb3, hcell⟩ := HW.out.new (N0.out.trans (NO.out.trans (((New.refl _).alloc _).trans NY.out)))
            obtain ⟨d1, d2⟩ := hcell j hjn
            clear hcell
            obtain ⟨e1, he1, hr1⟩ := eql_bool X Y (px l j) (py l j)
            have HSA := Lib.hid (fnd_succ X Y l j)
            rw [← he1] at HSA
            clear he1
            generalize px l j = X' at *
            generalize py l j = Y' at *
            generalize Fnd X Y l j = HA at *
            cases F
            · simp only [Bool.false_eq_true, false_iff] at hF
              cases e1
              · go_wp2_with fail
                go_roundw
                case rel => exact ⟨j + 1, _, by omega, by go_num, rfl, by rw [HSA.out]; simp [hF], NY.out.trans ((New.refl _).alloc _)⟩
                case measure => simp [intOf]; omega
              · go_wp2_with fail
                go_roundw
                case rel => exact ⟨j + 1, _, by omega, by go_num, rfl, by rw [HSA.out]; simp [hF], NY.out.trans ((New.refl _).alloc _)⟩
                case measure => simp [intOf]; omega
            · simp only [true_iff] at hF
              go_wp2_with fail
              go_roundw
              case rel => exact ⟨j + 1, _, by omega, by go_num, rfl, by rw [HSA.out]; simp [hF], NY.out.trans ((New.refl _).alloc _)⟩
              case measure => simp [intOf]; omega
          · have hjn2 : ¬ (j : Int) < (n : Int) := by omega
            have hF1 : F = true := hF.2 (by rw [show j = n by omega]; exact HFD.out)
            subst hF1
            clear hF
            go_wp2_with fail
            go_roundw
            case rel => exact ⟨k + 1, by omega, by go_num, NO.out.trans (((New.refl _).alloc _).trans NY.out)⟩
            case measure => simp [intOf]; omega
      · have hkm2 : ¬ (k : Int) < (m : Int) := by omega
        have N2W := Lib.hid (N0.out.trans NO.out)
        have HGO := Lib.hid (HG0.out.new NO.out)
        go_wp2_with fail
        go_loopw [89] (fun i wr => ∃ j : Nat, j ≤ n ∧ i = .int .i64 j ∧ New wo wr) (fun i _ => n - (intOf i).toNat)
        case atStart => exact ⟨0, Nat.zero_le _, rfl, New.refl _⟩
        case round =>
          obtain ⟨wx, rfl⟩ : ∃ wx : World, wx = wr := ⟨_, rfl⟩
          obtain ⟨j, hj, rfl, hnew⟩ := hrel
          have NX := Lib.hid hnew
          clear hnew
          by_cases hjn : j < n
          · have hjn2 : (j : Int) < (n : Int) := by omega
            obtain ⟨_, hb3, hcell⟩ := HW.out.new (N2W.out.trans NX.out)
            obtain ⟨d1, d2⟩ := hcell j hjn
            clear hcell
            have HBX := Lib.hid (show ∀ W : World, New (wx.alloc (.cells #[.int .i64 (px l j), .int .i64 (py l j)] 23)) W → (W.cell? ⟨wx.heap.size, 0, none⟩ = some (.int .i64 (px l j)) ∧ W.cell? ⟨wx.heap.size, 1, none⟩ = some (.int .i64 (py l j))) ∧ wx.heap.size < W.heap.size from fun W h => ⟨⟨(h.below.cell (p := ⟨wx.heap.size, 0, none⟩) (by simp)).trans (by simp [go_sem]), (h.below.cell (p := ⟨wx.heap.size, 1, none⟩) (by simp)).trans (by simp [go_sem])⟩, by have := h.size; simp at this; omega⟩)
            obtain ⟨K, hK, hKc⟩ := HR.out.whr h3 j hjn
            have HKC := Lib.hid hKc
            have hK1 : (K == 0) = false := by simpa using hK
            have HTN := Lib.hid (HR.out.trn h3 j hjn)
            have m0 : ((m : Int) == 0) = false := by simp; omega
            have m1 : ((m : Int) == 1) = false := by simp; omega
            have m2 : ((m : Int) == 2) = false := by simp; omega
            clear hK hKc
            generalize px l j = X at *
            generalize py l j = Y at *
            go_wp2_with fail
            first | refine wp_region_at2 (by kernel_rfl) (by kernel_rfl) ?_ | refine wp_region_at (by kernel_rfl) (by kernel_rfl) ?_
            repeat (go_big_quiet_step (fail))
            refine wpQuiet_nil ?_
            rintro _ ⟨q0, rfl⟩
            have y1 := HBX.out _ ((New.refl _).aft q0.d q0.os)
            obtain ⟨⟨y2, y3⟩, y4⟩ := y1
            go_wp2_with (go_at_call 53; refine (HKC.out _ g cap (HGO.out.new (NX.out.trans (by (repeat (first | exact New.refl _ | apply New.alloc | apply New.aft | apply New.drew | refine New.setCell ?_ ?_ _)); all_goals (first | done | (simp [size_aft]; done) | (simp [size_aft]; omega)))))).mono ?_; rintro e w6 ⟨rfl, hn6⟩; have N6 := Lib.hid (New.trans (by (repeat (first | exact New.refl _ | apply New.alloc | apply New.aft | apply New.drew | refine New.setCell ?_ ?_ _)); all_goals (first | done | (simp [size_aft]; done) | (simp [size_aft]; omega))) hn6 : New (wx.alloc (.cells #[.int .i64 X, .int .i64 Y] 23)) w6); clear hn6)
            go_loopw [14] (fun i wr => ∃ t : Nat, t ≤ m ∧ i = .int .i64 t ∧ New w6 wr) (fun i _ => m - (intOf i).toNat)
            case atStart => exact ⟨0, Nat.zero_le _, rfl, New.refl _⟩
            case round =>
              obtain ⟨wz, rfl⟩ : ∃ wz : World, wz = wr := ⟨_, rfl⟩
              obtain ⟨t, ht, rfl, hnew⟩ := hrel
              have NZ := Lib.hid hnew
              clear hnew
              by_cases htm : t < m
              · have htm2 : (t : Int) < (m : Int) := by omega
                obtain ⟨⟨y5, y6⟩, y7⟩ := HBX.out _ (N6.out.trans NZ.out)
                obtain ⟨_, hb4, hcell⟩ := HGO.out.new (NX.out.trans (((New.refl _).alloc _).trans (N6.out.trans NZ.out)))
                have j1 : (t + 1) % m < m := Nat.mod_lt _ hm1
                obtain ⟨c1, c2⟩ := hcell t htm
                obtain ⟨c3, c4⟩ := hcell _ j1
                simp only [Nat.zero_add] at c1 c2 c3 c4
                clear hcell
                have mm : ((t : Int) + 1).tmod (m : Int) = (((t + 1) % m : Nat) : Int) := by
                  rw [Int.tmod_eq_emod_of_nonneg (by omega), show (t : Int) + 1 = ((t + 1 : Nat) : Int) by omega, ← Int.natCast_emod]
                have mw : IntKind.i64.wrap ((t : Int) + 1) = (t : Int) + 1 := IntWalk.i64_in _ (by omega)
                obtain ⟨T, hT, hTc⟩ := HTN.out t htm
                have HTC := Lib.hid hTc
                clear hTc
                have hT2 : ¬ T < 0 := by omega
                generalize (t + 1) % m = i1 at *
                generalize px H t = A1 at *
                generalize py H t = A2 at *
                generalize px H i1 = B1 at *
                generalize py H i1 = B2 at *
                go_wp2_with fail
                first | refine wp_region_at2 (by kernel_rfl) (by kernel_rfl) ?_ | refine wp_region_at (by kernel_rfl) (by kernel_rfl) ?_
                repeat (go_big_quiet_step (first | (go_at_call 27; (with_reducible exact calls_new (HTC.out _)))))
                refine wpQuiet_nil ?_
                rintro _ ⟨q1, rfl⟩
                go_wp2_with fail
                go_roundw
                case rel => exact ⟨t + 1, by omega, by go_num, NZ.out.trans (by (repeat (first | exact New.refl _ | apply New.alloc | apply New.aft | apply New.drew | refine New.setCell ?_ ?_ _)); all_goals (first | done | (simp [size_aft]; done) | (simp [size_aft]; omega)))⟩
                case measure => simp [intOf]; omega
              · have htm2 : ¬ (t : Int) < (m : Int) := by omega
                go_wp2_with fail
                go_roundw
                case rel => exact ⟨j + 1, by omega, by go_num, NX.out.trans (((New.refl _).alloc _).trans (N6.out.trans NZ.out))⟩
                case measure => simp [intOf]; omega
          · have hjn2 : ¬ (j : Int) < (n : Int) := by omega
            go_wp2_with (go_at_call 31; refine (HL.out _).mono ?_; rintro e w5 ⟨rfl, hn5⟩; have N5 := Lib.hid (N2W.out.trans (NX.out.trans hn5)); clear hn5)
            go_ret
            exact ⟨ret_bool (by simp), N5.out⟩
  · have k3 : ¬ (3 : Int) ≤ (m : Int) := by omega
    clear HCV
    by_cases hm1e : m = 1
    · have HM1 := Lib.hid hm1e
      clear hm1e
      go_wp2_with (first | (go_at_call 57; first | ((with_reducible refine (HU1.out _ (New.refl _)).mono ?_); rintro e w1 ⟨r, rfl, hr, hn1⟩; obtain ⟨g, cap, rfl, hg⟩ := HRS.out _ _ hr; have HG := Lib.hid hg; have HPR := Lib.hid hr; have N1 := Lib.hid hn1; clear hn1 hr hg) | ((with_reducible refine (HU2.out _ g cap HG.out).mono ?_); rintro e w2 ⟨r2, rfl, hr, hn2⟩; have HPR2 := Lib.hid hr; have N2 := Lib.hid hn2; clear hn2 hr)) | (go_at_call 52; refine (HSP.out _ _ _ (HPR.out.new N2.out) HPR2.out).mono ?_; rintro e w3 ⟨rfl, hn3⟩; have N3 := Lib.hid hn3; clear hn3))
      have N0 := Lib.hid (N1.out.trans (N2.out.trans N3.out) : New w w3)
      have HG0 := Lib.hid (HG.out.new (N2.out.trans N3.out : New w1 w3))
      clear HU1 HU2 HPR HPR2 HSP
      go_loopw [67] (fun i wr => ∃ k : Nat, k ≤ m ∧ i = .int .i64 k ∧ New w3 wr) (fun i _ => m - (intOf i).toNat)
      case atStart => exact ⟨0, Nat.zero_le _, rfl, New.refl _⟩
      case round =>
        obtain ⟨wo, rfl⟩ : ∃ wo : World, wo = wr := ⟨_, rfl⟩
        obtain ⟨k, hk, rfl, hnew⟩ := hrel
        have NO := Lib.hid hnew
        clear hnew
        by_cases hkm : k < m
        · have hkm2 : (k : Int) < (m : Int) := by omega
          obtain ⟨_, hb2, hcell⟩ := HG0.out.new NO.out
          obtain ⟨c1, c2⟩ := hcell k hkm
          simp only [Nat.zero_add] at c1 c2
          clear hcell
          have HFD := Lib.hid (HR.out.mem k hkm)
          generalize px H k = X at *
          generalize py H k = Y at *
          go_wp2_with fail
          go_loopw [9, 73] (fun f i wy => ∃ (j : Nat) (F : Bool), j ≤ n ∧ i = .int .i64 j ∧ f = .bool F ∧ (F = true ↔ Fnd X Y l j) ∧ New (wo.alloc (.cells #[.int .i64 X, .int .i64 Y] 23)) wy) (fun _ i _ => n - (intOf i).toNat)
          case atStart => exact ⟨0, false, Nat.zero_le _, rfl, rfl, by simp [Fnd], New.refl _⟩
          case round =>
            obtain ⟨wy, rfl⟩ : ∃ wy : World, wy = wr := ⟨_, rfl⟩
            obtain ⟨j, F, hj, rfl, rfl, hF, hnew⟩ := hrel
            have NY := Lib.hid hnew
            clear hnew
            have x1 : wy.cell? ⟨wo.heap.size, 0, none⟩ = some (.int .i64 X) := (NY.out.below.cell (p := ⟨wo.heap.size, 0, none⟩) (by simp)).trans (by simp [go_sem])
            have x2 : wy.cell? ⟨wo.heap.size, 1, none⟩ = some (.int .i64 Y) := (NY.out.below.cell (p := ⟨wo.heap.size, 1, none⟩) (by simp)).trans (by simp [go_sem])
            have x3 : wo.heap.size < wy.heap.size := by have := NY.out.size; simp at this; omega
            by_cases hjn : j < n
            · have hjn2 : (j : Int) < (n : Int) := by omega
              obtain ⟨_, hb3, hcell⟩ := HW.out.new (N0.out.trans (NO.out.trans (((New.refl _).alloc _).trans NY.out)))
              obtain ⟨d1, d2⟩ := hcell j hjn
              clear hcell
              obtain ⟨e1, he1, hr1⟩ := eql_bool X Y (px l j) (py l j)
              have HSA := Lib.hid (fnd_succ X Y l j)
              rw [← he1] at HSA
              clear he1
              generalize px l j = X' at *
              generalize py l j = Y' at *
              generalize Fnd X Y l j = HA at *
              cases F
              · simp only [Bool.false_eq_true, false_iff] at hF
                cases e1
                · go_wp2_with fail
                  go_roundw
                  case rel => exact ⟨j + 1, _, by omega, by go_num, rfl, by rw [HSA.out]; simp [hF], NY.out.trans ((New.refl _).alloc _)⟩
                  case measure => simp [intOf]; omega
                · go_wp2_with fail
                  go_roundw
                  case rel => exact ⟨j + 1, _, by omega, by go_num, rfl, by rw [HSA.out]; simp [hF], NY.out.trans ((New.refl _).alloc _)⟩
                  case measure => simp [intOf]; omega
              · simp only [true_iff] at hF
                go_wp2_with fail
                go_roundw
                case rel => exact ⟨j + 1, _, by omega, by go_num, rfl, by rw [HSA.out]; simp [hF], NY.out.trans ((New.refl _).alloc _)⟩
                case measure => simp [intOf]; omega
            · have hjn2 : ¬ (j : Int) < (n : Int) := by omega
              have hF1 : F = true := hF.2 (by rw [show j = n by omega]; exact HFD.out)
              subst hF1
              clear hF
              go_wp2_with fail
              go_roundw
              case rel => exact ⟨k + 1, by omega, by go_num, NO.out.trans (((New.refl _).alloc _).trans NY.out)⟩
              case measure => simp [intOf]; omega
        · have hkm2 : ¬ (k : Int) < (m : Int) := by omega
          have N2W := Lib.hid (N0.out.trans NO.out)
          have HGO := Lib.hid (HG0.out.new NO.out)
          go_wp2_with fail
          go_loopw [89] (fun i wr => ∃ j : Nat, j ≤ n ∧ i = .int .i64 j ∧ New wo wr) (fun i _ => n - (intOf i).toNat)
          case atStart => exact ⟨0, Nat.zero_le _, rfl, New.refl _⟩
          case round =>
            obtain ⟨wx, rfl⟩ : ∃ wx : World, wx = wr := ⟨_, rfl⟩
            obtain ⟨j, hj, rfl, hnew⟩ := hrel
            have NX := Lib.hid hnew
            clear hnew
            by_cases hjn : j < n
            · have hjn2 : (j : Int) < (n : Int) := by omega
              obtain ⟨_, hb3, hcell⟩ := HW.out.new (N2W.out.trans NX.out)
              obtain ⟨d1, d2⟩ := hcell j hjn
              clear hcell
              obtain ⟨hx, hy⟩ := HR.out.one HM1.out j hjn
              rw [hx] at d1
              rw [hy] at d2
              clear hx hy
              have HBX := Lib.hid (show ∀ W : World, New (wx.alloc (.cells #[.int .i64 (px H 0), .int .i64 (py H 0)] 23)) W → (W.cell? ⟨wx.heap.size, 0, none⟩ = some (.int .i64 (px H 0)) ∧ W.cell? ⟨wx.heap.size, 1, none⟩ = some (.int .i64 (py H 0))) ∧ wx.heap.size < W.heap.size from fun W h => ⟨⟨(h.below.cell (p := ⟨wx.heap.size, 0, none⟩) (by simp)).trans (by simp [go_sem]), (h.below.cell (p := ⟨wx.heap.size, 1, none⟩) (by simp)).trans (by simp [go_sem])⟩, by have := h.size; simp at this; omega⟩)
              obtain ⟨⟨z2, z3⟩, z4⟩ := HBX.out _ (New.refl _)
              obtain ⟨_, hb5, hcell5⟩ := HGO.out.new NX.out
              obtain ⟨c1, c2⟩ := hcell5 0 hm1
              clear hcell5
              simp only [Nat.zero_add, Nat.add_zero, Nat.mul_zero, Nat.mul_one] at c1 c2
              have hme := HM1.out
              have m0 : ((m : Int) == 0) = false := by simp; omega
              have m1 : ((m : Int) == 1) = true := by simp; omega
              have m2 : ((m : Int) == 2) = false := by simp; omega
              clear hme
              have i0 : (0 : Int) < (m : Int) := by omega
              generalize px H 0 = X at *
              generalize py H 0 = Y at *
              go_wp2_with fail
              first | refine wp_region_at2 (by kernel_rfl) (by kernel_rfl) ?_ | refine wp_region_at (by kernel_rfl) (by kernel_rfl) ?_
              repeat (go_big_quiet_step (fail))
              refine wpQuiet_nil ?_
              rintro _ ⟨q0, rfl⟩
              go_wp2_with fail
              go_loopw [14] (fun i wr => ∃ t : Nat, i = .int .i64 t ∧ New (wx.alloc (.cells #[.int .i64 X, .int .i64 Y] 23)) wr) (fun _ _ => 0)
              case atStart => exact ⟨0, rfl, (by (repeat (first | exact New.refl _ | apply New.alloc | apply New.aft | apply New.drew | refine New.setCell ?_ ?_ _)); all_goals (first | done | (simp [size_aft]; done) | (simp [size_aft]; omega)))⟩
              case round =>
                obtain ⟨wz, rfl⟩ : ∃ wz : World, wz = wr := ⟨_, rfl⟩
                obtain ⟨t, rfl, hnew⟩ := hrel
                have NZ := Lib.hid hnew
                clear hnew
                go_wp2_with fail
                go_roundw
                case rel => exact ⟨j + 1, by omega, by go_num, NX.out.trans (((New.refl _).alloc _).trans NZ.out)⟩
                case measure => simp [intOf]; omega
            · have hjn2 : ¬ (j : Int) < (n : Int) := by omega
              go_wp2_with (go_at_call 31; refine (HL.out _).mono ?_; rintro e w5 ⟨rfl, hn5⟩; have N5 := Lib.hid (N2W.out.trans (NX.out.trans hn5)); clear hn5)
              go_ret
              exact ⟨ret_bool (by simp), N5.out⟩
    · have HM2 := Lib.hid (show m = 2 by omega)
      clear hm1e
      go_wp2_with (first | (go_at_call 57; first | ((with_reducible refine (HU1.out _ (New.refl _)).mono ?_); rintro e w1 ⟨r, rfl, hr, hn1⟩; obtain ⟨g, cap, rfl, hg⟩ := HRS.out _ _ hr; have HG := Lib.hid hg; have HPR := Lib.hid hr; have N1 := Lib.hid hn1; clear hn1 hr hg) | ((with_reducible refine (HU2.out _ g cap HG.out).mono ?_); rintro e w2 ⟨r2, rfl, hr, hn2⟩; have HPR2 := Lib.hid hr; have N2 := Lib.hid hn2; clear hn2 hr)) | (go_at_call 52; refine (HSP.out _ _ _ (HPR.out.new N2.out) HPR2.out).mono ?_; rintro e w3 ⟨rfl, hn3⟩; have N3 := Lib.hid hn3; clear hn3))
      have N0 := Lib.hid (N1.out.trans (N2.out.trans N3.out) : New w w3)
      have HG0 := Lib.hid (HG.out.new (N2.out.trans N3.out : New w1 w3))
      clear HU1 HU2 HPR HPR2 HSP
      go_loopw [67] (fun i wr => ∃ k : Nat, k ≤ m ∧ i = .int .i64 k ∧ New w3 wr) (fun i _ => m - (intOf i).toNat)
      case atStart => exact ⟨0, Nat.zero_le _, rfl, New.refl _⟩
      case round =>
        obtain ⟨wo, rfl⟩ : ∃ wo : World, wo = wr := ⟨_, rfl⟩
        obtain ⟨k, hk, rfl, hnew⟩ := hrel
        have NO := Lib.hid hnew
        clear hnew
        by_cases hkm : k < m
        · have hkm2 : (k : Int) < (m : Int) := by omega
          obtain ⟨_, hb2, hcell⟩ := HG0.out.new NO.out
          obtain ⟨c1, c2⟩ := hcell k hkm
          simp only [Nat.zero_add] at c1 c2
          clear hcell
          have HFD := Lib.hid (HR.out.mem k hkm)
          generalize px H k = X at *
          generalize py H k = Y at *
          go_wp2_with fail
          go_loopw [9, 73] (fun f i wy => ∃ (j : Nat) (F : Bool), j ≤ n ∧ i = .int .i64 j ∧ f = .bool F ∧ (F = true ↔ Fnd X Y l j) ∧ New (wo.alloc (.cells #[.int .i64 X, .int .i64 Y] 23)) wy) (fun _ i _ => n - (intOf i).toNat)
          case atStart => exact ⟨0, false, Nat.zero_le _, rfl, rfl, by simp [Fnd], New.refl _⟩
          case round =>
            obtain ⟨wy, rfl⟩ : ∃ wy : World, wy = wr := ⟨_, rfl⟩
            obtain ⟨j, F, hj, rfl, rfl, hF, hnew⟩ := hrel
            have NY := Lib.hid hnew
            clear hnew
            have x1 : wy.cell? ⟨wo.heap.size, 0, none⟩ = some (.int .i64 X) := (NY.out.below.cell (p := ⟨wo.heap.size, 0, none⟩) (by simp)).trans (by simp [go_sem])
            have x2 : wy.cell? ⟨wo.heap.size, 1, none⟩ = some (.int .i64 Y) := (NY.out.below.cell (p := ⟨wo.heap.size, 1, none⟩) (by simp)).trans (by simp [go_sem])
            have x3 : wo.heap.size < wy.heap.size := by have := NY.out.size; simp at this; omega
            by_cases hjn : j < n
            · have hjn2 : (j : Int) < (n : Int) := by omega
              obtain ⟨_, hb3, hcell⟩ := HW.out.new (N0.out.trans (NO.out.trans (((New.refl _).alloc _).trans NY.out)))
              obtain ⟨d1, d2⟩ := hcell j hjn
              clear hcell
              obtain ⟨e1, he1, hr1⟩ := eql_bool X Y (px l j) (py l j)
              have HSA := Lib.hid (fnd_succ X Y l j)
              rw [← he1] at HSA
              clear he1
              generalize px l j = X' at *
              generalize py l j = Y' at *
              generalize Fnd X Y l j = HA at *
              cases F
              · simp only [Bool.false_eq_true, false_iff] at hF
                cases e1
                · go_wp2_with fail
                  go_roundw
                  case rel => exact ⟨j + 1, _, by omega, by go_num, rfl, by rw [HSA.out]; simp [hF], NY.out.trans ((New.refl _).alloc _)⟩
                  case measure => simp [intOf]; omega
                · go_wp2_with fail
                  go_roundw
                  case rel => exact ⟨j + 1, _, by omega, by go_num, rfl, by rw [HSA.out]; simp [hF], NY.out.trans ((New.refl _).alloc _)⟩
                  case measure => simp [intOf]; omega
              · simp only [true_iff] at hF
                go_wp2_with fail
                go_roundw
                case rel => exact ⟨j + 1, _, by omega, by go_num, rfl, by rw [HSA.out]; simp [hF], NY.out.trans ((New.refl _).alloc _)⟩
                case measure => simp [intOf]; omega
            · have hjn2 : ¬ (j : Int) < (n : Int) := by omega
              have hF1 : F = true := hF.2 (by rw [show j = n by omega]; exact HFD.out)
              subst hF1
              clear hF
              go_wp2_with fail
              go_roundw
              case rel => exact ⟨k + 1, by omega, by go_num, NO.out.trans (((New.refl _).alloc _).trans NY.out)⟩
              case measure => simp [intOf]; omega
        · have hkm2 : ¬ (k : Int) < (m : Int) := by omega
          have N2W := Lib.hid (N0.out.trans NO.out)
          have HGO := Lib.hid (HG0.out.new NO.out)
          go_wp2_with fail
          go_loopw [89] (fun i wr => ∃ j : Nat, j ≤ n ∧ i = .int .i64 j ∧ New wo wr) (fun i _ => n - (intOf i).toNat)
          case atStart => exact ⟨0, Nat.zero_le _, rfl, New.refl _⟩
          case round =>
            obtain ⟨wx, rfl⟩ : ∃ wx : World, wx = wr := ⟨_, rfl⟩
            obtain ⟨j, hj, rfl, hnew⟩ := hrel
            have NX := Lib.hid hnew
            clear hnew
            by_cases hjn : j < n
            · have hjn2 : (j : Int) < (n : Int) := by omega
              obtain ⟨_, hb3, hcell⟩ := HW.out.new (N2W.out.trans NX.out)
              obtain ⟨d1, d2⟩ := hcell j hjn
              clear hcell
              have HBX := Lib.hid (show ∀ W : World, New (wx.alloc (.cells #[.int .i64 (px l j), .int .i64 (py l j)] 23)) W → (W.cell? ⟨wx.heap.size, 0, none⟩ = some (.int .i64 (px l j)) ∧ W.cell? ⟨wx.heap.size, 1, none⟩ = some (.int .i64 (py l j))) ∧ wx.heap.size < W.heap.size from fun W h => ⟨⟨(h.below.cell (p := ⟨wx.heap.size, 0, none⟩) (by simp)).trans (by simp [go_sem]), (h.below.cell (p := ⟨wx.heap.size, 1, none⟩) (by simp)).trans (by simp [go_sem])⟩, by have := h.size; simp at this; omega⟩)
              have HTW := Lib.hid (HR.out.two HM2.out j hjn)
              obtain ⟨⟨z2, z3⟩, z4⟩ := HBX.out _ (New.refl _)
              obtain ⟨_, hb5, hcell5⟩ := HGO.out.new NX.out
              obtain ⟨c1, c2⟩ := hcell5 0 hm1
              obtain ⟨c3, c4⟩ := hcell5 1 (by have := HM2; have := this.out; omega)
              clear hcell5
              simp only [Nat.zero_add, Nat.add_zero, Nat.mul_zero, Nat.mul_one] at c1 c2 c3 c4
              have hme := HM2.out
              have m0 : ((m : Int) == 0) = false := by simp; omega
              have m1 : ((m : Int) == 1) = false := by simp; omega
              have m2 : ((m : Int) == 2) = true := by simp; omega
              clear hme
              have i0 : (0 : Int) < (m : Int) := by omega
              have i1 : (1 : Int) < (m : Int) := by have := HM2; have := this.out; omega
              generalize px l j = X at *
              generalize py l j = Y at *
              generalize px H 0 = A1 at *
              generalize py H 0 = A2 at *
              generalize px H 1 = B1 at *
              generalize py H 1 = B2 at *
              go_wp2_with fail
              first | refine wp_region_at2 (by kernel_rfl) (by kernel_rfl) ?_ | refine wp_region_at (by kernel_rfl) (by kernel_rfl) ?_
              repeat (go_big_quiet_step (first | (go_at_call 32; (with_reducible exact calls_new (HTW.out _)))))
              refine wpQuiet_nil ?_
              rintro _ ⟨q0, rfl⟩
              go_wp2_with fail
              go_loopw [14] (fun i wr => ∃ t : Nat, i = .int .i64 t ∧ New (wx.alloc (.cells #[.int .i64 X, .int .i64 Y] 23)) wr) (fun _ _ => 0)
              case atStart => exact ⟨0, rfl, (by (repeat (first | exact New.refl _ | apply New.alloc | apply New.aft | apply New.drew | refine New.setCell ?_ ?_ _)); all_goals (first | done | (simp [size_aft]; done) | (simp [size_aft]; omega)))⟩
              case round =>
                obtain ⟨wz, rfl⟩ : ∃ wz : World, wz = wr := ⟨_, rfl⟩
                obtain ⟨t, rfl, hnew⟩ := hrel
                have NZ := Lib.hid hnew
                clear hnew
                go_wp2_with fail
                go_roundw
                case rel => exact ⟨j + 1, by omega, by go_num, NX.out.trans (((New.refl _).alloc _).trans NZ.out)⟩
                case measure => simp [intOf]; omega
            · have hjn2 : ¬ (j : Int) < (n : Int) := by omega
              go_wp2_with (go_at_call 31; refine (HL.out _).mono ?_; rintro e w5 ⟨rfl, hn5⟩; have N5 := Lib.hid (N2W.out.trans (NX.out.trans hn5)); clear hn5)
              go_ret
              exact ⟨ret_bool (by simp), N5.out⟩

end Go.Proofs.YtpdfbboagaflhaaGreat

set_option linter.unusedSimpArgs false
set_option linter.unusedVariables false
set_option maxRecDepth 100000
namespace Go.Proofs.YtpdfbboagaflhaaGreat
open Go.RowKit

theorem fnd_of {l : List P2} {p : P2} (hp : p ∈ l) : Fnd p.1 p.2 l l.length := by
  obtain ⟨i, hi, rfl⟩ := mem_ptAt hp
  exact ⟨i, hi, rfl, rfl⟩
theorem hullL_two (l : List P2) : (hullL l).length ≤ 2 * l.length := by
  have h1 : (belowL l).length ≤ (ptsL l).length := halfTo_le _ _
  have h2 : (aboveL l).length ≤ (ptsL l).length := halfTo_le _ _
  have h3 := ptsL_le l
  simp only [hullL, List.length_append, List.length_take]; omega

/-- one place alone -/
theorem holds_one {l : List P2} (h0 : 0 < l.length) (hk : ckPts l 400 = 0) (h2 : (ptsL l).length < 2) : (ptsL l).length = 1 ∧ hullV l = ptsL l ∧ hullV (ptsL l) = ptsL l ∧ ckPts (ptsL l) 400 = 0 ∧ HoldsR l (ptsL l) l.length 1 := by
  obtain ⟨_, hm⟩ := ptsL_spec l
  have a : 0 < (ptsL l).length := List.length_pos_of_mem ((hm _).2 (ptAt_mem h0))
  have h1 : (ptsL l).length = 1 := by omega
  have hin : ptAt (ptsL l) 0 ∈ l := (hm _).1 (ptAt_mem a)
  have hok := (ckPts_zero hk).2
  have hk2 : ckPts (ptsL l) 400 = 0 := by
    have : okL (ptsL l) = true := by
      unfold okL; rw [List.all_eq_true]; intro p hp
      exact okP_iff.2 (valid_of hok ((hm p).1 hp))
    unfold ckPts; rw [if_neg (by omega), if_pos this]
  have e1 : hullV l = ptsL l := by unfold hullV; rw [if_neg (by simp [hk]), if_pos h2]
  have hle := ptsL_le (ptsL l)
  obtain ⟨_, hm2⟩ := ptsL_spec (ptsL l)
  have e2 : hullV (ptsL l) = ptsL l := by
    unfold hullV
    rw [if_neg (by simp [hk2]), if_pos (by omega)]
    have b : 0 < (ptsL (ptsL l)).length := List.length_pos_of_mem ((hm2 _).2 (ptAt_mem a))
    apply List.ext_getElem (by omega)
    intro i hi hj
    have i0 : i = 0 := by omega
    subst i0
    have := (hm2 _).1 (List.getElem_mem hi)
    obtain ⟨j, hj2, he⟩ := List.getElem_of_mem this
    have j0 : j = 0 := by omega
    subst j0
    exact he.symm
  refine ⟨h1, e1, e2, hk2, ⟨?_, ?_, fun h => absurd h (by omega), fun h => absurd h (by omega), fun h => absurd h (by omega)⟩⟩
  · intro k hk3
    have k0 : k = 0 := by omega
    subst k0
    exact fnd_of hin
  · intro _ j hj
    have := one_all h1 j hj
    exact ⟨congrArg Prod.fst this, congrArg Prod.snd this⟩

/-- at least two -/
theorem holds_many {l : List P2} (hn : l.length ≤ 100) (hk : ckPts l 400 = 0) (h2 : 2 ≤ (ptsL l).length) : hullV l = hullL l ∧ hullV (hullL l) = hullL l ∧ ckPts (hullL l) 400 = 0 ∧ 2 ≤ (hullL l).length ∧ (hullL l).length ≤ 200 ∧ HoldsR l (hullL l) l.length (hullL l).length ∧ (3 ≤ (hullL l).length → polyI (hullL l) = 0 ∧ convB (normL (hullL l)) = true) := by
  have hok := (ckPts_zero hk).2
  have R := hull_round hok h2
  have hle := hullL_two l
  obtain ⟨a1, a2⟩ := hull_again hok h2
  have hk2 : ckPts (hullL l) 400 = 0 := by unfold ckPts; rw [if_neg (by omega), if_pos R.okH]
  have e1 : hullV l = hullL l := by unfold hullV; rw [if_neg (by simp [hk]), if_neg (by omega)]
  have e2 : hullV (hullL l) = hullL l := by unfold hullV; rw [if_neg (by simp [hk2]), if_neg (by omega), a2]
  have two := R.two
  refine ⟨e1, e2, hk2, two, by omega, ⟨?_, fun h => absurd h (by omega), ?_, ?_, ?_⟩, fun h3 => ⟨R.poly h3 (by omega), R.conv h3⟩⟩
  · intro k hk3
    exact fnd_of (R.mem hk3)
  · intro hm2 j hj w1
    have hp := ptAt_mem hj
    have s0 := R.step 0 (by omega)
    have s1 := R.step 1 (by omega)
    rw [hm2] at s0 s1
    have q0 := (s0.2.2 _ hp).1
    have q1 := (s1.2.2 _ hp).1
    have z : c3 (ptAt (hullL l) 0) (ptAt (hullL l) 1) (ptAt l j) = 0 := by
      have : c3 (ptAt (hullL l) 1) (ptAt (hullL l) 0) (ptAt l j) = - c3 (ptAt (hullL l) 0) (ptAt (hullL l) 1) (ptAt l j) := by simp only [c3]; grind
      have q1' : 0 ≤ c3 (ptAt (hullL l) 1) (ptAt (hullL l) 0) (ptAt l j) := q1
      have q0' : 0 ≤ c3 (ptAt (hullL l) 0) (ptAt (hullL l) 1) (ptAt l j) := q0
      omega
    have bt := (s0.2.2 _ hp).2 z
    have v0 := valid_of hok (R.mem (show 0 < (hullL l).length by omega))
    have v1 := valid_of hok (R.mem (show 1 < (hullL l).length by omega))
    have vp := valid_of hok hp
    have hs : okSeg (px (hullL l) 0, py (hullL l) 0, px (hullL l) 1, py (hullL l) 1) = true := okSeg_iff.2 ⟨v0, v1, fun e => R.once 1 (by omega) (by omega) e.symm⟩
    have ho : onR (px l j) (py l j) (px (hullL l) 0) (py (hullL l) 0) (px (hullL l) 1) (py (hullL l) 1) = true := (onR_iff vp hs).2 ⟨z, bt⟩
    rw [onR_eq] at ho
    have hx : OnX (px l j) (py l j) (px (hullL l) 0) (py (hullL l) 0) (px (hullL l) 1) (py (hullL l) 1) = true := by
      unfold OnX; rw [ho, show okP (px l j) (py l j) = true from okP_iff.2 vp, show okS _ _ _ _ = true from hs]; rfl
    have := On_c (px l j) (py l j) (px (hullL l) 0) (py (hullL l) 0) (px (hullL l) 1) (py (hullL l) 1) w1
    rw [hx] at this
    exact this
  · intro h3 j hj
    have hp := ptAt_mem hj
    refine ⟨WhereI (hullL l) (px l j) (py l j), ?_, fun w1 g cap hw => Where_c g 0 _ cap _ _ _ w1 (by omega) (by omega) hw⟩
    unfold WhereI
    rw [if_pos ⟨okP_iff.2 (valid_of hok hp), R.poly h3 (by omega)⟩]
    exact R.where_ne h3 hp
  · intro h3 j hj i hi
    have hp := ptAt_mem hj
    refine ⟨_, ?_, fun w1 => Turn_c _ _ _ _ _ _ w1⟩
    unfold TurnI
    split
    · have := turn3 (ptAt (hullL l) i) (ptAt (hullL l) ((i + 1) % (hullL l).length)) (ptAt l j)
      have h := R.left hi hp
      have t : turnI (px (hullL l) i) (py (hullL l) i) (px (hullL l) ((i + 1) % (hullL l).length)) (py (hullL l) ((i + 1) % (hullL l).length)) (px l j) (py l j) = Int.sign (c3 (ptAt (hullL l) i) (ptAt (hullL l) ((i + 1) % (hullL l).length)) (ptAt l j)) := this
      rw [t]
      have h' : 0 ≤ c3 (ptAt (hullL l) i) (ptAt (hullL l) ((i + 1) % (hullL l).length)) (ptAt l j) := h
      rcases Int.lt_or_eq_of_le h' with h'' | h''
      · rw [Int.sign_eq_one_of_pos h'']; omega
      · rw [← h'']; simp
    · exact Int.le_refl _

set_option maxHeartbeats 4000000 in
theorem holds_long (v : Option Addr) (n c : Nat) (w : World) (hn : 100 < n) : Calls Tryz.prog 21 #[.slice v n c] w fun e w' => e = .returned (.bool true) ∧ New w w' := by
  have HL := Lib.hid alive_c
  have k1 : (100 : Int) < (n : Int) := by omega
  clear hn
  go_enter Tryz.func21, Tryz.ntmps21
  go_wp2_with (go_at_call 31; refine (HL.out _).mono ?_; rintro e w1 ⟨rfl, pw, rfl⟩)
  all_goals (go_ret; refine ⟨ret_bool (by simp), ?_⟩; (repeat (first | exact New.refl _ | apply New.alloc | apply New.aft | apply New.drew | refine New.setCell ?_ ?_ _)); all_goals (first | done | (simp [size_aft]; done) | (simp [size_aft]; omega)))

set_option maxHeartbeats 4000000 in
theorem holds_bad (v : Option Addr) (n c : Nat) (l : List P2) (w : World) (hn : n ≤ 100) (hp : PtsA w v n l) (hk : ckPts l 400 ≠ 0) : Calls Tryz.prog 21 #[.slice v n c] w fun e w' => e = .returned (.bool true) ∧ New w w' := by
  have HL := Lib.hid alive_c
  have k1 : ¬ (100 : Int) < (n : Int) := by omega
  have HU := Lib.hid (show Calls Tryz.prog 57 #[.slice v n c] w fun en w' => ∃ cap av, en = .returned (.tuple #[.slice av 0 cap, .int .i64 (ckPts l 400)]) ∧ New w w' from (hull_any v n c l w (by omega) hp).mono (by
    rintro en w' ⟨r, rfl, ⟨av, cap, rfl, _⟩, h2⟩
    refine ⟨cap, av, ?_, h2⟩
    unfold hullE hullV
    rw [if_pos hk]; rfl))
  have hE : ((ckPts l 400) == 0) = false := by simpa using hk
  have hE2 : ((ckPts l 400) != 0) = true := by simpa using hk
  generalize ckPts l 400 = E at *
  clear hn hp hk
  go_enter Tryz.func21, Tryz.ntmps21
  go_wp2_with (first | (go_at_call 57; refine HU.out.mono ?_; rintro e w1 ⟨cap, av, rfl, hn⟩; have N1 := Lib.hid hn; clear hn) | (go_at_call 31; refine (HL.out _).mono ?_; rintro e w2 ⟨rfl, hn⟩; have N2 := Lib.hid (N1.out.trans hn); clear hn))
  all_goals (go_ret; exact ⟨ret_bool (by simp), N2.out⟩)

set_option maxHeartbeats 4000000 in
theorem holds_nil (v : Option Addr) (c : Nat) (w : World) : Calls Tryz.prog 21 #[.slice v 0 c] w fun e w' => e = .returned (.bool true) ∧ New w w' := by
  have HL := Lib.hid alive_c
  have HU := Lib.hid (fun (av : Option Addr) (cap : Nat) (w1 : World) => show Calls Tryz.prog 57 #[.slice av 0 cap] w1 fun en w' => ∃ cap2 av2, en = .returned (.tuple #[.slice av2 0 cap2, .int .i64 0]) ∧ New w1 w' from (hull_any av 0 cap [] w1 (by omega) ⟨rfl, fun h => absurd h (by omega)⟩).mono (by
    rintro en w' ⟨r, rfl, ⟨av2, cap2, rfl, _⟩, h2⟩
    have e : hullV [] = [] := by
      unfold hullV
      have := ptsL_le []
      have h0 : ptsL [] = [] := List.length_eq_zero_iff.1 (by simpa using this)
      rw [if_neg (by simp [ckPts, okL]), if_pos (by rw [h0]; simp), h0]
    exact ⟨cap2, av2, by rw [e]; simp [hullE, ckPts, okL], h2⟩))
  have HSP := Lib.hid (fun (a1 a2 : Option Addr) (c1 c2 : Nat) (w1 : World) => samePoints_c (.slice a1 0 c1) (.slice a2 0 c2) [] w1 (by simp) ⟨a1, c1, rfl, fun h => absurd h (by simp)⟩ ⟨a2, c2, rfl, fun h => absurd h (by simp)⟩)
  go_enter Tryz.func21, Tryz.ntmps21
  go_wp2_with (first | (go_at_call 57; refine (HU.out _ _ _).mono ?_; rintro e w1 ⟨cap, av, rfl, hn⟩; (first | (have N2 := Lib.hid (N1.out.trans hn)) | (have N1 := Lib.hid hn)); clear hn) | (go_at_call 52; refine (HSP.out _ _ _ _ _).mono ?_; rintro e w3 ⟨rfl, hn⟩; have N3 := Lib.hid (N2.out.trans hn); clear hn))
  go_loopw [67] (fun i wr => i = .int .i64 0 ∧ New w wr) (fun _ _ => 0)
  case atStart => exact ⟨rfl, N3.out⟩
  case round =>
    obtain ⟨wo, rfl⟩ : ∃ wo : World, wo = wr := ⟨_, rfl⟩
    obtain ⟨rfl, hnew⟩ := hrel
    have NO := Lib.hid hnew
    clear hnew
    go_wp2_with fail
    go_loopw [89] (fun i wr => i = .int .i64 0 ∧ New w wr) (fun _ _ => 0)
    case atStart => exact ⟨rfl, NO.out⟩
    case round =>
      obtain ⟨wx, rfl⟩ : ∃ wx : World, wx = wr := ⟨_, rfl⟩
      obtain ⟨rfl, hnew⟩ := hrel
      have NX := Lib.hid hnew
      clear hnew
      go_wp2_with (go_at_call 31; refine (HL.out _).mono ?_; rintro e w5 ⟨rfl, hn5⟩; have N5 := Lib.hid (NX.out.trans hn5); clear hn5)
      go_ret
      exact ⟨ret_bool (by simp), N5.out⟩

theorem planeHolds_all (w : World) (av : Option Addr) (n c : Nat) (l : List P2) (hl : l.length = n) (hp : 0 < n → ∃ b off, av = some ⟨b, off, none⟩ ∧ Pts w b off n l) : Calls Tryz.prog 21 #[.slice av n c] w fun e w' => e = .returned (.bool true) ∧ New w w' := by
  by_cases h : 100 < n
  · exact holds_long av n c w h
  by_cases hk : ckPts l 400 = 0
  · by_cases h0 : n = 0
    · subst h0; exact holds_nil av c w
    · obtain ⟨b, off, rfl, hw⟩ := hp (by omega)
      have HA : ∀ w1 : World, New w w1 → PtsA w1 (some ⟨b, off, none⟩) n l := fun w1 h1 => ⟨hl, fun _ => ⟨b, off, rfl, hw.new h1⟩⟩
      have HB : ∀ (H : List P2), hullV l = H → ∀ w1 : World, New w w1 → Calls Tryz.prog 57 #[.slice (some ⟨b, off, none⟩) n c] w1 fun en w' => ∃ r, en = .returned (.tuple #[r, .int .i64 0]) ∧ PtsR w' r H ∧ New w1 w' := fun H e w1 h1 => (hull_any _ n c l w1 (by omega) (HA w1 h1)).mono (by
        rintro en w' ⟨r, h2, h3, h4⟩
        refine ⟨r, ?_, e ▸ h3, h4⟩
        rw [h2]; unfold hullE; rw [hk])
      have HC : ∀ (H : List P2) (m : Nat), H.length = m → 0 < m → m ≤ 1000 → ckPts H 400 = 0 → hullV H = H → ∀ (w1 : World) (g cap : Nat), Pts w1 g 0 m H → Calls Tryz.prog 57 #[.slice (some ⟨g, 0, none⟩) m cap] w1 fun en w' => ∃ r, en = .returned (.tuple #[r, .int .i64 0]) ∧ PtsR w' r H ∧ New w1 w' := fun H m hm h1 h5 hk2 e w1 g cap hw1 => (hull_any _ m cap H w1 (by omega) ⟨hm, fun _ => ⟨g, 0, rfl, hw1⟩⟩).mono (by
        rintro en w' ⟨r, h2, h3, h4⟩
        refine ⟨r, ?_, by rw [e] at h3; exact h3, h4⟩
        rw [h2]; unfold hullE; rw [hk2])
      by_cases h2 : (ptsL l).length < 2
      · obtain ⟨a1, a2, a3, a4, a5⟩ := holds_one (by omega) hk h2
        rw [hl] at a5
        exact holds_go b off n c 1 l (ptsL l) w (by omega) (by omega) (by omega) (by omega) a1 hw a5 (Lib.hid (HB _ a2)) (Lib.hid (HC _ 1 a1 (by omega) (by omega) a4 a3)) (Lib.hid fun h => absurd h (by omega))
      · obtain ⟨a2, a3, a4, a6, a7, a5, a8⟩ := holds_many (by omega) hk (by omega)
        rw [hl] at a5
        exact holds_go b off n c _ l (hullL l) w (by omega) (by omega) (by omega) (by omega) rfl hw a5 (Lib.hid (HB _ a2)) (Lib.hid (HC _ _ rfl (by omega) (by omega) a4 a3)) (Lib.hid fun h w1 g cap hw1 => by
          have := convex_yes g 0 _ cap _ w1 (by omega) (by omega) hw1 (a8 h).1
          rw [(a8 h).2] at this
          exact this)
  · exact holds_bad av n c l w (by omega) ⟨hl, hp⟩ hk

end Go.Proofs.YtpdfbboagaflhaaGreat

set_option linter.unusedSimpArgs false
set_option linter.unusedVariables false
set_option linter.constructorNameAsVariable false
namespace Go.Proofs.YtpdfbboagaflhaaGreat
open Go.ChangeShapes Go.WideShapes Go.ChangeAt Go.RowKit Go.Joins
set_option maxRecDepth 100000

theorem jHd_wf : Rows.planeHoldsRow.wf (OpenSpec.ofChange Rows.planeHoldsSpec) = true := by kernel_rfl
theorem jHd_par : Tryz.f21.params.all (Tryz.prog.readableRec ·) = true := by kernel_rfl
theorem jHd_tie : namedTie Tryz.prog Rows.planeHoldsRow.named Rows.planeHoldsSpec.vars = true := by kernel_rfl
theorem jHd_st : (Rows.planeHoldsRow.stops == []) = true := by kernel_rfl
theorem jHd_kn : (Rows.planeHoldsRow.knobs == []) = true := by kernel_rfl
theorem jHd_inp : (Rows.planeHoldsRow.inPlace == Tryz.prog.inPlace 21) = true := by kernel_rfl
theorem jHd_unf : (Rows.planeHoldsRow.unfollowed == Tryz.prog.unfollowed 21) = true := by kernel_rfl
theorem jHd_rec : (Rows.planeHoldsRow.recurses == Tryz.prog.recurses 21) = true := by kernel_rfl
theorem jHd_nam : (Rows.planeHoldsRow.named == Tryz.prog.varsNamed 21) = true := by kernel_rfl
theorem jHd_maps : (Rows.planeHoldsRow.maps == (Tryz.f21.params.toList ++ Rows.planeHoldsSpec.plain.varTypes Tryz.prog).any (Tryz.prog.mapsRec ·)) = true := by kernel_rfl
theorem jHd_ifs : (Rows.planeHoldsRow.ifaces == (Tryz.f21.params.toList ++ Rows.planeHoldsSpec.plain.varTypes Tryz.prog).any (Tryz.prog.ifacesRec ·)) = true := by kernel_rfl
theorem jHd_mout : (Rows.planeHoldsRow.mapsOut == Tryz.prog.mapsAmong Tryz.f21.resultTypes.toList) = true := by kernel_rfl
theorem jHd_loops : (Rows.planeHoldsRow.loops == (Tryz.f21.params.toList ++ Rows.planeHoldsSpec.plain.varTypes Tryz.prog).any (Tryz.prog.loopsFrom ·)) = true := by kernel_rfl
theorem jHd_wide : (Rows.planeHoldsRow.wideKeys == (Tryz.f21.params.toList ++ Rows.planeHoldsSpec.plain.varTypes Tryz.prog ++ Tryz.f21.resultTypes.toList).any (Tryz.prog.wideKeysFrom ·)) = true := by kernel_rfl
theorem jHd_vars : Rows.planeHoldsSpec.vars.all (Tryz.prog.varReadable ·) = true := by kernel_rfl
theorem jHd_res : Tryz.f21.resultTypes.all (fun t => Tryz.prog.readableRec t && decide (t < Tryz.prog.types.size)) = true := by kernel_rfl
theorem jHd_iout : (Rows.planeHoldsRow.ifacesOut == Tryz.f21.resultTypes.toList.any (Tryz.prog.ifacesRec ·)) = true := by kernel_rfl
theorem jHd_lout : (Rows.planeHoldsRow.loopsOut == Tryz.f21.resultTypes.toList.any (Tryz.prog.loopsFrom ·)) = true := by kernel_rfl
theorem jHd_plain : (Rows.planeHoldsRow.plainKeys == Tryz.prog.plainKeys) = true := by kernel_rfl
theorem jHd_short : Rows.planeHoldsRow.shortTexts.isNone = true := by kernel_rfl
theorem jHd_lift0 : (Rows.planeHoldsRow.lifted == false) = true := by kernel_rfl
theorem jHd_lift : (Rows.planeHoldsRow.lifted == Tryz.prog.liftsFinal) = true := (congrArg (fun b => (Rows.planeHoldsRow.lifted == b)) lift_is).trans jHd_lift0
theorem jHd_make0 : (some Make.cut == some Rows.planeHoldsRow.make) = true := by kernel_rfl
theorem jHd_make : (Tryz.prog.make == some Rows.planeHoldsRow.make) = true := (congrArg (fun b => (b == some Rows.planeHoldsRow.make)) make_is).trans jHd_make0
theorem jHd_kinds : (Rows.planeHoldsRow.kinds == (if Rows.planeHoldsRow.domain.isEmpty then [] else Tryz.f21.params.toList.map fun t => match Tryz.prog.underlying t with | some (.int k) => some k | _ => none)) = true := by kernel_rfl
theorem jHd_pin : (Rows.planeHoldsRow.pinned == Rows.planeHoldsRow.pinnedBy) = true := by kernel_rfl
theorem jHd_veil : (Rows.planeHoldsRow.veiled == (Tryz.f21.params.toList ++ Rows.planeHoldsSpec.plain.varTypes Tryz.prog ++ Tryz.f21.resultTypes.toList).any (Tryz.prog.veiledRec ·)) = true := by kernel_rfl
theorem jHd_vfit : Rows.planeHoldsRow.veiledFits Tryz.prog Tryz.f21.params.toList (Tryz.f21.params.toList ++ Rows.planeHoldsSpec.plain.varTypes Tryz.prog ++ Tryz.f21.resultTypes.toList) = true := by kernel_rfl
theorem jHd_closed : joinedFacts Tryz.prog 21 Tryz.f21 Rows.planeHoldsSpec Rows.planeHoldsRow = true := (b_and (b_and (b_and (b_and (b_and (b_and (b_and (b_and (b_and (b_and (b_and (b_and (b_and (b_and (b_and (b_and (b_and (b_and (b_and (b_and (b_and (b_and (b_and (b_and (b_and (b_and (b_and (b_and (b_and (b_and (b_and jHd_wf jp_laid) jp_rowed) jHd_par) jHd_tie) jHd_st) jp_stops) jHd_kn) jp_knobs) jHd_inp) jHd_unf) jHd_rec) jHd_nam) jHd_maps) jHd_ifs) jHd_mout) jHd_loops) jHd_wide) jHd_vars) jHd_res) jHd_iout) jHd_lout) jHd_plain) jHd_short) jp_heard) jp_enter) jHd_lift) jHd_make) jHd_kinds) jHd_pin) jHd_veil) jHd_vfit)
theorem jHd_name : Tryz.prog.funcNamed Rows.planeHoldsRow.func = some 21 := by kernel_rfl
theorem jHd_inst : Tryz.f21.isInstance Tryz.prog Rows.planeHoldsRow.origin Rows.planeHoldsRow.targs := of_decide_eq_true (by kernel_rfl)
theorem jHd_wrap : Tryz.f21.isWrapper Tryz.prog Rows.planeHoldsRow.wrapper Rows.planeHoldsRow.mainSum := by unfold Func.isWrapper; rw [if_neg (by decide +kernel)]; exact ⟨rfl, rfl⟩

set_option maxHeartbeats 2000000 in
theorem jHd_lifted (os : Os) (started : os.Started) (H : Type) (enc : TypeId × Value → H) :
    ReturnsInHanded {} Tryz.checked os 21 .any (Rows.planeHoldsSpec.pre6 enc Tryz.prog Tryz.f21 Rows.planeHoldsRow.domain false) (Rows.planeHoldsSpec.post enc Tryz.prog Tryz.f21 false true false false) := by
  refine returnsInHanded_of_change (C := Tryz.checked) own_knob started (by kernel_rfl) Tryz.func21
    (ChangeSpec.witness6 (enc := enc) (C := Tryz.checked) false ⟨#[], #[.slice none 0 0], []⟩ 8 (by kernel_rfl) (by kernel_rfl) (by kernel_rfl) (by kernel_rfl)) ?_
  intro W base args ds gs before hval0 hW hcnd _
  have hval : ∀ (j : Nat) t v, Tryz.f21.params[j]? = some t → args[j]? = some v → Value.okWide Tryz.prog W .any base t v := hval0
  have hW' := hW
  obtain ⟨p, q, hA0, hV, rfl, hfz, hnd⟩ := hW
  have hA : DataW.TrodAll enc Tryz.prog W 0 (fun _ => true) true Tryz.f21.params.toList args.toList ds p := hA0
  rw [Tryz.params21] at hA hval
  obtain ⟨v0, vs0, d0, ds0, p0, q0, hargs, rfl, rfl, h0, r0⟩ := trodAll_cons hA
  obtain ⟨rfl, rfl, rfl⟩ := trodAll_nil r0
  obtain rfl : args = #[v0] := by cases args; simp_all
  obtain ⟨rfl, rfl⟩ := trodVars_none hV
  have hlt : ∀ x ∈ p0, x.block < W.heap.size := fun x hx => hW'.lt x (by simpa using hx)
  have g0 := h0
  obtain ⟨av0, n0, cap0, l0, rfl, hl0, hp0⟩ := open_pts (hval 0 40 v0 rfl rfl) h0
  clear hA0 hval0 hval
  refine (planeHolds_all W av0 n0 cap0 l0 hl0 hp0).mono fun e W' ⟨he, hg⟩ => ?_
  subst he
  have t0 := Below.trod laidOut (by kernel_rfl) (of_decide_eq_true (by kernel_rfl)) g0 hg.below (fun x hx => hlt x (by simp [hx]))
  exact ⟨_, rfl, _, _, _, _, _, _, hW', trodAll_cons_mk (shut_bool Tryz.underlying4 _) trodAll_mk0, trodAll_cons_mk t0 trodAll_mk0, rfl, hg.below.frame _, fun h => by cases h⟩

/-- PlaneHolds, as it is given -/
theorem planeHolds_proved : Rows.PlaneHoldsSaid :=
  OpenClaim.holds_of_wide 21 Tryz.f21 rfl rfl rfl rfl rfl rfl rfl ⟨rfl, rfl, rfl, rfl, rfl⟩ rfl rfl rfl rfl rfl jHd_name Tryz.func21 jHd_closed jHd_inst jHd_wrap
    (fun os started H enc _ => jHd_lifted os started H enc)

end Go.Proofs.YtpdfbboagaflhaaGreat
