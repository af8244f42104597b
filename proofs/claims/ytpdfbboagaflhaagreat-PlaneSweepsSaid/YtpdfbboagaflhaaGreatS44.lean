/- What CheckSweep returns, for every list of segments and of strips. From one segment on. -/
import Derived.Test.YtpdfbboagaflhaaGreatS42
import Derived.Deep.RegionHeld3
import Derived.Deep.RegionWith
import Derived.BigRegion
import Derived.LoopTactic
import Derived.Deep.AppendLies
import Derived.Outline
import Derived.WalkSpells
import Derived.Lib.SliceRun
import Derived.Laws.EntriesVeiled
import Derived.RegionIn
import Derived.Maps.OwnIn
import Derived.Deep.Quiet
import Derived.OrdersIn
import Derived.BigQuiet
import Derived.Test.YtpdfbboagaflhaaGreatS41

set_option linter.unusedSimpArgs false
set_option linter.unusedVariables false
set_option maxRecDepth 100000
namespace Go.Proofs.YtpdfbboagaflhaaGreat
open Go.RowKit

/-- numbers in the cells of a block -/
def Ints (w : World) (b off n : Nat) (L : List Int) : Prop := L.length = n ∧ b < w.heap.size ∧ ∀ i, i < n → w.cell? ⟨b, off + i, none⟩ = some (.int .i64 (L.getD i 0))
theorem Ints.new {w w1 : World} {b off n : Nat} {L : List Int} (h : Ints w b off n L) (hn : New w w1) : Ints w1 b off n L := by
  obtain ⟨h1, h2, h3⟩ := h
  exact ⟨h1, Nat.lt_of_lt_of_le h2 hn.size, fun i hi => by rw [hn.cell h2]; exact h3 i hi⟩
/-- a slice of numbers, wherever it lies -/
def IntsA (w : World) (v : Value) (L : List Int) : Prop := ∃ av c, v = .slice av L.length c ∧ (0 < L.length → ∃ b off, av = some ⟨b, off, none⟩ ∧ Ints w b off L.length L)
theorem IntsA.new {w w1 : World} {v : Value} {L : List Int} (h : IntsA w v L) (hn : New w w1) : IntsA w1 v L := by
  obtain ⟨av, c, h1, h2⟩ := h
  exact ⟨av, c, h1, fun h0 => by obtain ⟨b, off, h3, h4⟩ := h2 h0; exact ⟨b, off, h3, h4.new hn⟩⟩
/-- numbers of segments among n -/
def Idx (L : List Int) (n : Nat) : Prop := ∀ i, i < L.length → 0 ≤ L.getD i 0 ∧ L.getD i 0 < n
def natsL (L : List Int) : List Nat := L.map Int.toNat
theorem nat_natsL (L : List Int) (i : Nat) (h : i < L.length) : nat (natsL L) i = (L.getD i 0).toNat := by
  simp [nat, natsL, List.getD_eq_getElem?_getD, h]
theorem nats_of {w : World} {b off n m : Nat} {L : List Int} (h : Ints w b off n L) (hx : Idx L m) : Nats w b off n (natsL L) := by
  obtain ⟨h1, h2, h3⟩ := h
  refine ⟨by simp [natsL, h1], h2, fun i hi => ?_⟩
  rw [h3 i hi, nat_natsL L i (by omega), Int.toNat_of_nonneg (hx i (by omega)).1]
/-- the height of the segment at place i of a strip, at a doubled X -/
def hA (l : List S4) (L : List Int) (x : Int) (i : Nat) : Int := hgtN l x (L.getD i 0).toNat
def hD (l : List S4) (L : List Int) (i : Nat) : Int := hgtW l (L.getD i 0).toNat
/-- heights in cells -/
def Hts (w : World) (g n : Nat) (l : List S4) (L : List Int) (x : Int) : Prop := ∀ i, i < n → g < w.heap.size ∧ (w.cell? ⟨g, i * 3, none⟩ = some (.int .i64 (hA l L x i)) ∧ w.cell? ⟨g, i * 3 + 1, none⟩ = some (.int .i64 (hD l L i))) ∧ w.cell? ⟨g, i * 3 + 2, none⟩ = some (.int .i64 (L.getD i 0))
theorem Hts.new {w w1 : World} {g n : Nat} {l : List S4} {L : List Int} {x : Int} (h : Hts w g n l L x) (hn : New w w1) : Hts w1 g n l L x := fun i hi => by
  obtain ⟨h1, ⟨h2, h3⟩, h4⟩ := h i hi
  exact ⟨Nat.lt_of_lt_of_le h1 hn.size, ⟨(hn.cell h1).trans h2, (hn.cell h1).trans h3⟩, (hn.cell h1).trans h4⟩
theorem heightsTo_at (l : List S4) (M : List Nat) (x : Int) : ∀ (k i : Nat), i < k → (heightsTo l M x k).getD i (0, 0, 0) = (hgtN l x (nat M i), hgtW l (nat M i), (nat M i : Int))
  | 0, i, h => by omega
  | k + 1, i, h => by
    have hl := heightsTo_length l M x k
    simp only [heightsTo]
    by_cases hi : i < k
    · rw [← heightsTo_at l M x k i hi]
      simp [List.getD_eq_getElem?_getD, List.getElem?_append, hl, hi]
    · obtain rfl : i = k := by omega
      simp [List.getD_eq_getElem?_getD, List.getElem?_append, hl]
theorem hd_bd {l : List S4} {n : Nat} {L : List Int} {x : Int} (hn : l.length = n) (hok : okSegs l = true) (hL : Idx L n) (hx : 0 ≤ x ∧ x ≤ 20000) (i : Nat) (hi : i < L.length) : (-600000000 ≤ hA l L x i ∧ hA l L x i ≤ 600000000) ∧ (-20000 ≤ hD l L i ∧ hD l L i ≤ 20000) := by
  have hj := hL i hi
  obtain ⟨⟨o1, o2⟩, ⟨o3, o4⟩, _⟩ := okS_iff.1 (okSegs_at l (L.getD i 0).toNat (by omega) hok)
  exact ⟨(h_bd _ _ _ _ x o1 o2 o3 o4 hx).2, (h_bd _ _ _ _ x o1 o2 o3 o4 hx).1⟩
theorem heights_v (b off n c : Nat) (l : List S4) (L : List Int) (v : Value) (x : Int) (w : World) (hm : L.length ≤ 1000000) (hw : Segs w b off n l) (hv : IntsA w v L) (hL : Idx L n) (hok : okSegs l = true) (hx : 0 ≤ x ∧ x ≤ 20000) :
    Calls Tryz.prog 144 #[.slice (some ⟨b, off, none⟩) n c, v, .int .i64 x] w fun en w' => ∃ g cp, en = .returned (.slice (some ⟨g, 0, none⟩) L.length cp) ∧ Hts w' g L.length l L x ∧ New w w' := by
  obtain ⟨av, c2, rfl, hv2⟩ := hv
  by_cases h0 : 0 < L.length
  · obtain ⟨b2, off2, rfl, hi⟩ := hv2 h0
    have hN := nats_of hi hL
    refine (heights_c b off n c b2 off2 L.length c2 l (natsL L) x w hm hw hN (fun k hk => by rw [nat_natsL L k hk]; have := hL k hk; omega) hok hx).mono ?_
    rintro e w' ⟨r, rfl, ho, hn⟩
    obtain ⟨g, cp, rfl, hg1, hg2⟩ := ho.form h0
    refine ⟨g, cp, rfl, fun i hi => ?_, hn⟩
    have hlen := heightsTo_length l (natsL L) x L.length
    obtain ⟨e1, e2, e3⟩ := htCells_at (heightsTo l (natsL L) x L.length) i (by omega)
    have g1 := (own_cell ho e1).1
    have g2 := (own_cell ho e2).1
    have g3 := (own_cell ho e3).1
    unfold h1 at g1; unfold h2 at g2; unfold h3 at g3
    rw [heightsTo_at l (natsL L) x L.length i hi, nat_natsL L i hi] at g1 g2 g3
    rw [show (((L.getD i 0).toNat : Nat) : Int) = L.getD i 0 from Int.toNat_of_nonneg (hL i hi).1] at g3
    exact ⟨hg2, ⟨g1, g2⟩, g3⟩
  · have e0 : L.length = 0 := by omega
    rw [e0]
    refine (heights_nil _ av n c c2 x w).mono ?_
    rintro e w' ⟨g, cp, rfl, hn⟩
    exact ⟨g, cp, rfl, fun i hi => by omega, hn⟩

/-- how the heights at two places of a strip compare -/
def cmA (l : List S4) (L : List Int) (x : Int) (i j : Nat) : Int := cmpR (hA l L x i) (hD l L i) (hA l L x j) (hD l L j)
/-- the segment at place p is not below the next one -/
def badR (l : List S4) (L : List Int) (f t : Int) (p : Nat) : Bool := (decide (0 < cmA l L (2 * f) p (p + 1)) || decide (0 < cmA l L (2 * t) p (p + 1))) || (cmA l L (2 * f) p (p + 1) == 0 && cmA l L (2 * t) p (p + 1) == 0)
def risB (l : List S4) (L : List Int) (f t : Int) : Bool := !(List.range (L.length - 1)).any (badR l L f t)
theorem any_snoc' (f : Nat → Bool) (k : Nat) : (List.range (k + 1)).any f = ((List.range k).any f || f k) := by
  rw [List.range_succ, List.any_append]; simp
theorem any_hit' {f : Nat → Bool} {k n : Nat} (h : k < n) (e : f k = true) : (List.range n).any f = true := List.any_eq_true.2 ⟨k, List.mem_range.2 h, e⟩

set_option maxHeartbeats 16000000 in
theorem rising_c (b off n c : Nat) (l : List S4) (L : List Int) (f t : Int) (v : Value) (w : World) (hm : L.length ≤ 1000000) (hw : Segs w b off n l) (hv : IntsA w v L) (hL : Idx L n) (hok : okSegs l = true) (hf : 0 ≤ f ∧ f ≤ 10000) (ht : 0 ≤ t ∧ t ≤ 10000) :
    Calls Tryz.prog 151 #[.slice (some ⟨b, off, none⟩) n c, .agg #[.int .i64 f, .int .i64 t, v]] w fun en w' => en = .returned (.bool (risB l L f t)) ∧ New w w' := by
  have HH := Lib.hid (fun (x : Int) (hx : 0 ≤ x ∧ x ≤ 20000) (w1 : World) (h1 : New w w1) => heights_v b off n c l L v x w1 hm (hw.new h1) (hv.new h1) hL hok hx)
  have HB1 := Lib.hid (fun i hi => hd_bd (x := 2 * f) hw.1 hok hL (by omega) i hi)
  have HB2 := Lib.hid (fun i hi => hd_bd (x := 2 * t) hw.1 hok hL (by omega) i hi)
  have HRB := Lib.hid (show risB l L f t = !(List.range (L.length - 1)).any (badR l L f t) from rfl)
  have HBD := Lib.hid (show ∀ p, badR l L f t p = ((decide (0 < cmpR (hA l L (2 * f) p) (hD l L p) (hA l L (2 * f) (p + 1)) (hD l L (p + 1))) || decide (0 < cmpR (hA l L (2 * t) p) (hD l L p) (hA l L (2 * t) (p + 1)) (hD l L (p + 1)))) || (cmpR (hA l L (2 * f) p) (hD l L p) (hA l L (2 * f) (p + 1)) (hD l L (p + 1)) == 0 && cmpR (hA l L (2 * t) p) (hD l L p) (hA l L (2 * t) (p + 1)) (hD l L (p + 1)) == 0)) from fun _ => rfl)
  obtain ⟨av, cv, rfl, _⟩ := hv
  generalize hq : L.length = q at *
  generalize risB l L f t = R at *
  generalize badR l L f t = bad at *
  clear hw hok hL hq
  have wf : IntKind.i64.wrap (2 * f) = 2 * f := IntWalk.i64_in _ (by omega)
  have wt : IntKind.i64.wrap (2 * t) = 2 * t := IntWalk.i64_in _ (by omega)
  go_enter Tryz.func151, Tryz.ntmps151
  go_wp2_with (first | (go_at_call 144; (with_reducible refine (HH.out (2 * f) (by omega) _ (by (repeat (first | exact New.refl _ | apply New.alloc | apply New.aft | apply New.drew | refine New.setCell ?_ ?_ _)); all_goals (first | done | (simp [size_aft]; done) | (simp [size_aft]; omega)))).mono ?_); rintro e w3 ⟨g1, c1, rfl, ho1, hn1⟩; have HO1 := Lib.hid ho1; have HN1 := Lib.hid (show New w w3 from New.trans (by (repeat (first | exact New.refl _ | apply New.alloc | apply New.aft | apply New.drew | refine New.setCell ?_ ?_ _)); all_goals (first | done | (simp [size_aft]; done) | (simp [size_aft]; omega))) hn1); have HN1b := Lib.hid (show New (w.alloc (.cells #[.int .i64 f, .int .i64 t, .slice av q cv] 84)) w3 from hn1); have ct : w3.cell? ⟨w.heap.size, 1, none⟩ = some (.int .i64 t) := by { rw [hn1.cell (by simp)]; simp [go_sem] }; have cs : w3.cell? ⟨w.heap.size, 2, none⟩ = some (.slice av q cv) := by { rw [hn1.cell (by simp)]; simp [go_sem] }; clear ho1 hn1) | (go_at_call 144; (with_reducible refine (HH.out (2 * t) (by omega) _ HN1.out).mono ?_); rintro e w4 ⟨g2, c2, rfl, ho2, hn2⟩; have HO2 := Lib.hid ho2; have HN2 := Lib.hid hn2; clear ho2 hn2))
  have HN4 := Lib.hid (HN1.out.trans HN2.out)
  have HO14 := Lib.hid (HO1.out.new HN2.out)
  clear ct cs
  go_loopw [7] (fun i wr => ∃ k : Nat, 1 ≤ k ∧ (k ≤ q ∨ k = 1) ∧ i = .int .i64 k ∧ (List.range (k - 1)).any bad = false ∧ New w4 wr) (fun i _ => q + 1 - (intOf i).toNat)
  case atStart => exact ⟨1, Nat.le_refl _, .inr rfl, rfl, rfl, New.refl _⟩
  case round =>
    obtain ⟨k, hk1, hk2, rfl, hany, hnew⟩ := hrel
    have HANY := Lib.hid hany
    have HNEW := Lib.hid hnew
    have HNW := Lib.hid (HN4.out.trans hnew)
    clear hany hnew
    by_cases hlt : k < q
    · obtain ⟨p, rfl⟩ : ∃ p, k = p + 1 := ⟨k - 1, by omega⟩
      obtain ⟨gl1, ⟨x1, x2⟩, _⟩ := (HO14.out.new HNEW.out) p (by omega)
      obtain ⟨_, ⟨x3, x4⟩, _⟩ := (HO14.out.new HNEW.out) (p + 1) hlt
      obtain ⟨gl2, ⟨y1, y2⟩, _⟩ := (HO2.out.new HNEW.out) p (by omega)
      obtain ⟨_, ⟨y3, y4⟩, _⟩ := (HO2.out.new HNEW.out) (p + 1) hlt
      have b1 := HB1.out p (by omega)
      have b2 := HB1.out (p + 1) hlt
      have b3 := HB2.out p (by omega)
      have b4 := HB2.out (p + 1) hlt
      have HBP := Lib.hid (HBD.out p)
      have HC1 := Lib.hid (fun w9 : World => rcompare_c (hA l L (2 * f) p) (hD l L p) (hA l L (2 * f) (p + 1)) (hD l L (p + 1)) w9 b1.1 b1.2 b2.1 b2.2)
      have HC2 := Lib.hid (fun w9 : World => rcompare_c (hA l L (2 * t) p) (hD l L p) (hA l L (2 * t) (p + 1)) (hD l L (p + 1)) w9 b3.1 b3.2 b4.1 b4.2)
      generalize cmpR (hA l L (2 * f) p) (hD l L p) (hA l L (2 * f) (p + 1)) (hD l L (p + 1)) = K1 at *
      generalize cmpR (hA l L (2 * t) p) (hD l L p) (hA l L (2 * t) (p + 1)) (hD l L (p + 1)) = K2 at *
      generalize hA l L (2 * f) p = A1 at *
      generalize hA l L (2 * f) (p + 1) = A2 at *
      generalize hA l L (2 * t) p = A3 at *
      generalize hA l L (2 * t) (p + 1) = A4 at *
      generalize hD l L p = D1 at *
      generalize hD l L (p + 1) = D2 at *
      have hw1 : IntKind.i64.wrap (((p + 1 : Nat) : Int) - 1) = (p : Int) := by rw [show (((p + 1 : Nat) : Int) - 1) = (p : Int) by omega]; exact IntWalk.i64_in _ (by omega)
      have hp0 : (0 : Int) ≤ (p : Int) := by omega
      have hp1 : (p : Int) < (q : Int) := by omega
      have hp2 : ((p + 1 : Nat) : Int) < (q : Int) := by omega
      by_cases u1 : 0 < K1
      · have HV := Lib.hid (show bad p = true by rw [HBP.out]; simp [u1])
        go_wp2_with fail
        first | refine wp_region_at2 (by kernel_rfl) (by kernel_rfl) ?_ | refine wp_region_at (by kernel_rfl) (by kernel_rfl) ?_
        repeat (go_big_quiet_step (first | (go_at_call 100; exact calls_new (HC1.out _))))
        refine wpQuiet_nil ?_
        rintro _ ⟨q0, rfl⟩
        have e1 : g2 < wr.heap.size + q0.os.size := by omega
        go_wp2_with fail
        first | refine wp_region_at2 (by kernel_rfl) (by kernel_rfl) ?_ | refine wp_region_at (by kernel_rfl) (by kernel_rfl) ?_
        repeat (go_big_quiet_step (first | (go_at_call 100; exact calls_new (HC2.out _))))
        refine wpQuiet_nil ?_
        rintro _ ⟨q1, rfl⟩
        go_wp2_with fail
        go_ret
        exact ⟨ret_bool (by rw [HRB.out, any_hit' (show p < q - 1 by omega) HV.out]; rfl), (by (repeat (first | exact HNW.out | exact New.refl _ | apply New.alloc | apply New.aft | apply New.drew | refine New.setCell ?_ ?_ _)); all_goals (first | done | (simp [size_aft]; done) | (simp [size_aft]; omega)))⟩
      · by_cases u2 : 0 < K2
        · have HV := Lib.hid (show bad p = true by rw [HBP.out]; simp [u2])
          go_wp2_with fail
          first | refine wp_region_at2 (by kernel_rfl) (by kernel_rfl) ?_ | refine wp_region_at (by kernel_rfl) (by kernel_rfl) ?_
          repeat (go_big_quiet_step (first | (go_at_call 100; exact calls_new (HC1.out _))))
          refine wpQuiet_nil ?_
          rintro _ ⟨q0, rfl⟩
          have e1 : g2 < wr.heap.size + q0.os.size := by omega
          go_wp2_with fail
          first | refine wp_region_at2 (by kernel_rfl) (by kernel_rfl) ?_ | refine wp_region_at (by kernel_rfl) (by kernel_rfl) ?_
          repeat (go_big_quiet_step (first | (go_at_call 100; exact calls_new (HC2.out _))))
          refine wpQuiet_nil ?_
          rintro _ ⟨q1, rfl⟩
          go_wp2_with fail
          go_ret
          exact ⟨ret_bool (by rw [HRB.out, any_hit' (show p < q - 1 by omega) HV.out]; rfl), (by (repeat (first | exact HNW.out | exact New.refl _ | apply New.alloc | apply New.aft | apply New.drew | refine New.setCell ?_ ?_ _)); all_goals (first | done | (simp [size_aft]; done) | (simp [size_aft]; omega)))⟩
        · by_cases u3 : K1 = 0
          · subst u3
            by_cases u4 : K2 = 0
            · subst u4
              have HV := Lib.hid (show bad p = true by rw [HBP.out]; rfl)
              go_wp2_with fail
              first | refine wp_region_at2 (by kernel_rfl) (by kernel_rfl) ?_ | refine wp_region_at (by kernel_rfl) (by kernel_rfl) ?_
              repeat (go_big_quiet_step (first | (go_at_call 100; exact calls_new (HC1.out _))))
              refine wpQuiet_nil ?_
              rintro _ ⟨q0, rfl⟩
              have e1 : g2 < wr.heap.size + q0.os.size := by omega
              go_wp2_with fail
              first | refine wp_region_at2 (by kernel_rfl) (by kernel_rfl) ?_ | refine wp_region_at (by kernel_rfl) (by kernel_rfl) ?_
              repeat (go_big_quiet_step (first | (go_at_call 100; exact calls_new (HC2.out _))))
              refine wpQuiet_nil ?_
              rintro _ ⟨q1, rfl⟩
              go_wp2_with fail
              go_ret
              exact ⟨ret_bool (by rw [HRB.out, any_hit' (show p < q - 1 by omega) HV.out]; rfl), (by (repeat (first | exact HNW.out | exact New.refl _ | apply New.alloc | apply New.aft | apply New.drew | refine New.setCell ?_ ?_ _)); all_goals (first | done | (simp [size_aft]; done) | (simp [size_aft]; omega)))⟩
            · have z1 : (K2 == 0) = false := by simpa using u4
              have z2 : decide (K2 = 0) = false := by simpa using u4
              have HV := Lib.hid (show bad p = false by rw [HBP.out]; simp [u2, u4])
              go_wp2_with fail
              first | refine wp_region_at2 (by kernel_rfl) (by kernel_rfl) ?_ | refine wp_region_at (by kernel_rfl) (by kernel_rfl) ?_
              repeat (go_big_quiet_step (first | (go_at_call 100; exact calls_new (HC1.out _))))
              refine wpQuiet_nil ?_
              rintro _ ⟨q0, rfl⟩
              have e1 : g2 < wr.heap.size + q0.os.size := by omega
              go_wp2_with fail
              first | refine wp_region_at2 (by kernel_rfl) (by kernel_rfl) ?_ | refine wp_region_at (by kernel_rfl) (by kernel_rfl) ?_
              repeat (go_big_quiet_step (first | (go_at_call 100; exact calls_new (HC2.out _))))
              refine wpQuiet_nil ?_
              rintro _ ⟨q1, rfl⟩
              go_wp2_with fail
              go_roundw
              case rel => exact ⟨p + 1 + 1, by omega, .inl (by omega), by go_num, by rw [show p + 1 + 1 - 1 = p + 1 by omega, any_snoc', show (List.range p).any bad = false from HANY.out, HV.out]; rfl, (by (repeat (first | exact HNEW.out | exact New.refl _ | apply New.alloc | apply New.aft | apply New.drew | refine New.setCell ?_ ?_ _)); all_goals (first | done | (simp [size_aft]; done) | (simp [size_aft]; omega)))⟩
              case measure => simp [intOf]; omega
          · have z1 : (K1 == 0) = false := by simpa using u3
            have z2 : decide (K1 = 0) = false := by simpa using u3
            have HV := Lib.hid (show bad p = false by rw [HBP.out]; simp [u1, u2, u3])
            go_wp2_with fail
            first | refine wp_region_at2 (by kernel_rfl) (by kernel_rfl) ?_ | refine wp_region_at (by kernel_rfl) (by kernel_rfl) ?_
            repeat (go_big_quiet_step (first | (go_at_call 100; exact calls_new (HC1.out _))))
            refine wpQuiet_nil ?_
            rintro _ ⟨q0, rfl⟩
            have e1 : g2 < wr.heap.size + q0.os.size := by omega
            go_wp2_with fail
            first | refine wp_region_at2 (by kernel_rfl) (by kernel_rfl) ?_ | refine wp_region_at (by kernel_rfl) (by kernel_rfl) ?_
            repeat (go_big_quiet_step (first | (go_at_call 100; exact calls_new (HC2.out _))))
            refine wpQuiet_nil ?_
            rintro _ ⟨q1, rfl⟩
            go_wp2_with fail
            go_roundw
            case rel => exact ⟨p + 1 + 1, by omega, .inl (by omega), by go_num, by rw [show p + 1 + 1 - 1 = p + 1 by omega, any_snoc', show (List.range p).any bad = false from HANY.out, HV.out]; rfl, (by (repeat (first | exact HNEW.out | exact New.refl _ | apply New.alloc | apply New.aft | apply New.drew | refine New.setCell ?_ ?_ _)); all_goals (first | done | (simp [size_aft]; done) | (simp [size_aft]; omega)))⟩
            case measure => simp [intOf]; omega
    · have HE := Lib.hid (show (List.range (q - 1)).any bad = false by
        have := HANY.out
        rcases hk2 with h | h
        · rw [show q - 1 = k - 1 by omega]; exact this
        · rw [show q - 1 = 0 by omega]; rfl)
      go_wp2_with fail
      go_ret
      exact ⟨ret_bool (by rw [HRB.out, HE.out]; rfl), (by (repeat (first | exact HNW.out | exact New.refl _ | apply New.alloc | apply New.aft | apply New.drew | refine New.setCell ?_ ?_ _)); all_goals (first | done | (simp [size_aft]; done) | (simp [size_aft]; omega)))⟩

end Go.Proofs.YtpdfbboagaflhaaGreat

set_option linter.unusedSimpArgs false
set_option linter.unusedVariables false
set_option maxRecDepth 100000
namespace Go.Proofs.YtpdfbboagaflhaaGreat
open Go.RowKit

/-- the segment at place i of a strip goes on beyond X = x -/
def freeAt (l : List S4) (L : List Int) (x : Int) (i : Nat) : Bool := !(q1 l (L.getD i 0).toNat == x) && !(q3 l (L.getD i 0).toNat == x)
/-- how many of those of one height that end at place i - 1 go on -/
def goTo (l : List S4) (L : List Int) (x : Int) : Nat → Int
  | 0 => 0
  | i + 1 => (if i = 0 ∨ cmA l L (2 * x) i (i - 1) ≠ 0 then 0 else goTo l L x i) + (if freeAt l L x i then 1 else 0)
def crowB (l : List S4) (L : List Int) (x : Int) : Bool := (List.range L.length).any fun i => decide (1 < goTo l L x (i + 1))
theorem goTo_pos (l : List S4) (L : List Int) (x : Int) : ∀ i, 0 ≤ goTo l L x i
  | 0 => Int.le_refl _
  | i + 1 => by have := goTo_pos l L x i; simp only [goTo]; split <;> split <;> omega

set_option maxHeartbeats 16000000 in
theorem crowded_c (b off n c : Nat) (l : List S4) (L : List Int) (x : Int) (v : Value) (w : World) (hm : L.length ≤ 1000000) (hw : Segs w b off n l) (hv : IntsA w v L) (hL : Idx L n) (hok : okSegs l = true) (hx : 0 ≤ x ∧ x ≤ 10000) :
    Calls Tryz.prog 152 #[.slice (some ⟨b, off, none⟩) n c, v, .int .i64 x] w fun en w' => en = .returned (.bool (crowB l L x)) ∧ New w w' := by
  have HH := Lib.hid (fun (w1 : World) (h1 : New w w1) => heights_v b off n c l L v (2 * x) w1 hm (hw.new h1) (hv.new h1) hL hok (by omega))
  have HB1 := Lib.hid (fun i hi => hd_bd (x := 2 * x) hw.1 hok hL (by omega) i hi)
  have HW := Lib.hid hw
  have HIX := Lib.hid hL
  have HRB := Lib.hid (show crowB l L x = (List.range L.length).any fun i => decide (1 < goTo l L x (i + 1)) from rfl)
  have HGO := Lib.hid (show ∀ i, goTo l L x (i + 1) = (if i = 0 ∨ cmpR (hA l L (2 * x) i) (hD l L i) (hA l L (2 * x) (i - 1)) (hD l L (i - 1)) ≠ 0 then 0 else goTo l L x i) + (if freeAt l L x i then 1 else 0) from fun _ => rfl)
  have HFR := Lib.hid (show ∀ i, freeAt l L x i = (!(q1 l (L.getD i 0).toNat == x) && !(q3 l (L.getD i 0).toNat == x)) from fun _ => rfl)
  have HGP := Lib.hid (goTo_pos l L x)
  obtain ⟨av, cv, rfl, _⟩ := hv
  generalize hq : L.length = q at *
  generalize crowB l L x = R at *
  have HG0 := Lib.hid (show goTo l L x 0 = 0 from rfl)
  generalize goTo l L x = go at *
  generalize freeAt l L x = fr at *
  have HQ := Lib.hid hq
  clear hw hok hL hq
  have wf : IntKind.i64.wrap (2 * x) = 2 * x := IntWalk.i64_in _ (by omega)
  go_enter Tryz.func152, Tryz.ntmps152
  go_wp2_with (go_at_call 144; (with_reducible refine (HH.out _ (by (repeat (first | exact New.refl _ | apply New.alloc | apply New.aft | apply New.drew | refine New.setCell ?_ ?_ _)); all_goals (first | done | (simp [size_aft]; done) | (simp [size_aft]; omega)))).mono ?_); rintro e w3 ⟨g1, c1, rfl, ho1, hn1⟩; have HO1 := Lib.hid ho1; have HN1 := Lib.hid hn1; clear ho1 hn1)
  go_loopw [7, 18] (fun s i wr => ∃ k : Nat, k ≤ q ∧ i = .int .i64 k ∧ s = .int .i64 (go k) ∧ (go k ≤ 1 ∧ (List.range k).any (fun i => decide (1 < go (i + 1))) = false) ∧ New w3 wr) (fun _ i _ => q - (intOf i).toNat)
  case atStart => exact ⟨0, Nat.zero_le _, rfl, by rw [HG0.out], ⟨by rw [HG0.out]; decide, rfl⟩, New.refl _⟩
  case round =>
    obtain ⟨k, hk, rfl, rfl, ⟨hle, hany⟩, hnew⟩ := hrel
    have HANY := Lib.hid hany
    have HNEW := Lib.hid hnew
    have HNW := Lib.hid (HN1.out.trans hnew)
    clear hany hnew
    by_cases hlt : k < q
    · obtain ⟨gl1, ⟨x1, x2⟩, x3⟩ := (HO1.out.new HNEW.out) k hlt
      have hj := HIX.out k (by rw [HQ.out]; exact hlt)
      obtain ⟨_, hbb, hcc⟩ := HW.out.new HNW.out
      obtain ⟨d1, d2, d3, d4⟩ := hcc (L.getD k 0).toNat (by omega)
      clear hcc
      have b1 := HB1.out k hlt
      have HGK := Lib.hid (HGO.out k)
      have HFK := Lib.hid (HFR.out k)
      have hgp := HGP.out k
      have hj0 : 0 ≤ L.getD k 0 := hj.1
      have hj1 : L.getD k 0 < (n : Int) := hj.2
      have hk1 : (k : Int) < (q : Int) := by omega
      have HAF := Lib.hid (fun h : decide (1 < go (k + 1)) = false => (by rw [any_snoc', HANY.out, h]; rfl : (List.range (k + 1)).any (fun i => decide (1 < go (i + 1))) = false))
      have HAT := Lib.hid (fun h : decide (1 < go (k + 1)) = true => (by rw [HRB.out]; exact any_hit' hlt h : R = true))
      generalize hJ : L.getD k 0 = J at *
      generalize q1 l J.toNat = A at *
      generalize q3 l J.toNat = C at *
      generalize q2 l J.toNat = B0 at *
      generalize q4 l J.toNat = D0 at *
      by_cases hk0 : k = 0
      · have hr : k = 0 ∨ cmpR (hA l L (2 * x) k) (hD l L k) (hA l L (2 * x) (k - 1)) (hD l L (k - 1)) ≠ 0 := .inl hk0
        generalize hA l L (2 * x) k = A1 at *
        generalize hD l L k = D1 at *
        subst hk0
        by_cases u1 : A = x
        · have HV := Lib.hid (show go (0 + 1) = 0 by rw [HGK.out, if_pos hr, HFK.out]; simp [u1])
          go_wp2_with fail
          first | refine wp_region_at2 (by kernel_rfl) (by kernel_rfl) ?_ | refine wp_region_at (by kernel_rfl) (by kernel_rfl) ?_
          repeat (go_big_quiet_step (fail))
          refine wpQuiet_nil ?_
          rintro _ ⟨q0, rfl⟩
          have e1 : b < wr.heap.size + 1 + q0.os.size := by omega
          have e2 : g1 < wr.heap.size + 1 + q0.os.size := by omega
          go_wp2_with fail
          go_roundw
          case rel => exact ⟨0 + 1, by omega, by go_num, by rw [HV.out], ⟨by rw [HV.out]; decide, HAF.out (by rw [HV.out]; rfl)⟩, (by (repeat (first | exact HNEW.out | exact New.refl _ | apply New.alloc | apply New.aft | apply New.drew | refine New.setCell ?_ ?_ _)); all_goals (first | done | (simp [size_aft]; done) | (simp [size_aft]; omega)))⟩
          case measure => simp [intOf]; omega
        · have z1 : (A == x) = false := by simpa using u1
          have z2 : (A != x) = true := by simpa using u1
          by_cases u2 : C = x
          · have HV := Lib.hid (show go (0 + 1) = 0 by rw [HGK.out, if_pos hr, HFK.out]; simp [u1, u2])
            go_wp2_with fail
            first | refine wp_region_at2 (by kernel_rfl) (by kernel_rfl) ?_ | refine wp_region_at (by kernel_rfl) (by kernel_rfl) ?_
            repeat (go_big_quiet_step (fail))
            refine wpQuiet_nil ?_
            rintro _ ⟨q0, rfl⟩
            have e1 : b < wr.heap.size + 1 + q0.os.size := by omega
            have e2 : g1 < wr.heap.size + 1 + q0.os.size := by omega
            go_wp2_with fail
            go_roundw
            case rel => exact ⟨0 + 1, by omega, by go_num, by rw [HV.out], ⟨by rw [HV.out]; decide, HAF.out (by rw [HV.out]; rfl)⟩, (by (repeat (first | exact HNEW.out | exact New.refl _ | apply New.alloc | apply New.aft | apply New.drew | refine New.setCell ?_ ?_ _)); all_goals (first | done | (simp [size_aft]; done) | (simp [size_aft]; omega)))⟩
            case measure => simp [intOf]; omega
          · have z3 : (C == x) = false := by simpa using u2
            have z4 : (C != x) = true := by simpa using u2
            have HV := Lib.hid (show go (0 + 1) = 1 by rw [HGK.out, if_pos hr, HFK.out]; simp [u1, u2])
            go_wp2_with fail
            first | refine wp_region_at2 (by kernel_rfl) (by kernel_rfl) ?_ | refine wp_region_at (by kernel_rfl) (by kernel_rfl) ?_
            repeat (go_big_quiet_step (fail))
            refine wpQuiet_nil ?_
            rintro _ ⟨q0, rfl⟩
            have e1 : b < wr.heap.size + 1 + q0.os.size := by omega
            have e2 : g1 < wr.heap.size + 1 + q0.os.size := by omega
            go_wp2_with fail
            go_roundw
            case rel => exact ⟨0 + 1, by omega, by go_num, by rw [HV.out], ⟨by rw [HV.out]; decide, HAF.out (by rw [HV.out]; rfl)⟩, (by (repeat (first | exact HNEW.out | exact New.refl _ | apply New.alloc | apply New.aft | apply New.drew | refine New.setCell ?_ ?_ _)); all_goals (first | done | (simp [size_aft]; done) | (simp [size_aft]; omega)))⟩
            case measure => simp [intOf]; omega
      · obtain ⟨p, rfl⟩ : ∃ p, k = p + 1 := ⟨k - 1, by omega⟩
        obtain ⟨_, ⟨y1, y2⟩, _⟩ := (HO1.out.new HNEW.out) p (by omega)
        have b2 := HB1.out p (by omega)
        have HC1 := Lib.hid (fun w9 : World => rcompare_c (hA l L (2 * x) (p + 1)) (hD l L (p + 1)) (hA l L (2 * x) p) (hD l L p) w9 b1.1 b1.2 b2.1 b2.2)
        have hw1 : IntKind.i64.wrap (((p + 1 : Nat) : Int) - 1) = (p : Int) := by rw [show (((p + 1 : Nat) : Int) - 1) = (p : Int) by omega]; exact IntWalk.i64_in _ (by omega)
        have hp0 : (0 : Int) ≤ (p : Int) := by omega
        have hp1 : (p : Int) < (q : Int) := by omega
        have hz : (((p + 1 : Nat) : Int) == 0) = false := by simp; omega
        have hz2 : decide (((p + 1 : Nat) : Int) = 0) = false := by simp; omega
        have hz3 : ((p : Int) + 1 == 0) = false := by simp; omega
        have hz4 : decide ((p : Int) + 1 = 0) = false := by simp; omega
        have hw2 : IntKind.i64.wrap ((p : Int) + 1 - 1) = (p : Int) := by rw [show ((p : Int) + 1 - 1) = (p : Int) by omega]; exact IntWalk.i64_in _ (by omega)
        rw [show p + 1 - 1 = p by omega] at HGK
        generalize cmpR (hA l L (2 * x) (p + 1)) (hD l L (p + 1)) (hA l L (2 * x) p) (hD l L p) = K at *
        generalize hA l L (2 * x) (p + 1) = A1 at *
        generalize hD l L (p + 1) = D1 at *
        generalize hA l L (2 * x) p = A2 at *
        generalize hD l L p = D2 at *
        by_cases hK : K = 0
        · have hr : ¬ (p + 1 = 0 ∨ K ≠ 0) := by omega
          subst hK
          by_cases u1 : A = x
          · have HV := Lib.hid (show go (p + 1 + 1) = go (p + 1) by rw [HGK.out, if_neg hr, HFK.out]; simp [u1])
            go_wp2_with fail
            first | refine wp_region_at2 (by kernel_rfl) (by kernel_rfl) ?_ | refine wp_region_at (by kernel_rfl) (by kernel_rfl) ?_
            repeat (go_big_quiet_step (first | (go_at_call 100; exact calls_new (HC1.out _))))
            refine wpQuiet_nil ?_
            rintro _ ⟨q0, rfl⟩
            have e1 : b < wr.heap.size + 1 + q0.os.size := by omega
            have e2 : g1 < wr.heap.size + 1 + q0.os.size := by omega
            go_wp2_with fail
            go_roundw
            case rel => exact ⟨p + 1 + 1, by omega, by go_num, by rw [HV.out], ⟨by rw [HV.out]; exact hle, HAF.out (by rw [HV.out]; simp; omega)⟩, (by (repeat (first | exact HNEW.out | exact New.refl _ | apply New.alloc | apply New.aft | apply New.drew | refine New.setCell ?_ ?_ _)); all_goals (first | done | (simp [size_aft]; done) | (simp [size_aft]; omega)))⟩
            case measure => simp [intOf]; omega
          · have z1 : (A == x) = false := by simpa using u1
            have z2 : (A != x) = true := by simpa using u1
            by_cases u2 : C = x
            · have HV := Lib.hid (show go (p + 1 + 1) = go (p + 1) by rw [HGK.out, if_neg hr, HFK.out]; simp [u1, u2])
              go_wp2_with fail
              first | refine wp_region_at2 (by kernel_rfl) (by kernel_rfl) ?_ | refine wp_region_at (by kernel_rfl) (by kernel_rfl) ?_
              repeat (go_big_quiet_step (first | (go_at_call 100; exact calls_new (HC1.out _))))
              refine wpQuiet_nil ?_
              rintro _ ⟨q0, rfl⟩
              have e1 : b < wr.heap.size + 1 + q0.os.size := by omega
              have e2 : g1 < wr.heap.size + 1 + q0.os.size := by omega
              go_wp2_with fail
              go_roundw
              case rel => exact ⟨p + 1 + 1, by omega, by go_num, by rw [HV.out], ⟨by rw [HV.out]; exact hle, HAF.out (by rw [HV.out]; simp; omega)⟩, (by (repeat (first | exact HNEW.out | exact New.refl _ | apply New.alloc | apply New.aft | apply New.drew | refine New.setCell ?_ ?_ _)); all_goals (first | done | (simp [size_aft]; done) | (simp [size_aft]; omega)))⟩
              case measure => simp [intOf]; omega
            · have z3 : (C == x) = false := by simpa using u2
              have z4 : (C != x) = true := by simpa using u2
              by_cases u3 : go (p + 1) = 0
              · have HV := Lib.hid (show go (p + 1 + 1) = 1 by rw [HGK.out, if_neg hr, HFK.out, u3]; simp [u1, u2])
                rw [u3]
                clear u3
                go_wp2_with fail
                first | refine wp_region_at2 (by kernel_rfl) (by kernel_rfl) ?_ | refine wp_region_at (by kernel_rfl) (by kernel_rfl) ?_
                repeat (go_big_quiet_step (first | (go_at_call 100; exact calls_new (HC1.out _))))
                refine wpQuiet_nil ?_
                rintro _ ⟨q0, rfl⟩
                have e1 : b < wr.heap.size + 1 + q0.os.size := by omega
                have e2 : g1 < wr.heap.size + 1 + q0.os.size := by omega
                go_wp2_with fail
                go_roundw
                case rel => exact ⟨p + 1 + 1, by omega, by go_num, by rw [HV.out], ⟨by rw [HV.out]; decide, HAF.out (by rw [HV.out]; rfl)⟩, (by (repeat (first | exact HNEW.out | exact New.refl _ | apply New.alloc | apply New.aft | apply New.drew | refine New.setCell ?_ ?_ _)); all_goals (first | done | (simp [size_aft]; done) | (simp [size_aft]; omega)))⟩
                case measure => simp [intOf]; omega
              · have u4 : go (p + 1) = 1 := by omega
                have HV := Lib.hid (show go (p + 1 + 1) = 2 by rw [HGK.out, if_neg hr, HFK.out, u4]; simp [u1, u2])
                have HRT := Lib.hid (HAT.out (by rw [HV.out]; rfl))
                rw [u4]
                clear u4 u3
                go_wp2_with fail
                first | refine wp_region_at2 (by kernel_rfl) (by kernel_rfl) ?_ | refine wp_region_at (by kernel_rfl) (by kernel_rfl) ?_
                repeat (go_big_quiet_step (first | (go_at_call 100; exact calls_new (HC1.out _))))
                refine wpQuiet_nil ?_
                rintro _ ⟨q0, rfl⟩
                have e1 : b < wr.heap.size + 1 + q0.os.size := by omega
                have e2 : g1 < wr.heap.size + 1 + q0.os.size := by omega
                go_wp2_with fail
                go_ret
                exact ⟨ret_bool HRT.out.symm, (by (repeat (first | exact HNW.out | exact New.refl _ | apply New.alloc | apply New.aft | apply New.drew | refine New.setCell ?_ ?_ _)); all_goals (first | done | (simp [size_aft]; done) | (simp [size_aft]; omega)))⟩
        · have hr : p + 1 = 0 ∨ K ≠ 0 := .inr hK
          have z5 : (K == 0) = false := by simpa using hK
          have z6 : (K != 0) = true := by simpa using hK
          by_cases u1 : A = x
          · have HV := Lib.hid (show go (p + 1 + 1) = 0 by rw [HGK.out, if_pos hr, HFK.out]; simp [u1])
            go_wp2_with fail
            first | refine wp_region_at2 (by kernel_rfl) (by kernel_rfl) ?_ | refine wp_region_at (by kernel_rfl) (by kernel_rfl) ?_
            repeat (go_big_quiet_step (first | (go_at_call 100; exact calls_new (HC1.out _))))
            refine wpQuiet_nil ?_
            rintro _ ⟨q0, rfl⟩
            have e1 : b < wr.heap.size + 1 + q0.os.size := by omega
            have e2 : g1 < wr.heap.size + 1 + q0.os.size := by omega
            go_wp2_with fail
            go_roundw
            case rel => exact ⟨p + 1 + 1, by omega, by go_num, by rw [HV.out], ⟨by rw [HV.out]; decide, HAF.out (by rw [HV.out]; rfl)⟩, (by (repeat (first | exact HNEW.out | exact New.refl _ | apply New.alloc | apply New.aft | apply New.drew | refine New.setCell ?_ ?_ _)); all_goals (first | done | (simp [size_aft]; done) | (simp [size_aft]; omega)))⟩
            case measure => simp [intOf]; omega
          · have z1 : (A == x) = false := by simpa using u1
            have z2 : (A != x) = true := by simpa using u1
            by_cases u2 : C = x
            · have HV := Lib.hid (show go (p + 1 + 1) = 0 by rw [HGK.out, if_pos hr, HFK.out]; simp [u1, u2])
              go_wp2_with fail
              first | refine wp_region_at2 (by kernel_rfl) (by kernel_rfl) ?_ | refine wp_region_at (by kernel_rfl) (by kernel_rfl) ?_
              repeat (go_big_quiet_step (first | (go_at_call 100; exact calls_new (HC1.out _))))
              refine wpQuiet_nil ?_
              rintro _ ⟨q0, rfl⟩
              have e1 : b < wr.heap.size + 1 + q0.os.size := by omega
              have e2 : g1 < wr.heap.size + 1 + q0.os.size := by omega
              go_wp2_with fail
              go_roundw
              case rel => exact ⟨p + 1 + 1, by omega, by go_num, by rw [HV.out], ⟨by rw [HV.out]; decide, HAF.out (by rw [HV.out]; rfl)⟩, (by (repeat (first | exact HNEW.out | exact New.refl _ | apply New.alloc | apply New.aft | apply New.drew | refine New.setCell ?_ ?_ _)); all_goals (first | done | (simp [size_aft]; done) | (simp [size_aft]; omega)))⟩
              case measure => simp [intOf]; omega
            · have z3 : (C == x) = false := by simpa using u2
              have z4 : (C != x) = true := by simpa using u2
              have HV := Lib.hid (show go (p + 1 + 1) = 1 by rw [HGK.out, if_pos hr, HFK.out]; simp [u1, u2])
              go_wp2_with fail
              first | refine wp_region_at2 (by kernel_rfl) (by kernel_rfl) ?_ | refine wp_region_at (by kernel_rfl) (by kernel_rfl) ?_
              repeat (go_big_quiet_step (first | (go_at_call 100; exact calls_new (HC1.out _))))
              refine wpQuiet_nil ?_
              rintro _ ⟨q0, rfl⟩
              have e1 : b < wr.heap.size + 1 + q0.os.size := by omega
              have e2 : g1 < wr.heap.size + 1 + q0.os.size := by omega
              go_wp2_with fail
              go_roundw
              case rel => exact ⟨p + 1 + 1, by omega, by go_num, by rw [HV.out], ⟨by rw [HV.out]; decide, HAF.out (by rw [HV.out]; rfl)⟩, (by (repeat (first | exact HNEW.out | exact New.refl _ | apply New.alloc | apply New.aft | apply New.drew | refine New.setCell ?_ ?_ _)); all_goals (first | done | (simp [size_aft]; done) | (simp [size_aft]; omega)))⟩
              case measure => simp [intOf]; omega
    · have HE := Lib.hid (show R = false by rw [HRB.out, ← show k = q by omega]; exact HANY.out)
      go_wp2_with fail
      go_ret
      exact ⟨ret_bool HE.out.symm, (by (repeat (first | exact HNW.out | exact New.refl _ | apply New.alloc | apply New.aft | apply New.drew | refine New.setCell ?_ ?_ _)); all_goals (first | done | (simp [size_aft]; done) | (simp [size_aft]; omega)))⟩

end Go.Proofs.YtpdfbboagaflhaaGreat

set_option linter.unusedSimpArgs false
set_option linter.unusedVariables false
set_option maxRecDepth 100000
namespace Go.Proofs.YtpdfbboagaflhaaGreat
open Go.RowKit

def ovA (U : List S4) (p : Nat) : Bool := q1 U p == q1 U (p + 1) && decide (q2 U (p + 1) < q4 U p)
def ovB (U : List S4) : Bool := (List.range (U.length - 1)).any (ovA U)

set_option maxHeartbeats 16000000 in
theorem overlapping_c (av : Option Addr) (m c : Nat) (U : List S4) (w : World) (hm : m ≤ 1000000) (hU : U.length = m) (hv : 0 < m → ∃ g, av = some ⟨g, 0, none⟩ ∧ Segs w g 0 m U) :
    Calls Tryz.prog 154 #[.slice av m c] w fun en w' => en = .returned (.bool (ovB U)) ∧ New w w' := by
  have HRB := Lib.hid (show ovB U = (List.range (m - 1)).any (ovA U) by rw [← hU]; rfl)
  have HOV := Lib.hid (show ∀ p, ovA U p = (q1 U p == q1 U (p + 1) && decide (q2 U (p + 1) < q4 U p)) from fun _ => rfl)
  have HVV := Lib.hid hv
  generalize ovB U = R at *
  generalize ovA U = bad at *
  clear hv hU
  go_enter Tryz.func154, Tryz.ntmps154
  go_wp2_with fail
  go_loopw [3] (fun i wr => ∃ k : Nat, 1 ≤ k ∧ (k ≤ m ∨ k = 1) ∧ i = .int .i64 k ∧ (List.range (k - 1)).any bad = false ∧ New w wr) (fun i _ => m + 1 - (intOf i).toNat)
  case atStart => exact ⟨1, Nat.le_refl _, .inr rfl, rfl, rfl, New.refl _⟩
  case round =>
    obtain ⟨k, hk1, hk2, rfl, hany, hnew⟩ := hrel
    have HANY := Lib.hid hany
    have HNEW := Lib.hid hnew
    clear hany hnew
    by_cases hlt : k < m
    · obtain ⟨p, rfl⟩ : ∃ p, k = p + 1 := ⟨k - 1, by omega⟩
      obtain ⟨g, rfl, hsg⟩ := HVV.out (by omega)
      obtain ⟨_, gl, hcc⟩ := hsg.new HNEW.out
      obtain ⟨x1, x2, x3, x4⟩ := hcc p (by omega)
      obtain ⟨y1, y2, y3, y4⟩ := hcc (p + 1) hlt
      simp only [Nat.zero_add] at x1 x2 x3 x4 y1 y2 y3 y4
      have HBP := Lib.hid (HOV.out p)
      generalize q1 U p = A1 at *
      generalize q2 U p = A2 at *
      generalize q3 U p = A3 at *
      generalize q4 U p = A4 at *
      generalize q1 U (p + 1) = B1 at *
      generalize q2 U (p + 1) = B2 at *
      generalize q3 U (p + 1) = B3 at *
      generalize q4 U (p + 1) = B4 at *
      clear hcc hsg
      have hw1 : IntKind.i64.wrap (((p + 1 : Nat) : Int) - 1) = (p : Int) := by rw [show (((p + 1 : Nat) : Int) - 1) = (p : Int) by omega]; exact IntWalk.i64_in _ (by omega)
      have hw2 : IntKind.i64.wrap ((p : Int) + 1 - 1) = (p : Int) := by rw [show ((p : Int) + 1 - 1) = (p : Int) by omega]; exact IntWalk.i64_in _ (by omega)
      have hw3 : IntKind.i64.wrap (p : Int) = (p : Int) := IntWalk.i64_in _ (by omega)
      have hp0 : (0 : Int) ≤ (p : Int) := by omega
      have hp1 : (p : Int) < (m : Int) := by omega
      have hp2 : ((p + 1 : Nat) : Int) < (m : Int) := by omega
      have hp3 : (p : Int) + 1 < (m : Int) := by omega
      have hp4 : (0 : Int) ≤ (p : Int) + 1 := by omega
      have hp5 : ((p : Int) + 1).toNat = p + 1 := by omega
      have HND := Lib.hid (HNEW.out.drew)
      by_cases u1 : A1 = B1
      · have z1 : (A1 == B1) = true := by simpa using u1
        by_cases u2 : B2 < A4
        · have HV := Lib.hid (show bad p = true by rw [HBP.out]; simp [u1, u2])
          go_wp2_with fail
          go_region_held3 (fun w' => w'.cell? ⟨g, p * 4, none⟩ = some (.int .i64 A1) ∧ w'.cell? ⟨g, p * 4 + 1, none⟩ = some (.int .i64 A2) ∧ w'.cell? ⟨g, p * 4 + 2, none⟩ = some (.int .i64 A3) ∧ w'.cell? ⟨g, p * 4 + 3, none⟩ = some (.int .i64 A4) ∧ w'.cell? ⟨g, (p + 1) * 4, none⟩ = some (.int .i64 B1) ∧ w'.cell? ⟨g, (p + 1) * 4 + 1, none⟩ = some (.int .i64 B2) ∧ w'.cell? ⟨g, (p + 1) * 4 + 2, none⟩ = some (.int .i64 B3) ∧ w'.cell? ⟨g, (p + 1) * 4 + 3, none⟩ = some (.int .i64 B4)) (first | exact ⟨x1, x2, x3, x4, y1, y2, y3, y4⟩ | (simp [go_sem, x1, x2, x3, x4, y1, y2, y3, y4, gl]; done) | (go_keep; done)) (first | fail)
          all_goals (go_wp2_with fail)
          all_goals go_ret
          all_goals exact ⟨ret_bool (by rw [HRB.out, any_hit' (show p < m - 1 by omega) HV.out]), (by (repeat (first | exact HNEW.out | exact New.refl _ | apply New.alloc | apply New.aft | apply New.drew | refine New.setCell ?_ ?_ _)); all_goals (first | done | (simp [size_aft]; done) | (simp [size_aft]; omega)))⟩
        · have HV := Lib.hid (show bad p = false by rw [HBP.out]; simp [u1]; omega)
          go_wp2_with fail
          go_region_held3 (fun w' => w'.cell? ⟨g, p * 4, none⟩ = some (.int .i64 A1) ∧ w'.cell? ⟨g, p * 4 + 1, none⟩ = some (.int .i64 A2) ∧ w'.cell? ⟨g, p * 4 + 2, none⟩ = some (.int .i64 A3) ∧ w'.cell? ⟨g, p * 4 + 3, none⟩ = some (.int .i64 A4) ∧ w'.cell? ⟨g, (p + 1) * 4, none⟩ = some (.int .i64 B1) ∧ w'.cell? ⟨g, (p + 1) * 4 + 1, none⟩ = some (.int .i64 B2) ∧ w'.cell? ⟨g, (p + 1) * 4 + 2, none⟩ = some (.int .i64 B3) ∧ w'.cell? ⟨g, (p + 1) * 4 + 3, none⟩ = some (.int .i64 B4)) (first | exact ⟨x1, x2, x3, x4, y1, y2, y3, y4⟩ | (simp [go_sem, x1, x2, x3, x4, y1, y2, y3, y4, gl]; done) | (go_keep; done)) (first | fail)
          all_goals (go_wp2_with fail)
          all_goals go_roundw
          all_goals first
            | exact ⟨p + 1 + 1, by omega, .inl (by omega), by go_num, by rw [show p + 1 + 1 - 1 = p + 1 by omega, any_snoc', show (List.range p).any bad = false from HANY.out, HV.out]; rfl, (by (repeat (first | exact HNEW.out | exact New.refl _ | apply New.alloc | apply New.aft | apply New.drew | refine New.setCell ?_ ?_ _)); all_goals (first | done | (simp [size_aft]; done) | (simp [size_aft]; omega)))⟩
            | (simp [intOf]; omega)
      · have z1 : (A1 == B1) = false := by simpa using u1
        have z2 : decide (A1 = B1) = false := by simpa using u1
        have HV := Lib.hid (show bad p = false by rw [HBP.out]; simp [u1])
        go_wp2_with fail
        go_region_held3 (fun w' => w'.cell? ⟨g, p * 4, none⟩ = some (.int .i64 A1) ∧ w'.cell? ⟨g, p * 4 + 1, none⟩ = some (.int .i64 A2) ∧ w'.cell? ⟨g, p * 4 + 2, none⟩ = some (.int .i64 A3) ∧ w'.cell? ⟨g, p * 4 + 3, none⟩ = some (.int .i64 A4) ∧ w'.cell? ⟨g, (p + 1) * 4, none⟩ = some (.int .i64 B1) ∧ w'.cell? ⟨g, (p + 1) * 4 + 1, none⟩ = some (.int .i64 B2) ∧ w'.cell? ⟨g, (p + 1) * 4 + 2, none⟩ = some (.int .i64 B3) ∧ w'.cell? ⟨g, (p + 1) * 4 + 3, none⟩ = some (.int .i64 B4)) (first | exact ⟨x1, x2, x3, x4, y1, y2, y3, y4⟩ | (simp [go_sem, x1, x2, x3, x4, y1, y2, y3, y4, gl]; done) | (go_keep; done)) (first | fail)
        all_goals (go_wp2_with fail)
        all_goals go_roundw
        all_goals first
          | exact ⟨p + 1 + 1, by omega, .inl (by omega), by go_num, by rw [show p + 1 + 1 - 1 = p + 1 by omega, any_snoc', show (List.range p).any bad = false from HANY.out, HV.out]; rfl, (by (repeat (first | exact HNEW.out | exact New.refl _ | apply New.alloc | apply New.aft | apply New.drew | refine New.setCell ?_ ?_ _)); all_goals (first | done | (simp [size_aft]; done) | (simp [size_aft]; omega)))⟩
          | (simp [intOf]; omega)
    · have HE := Lib.hid (show (List.range (m - 1)).any bad = false by
        have := HANY.out
        rcases hk2 with h | h
        · rw [show m - 1 = k - 1 by omega]; exact this
        · rw [show m - 1 = 0 by omega]; rfl)
      go_wp2_with fail
      go_ret
      exact ⟨ret_bool (by rw [HRB.out, HE.out]), (by (repeat (first | exact HNEW.out | exact New.refl _ | apply New.alloc | apply New.aft | apply New.drew | refine New.setCell ?_ ?_ _)); all_goals (first | done | (simp [size_aft]; done) | (simp [size_aft]; omega)))⟩

end Go.Proofs.YtpdfbboagaflhaaGreat

set_option linter.unusedSimpArgs false
set_option linter.unusedVariables false
set_option maxRecDepth 100000
namespace Go.Proofs.YtpdfbboagaflhaaGreat
open Go.RowKit Go.Shelf

def fwdAt (l : List S4) (k : Nat) : S4 := (f1 (q1 l k) (q2 l k) (q3 l k) (q4 l k), f2 (q1 l k) (q2 l k) (q3 l k) (q4 l k), f3 (q1 l k) (q2 l k) (q3 l k) (q4 l k), f4 (q1 l k) (q2 l k) (q3 l k) (q4 l k))
def vertTo (l : List S4) : Nat → List S4
  | 0 => []
  | k + 1 => if q1 l k == q3 l k then vertTo l k ++ [fwdAt l k] else vertTo l k
def upL (l : List S4) : List S4 := sortS (vertTo l l.length)
theorem vertTo_le (l : List S4) : ∀ k, (vertTo l k).length ≤ k
  | 0 => Nat.le_refl _
  | k + 1 => by have := vertTo_le l k; simp only [vertTo]; split; (simp; omega); omega
theorem segCells_app (l : List S4) (s : S4) : segCells (l ++ [s]) = segCells l ++ [.int .i64 s.1, .int .i64 s.2.1, .int .i64 s.2.2.1, .int .i64 s.2.2.2] := by simp [segCells]
theorem sortS_none (ap : Option Addr) (cp : Nat) (w : World) : Calls Tryz.prog 138 #[.slice ap 0 cp, .func (.func 139) #[] #[]] w fun e w' => e = .returned (.tuple #[]) ∧ w' = w := by
  have h := AnyF.slices_SortFunc_none Tryz.sortSg ap cp (.func (.func 139) #[] #[]) w
  exact h

set_option maxHeartbeats 16000000 in
theorem verticals_c (b off n c : Nat) (l : List S4) (w : World) (hn : n ≤ 900000) (hw : Segs w b off n l) :
    Calls Tryz.prog 153 #[.slice (some ⟨b, off, none⟩) n c] w fun en w' => ∃ av cp, en = .returned (.slice av (upL l).length cp) ∧ (0 < (upL l).length → ∃ g, av = some ⟨g, 0, none⟩ ∧ Segs w' g 0 (upL l).length (upL l)) ∧ New w w' := by
  obtain ⟨i0, hi, hz0, hz1, hz2⟩ := info_parts info30
  have HW := Lib.hid hw
  have HN := Lib.hid hw.1
  clear hw
  go_enter Tryz.func153, Tryz.ntmps153
  go_wp2_with fail
  go_loopw [3, 8] (fun v i wr => ∃ k : Nat, k ≤ n ∧ i = .int .i64 k ∧ wr.ownsRow w.heap.size 30 4 v (vertTo l k).length (segCells (vertTo l k)) ∧ New w wr) (fun _ i _ => n - (intOf i).toNat)
  case atStart => exact ⟨0, Nat.zero_le _, rfl, World.ownsRow_nil _ _ _ _, New.refl _⟩
  case round =>
    obtain ⟨k, hk, rfl, hown, hnew⟩ := hrel
    have HO := Lib.hid hown
    have HNEW := Lib.hid hnew
    have hle := vertTo_le l k
    have hsz := HNEW.out.size
    clear hown hnew
    by_cases hlt : k < n
    · obtain ⟨_, hbb, hcc⟩ := HW.out.new HNEW.out
      obtain ⟨c1, c2, c3, c4⟩ := hcc k hlt
      clear hcc
      have HV := Lib.hid (fun w1 : World => vertical_c (q1 l k) (q2 l k) (q3 l k) (q4 l k) w1)
      have HF := Lib.hid (fun w1 : World => forward_c (q1 l k) (q2 l k) (q3 l k) (q4 l k) w1)
      have hk1 : (k : Int) < (n : Int) := by omega
      by_cases hv : q1 l k = q3 l k
      · have HT := Lib.hid (show vertTo l (k + 1) = vertTo l k ++ [(f1 (q1 l k) (q2 l k) (q3 l k) (q4 l k), f2 (q1 l k) (q2 l k) (q3 l k) (q4 l k), f3 (q1 l k) (q2 l k) (q3 l k) (q4 l k), f4 (q1 l k) (q2 l k) (q3 l k) (q4 l k))] by simp [vertTo, hv, fwdAt])
        rw [show (q1 l k == q3 l k) = true by simpa using hv] at HV
        clear hv
        generalize q1 l k = A at *
        generalize q2 l k = B at *
        generalize q3 l k = C at *
        generalize q4 l k = D at *
        generalize f1 A B C D = E1 at *
        generalize f2 A B C D = E2 at *
        generalize f3 A B C D = E3 at *
        generalize f4 A B C D = E4 at *
        go_wp2_with (first | (go_at_call 184; refine (HV.out _).mono ?_; rintro e w1 ⟨rfl, pw, rfl⟩) | (go_at_call 98; refine (HF.out _).mono ?_; rintro e w1 ⟨rfl, pw2, rfl⟩) | (at_builtin; refine wpList_append_lies _ rfl (.tmp 14) (.tmp 17) 58 rfl w.heap.size 30 i0 _ 4 32 Tryz.underlying58 hi hz0 hz1 hz2 rfl (by omega) _ (vertTo l k).length (segCells (vertTo l k)) rfl ?_ _ 1 1 [.int .i64 E1, .int .i64 E2, .int .i64 E3, .int .i64 E4] rfl rfl ?_ ?_ (by omega) ?_ ?_ ?_ _ rfl ?_; exact own_new HO.out (by (repeat (first | exact New.refl _ | apply New.alloc | apply New.aft | apply New.drew | refine New.setCell ?_ ?_ _)); all_goals (first | done | (simp [size_aft]; done) | (simp [size_aft]; omega))); (refine cells_new _ _ _ _ ?_); (simp [go_sem]); (intro u hu; simp at hu; rcases hu with rfl | rfl | rfl | rfl <;> rfl); (unfold maxLen; omega); omega; (simp [go_sem, Nat.add_assoc]; try omega); intro gg cap2 w2 hown2 hgrow2 hor2 hlt2; have HNW := Lib.hid (show New w w2 from new_grown (HNEW.out.trans (by (repeat (first | exact New.refl _ | apply New.alloc | apply New.aft | apply New.drew | refine New.setCell ?_ ?_ _)); all_goals (first | done | (simp [size_aft]; done) | (simp [size_aft]; omega)))) hgrow2 HO.out); have HO2 := Lib.hid hown2; clear hown2 hgrow2 hor2 hlt2))
        go_roundw
        case rel => exact ⟨k + 1, by omega, by go_num, by rw [HT.out, segCells_app, List.length_append]; exact HO2.out, HNW.out⟩
        case measure => simp [intOf]; omega
      · have HT := Lib.hid (show vertTo l (k + 1) = vertTo l k by simp [vertTo, hv])
        rw [show (q1 l k == q3 l k) = false by simpa using hv] at HV
        clear hv HF
        generalize q1 l k = A at *
        generalize q2 l k = B at *
        generalize q3 l k = C at *
        generalize q4 l k = D at *
        go_wp2_with (first | (go_at_call 184; refine (HV.out _).mono ?_; rintro e w1 ⟨rfl, pw, rfl⟩))
        go_roundw
        case rel => exact ⟨k + 1, by omega, by go_num, by rw [HT.out]; exact own_new HO.out (by (repeat (first | exact New.refl _ | apply New.alloc | apply New.aft | apply New.drew | refine New.setCell ?_ ?_ _)); all_goals (first | done | (simp [size_aft]; done) | (simp [size_aft]; omega))), (by (repeat (first | exact HNEW.out | exact New.refl _ | apply New.alloc | apply New.aft | apply New.drew | refine New.setCell ?_ ?_ _)); all_goals (first | done | (simp [size_aft]; done) | (simp [size_aft]; omega)))⟩
        case measure => simp [intOf]; omega
    · obtain rfl : k = n := by omega
      obtain ⟨av, cv, rfl⟩ := own_slice HO.out
      have HU := Lib.hid (show upL l = sortS (vertTo l k) by unfold upL; rw [HN.out])
      have HUL := Lib.hid (show (upL l).length = (vertTo l k).length by rw [HU.out, sortS_length])
      generalize hm : (vertTo l k).length = m at *
      by_cases h0 : 0 < m
      · obtain ⟨g, cap, hg0, hg1, hg2⟩ := HO.out.form h0
        obtain ⟨rfl, rfl⟩ : av = some ⟨g, 0, none⟩ ∧ cv = cap := by cases hg0; exact ⟨rfl, rfl⟩
        clear hg0
        have HSO := Lib.hid (sortS_c w.heap.size g m cv (vertTo l k) wr (by omega) hm HO.out)
        go_wp2_with (first | (go_at_call 138; refine HSO.out.mono ?_; rintro e w1 ⟨rfl, ho1, hg⟩; have HO1 := Lib.hid ho1; have HG1 := Lib.hid hg; clear ho1 hg))
        go_ret
        have hsg := segs_own HO1.out (by rw [sortS_length, hm])
        rw [← HU.out] at hsg
        exact ⟨some ⟨g, 0, none⟩, cv, by rw [HUL.out]; rfl, fun _ => ⟨g, rfl, by rw [HUL.out]; exact hsg⟩, new_grownBy HNEW.out HG1.out hg1⟩
      · obtain rfl : m = 0 := by omega
        have HSO := Lib.hid (sortS_none av cv)
        go_wp2_with (first | (go_at_call 138; refine (HSO.out _).mono ?_; rintro e w1 ⟨rfl, rfl⟩))
        go_ret
        exact ⟨av, cv, by rw [HUL.out]; rfl, fun h => by rw [HUL.out] at h; omega, HNEW.out⟩

end Go.Proofs.YtpdfbboagaflhaaGreat

set_option linter.unusedSimpArgs false
set_option linter.unusedVariables false
set_option maxRecDepth 100000
namespace Go.Proofs.YtpdfbboagaflhaaGreat
open Go.RowKit Go.Shelf

theorem run_append_none {P : Program} (w : World) (t ty e : TypeId) (i : TypeInfo) (ht : P.underlying t = some (.slice e)) (hi : P.info? e = some i)
    (A : Option Addr) (c : Nat) (B : Option Addr) (d : Nat) : (Builtin.append_ #[t, t] ty #[.slice A 0 c, .slice B 0 d]).run P w = .ok (.slice A 0 c) w := by
  cases A <;> cases B <;> simp [Builtin.append_, run_underlying ht, sizeOf, typeInfo, hi, Builtin.lenOf, Builtin.firstCells, loadCells]
  · rw [show ∀ a : Addr, loadCellsFrom a 0 0 #[] = (pure #[] : Sem _) from fun _ => rfl]; rfl
  · simp [storeCells]
  · rw [show ∀ a : Addr, loadCellsFrom a 0 0 #[] = (pure #[] : Sem _) from fun _ => rfl]; simp [storeCells]
theorem wpList_append_none {P : Program} {w : World} {ops : Array Oper} {rest : List Oper} {o : Oper} {a : Act} {Q : Exit → Act → World → Prop} (hgd : o.guard = none) (s x : Operand) (t : TypeId)
    (ho : o.op = .call { callee := .builtin .append, args := #[s, x], argTypes := #[t, t] }) (e : TypeId) (i : TypeInfo) (ht : P.underlying t = some (.slice e)) (hi : P.info? e = some i)
    (A : Option Addr) (c : Nat) (B : Option Addr) (d : Nat) (hs : a.eval s = .slice A 0 c) (hx : a.eval x = .slice B 0 d) (h : wpList P ops Q rest (a.put o.dst (.slice A 0 c)) w) : wpList P ops Q (o :: rest) a w :=
  wpList_plain hgd fun _ hK => by
    unfold Oper.wp execOp
    simp only [ho, resolve, invoke, builtin, Sem.run_bind, Sem.run_pure, Result.andThen_ok, List.map_toArray, List.map_cons, List.map_nil, hs, hx, run_append_none w t _ e i ht hi]
    exact hK _ _ h

set_option maxHeartbeats 2000000 in
theorem insortI_nil (v : Option Addr) (c : Nat) (w : World) : Calls Tryz.prog 237 #[.slice v 0 c, .int .i64 0, .int .i64 0] w fun en w' => en = .returned (.tuple #[]) ∧ New w w' := by
  go_enter Tryz.func237, Tryz.ntmps237
  go_wp2_with fail
  go_loopw [6] (fun i wr => i = .int .i64 1 ∧ New w wr) (fun _ _ => 0)
  case atStart => exact ⟨by go_num, New.refl _⟩
  case round =>
    obtain ⟨rfl, hn⟩ := hrel
    have HN := Lib.hid hn
    clear hn
    go_wp2_with fail
    exact bodyPost_end (results_none rfl _ _ _) rfl ⟨rfl, HN.out⟩
set_option maxHeartbeats 2000000 in
theorem pdqI_nil (v : Option Addr) (c : Nat) (k : Int) (w : World) : Calls Tryz.prog 231 #[.slice v 0 c, .int .i64 0, .int .i64 0, .int .i64 k] w fun en w' => en = .returned (.tuple #[]) ∧ New w w' := by
  have HI := Lib.hid (insortI_nil v c)
  go_enter Tryz.func231, Tryz.ntmps231
  go_wp2_with fail
  go_loopw [1, 2] (fun i j wr => (i = .int .i64 0 ∧ j = .int .i64 0) ∧ New w wr) (fun _ _ _ => 0)
  case atStart => exact ⟨⟨rfl, rfl⟩, New.refl _⟩
  case round =>
    obtain ⟨⟨rfl, rfl⟩, hn⟩ := hrel
    have HN := Lib.hid hn
    clear hn
    go_wp2_with (go_at_call 237; refine (HI.out _).mono ?_; rintro e w1 ⟨rfl, hn⟩; have HN1 := Lib.hid (HN.out.trans hn); clear hn)
    exact bodyPost_ret (results_none rfl _ _ _) rfl ⟨rfl, HN1.out⟩
set_option maxHeartbeats 2000000 in
theorem sortI_nil (v : Option Addr) (c : Nat) (w : World) : Calls Tryz.prog 211 #[.slice v 0 c] w fun en w' => en = .returned (.tuple #[]) ∧ New w w' := by
  have HI := Lib.hid (fun k => pdqI_nil v c k)
  have HL := Lib.hid (fun w1 : World => hlenH 0 w1 (by omega))
  go_enter Tryz.func211, Tryz.ntmps211
  go_wp2_with (first | (go_at_call 172; refine (HL.out _).mono ?_; rintro e w1 ⟨⟨k, rfl⟩, rfl⟩) | (go_at_call 231; refine (HI.out _ _).mono ?_; rintro e w1 ⟨rfl, hn⟩; have HN1 := Lib.hid hn; clear hn))
  exact bodyPost_end (results_none rfl _ _ _) rfl ⟨rfl, HN1.out⟩
theorem sortI_big (base g n cap : Nat) (l : List Int) (w : World) (hl : n ≤ 17592186044415) (hn : l.length = n) (ho : w.ownsRow base 3 1 (.slice (some ⟨g, 0, none⟩) n cap) n (inCells l)) :
    Calls Tryz.prog 211 #[.slice (some ⟨g, 0, none⟩) n cap] w fun en w' => en = .returned (.tuple #[]) ∧ w'.ownsRow base 3 1 (.slice (some ⟨g, 0, none⟩) n cap) n (inCells (sortI l)) ∧ w.grownBy w' (some g) := by
  have hcon := Any.slices_Sort_int Tryz.sortInts g 0 cap l w (own_holds1 (enc := Value.int .i64) ho) (ho.lt g rfl).2 (by omega)
  change Calls Tryz.prog 211 _ _ _ at hcon
  rw [hn] at hcon
  refine hcon.mono fun e w' ⟨he, m, os, hw⟩ => ⟨he, ?_⟩
  rw [hw]
  exact own_put1 (enc := Value.int .i64) ho (sortI l).toArray (by rw [List.size_toArray, sortI_length, hn]) m os
theorem inCells_one (L : List Int) : ∀ v ∈ inCells L, v.oneCell' = true := by intro v hv; simp [inCells] at hv; obtain ⟨x, _, rfl⟩ := hv; rfl
set_option maxHeartbeats 4000000 in
theorem cloneI_c (b off n c : Nat) (L : List Int) (w : World) (h0 : 0 < n) (hl : n ≤ 17592186044415) (hw : Ints w b off n L) :
    Calls Tryz.prog 221 #[.slice (some ⟨b, off, none⟩) n c] w fun en w' => ∃ g cap, en = .returned (.slice (some ⟨g, 0, none⟩) n cap) ∧ w'.ownsRow w.heap.size 3 1 (.slice (some ⟨g, 0, none⟩) n cap) n (inCells L) ∧ New w w' := by
  obtain ⟨i0, hi, hz0, hz1, hz2⟩ := info_parts info3
  have HW := Lib.hid hw
  have HN := Lib.hid hw.1
  clear hw
  have HMADE := Lib.hid (show (w.alloc (.cells #[] 3)).ownsRow w.heap.size 3 1 (.slice (some ⟨w.heap.size, 0, none⟩) 0 0) 0 [] from World.ownsRow_made _ _ _ (Nat.le_refl _) (by unfold maxLen; omega) rfl)
  have HP2 := Lib.hid (show ∀ w1 : World, New w w1 → ∀ j u, (inCells L)[j]? = some u → w1.cell? ((⟨b, off, none⟩ : Addr).add j) = some u from fun w1 h1 j u hu => by
    have hj : j < L.length := by
      have := (List.getElem?_eq_some_iff.1 hu).1
      simpa [inCells] using this
    rw [inCells_at L j hj] at hu
    injection hu with hu
    rw [← hu, ← (HW.out.new h1).2.2 j (by have := HN.out; omega)]
    congr 1
    unfold Addr.add; split <;> simp_all)
  have hnil : ∀ w' : World, (binOp .eql 82 (.slice (some ⟨b, off, none⟩) n c) (.slice none 0 0)).run Tryz.prog w' = .ok (.bool false) w' := fun w' => Lib.run_eql_slice_nil w' 82 3 _ n c 0 0 Tryz.underlying82
  go_enter Tryz.func221, Tryz.ntmps221
  go_wp2_with (at_builtin; refine wpList_append_lies _ rfl (.tmp 5) (.tmp 6) 82 rfl w.heap.size 3 i0 _ 1 8 Tryz.underlying82 hi hz0 hz1 hz2 rfl (by omega) _ 0 [] rfl ?_ ⟨b, off, none⟩ n c (inCells L) rfl ?_ ?_ ?_ h0 ?_ ?_ ?_ _ rfl ?_; exact HMADE.out; (rw [show (inCells L).length = L.length by simp [inCells], HN.out]; omega); exact HP2.out _ ((New.refl w).alloc _); exact inCells_one _; (unfold maxLen; omega); omega; (simp [go_sem]); intro g1 cap1 w1 hown1 hgrow1 hat1 hlt1; have HO1 := Lib.hid hown1; have HN1 := Lib.hid (show New w w1 from new_grown ((New.refl w).alloc _) hgrow1 HMADE.out); clear hown1 hgrow1 hat1 hlt1)
  go_ret
  exact ⟨g1, cap1, by simp, by simpa using HO1.out, HN1.out⟩
set_option maxHeartbeats 2000000 in
theorem cloneI_nil (v : Option Addr) (c : Nat) (w : World) : Calls Tryz.prog 221 #[.slice v 0 c] w fun en w' => ∃ v2 c2, en = .returned (.slice v2 0 c2) ∧ New w w' := by
  obtain ⟨i0, hi, hz0, hz1, hz2⟩ := info_parts info3
  have hnil : ∀ w' : World, (binOp .eql 82 (.slice v 0 c) (.slice none 0 0)).run Tryz.prog w' = .ok (.bool v.isNone) w' := fun w' => Lib.run_eql_slice_nil w' 82 3 _ 0 c 0 0 Tryz.underlying82
  cases v with
  | none =>
    go_enter Tryz.func221, Tryz.ntmps221
    go_wp2_with fail
    go_ret; exact ⟨none, 0, rfl, New.refl _⟩
  | some a =>
    go_enter Tryz.func221, Tryz.ntmps221
    go_wp2_with (at_builtin; refine wpList_append_none rfl (.tmp 5) (.tmp 6) 82 rfl 3 i0 Tryz.underlying82 hi _ _ _ _ rfl rfl ?_)
    go_ret; exact ⟨_, _, rfl, (New.refl _).alloc _⟩

def eqTo (L M : List Int) (k : Nat) : Bool := (List.range k).all fun i => L.getD i 0 == M.getD i 0
theorem eqTo_snoc (L M : List Int) (k : Nat) : eqTo L M (k + 1) = (eqTo L M k && (L.getD k 0 == M.getD k 0)) := by
  unfold eqTo; rw [List.range_succ, List.all_append]; simp
theorem eqTo_iff {L M : List Int} (h : L.length = M.length) : eqTo L M L.length = true ↔ L = M := by
  unfold eqTo
  rw [List.all_eq_true]
  constructor
  · intro g
    apply List.ext_getElem h
    intro i h1 h2
    have := g i (List.mem_range.2 h1)
    simpa [List.getD_eq_getElem?_getD, h1, h2] using this
  · rintro rfl i _; simp
set_option maxHeartbeats 8000000 in
theorem equalI_c (v1 v2 : Value) (L M : List Int) (w : World) (hl : L.length ≤ 17592186044415) (h1 : IntsA w v1 L) (h2 : IntsA w v2 M) :
    Calls Tryz.prog 222 #[v1, v2] w fun en w' => en = .returned (.bool (decide (L = M))) ∧ New w w' := by
  obtain ⟨a1, c1, rfl, p1⟩ := h1
  obtain ⟨a2, c2, rfl, p2⟩ := h2
  by_cases hlen : L.length = M.length
  · have HR := Lib.hid (show decide (L = M) = eqTo L M L.length by
      rw [Bool.eq_iff_iff, eqTo_iff hlen]; simp)
    have HP1 := Lib.hid p1
    have HP2 := Lib.hid p2
    have HSN := Lib.hid (eqTo_snoc L M)
    have HMN := Lib.hid (show ∀ k, k < L.length → (L.getD k 0 == M.getD k 0) = false → eqTo L M L.length = false from fun k hk e => by
      unfold eqTo; rw [List.all_eq_false]; exact ⟨k, List.mem_range.2 hk, by rw [e]; decide⟩)
    have HE0 := Lib.hid (show eqTo L M 0 = true from rfl)
    rw [← hlen] at HP2 ⊢
    generalize eqTo L M = e at *
    generalize decide (L = M) = R at *
    clear p1 p2 hlen
    generalize hq : L.length = q at *
    go_enter Tryz.func222, Tryz.ntmps222
    go_wp2_with fail
    go_loopw [13] (fun i wr => ∃ k : Nat, k ≤ q ∧ i = .int .i64 k ∧ e k = true ∧ New w wr) (fun i _ => q - (intOf i).toNat)
    case atStart => exact ⟨0, Nat.zero_le _, rfl, HE0.out, New.refl _⟩
    case round =>
      obtain ⟨k, hk, rfl, he, hnew⟩ := hrel
      have HEK := Lib.hid he
      have HNEW := Lib.hid hnew
      clear he hnew
      by_cases hlt : k < q
      · obtain ⟨b1, o1, rfl, hx1⟩ := HP1.out (by omega)
        obtain ⟨b2, o2, rfl, hx2⟩ := HP2.out (by omega)
        obtain ⟨_, g1, z1⟩ := hx1.new HNEW.out
        have x1 := z1 k (by omega)
        have x2 : wr.cell? ⟨b2, o2 + k, none⟩ = some (.int .i64 (M.getD k 0)) := (hx2.new HNEW.out).2.2 k (by first | exact hlt | (have := hx2.1; omega))
        have g2 := (hx2.new HNEW.out).2.1
        have HS := Lib.hid (HSN.out k)
        have HM := Lib.hid (HMN.out k hlt)
        have hk1 : (k : Int) < (q : Int) := by omega
        clear z1 hx1 hx2
        generalize L.getD k 0 = X at *
        generalize M.getD k 0 = Y at *
        by_cases hxy : X = Y
        · subst hxy
          go_wp2_with fail
          first | refine wp_region_at2 (by kernel_rfl) (by kernel_rfl) ?_ | refine wp_region_at (by kernel_rfl) (by kernel_rfl) ?_
          repeat (go_big_quiet_step (fail))
          refine wpQuiet_nil ?_
          rintro _ ⟨q0, rfl⟩
          go_wp2_with fail
          go_roundw
          case rel => exact ⟨k + 1, by omega, by go_num, by rw [HS.out, HEK.out]; simp, (by (repeat (first | exact HNEW.out | exact New.refl _ | apply New.alloc | apply New.aft | apply New.drew | refine New.setCell ?_ ?_ _)); all_goals (first | done | (simp [size_aft]; done) | (simp [size_aft]; omega)))⟩
          case measure => simp [intOf]; omega
        · have z2 : (X == Y) = false := by simpa using hxy
          have z3 : (X != Y) = true := by simpa using hxy
          go_wp2_with fail
          first | refine wp_region_at2 (by kernel_rfl) (by kernel_rfl) ?_ | refine wp_region_at (by kernel_rfl) (by kernel_rfl) ?_
          repeat (go_big_quiet_step (fail))
          refine wpQuiet_nil ?_
          rintro _ ⟨q0, rfl⟩
          go_wp2_with fail
          go_ret
          exact ⟨ret_bool (by rw [HR.out, HM.out z2]), (by (repeat (first | exact HNEW.out | exact New.refl _ | apply New.alloc | apply New.aft | apply New.drew | refine New.setCell ?_ ?_ _)); all_goals (first | done | (simp [size_aft]; done) | (simp [size_aft]; omega)))⟩
      · have HRT := Lib.hid (show R = true by rw [HR.out, ← show k = q by omega]; exact HEK.out)
        go_wp2_with fail
        go_ret
        exact ⟨ret_bool HRT.out.symm, (by (repeat (first | exact HNEW.out | exact New.refl _ | apply New.alloc | apply New.aft | apply New.drew | refine New.setCell ?_ ?_ _)); all_goals (first | done | (simp [size_aft]; done) | (simp [size_aft]; omega)))⟩
  · have HR := Lib.hid (show decide (L = M) = false by simpa using fun e : L = M => hlen (by rw [e]))
    have z1 : ((L.length : Int) == (M.length : Int)) = false := by simpa using fun e : (L.length : Int) = M.length => hlen (by omega)
    have z2 : ((L.length : Int) != (M.length : Int)) = true := by simpa using fun e : (L.length : Int) = M.length => hlen (by omega)
    rw [HR.out]
    go_enter Tryz.func222, Tryz.ntmps222
    go_wp2_with fail
    go_ret
    exact ⟨rfl, New.refl _⟩

theorem intsA_own {w : World} {base : Nat} {g cap : Nat} {L : List Int} (h : w.ownsRow base 3 1 (.slice (some ⟨g, 0, none⟩) L.length cap) L.length (inCells L)) : Ints w g 0 L.length L :=
  ⟨rfl, (h.lt g rfl).2, fun i hi => by rw [Nat.zero_add]; exact (own_cell h (inCells_at L i hi)).1⟩
theorem intsA_row {w : World} {base : Nat} {v : Value} {L : List Int} (h : w.ownsRow base 3 1 v L.length (inCells L)) : IntsA w v L := by
  obtain ⟨a, c, rfl⟩ := own_slice h
  refine ⟨a, c, rfl, fun h0 => ?_⟩
  obtain ⟨g, cap, hg0, _, _⟩ := h.form h0
  obtain ⟨rfl, rfl⟩ : a = some ⟨g, 0, none⟩ ∧ c = cap := by cases hg0; exact ⟨rfl, rfl⟩
  exact ⟨g, 0, rfl, intsA_own h⟩

set_option maxHeartbeats 4000000 in
theorem sameSet_c (v1 v2 : Value) (L M : List Int) (w : World) (hl : L.length ≤ 17592186044415) (h1 : IntsA w v1 L) (h2 : IntsA w v2 M) :
    Calls Tryz.prog 183 #[v1, v2] w fun en w' => en = .returned (.bool (decide (sortI L = M))) ∧ New w w' := by
  have HE := Lib.hid (fun (v3 : Value) (w1 : World) (h3 : IntsA w1 v3 (sortI L)) (h4 : New w w1) => equalI_c v3 v2 (sortI L) M w1 (by rw [sortI_length]; exact hl) h3 (h2.new h4))
  obtain ⟨a1, c1, rfl, p1⟩ := h1
  generalize decide (sortI L = M) = R at *
  by_cases h0 : 0 < L.length
  · obtain ⟨b, off, rfl, hi⟩ := p1 h0
    have HC := Lib.hid (fun w1 : World => fun h1 : New w w1 => cloneI_c b off L.length c1 L w1 h0 hl (hi.new h1))
    have HS := Lib.hid (fun (base g cap : Nat) (w1 : World) (ho : w1.ownsRow base 3 1 (.slice (some ⟨g, 0, none⟩) L.length cap) L.length (inCells L)) => sortI_big base g L.length cap L w1 hl rfl ho)
    have HSL := Lib.hid (sortI_length L)
    clear p1 hi h2
    go_enter Tryz.func183, Tryz.ntmps183
    go_wp2_with (first | (go_at_call 221; refine (HC.out _ (New.refl _)).mono ?_; rintro e w3 ⟨g, cap, rfl, ho, hn⟩; have HO := Lib.hid ho; have HN := Lib.hid hn; clear ho hn) | (go_at_call 211; refine (HS.out _ g cap _ HO.out).mono ?_; rintro e w4 ⟨rfl, ho2, hg⟩; have HO2 := Lib.hid ho2; have HN2 := Lib.hid (show New w w4 from new_grownBy HN.out hg (HO.out.lt g rfl).1); clear ho2 hg) | (go_at_call 222; refine (HE.out _ _ (intsA_row (by rw [HSL.out]; exact HO2.out)) HN2.out).mono ?_; rintro e w5 ⟨rfl, hn5⟩; have HN5 := Lib.hid (HN2.out.trans hn5); clear hn5))
    go_ret
    exact ⟨rfl, HN5.out⟩
  · have e0 : L.length = 0 := by omega
    have HL0 := Lib.hid (show L = [] from List.eq_nil_of_length_eq_zero e0)
    rw [e0]
    have HC := Lib.hid (fun w1 : World => cloneI_nil a1 c1 w1)
    have HS := Lib.hid (fun (v : Option Addr) (c : Nat) (w1 : World) => sortI_nil v c w1)
    have HSL := Lib.hid (show sortI L = [] from List.eq_nil_of_length_eq_zero (by rw [sortI_length]; exact e0))
    clear p1 h2 e0
    go_enter Tryz.func183, Tryz.ntmps183
    go_wp2_with (first | (go_at_call 221; refine (HC.out _).mono ?_; rintro e w3 ⟨v3, c3, rfl, hn⟩; have HN := Lib.hid hn; clear hn) | (go_at_call 211; refine (HS.out _ _ _).mono ?_; rintro e w4 ⟨rfl, hn⟩; have HN2 := Lib.hid (HN.out.trans hn); clear hn) | (go_at_call 222; refine (HE.out _ _ ⟨v3, c3, by rw [HSL.out]; rfl, fun h => by rw [HSL.out] at h; simp at h⟩ HN2.out).mono ?_; rintro e w5 ⟨rfl, hn5⟩; have HN5 := Lib.hid (HN2.out.trans hn5); clear hn5))
    go_ret
    exact ⟨rfl, HN5.out⟩

end Go.Proofs.YtpdfbboagaflhaaGreat

set_option linter.unusedSimpArgs false
set_option linter.unusedVariables false
set_option maxRecDepth 100000
namespace Go.Proofs.YtpdfbboagaflhaaGreat
open Go.RowKit

set_option maxHeartbeats 8000000 in
theorem search_c (n c : Nat) (p : Nat → Bool) (P1 P2 : Value) (w : World) (hn : n ≤ 1000000) (hc : c ≤ n) (hp : ∀ i, i < n → p i = decide (c ≤ i))
    (HP : Hid (∀ (w1 : World), New w w1 → ∀ i, i < n → Calls Tryz.prog 189 #[.int .i64 i, P1, P2] w1 fun e w' => e = .returned (.bool (p i)) ∧ New w1 w')) :
    Calls Tryz.prog 188 #[.int .i64 n, .func (.func 189) #[] #[P1, P2]] w fun e w' => e = .returned (.int .i64 c) ∧ New w w' := by
  have HPP := Lib.hid hp
  clear hp
  go_enter Tryz.func188, Tryz.ntmps188
  go_wp2_with fail
  go_loopw [5, 6] (fun s5 s6 wr => ∃ lo hi : Nat, s5 = .int .i64 lo ∧ s6 = .int .i64 hi ∧ (lo ≤ c ∧ c ≤ hi) ∧ hi ≤ n ∧ New w wr) (fun s5 s6 _ => (intOf s6).toNat - (intOf s5).toNat)
  case atStart => exact ⟨0, n, rfl, rfl, ⟨Nat.zero_le _, hc⟩, Nat.le_refl _, New.refl _⟩
  case round =>
    obtain ⟨lo, hi, rfl, rfl, ⟨hlo, hhi⟩, hin, hnew⟩ := hrel
    have HNEW := Lib.hid hnew
    clear hnew
    by_cases hlt : lo < hi
    · have HC := Lib.hid (fun (w1 : World) (h1 : New wr w1) => HP.out w1 (HNEW.out.trans h1) ((lo + hi) / 2) (by omega))
      have HV := Lib.hid (HPP.out ((lo + hi) / 2) (by omega))
      rw [show (((lo + hi) / 2 : Nat) : Int) = ((lo : Int) + (hi : Int)) / 2 by omega] at HC
      cases hp : p ((lo + hi) / 2)
      · rw [hp] at HC HV
        have hcc : (lo + hi) / 2 < c := by
          have := HV.out
          rcases Nat.lt_or_ge ((lo + hi) / 2) c with g | g
          · exact g
          · simp [g] at this
        clear hp HV
        go_wp2_with (go_at_call 189; refine (HC.out _ (by (repeat (first | exact New.refl _ | apply New.alloc | apply New.aft | apply New.drew | refine New.setCell ?_ ?_ _)); all_goals (first | done | (simp [size_aft]; done) | (simp [size_aft]; omega)))).mono ?_; rintro e w1 ⟨rfl, pw, rfl⟩)
        go_roundw
        case rel => exact ⟨(lo + hi) / 2 + 1, hi, by go_num, rfl, ⟨by omega, hhi⟩, hin, (by (repeat (first | exact HNEW.out | exact New.refl _ | apply New.alloc | apply New.aft | apply New.drew | refine New.setCell ?_ ?_ _)); all_goals (first | done | (simp [size_aft]; done) | (simp [size_aft]; omega)))⟩
        case measure => simp [intOf]; omega
      · rw [hp] at HC HV
        have hcc : c ≤ (lo + hi) / 2 := by
          have := HV.out
          simpa using this
        clear hp HV
        go_wp2_with (go_at_call 189; refine (HC.out _ (by (repeat (first | exact New.refl _ | apply New.alloc | apply New.aft | apply New.drew | refine New.setCell ?_ ?_ _)); all_goals (first | done | (simp [size_aft]; done) | (simp [size_aft]; omega)))).mono ?_; rintro e w1 ⟨rfl, pw, rfl⟩)
        go_roundw
        case rel => exact ⟨lo, (lo + hi) / 2, rfl, by go_num, ⟨hlo, hcc⟩, by omega, (by (repeat (first | exact HNEW.out | exact New.refl _ | apply New.alloc | apply New.aft | apply New.drew | refine New.setCell ?_ ?_ _)); all_goals (first | done | (simp [size_aft]; done) | (simp [size_aft]; omega)))⟩
        case measure => simp [intOf]; omega
    · obtain rfl : lo = c := by omega
      go_wp2_with fail
      go_ret
      exact ⟨rfl, HNEW.out⟩

/-- strips: From, To, the numbers of the segments -/
abbrev SV := Int × Int × List Int
def sF (C : List SV) (i : Nat) : Int := (C.getD i (0, 0, [])).1
def sT (C : List SV) (i : Nat) : Int := (C.getD i (0, 0, [])).2.1
def sL (C : List SV) (i : Nat) : List Int := (C.getD i (0, 0, [])).2.2
/-- a slice of strips, wherever it lies -/
def Strps (w : World) (b off n : Nat) (C : List SV) : Prop := C.length = n ∧ b < w.heap.size ∧ ∀ i, i < n → ∃ v, (w.cell? ⟨b, off + i * 3, none⟩ = some (.int .i64 (sF C i)) ∧ w.cell? ⟨b, off + i * 3 + 1, none⟩ = some (.int .i64 (sT C i))) ∧ w.cell? ⟨b, off + i * 3 + 2, none⟩ = some v ∧ IntsA w v (sL C i)
theorem Strps.new {w w1 : World} {b off n : Nat} {C : List SV} (h : Strps w b off n C) (hn : New w w1) : Strps w1 b off n C := by
  obtain ⟨h1, h2, h3⟩ := h
  exact ⟨h1, Nat.lt_of_lt_of_le h2 hn.size, fun i hi => by obtain ⟨v, ⟨a1, a2⟩, a3, a4⟩ := h3 i hi; exact ⟨v, ⟨(hn.cell h2).trans a1, (hn.cell h2).trans a2⟩, (hn.cell h2).trans a3, a4.new hn⟩⟩

set_option maxHeartbeats 2000000 in
theorem crossed1_c (f t x : Int) (v : Value) (w : World) : Calls Tryz.prog 186 #[.agg #[.int .i64 f, .int .i64 t, v], .int .i64 x] w fun e w' => e = .returned (.int .i64 (cmpI t x)) ∧ New w w' := by
  go_enter Tryz.func186, Tryz.ntmps186
  go_wp2_with (go_at_call 163; refine (compare_c _ _ _).mono ?_; rintro e w1 ⟨rfl, pw, rfl⟩)
  go_ret
  exact ⟨rfl, (by (repeat (first | exact New.refl _ | apply New.alloc | apply New.aft | apply New.drew | refine New.setCell ?_ ?_ _)); all_goals (first | done | (simp [size_aft]; done) | (simp [size_aft]; omega)))⟩

set_option maxHeartbeats 8000000 in
theorem bsearch_c (b off n cap c : Nat) (C : List SV) (x : Int) (w : World) (hn : n ≤ 1000000) (hw : Strps w b off n C) (hc : c ≤ n) (hlo : ∀ i, i < c → sT C i < x) (hhi : ∀ i, c ≤ i → i < n → x ≤ sT C i) :
    Calls Tryz.prog 185 #[.slice (some ⟨b, off, none⟩) n cap, .int .i64 x, .func (.func 186) #[] #[]] w fun e w' => e = .returned (.tuple #[.int .i64 c, .bool (decide (c < n) && (sT C c == x))]) ∧ New w w' := by
  have HW := Lib.hid hw
  have HLO := Lib.hid hlo
  have HHI := Lib.hid hhi
  have HC1 := Lib.hid (fun (f t : Int) (v : Value) (w1 : World) => crossed1_c f t x v w1)
  clear hw hlo hhi
  go_enter Tryz.func185, Tryz.ntmps185
  go_wp2_with fail
  go_loopw [9, 10] (fun s5 s6 wr => ∃ lo hi : Nat, s5 = .int .i64 lo ∧ s6 = .int .i64 hi ∧ (lo ≤ c ∧ c ≤ hi) ∧ hi ≤ n ∧ New w wr) (fun s5 s6 _ => (intOf s6).toNat - (intOf s5).toNat)
  case atStart => exact ⟨0, n, rfl, rfl, ⟨Nat.zero_le _, hc⟩, Nat.le_refl _, New.refl _⟩
  case round =>
    obtain ⟨lo, hi, rfl, rfl, ⟨hlo, hhi⟩, hin, hnew⟩ := hrel
    have HNEW := Lib.hid hnew
    clear hnew
    by_cases hlt : lo < hi
    · obtain ⟨_, hbb, hcc⟩ := HW.out.new HNEW.out
      obtain ⟨v, ⟨x1, x2⟩, x3, _⟩ := hcc ((lo + hi) / 2) (by omega)
      have hlo2 := HLO.out ((lo + hi) / 2)
      have hhi2 := fun h => HHI.out ((lo + hi) / 2) h (by omega)
      have hq1 : (((lo : Int) + (hi : Int)) / 2).toNat = (lo + hi) / 2 := by omega
      have hq2 : (0 : Int) ≤ ((lo : Int) + (hi : Int)) / 2 := by omega
      have hq3 : ((lo : Int) + (hi : Int)) / 2 < (n : Int) := by omega
      clear hcc
      generalize sF C ((lo + hi) / 2) = F at *
      generalize sT C ((lo + hi) / 2) = T at *
      by_cases ht : T < x
      · have hcc : (lo + hi) / 2 < c := by
          rcases Nat.lt_or_ge ((lo + hi) / 2) c with g | g
          · exact g
          · have := hhi2 g; omega
        have HC := Lib.hid (fun w1 : World => HC1.out F T v w1)
        rw [show cmpI T x = -1 by unfold cmpI; rw [if_pos ht]] at HC
        clear hlo2 hhi2
        go_wp2_with (go_at_call 186; refine (HC.out _).mono ?_; rintro e w1 ⟨rfl, pw, rfl⟩)
        go_roundw
        case rel => exact ⟨(lo + hi) / 2 + 1, hi, by go_num, rfl, ⟨by omega, hhi⟩, hin, (by (repeat (first | exact HNEW.out | exact New.refl _ | apply New.alloc | apply New.aft | apply New.drew | refine New.setCell ?_ ?_ _)); all_goals (first | done | (simp [size_aft]; done) | (simp [size_aft]; omega)))⟩
        case measure => simp [intOf]; omega
      · have hcc : c ≤ (lo + hi) / 2 := by
          rcases Nat.lt_or_ge ((lo + hi) / 2) c with g | g
          · exact absurd (hlo2 g) ht
          · exact g
        have HC := Lib.hid (fun w1 : World => HC1.out F T v w1)
        have hcm : ¬ cmpI T x < 0 := by unfold cmpI; rw [if_neg ht]; split <;> omega
        generalize cmpI T x = K at *
        clear hlo2 hhi2
        go_wp2_with (go_at_call 186; refine (HC.out _).mono ?_; rintro e w1 ⟨rfl, pw, rfl⟩)
        go_roundw
        case rel => exact ⟨lo, (lo + hi) / 2, rfl, by go_num, ⟨hlo, hcc⟩, by omega, (by (repeat (first | exact HNEW.out | exact New.refl _ | apply New.alloc | apply New.aft | apply New.drew | refine New.setCell ?_ ?_ _)); all_goals (first | done | (simp [size_aft]; done) | (simp [size_aft]; omega)))⟩
        case measure => simp [intOf]; omega
    · obtain rfl : lo = c := by omega
      by_cases hcn : lo < n
      · obtain ⟨_, hbb, hcc⟩ := HW.out.new HNEW.out
        obtain ⟨v, ⟨x1, x2⟩, x3, _⟩ := hcc lo hcn
        have hk1 : (lo : Int) < (n : Int) := by omega
        have HD := Lib.hid (show decide (lo < n) = true by simpa using hcn)
        clear hcc
        generalize sF C lo = F at *
        generalize hT : sT C lo = T at *
        have HTT := Lib.hid hT
        clear hT
        have HC := Lib.hid (fun w1 : World => HC1.out F T v w1)
        have HEQ := Lib.hid (show (cmpI T x == 0) = (T == x) by
          unfold cmpI
          by_cases g : T < x
          · rw [if_pos g]
            have : (T == x) = false := by simp; omega
            rw [this]; rfl
          · rw [if_neg g]
            by_cases g2 : x < T
            · rw [if_pos g2]
              have : (T == x) = false := by simp; omega
              rw [this]; rfl
            · rw [if_neg g2]
              have : (T == x) = true := by simp; omega
              rw [this]; rfl)
        generalize cmpI T x = K at *
        go_wp2_with (go_at_call 186; refine (HC.out _).mono ?_; rintro e w1 ⟨rfl, pw, rfl⟩)
        go_ret2
        exact ⟨by first | (rw [HD.out, HTT.out, ← HEQ.out]; rfl) | (rw [HTT.out, ← HEQ.out]; rfl), (by (repeat (first | exact HNEW.out | exact New.refl _ | apply New.alloc | apply New.aft | apply New.drew | refine New.setCell ?_ ?_ _)); all_goals (first | done | (simp [size_aft]; done) | (simp [size_aft]; omega)))⟩
      · have hk1 : ¬ (lo : Int) < (n : Int) := by omega
        have HD := Lib.hid (show decide (lo < n) = false by simpa using hcn)
        go_wp2_with fail
        go_ret2
        exact ⟨by first | rfl | (rw [HD.out]; rfl), (by (repeat (first | exact HNEW.out | exact New.refl _ | apply New.alloc | apply New.aft | apply New.drew | refine New.setCell ?_ ?_ _)); all_goals (first | done | (simp [size_aft]; done) | (simp [size_aft]; omega)))⟩

end Go.Proofs.YtpdfbboagaflhaaGreat

set_option linter.unusedSimpArgs false
set_option linter.unusedVariables false
set_option maxRecDepth 100000
namespace Go.Proofs.YtpdfbboagaflhaaGreat
open Go.RowKit

/-- what the closures find: the boxes of the segments, of the strip's numbers, of the vertical segment, and of the closure y -/
structure YEnv (w : World) (BL BS BV BY b off n c b2 off2 m c2 : Nat) (l : List S4) (L : List Int) (v1 v2 : Int) : Prop where
  bl : BL < w.heap.size ∧ w.cell? ⟨BL, 0, none⟩ = some (.slice (some ⟨b, off, none⟩) n c)
  bs : BS < w.heap.size ∧ w.cell? ⟨BS, 0, none⟩ = some (.slice (some ⟨b2, off2, none⟩) m c2)
  bv : BV < w.heap.size ∧ w.cell? ⟨BV, 0, none⟩ = some (.int .i64 v1) ∧ w.cell? ⟨BV, 1, none⟩ = some (.int .i64 v2)
  bY : BY < w.heap.size ∧ w.cell? ⟨BY, 0, none⟩ = some (.func (.func 187) #[] #[.pointer (some ⟨BL, 0, none⟩), .pointer (some ⟨BS, 0, none⟩), .pointer (some ⟨BV, 0, none⟩)])
  sg : Segs w b off n l
  it : Ints w b2 off2 m L
  ix : Idx L n
  ok : okSegs l = true
  x1 : 0 ≤ v1 ∧ v1 ≤ 10000
  x2 : 0 ≤ v2 ∧ v2 ≤ 10000
theorem YEnv.new {w w1 : World} {BL BS BV BY b off n c b2 off2 m c2 : Nat} {l : List S4} {L : List Int} {v1 v2 : Int} (h : YEnv w BL BS BV BY b off n c b2 off2 m c2 l L v1 v2) (hn : New w w1) : YEnv w1 BL BS BV BY b off n c b2 off2 m c2 l L v1 v2 :=
  ⟨⟨Nat.lt_of_lt_of_le h.bl.1 hn.size, (hn.cell h.bl.1).trans h.bl.2⟩, ⟨Nat.lt_of_lt_of_le h.bs.1 hn.size, (hn.cell h.bs.1).trans h.bs.2⟩, ⟨Nat.lt_of_lt_of_le h.bv.1 hn.size, (hn.cell h.bv.1).trans h.bv.2.1, (hn.cell h.bv.1).trans h.bv.2.2⟩, ⟨Nat.lt_of_lt_of_le h.bY.1 hn.size, (hn.cell h.bY.1).trans h.bY.2⟩, h.sg.new hn, h.it.new hn, h.ix, h.ok, h.x1, h.x2⟩

set_option maxHeartbeats 8000000 in
theorem y_c (BL BS BV BY b off n c b2 off2 m c2 i : Nat) (l : List S4) (L : List Int) (v1 v2 : Int) (w : World) (h : YEnv w BL BS BV BY b off n c b2 off2 m c2 l L v1 v2) (hi : i < m) (hm : m ≤ 1000000) :
    Calls Tryz.prog 187 #[.int .i64 i, .pointer (some ⟨BL, 0, none⟩), .pointer (some ⟨BS, 0, none⟩), .pointer (some ⟨BV, 0, none⟩)] w fun e w' => e = .returned (pv (hA l L (2 * v1) i) (hD l L i)) ∧ New w w' := by
  obtain ⟨bl1, bl2⟩ := h.bl
  obtain ⟨bs1, bs2⟩ := h.bs
  obtain ⟨bv1, bv2, _⟩ := h.bv
  have hx := h.x1
  obtain ⟨il, ib, ic⟩ := h.it
  have i1 := ic i hi
  obtain ⟨j0, j1⟩ := h.ix i (by omega)
  obtain ⟨sl, sb, sc⟩ := h.sg
  obtain ⟨c1, c2', c3, c4⟩ := sc (L.getD i 0).toNat (by omega)
  obtain ⟨⟨o1, o2⟩, ⟨o3, o4⟩, _⟩ := okS_iff.1 (okSegs_at l (L.getD i 0).toNat (by omega) h.ok)
  have HH := Lib.hid (fun w1 : World => heightAt_c (q1 l (L.getD i 0).toNat) (q2 l (L.getD i 0).toNat) (q3 l (L.getD i 0).toNat) (q4 l (L.getD i 0).toNat) (2 * v1) w1 o1 o2 o3 o4 (by omega))
  have HA := Lib.hid (show hA l L (2 * v1) i = hN (q1 l (L.getD i 0).toNat) (q2 l (L.getD i 0).toNat) (q3 l (L.getD i 0).toNat) (q4 l (L.getD i 0).toNat) (2 * v1) from rfl)
  have HD := Lib.hid (show hD l L i = hW (q1 l (L.getD i 0).toNat) (q2 l (L.getD i 0).toNat) (q3 l (L.getD i 0).toNat) (q4 l (L.getD i 0).toNat) from rfl)
  rw [HA.out, HD.out]
  clear HA HD ic sc h
  generalize L.getD i 0 = J at *
  generalize hN (q1 l J.toNat) (q2 l J.toNat) (q3 l J.toNat) (q4 l J.toNat) (2 * v1) = NN at *
  generalize hW (q1 l J.toNat) (q2 l J.toNat) (q3 l J.toNat) (q4 l J.toNat) = DD at *
  generalize q1 l J.toNat = A at *
  generalize q2 l J.toNat = B at *
  generalize q3 l J.toNat = C at *
  generalize q4 l J.toNat = D at *
  have wf : IntKind.i64.wrap (2 * v1) = 2 * v1 := IntWalk.i64_in _ (by omega)
  have hi1 : (i : Int) < (m : Int) := by omega
  have s1 : BL < w.heap.size + 1 := by omega
  have s2 : BS < w.heap.size + 1 := by omega
  have s3 : BV < w.heap.size + 1 := by omega
  have s4 : b < w.heap.size + 1 := by omega
  have s5 : b2 < w.heap.size + 1 := by omega
  go_enter Tryz.func187, Tryz.ntmps187
  go_wp2_with fail
  go_region_held3 (fun w' => w'.cell? ⟨BL, 0, none⟩ = some (.slice (some ⟨b, off, none⟩) n c) ∧ w'.cell? ⟨BS, 0, none⟩ = some (.slice (some ⟨b2, off2, none⟩) m c2) ∧ w'.cell? ⟨BV, 0, none⟩ = some (.int .i64 v1) ∧ w'.cell? ⟨b2, off2 + i, none⟩ = some (.int .i64 J) ∧ w'.cell? ⟨b, off + J.toNat * 4, none⟩ = some (.int .i64 A) ∧ w'.cell? ⟨b, off + J.toNat * 4 + 1, none⟩ = some (.int .i64 B) ∧ w'.cell? ⟨b, off + J.toNat * 4 + 2, none⟩ = some (.int .i64 C) ∧ w'.cell? ⟨b, off + J.toNat * 4 + 3, none⟩ = some (.int .i64 D)) (first | (simp [go_sem, bl2, bs2, bv2, i1, c1, c2', c3, c4, s1, s2, s3, s4, s5, bl1, bs1, bv1, sb, ib]; done) | (go_keep; done)) (first | (go_at_call 99; refine (HH.out _).mono ?_; rintro e w1 ⟨rfl, pw, rfl⟩))
  all_goals (go_wp2_with fail)
  all_goals (refine bodyPost_ret (v := pv NN DD) (by simp [results, Tryz.results187, go_sem]) rfl ⟨rfl, ?_⟩; exact (by (repeat (first | exact New.refl _ | apply New.alloc | apply New.aft | apply New.drew | refine New.setCell ?_ ?_ _)); all_goals (first | done | (simp [size_aft]; done) | (simp [size_aft]; omega))))

def pastB (l : List S4) (L : List Int) (v1 y : Int) (i : Nat) : Int := cmpR (hA l L (2 * v1) i) (hD l L i) y 1
set_option maxHeartbeats 8000000 in
theorem past_c (BL BS BV BY b off n c b2 off2 m c2 i : Nat) (l : List S4) (L : List Int) (v1 v2 : Int) (w : World) (h : YEnv w BL BS BV BY b off n c b2 off2 m c2 l L v1 v2) (hi : i < m) (hm : m ≤ 1000000) :
    Calls Tryz.prog 189 #[.int .i64 i, .pointer (some ⟨BY, 0, none⟩), .pointer (some ⟨BV, 0, none⟩)] w fun e w' => e = .returned (.bool (decide (0 < pastB l L v1 v2 i))) ∧ New w w' := by
  have HY := Lib.hid (fun (w1 : World) (h1 : New w w1) => y_c BL BS BV BY b off n c b2 off2 m c2 i l L v1 v2 w1 (h.new h1) hi hm)
  obtain ⟨bv1, _, bv2⟩ := h.bv
  obtain ⟨by1, by2⟩ := h.bY
  have hb := hd_bd (x := 2 * v1) h.sg.1 h.ok h.ix (by have := h.x1; omega) i (by have := h.it.1; omega)
  have hx2 := h.x2
  have HC := Lib.hid (fun w1 : World => rcompare_c (hA l L (2 * v1) i) (hD l L i) v2 1 w1 hb.1 hb.2 (by omega) (by omega))
  unfold pastB
  generalize cmpR (hA l L (2 * v1) i) (hD l L i) v2 1 = K at *
  generalize hA l L (2 * v1) i = NN at *
  generalize hD l L i = DD at *
  clear h
  go_enter Tryz.func189, Tryz.ntmps189
  go_wp2_with fail
  first | refine wp_region_at2 (by kernel_rfl) (by kernel_rfl) ?_ | refine wp_region_at (by kernel_rfl) (by kernel_rfl) ?_
  repeat (go_big_quiet_step (first | (go_at_call 187; exact calls_new (HY.out _ ((New.refl _).aft _ _))) | (go_at_call 100; exact calls_new (HC.out _))))
  refine wpQuiet_nil ?_
  rintro _ ⟨q0, rfl⟩
  go_wp2_with fail
  go_ret
  exact ⟨rfl, (by (repeat (first | exact New.refl _ | apply New.alloc | apply New.aft | apply New.drew | refine New.setCell ?_ ?_ _)); all_goals (first | done | (simp [size_aft]; done) | (simp [size_aft]; omega)))⟩

end Go.Proofs.YtpdfbboagaflhaaGreat

set_option linter.unusedSimpArgs false
set_option linter.unusedVariables false
set_option maxRecDepth 100000
namespace Go.Proofs.YtpdfbboagaflhaaGreat
open Go.RowKit

set_option maxHeartbeats 2000000 in
theorem bsearch_nil (cv : Option Addr) (cap : Nat) (x : Int) (fv : Value) (w : World) :
    Calls Tryz.prog 185 #[.slice cv 0 cap, .int .i64 x, fv] w fun e w' => e = .returned (.tuple #[.int .i64 0, .bool false]) ∧ New w w' := by
  go_enter Tryz.func185, Tryz.ntmps185
  go_wp2_with fail
  go_loopw [9, 10] (fun s5 s6 wr => (s5 = .int .i64 0 ∧ s6 = .int .i64 0) ∧ New w wr) (fun _ _ _ => 0)
  case atStart => exact ⟨⟨rfl, rfl⟩, New.refl _⟩
  case round =>
    obtain ⟨⟨rfl, rfl⟩, hn⟩ := hrel
    go_wp2_with fail
    go_ret2
    exact ⟨rfl, hn⟩

set_option maxHeartbeats 4000000 in
/-- where no strip ends at the vertical one -/
theorem crossed_no (A cv : Option Addr) (n c m cc k : Nat) (v1 v2 v3 v4 : Int) (w : World)
    (HB : Hid (∀ w1 : World, New w w1 → Calls Tryz.prog 185 #[.slice cv m cc, .int .i64 v1, .func (.func 186) #[] #[]] w1 fun e w' => e = .returned (.tuple #[.int .i64 k, .bool false]) ∧ New w1 w')) :
    Calls Tryz.prog 155 #[.slice A n c, .slice cv m cc, sv v1 v2 v3 v4] w fun e w' => e = .returned (.bool false) ∧ New w w' := by
  go_enter Tryz.func155, Tryz.ntmps155
  go_wp2_with (go_at_call 185; refine (HB.out _ (by (repeat (first | exact New.refl _ | apply New.alloc | apply New.aft | apply New.drew | refine New.setCell ?_ ?_ _)); all_goals (first | done | (simp [size_aft]; done) | (simp [size_aft]; omega)))).mono ?_; rintro e w1 ⟨rfl, pw, rfl⟩)
  all_goals (go_ret; exact ⟨rfl, (by (repeat (first | exact New.refl _ | apply New.alloc | apply New.aft | apply New.drew | refine New.setCell ?_ ?_ _)); all_goals (first | done | (simp [size_aft]; done) | (simp [size_aft]; omega)))⟩)

set_option maxHeartbeats 16000000 in
theorem crossed_yes (b off n c cb co m cc k s : Nat) (l : List S4) (C : List SV) (v1 v2 v3 v4 : Int) (w : World) (hm : m ≤ 1000000) (hw : Segs w b off n l) (hok : okSegs l = true) (hC : Strps w cb co m C) (hk : k < m)
    (hx1 : 0 ≤ v1 ∧ v1 ≤ 10000) (hx2 : 0 ≤ v2 ∧ v2 ≤ 10000) (hx4 : 0 ≤ v4 ∧ v4 ≤ 10000) (hlen : (sL C k).length ≤ 1000000) (hix : Idx (sL C k) n)
    (hs : s ≤ (sL C k).length) (hp : ∀ i, i < (sL C k).length → decide (0 < pastB l (sL C k) v1 v2 i) = decide (s ≤ i)) (r : Bool)
    (hr : r = true ↔ ∃ i, s ≤ i ∧ i < (sL C k).length ∧ (∀ j, s ≤ j → j ≤ i → pastB l (sL C k) v1 v4 j < 0) ∧ freeAt l (sL C k) v1 i = true)
    (HB : Hid (∀ w1 : World, New w w1 → Calls Tryz.prog 185 #[.slice (some ⟨cb, co, none⟩) m cc, .int .i64 v1, .func (.func 186) #[] #[]] w1 fun e w' => e = .returned (.tuple #[.int .i64 k, .bool true]) ∧ New w1 w')) :
    Calls Tryz.prog 155 #[.slice (some ⟨b, off, none⟩) n c, .slice (some ⟨cb, co, none⟩) m cc, sv v1 v2 v3 v4] w fun e w' => e = .returned (.bool r) ∧ New w w' := by
  have hmf : ∀ (fn : Fn) (first cap : Array Value) (w : World), (Instr.makeFunc fn first cap).run Tryz.prog w = .ok (.func fn first cap) w := fun _ _ _ _ => rfl
  have HC := Lib.hid hC
  have HR := Lib.hid hr
  have hk1 : (k : Int) < (m : Int) := by omega
  have HW := Lib.hid hw
  have hcbl := hC.2.1
  obtain ⟨vv, _, hv3, av, c2, hvv, hvi⟩ := hC.2.2 k hk
  subst hvv
  generalize sL C k = L at *
  generalize hq : L.length = q at *
  have HQ := Lib.hid hq
  clear hC hr hw
  by_cases h0 : 0 < q
  · obtain ⟨b2, off2, rfl, hit⟩ := hvi h0
    have HENV := Lib.hid (show ∀ w2 : World, New ((w.alloc (.cells #[.slice (some ⟨b, off, none⟩) n c] 58)).alloc (.cells #[.int .i64 v1, .int .i64 v2, .int .i64 v3, .int .i64 v4] 30)) w2 →
        YEnv ((w2.alloc (.cells #[.slice (some ⟨b2, off2, none⟩) q c2] 82)).alloc (.cells #[.func (.func 187) #[] #[.pointer (some ⟨w.heap.size, 0, none⟩), .pointer (some ⟨w2.heap.size, 0, none⟩), .pointer (some ⟨w.heap.size + 1, 0, none⟩)]] 172)) w.heap.size w2.heap.size (w.heap.size + 1) (w2.heap.size + 1) b off n c b2 off2 q c2 l L v1 v2 from fun w2 h2 => by
      have hsz := h2.size
      simp only [World.size_alloc] at hsz
      have hnn : New w ((w2.alloc (.cells #[.slice (some ⟨b2, off2, none⟩) q c2] 82)).alloc (.cells #[.func (.func 187) #[] #[.pointer (some ⟨w.heap.size, 0, none⟩), .pointer (some ⟨w2.heap.size, 0, none⟩), .pointer (some ⟨w.heap.size + 1, 0, none⟩)]] 172)) := ((((New.refl w).alloc _).alloc _).trans h2).alloc _ |>.alloc _
      have hn2 : New ((w.alloc (.cells #[.slice (some ⟨b, off, none⟩) n c] 58)).alloc (.cells #[.int .i64 v1, .int .i64 v2, .int .i64 v3, .int .i64 v4] 30)) ((w2.alloc (.cells #[.slice (some ⟨b2, off2, none⟩) q c2] 82)).alloc (.cells #[.func (.func 187) #[] #[.pointer (some ⟨w.heap.size, 0, none⟩), .pointer (some ⟨w2.heap.size, 0, none⟩), .pointer (some ⟨w.heap.size + 1, 0, none⟩)]] 172)) := (h2.alloc _).alloc _
      refine ⟨⟨by simp; omega, ?_⟩, ⟨by simp; omega, ?_⟩, ⟨by simp; omega, ?_, ?_⟩, ⟨by simp, ?_⟩, HW.out.new hnn, hit.new hnn, hix, hok, hx1, hx2⟩
      · rw [hn2.cell (by simp; omega)]; simp [go_sem]
      · simp [go_sem]
      · rw [hn2.cell (by simp)]; simp [go_sem]
      · rw [hn2.cell (by simp)]; simp [go_sem]
      · simp [go_sem])
    have HCB := Lib.hid (show ∀ w2 : World, New ((w.alloc (.cells #[.slice (some ⟨b, off, none⟩) n c] 58)).alloc (.cells #[.int .i64 v1, .int .i64 v2, .int .i64 v3, .int .i64 v4] 30)) w2 → w2.cell? ⟨cb, co + k * 3 + 2, none⟩ = some (.slice (some ⟨b2, off2, none⟩) q c2) ∧ cb < w2.heap.size ∧ w.heap.size + 2 ≤ w2.heap.size from fun w2 h2 => by
      have hsz := h2.size
      simp only [World.size_alloc] at hsz
      have h3 : New w w2 := (((New.refl w).alloc _).alloc _).trans h2
      exact ⟨(h3.cell hcbl).trans hv3, by omega, by omega⟩)
    have HSE := Lib.hid (fun (BL BS BV BY : Nat) (w1 : World) (he : YEnv w1 BL BS BV BY b off n c b2 off2 q c2 l L v1 v2) => search_c q s (fun i => decide (0 < pastB l L v1 v2 i)) (.pointer (some ⟨BY, 0, none⟩)) (.pointer (some ⟨BV, 0, none⟩)) w1 hlen hs (fun i hi => hp i hi) (Lib.hid (fun w2 h2 i hi => past_c BL BS BV BY b off n c b2 off2 q c2 i l L v1 v2 w2 (he.new h2) hi hlen)))
    clear hp hit hvi
    go_enter Tryz.func155, Tryz.ntmps155
    go_wp2_with (first | (go_at_call 185; refine (HB.out _ (by (repeat (first | exact New.refl _ | apply New.alloc | apply New.aft | apply New.drew | refine New.setCell ?_ ?_ _)); all_goals (first | done | (simp [size_aft]; done) | (simp [size_aft]; omega)))).mono ?_; rintro e w2 ⟨rfl, hn2⟩; have HN2 := Lib.hid hn2; obtain ⟨cv1, hcb2, hsz2⟩ := HCB.out w2 hn2; have HEV := Lib.hid (HENV.out w2 hn2); clear hn2) | (go_at_call 188; refine (HSE.out _ _ _ _ _ HEV.out).mono ?_; rintro e w3 ⟨rfl, hn3⟩; have HN3 := Lib.hid hn3; clear hn3))
    have HE3 := Lib.hid (HEV.out.new HN3.out)
    have HNW3 := Lib.hid (show New w w3 from ((((New.refl w).alloc _).alloc _).trans HN2.out |>.alloc _ |>.alloc _).trans HN3.out)
    have HV4 := Lib.hid (show w3.cell? ⟨w.heap.size + 1, 3, none⟩ = some (.int .i64 v4) from by
      have e4 : w2.cell? ⟨w.heap.size + 1, 3, none⟩ = some (.int .i64 v4) := by rw [HN2.out.cell (by simp)]; simp [go_sem]
      have e1 : w.heap.size + 1 < w2.heap.size := by omega
      have e2 : w.heap.size + 1 < w2.heap.size + 1 := by omega
      rw [HN3.out.cell (by simp; omega)]
      simp [go_sem, e1, e2, e4])
    clear HSE HENV HCB cv1
    go_loopw [12] (fun i wr => ∃ k2 : Nat, (s ≤ k2 ∧ k2 ≤ q) ∧ i = .int .i64 k2 ∧ (∀ j, s ≤ j → j < k2 → pastB l L v1 v4 j < 0 ∧ freeAt l L v1 j = false) ∧ New w3 wr) (fun i _ => q - (intOf i).toNat)
    case atStart => exact ⟨s, ⟨Nat.le_refl _, hs⟩, rfl, fun j h1 h2 => by omega, New.refl _⟩
    case round =>
      obtain ⟨k2, ⟨hk2, hk3⟩, rfl, hall, hnew⟩ := hrel
      have HALL := Lib.hid hall
      have HNEW := Lib.hid hnew
      have HNW := Lib.hid (HNW3.out.trans hnew)
      have HEW := Lib.hid (HE3.out.new hnew)
      have cw4 : wr.cell? ⟨w.heap.size + 1, 3, none⟩ = some (.int .i64 v4) := (hnew.cell HE3.out.bv.1).trans HV4.out
      clear hall hnew
      obtain ⟨bl1, bl2⟩ := HEW.out.bl
      obtain ⟨bs1, bs2⟩ := HEW.out.bs
      obtain ⟨bv1, bv2, bv3⟩ := HEW.out.bv
      obtain ⟨by1, by2⟩ := HEW.out.bY
      by_cases hlt : k2 < q
      · have HY := Lib.hid (fun (w1 : World) (h1 : New wr w1) => y_c w.heap.size w2.heap.size (w.heap.size + 1) (w2.heap.size + 1) b off n c b2 off2 q c2 k2 l L v1 v2 w1 (HEW.out.new h1) hlt hlen)
        have hb := hd_bd (x := 2 * v1) HEW.out.sg.1 hok hix (by omega) k2 (by rw [HQ.out]; exact hlt)
        have HCM := Lib.hid (fun w1 : World => rcompare_c (hA l L (2 * v1) k2) (hD l L k2) v4 1 w1 hb.1 hb.2 (by omega) (by omega))
        have HPB := Lib.hid (show pastB l L v1 v4 k2 = cmpR (hA l L (2 * v1) k2) (hD l L k2) v4 1 from rfl)
        have hk4 : (k2 : Int) < (q : Int) := by omega
        obtain ⟨ia, ib, ic⟩ := HEW.out.it
        have i1 := ic k2 hlt
        obtain ⟨sa, sb, sc⟩ := HEW.out.sg
        obtain ⟨j0, j1⟩ := hix k2 (by rw [HQ.out]; exact hlt)
        obtain ⟨d1, d2, d3, d4⟩ := sc (L.getD k2 0).toNat (by omega)
        have HFA := Lib.hid (show freeAt l L v1 k2 = (!(q1 l (L.getD k2 0).toNat == v1) && !(q3 l (L.getD k2 0).toNat == v1)) from rfl)
        clear ia ic sa sc
        generalize cmpR (hA l L (2 * v1) k2) (hD l L k2) v4 1 = K at *
        generalize hA l L (2 * v1) k2 = NN at *
        generalize hD l L k2 = DD at *
        generalize L.getD k2 0 = J at *
        generalize q1 l J.toNat = A at *
        generalize q2 l J.toNat = B at *
        generalize q3 l J.toNat = C0 at *
        generalize q4 l J.toNat = D at *
        by_cases hK : K < 0
        · by_cases u1 : A = v1
          · have HF := Lib.hid (show freeAt l L v1 k2 = false by rw [HFA.out]; simp [u1])
            go_wp2_with fail
            first | refine wp_region_at2 (by kernel_rfl) (by kernel_rfl) ?_ | refine wp_region_at (by kernel_rfl) (by kernel_rfl) ?_
            repeat (go_big_quiet_step (first | (go_at_call 187; exact calls_new (HY.out _ ((New.refl _).aft _ _))) | (go_at_call 100; exact calls_new (HCM.out _))))
            refine wpQuiet_nil ?_
            rintro _ ⟨q0, rfl⟩
            have e1 : w.heap.size < wr.heap.size + q0.os.size := by omega
            have e2 : w2.heap.size < wr.heap.size + q0.os.size := by omega
            have e3 : w.heap.size + 1 < wr.heap.size + q0.os.size := by omega
            have e4 : b2 < wr.heap.size + q0.os.size := by omega
            have e5 : b < wr.heap.size + q0.os.size := by omega
            have e6 : w.heap.size + 1 < wr.heap.size + q0.os.size + 1 := by omega
            go_wp2_with fail
            go_region_held3 (fun w' => w'.cell? ⟨w.heap.size, 0, none⟩ = some (.slice (some ⟨b, off, none⟩) n c) ∧ w'.cell? ⟨w2.heap.size, 0, none⟩ = some (.slice (some ⟨b2, off2, none⟩) q c2) ∧ w'.cell? ⟨b2, off2 + k2, none⟩ = some (.int .i64 J) ∧ w'.cell? ⟨b, off + J.toNat * 4, none⟩ = some (.int .i64 A) ∧ w'.cell? ⟨b, off + J.toNat * 4 + 1, none⟩ = some (.int .i64 B) ∧ w'.cell? ⟨b, off + J.toNat * 4 + 2, none⟩ = some (.int .i64 C0) ∧ w'.cell? ⟨b, off + J.toNat * 4 + 3, none⟩ = some (.int .i64 D)) (first | (simp [go_sem, bl2, bs2, i1, d1, d2, d3, d4, e1, e2, e3, e4, e5, bl1, bs1, sb, ib]; done) | (go_keep; done)) (first | fail)
            all_goals (go_wp2_with fail)
            all_goals go_roundw
            all_goals first
              | exact ⟨k2 + 1, ⟨by omega, by omega⟩, by go_num, fun j h1 h2 => (by
                  rcases Nat.lt_or_ge j k2 with g | g
                  · exact HALL.out j h1 g
                  · obtain rfl : j = k2 := by omega
                    exact ⟨by rw [HPB.out]; exact hK, HF.out⟩), (by (repeat (first | exact HNEW.out | exact New.refl _ | apply New.alloc | apply New.aft | apply New.drew | refine New.setCell ?_ ?_ _)); all_goals (first | done | (simp [size_aft]; done) | (simp [size_aft]; omega)))⟩
              | (simp [intOf]; omega)
          · have z1 : (A == v1) = false := by simpa using u1
            have z2 : (A != v1) = true := by simpa using u1
            by_cases u2 : C0 = v1
            · have HF := Lib.hid (show freeAt l L v1 k2 = false by rw [HFA.out]; simp [u2])
              go_wp2_with fail
              first | refine wp_region_at2 (by kernel_rfl) (by kernel_rfl) ?_ | refine wp_region_at (by kernel_rfl) (by kernel_rfl) ?_
              repeat (go_big_quiet_step (first | (go_at_call 187; exact calls_new (HY.out _ ((New.refl _).aft _ _))) | (go_at_call 100; exact calls_new (HCM.out _))))
              refine wpQuiet_nil ?_
              rintro _ ⟨q0, rfl⟩
              have e1 : w.heap.size < wr.heap.size + q0.os.size := by omega
              have e2 : w2.heap.size < wr.heap.size + q0.os.size := by omega
              have e3 : w.heap.size + 1 < wr.heap.size + q0.os.size := by omega
              have e4 : b2 < wr.heap.size + q0.os.size := by omega
              have e5 : b < wr.heap.size + q0.os.size := by omega
              have e6 : w.heap.size + 1 < wr.heap.size + q0.os.size + 1 := by omega
              go_wp2_with fail
              go_region_held3 (fun w' => w'.cell? ⟨w.heap.size, 0, none⟩ = some (.slice (some ⟨b, off, none⟩) n c) ∧ w'.cell? ⟨w2.heap.size, 0, none⟩ = some (.slice (some ⟨b2, off2, none⟩) q c2) ∧ w'.cell? ⟨b2, off2 + k2, none⟩ = some (.int .i64 J) ∧ w'.cell? ⟨b, off + J.toNat * 4, none⟩ = some (.int .i64 A) ∧ w'.cell? ⟨b, off + J.toNat * 4 + 1, none⟩ = some (.int .i64 B) ∧ w'.cell? ⟨b, off + J.toNat * 4 + 2, none⟩ = some (.int .i64 C0) ∧ w'.cell? ⟨b, off + J.toNat * 4 + 3, none⟩ = some (.int .i64 D)) (first | (simp [go_sem, bl2, bs2, i1, d1, d2, d3, d4, e1, e2, e3, e4, e5, bl1, bs1, sb, ib]; done) | (go_keep; done)) (first | fail)
              all_goals (go_wp2_with fail)
              all_goals go_roundw
              all_goals first
                | exact ⟨k2 + 1, ⟨by omega, by omega⟩, by go_num, fun j h1 h2 => (by
                    rcases Nat.lt_or_ge j k2 with g | g
                    · exact HALL.out j h1 g
                    · obtain rfl : j = k2 := by omega
                      exact ⟨by rw [HPB.out]; exact hK, HF.out⟩), (by (repeat (first | exact HNEW.out | exact New.refl _ | apply New.alloc | apply New.aft | apply New.drew | refine New.setCell ?_ ?_ _)); all_goals (first | done | (simp [size_aft]; done) | (simp [size_aft]; omega)))⟩
                | (simp [intOf]; omega)
            · have z3 : (C0 == v1) = false := by simpa using u2
              have z4 : (C0 != v1) = true := by simpa using u2
              have HRT := Lib.hid (show r = true from HR.out.2 ⟨k2, hk2, hlt, fun j h1 h2 => by
                rcases Nat.lt_or_ge j k2 with g | g
                · exact (HALL.out j h1 g).1
                · obtain rfl : j = k2 := by omega
                  rw [HPB.out]; exact hK, by rw [HFA.out]; simp [u1, u2]⟩)
              go_wp2_with fail
              first | refine wp_region_at2 (by kernel_rfl) (by kernel_rfl) ?_ | refine wp_region_at (by kernel_rfl) (by kernel_rfl) ?_
              repeat (go_big_quiet_step (first | (go_at_call 187; exact calls_new (HY.out _ ((New.refl _).aft _ _))) | (go_at_call 100; exact calls_new (HCM.out _))))
              refine wpQuiet_nil ?_
              rintro _ ⟨q0, rfl⟩
              have e1 : w.heap.size < wr.heap.size + q0.os.size := by omega
              have e2 : w2.heap.size < wr.heap.size + q0.os.size := by omega
              have e3 : w.heap.size + 1 < wr.heap.size + q0.os.size := by omega
              have e4 : b2 < wr.heap.size + q0.os.size := by omega
              have e5 : b < wr.heap.size + q0.os.size := by omega
              have e6 : w.heap.size + 1 < wr.heap.size + q0.os.size + 1 := by omega
              go_wp2_with fail
              go_region_held3 (fun w' => w'.cell? ⟨w.heap.size, 0, none⟩ = some (.slice (some ⟨b, off, none⟩) n c) ∧ w'.cell? ⟨w2.heap.size, 0, none⟩ = some (.slice (some ⟨b2, off2, none⟩) q c2) ∧ w'.cell? ⟨b2, off2 + k2, none⟩ = some (.int .i64 J) ∧ w'.cell? ⟨b, off + J.toNat * 4, none⟩ = some (.int .i64 A) ∧ w'.cell? ⟨b, off + J.toNat * 4 + 1, none⟩ = some (.int .i64 B) ∧ w'.cell? ⟨b, off + J.toNat * 4 + 2, none⟩ = some (.int .i64 C0) ∧ w'.cell? ⟨b, off + J.toNat * 4 + 3, none⟩ = some (.int .i64 D)) (first | (simp [go_sem, bl2, bs2, i1, d1, d2, d3, d4, e1, e2, e3, e4, e5, bl1, bs1, sb, ib]; done) | (go_keep; done)) (first | fail)
              all_goals (go_wp2_with fail)
              all_goals go_ret
              all_goals exact ⟨ret_bool HRT.out.symm, (by (repeat (first | exact HNW.out | exact New.refl _ | apply New.alloc | apply New.aft | apply New.drew | refine New.setCell ?_ ?_ _)); all_goals (first | done | (simp [size_aft]; done) | (simp [size_aft]; omega)))⟩
        · have HRF := Lib.hid (show r = false by
            cases hh : r
            · rfl
            · obtain ⟨i, h1, h2, h3, h4⟩ := HR.out.1 hh
              rcases Nat.lt_or_ge i k2 with g | g
              · rw [(HALL.out i h1 g).2] at h4; cases h4
              · have := h3 k2 hk2 g; rw [HPB.out] at this; exact absurd this hK)
          go_wp2_with fail
          first | refine wp_region_at2 (by kernel_rfl) (by kernel_rfl) ?_ | refine wp_region_at (by kernel_rfl) (by kernel_rfl) ?_
          repeat (go_big_quiet_step (first | (go_at_call 187; exact calls_new (HY.out _ ((New.refl _).aft _ _))) | (go_at_call 100; exact calls_new (HCM.out _))))
          refine wpQuiet_nil ?_
          rintro _ ⟨q0, rfl⟩
          go_wp2_with fail
          go_ret
          exact ⟨ret_bool HRF.out.symm, (by (repeat (first | exact HNW.out | exact New.refl _ | apply New.alloc | apply New.aft | apply New.drew | refine New.setCell ?_ ?_ _)); all_goals (first | done | (simp [size_aft]; done) | (simp [size_aft]; omega)))⟩
      · have HRF := Lib.hid (show r = false by
          cases hh : r
          · rfl
          · obtain ⟨i, h1, h2, h3, h4⟩ := HR.out.1 hh
            rw [(HALL.out i h1 (by omega)).2] at h4; cases h4)
        have hk4 : ¬ (k2 : Int) < (q : Int) := by omega
        go_wp2_with fail
        first | refine wp_region_at2 (by kernel_rfl) (by kernel_rfl) ?_ | refine wp_region_at (by kernel_rfl) (by kernel_rfl) ?_
        repeat (go_big_quiet_step (fail))
        refine wpQuiet_nil ?_
        rintro _ ⟨q0, rfl⟩
        go_wp2_with fail
        go_ret
        exact ⟨ret_bool HRF.out.symm, (by (repeat (first | exact HNW.out | exact New.refl _ | apply New.alloc | apply New.aft | apply New.drew | refine New.setCell ?_ ?_ _)); all_goals (first | done | (simp [size_aft]; done) | (simp [size_aft]; omega)))⟩
  · obtain rfl : q = 0 := by omega
    obtain rfl : s = 0 := by omega
    have HRF := Lib.hid (show r = false by
      cases hh : r
      · rfl
      · obtain ⟨i, h1, h2, _⟩ := HR.out.1 hh
        omega)
    have HCB := Lib.hid (show ∀ w2 : World, New ((w.alloc (.cells #[.slice (some ⟨b, off, none⟩) n c] 58)).alloc (.cells #[.int .i64 v1, .int .i64 v2, .int .i64 v3, .int .i64 v4] 30)) w2 → w2.cell? ⟨cb, co + k * 3 + 2, none⟩ = some (.slice av 0 c2) ∧ cb < w2.heap.size ∧ w.heap.size + 2 ≤ w2.heap.size from fun w2 h2 => by
      have hsz := h2.size
      simp only [World.size_alloc] at hsz
      have h3 : New w w2 := (((New.refl w).alloc _).alloc _).trans h2
      exact ⟨(h3.cell hcbl).trans hv3, by omega, by omega⟩)
    have HSE := Lib.hid (fun (P1 P2 : Value) (w1 : World) => search_c 0 0 (fun _ => false) P1 P2 w1 (by omega) (Nat.le_refl _) (fun i hi => by omega) (Lib.hid (fun w2 h2 i hi => by omega)))
    go_enter Tryz.func155, Tryz.ntmps155
    go_wp2_with (first | (go_at_call 185; refine (HB.out _ (by (repeat (first | exact New.refl _ | apply New.alloc | apply New.aft | apply New.drew | refine New.setCell ?_ ?_ _)); all_goals (first | done | (simp [size_aft]; done) | (simp [size_aft]; omega)))).mono ?_; rintro e w2 ⟨rfl, hn2⟩; have HN2 := Lib.hid hn2; obtain ⟨cv1, hcb2, hsz2⟩ := HCB.out w2 hn2; clear hn2) | (go_at_call 188; refine (HSE.out _ _ _).mono ?_; rintro e w3 ⟨rfl, hn3⟩; have HN3 := Lib.hid hn3; clear hn3))
    have HNW3 := Lib.hid (show New w w3 from ((((New.refl w).alloc _).alloc _).trans HN2.out |>.alloc _ |>.alloc _).trans HN3.out)
    have cs9 : w3.cell? ⟨w2.heap.size, 0, none⟩ = some (.slice av 0 c2) ∧ w2.heap.size < w3.heap.size := by
      refine ⟨?_, ?_⟩
      · rw [HN3.out.cell (by simp; omega)]; simp [go_sem]
      · have := HN3.out.size; simp only [World.size_alloc] at this; omega
    obtain ⟨cs91, cs92⟩ := cs9
    go_loopw [12] (fun i wr => i = .int .i64 0 ∧ wr = w3) (fun _ _ => 0)
    case atStart => exact ⟨rfl, rfl⟩
    case round =>
      obtain ⟨rfl, rfl⟩ := hrel
      go_wp2_with fail
      first | refine wp_region_at2 (by kernel_rfl) (by kernel_rfl) ?_ | refine wp_region_at (by kernel_rfl) (by kernel_rfl) ?_
      repeat (go_big_quiet_step (fail))
      refine wpQuiet_nil ?_
      rintro _ ⟨q0, rfl⟩
      go_wp2_with fail
      go_ret
      exact ⟨ret_bool HRF.out.symm, (by (repeat (first | exact HNW3.out | exact New.refl _ | apply New.alloc | apply New.aft | apply New.drew | refine New.setCell ?_ ?_ _)); all_goals (first | done | (simp [size_aft]; done) | (simp [size_aft]; omega)))⟩

end Go.Proofs.YtpdfbboagaflhaaGreat

set_option linter.unusedSimpArgs false
set_option linter.unusedVariables false
namespace Go.Proofs.YtpdfbboagaflhaaGreat
open Go.RowKit Go.Shelf

attribute [local go_sem] Oper.semAt_some

section
variable {P : Program} {n : Nat} {F : Fence}
/-- the loop's record once a round has left by a return -/
def recX (a : Act) (D : Nat) (fn : FuncId) (p1 : Tmp) (assign body : Code) : Loop := { recOf a D fn p1 assign body .done with pending := some .ret }

theorem yield_round2 (hFn : ∀ f, F.fn f) {a : Act} {D lp : Nat} {fn : FuncId} {p1 : Tmp} {assign body : Code} {W : World} {x : Value} {R : Ending → World → Prop}
    (hrec : W.heap[lp]? = some (.loop (recOf a D fn p1 assign body .ready)))
    (hwalk : assign.wpIn (F.inRound lp) n P (Exit.then (fun a1 W1 => W1.heap[lp]? = some (.loop (recOf a D fn p1 assign body .ready)) ∧
      body.wpIn (F.inRound lp) n P (fun e _ W3 => (e = .normal ∧ W3.heap[lp]? = some (.loop (recOf a D fn p1 assign body .busy)) ∧ R (.returned (.bool true)) (W3.putObj lp (.loop (recOf a D fn p1 assign body .ready)))) ∨
        (e = .ret ∧ W3.heap[lp]? = some (.loop (recOf a D fn p1 assign body .busy)) ∧ R (.returned (.bool false)) (W3.putObj lp (.loop (recX a D fn p1 assign body))))) a1 (W1.putObj lp (.loop (recOf a D fn p1 assign body .busy)))) (fun _ _ _ => False))
      { tmps := a.tmps.setIfInBounds p1 x, defers := [] } W) : YieldAt F n P lp #[x] W R := by
  refine ⟨fn, a.tmps.setIfInBounds p1 x, assign, body, ?_, roundIn_of_wpIn (hFn _) (wpIn_mono hwalk ?_)⟩
  · have := run_yield (P := P) (args := #[x]) hrec rfl
    simpa [recOf] using this
  · intro e a1 W1 h
    cases e with
    | normal =>
      obtain ⟨hl, hb⟩ := h
      refine ⟨_, run_beginRound hl rfl, wpIn_mono hb ?_⟩
      rintro e a3 W3 (⟨rfl, hl3, hR⟩ | ⟨rfl, hl3, hR⟩)
      · have h3 := run_endRound (P := P) none hl3
        exact ⟨_, _, h3, hR⟩
      · have h3 := run_endRound (P := P) (some .ret) hl3
        exact ⟨_, _, h3, hR⟩
    | _ => exact h

theorem range_whole2 (hro : F.round = none) (hFn : ∀ f, F.fn f) {g : Operand} {p1 : Tmp} {assign body : Code} {Q : Exit → Act → World → Prop} {a : Act} {w : World} {gf : Nat} {lb : Array Value} (h1 : 1 ≤ n) (hg : a.eval g = .func (.func gf) #[] lb) (eg : ∀ args w, (callFunc gf args).run P w = .ok (.enter gf args) w)
    (Fin FinX : World → Prop)
    (hit : ∀ fn W1, W1 = (w.alloc (.deferred (some []))).alloc (.loop (recOf a w.heap.size fn p1 assign body .ready)) →
      CallsIn F (n - 1) P gf (#[.func (.yield (w.heap.size + 1)) #[] #[]] ++ lb) W1 fun e W' => (∃ v, e = .returned v) ∧ ((Fin W' ∧ W'.heap[w.heap.size + 1]? = some (.loop (recOf a w.heap.size fn p1 assign body .ready))) ∨ (FinX W' ∧ W'.heap[w.heap.size + 1]? = some (.loop (recX a w.heap.size fn p1 assign body)))))
    (hdone : ∀ (W : World) (o : Obj), Fin W → Q .normal { a with defers := { target := .collected w.heap.size, args := #[] } :: a.defers } (W.putObj (w.heap.size + 1) o))
    (hstop : ∀ (W : World) (o : Obj), FinX W → Q .ret { a with defers := { target := .collected w.heap.size, args := #[] } :: a.defers } (W.putObj (w.heap.size + 1) o)) :
    (Code.rangeFunc g #[p1] assign body).wpIn F n P Q a w := by
  refine wpIn_rangeFunc ?_
  intro fn _
  rw [hro]
  obtain ⟨W1, hW1⟩ : ∃ W1, W1 = (w.alloc (.deferred (some []))).alloc (.loop (recOf a w.heap.size fn p1 assign body .ready)) := ⟨_, rfl⟩
  refine ⟨w.heap.size + 1, [{ target := .collected w.heap.size, args := #[] }], W1, { target := .fn (.func gf) lb, args := #[.func (.yield (w.heap.size + 1)) #[] #[]] }, W1, gf,
    #[.func (.yield (w.heap.size + 1)) #[] #[]] ++ lb, W1, ?_, ?_, ?_, ?_, fun _ => h1, ?_⟩
  · rw [hW1]; exact run_enterLoop_outer _ _ _ _ _
  · simp only [resolve, hg]
    simp [go_sem]
  · exact fun f' _ => hFn f'
  · simp [invoke, go_sem, eg]
  · refine (hit fn W1 hW1).mono ?_
    rintro e W' ⟨⟨v, rfl⟩, ⟨hF, hl⟩ | ⟨hF, hl⟩⟩
    · exact ⟨none, _, run_endLoop (P := P) hl (by simp [recOf]), hdone _ _ hF⟩
    · refine ⟨some .ret, _, run_endLoop (P := P) hl (by simp [recX, recOf]), ?_⟩
      exact wpIn_ret (hstop _ _ hF)
end

set_option maxRecDepth 100000 in
set_option maxHeartbeats 8000000 in
theorem strips2_in (n : Nat) (hn : 1 ≤ n) (lp Bs b off m cp : Nat) (l : List S4) (hm0 : 0 < m) (hm : m ≤ 400) (J : Nat → Nat → World → Prop) (Jx : World → Prop) (W : World) (hBs : W.cell? ⟨Bs, 0, none⟩ = some (.slice (some ⟨b, off, none⟩) m cp)) (hBs0 : Bs < W.heap.size) (hw : Segs W b off m l)
    (h0 : ∀ p W', New W W' → W.heap.size ≤ p → p < W'.heap.size → J p 0 W')
    (hY : ∀ p k v W0 W1, J p k W0 → p < W0.heap.size → New W0 W1 → k + 1 < (endXsL l).length → W1.ownsRow W0.heap.size 3 1 v (spanTo l (xAt l k) (xAt l (k + 1)) m).length (inCells (spanTo l (xAt l k) (xAt l (k + 1)) m)) →
      YieldAt Fence.wide (n - 1) Tryz.prog lp #[.agg #[.int .i64 (xAt l k), .int .i64 (xAt l (k + 1)), v]] W1 fun e W' => (e = .returned (.bool true) ∧ J p (k + 1) W' ∧ Spares Bs b p W1 W') ∨ (e = .returned (.bool false) ∧ Jx W')) :
    CallsIn Fence.wide n Tryz.prog 179 #[.func (.yield lp) #[] #[], .pointer (some ⟨Bs, 0, none⟩)] W fun e W' => (∃ v, e = .returned v) ∧ ((∃ p W0, J p ((endXsL l).length - 1) W0 ∧ New W0 W') ∨ (∃ W0, Jx W0 ∧ New W0 W')) := by
  have HW := Lib.hid hw
  have HEX := Lib.hid (fun (w1 : World) (h1 : Segs w1 b off m l) => (callsIn_wide (n := n - 1)).2 (endXs_c b off m cp l w1 hm0 hm h1))
  refine callsIn_of_wp Tryz.func179 rfl trivial ?_ rfl
  simp only [Tryz.ntmps179, List.size_toArray, List.length_cons, List.length_nil, Nat.reduceAdd, Nat.reduceSub, Array.replicate_succ, Array.replicate_zero, List.push_toArray, List.append_toArray, List.nil_append, List.cons_append]
  gi_wp2_with (refine ⟨trivial, ?_⟩; gi_at_call 180; refine (HEX.out _ HW.out).mono ?_; rintro e w2 ⟨gx, cx, rfl, hox, hnx⟩; have HOX := Lib.hid hox; have HNX := Lib.hid hnx; clear hox hnx)
  have HY := Lib.hid hY
  have hgx := (HOX.out.lt gx rfl)
  have hb2 := HNX.out.size
  have HJ0 := Lib.hid (h0 gx w2 HNX.out hgx.1 hgx.2)
  clear hY h0
  have hMb : (endXsL l).length ≤ 800 := by
    have h1 := compact_le (sortI (xsTo l l.length))
    rw [sortI_length, xsTo_length, HW.out.1] at h1
    unfold endXsL
    rw [HW.out.1]
    omega
  generalize hM : (endXsL l).length = M at *
  have HM := Lib.hid hM
  clear hM
  gi_loopw [4] (fun i wr => ∃ (k : Nat) (W0 : World), 1 ≤ k ∧ k - 1 ≤ M - 1 ∧ i = .int .i64 k ∧ J gx (k - 1) W0 ∧ gx < W0.heap.size ∧ New W0 wr ∧ Keep2 Bs b W wr ∧ wr.ownsRow W.heap.size 3 1 (.slice (some ⟨gx, 0, none⟩) M cx) M (inCells (endXsL l)))
    (fun i _ => M - (intOf i).toNat)
  case atStart => exact ⟨1, w2, Nat.le_refl _, Nat.zero_le _, rfl, HJ0.out, hgx.2, New.refl _, Keep2.new HNX.out hBs0 HW.out.2.1, HOX.out⟩
  case round =>
    obtain ⟨i, W0, hi1, hiM, rfl, hJ, hgx0, hnw, hbw, hown⟩ := hrel
    have HJ := Lib.hid hJ
    have HNW := Lib.hid hnw
    have HBW := Lib.hid hbw
    have HOWN := Lib.hid hown
    clear hJ hnw hbw hown
    by_cases hlt : i < M
    · have c1 := (own_cell HOWN.out (inCells_at _ (i - 1) (by rw [HM.out]; omega))).1
      have c2 := (own_cell HOWN.out (inCells_at _ i (by rw [HM.out]; omega))).1
      have hbox : wr.cell? ⟨Bs, 0, none⟩ = some (.slice (some ⟨b, off, none⟩) m cp) := (cell_same HBW.out.2.1).trans hBs
      have HX1 := Lib.hid (show (endXsL l).getD (i - 1) 0 = xAt l (i - 1) from rfl)
      have HX2 := Lib.hid (show (endXsL l).getD i 0 = xAt l (i - 1 + 1) by rw [show i - 1 + 1 = i by omega]; rfl)
      rw [HX1.out] at c1
      rw [HX2.out] at c2
      have HYi := Lib.hid (fun v W1 h1 h2 => HY.out gx (i - 1) v W0 W1 HJ.out hgx0 h1 (by omega) h2)
      have HSEG := Lib.hid (show ∀ w9 : World, New wr w9 → Segs w9 b off m l from fun w9 h9 => by
        obtain ⟨a1, a2, a3⟩ := HW.out
        have hbl : b < wr.heap.size := Nat.lt_of_lt_of_le a2 HBW.out.1
        have hb9 := HBW.out.trans (Keep2.new h9 (Nat.lt_of_lt_of_le hBs0 HBW.out.1) hbl)
        exact ⟨a1, Nat.lt_of_lt_of_le a2 hb9.1, fun j hj => by
          obtain ⟨e1, e2, e3, e4⟩ := a3 j hj
          exact ⟨(cell_same hb9.2.2).trans e1, (cell_same hb9.2.2).trans e2, (cell_same hb9.2.2).trans e3, (cell_same hb9.2.2).trans e4⟩⟩)
      generalize xAt l (i - 1) = X1 at *
      generalize xAt l (i - 1 + 1) = X2 at *
      have HSP := Lib.hid (fun (w9 : World) (h9 : New wr w9) => (callsIn_wide (n := n - 1)).2 (spanning_c b off m cp l X1 X2 w9 (by omega) (HSEG.out w9 h9)))
      have hw1 : IntKind.i64.wrap ((i : Int) - 1) = (i : Int) - 1 := by rw [IntKind.wrap_i64]; omega
      have ht1 : (1 : Int) ≤ (i : Int) := by omega
      have hp1 : (0 : Int) ≤ (i : Int) - 1 := by omega
      have hq1 : ((i : Int) - 1).toNat = i - 1 := by omega
      have hl1 : (i : Int) - 1 < (M : Int) := by omega
      gi_wp2
      gi_region
      gi_wp2_with (refine ⟨trivial, ?_⟩; gi_at_call 181; refine (HSP.out _ ((New.refl _).drew)).mono ?_; rintro e w3 ⟨v, rfl, ho3, hn3⟩; obtain ⟨av, cv, rfl⟩ := own_slice ho3; obtain ⟨fn, tmps, assign, body, hy, hR⟩ := HYi.out _ w3 ((HNW.out.drew).trans hn3) (own_base ho3 (by have := HNW.out.size; simp; omega)); have HO3 := Lib.hid ho3; have HN3 := Lib.hid hn3; have HR := Lib.hid hR; clear ho3 hn3 hR)
      refine HR.out.mono ?_
      rintro e W3 (⟨rfl, hJ3, hk3⟩ | ⟨rfl, hJ3⟩)
      · have HJ3 := Lib.hid hJ3
        have HK3 := Lib.hid hk3
        clear hJ3 hk3
        have hs3 := HK3.out.1.1
        have hs4 := HN3.out.size
        have hs5 := HNW.out.size
        simp only [size_drew'] at hs4
        gi_wp2
        go_roundw
        case rel => exact ⟨i + 1, W3, by omega, by omega, by go_num, by have := HJ3.out; rwa [show i - 1 + 1 = i by omega] at this, by have := HK3.out.1.1; omega, New.refl _, (HBW.out.trans (Keep2.new (((New.refl wr).drew).trans HN3.out) (Nat.lt_of_lt_of_le hBs0 HBW.out.1) (Nat.lt_of_lt_of_le HW.out.2.1 HBW.out.1))).trans HK3.out.1, own_same (own_new HOWN.out (((New.refl _).drew).trans HN3.out)) HK3.out.2⟩
        case measure => simp [intOf]; omega
      · have HJ3 := Lib.hid hJ3
        clear hJ3
        gi_wp2
        first
          | (refine bodyPost_ret (results_none rfl _ _ _) rfl ?_; exact ⟨⟨_, rfl⟩, .inr ⟨W3, HJ3.out, New.refl _⟩⟩)
          | (go_end0; exact ⟨⟨_, rfl⟩, .inr ⟨W3, HJ3.out, New.refl _⟩⟩)
    · have hiM2 : i - 1 = M - 1 := by omega
      gi_wp2
      go_end0
      exact ⟨⟨_, rfl⟩, .inl ⟨gx, W0, by rw [HM.out, ← hiM2]; exact HJ.out, HNW.out⟩⟩


end Go.Proofs.YtpdfbboagaflhaaGreat

set_option linter.unusedSimpArgs false
set_option linter.unusedVariables false
namespace Go.Proofs.YtpdfbboagaflhaaGreat
open Go.RowKit Go.Shelf

section
variable {P : Program} {n lp : Nat} {ops : Array Oper} {md : Region.Mode} {C : World → Prop}
/-- no operation of the region is a 'defer' -/
def noDefer (ops : Array Oper) : Bool := ops.all fun o => match o.op with | .defer _ => false | _ => true
theorem noDefer_at {i : Nat} {o : Oper} (h : noDefer ops = true) (hi : ops[i]? = some o) : ∀ c, o.op ≠ .defer c := by
  intro c hc
  have hm : o ∈ ops := by
    obtain ⟨h1, h2⟩ := Array.getElem?_eq_some_iff.1 hi
    rw [← h2]; exact Array.getElem_mem h1
  have := (Array.all_eq_true_iff_forall_mem.1 h) o hm
  rw [hc] at this
  cases this
theorem opIn_of_quiet {i : Nat} {K : Act → Prop} {K' : Act → World → Prop} {Q : Exit → Act → World → Prop} {a : Act} {w : World} (hd : noDefer ops = true) (hC : C w) (h : ∀ a w', C w' → K a → K' a w') (hq : qOp P ops C i K a) :
    wpOpIn (Fence.wide.inRound lp) n P ops Q i K' a w := by
  unfold qOp at hq
  unfold wpOpIn
  cases ho : ops[i]? with
  | none => rw [ho] at hq; exact h _ _ hC hq
  | some o =>
    rw [ho] at hq
    simp only at hq ⊢
    by_cases hw : Region.wanted o (yielded ops a.tmps) = true
    · rw [if_pos hw] at hq ⊢
      obtain ⟨v, h1, h2⟩ := hq
      have h3 := h1 w hC
      unfold Oper.quietAt at h3
      refine ⟨fun _ _ => trivial, ?_⟩
      rw [Oper.semAt_eq _ _ _ (noDefer_at hd ho)]
      revert h3
      generalize (execOp a.eval o).run P w = r
      intro h3
      match r, h3 with
      | .ok (.value u) w', ⟨e1, e2⟩ => subst e1; subst e2; exact h _ _ hC h2
      | .ok .skip w', ⟨e1, e2⟩ => subst e1; subst e2; exact h _ _ hC h2
      | .ok (.enter f args) w', ⟨e1, hc⟩ =>
        subst e1
        refine ⟨fun e => (by cases e), CallsIn.inRound lp ((callsIn_wide (n := n - 1)).2 (hc.mono ?_))⟩
        rintro e w2 ⟨rfl, hw2⟩
        exact h _ _ hw2 h2
    · rw [if_neg hw] at hq ⊢
      exact ⟨fun _ _ => trivial, h _ _ hC hq⟩
theorem anyIn_of_quiet {Q : Act → Prop} {Q' : Exit → Act → World → Prop} (hd : noDefer ops = true) (hQ : ∀ a w, C w → Q a → Q' .normal a w) : ∀ (fuel : Nat) (listed : Array Bool) (a : Act) (w : World), C w →
    wpAnyQ P md ops C Q fuel listed a → wpAnyIn (Fence.wide.inRound lp) n P md ops Q' fuel listed a w
  | 0, _, _, _, hw, h => ⟨h.1, hQ _ _ hw h.2⟩
  | fuel + 1, _, _, _, hw, h => ⟨fun h0 => hQ _ _ hw (h.1 h0), fun i hi => opIn_of_quiet hd hw (fun a' w' hw' => anyIn_of_quiet hd hQ fuel _ a' w' hw') (h.2 i hi)⟩

theorem wpIn_region_round {id : Nat} {Q : Exit → Act → World → Prop} {a : Act} {w : World} {l : List Oper} (hm : P.follows .mixedOrders = true) (hB : Region.lexB .any l.toArray = true) (hd : noDefer l.toArray = true)
    (h : wpQuiet P l.toArray (fun w' => ∃ p : AtBy, w' = Aft w p.d p.os) (fun a' => ∀ w', (∃ p : AtBy, w' = Aft w p.d p.os) → Q .normal a' w') l a) : (Code.region id l.toArray true).wpIn (Fence.wide.inRound lp) n P Q a w := by
  simp only [Region.lexB, Bool.and_eq_true] at hB
  refine wpIn_region_any hm (anyIn_of_quiet (C := fun w' => ∃ p : AtBy, w' = Aft w p.d p.os) (Q := fun a' => ∀ w', (∃ p : AtBy, w' = Aft w p.d p.os) → Q .normal a' w') hd (fun _ w' hw' h => h w' hw') _ _ _ _ ⟨⟨w.drawn + 1, #[]⟩, by simp [Aft]⟩ ?_)
  have := wpAnyQ_lex (P := P) (C := fun w' => ∃ p : AtBy, w' = Aft w p.d p.os) (md := .any) hB.1 l 0 (Array.replicate l.toArray.size false) a (by simp) (by simpa using hB.2) h
  simpa using this
end

end Go.Proofs.YtpdfbboagaflhaaGreat

set_option linter.unusedSimpArgs false
set_option linter.unusedVariables false
namespace Go.Proofs.YtpdfbboagaflhaaGreat
open Go.RowKit Go.Shelf

attribute [local go_sem] Oper.semAt_some

/-- strip j is as it is to be -/
def mtS (l : List S4) (C : List SV) (j : Nat) : Prop := (sF C j = xAt l j ∧ sT C j = xAt l (j + 1)) ∧ sortI (sL C j) = spanI l j

/-- what holds between two rounds -/
def SameJ (l : List S4) (C : List SV) (N : Nat) (B0 D : Nat) (w : World) (cs ls : Value) (RC : Option Obj) (p k : Nat) (W : World) : Prop :=
  New w W ∧ (W.heap[B0]? = some (.cells #[cs] 65 (0, 0)) ∧ W.heap[B0 + 1]? = some (.cells #[.bool false] 4 (0, 0)) ∧ W.heap[B0 + 2]? = some (.cells #[.int .i64 k] 3 (0, 0)) ∧ W.heap[B0 + 3]? = some (.cells #[ls] 58 (0, 0))) ∧
    W.heap[D]? = some (.deferred (some [])) ∧ W.heap[D + 1]? = RC ∧ D + 2 ≤ p ∧ k ≤ N ∧ ∀ j, j < k → mtS l C j

theorem heap_aft_set (W : World) (B : Nat) (u : Value) (d : Nat) (os : Array Obj) (s : Nat) (hs : s < W.heap.size) (hne : s ≠ B) : (Aft (W.setCell ⟨B, 0, none⟩ u) d os).heap[s]? = W.heap[s]? :=
  (heap_aft_old _ d os (by simpa [World.setCell] using hs)).trans (heap_setCell_other _ _ _ _ _ hne)
theorem heap_aft_same (W : World) (B : Nat) (u v : Value) (t : TypeId) (d : Nat) (os : Array Obj) (h : W.heap[B]? = some (.cells #[v] t (0, 0))) : (Aft (W.setCell ⟨B, 0, none⟩ u) d os).heap[B]? = some (.cells #[u] t (0, 0)) :=
  (heap_aft_old _ d os (by have := (Array.getElem?_eq_some_iff.1 h).1; simpa [World.setCell] using this)).trans (heap_setCell_same W B 0 _ h)
theorem size_aft_set (W : World) (B : Nat) (u : Value) (d : Nat) (os : Array Obj) : W.heap.size ≤ (Aft (W.setCell ⟨B, 0, none⟩ u) d os).heap.size := by
  rw [size_aft]; simp [World.setCell]
theorem intsA_put {W W' : World} {v : Value} {L : List Int} {lp : Nat} {r : Loop} (h : IntsA W v L) (hl : W.heap[lp]? = some (.loop r)) (hs : W.heap.size ≤ W'.heap.size) (hk : ∀ s, s < W.heap.size → s ≠ lp → W'.heap[s]? = W.heap[s]?) : IntsA W' v L := by
  obtain ⟨av, c, rfl, h2⟩ := h
  refine ⟨av, c, rfl, fun h0 => ?_⟩
  obtain ⟨g, off, h3, h4, h5, h6⟩ := h2 h0
  have hne : g ≠ lp := by
    intro e
    have := h6 0 h0
    rw [e] at this
    simp [World.cell?, hl] at this
  exact ⟨g, off, h3, h4, by omega, fun i hi => (cell_same (hk g h5 hne)).trans (h6 i hi)⟩

set_option maxRecDepth 100000 in
set_option maxHeartbeats 32000000 in
theorem sameStrips_c (b off n cp N cc : Nat) (cv : Option Addr) (l : List S4) (C : List SV) (w : World) (h0 : 0 < n) (hl : n ≤ 400) (hw : Segs w b off n l) (hCn : C.length = N) (hN : N ≤ 17592186044415) (hC : 0 < N → ∃ cb co, cv = some ⟨cb, co, none⟩ ∧ Strps w cb co N C) (hlen : ∀ i, i < N → (sL C i).length ≤ 17592186044415)
    (r : Bool) (hr : r = true ↔ N = (endXsL l).length - 1 ∧ ∀ j, j < N → mtS l C j) :
    Calls Tryz.prog 150 #[.slice (some ⟨b, off, none⟩) n cp, .slice cv N cc] w fun e w' => e = .returned (.bool r) ∧ New w w' := by
  have HW := Lib.hid hw
  have HN := Lib.hid hw.1
  have HC := Lib.hid hC
  have HR := Lib.hid hr
  have HLEN := Lib.hid hlen
  have HST := Lib.hid (fun (w1 : World) => (callsIn_wide (n := 4)).2 (strips_c (some ⟨b, off, none⟩) n cp w1))
  clear hw hC hr hlen
  refine (callsIn_wide (n := 5)).1 ?_
  refine callsIn_of_wp_marks Tryz.func150 rfl trivial ?_ rfl
  simp only [Tryz.ntmps150, List.size_toArray, List.length_cons, List.length_nil, Nat.reduceAdd, Nat.reduceSub, Array.replicate_succ, Array.replicate_zero, List.push_toArray, List.append_toArray, List.nil_append, List.cons_append]
  gi_wp2
  refine ⟨trivial, ?_⟩
  gi_at_call 143
  refine (HST.out _).mono ?_
  rintro e w2 ⟨rfl, rfl⟩
  gi_wp2
  obtain ⟨WS, HWS⟩ : ∃ WS : World, Hid (WS = (((w.alloc (.cells #[.slice cv N cc] 65)).alloc (.cells #[.bool false] 4)).alloc (.cells #[.int .i64 0] 3)).alloc (.cells #[.slice (some ⟨b, off, none⟩) n cp] 58)) := ⟨_, Lib.hid rfl⟩
  rw [← HWS.out]
  have hss : WS.heap.size = w.heap.size + 4 := by rw [HWS.out]; simp
  have hss1 : w.heap.size + 4 ≤ WS.heap.size := by omega
  have hss2 : WS.heap.size ≤ w.heap.size + 4 := by omega
  have HSS := Lib.hid hss
  clear hss
  have HNS := Lib.hid (show New w WS by rw [HWS.out]; exact ((((New.refl _).alloc _).alloc _).alloc _).alloc _)
  have HB4 := Lib.hid (show WS.heap[w.heap.size]? = some (.cells #[.slice cv N cc] 65 (0, 0)) ∧ WS.heap[w.heap.size + 1]? = some (.cells #[.bool false] 4 (0, 0)) ∧ WS.heap[w.heap.size + 2]? = some (.cells #[.int .i64 0] 3 (0, 0)) ∧ WS.heap[w.heap.size + 3]? = some (.cells #[.slice (some ⟨b, off, none⟩) n cp] 58 (0, 0)) by
    rw [HWS.out]
    have a1 := World.alloc_heap_new w (.cells #[.slice cv N cc] 65)
    have a2 := World.alloc_heap_new (w.alloc (.cells #[.slice cv N cc] 65)) (.cells #[.bool false] 4)
    have a3 := World.alloc_heap_new ((w.alloc (.cells #[.slice cv N cc] 65)).alloc (.cells #[.bool false] 4)) (.cells #[.int .i64 0] 3)
    have a4 := World.alloc_heap_new (((w.alloc (.cells #[.slice cv N cc] 65)).alloc (.cells #[.bool false] 4)).alloc (.cells #[.int .i64 0] 3)) (.cells #[.slice (some ⟨b, off, none⟩) n cp] 58)
    simp only [World.size_alloc] at a2 a3 a4
    refine ⟨?_, ?_, ?_, a4⟩
    · exact (Below.heap_alloc _ _ _ (by simp only [World.size_alloc]; omega)).trans ((Below.heap_alloc _ _ _ (by simp only [World.size_alloc]; omega)).trans ((Below.heap_alloc _ _ _ (by simp only [World.size_alloc]; omega)).trans a1))
    · exact (Below.heap_alloc _ _ _ (by simp only [World.size_alloc]; omega)).trans ((Below.heap_alloc _ _ _ (by simp only [World.size_alloc]; omega)).trans a2)
    · exact (Below.heap_alloc _ _ _ (by simp only [World.size_alloc]; omega)).trans a3)
  generalize hM : (endXsL l).length - 1 = M at *
  have HF := Lib.hid hM
  refine range_whole2 (n := 5) rfl (fun _ => trivial) (by omega) (gf := 179) (lb := #[.pointer (some ⟨w.heap.size + 3, 0, none⟩)]) rfl (enters_of Tryz.func179 (by kernel_rfl) rfl)
    (fun W => New w W ∧ (W.heap[w.heap.size]? = some (.cells #[.slice cv N cc] 65 (0, 0)) ∧ W.heap[w.heap.size + 1]? = some (.cells #[.bool false] 4 (0, 0)) ∧ W.heap[w.heap.size + 2]? = some (.cells #[.int .i64 M] 3 (0, 0))) ∧ W.heap[WS.heap.size]? = some (.deferred (some [])) ∧ (∃ r0, W.heap[WS.heap.size + 1]? = some (.loop r0)) ∧ M ≤ N ∧ ∀ j, j < M → mtS l C j)
    (fun W => New w W ∧ W.heap[w.heap.size + 1]? = some (.cells #[.bool false] 4 (0, 0)) ∧ W.heap[WS.heap.size]? = some (.deferred (some [])) ∧ (∃ r0, W.heap[WS.heap.size + 1]? = some (.loop r0)) ∧ r = false) ?hit ?hdone ?hstop
  case hit =>
    intro fn W1 hW1
    generalize hX : recX _ _ _ _ _ _ = RX
    have HX := Lib.hid hX
    clear hX
    have hsn := HNS.out.size
    have hD1 : W1.heap.size = WS.heap.size + 2 := by rw [hW1]; simp
    have hD2 : W1.heap.size ≤ WS.heap.size + 2 := by omega
    have hD3 : WS.heap.size + 2 ≤ W1.heap.size := by omega
    clear hD1
    have HNW1 := Lib.hid (show New WS W1 by rw [hW1]; exact ((New.refl _).alloc _).alloc _)
    have HDF := Lib.hid (show W1.heap[WS.heap.size]? = some (.deferred (some [])) by rw [hW1]; exact (Below.heap_alloc _ _ _ (by simp)).trans (World.alloc_heap_new WS _))
    have hrc1 := alloc2_new hW1
    have HRC := Lib.hid hrc1
    clear hrc1
    clear hW1
    have hold : ∀ (X Y : World) (h : New X Y) (k : Nat), k < X.heap.size → Y.heap[k]? = X.heap[k]? := fun X Y h k hk => h.below.block k hk
    have HOLD := Lib.hid hold
    clear hold
    obtain ⟨g0, g1, g2, g3⟩ := HB4.out
    have HG3 := Lib.hid (show W1.heap[w.heap.size + 3]? = some (.cells #[.slice (some ⟨b, off, none⟩) n cp] 58 (0, 0)) from (HOLD.out _ _ HNW1.out _ (by omega)).trans g3)
    refine (strips2_in 4 (by omega) (WS.heap.size + 1) (w.heap.size + 3) b off n cp l h0 (by omega)
      (SameJ l C N w.heap.size WS.heap.size w (.slice cv N cc) (.slice (some ⟨b, off, none⟩) n cp) (W1.heap[WS.heap.size + 1]?))
      (fun W => New w W ∧ W.heap[w.heap.size + 1]? = some (.cells #[.bool false] 4 (0, 0)) ∧ W.heap[WS.heap.size]? = some (.deferred (some [])) ∧ W.heap[WS.heap.size + 1]? = some (.loop RX) ∧ r = false)
      W1 ?_ (by omega) (HW.out.new (HNS.out.trans HNW1.out)) ?_ ?_).mono ?_
    · simp [World.cell?, HG3.out]
    · intro p W' hnw hp1 hp2
      have e : ∀ k, k < W1.heap.size → W'.heap[k]? = W1.heap[k]? := HOLD.out _ _ hnw
      have e2 : ∀ k, k < WS.heap.size → W'.heap[k]? = WS.heap[k]? := fun k hk => (e k (by omega)).trans (HOLD.out _ _ HNW1.out k hk)
      unfold SameJ
      exact ⟨HNS.out.trans (HNW1.out.trans hnw), ⟨by rw [e2 _ (by omega)]; exact g0, by rw [e2 _ (by omega)]; exact g1, by rw [e2 _ (by omega)]; exact g2, by rw [e2 _ (by omega)]; exact g3⟩, by rw [e _ (by omega)]; exact HDF.out, e _ (by omega), by omega, Nat.zero_le _, fun j hj => by omega⟩
    · intro p k v W0 Wy hI hp0 hny hk1 hov
      unfold SameJ at hI
      obtain ⟨hnw, ⟨j0, j1, j2, j3⟩, hdf, hrc, hp2, hkN, hmt⟩ := hI
      have e : ∀ q, q < W0.heap.size → Wy.heap[q]? = W0.heap[q]? := HOLD.out _ _ hny
      have hs0 := hnw.size
      have hsny := hny.size
      have hlp : WS.heap.size + 1 < W0.heap.size := by
        have h1 := HRC.out
        rw [← hrc] at h1
        exact (Array.getElem?_eq_some_iff.1 h1).1
      have HRY := Lib.hid (show Wy.heap[WS.heap.size + 1]? = _ from (e _ hlp).trans (hrc.trans HRC.out))
      have HJ4 := Lib.hid (show Wy.heap[w.heap.size]? = some (.cells #[.slice cv N cc] 65 (0, 0)) ∧ Wy.heap[w.heap.size + 1]? = some (.cells #[.bool false] 4 (0, 0)) ∧ Wy.heap[w.heap.size + 2]? = some (.cells #[.int .i64 k] 3 (0, 0)) ∧ Wy.heap[w.heap.size + 3]? = some (.cells #[.slice (some ⟨b, off, none⟩) n cp] 58 (0, 0)) from ⟨(e _ (by omega)).trans j0, (e _ (by omega)).trans j1, (e _ (by omega)).trans j2, (e _ (by omega)).trans j3⟩)
      have HDY := Lib.hid (show Wy.heap[WS.heap.size]? = some (.deferred (some [])) by rw [e _ (by omega)]; exact hdf)
      have HNY := Lib.hid (hnw.trans hny)
      have HMT := Lib.hid hmt
      have HQL := Lib.hid (show spanTo l (xAt l k) (xAt l (k + 1)) n = spanI l k by unfold spanI; rw [HN.out])
      rw [HQL.out] at hov
      obtain ⟨av, c2, rfl⟩ := own_slice hov
      have HOV := Lib.hid (intsA_row hov)
      generalize (spanI l k).length = q at *
      have HE := Lib.hid e
      clear hmt hdf hrc j0 j1 j2 j3 e hov hnw
      refine yield_round2 (fun _ => trivial) HRY.out ?_
      gi_wp2
      refine ⟨by rw [Below.heap_alloc _ _ _ (by have := (Array.getElem?_eq_some_iff.1 HRY.out).1; exact this)]; exact HRY.out, ?_⟩
      have hlpy := (Array.getElem?_eq_some_iff.1 HRY.out).1
      refine name_putObj ?_
      intro Wb hWb
      have hbs : Wb.heap.size = Wy.heap.size + 1 := by rw [hWb]; simp
      have hbs1 : Wb.heap.size ≤ Wy.heap.size + 1 := by omega
      have hbs2 : Wy.heap.size + 1 ≤ Wb.heap.size := by omega
      clear hbs
      have hbo : ∀ s, s < Wy.heap.size → s ≠ WS.heap.size + 1 → Wb.heap[s]? = Wy.heap[s]? := fun s hs hne => by
        rw [hWb, putObj_heap _ _ _ _ hne]; exact Below.heap_alloc _ _ _ hs
      have hbl := putObj_at hWb (by simp; omega)
      have hbx : Wb.heap[Wy.heap.size]? = some (.cells #[.int .i64 (xAt l k), .int .i64 (xAt l (k + 1)), .slice av q c2] 84 (0, 0)) := by
        rw [hWb, putObj_heap _ _ _ _ (by omega)]; exact World.alloc_heap_new Wy _
      have HNB := Lib.hid (show New w Wb by rw [hWb]; exact new_putObj (HNY.out.alloc _) _ (by omega))
      have HBL := Lib.hid hbl
      have HBXX := Lib.hid hbx
      have HBO := Lib.hid hbo
      clear hWb hbl hbx hbo
      have hsy := HNY.out.size
      obtain ⟨f0, f1, f2, f3⟩ := HJ4.out
      have HW4 := Lib.hid (show Wb.heap[w.heap.size]? = some (.cells #[.slice cv N cc] 65 (0, 0)) ∧ Wb.heap[w.heap.size + 1]? = some (.cells #[.bool false] 4 (0, 0)) ∧ Wb.heap[w.heap.size + 2]? = some (.cells #[.int .i64 k] 3 (0, 0)) ∧ Wb.heap[w.heap.size + 3]? = some (.cells #[.slice (some ⟨b, off, none⟩) n cp] 58 (0, 0)) from ⟨(HBO.out _ (by omega) (by omega)).trans f0, (HBO.out _ (by omega) (by omega)).trans f1, (HBO.out _ (by omega) (by omega)).trans f2, (HBO.out _ (by omega) (by omega)).trans f3⟩)
      clear f0 f1 f2 f3
      obtain ⟨w0, w1', w2', w3⟩ := HW4.out
      have cC : Wb.cell? ⟨w.heap.size, 0, none⟩ = some (.slice cv N cc) := by simp [World.cell?, w0]
      have cR : Wb.cell? ⟨w.heap.size + 1, 0, none⟩ = some (.bool false) ∧ Wb.frozen? ⟨w.heap.size + 1, 0, none⟩ = false := by simp [World.cell?, World.frozen?, w1']
      have cI : Wb.cell? ⟨w.heap.size + 2, 0, none⟩ = some (.int .i64 k) ∧ Wb.frozen? ⟨w.heap.size + 2, 0, none⟩ = false := by simp [World.cell?, World.frozen?, w2']
      have cs : (Wb.cell? ⟨Wy.heap.size, 0, none⟩ = some (.int .i64 (xAt l k)) ∧ Wb.cell? ⟨Wy.heap.size, 1, none⟩ = some (.int .i64 (xAt l (k + 1)))) ∧ Wb.cell? ⟨Wy.heap.size, 2, none⟩ = some (.slice av q c2) := by
        have h1 := HBXX.out
        simp [World.cell?, h1]
      obtain ⟨⟨cs0, cs1⟩, cs2⟩ := cs
      obtain ⟨cR1, cR2⟩ := cR
      obtain ⟨cI1, cI2⟩ := cI
      clear w0 w1' w2' w3
      have s0 : w.heap.size < Wb.heap.size := by omega
      have s1 : w.heap.size + 1 < Wb.heap.size := by omega
      have s2 : w.heap.size + 2 < Wb.heap.size := by omega
      have s3 : Wy.heap.size < Wb.heap.size := by omega
      have HDB := Lib.hid (show Wb.heap[WS.heap.size]? = some (.deferred (some [])) from (HBO.out _ (by omega) (by omega)).trans HDY.out)
      have hlpb : WS.heap.size + 1 < Wb.heap.size := by omega
      have hbw := HW.out.2.1
      have HOB := Lib.hid (intsA_put HOV.out HRY.out (by omega) HBO.out)
      by_cases hkN2 : k = N
      · have HRF := Lib.hid (show r = false by
          cases hh : r
          · rfl
          · have := (HR.out.1 hh).1; omega)
        have hkk : (k : Int) = (N : Int) := by omega
        have z1 : ((k : Int) == (N : Int)) = true := by simpa using hkk
        gi_wp2
        refine wpIn_region_round (by kernel_rfl) (by kernel_rfl) (by kernel_rfl) ?_
        repeat (go_big_quiet_step (fail))
        refine wpQuiet_nil ?_
        rintro _ ⟨q0, rfl⟩
        gi_wp2
        have k1 := (heap_aft_set Wb (w.heap.size + 1) (.bool false) q0.d q0.os (WS.heap.size + 1) (by omega) (by omega)).trans HBL.out
        have k2 := fun o : Obj => (putObj_heap (Aft (Wb.setCell ⟨w.heap.size + 1, 0, none⟩ (.bool false)) q0.d q0.os) (WS.heap.size + 1) (w.heap.size + 1) o (by omega)).trans (heap_aft_same _ _ (.bool false) _ _ q0.d q0.os HW4.out.2.1)
        have k3 := fun o : Obj => (putObj_heap (Aft (Wb.setCell ⟨w.heap.size + 1, 0, none⟩ (.bool false)) q0.d q0.os) (WS.heap.size + 1) WS.heap.size o (by omega)).trans ((heap_aft_set Wb (w.heap.size + 1) (.bool false) q0.d q0.os WS.heap.size (by omega) (by omega)).trans HDB.out)
        have k4 : WS.heap.size + 1 < (Aft (Wb.setCell ⟨w.heap.size + 1, 0, none⟩ (.bool false)) q0.d q0.os).heap.size := Nat.lt_of_lt_of_le hlpb (size_aft_set _ _ _ _ _)
        refine ⟨by first | exact k1 | (obtain ⟨_, hh⟩ := Array.getElem?_eq_some_iff.1 k1; exact hh), new_putObj ((HNB.out.setCell (by show w.heap.size ≤ w.heap.size + 1; omega) _).aft _ _) _ (by omega), by first | exact k2 _ | (obtain ⟨_, hh⟩ := Array.getElem?_eq_some_iff.1 (k2 _); exact hh), by first | exact k3 _ | (obtain ⟨_, hh⟩ := Array.getElem?_eq_some_iff.1 (k3 _); exact hh), ?_, HRF.out⟩
        rw [← HX.out]
        first | exact World.putObj_heap_same k4 | (obtain ⟨_, hh⟩ := Array.getElem?_eq_some_iff.1 (World.putObj_heap_same (o := .loop (recX _ _ _ _ _ _)) k4); exact hh)
      · have hkk : ¬ (k : Int) = (N : Int) := by omega
        have z1 : ((k : Int) == (N : Int)) = false := by simpa using hkk
        have hkN3 : (k : Int) < (N : Int) := by omega
        obtain ⟨cb, co, rfl, hst⟩ := HC.out (by omega)
        obtain ⟨_, hcb, hcc⟩ := hst.new HNB.out
        obtain ⟨vC, ⟨x1, x2⟩, x3, hvC⟩ := hcc k (by omega)
        have HVC := Lib.hid hvC
        have HSE := Lib.hid (fun (w9 : World) (h9 : New Wb w9) => sameSet_c vC (.slice av q c2) (sL C k) (spanI l k) w9 (HLEN.out k (by omega)) (HVC.out.new h9) (HOB.out.new h9))
        have HMK := Lib.hid (show mtS l C k ↔ (sF C k = xAt l k ∧ sT C k = xAt l (k + 1)) ∧ decide (sortI (sL C k) = spanI l k) = true by unfold mtS; simp)
        obtain ⟨avC, ccC, rfl, _⟩ := hvC
        clear hcc hst
        generalize decide (sortI (sL C k) = spanI l k) = DD at *
        generalize sF C k = F1 at *
        generalize sT C k = T1 at *
        generalize xAt l k = X1 at *
        generalize xAt l (k + 1) = X2 at *
        by_cases u1 : F1 = X1
        · have y1 : (F1 == X1) = true := by simpa using u1
          by_cases u2 : T1 = X2
          · have y2 : (T1 == X2) = true := by simpa using u2
            cases DD
            · have HRF := Lib.hid (show r = false by
                cases hh : r
                · rfl
                · have := HMK.out.1 ((HR.out.1 hh).2 k (by omega)); exact absurd this.2 (by decide))
              gi_wp2
              refine wpIn_region_round (by kernel_rfl) (by kernel_rfl) (by kernel_rfl) ?_
              repeat (go_big_quiet_step (first | (go_at_call 183; exact calls_new (HSE.out _ ((New.refl _).aft _ _)))))
              refine wpQuiet_nil ?_
              rintro _ ⟨q0, rfl⟩
              gi_wp2
              have k1 := (heap_aft_set Wb (w.heap.size + 1) (.bool false) q0.d q0.os (WS.heap.size + 1) (by omega) (by omega)).trans HBL.out
              have k2 := fun o : Obj => (putObj_heap (Aft (Wb.setCell ⟨w.heap.size + 1, 0, none⟩ (.bool false)) q0.d q0.os) (WS.heap.size + 1) (w.heap.size + 1) o (by omega)).trans (heap_aft_same _ _ (.bool false) _ _ q0.d q0.os HW4.out.2.1)
              have k3 := fun o : Obj => (putObj_heap (Aft (Wb.setCell ⟨w.heap.size + 1, 0, none⟩ (.bool false)) q0.d q0.os) (WS.heap.size + 1) WS.heap.size o (by omega)).trans ((heap_aft_set Wb (w.heap.size + 1) (.bool false) q0.d q0.os WS.heap.size (by omega) (by omega)).trans HDB.out)
              have k4 : WS.heap.size + 1 < (Aft (Wb.setCell ⟨w.heap.size + 1, 0, none⟩ (.bool false)) q0.d q0.os).heap.size := Nat.lt_of_lt_of_le hlpb (size_aft_set _ _ _ _ _)
              refine ⟨by first | exact k1 | (obtain ⟨_, hh⟩ := Array.getElem?_eq_some_iff.1 k1; exact hh), new_putObj ((HNB.out.setCell (by show w.heap.size ≤ w.heap.size + 1; omega) _).aft _ _) _ (by omega), by first | exact k2 _ | (obtain ⟨_, hh⟩ := Array.getElem?_eq_some_iff.1 (k2 _); exact hh), by first | exact k3 _ | (obtain ⟨_, hh⟩ := Array.getElem?_eq_some_iff.1 (k3 _); exact hh), ?_, HRF.out⟩
              rw [← HX.out]
              first | exact World.putObj_heap_same k4 | (obtain ⟨_, hh⟩ := Array.getElem?_eq_some_iff.1 (World.putObj_heap_same (o := .loop (recX _ _ _ _ _ _)) k4); exact hh)
            · have HMK2 := Lib.hid (HMK.out.2 ⟨⟨u1, u2⟩, rfl⟩)
              gi_wp2
              refine wpIn_region_round (by kernel_rfl) (by kernel_rfl) (by kernel_rfl) ?_
              repeat (go_big_quiet_step (first | (go_at_call 183; exact calls_new (HSE.out _ ((New.refl _).aft _ _)))))
              refine wpQuiet_nil ?_
              rintro _ ⟨q0, rfl⟩
              have e2 : w.heap.size + 2 < Wb.heap.size + q0.os.size := by omega
              gi_wp2
              have k1 := (heap_aft_set Wb (w.heap.size + 2) (.int .i64 ((k : Int) + 1)) q0.d q0.os (WS.heap.size + 1) (by omega) (by omega)).trans HBL.out
              have k4 : WS.heap.size + 1 < (Aft (Wb.setCell ⟨w.heap.size + 2, 0, none⟩ (.int .i64 ((k : Int) + 1))) q0.d q0.os).heap.size := Nat.lt_of_lt_of_le hlpb (size_aft_set _ _ _ _ _)
              refine ⟨by first | exact k1 | (obtain ⟨_, hh⟩ := Array.getElem?_eq_some_iff.1 k1; exact hh), ?_, ?_⟩
              · unfold SameJ
                refine ⟨new_putObj ((HNB.out.setCell (by show w.heap.size ≤ w.heap.size + 2; omega) _).aft _ _) _ (by omega), ⟨?_, ?_, ?_, ?_⟩, ?_, ?_, hp2, by omega, ?_⟩
                · rw [putObj_heap _ _ _ _ (by omega)]; exact (heap_aft_set _ _ _ _ _ _ (by omega) (by omega)).trans HW4.out.1
                · rw [putObj_heap _ _ _ _ (by omega)]; exact (heap_aft_set _ _ _ _ _ _ (by omega) (by omega)).trans HW4.out.2.1
                · rw [putObj_heap _ _ _ _ (by omega)]; exact heap_aft_same _ _ _ _ _ _ _ HW4.out.2.2.1
                · rw [putObj_heap _ _ _ _ (by omega)]; exact (heap_aft_set _ _ _ _ _ _ (by omega) (by omega)).trans HW4.out.2.2.2
                · rw [putObj_heap _ _ _ _ (by omega)]; exact (heap_aft_set _ _ _ _ _ _ (by omega) (by omega)).trans HDB.out
                · exact (World.putObj_heap_same k4).trans HRC.out.symm
                · intro j hj
                  rcases Nat.lt_or_ge j k with g | g
                  · exact HMT.out j g
                  · obtain rfl : j = k := by omega
                    exact HMK2.out
              · refine ⟨⟨?_, ?_, ?_⟩, ?_⟩
                · rw [World.putObj_size]; exact Nat.le_trans (by omega) (size_aft_set _ _ _ _ _)
                · rw [putObj_heap _ _ _ _ (by omega)]; exact (heap_aft_set _ _ _ _ _ _ (by omega) (by omega)).trans (HBO.out _ (by omega) (by omega))
                · rw [putObj_heap _ _ _ _ (by omega)]; exact (heap_aft_set _ _ _ _ _ _ (by omega) (by omega)).trans (HBO.out _ (by omega) (by omega))
                · rw [putObj_heap _ _ _ _ (by omega)]; exact (heap_aft_set _ _ _ _ _ _ (by omega) (by omega)).trans (HBO.out _ (by omega) (by omega))
          · have y2 : (T1 == X2) = false := by simpa using u2
            have y3 : (T1 != X2) = true := by simpa using u2
            have HRF := Lib.hid (show r = false by
              cases hh : r
              · rfl
              · have := HMK.out.1 ((HR.out.1 hh).2 k (by omega)); exact absurd this.1.2 u2)
            gi_wp2
            refine wpIn_region_round (by kernel_rfl) (by kernel_rfl) (by kernel_rfl) ?_
            repeat (go_big_quiet_step (fail))
            refine wpQuiet_nil ?_
            rintro _ ⟨q0, rfl⟩
            gi_wp2
            have k1 := (heap_aft_set Wb (w.heap.size + 1) (.bool false) q0.d q0.os (WS.heap.size + 1) (by omega) (by omega)).trans HBL.out
            have k2 := fun o : Obj => (putObj_heap (Aft (Wb.setCell ⟨w.heap.size + 1, 0, none⟩ (.bool false)) q0.d q0.os) (WS.heap.size + 1) (w.heap.size + 1) o (by omega)).trans (heap_aft_same _ _ (.bool false) _ _ q0.d q0.os HW4.out.2.1)
            have k3 := fun o : Obj => (putObj_heap (Aft (Wb.setCell ⟨w.heap.size + 1, 0, none⟩ (.bool false)) q0.d q0.os) (WS.heap.size + 1) WS.heap.size o (by omega)).trans ((heap_aft_set Wb (w.heap.size + 1) (.bool false) q0.d q0.os WS.heap.size (by omega) (by omega)).trans HDB.out)
            have k4 : WS.heap.size + 1 < (Aft (Wb.setCell ⟨w.heap.size + 1, 0, none⟩ (.bool false)) q0.d q0.os).heap.size := Nat.lt_of_lt_of_le hlpb (size_aft_set _ _ _ _ _)
            refine ⟨by first | exact k1 | (obtain ⟨_, hh⟩ := Array.getElem?_eq_some_iff.1 k1; exact hh), new_putObj ((HNB.out.setCell (by show w.heap.size ≤ w.heap.size + 1; omega) _).aft _ _) _ (by omega), by first | exact k2 _ | (obtain ⟨_, hh⟩ := Array.getElem?_eq_some_iff.1 (k2 _); exact hh), by first | exact k3 _ | (obtain ⟨_, hh⟩ := Array.getElem?_eq_some_iff.1 (k3 _); exact hh), ?_, HRF.out⟩
            rw [← HX.out]
            first | exact World.putObj_heap_same k4 | (obtain ⟨_, hh⟩ := Array.getElem?_eq_some_iff.1 (World.putObj_heap_same (o := .loop (recX _ _ _ _ _ _)) k4); exact hh)
        · have y1 : (F1 == X1) = false := by simpa using u1
          have y3 : (F1 != X1) = true := by simpa using u1
          have HRF := Lib.hid (show r = false by
            cases hh : r
            · rfl
            · have := HMK.out.1 ((HR.out.1 hh).2 k (by omega)); exact absurd this.1.1 u1)
          gi_wp2
          refine wpIn_region_round (by kernel_rfl) (by kernel_rfl) (by kernel_rfl) ?_
          repeat (go_big_quiet_step (fail))
          refine wpQuiet_nil ?_
          rintro _ ⟨q0, rfl⟩
          gi_wp2
          have k1 := (heap_aft_set Wb (w.heap.size + 1) (.bool false) q0.d q0.os (WS.heap.size + 1) (by omega) (by omega)).trans HBL.out
          have k2 := fun o : Obj => (putObj_heap (Aft (Wb.setCell ⟨w.heap.size + 1, 0, none⟩ (.bool false)) q0.d q0.os) (WS.heap.size + 1) (w.heap.size + 1) o (by omega)).trans (heap_aft_same _ _ (.bool false) _ _ q0.d q0.os HW4.out.2.1)
          have k3 := fun o : Obj => (putObj_heap (Aft (Wb.setCell ⟨w.heap.size + 1, 0, none⟩ (.bool false)) q0.d q0.os) (WS.heap.size + 1) WS.heap.size o (by omega)).trans ((heap_aft_set Wb (w.heap.size + 1) (.bool false) q0.d q0.os WS.heap.size (by omega) (by omega)).trans HDB.out)
          have k4 : WS.heap.size + 1 < (Aft (Wb.setCell ⟨w.heap.size + 1, 0, none⟩ (.bool false)) q0.d q0.os).heap.size := Nat.lt_of_lt_of_le hlpb (size_aft_set _ _ _ _ _)
          refine ⟨by first | exact k1 | (obtain ⟨_, hh⟩ := Array.getElem?_eq_some_iff.1 k1; exact hh), new_putObj ((HNB.out.setCell (by show w.heap.size ≤ w.heap.size + 1; omega) _).aft _ _) _ (by omega), by first | exact k2 _ | (obtain ⟨_, hh⟩ := Array.getElem?_eq_some_iff.1 (k2 _); exact hh), by first | exact k3 _ | (obtain ⟨_, hh⟩ := Array.getElem?_eq_some_iff.1 (k3 _); exact hh), ?_, HRF.out⟩
          rw [← HX.out]
          first | exact World.putObj_heap_same k4 | (obtain ⟨_, hh⟩ := Array.getElem?_eq_some_iff.1 (World.putObj_heap_same (o := .loop (recX _ _ _ _ _ _)) k4); exact hh)
    · rintro e W' ⟨⟨v, rfl⟩, ⟨p, W0, hI, hn0⟩ | ⟨W0, ⟨x1, x2, x3, x4, x5⟩, hn0⟩⟩
      · rw [HF.out] at hI
        unfold SameJ at hI
        obtain ⟨hnw, ⟨j0, j1, j2, j3⟩, hdf, hrc, hp2, hkN, hmt⟩ := hI
        have e : ∀ k, k < W0.heap.size → W'.heap[k]? = W0.heap[k]? := HOLD.out _ _ hn0
        have hs0 := hnw.size
        have hlp : WS.heap.size + 1 < W0.heap.size := by
          have h1 := HRC.out
          rw [← hrc] at h1
          exact (Array.getElem?_eq_some_iff.1 h1).1
        have hl1 := (e _ hlp).trans (hrc.trans HRC.out)
        exact ⟨⟨v, rfl⟩, .inl ⟨⟨hnw.trans hn0, ⟨(e _ (by omega)).trans j0, (e _ (by omega)).trans j1, (e _ (by omega)).trans j2⟩, (e _ (by omega)).trans hdf, ⟨_, hl1⟩, hkN, hmt⟩, hl1⟩⟩
      · have e : ∀ k, k < W0.heap.size → W'.heap[k]? = W0.heap[k]? := HOLD.out _ _ hn0
        have hlp := (Array.getElem?_eq_some_iff.1 x4).1
        have hl1 := (e _ hlp).trans x4
        exact ⟨⟨v, rfl⟩, .inr ⟨⟨x1.trans hn0, (e _ (by omega)).trans x2, (e _ (by omega)).trans x3, ⟨_, hl1⟩, x5⟩, hl1⟩⟩
  case hdone =>
    rintro W o ⟨hnw, ⟨g0, g1, g2⟩, hdf, ⟨r0, hr0⟩, hMN, hmt⟩
    obtain ⟨Wf, HWf⟩ : ∃ Wf, Hid (Wf = W.putObj (WS.heap.size + 1) o) := ⟨_, Lib.hid rfl⟩
    rw [← HWf.out]
    have hsn := HNS.out.size
    have hsw := hnw.size
    have hbl := (Array.getElem?_eq_some_iff.1 hr0).1
    have hszf : WS.heap.size + 1 < Wf.heap.size := by rw [HWf.out, World.putObj_size]; exact hbl
    have HDF := Lib.hid (show Wf.heap[WS.heap.size]? = some (.deferred (some [])) by rw [HWf.out, putObj_heap _ _ _ _ (by omega)]; exact hdf)
    have HNW := Lib.hid (show New w Wf by rw [HWf.out]; exact new_putObj hnw _ (by omega))
    have HG1 := Lib.hid (show Wf.heap[w.heap.size + 1]? = some (.cells #[.bool false] 4 (0, 0)) by rw [HWf.out, putObj_heap _ _ _ _ (by omega)]; exact g1)
    have cC : Wf.cell? ⟨w.heap.size, 0, none⟩ = some (.slice cv N cc) := by
      have h1 : Wf.heap[w.heap.size]? = some (.cells #[.slice cv N cc] 65 (0, 0)) := by rw [HWf.out, putObj_heap _ _ _ _ (by omega)]; exact g0
      simp [World.cell?, h1]
    have cR : Wf.cell? ⟨w.heap.size + 1, 0, none⟩ = some (.bool false) ∧ Wf.frozen? ⟨w.heap.size + 1, 0, none⟩ = false := by
      have h1 := HG1.out
      simp [World.cell?, World.frozen?, h1]
    have cI : Wf.cell? ⟨w.heap.size + 2, 0, none⟩ = some (.int .i64 M) := by
      have h1 : Wf.heap[w.heap.size + 2]? = some (.cells #[.int .i64 M] 3 (0, 0)) := by rw [HWf.out, putObj_heap _ _ _ _ (by omega)]; exact g2
      simp [World.cell?, h1]
    obtain ⟨cR1, cR2⟩ := cR
    have HRV := Lib.hid (show ((M : Int) == (N : Int)) = r by
      by_cases hq : M = N
      · have : r = true := HR.out.2 ⟨hq.symm, fun j hj => hmt j (by omega)⟩
        rw [this]; simpa using (show (M : Int) = N by omega)
      · have : r = false := by
          cases hh : r
          · rfl
          · exact absurd (HR.out.1 hh).1.symm hq
        rw [this]; simpa using (show ¬ (M : Int) = N by omega))
    clear hnw g0 g1 g2 hdf hr0 hmt
    gi_wp2
    have HD2 := Lib.hid (show (Wf.setCell ⟨w.heap.size + 1, 0, none⟩ (.bool ((M : Int) == (N : Int)))).heap[WS.heap.size]? = some (.deferred (some [])) from (heap_setCell_other _ _ _ _ _ (by omega)).trans HDF.out)
    refine ⟨by simp, .inl ⟨_, _, rfl, run_takeDeferred HD2.out, ?_⟩⟩
    have hcell : ((Wf.setCell ⟨w.heap.size + 1, 0, none⟩ (.bool ((M : Int) == (N : Int)))).putObj WS.heap.size (.deferred none)).cell? ⟨w.heap.size + 1, 0, none⟩ = some (.bool ((M : Int) == (N : Int))) := by
      have h1 : ((Wf.setCell ⟨w.heap.size + 1, 0, none⟩ (.bool ((M : Int) == (N : Int)))).putObj WS.heap.size (.deferred none)).heap[w.heap.size + 1]? = some (.cells #[.bool ((M : Int) == (N : Int))] 4 (0, 0)) := (putObj_heap _ _ _ _ (by omega)).trans (heap_setCell_same Wf _ 0 _ HG1.out)
      simp [World.cell?, h1]
    rw [HRV.out] at hcell ⊢
    refine ⟨.bool r, by simp [results, Tryz.results150, go_sem, hcell], rfl, new_putObj (HNW.out.setCell (by show w.heap.size ≤ w.heap.size + 1; omega) _) _ hsn⟩
  case hstop =>
    rintro W o ⟨hnw, g1, hdf, ⟨r0, hr0⟩, hrf⟩
    obtain ⟨Wf, HWf⟩ : ∃ Wf, Hid (Wf = W.putObj (WS.heap.size + 1) o) := ⟨_, Lib.hid rfl⟩
    rw [← HWf.out]
    have hsn := HNS.out.size
    have HDF := Lib.hid (show Wf.heap[WS.heap.size]? = some (.deferred (some [])) by rw [HWf.out, putObj_heap _ _ _ _ (by omega)]; exact hdf)
    have HNW := Lib.hid (show New w Wf by rw [HWf.out]; exact new_putObj hnw _ (by omega))
    have HG1 := Lib.hid (show Wf.heap[w.heap.size + 1]? = some (.cells #[.bool false] 4 (0, 0)) by rw [HWf.out, putObj_heap _ _ _ _ (by omega)]; exact g1)
    gi_wp2
    refine ⟨by simp, .inl ⟨_, _, rfl, run_takeDeferred HDF.out, ?_⟩⟩
    have hcell : (Wf.putObj WS.heap.size (.deferred none)).cell? ⟨w.heap.size + 1, 0, none⟩ = some (.bool false) := by
      have h1 : (Wf.putObj WS.heap.size (.deferred none)).heap[w.heap.size + 1]? = some (.cells #[.bool false] 4 (0, 0)) := (putObj_heap _ _ _ _ (by omega)).trans HG1.out
      simp [World.cell?, h1]
    refine ⟨.bool false, by simp [results, Tryz.results150, go_sem, hcell], ?_, new_putObj HNW.out _ hsn⟩
    rw [hrf]

end Go.Proofs.YtpdfbboagaflhaaGreat

set_option linter.unusedSimpArgs false
set_option linter.unusedVariables false
namespace Go.Proofs.YtpdfbboagaflhaaGreat
open Go.RowKit

theorem sortI_mem {l : List Int} {x : Int} : x ∈ sortI l ↔ x ∈ l := List.mem_mergeSort
theorem sortI_le (l : List Int) : (sortI l).Pairwise (· ≤ ·) := by
  have := List.pairwise_mergeSort (le := fun x y : Int => decide (x ≤ y)) (fun a b c h1 h2 => by simp at *; omega) (fun a b => by simp; omega) l
  exact this.imp (fun h => by simpa using h)
theorem compact_lt {zs : List Int} (hs : zs.Pairwise (· ≤ ·)) : (Lib.compact zs).Pairwise (· < ·) := by
  unfold Lib.compact Lib.compactUpTo
  rw [List.pairwise_map]
  have hle : ∀ i j, i ≤ j → j < zs.length → zs.toArray[i]! ≤ zs.toArray[j]! := by
    intro i j hij hj
    rcases Nat.lt_or_ge i j with g | g
    · have := List.pairwise_iff_getElem.1 hs i j (by omega) hj g
      simpa [getElem!_pos, show i < zs.length by omega, hj] using this
    · obtain rfl : i = j := by omega
      exact Int.le_refl _
  refine List.Pairwise.imp_of_mem ?_ ((List.pairwise_lt_range).filter _)
  intro i j hi hj hij
  obtain ⟨_, h1⟩ := List.mem_filter.1 hi
  obtain ⟨h2, h3⟩ := List.mem_filter.1 hj
  rw [List.mem_range] at h2
  have h4 : zs.toArray[j]! ≠ zs.toArray[j - 1]! := by
    simp only [Lib.keeps, decide_eq_true_eq] at h3
    rcases h3 with h3 | h3
    · omega
    · exact h3
  have a1 := hle i (j - 1) (by omega) (by omega)
  have a2 := hle (j - 1) j (by omega) h2
  omega
theorem compact_mem {zs : List Int} {x : Int} : x ∈ Lib.compact zs ↔ x ∈ zs := by
  unfold Lib.compact Lib.compactUpTo
  rw [List.mem_map]
  constructor
  · rintro ⟨i, hi, rfl⟩
    obtain ⟨h1, _⟩ := List.mem_filter.1 hi
    rw [List.mem_range] at h1
    simp [getElem!_pos, h1]
  · intro hx
    obtain ⟨i, hi, rfl⟩ := List.getElem_of_mem hx
    induction i with
    | zero => exact ⟨0, List.mem_filter.2 ⟨List.mem_range.2 hi, by simp [Lib.keeps]⟩, by simp [getElem!_pos, hi]⟩
    | succ i ih =>
      by_cases he : zs[i + 1] = zs[i]
      · obtain ⟨j, hj, e⟩ := ih (by omega) (List.getElem_mem _)
        exact ⟨j, hj, by rw [e, he]⟩
      · refine ⟨i + 1, List.mem_filter.2 ⟨List.mem_range.2 hi, ?_⟩, by simp [getElem!_pos, hi]⟩
        simp only [Lib.keeps, decide_eq_true_eq]
        right
        simpa [getElem!_pos, hi, show i < zs.length by omega] using he
theorem xsTo_mem {l : List S4} {x : Int} : ∀ {n : Nat}, x ∈ xsTo l n ↔ ∃ i, i < n ∧ (x = q1 l i ∨ x = q3 l i)
  | 0 => by simp [xsTo]
  | n + 1 => by
    simp only [xsTo, List.mem_append, List.mem_cons, List.not_mem_nil, or_false]
    rw [xsTo_mem (n := n)]
    constructor
    · rintro (⟨i, h1, h2⟩ | h)
      · exact ⟨i, by omega, h2⟩
      · exact ⟨n, by omega, h⟩
    · rintro ⟨i, h1, h2⟩
      rcases Nat.lt_or_ge i n with g | g
      · exact .inl ⟨i, g, h2⟩
      · obtain rfl : i = n := by omega
        exact .inr h2
theorem endXs_mem {l : List S4} {x : Int} : x ∈ endXsL l ↔ ∃ i, i < l.length ∧ (x = q1 l i ∨ x = q3 l i) := by
  unfold endXsL
  rw [compact_mem, sortI_mem, xsTo_mem]
theorem xAt_mem {l : List S4} {k : Nat} (h : k < (endXsL l).length) : xAt l k ∈ endXsL l := by
  unfold xAt; rw [List.getD_eq_getElem?_getD, List.getElem?_eq_getElem h]; exact List.getElem_mem h
theorem xAt_lt {l : List S4} {i j : Nat} (hij : i < j) (hj : j < (endXsL l).length) : xAt l i < xAt l j := by
  have hp : (endXsL l).Pairwise (· < ·) := compact_lt (sortI_le _)
  have := List.pairwise_iff_getElem.1 hp i j (by omega) hj hij
  unfold xAt
  simpa [List.getD_eq_getElem?_getD, hj, show i < (endXsL l).length by omega] using this
theorem xAt_bd {l : List S4} (hok : okSegs l = true) {k : Nat} (h : k < (endXsL l).length) : 0 ≤ xAt l k ∧ xAt l k ≤ 10000 := by
  obtain ⟨i, hi, h2⟩ := endXs_mem.1 (xAt_mem h)
  obtain ⟨⟨o1, _⟩, ⟨o3, _⟩, _⟩ := okS_iff.1 (okSegs_at l i hi hok)
  rcases h2 with e | e <;> omega

/-- the strips of C are those that they are to be -/
structure StripsAre (l : List S4) (C : List SV) : Prop where
  len : C.length = (endXsL l).length - 1
  mt : ∀ j, j < C.length → mtS l C j
section
variable {l : List S4} {C : List SV}
theorem StripsAre.bd (h : StripsAre l C) (hok : okSegs l = true) {j : Nat} (hj : j < C.length) : (0 ≤ sF C j ∧ sF C j ≤ 10000) ∧ (0 ≤ sT C j ∧ sT C j ≤ 10000) ∧ sF C j < sT C j := by
  have hl := h.len
  obtain ⟨⟨e1, e2⟩, _⟩ := h.mt j hj
  rw [e1, e2]
  exact ⟨xAt_bd hok (by omega), xAt_bd hok (by omega), xAt_lt (by omega) (by omega)⟩
theorem StripsAre.up (h : StripsAre l C) {i j : Nat} (hij : i < j) (hj : j < C.length) : sT C i < sT C j := by
  have hl := h.len
  obtain ⟨⟨_, e1⟩, _⟩ := h.mt i (by omega)
  obtain ⟨⟨_, e2⟩, _⟩ := h.mt j hj
  rw [e1, e2]
  exact xAt_lt (by omega) (by omega)
theorem spanTo_span {l : List S4} {f t : Int} : ∀ {n : Nat} {x : Int}, x ∈ spanTo l f t n ↔ ∃ i : Nat, x = i ∧ i < n ∧ spanAt l f t i = true
  | 0, x => by simp [spanTo]
  | n + 1, x => by
    simp only [spanTo]
    split
    · rename_i hs
      rw [List.mem_append, spanTo_span (n := n)]
      simp only [List.mem_cons, List.not_mem_nil, or_false]
      constructor
      · rintro (⟨i, h1, h2, h3⟩ | h)
        · exact ⟨i, h1, by omega, h3⟩
        · exact ⟨n, h, by omega, hs⟩
      · rintro ⟨i, h1, h2, h3⟩
        rcases Nat.lt_or_ge i n with g | g
        · exact .inl ⟨i, h1, g, h3⟩
        · obtain rfl : i = n := by omega
          exact .inr h1
    · rename_i hs
      rw [spanTo_span (n := n)]
      constructor
      · rintro ⟨i, h1, h2, h3⟩; exact ⟨i, h1, by omega, h3⟩
      · rintro ⟨i, h1, h2, h3⟩
        rcases Nat.lt_or_ge i n with g | g
        · exact ⟨i, h1, g, h3⟩
        · obtain rfl : i = n := by omega
          exact absurd h3 hs
theorem StripsAre.mem (h : StripsAre l C) {j : Nat} (hj : j < C.length) {x : Int} : x ∈ sL C j ↔ ∃ i : Nat, x = i ∧ i < l.length ∧ spanAt l (sF C j) (sT C j) i = true := by
  obtain ⟨⟨e1, e2⟩, e3⟩ := h.mt j hj
  rw [← sortI_mem, e3, e1, e2]
  exact spanTo_span
theorem StripsAre.at (h : StripsAre l C) {j : Nat} (hj : j < C.length) {i : Nat} (hi : i < (sL C j).length) : (0 ≤ (sL C j).getD i 0 ∧ (sL C j).getD i 0 < (l.length : Int)) ∧ spanAt l (sF C j) (sT C j) ((sL C j).getD i 0).toNat = true := by
  have hm : (sL C j).getD i 0 ∈ sL C j := by rw [List.getD_eq_getElem?_getD, List.getElem?_eq_getElem hi]; exact List.getElem_mem hi
  obtain ⟨k, e, hk, hs⟩ := (h.mem hj).1 hm
  rw [e]
  exact ⟨⟨by omega, by omega⟩, by simpa using hs⟩
theorem StripsAre.idx (h : StripsAre l C) {n : Nat} (hn : l.length = n) {j : Nat} (hj : j < C.length) : Idx (sL C j) n := fun i hi => by
  have := (h.at hj hi).1; omega
theorem StripsAre.small (h : StripsAre l C) {j : Nat} (hj : j < C.length) : (sL C j).length ≤ l.length := by
  obtain ⟨_, e3⟩ := h.mt j hj
  have := congrArg List.length e3
  rw [sortI_length] at this
  rw [this]
  exact spanTo_le _ _ _ _
theorem StripsAre.pos (h : StripsAre l C) (hok : okSegs l = true) {j : Nat} (hj : j < C.length) {i : Nat} (hi : i < (sL C j).length) : 0 < hD l (sL C j) i := by
  obtain ⟨_, hs⟩ := h.at hj hi
  have hlt := (h.bd hok hj).2.2
  unfold spanAt at hs
  simp only [Bool.and_eq_true, decide_eq_true_eq] at hs
  unfold hD hgtW hW
  obtain ⟨e1, e2⟩ := f_minmax (q1 l ((sL C j).getD i 0).toNat) (q2 l ((sL C j).getD i 0).toNat) (q3 l ((sL C j).getD i 0).toNat) (q4 l ((sL C j).getD i 0).toNat)
  rw [e1, e2]
  omega
end
/-- a cut among ascending values -/
theorem cut_of (p : Nat → Bool) (n : Nat) (hm : ∀ i, i + 1 < n → p i = true → p (i + 1) = true) : ∃ c, c ≤ n ∧ ∀ i, i < n → p i = decide (c ≤ i) := by
  induction n with
  | zero => exact ⟨0, Nat.le_refl _, fun i h => by omega⟩
  | succ n ih =>
    obtain ⟨c, hc, h⟩ := ih (fun i hi => hm i (by omega))
    cases hp : p n
    · refine ⟨n + 1, Nat.le_refl _, fun i hi => ?_⟩
      rcases Nat.lt_or_ge i n with g | g
      · rw [h i g]
        by_cases hci : c ≤ i
        · exfalso
          have e : ∀ d, i + d < n → p (i + d) = true := by
            intro d
            induction d with
            | zero => intro _; rw [Nat.add_zero, h i g]; simpa using hci
            | succ d ihd => intro hd; exact hm (i + d) (by omega) (ihd (by omega))
          have h2 := e (n - 1 - i) (by omega)
          have h3 := hm (n - 1) (by omega) (by rw [show n - 1 = i + (n - 1 - i) by omega]; exact h2)
          rw [show n - 1 + 1 = n by omega, hp] at h3
          cases h3
        · simp; omega
      · obtain rfl : i = n := by omega
        rw [hp]; simp
    · rcases Nat.lt_or_ge c n with g | g
      · refine ⟨c, by omega, fun i hi => ?_⟩
        rcases Nat.lt_or_ge i n with g2 | g2
        · exact h i g2
        · obtain rfl : i = n := by omega
          rw [hp]; simp; omega
      · obtain rfl : c = n := by omega
        refine ⟨c, by omega, fun i hi => ?_⟩
        rcases Nat.lt_or_ge i c with g2 | g2
        · exact h i g2
        · obtain rfl : i = c := by omega
          rw [hp]; simp
/-- a segment of the strip k passes inside a vertical one -/
def CrsK (l : List S4) (L : List Int) (v1 v2 v4 : Int) : Prop := ∃ i, i < L.length ∧ 0 < pastB l L v1 v2 i ∧ (∀ j, j ≤ i → 0 < pastB l L v1 v2 j → pastB l L v1 v4 j < 0) ∧ freeAt l L v1 i = true
def Crs (l : List S4) (C : List SV) (v1 v2 v4 : Int) : Prop := ∃ k, k < C.length ∧ sT C k = v1 ∧ CrsK l (sL C k) v1 v2 v4
theorem ris_step {l : List S4} {L : List Int} {f t : Int} (h : risB l L f t = true) {p : Nat} (hp : p + 1 < L.length) : cmA l L (2 * f) p (p + 1) ≤ 0 ∧ cmA l L (2 * t) p (p + 1) ≤ 0 ∧ ¬ (cmA l L (2 * f) p (p + 1) = 0 ∧ cmA l L (2 * t) p (p + 1) = 0) := by
  unfold risB at h
  have h1 : badR l L f t p = false := by
    cases hb : badR l L f t p
    · rfl
    · rw [any_hit' (show p < L.length - 1 by omega) hb] at h; cases h
  unfold badR at h1
  simp only [Bool.or_eq_false_iff, decide_eq_false_iff_not, Bool.and_eq_false_iff, beq_eq_false_iff_ne, ne_eq] at h1
  omega
theorem past_up {l : List S4} {L : List Int} {f t : Int} (h : risB l L f t = true) (hpos : ∀ i, i < L.length → 0 < hD l L i) (y : Int) {p : Nat} (hp : p + 1 < L.length) (h0 : 0 < pastB l L t y p) : 0 < pastB l L t y (p + 1) := by
  obtain ⟨_, h2, _⟩ := ris_step h hp
  have d1 := hpos p (by omega)
  have d2 := hpos (p + 1) hp
  unfold pastB at *
  unfold cmA at h2
  unfold cmpR at *
  generalize hA l L (2 * t) p = A at *
  generalize hA l L (2 * t) (p + 1) = B at *
  generalize hD l L p = D at *
  generalize hD l L (p + 1) = E at *
  have k1 : y * D < A * 1 := by unfold cmpI at h0; split at h0; omega; split at h0 <;> omega
  have k2 : A * E ≤ B * D := by unfold cmpI at h2; split at h2; omega; split at h2 <;> omega
  have := (fr_trans (a := y) (b := 1) (c := A) (d := D) (e := B) (f := E) (by omega) d1 d2 (by omega) k2).2 (.inl (by omega))
  unfold cmpI
  split
  · omega
  · first | omega | (split <;> omega)

end Go.Proofs.YtpdfbboagaflhaaGreat

set_option linter.unusedSimpArgs false
set_option linter.unusedVariables false
set_option maxRecDepth 100000
namespace Go.Proofs.YtpdfbboagaflhaaGreat
open Go.RowKit

theorem crossed_v (b off n c N cc : Nat) (cv : Option Addr) (l : List S4) (C : List SV) (v1 v2 v3 v4 : Int) (w : World) (hl : n ≤ 1000000) (hw : Segs w b off n l) (hok : okSegs l = true) (hCn : C.length = N) (hN : N ≤ 1000000) (hC : 0 < N → ∃ cb co, cv = some ⟨cb, co, none⟩ ∧ Strps w cb co N C) (hS : StripsAre l C) (hR : ∀ j, j < N → risB l (sL C j) (sF C j) (sT C j) = true)
    (h1 : 0 ≤ v1 ∧ v1 ≤ 10000) (h2 : 0 ≤ v2 ∧ v2 ≤ 10000) (h4 : 0 ≤ v4 ∧ v4 ≤ 10000) (r : Bool) (hr : r = true ↔ Crs l C v1 v2 v4) :
    Calls Tryz.prog 155 #[.slice (some ⟨b, off, none⟩) n c, .slice cv N cc, sv v1 v2 v3 v4] w fun e w' => e = .returned (.bool r) ∧ New w w' := by
  have hn := hw.1
  by_cases h0 : 0 < N
  · obtain ⟨cb, co, rfl, hst⟩ := hC h0
    obtain ⟨k, hk, hcut⟩ := cut_of (fun i => decide (v1 ≤ sT C i)) N (fun i hi h => by
      have := hS.up (show i < i + 1 by omega) (by omega)
      simp only [decide_eq_true_eq] at h ⊢; omega)
    have hlo : ∀ i, i < k → sT C i < v1 := fun i hi => by
      have := hcut i (by omega)
      rw [show decide (k ≤ i) = false by simpa using hi] at this
      simp only [decide_eq_false_iff_not] at this; omega
    have hhi : ∀ i, k ≤ i → i < N → v1 ≤ sT C i := fun i h1 h2 => by
      have := hcut i h2
      rw [show decide (k ≤ i) = true by simpa using h1] at this
      simpa using this
    by_cases hkk : k < N ∧ sT C k = v1
    · obtain ⟨hkN, rfl⟩ := hkk
      have hkC : k < C.length := by omega
      have hpos := fun i hi => hS.pos hok hkC (i := i) hi
      obtain ⟨s, hs, hsc⟩ := cut_of (fun i => decide (0 < pastB l (sL C k) (sT C k) v2 i)) (sL C k).length (fun i hi h => by
        simp only [decide_eq_true_eq] at h ⊢
        exact past_up (hR k hkN) hpos v2 hi h)
      have hsm := hS.small hkC
      refine crossed_yes b off n c cb co N cc k s l C (sT C k) v2 v3 v4 w hN hw hok hst hkN h1 h2 h4 (by omega) (hS.idx hn hkC) hs hsc r ?_ (Lib.hid (fun w1 hw1 => ?_))
      · rw [hr]
        constructor
        · rintro ⟨k2, a1, a2, i, b1, b2, b3, b4⟩
          obtain rfl : k2 = k := by
            rcases Nat.lt_trichotomy k2 k with g | g | g
            · have := hS.up g hkC; omega
            · exact g
            · have := hS.up g a1; omega
          refine ⟨i, ?_, b1, fun j hj1 hj2 => b3 j hj2 ?_, b4⟩
          · have := hsc i b1
            rw [show decide (0 < pastB l (sL C k2) (sT C k2) v2 i) = true by simpa using b2] at this
            simpa using this.symm
          · have := hsc j (by omega)
            rw [show decide (s ≤ j) = true by simpa using hj1] at this
            simpa using this
        · rintro ⟨i, b1, b2, b3, b4⟩
          refine ⟨k, hkC, rfl, i, b2, ?_, fun j hj1 hj2 => b3 j ?_ hj1, b4⟩
          · have := hsc i b2
            rw [show decide (s ≤ i) = true by simpa using b1] at this
            simpa using this
          · have := hsc j (by omega)
            rw [show decide (0 < pastB l (sL C k) (sT C k) v2 j) = true by simpa using hj2] at this
            simpa using this.symm
      · have := bsearch_c cb co N cc k C (sT C k) w1 hN (hst.new hw1) hk hlo hhi
        rwa [show (decide (k < N) && (sT C k == sT C k)) = true by simp [hkN]] at this
    · have hrf : r = false := by
        cases hh : r
        · rfl
        · obtain ⟨k2, a1, a2, _⟩ := hr.1 hh
          exfalso
          have hk2 : k ≤ k2 := by
            rcases Nat.lt_or_ge k2 k with g | g
            · have := hlo k2 g; omega
            · exact g
          have hkN : k < N := by omega
          have e1 := hhi k (Nat.le_refl _) hkN
          rcases Nat.lt_or_ge k k2 with g | g
          · have := hS.up g a1; omega
          · obtain rfl : k2 = k := by omega
            exact hkk ⟨hkN, a2⟩
      rw [hrf]
      refine crossed_no (some ⟨b, off, none⟩) (some ⟨cb, co, none⟩) n c N cc k v1 v2 v3 v4 w (Lib.hid (fun w1 hw1 => ?_))
      have := bsearch_c cb co N cc k C v1 w1 hN (hst.new hw1) hk hlo hhi
      rwa [show (decide (k < N) && (sT C k == v1)) = false by
        cases hd : decide (k < N) && (sT C k == v1)
        · rfl
        · exact absurd (by simpa using hd) hkk] at this
  · obtain rfl : N = 0 := by omega
    have hrf : r = false := by
      cases hh : r
      · rfl
      · obtain ⟨k2, a1, _⟩ := hr.1 hh
        omega
    rw [hrf]
    exact crossed_no (some ⟨b, off, none⟩) cv n c 0 cc 0 v1 v2 v3 v4 w (Lib.hid (fun w1 hw1 => bsearch_nil cv cc v1 _ w1))

theorem upL_bd {l : List S4} (hok : okSegs l = true) {u : Nat} (hu : u < (upL l).length) : ((0 ≤ q1 (upL l) u ∧ q1 (upL l) u ≤ 10000) ∧ 0 ≤ q2 (upL l) u ∧ q2 (upL l) u ≤ 10000) ∧ (0 ≤ q3 (upL l) u ∧ q3 (upL l) u ≤ 10000) ∧ 0 ≤ q4 (upL l) u ∧ q4 (upL l) u ≤ 10000 := by
  have hv : ∀ n, n ≤ l.length → ∀ s ∈ vertTo l n, ((0 ≤ s.1 ∧ s.1 ≤ 10000) ∧ 0 ≤ s.2.1 ∧ s.2.1 ≤ 10000) ∧ (0 ≤ s.2.2.1 ∧ s.2.2.1 ≤ 10000) ∧ 0 ≤ s.2.2.2 ∧ s.2.2.2 ≤ 10000 := by
    intro n
    induction n with
    | zero => intro _ s hs; simp [vertTo] at hs
    | succ n ih =>
      intro hn s hs
      simp only [vertTo] at hs
      split at hs
      · rcases List.mem_append.1 hs with h | h
        · exact ih (by omega) s h
        · obtain rfl : s = fwdAt l n := by simpa using h
          obtain ⟨⟨o1, o2⟩, ⟨o3, o4⟩, _⟩ := okS_iff.1 (okSegs_at l n (by omega) hok)
          obtain ⟨k1, k2, k3, k4⟩ := f_bd 0 10000 (q1 l n) (q2 l n) (q3 l n) (q4 l n) o1 o2 o3 o4
          exact ⟨⟨k1, k2⟩, k3, k4⟩
      · exact ih (by omega) s hs
  have hm : (upL l).getD u (0, 0, 0, 0) ∈ vertTo l l.length := by
    have : (upL l).getD u (0, 0, 0, 0) ∈ upL l := by rw [List.getD_eq_getElem?_getD, List.getElem?_eq_getElem hu]; exact List.getElem_mem hu
    exact List.mem_mergeSort.1 this
  exact hv _ (Nat.le_refl _) _ hm

/-- what CheckSweep asks of one strip -/
def stripB (l : List S4) (C : List SV) (j : Nat) : Prop := (risB l (sL C j) (sF C j) (sT C j) = true ∧ crowB l (sL C j) (sF C j) = false) ∧ crowB l (sL C j) (sT C j) = false
structure ChkOk (l : List S4) (C : List SV) : Prop where
  segs : ckSegs l = 0
  are : StripsAre l C
  each : ∀ j, j < C.length → stripB l C j
  over : ovB (upL l) = false
  vert : ∀ u, u < (upL l).length → ¬ Crs l C (q1 (upL l) u) (q2 (upL l) u) (q4 (upL l) u)

set_option maxHeartbeats 4000000 in
theorem checkSweep_no (A cv : Option Addr) (n cp N cc : Nat) (K : Int) (w : World) (hK : K ≠ 0)
    (HC : Hid (∀ w1 : World, New w w1 → Calls Tryz.prog 135 #[.slice A n cp] w1 fun en w' => en = .returned (.int .i64 K) ∧ New w1 w')) :
    Calls Tryz.prog 73 #[.slice A n cp, .slice cv N cc] w fun e w' => e = .returned (.bool false) ∧ New w w' := by
  have z1 : (K == 0) = false := by simpa using hK
  have z2 : (K != 0) = true := by simpa using hK
  go_enter Tryz.func73, Tryz.ntmps73
  go_wp2_with (go_at_call 135; refine (HC.out _ (by (repeat (first | exact New.refl _ | apply New.alloc | apply New.aft | apply New.drew | refine New.setCell ?_ ?_ _)); all_goals (first | done | (simp [size_aft]; done) | (simp [size_aft]; omega)))).mono ?_; rintro en w1 ⟨rfl, pw, rfl⟩)
  all_goals (go_ret; exact ⟨rfl, (by (repeat (first | exact New.refl _ | apply New.alloc | apply New.aft | apply New.drew | refine New.setCell ?_ ?_ _)); all_goals (first | done | (simp [size_aft]; done) | (simp [size_aft]; omega)))⟩)
set_option maxHeartbeats 4000000 in
theorem checkSweep_bad (A cv : Option Addr) (n cp N cc : Nat) (w : World)
    (HC : Hid (∀ w1 : World, New w w1 → Calls Tryz.prog 135 #[.slice A n cp] w1 fun en w' => en = .returned (.int .i64 0) ∧ New w1 w'))
    (HS : Hid (∀ w1 : World, New w w1 → Calls Tryz.prog 150 #[.slice A n cp, .slice cv N cc] w1 fun en w' => en = .returned (.bool false) ∧ New w1 w')) :
    Calls Tryz.prog 73 #[.slice A n cp, .slice cv N cc] w fun e w' => e = .returned (.bool false) ∧ New w w' := by
  go_enter Tryz.func73, Tryz.ntmps73
  go_wp2_with (first | (go_at_call 135; refine (HC.out _ (by (repeat (first | exact New.refl _ | apply New.alloc | apply New.aft | apply New.drew | refine New.setCell ?_ ?_ _)); all_goals (first | done | (simp [size_aft]; done) | (simp [size_aft]; omega)))).mono ?_; rintro en w1 ⟨rfl, pw, rfl⟩) | (go_at_call 150; refine (HS.out _ (by (repeat (first | exact New.refl _ | apply New.alloc | apply New.aft | apply New.drew | refine New.setCell ?_ ?_ _)); all_goals (first | done | (simp [size_aft]; done) | (simp [size_aft]; omega)))).mono ?_; rintro en w1 ⟨rfl, pw2, rfl⟩))
  all_goals (go_ret; exact ⟨rfl, (by (repeat (first | exact New.refl _ | apply New.alloc | apply New.aft | apply New.drew | refine New.setCell ?_ ?_ _)); all_goals (first | done | (simp [size_aft]; done) | (simp [size_aft]; omega)))⟩)

set_option maxHeartbeats 16000000 in
theorem checkSweep_go (b off n cp N cc : Nat) (cv : Option Addr) (l : List S4) (C : List SV) (w : World) (h0 : 0 < n) (hw : Segs w b off n l) (hCn : C.length = N) (hN : N ≤ 1000000) (hC : 0 < N → ∃ cb co, cv = some ⟨cb, co, none⟩ ∧ Strps w cb co N C)
    (hck : ckSegs l = 0) (hS : StripsAre l C) (r : Bool) (hr : r = true ↔ ChkOk l C)
    (HSM : Hid (∀ w1 : World, New w w1 → Calls Tryz.prog 150 #[.slice (some ⟨b, off, none⟩) n cp, .slice cv N cc] w1 fun en w' => en = .returned (.bool true) ∧ New w1 w')) :
    Calls Tryz.prog 73 #[.slice (some ⟨b, off, none⟩) n cp, .slice cv N cc] w fun e w' => e = .returned (.bool r) ∧ New w w' := by
  have hn := hw.1
  obtain ⟨hl4, hok⟩ : (n : Int) ≤ 400 ∧ okSegs l = true := by
    unfold ckSegs at hck
    split at hck
    · cases hck
    · split at hck
      · rename_i g1 g2; exact ⟨by omega, g2⟩
      · cases hck
  have HCK := Lib.hid (fun (w1 : World) (h1 : New w w1) => by have := checkSegs_c b off n cp l w1 (by omega) (hw.new h1); rw [hck] at this; exact this)
  have HVE := Lib.hid (fun (w1 : World) (h1 : New w w1) => verticals_c b off n cp l w1 (by omega) (hw.new h1))
  have HRI := Lib.hid (fun (k : Nat) (hk : k < N) (v : Value) (w1 : World) (h1 : New w w1) (hv : IntsA w1 v (sL C k)) => rising_c b off n cp l (sL C k) (sF C k) (sT C k) v w1 (by have := hS.small (show k < C.length by omega); omega) (hw.new h1) hv (hS.idx hn (by omega)) hok (hS.bd hok (show k < C.length by omega)).1 (hS.bd hok (show k < C.length by omega)).2.1)
  have HCF := Lib.hid (fun (k : Nat) (hk : k < N) (v : Value) (w1 : World) (h1 : New w w1) (hv : IntsA w1 v (sL C k)) => crowded_c b off n cp l (sL C k) (sF C k) v w1 (by have := hS.small (show k < C.length by omega); omega) (hw.new h1) hv (hS.idx hn (by omega)) hok (hS.bd hok (show k < C.length by omega)).1)
  have HCT := Lib.hid (fun (k : Nat) (hk : k < N) (v : Value) (w1 : World) (h1 : New w w1) (hv : IntsA w1 v (sL C k)) => crowded_c b off n cp l (sL C k) (sT C k) v w1 (by have := hS.small (show k < C.length by omega); omega) (hw.new h1) hv (hS.idx hn (by omega)) hok (hS.bd hok (show k < C.length by omega)).2.1)
  have HFT := Lib.hid (fun (k : Nat) (hk : k < N) => (hS.bd hok (show k < C.length by omega)).2.2)
  have HCR := Lib.hid (fun (hR : ∀ j, j < N → risB l (sL C j) (sF C j) (sT C j) = true) (u : Nat) (hu : u < (upL l).length) (ru : Bool) (hru : ru = true ↔ Crs l C (q1 (upL l) u) (q2 (upL l) u) (q4 (upL l) u)) (w1 : World) (h1 : New w w1) => crossed_v b off n cp N cc cv l C (q1 (upL l) u) (q2 (upL l) u) (q3 (upL l) u) (q4 (upL l) u) w1 (by omega) (hw.new h1) hok hCn hN (fun g => by obtain ⟨cb, co, e1, e2⟩ := hC g; exact ⟨cb, co, e1, e2.new h1⟩) hS hR (upL_bd hok hu).1.1 (upL_bd hok hu).1.2 (upL_bd hok hu).2.2 ru hru)
  have HC := Lib.hid hC
  have HR := Lib.hid hr
  have HCN := Lib.hid hCn
  have HUL := Lib.hid (show (upL l).length ≤ n by have := vertTo_le l l.length; unfold upL; rw [sortS_length]; omega)
  have HALL := Lib.hid (show (∀ j, j < N → stripB l C j) → ovB (upL l) = false → (∀ u, u < (upL l).length → ¬ Crs l C (q1 (upL l) u) (q2 (upL l) u) (q4 (upL l) u)) → true = r from fun x y z => (hr.2 ⟨hck, hS, fun j hj => x j (by omega), y, z⟩).symm)
  clear hw hC hr hS
  go_enter Tryz.func73, Tryz.ntmps73
  go_wp2_with (first | (go_at_call 135; refine (HCK.out _ (by (repeat (first | exact New.refl _ | apply New.alloc | apply New.aft | apply New.drew | refine New.setCell ?_ ?_ _)); all_goals (first | done | (simp [size_aft]; done) | (simp [size_aft]; omega)))).mono ?_; rintro en w1 ⟨rfl, pw, rfl⟩) | (go_at_call 150; refine (HSM.out _ (by (repeat (first | exact New.refl _ | apply New.alloc | apply New.aft | apply New.drew | refine New.setCell ?_ ?_ _)); all_goals (first | done | (simp [size_aft]; done) | (simp [size_aft]; omega)))).mono ?_; rintro en w2 ⟨rfl, hn2⟩))
  have HN2 := Lib.hid (show New w w2 from New.trans (by (repeat (first | exact New.refl _ | apply New.alloc | apply New.aft | apply New.drew | refine New.setCell ?_ ?_ _)); all_goals (first | done | (simp [size_aft]; done) | (simp [size_aft]; omega))) hn2)
  clear hn2
  go_loopw [21] (fun i wr => ∃ k : Nat, k ≤ N ∧ i = .int .i64 k ∧ (∀ j, j < k → stripB l C j) ∧ New w2 wr) (fun i _ => N - (intOf i).toNat)
  case atStart => exact ⟨0, Nat.zero_le _, rfl, fun j hj => by omega, New.refl _⟩
  case round =>
    obtain ⟨k, hk, rfl, hall, hnew⟩ := hrel
    have HAL := Lib.hid hall
    have HNEW := Lib.hid hnew
    have HNW := Lib.hid (HN2.out.trans hnew)
    clear hall hnew
    by_cases hlt : k < N
    · obtain ⟨cb, co, rfl, hst⟩ := HC.out (by omega)
      obtain ⟨_, hcb, hcc⟩ := hst.new HNW.out
      obtain ⟨v, ⟨x1, x2⟩, x3, hv⟩ := hcc k hlt
      have HV := Lib.hid hv
      have HSB := Lib.hid (show stripB l C k ↔ (risB l (sL C k) (sF C k) (sT C k) = true ∧ crowB l (sL C k) (sF C k) = false) ∧ crowB l (sL C k) (sT C k) = false from Iff.rfl)
      have h1 := Lib.hid (fun (w1 : World) (h1 : New wr w1) => HRI.out k hlt v w1 (HNW.out.trans h1) (HV.out.new h1))
      have h2 := Lib.hid (fun (w1 : World) (h1 : New wr w1) => HCF.out k hlt v w1 (HNW.out.trans h1) (HV.out.new h1))
      have h3 := Lib.hid (fun (w1 : World) (h1 : New wr w1) => HCT.out k hlt v w1 (HNW.out.trans h1) (HV.out.new h1))
      have HRF := Lib.hid (show ¬ stripB l C k → false = r from fun hns => by
        cases hh : r
        · rfl
        · exact absurd ((HR.out.1 hh).each k (by rw [HCN.out]; exact hlt)) hns)
      have hft := HFT.out k hlt
      obtain ⟨av, c2, rfl, _⟩ := hv
      clear hcc hst
      have hk1 : (k : Int) < (N : Int) := by omega
      generalize risB l (sL C k) (sF C k) (sT C k) = RI at *
      generalize crowB l (sL C k) (sF C k) = CF at *
      generalize crowB l (sL C k) (sT C k) = CT at *
      generalize sF C k = F at *
      generalize sT C k = T at *
      generalize (sL C k).length = q at *
      cases RI
      · have HRR := Lib.hid (HRF.out (fun h => by have := (HSB.out.1 h).1.1; cases this))
        go_wp2_with (first | (go_at_call 151; refine (h1.out _ (by (repeat (first | exact New.refl _ | apply New.alloc | apply New.aft | apply New.drew | refine New.setCell ?_ ?_ _)); all_goals (first | done | (simp [size_aft]; done) | (simp [size_aft]; omega)))).mono ?_; rintro en w5 ⟨rfl, pw1, rfl⟩) | (go_at_call 152; (with_reducible refine (h2.out _ (by (repeat (first | exact New.refl _ | apply New.alloc | apply New.aft | apply New.drew | refine New.setCell ?_ ?_ _)); all_goals (first | done | (simp [size_aft]; done) | (simp [size_aft]; omega)))).mono ?_); rintro en w5 ⟨rfl, pw2, rfl⟩) | (go_at_call 152; (with_reducible refine (h3.out _ (by (repeat (first | exact New.refl _ | apply New.alloc | apply New.aft | apply New.drew | refine New.setCell ?_ ?_ _)); all_goals (first | done | (simp [size_aft]; done) | (simp [size_aft]; omega)))).mono ?_); rintro en w5 ⟨rfl, pw3, rfl⟩))
        all_goals go_ret
        all_goals exact ⟨ret_bool HRR.out, (by (repeat (first | exact HNW.out | exact New.refl _ | apply New.alloc | apply New.aft | apply New.drew | refine New.setCell ?_ ?_ _)); all_goals (first | done | (simp [size_aft]; done) | (simp [size_aft]; omega)))⟩
      · cases CF
        · cases CT
          · have HSK := Lib.hid (HSB.out.2 ⟨⟨rfl, rfl⟩, rfl⟩)
            go_wp2_with (first | (go_at_call 151; refine (h1.out _ (by (repeat (first | exact New.refl _ | apply New.alloc | apply New.aft | apply New.drew | refine New.setCell ?_ ?_ _)); all_goals (first | done | (simp [size_aft]; done) | (simp [size_aft]; omega)))).mono ?_; rintro en w5 ⟨rfl, pw1, rfl⟩) | (go_at_call 152; (with_reducible refine (h2.out _ (by (repeat (first | exact New.refl _ | apply New.alloc | apply New.aft | apply New.drew | refine New.setCell ?_ ?_ _)); all_goals (first | done | (simp [size_aft]; done) | (simp [size_aft]; omega)))).mono ?_); rintro en w5 ⟨rfl, pw2, rfl⟩) | (go_at_call 152; (with_reducible refine (h3.out _ (by (repeat (first | exact New.refl _ | apply New.alloc | apply New.aft | apply New.drew | refine New.setCell ?_ ?_ _)); all_goals (first | done | (simp [size_aft]; done) | (simp [size_aft]; omega)))).mono ?_); rintro en w5 ⟨rfl, pw3, rfl⟩))
            go_roundw
            case rel => exact ⟨k + 1, by omega, by go_num, fun j hj => (by
              rcases Nat.lt_or_ge j k with g | g
              · exact HAL.out j g
              · obtain rfl : j = k := by omega
                exact HSK.out), (by (repeat (first | exact HNEW.out | exact New.refl _ | apply New.alloc | apply New.aft | apply New.drew | refine New.setCell ?_ ?_ _)); all_goals (first | done | (simp [size_aft]; done) | (simp [size_aft]; omega)))⟩
            case measure => simp [intOf]; omega
          · have HRR := Lib.hid (HRF.out (fun h => by have := (HSB.out.1 h).2; cases this))
            go_wp2_with (first | (go_at_call 151; refine (h1.out _ (by (repeat (first | exact New.refl _ | apply New.alloc | apply New.aft | apply New.drew | refine New.setCell ?_ ?_ _)); all_goals (first | done | (simp [size_aft]; done) | (simp [size_aft]; omega)))).mono ?_; rintro en w5 ⟨rfl, pw1, rfl⟩) | (go_at_call 152; (with_reducible refine (h2.out _ (by (repeat (first | exact New.refl _ | apply New.alloc | apply New.aft | apply New.drew | refine New.setCell ?_ ?_ _)); all_goals (first | done | (simp [size_aft]; done) | (simp [size_aft]; omega)))).mono ?_); rintro en w5 ⟨rfl, pw2, rfl⟩) | (go_at_call 152; (with_reducible refine (h3.out _ (by (repeat (first | exact New.refl _ | apply New.alloc | apply New.aft | apply New.drew | refine New.setCell ?_ ?_ _)); all_goals (first | done | (simp [size_aft]; done) | (simp [size_aft]; omega)))).mono ?_); rintro en w5 ⟨rfl, pw3, rfl⟩))
            all_goals go_ret
            all_goals exact ⟨ret_bool HRR.out, (by (repeat (first | exact HNW.out | exact New.refl _ | apply New.alloc | apply New.aft | apply New.drew | refine New.setCell ?_ ?_ _)); all_goals (first | done | (simp [size_aft]; done) | (simp [size_aft]; omega)))⟩
        · have HRR := Lib.hid (HRF.out (fun h => by have := (HSB.out.1 h).1.2; cases this))
          go_wp2_with (first | (go_at_call 151; refine (h1.out _ (by (repeat (first | exact New.refl _ | apply New.alloc | apply New.aft | apply New.drew | refine New.setCell ?_ ?_ _)); all_goals (first | done | (simp [size_aft]; done) | (simp [size_aft]; omega)))).mono ?_; rintro en w5 ⟨rfl, pw1, rfl⟩) | (go_at_call 152; (with_reducible refine (h2.out _ (by (repeat (first | exact New.refl _ | apply New.alloc | apply New.aft | apply New.drew | refine New.setCell ?_ ?_ _)); all_goals (first | done | (simp [size_aft]; done) | (simp [size_aft]; omega)))).mono ?_); rintro en w5 ⟨rfl, pw2, rfl⟩) | (go_at_call 152; (with_reducible refine (h3.out _ (by (repeat (first | exact New.refl _ | apply New.alloc | apply New.aft | apply New.drew | refine New.setCell ?_ ?_ _)); all_goals (first | done | (simp [size_aft]; done) | (simp [size_aft]; omega)))).mono ?_); rintro en w5 ⟨rfl, pw3, rfl⟩))
          all_goals go_ret
          all_goals exact ⟨ret_bool HRR.out, (by (repeat (first | exact HNW.out | exact New.refl _ | apply New.alloc | apply New.aft | apply New.drew | refine New.setCell ?_ ?_ _)); all_goals (first | done | (simp [size_aft]; done) | (simp [size_aft]; omega)))⟩
    · have HK := Lib.hid (show k = N by omega)
      have HEA := Lib.hid (show ∀ j, j < N → stripB l C j from fun j hj => HAL.out j (by rw [HK.out]; exact hj))
      have HRS := Lib.hid (fun j (hj : j < N) => (HEA.out j hj).1.1)
      cases hov : ovB (upL l)
      · have HOVV := Lib.hid hov
        go_wp2_with (first | (go_at_call 153; refine (HVE.out _ HNW.out).mono ?_; rintro en w3 ⟨av, c3, rfl, hu3, hn3⟩; have HU3 := Lib.hid hu3; have HN3 := Lib.hid (HNW.out.trans hn3); have HOVC := Lib.hid (overlapping_c av (upL l).length c3 (upL l) w3 (by have := HUL.out; omega) rfl hu3); rw [hov] at HOVC; clear hu3 hn3) | (go_at_call 154; refine HOVC.out.mono ?_; rintro en w4 ⟨rfl, hn4⟩; have HN4 := Lib.hid (HN3.out.trans hn4); have HN34 := Lib.hid hn4; clear hn4))
        have hul := HUL.out
        generalize hm : (upL l).length = m at *
        go_loopw [52] (fun i wr => ∃ k2 : Nat, k2 ≤ m ∧ i = .int .i64 k2 ∧ (∀ u, u < k2 → ¬ Crs l C (q1 (upL l) u) (q2 (upL l) u) (q4 (upL l) u)) ∧ New w4 wr) (fun i _ => m - (intOf i).toNat)
        case atStart => exact ⟨0, Nat.zero_le _, rfl, fun j hj => by omega, New.refl _⟩
        case round =>
          obtain ⟨k2, hk2, rfl, hall2, hnew2⟩ := hrel
          have HA2 := Lib.hid hall2
          have HNEW2 := Lib.hid hnew2
          have HNW2 := Lib.hid (HN4.out.trans hnew2)
          clear hall2 hnew2
          by_cases hlt2 : k2 < m
          · obtain ⟨g, rfl, hsg⟩ := HU3.out (by omega)
            obtain ⟨_, hgl, hgc⟩ := hsg.new (HN34.out.trans HNEW2.out)
            obtain ⟨c1, c2, c3', c4⟩ := hgc k2 hlt2
            simp only [Nat.zero_add] at c1 c2 c3' c4
            clear hgc hsg
            obtain ⟨ru, hru⟩ : ∃ ru : Bool, ru = true ↔ Crs l C (q1 (upL l) k2) (q2 (upL l) k2) (q4 (upL l) k2) := by
              rcases Classical.em (Crs l C (q1 (upL l) k2) (q2 (upL l) k2) (q4 (upL l) k2)) with h | h
              · exact ⟨true, fun _ => h, fun _ => rfl⟩
              · exact ⟨false, fun e => (by cases e), fun e => absurd e h⟩
            have HCC := Lib.hid (fun (w1 : World) (h1 : New wr w1) => HCR.out HRS.out k2 (by first | exact hlt2 | (rw [hm]; exact hlt2)) ru hru w1 (HNW2.out.trans h1))
            have HRU := Lib.hid hru
            have HRF := Lib.hid (show Crs l C (q1 (upL l) k2) (q2 (upL l) k2) (q4 (upL l) k2) → false = r from fun hc => by
              cases hh : r
              · rfl
              · exact absurd hc ((HR.out.1 hh).vert k2 (by first | exact hlt2 | (rw [hm]; exact hlt2))))
            have hk4 : (k2 : Int) < (m : Int) := by omega
            clear hru
            generalize hA : q1 (upL l) k2 = A at *
            generalize hB : q2 (upL l) k2 = B at *
            generalize q3 (upL l) k2 = C3 at *
            generalize hD : q4 (upL l) k2 = D at *
            have HEQ := Lib.hid (show (q1 (upL l) k2 = A ∧ q2 (upL l) k2 = B) ∧ q4 (upL l) k2 = D from ⟨⟨hA, hB⟩, hD⟩)
            clear hA hB hD
            cases ru
            · have HNC := Lib.hid (show ¬ Crs l C A B D from fun h => by have := HRU.out.2 h; cases this)
              go_wp2_with (go_at_call 155; refine (HCC.out _ (by (repeat (first | exact New.refl _ | apply New.alloc | apply New.aft | apply New.drew | refine New.setCell ?_ ?_ _)); all_goals (first | done | (simp [size_aft]; done) | (simp [size_aft]; omega)))).mono ?_; rintro en w1 ⟨rfl, pw, rfl⟩)
              go_roundw
              case rel => exact ⟨k2 + 1, by omega, by go_num, fun u hu => (by
                rcases Nat.lt_or_ge u k2 with g | g
                · exact HA2.out u g
                · obtain rfl : u = k2 := by omega
                  rw [HEQ.out.1.1, HEQ.out.1.2, HEQ.out.2]; exact HNC.out), (by (repeat (first | exact HNEW2.out | exact New.refl _ | apply New.alloc | apply New.aft | apply New.drew | refine New.setCell ?_ ?_ _)); all_goals (first | done | (simp [size_aft]; done) | (simp [size_aft]; omega)))⟩
              case measure => simp [intOf]; omega
            · have HRR := Lib.hid (HRF.out (HRU.out.1 rfl))
              go_wp2_with (go_at_call 155; refine (HCC.out _ (by (repeat (first | exact New.refl _ | apply New.alloc | apply New.aft | apply New.drew | refine New.setCell ?_ ?_ _)); all_goals (first | done | (simp [size_aft]; done) | (simp [size_aft]; omega)))).mono ?_; rintro en w1 ⟨rfl, pw, rfl⟩)
              go_ret
              exact ⟨ret_bool HRR.out, (by (repeat (first | exact HNW2.out | exact New.refl _ | apply New.alloc | apply New.aft | apply New.drew | refine New.setCell ?_ ?_ _)); all_goals (first | done | (simp [size_aft]; done) | (simp [size_aft]; omega)))⟩
          · have HRR := Lib.hid (HALL.out HEA.out HOVV.out (fun u hu => HA2.out u (by omega)))
            go_wp2_with fail
            go_ret
            exact ⟨ret_bool HRR.out, (by (repeat (first | exact HNW2.out | exact New.refl _ | apply New.alloc | apply New.aft | apply New.drew | refine New.setCell ?_ ?_ _)); all_goals (first | done | (simp [size_aft]; done) | (simp [size_aft]; omega)))⟩
      · have HRR := Lib.hid (show false = r by
          cases hh : r
          · rfl
          · have := (HR.out.1 hh).over; rw [hov] at this; cases this)
        go_wp2_with (first | (go_at_call 153; refine (HVE.out _ HNW.out).mono ?_; rintro en w3 ⟨av, c3, rfl, hu3, hn3⟩; have HN3 := Lib.hid (HNW.out.trans hn3); have HOVC := Lib.hid (overlapping_c av (upL l).length c3 (upL l) w3 (by have := HUL.out; omega) rfl hu3); rw [hov] at HOVC; clear hu3 hn3) | (go_at_call 154; refine HOVC.out.mono ?_; rintro en w4 ⟨rfl, hn4⟩; have HN4 := Lib.hid (HN3.out.trans hn4); clear hn4))
        go_ret
        exact ⟨ret_bool HRR.out, (by (repeat (first | exact HN4.out | exact New.refl _ | apply New.alloc | apply New.aft | apply New.drew | refine New.setCell ?_ ?_ _)); all_goals (first | done | (simp [size_aft]; done) | (simp [size_aft]; omega)))⟩

end Go.Proofs.YtpdfbboagaflhaaGreat
