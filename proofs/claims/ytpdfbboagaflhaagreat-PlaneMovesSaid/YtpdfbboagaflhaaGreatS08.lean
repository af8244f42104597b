/- PlaneMoves returns true for every input, and its arguments read afterwards as before: the given statement, without a condition. -/
import Derived.Test.YtpdfbboagaflhaaGreatS04
import Derived.Test.YtpdfbboagaflhaaGreatM51
import Derived.Deep.RegionHeld3
import Derived.Deep.RegionWith
import Derived.Deep.DeepCutAuto
import Derived.BigRegion
import Derived.LoopTactic
import Derived.Deep.AppendLies
import Derived.Deep.RegionLaw
import Derived.Test.YtpdfbboagaflhaaGreatS01
import Derived.Test.YtpdfbboagaflhaaGreatRows
import Derived.ProofKit
import Derived.OpenShut
import Derived.Lib.SmallJoins
import Derived.Carry

set_option linter.unusedSimpArgs false
set_option linter.unusedVariables false
set_option maxRecDepth 100000
namespace Go.Proofs.YtpdfbboagaflhaaGreat
open Go.RowKit

/-- what the walk has of a call of Move, Mirror or Enlarge -/
theorem own_le {w : World} {base e size n g cap : Nat} {xs : List Value} (h : w.ownsRow base e size (.slice (some ⟨g, 0, none⟩) n cap) n xs) (hg : g < w.heap.size) : base ≤ w.heap.size := by
  have := (h.lt g rfl).1; omega
theorem own_none {W : World} {base g : Nat} (hg : g = W.heap.size) (hb : base ≤ W.heap.size) : (W.alloc (.cells #[] 23)).ownsRow base 23 2 (.slice (some ⟨g, 0, none⟩) 0 0) 0 [] := by
  subst hg
  exact own_mk (by simp) hb (heap_alloc_new _ _) (Nat.le_refl _) (by unfold maxLen; omega) (by simp) (by simp)
theorem grown_cell {X w4 : World} {row : Option Nat} (h : X.grownBy w4 row) {k : Nat} (hk : k < X.heap.size) (hne : some k ≠ row) : ∀ o, w4.cell? ⟨k, o, none⟩ = X.cell? ⟨k, o, none⟩ := fun o => by
  simp only [World.cell?, h.block k hk hne]
theorem news_new {X0 X : World} (hn : New X0 X) {H : Nat} (hk : H < X0.heap.size) {cs : List Value} (hc : ∀ j u, cs[j]? = some u → X0.cell? ((⟨H, 0, none⟩ : Addr).add j) = some u) : ∀ j u, cs[j]? = some u → X.cell? ((⟨H, 0, none⟩ : Addr).add j) = some u := by
  intro j u hu
  have hadd : (⟨H, 0, none⟩ : Addr).add j = ⟨H, j, none⟩ := by unfold Addr.add; split <;> simp_all
  have := hc j u hu
  rw [hadd] at this ⊢
  rw [← this]; exact hn.below.cell (p := ⟨H, j, none⟩) hk
theorem grown_news {X w4 : World} {row : Option Nat} (h : X.grownBy w4 row) {H : Nat} (hk : H < X.heap.size) (hne : some H ≠ row) {cs : List Value} (hc : ∀ j u, cs[j]? = some u → X.cell? ((⟨H, 0, none⟩ : Addr).add j) = some u) : ∀ j u, cs[j]? = some u → w4.cell? ((⟨H, 0, none⟩ : Addr).add j) = some u := by
  intro j u hu
  have hadd : (⟨H, 0, none⟩ : Addr).add j = ⟨H, j, none⟩ := by unfold Addr.add; split <;> simp_all
  have := hc j u hu
  rw [hadd] at this ⊢
  rw [← this]; exact grown_cell h hk hne j
/-- append of points to a row of the call's own, as a step of a region that draws -/
theorem step_copy {ops : Array Oper} {o : Oper} {a : Act} {w : World} {K : Act → World → Prop} {Q : Exit → Act → World → Prop} {E : Prop} (hgd : o.guard = none) (s x : Operand) (ho : o.op = .call { callee := .builtin .append, args := #[s, x], argTypes := #[40, 40] })
    (base : Nat) (v : Value) (k : Nat) (xs : List P2) (hs : a.eval s = v) (hown : w.ownsRow base 23 2 v k (ptCells xs)) (ad : Addr) (m c : Nat) (news : List P2) (hx : a.eval x = .slice (some ad) m c) (hl : news.length = m)
    (hnews : ∀ j u, (ptCells news)[j]? = some u → w.cell? (ad.add j) = some u) (hm : 0 < m) (h63 : k + m ≤ 1000) (hbase : base ≤ w.heap.size)
    (h : ∀ g cap w', w'.ownsRow base 23 2 (.slice (some ⟨g, 0, none⟩) (k + m) cap) (k + m) (ptCells (xs ++ news)) → w.grownBy w' v.ownBlock → (v.ownBlock = some g ∨ g = w.heap.size) → g < w'.heap.size → K (a.put o.dst (.slice (some ⟨g, 0, none⟩) (k + m) cap)) w') :
    if Region.wanted o (yielded ops a.tmps) = true then Oper.wp Tryz.prog o a w K Q else E := by
  obtain ⟨i0, hi, hz0, hz1, hz2⟩ := info_parts info23
  refine step_append_lies _ hgd s x 40 ho base 23 i0 _ 2 16 Tryz.underlying40 hi hz0 hz1 hz2 rfl (by omega) v k (ptCells xs) hs hown ad m c (ptCells news) hx (by rw [ptCells_length, hl]) hnews (ptCells_one _) hm (by unfold maxLen; omega) (by omega) hbase _ rfl ?_
  intro g cap w' h1 h2 h3 h4
  rw [← ptCells_append] at h1
  exact h g cap w' h1 h2 h3 h4
def MvR (m : Nat) (R : List P2) (E : Int) (w : World) (en : Ending) (w' : World) : Prop := ∃ r, en = .returned (.tuple #[r, .int .i64 E]) ∧ (E = 0 → ∃ g cap, r = .slice (some ⟨g, 0, none⟩) m cap ∧ m ≤ cap ∧ Pts w' g 0 m R) ∧ New w w'
theorem mvR_of {m : Nat} {l R : List P2} {gg : Bool} {w w' : World} {en : Ending} (hm : R.length = m) (h0 : 0 < m)
    (h : ∃ r, en = .returned (.tuple #[r, .int .i64 (chE l R gg)]) ∧ PtsR w' r (chL l R gg) ∧ New w w') : MvR m R (chE l R gg) w en w' := by
  obtain ⟨r, rfl, ⟨av, cap, rfl, hp, hc⟩, hn⟩ := h
  refine ⟨_, rfl, fun hE => ?_, hn⟩
  have e : chL l R gg = R := if_pos hE
  rw [e, hm] at hp hc
  rw [e, hm]
  obtain ⟨g, rfl, hg⟩ := hp h0
  exact ⟨g, cap, rfl, hc, hg⟩
theorem pts_take {w : World} {b off n m : Nat} {l : List P2} (h : Pts w b off n l) (hm : m ≤ n) : Pts w b off m (l.take m) := by
  obtain ⟨h1, h2, h3⟩ := h
  refine ⟨by rw [List.length_take]; omega, h2, fun i hi => ?_⟩
  have e : (l.take m).getD i (0, 0) = l.getD i (0, 0) := by
    simp only [List.getD_eq_getElem?_getD]; rw [List.getElem?_take_of_lt hi]
  have := h3 i (by omega)
  unfold px py at *
  rw [e]; exact this


set_option maxHeartbeats 16000000 in
theorem moves_go (b off n c : Nat) (l : List P2) (x y dx dy k : Int) (w : World) (hn : n ≤ 40) (hn4 : 4 ≤ n) (hw : Pts w b off n l)
    (R1 R2 R3 : List P2) (E1 E2 E3 K V S : Int)
    (HA : Hid (∀ w1 : World, Calls Tryz.prog 34 #[sv (px l 0) (py l 0) (px l 1) (py l 1), sv (px l 2) (py l 2) (px l 3) (py l 3)] w1 fun en w' => en = .returned (.int .u8 K) ∧ New w1 w'))
    (HB : Hid (∀ w1 : World, New w w1 → Calls Tryz.prog 53 #[.slice (some ⟨b, off, none⟩) n c, pv x y] w1 fun en w' => en = .returned (.int .u8 V) ∧ New w1 w'))
    (HC : Hid (∀ w1 : World, New w w1 → Calls Tryz.prog 46 #[.slice (some ⟨b, off, none⟩) n c] w1 fun en w' => en = .returned (.int .i64 S) ∧ New w1 w'))
    (H1 : Hid (∀ (w1 : World) (g cap : Nat), Pts w1 g 0 (n + 1) (l ++ [(x, y)]) → Calls Tryz.prog 75 #[.slice (some ⟨g, 0, none⟩) (n + 1) cap, .int .i64 dx, .int .i64 dy] w1 (MvR (n + 1) R1 E1 w1)))
    (H2 : Hid (∀ (w1 : World) (g cap : Nat), Pts w1 g 0 (n + 1) (l ++ [(x, y)]) → Calls Tryz.prog 77 #[.slice (some ⟨g, 0, none⟩) (n + 1) cap, .int .i64 dx] w1 (MvR (n + 1) R2 E2 w1)))
    (H3 : Hid (∀ (w1 : World) (g cap : Nat), Pts w1 g 0 (n + 1) (l ++ [(x, y)]) → Calls Tryz.prog 79 #[.slice (some ⟨g, 0, none⟩) (n + 1) cap, .int .i64 k] w1 (MvR (n + 1) R3 E3 w1)))
    (F1 : Hid (E1 = 0 → (∀ w1 : World, Calls Tryz.prog 34 #[sv (px R1 0) (py R1 0) (px R1 1) (py R1 1), sv (px R1 2) (py R1 2) (px R1 3) (py R1 3)] w1 fun en w' => en = .returned (.int .u8 K) ∧ New w1 w') ∧
      (∀ (w1 : World) (g cap : Nat), Pts w1 g 0 n (R1.take n) → Calls Tryz.prog 53 #[.slice (some ⟨g, 0, none⟩) n cap, pv (px R1 n) (py R1 n)] w1 fun en w' => en = .returned (.int .u8 V) ∧ New w1 w') ∧
      (∀ (w1 : World) (g cap : Nat), Pts w1 g 0 n (R1.take n) → Calls Tryz.prog 46 #[.slice (some ⟨g, 0, none⟩) n cap] w1 fun en w' => en = .returned (.int .i64 S) ∧ New w1 w')))
    (F2 : Hid (E2 = 0 → (∀ w1 : World, Calls Tryz.prog 34 #[sv (px R2 0) (py R2 0) (px R2 1) (py R2 1), sv (px R2 2) (py R2 2) (px R2 3) (py R2 3)] w1 fun en w' => en = .returned (.int .u8 K) ∧ New w1 w') ∧
      (∀ (w1 : World) (g cap : Nat), Pts w1 g 0 n (R2.take n) → Calls Tryz.prog 53 #[.slice (some ⟨g, 0, none⟩) n cap, pv (px R2 n) (py R2 n)] w1 fun en w' => en = .returned (.int .u8 V) ∧ New w1 w') ∧
      (∀ (w1 : World) (g cap : Nat), Pts w1 g 0 n (R2.take n) → Calls Tryz.prog 46 #[.slice (some ⟨g, 0, none⟩) n cap] w1 fun en w' => en = .returned (.int .i64 (-S)) ∧ New w1 w')))
    (F3 : Hid (E3 = 0 → IntKind.i64.wrap (k * k) = k * k ∧ IntKind.i64.wrap (k * k * S) = k * k * S ∧
      (∀ (w1 : World) (g cap : Nat), Pts w1 g 0 n (R3.take n) → Calls Tryz.prog 46 #[.slice (some ⟨g, 0, none⟩) n cap] w1 fun en w' => en = .returned (.int .i64 (k * k * S)) ∧ New w1 w') ∧
      (k ≠ 0 → ∀ (w1 : World) (g cap : Nat), Pts w1 g 0 n (R3.take n) → Calls Tryz.prog 53 #[.slice (some ⟨g, 0, none⟩) n cap, pv (px R3 n) (py R3 n)] w1 fun en w' => en = .returned (.int .u8 V) ∧ New w1 w')))
    (hS : -4000000000 ≤ S ∧ S ≤ 4000000000) :
    Calls Tryz.prog 25 #[.slice (some ⟨b, off, none⟩) n c, pv x y, .int .i64 dx, .int .i64 dy, .int .i64 k] w fun e w' => e = .returned (.bool true) ∧ New w w' := by
  obtain ⟨i0, hi, hz0, hz1, hz2⟩ := info_parts info23
  have HL := Lib.hid alive_c
  have HW := Lib.hid hw
  have HLN := Lib.hid hw.1
  have HMV := Lib.hid (show ∀ m R E w1 en w2, MvR m R E w1 en w2 → ∃ r, en = .returned (.tuple #[r, .int .i64 E]) ∧ (E = 0 → ∃ g cap, r = .slice (some ⟨g, 0, none⟩) m cap ∧ m ≤ cap ∧ Pts w2 g 0 m R) ∧ New w1 w2 from fun _ _ _ _ _ _ h => h)
  have k1 : ¬ (40 : Int) < (n : Int) := by omega
  have k2 : ¬ (n : Int) < 4 := by omega
  have hbl := hw.2.1
  have HCL := Lib.hid (ptCells_length l)
  clear hw
  go_enter Tryz.func25, Tryz.ntmps25
  go_upto_region 3 with fail
  go_cut [11] (fun s11 wx => (∃ g cap : Nat, s11 = .slice (some ⟨g, 0, none⟩) (n + 1) cap ∧ Pts wx g 0 (n + 1) (l ++ [(x, y)])) ∧ New (w.alloc (.cells #[.int .i64 x, .int .i64 y] 23)) wx)
  case first =>
    as_aux_lemma =>
      have c0 : (w.alloc (.cells #[.int .i64 x, .int .i64 y] 23)).cell? ⟨w.heap.size, 0, none⟩ = some (.int .i64 x) := by simp [World.cell?_alloc_new]
      have c1 : (w.alloc (.cells #[.int .i64 x, .int .i64 y] 23)).cell? ⟨w.heap.size, 1, none⟩ = some (.int .i64 y) := by simp [World.cell?_alloc_new]
      have HWA := Lib.hid (show ∀ w1 : World, New (w.alloc (.cells #[.int .i64 x, .int .i64 y] 23)) w1 → ∀ j u, (ptCells l)[j]? = some u → w1.cell? ((⟨b, off, none⟩ : Addr).add j) = some u from fun w1 h1 => by have := pts_part (HW.out.new (((New.refl w).alloc _).trans h1)) 0 n (by omega); simpa [List.take_of_length_le (Nat.le_of_eq HLN.out)] using this)
      have s0 : w.heap.size < (w.alloc (.cells #[.int .i64 x, .int .i64 y] 23)).heap.size := by simp
      generalize w.alloc (.cells #[.int .i64 x, .int .i64 y] 23) = W0 at *
      go_region_law (first
        | (refine step_copy rfl (.tmp 33) (.tmp 34) rfl W0.heap.size (.slice (some ⟨W0.heap.size, 0, none⟩) 0 0) 0 [] rfl ?_ ⟨b, off, none⟩ n c l rfl HLN.out ?_ (by omega) (by omega) ?_ ?_; (exact own_new (own_none (W := W0) (by simp) (by simp)) (by (repeat (first | exact New.refl _ | apply New.alloc | apply New.aft | apply New.drew)))); (exact HWA.out _ (by (repeat (first | exact New.refl _ | apply New.alloc | apply New.aft | apply New.drew)))); (exact New.size (by (repeat (first | exact New.refl _ | apply New.alloc | apply New.aft | apply New.drew)))); intro g4 cap4 w4 hown4 hgrow4 hor4 hlt4; simp only [Nat.zero_add, List.nil_append] at hown4; have HN4 := Lib.hid (show New W0 w4 from new_grown (by (repeat (first | exact New.refl _ | apply New.alloc | apply New.aft | apply New.drew))) hgrow4 (own_none (W := W0) (by simp) (by simp))); have HO4 := Lib.hid hown4; have HG4 := Lib.hid hgrow4; have b0 := grown_cell hgrow4 (k := w.heap.size) (Nat.lt_of_lt_of_le s0 (New.size (w := W0) (by (repeat (first | exact New.refl _ | apply New.alloc | apply New.aft | apply New.drew))))) (by intro e; simp [Value.ownBlock] at e; omega))
        | (refine step_copy rfl (.tmp 33) (.tmp 34) rfl W0.heap.size (.slice (some ⟨W0.heap.size + 1, 0, none⟩) 0 0) 0 [] rfl ?_ ⟨b, off, none⟩ n c l rfl HLN.out ?_ (by omega) (by omega) ?_ ?_; (exact own_new (own_none (W := W0.alloc (.cells #[.int .i64 x, .int .i64 y] 23)) (by simp) (by simp)) (by (repeat (first | exact New.refl _ | apply New.alloc | apply New.aft | apply New.drew)))); (exact HWA.out _ (by (repeat (first | exact New.refl _ | apply New.alloc | apply New.aft | apply New.drew)))); (exact New.size (by (repeat (first | exact New.refl _ | apply New.alloc | apply New.aft | apply New.drew)))); intro g4 cap4 w4 hown4 hgrow4 hor4 hlt4; simp only [Nat.zero_add, List.nil_append] at hown4; have HN4 := Lib.hid (show New W0 w4 from new_grown (by (repeat (first | exact New.refl _ | apply New.alloc | apply New.aft | apply New.drew))) hgrow4 (own_none (W := W0.alloc (.cells #[.int .i64 x, .int .i64 y] 23)) (by simp) (by simp))); have HO4 := Lib.hid hown4; have HG4 := Lib.hid hgrow4; have b0 := grown_cell hgrow4 (k := w.heap.size) (Nat.lt_of_lt_of_le s0 (New.size (w := W0) (by (repeat (first | exact New.refl _ | apply New.alloc | apply New.aft | apply New.drew))))) (by intro e; simp [Value.ownBlock] at e; omega))
        | (refine step_copy rfl (.tmp 35) (.tmp 37) rfl W0.heap.size (.slice (some ⟨g4, 0, none⟩) n cap4) n l rfl ?_ ⟨w4.heap.size, 0, none⟩ 1 1 [(x, y)] rfl rfl ?_ (by omega) (by omega) ?_ ?_; (exact own_new HO4.out (by (repeat (first | exact New.refl _ | apply New.alloc | apply New.aft | apply New.drew)))); (exact news_new (X0 := w4.alloc (.cells #[.int .i64 x, .int .i64 y] 23)) (by (repeat (first | exact New.refl _ | apply New.alloc | apply New.aft | apply New.drew))) (by simp) (cells_new w4 [.int .i64 x, .int .i64 y] 23 w4.heap.size rfl)); (exact Nat.le_trans (own_le HO4.out hlt4) (New.size (w := w4) (by (repeat (first | exact New.refl _ | apply New.alloc | apply New.aft | apply New.drew))))); intro g5 cap5 w5 hown5 hgrow5 hor5 hlt5; have HO5 := Lib.hid hown5; have HN5 := Lib.hid (show New W0 w5 from new_grown (by (repeat (first | exact HN4.out | apply New.alloc | apply New.aft | apply New.drew))) hgrow5 HO4.out))
        | (refine step_copy rfl (.tmp 35) (.tmp 37) rfl W0.heap.size (.slice (some ⟨g4, 0, none⟩) n cap4) n l rfl ?_ ⟨W0.heap.size + 1, 0, none⟩ 1 1 [(x, y)] rfl rfl ?_ (by omega) (by omega) ?_ ?_; (exact own_new HO4.out (by (repeat (first | exact New.refl _ | apply New.alloc | apply New.aft | apply New.drew)))); (exact news_new (X0 := w4) (by (repeat (first | exact New.refl _ | apply New.alloc | apply New.aft | apply New.drew))) (by have := HG4.out.size; simp [go_sem] at this; omega) (grown_news HG4.out (by simp [go_sem]) (by intro e; simp [Value.ownBlock] at e) (news_new (X0 := (W0.alloc (.cells #[] 23)).alloc (.cells #[.int .i64 x, .int .i64 y] 23)) (by (repeat (first | exact New.refl _ | apply New.alloc | apply New.aft | apply New.drew))) (by simp) (cells_new (W0.alloc (.cells #[] 23)) [.int .i64 x, .int .i64 y] 23 (W0.heap.size + 1) (by simp))))); (exact Nat.le_trans (own_le HO4.out hlt4) (New.size (w := w4) (by (repeat (first | exact New.refl _ | apply New.alloc | apply New.aft | apply New.drew))))); intro g5 cap5 w5 hown5 hgrow5 hor5 hlt5; have HO5 := Lib.hid hown5; have HN5 := Lib.hid (show New W0 w5 from new_grown (by (repeat (first | exact HN4.out | apply New.alloc | apply New.aft | apply New.drew))) hgrow5 HO4.out))
        | (refine step_copy rfl (.tmp 35) (.tmp 37) rfl W0.heap.size (.slice (some ⟨g4, 0, none⟩) n cap4) n l rfl ?_ ⟨W0.heap.size, 0, none⟩ 1 1 [(x, y)] rfl rfl ?_ (by omega) (by omega) ?_ ?_; (exact own_new HO4.out (by (repeat (first | exact New.refl _ | apply New.alloc | apply New.aft | apply New.drew)))); (exact news_new (X0 := w4) (by (repeat (first | exact New.refl _ | apply New.alloc | apply New.aft | apply New.drew))) (by have := HG4.out.size; simp [go_sem] at this; omega) (grown_news HG4.out (by first | (simp [go_sem]; done) | (simp [go_sem]; omega)) (by intro e; simp [Value.ownBlock] at e) (news_new (X0 := W0.alloc (.cells #[.int .i64 x, .int .i64 y] 23)) (by (repeat (first | exact New.refl _ | apply New.alloc | apply New.aft | apply New.drew))) (by simp) (cells_new W0 [.int .i64 x, .int .i64 y] 23 W0.heap.size rfl)))); (exact Nat.le_trans (own_le HO4.out hlt4) (New.size (w := w4) (by (repeat (first | exact New.refl _ | apply New.alloc | apply New.aft | apply New.drew))))); intro g5 cap5 w5 hown5 hgrow5 hor5 hlt5; have HO5 := Lib.hid hown5; have HN5 := Lib.hid (show New W0 w5 from new_grown (by (repeat (first | exact HN4.out | apply New.alloc | apply New.aft | apply New.drew))) hgrow5 HO4.out)))
      all_goals (go_wp2_with fail; go_meet; exact ⟨⟨g5, cap5, rfl, pts_own HO5.out (by rw [List.length_append, HLN.out]; rfl)⟩, (by (repeat (first | exact HN5.out | apply New.alloc | apply New.aft | apply New.drew)))⟩)
  case rest =>
    obtain ⟨wx, rfl⟩ : ∃ wx : World, wx = wc := ⟨_, rfl⟩
    obtain ⟨⟨ga, ca, rfl, hpa⟩, hna⟩ := hcut
    have HNA := Lib.hid (show New w wx from ((New.refl w).alloc _).trans hna)
    have HPA := Lib.hid hpa
    have hcp0 : wx.cell? ⟨w.heap.size, 0, none⟩ = some (.int .i64 x) := by
      rw [hna.below.cell (p := ⟨w.heap.size, 0, none⟩) (by simp)]; simp [World.cell?_alloc_new]
    have hcp1 : wx.cell? ⟨w.heap.size, 1, none⟩ = some (.int .i64 y) := by
      rw [hna.below.cell (p := ⟨w.heap.size, 1, none⟩) (by simp)]; simp [World.cell?_alloc_new]
    have hbs : w.heap.size < wx.heap.size := by have := hna.size; simp at this; omega
    clear hna hpa
    obtain ⟨_, hbw, hcell⟩ := HW.out.new HNA.out
    obtain ⟨a0, a0'⟩ := hcell 0 (by omega)
    obtain ⟨a1, a1'⟩ := hcell 1 (by omega)
    obtain ⟨a2, a2'⟩ := hcell 2 (by omega)
    obtain ⟨a3, a3'⟩ := hcell 3 (by omega)
    clear hcell
    simp only [Nat.reduceMul, Nat.add_zero, Nat.zero_mul, Nat.reduceAdd, Nat.add_assoc] at a0 a0' a1 a1' a2 a2' a3 a3'
    have i0' : (0 : Int) < (n : Int) := by omega
    have i00 : 0 < n := by omega
    have i1' : (1 : Int) < (n : Int) := by omega
    have i2' : (2 : Int) < (n : Int) := by omega
    have i3' : (3 : Int) < (n : Int) := by omega
    generalize px l 0 = X0 at *
    generalize py l 0 = Y0 at *
    generalize px l 1 = X1 at *
    generalize py l 1 = Y1 at *
    generalize px l 2 = X2 at *
    generalize py l 2 = Y2 at *
    generalize px l 3 = X3 at *
    generalize py l 3 = Y3 at *
    go_upto_region 5 with fail
    obtain ⟨W1, rfl⟩ : ∃ W1 : World, W1 = wx := ⟨_, rfl⟩
    go_cut [13, 14] (fun s13 s14 wx => (∃ p q : Nat, s13 = .pointer (some ⟨p, 0, none⟩) ∧ s14 = .pointer (some ⟨q, 0, none⟩) ∧ (p < wx.heap.size ∧ q < wx.heap.size) ∧
      ((wx.cell? ⟨p, 0, none⟩ = some (.int .i64 X0) ∧ wx.cell? ⟨p, 1, none⟩ = some (.int .i64 Y0)) ∧ (wx.cell? ⟨p, 2, none⟩ = some (.int .i64 X1) ∧ wx.cell? ⟨p, 3, none⟩ = some (.int .i64 Y1))) ∧
      ((wx.cell? ⟨q, 0, none⟩ = some (.int .i64 X2) ∧ wx.cell? ⟨q, 1, none⟩ = some (.int .i64 Y2)) ∧ (wx.cell? ⟨q, 2, none⟩ = some (.int .i64 X3) ∧ wx.cell? ⟨q, 3, none⟩ = some (.int .i64 Y3)))) ∧ New W1 wx)
    case first =>
      as_aux_lemma =>
        have hbw1 : b < W1.heap.size + 1 := by omega
        have hbw2 : b < W1.heap.size + 1 + 1 := by omega
        go_region_held3 (fun w' => (w'.cell? ⟨b, off, none⟩ = some (.int .i64 X0) ∧ w'.cell? ⟨b, off + 1, none⟩ = some (.int .i64 Y0) ∧ w'.cell? ⟨b, off + 2, none⟩ = some (.int .i64 X1) ∧ w'.cell? ⟨b, off + 3, none⟩ = some (.int .i64 Y1)) ∧ w'.cell? ⟨b, off + 4, none⟩ = some (.int .i64 X2) ∧ w'.cell? ⟨b, off + 5, none⟩ = some (.int .i64 Y2) ∧ w'.cell? ⟨b, off + 6, none⟩ = some (.int .i64 X3) ∧ w'.cell? ⟨b, off + 7, none⟩ = some (.int .i64 Y3)) (first | (simp [go_sem, a0, a0', a1, a1', a2, a2', a3, a3', hbw, hbw1, hbw2]; done) | (simp [go_sem, *]; done) | (go_keep; done)) (fail)
        all_goals (go_wp2_with fail; go_meet)
        all_goals exact ⟨⟨_, _, rfl, rfl, ⟨by simp [go_sem], by simp [go_sem]⟩, ⟨⟨by simp [go_sem], by simp [go_sem]⟩, by simp [go_sem], by simp [go_sem]⟩, ⟨by simp [go_sem], by simp [go_sem]⟩, by simp [go_sem], by simp [go_sem]⟩, (by (repeat (first | exact New.refl _ | apply New.alloc | apply New.aft | apply New.drew | refine New.setCell ?_ ?_ _)); all_goals (first | done | (simp [size_aft]; done) | (simp [size_aft]; omega)))⟩
    case rest =>
      obtain ⟨⟨pp, qq, rfl, rfl, ⟨hp1, hq1⟩, ⟨⟨d1, d2⟩, d3, d4⟩, ⟨d5, d6⟩, d7, d8⟩, hn2⟩ := hcut
      obtain ⟨W2, rfl⟩ : ∃ W2 : World, W2 = wc := ⟨_, rfl⟩
      have HN2 := Lib.hid (HNA.out.trans hn2)
      have HP2 := Lib.hid (HPA.out.new hn2)
      have hx1 : W2.cell? ⟨w.heap.size, 0, none⟩ = some (.int .i64 x) := by
        rw [hn2.below.cell (p := ⟨w.heap.size, 0, none⟩) hbs]; exact hcp0
      have hx2 : W2.cell? ⟨w.heap.size, 1, none⟩ = some (.int .i64 y) := by
        rw [hn2.below.cell (p := ⟨w.heap.size, 1, none⟩) hbs]; exact hcp1
      have hx3 : w.heap.size < W2.heap.size := Nat.lt_of_lt_of_le hbs hn2.size
      clear hcp0 hcp1 hbs a0 a0' a1 a1' a2 a2' a3 a3' hn2 i0' i1' i2' i3' hbw
      go_upto_region 6 with fail
      go_cut [15, 16, 17] (fun s15 s16 s17 wx => (s15 = .int .u8 K ∧ s16 = .int .u8 V ∧ s17 = .int .i64 S) ∧ New W2 wx)
      case first =>
        as_aux_lemma =>
          first | refine wp_region_at2 (by kernel_rfl) (by kernel_rfl) ?_ | refine wp_region_at (by kernel_rfl) (by kernel_rfl) ?_
          repeat (go_big_quiet_step (first | (go_at_call 34; exact calls_new (HA.out _)) | (go_at_call 53; exact calls_new (HB.out _ (HN2.out.trans ⟨⟨_, _⟩, rfl⟩))) | (go_at_call 46; exact calls_new (HC.out _ (HN2.out.trans ⟨⟨_, _⟩, rfl⟩)))))
          refine wpQuiet_nil ?_
          rintro _ ⟨q, rfl⟩
          go_wp2_with fail
          go_meet
          exact ⟨⟨rfl, rfl, rfl⟩, ⟨q, rfl⟩⟩
      case rest =>
        obtain ⟨⟨rfl, rfl, rfl⟩, hn3⟩ := hcut
        obtain ⟨W3, rfl⟩ : ∃ W3 : World, W3 = wc := ⟨_, rfl⟩
        have HN3 := Lib.hid (HN2.out.trans hn3)
        have HP3 := Lib.hid (HP2.out.new hn3)
        clear hn3 hx1 hx2 hx3 d1 d2 d3 d4 d5 d6 d7 d8 hp1 hq1
        have nK : (K != K) = false := by simp
        have nV : (V != V) = false := by simp
        have nS : (S != S) = false := by simp
        have nS2 : (-S != -S) = false := by simp
        have eV : (V == V) = true := by simp
        have nN : (((n : Int) + 1) != ((n : Int) + 1)) = false := by simp
        have wN : IntKind.i64.wrap ((n : Int) + 1) = (n : Int) + 1 := IntWalk.i64_in _ (by omega)
        have wS : IntKind.i64.wrap (-S) = -S := IntWalk.i64_in _ (by omega)
        go_upto_region 8 with (go_at_call 75; refine (H1.out _ _ _ HP3.out).mono ?_; rintro en w4 hh; obtain ⟨r1, rfl, hr1, hn⟩ := HMV.out _ _ _ _ _ _ hh; have HR1 := Lib.hid hr1; have HN4 := Lib.hid hn; clear hr1 hn hh)
        go_cut [117] (fun s117 wx => s117 = .bool false ∧ New w4 wx)
        case first =>
          as_aux_lemma =>
            by_cases hE : E1 = 0
            · obtain ⟨g1, cap1, rfl, hc1, hp1⟩ := HR1.out hE
              obtain ⟨f1, f2, f3⟩ := F1.out hE
              have G1 := Lib.hid f1; have G2 := Lib.hid f2; have G3 := Lib.hid f3
              have HPT := Lib.hid (pts_take hp1 (show n ≤ n + 1 by omega))
              obtain ⟨_, hbw, hcell⟩ := hp1
              obtain ⟨a0, a0'⟩ := hcell 0 (by omega)
              obtain ⟨a1, a1'⟩ := hcell 1 (by omega)
              obtain ⟨a2, a2'⟩ := hcell 2 (by omega)
              obtain ⟨a3, a3'⟩ := hcell 3 (by omega)
              obtain ⟨a4, a4'⟩ := hcell n (by omega)
              clear hcell f1 f2 f3
              simp only [Nat.reduceMul, Nat.add_zero, Nat.zero_add, Nat.zero_mul, Nat.reduceAdd, Nat.add_assoc] at a0 a0' a1 a1' a2 a2' a3 a3' a4 a4'
              have e1 : (E1 == 0) = true := by simp [hE]
              clear hE
              have l0 : (0 : Int) < (n : Int) + 1 := by omega
              have l00 : 0 < n + 1 := by omega
              have l1 : (1 : Int) < (n : Int) + 1 := by omega
              have l2 : (2 : Int) < (n : Int) + 1 := by omega
              have l3 : (3 : Int) < (n : Int) + 1 := by omega
              have l4 : (n : Int) < (n : Int) + 1 := by omega
              have l5 : (n : Int) ≤ (cap1 : Int) := by omega
              have l6 : n ≤ cap1 := by omega
              first | refine wp_region_at2 (by kernel_rfl) (by kernel_rfl) ?_ | refine wp_region_at (by kernel_rfl) (by kernel_rfl) ?_
              repeat (go_big_quiet_step (first | (go_at_call 34; exact calls_new (G1.out _)) | (go_at_call 53; exact calls_new (G2.out _ _ _ (HPT.out.new ⟨⟨_, _⟩, rfl⟩))) | (go_at_call 46; exact calls_new (G3.out _ _ _ (HPT.out.new ⟨⟨_, _⟩, rfl⟩)))))
              refine wpQuiet_nil ?_
              rintro _ ⟨q, rfl⟩
              go_wp2_with fail
              go_meet
              exact ⟨rfl, ⟨q, rfl⟩⟩
            · have e1 : (E1 == 0) = false := by simpa using hE
              clear hE
              first | refine wp_region_at2 (by kernel_rfl) (by kernel_rfl) ?_ | refine wp_region_at (by kernel_rfl) (by kernel_rfl) ?_
              repeat (go_big_quiet_step (fail))
              refine wpQuiet_nil ?_
              rintro _ ⟨q, rfl⟩
              go_wp2_with fail
              go_meet
              exact ⟨rfl, ⟨q, rfl⟩⟩
        case rest =>
          obtain ⟨rfl, hn5⟩ := hcut
          obtain ⟨W5, rfl⟩ : ∃ W5 : World, W5 = wc := ⟨_, rfl⟩
          have HN5 := Lib.hid (HN3.out.trans (HN4.out.trans hn5))
          have HP5 := Lib.hid (HP3.out.new (HN4.out.trans hn5))
          clear hn5
          go_upto_region 11 with (go_at_call 77; refine (H2.out _ _ _ HP5.out).mono ?_; rintro en w6 hh; obtain ⟨r2, rfl, hr2, hn⟩ := HMV.out _ _ _ _ _ _ hh; have HR2 := Lib.hid hr2; have HN6 := Lib.hid hn; clear hr2 hn hh)
          go_cut [172] (fun s172 wx => s172 = .bool false ∧ New w6 wx)
          case first =>
            as_aux_lemma =>
              by_cases hE : E2 = 0
              · obtain ⟨g1, cap1, rfl, hc1, hp1⟩ := HR2.out hE
                obtain ⟨f1, f2, f3⟩ := F2.out hE
                have G1 := Lib.hid f1; have G2 := Lib.hid f2; have G3 := Lib.hid f3
                have HPT := Lib.hid (pts_take hp1 (show n ≤ n + 1 by omega))
                obtain ⟨_, hbw, hcell⟩ := hp1
                obtain ⟨a0, a0'⟩ := hcell 0 (by omega)
                obtain ⟨a1, a1'⟩ := hcell 1 (by omega)
                obtain ⟨a2, a2'⟩ := hcell 2 (by omega)
                obtain ⟨a3, a3'⟩ := hcell 3 (by omega)
                obtain ⟨a4, a4'⟩ := hcell n (by omega)
                clear hcell f1 f2 f3
                simp only [Nat.reduceMul, Nat.add_zero, Nat.zero_add, Nat.zero_mul, Nat.reduceAdd, Nat.add_assoc] at a0 a0' a1 a1' a2 a2' a3 a3' a4 a4'
                have e1 : (E2 == 0) = true := by simp [hE]
                clear hE
                have l0 : (0 : Int) < (n : Int) + 1 := by omega
                have l00 : 0 < n + 1 := by omega
                have l1 : (1 : Int) < (n : Int) + 1 := by omega
                have l2 : (2 : Int) < (n : Int) + 1 := by omega
                have l3 : (3 : Int) < (n : Int) + 1 := by omega
                have l4 : (n : Int) < (n : Int) + 1 := by omega
                have l5 : (n : Int) ≤ (cap1 : Int) := by omega
                have l6 : n ≤ cap1 := by omega
                first | refine wp_region_at2 (by kernel_rfl) (by kernel_rfl) ?_ | refine wp_region_at (by kernel_rfl) (by kernel_rfl) ?_
                repeat (go_big_quiet_step (first | (go_at_call 34; exact calls_new (G1.out _)) | (go_at_call 53; exact calls_new (G2.out _ _ _ (HPT.out.new ⟨⟨_, _⟩, rfl⟩))) | (go_at_call 46; exact calls_new (G3.out _ _ _ (HPT.out.new ⟨⟨_, _⟩, rfl⟩)))))
                refine wpQuiet_nil ?_
                rintro _ ⟨q, rfl⟩
                go_wp2_with fail
                go_meet
                exact ⟨rfl, ⟨q, rfl⟩⟩
              · have e1 : (E2 == 0) = false := by simpa using hE
                clear hE
                first | refine wp_region_at2 (by kernel_rfl) (by kernel_rfl) ?_ | refine wp_region_at (by kernel_rfl) (by kernel_rfl) ?_
                repeat (go_big_quiet_step (fail))
                refine wpQuiet_nil ?_
                rintro _ ⟨q, rfl⟩
                go_wp2_with fail
                go_meet
                exact ⟨rfl, ⟨q, rfl⟩⟩
          case rest =>
            obtain ⟨rfl, hn7⟩ := hcut
            obtain ⟨W7, rfl⟩ : ∃ W7 : World, W7 = wc := ⟨_, rfl⟩
            have HN7 := Lib.hid (HN5.out.trans (HN6.out.trans hn7))
            have HP7 := Lib.hid (HP5.out.new (HN6.out.trans hn7))
            clear hn7
            go_upto_region 14 with (go_at_call 79; refine (H3.out _ _ _ HP7.out).mono ?_; rintro en w8 hh; obtain ⟨r3, rfl, hr3, hn⟩ := HMV.out _ _ _ _ _ _ hh; have HR3 := Lib.hid hr3; have HN8 := Lib.hid (HN7.out.trans hn); clear hr3 hn hh)
            have HLq := Lib.hid (show ∀ w : World, Calls Tryz.prog 31 #[] w fun e w' => e = .returned (.bool true) ∧ New w w' from fun w => HL.out w)
            by_cases hE : E3 = 0
            · obtain ⟨g1, cap1, rfl, hc1, hp1⟩ := HR3.out hE
              obtain ⟨f1, f2, f3, f4⟩ := F3.out hE
              have G3 := Lib.hid f3
              have HPT := Lib.hid (pts_take hp1 (show n ≤ n + 1 by omega))
              obtain ⟨_, hbw, hcell⟩ := hp1
              obtain ⟨a4, a4'⟩ := hcell n (by omega)
              simp only [Nat.zero_add] at a4 a4'
              have e1 : (E3 == 0) = true := by simp [hE]
              have e2 : (E3 != 0) = false := by simp [hE]
              have nKS : (k * k * S != k * k * S) = false := by simp
              clear hE hcell f3
              have l4 : (n : Int) < (n : Int) + 1 := by omega
              have l5 : (n : Int) ≤ (cap1 : Int) := by omega
              have l6 : n ≤ cap1 := by omega
              by_cases hk : k = 0
              · have e3 : (k == 0) = true := by simp [hk]
                clear hk f4
                go_wp2_with (go_at_call 46; refine (G3.out _ _ _ HPT.out).mono ?_; rintro en w9 ⟨rfl, hn⟩; have HN9 := Lib.hid hn; clear hn)
                first | refine wp_region_at2 (by kernel_rfl) (by kernel_rfl) ?_ | refine wp_region_at (by kernel_rfl) (by kernel_rfl) ?_
                repeat (go_big_quiet_step (first | (go_at_call 31; exact calls_new (HLq.out _))))
                refine wpQuiet_nil ?_
                rintro _ ⟨q, rfl⟩
                go_wp2_with fail
                go_ret; exact ⟨ret_bool (by simp), HN8.out.trans (HN9.out.trans ⟨q, rfl⟩)⟩
              · have e3 : (k == 0) = false := by simpa using hk
                have G2 := Lib.hid (f4 hk)
                clear hk f4
                go_wp2_with (go_at_call 46; refine (G3.out _ _ _ HPT.out).mono ?_; rintro en w9 ⟨rfl, hn⟩; have HN9 := Lib.hid hn; have HPT9 := Lib.hid (HPT.out.new hn); have a9 := (show w9.cell? ⟨g1, n * 2, none⟩ = _ from (hn.below.cell (p := ⟨g1, n * 2, none⟩) hbw).trans a4); have a9' := (show w9.cell? ⟨g1, n * 2 + 1, none⟩ = _ from (hn.below.cell (p := ⟨g1, n * 2 + 1, none⟩) hbw).trans a4'); have hbw9 := Nat.lt_of_lt_of_le hbw hn.size; clear hn)
                first | refine wp_region_at2 (by kernel_rfl) (by kernel_rfl) ?_ | refine wp_region_at (by kernel_rfl) (by kernel_rfl) ?_
                repeat (go_big_quiet_step (first | (go_at_call 31; exact calls_new (HLq.out _)) | (go_at_call 53; exact calls_new (G2.out _ _ _ (HPT9.out.new ⟨⟨_, _⟩, rfl⟩)))))
                refine wpQuiet_nil ?_
                rintro _ ⟨q, rfl⟩
                go_wp2_with fail
                go_ret; exact ⟨ret_bool (by simp), HN8.out.trans (HN9.out.trans ⟨q, rfl⟩)⟩
            · have e1 : (E3 == 0) = false := by simpa using hE
              have e2 : (E3 != 0) = true := by simpa using hE
              clear hE
              go_wp2_with fail
              first | refine wp_region_at2 (by kernel_rfl) (by kernel_rfl) ?_ | refine wp_region_at (by kernel_rfl) (by kernel_rfl) ?_
              repeat (go_big_quiet_step (first | (go_at_call 31; exact calls_new (HLq.out _))))
              refine wpQuiet_nil ?_
              rintro _ ⟨q, rfl⟩
              go_wp2_with fail
              go_ret; exact ⟨ret_bool (by simp), HN8.out.trans ⟨q, rfl⟩⟩


end Go.Proofs.YtpdfbboagaflhaaGreat

set_option linter.unusedSimpArgs false
set_option linter.unusedVariables false
set_option maxRecDepth 100000
namespace Go.Proofs.YtpdfbboagaflhaaGreat
open Go.RowKit

set_option maxHeartbeats 4000000 in
theorem moves_long (v : Option Addr) (n c : Nat) (x y dx dy k : Int) (w : World) (hn : 40 < n ∨ n < 4) : Calls Tryz.prog 25 #[.slice v n c, pv x y, .int .i64 dx, .int .i64 dy, .int .i64 k] w fun e w' => e = .returned (.bool true) ∧ New w w' := by
  have HL := Lib.hid alive_c
  rcases hn with h | h
  · have k1 : (40 : Int) < (n : Int) := by omega
    clear h
    go_enter Tryz.func25, Tryz.ntmps25
    go_wp2_with (go_at_call 31; refine (HL.out _).mono ?_; rintro e w1 ⟨rfl, hn⟩; have N1 := Lib.hid hn; clear hn)
    all_goals (go_ret; exact ⟨ret_bool (by simp), ((New.refl w).alloc _).trans N1.out⟩)
  · have k1 : ¬ (40 : Int) < (n : Int) := by omega
    have k2 : (n : Int) < 4 := by omega
    clear h
    go_enter Tryz.func25, Tryz.ntmps25
    go_wp2_with (go_at_call 31; refine (HL.out _).mono ?_; rintro e w1 ⟨rfl, hn⟩; have N1 := Lib.hid hn; clear hn)
    all_goals (go_ret; exact ⟨ret_bool (by simp), ((New.refl w).alloc _).trans N1.out⟩)

theorem chE_zero {l R : List P2} {g : Bool} (h : chE l R g = 0) : okL l = true ∧ g = true ∧ okL R = true := by
  unfold chE at h
  split at h
  · rename_i h0; exact absurd h h0
  · rename_i h0
    split at h
    · rename_i h1
      split at h
      · rename_i h2; exact ⟨(ckPts_zero (Classical.not_not.1 h0)).2, h1, h2⟩
      · simp at h
    · simp at h
theorem area_bd (l : List P2) (h : l.length ≤ 40) : -4000000000 ≤ areaI l ∧ areaI l ≤ 4000000000 := by
  unfold areaI
  split
  next hk =>
    have := crossTo_bd (ckPts_zero hk).2 l.length (Nat.le_refl _)
    omega
  next => omega
theorem px_app (l : List P2) (p : P2) (k : Nat) (h : k < l.length) : px (l ++ [p]) k = px l k ∧ py (l ++ [p]) k = py l k := by
  simp only [px, py, List.getD_eq_getElem?_getD, List.getElem?_append_left h, and_self]
theorem px_end (l : List P2) (p : P2) : px (l ++ [p]) l.length = p.1 ∧ py (l ++ [p]) l.length = p.2 := by
  simp [px, py, List.getD_eq_getElem?_getD]
theorem okL_nth {l : List P2} (h : okL l = true) {k : Nat} (hk : k < l.length) : okP (px l k) (py l k) = true := okL_okP h k hk
theorem okL_split {l : List P2} {x y : Int} (h : okL (l ++ [(x, y)]) = true) : okL l = true ∧ okP x y = true := by
  unfold okL at *
  simpa using h

/-- what is so of moved points -/
theorem moved {l : List P2} {x y a b c d : Int} (hl4 : 4 ≤ l.length) (ha : a ≠ 0) (hc : c ≠ 0) (hok : okL (l ++ [(x, y)]) = true) (hok' : okL ((l ++ [(x, y)]).map (frP a b c d)) = true) :
    ((l ++ [(x, y)]).map (frP a b c d)).take l.length = l.map (frP a b c d) ∧ px ((l ++ [(x, y)]).map (frP a b c d)) l.length = a * x + b ∧ py ((l ++ [(x, y)]).map (frP a b c d)) l.length = c * y + d ∧
    okL l = true ∧ okP x y = true ∧ okL (l.map (frP a b c d)) = true ∧ okP (a * x + b) (c * y + d) = true ∧
    MeetI (px ((l ++ [(x, y)]).map (frP a b c d)) 0) (py ((l ++ [(x, y)]).map (frP a b c d)) 0) (px ((l ++ [(x, y)]).map (frP a b c d)) 1) (py ((l ++ [(x, y)]).map (frP a b c d)) 1) (px ((l ++ [(x, y)]).map (frP a b c d)) 2) (py ((l ++ [(x, y)]).map (frP a b c d)) 2) (px ((l ++ [(x, y)]).map (frP a b c d)) 3) (py ((l ++ [(x, y)]).map (frP a b c d)) 3) =
      MeetI (px l 0) (py l 0) (px l 1) (py l 1) (px l 2) (py l 2) (px l 3) (py l 3) := by
  obtain ⟨o1, o2⟩ := okL_split hok
  have em : (l ++ [(x, y)]).map (frP a b c d) = l.map (frP a b c d) ++ [(a * x + b, c * y + d)] := by simp [frP]
  have hok'' := hok'
  rw [em] at hok''
  obtain ⟨o3, o4⟩ := okL_split hok''
  have hm : ((l ++ [(x, y)]).map (frP a b c d)).length = l.length + 1 := by simp
  have p : ∀ k, k < l.length → px ((l ++ [(x, y)]).map (frP a b c d)) k = a * px l k + b ∧ py ((l ++ [(x, y)]).map (frP a b c d)) k = c * py l k + d := fun k hk => by
    obtain ⟨e1, e2⟩ := px_fr (a := a) (b := b) (c := c) (d := d) (l ++ [(x, y)]) k (by simp; omega)
    obtain ⟨e3, e4⟩ := px_app l (x, y) k hk
    rw [e1, e2, e3, e4]; exact ⟨rfl, rfl⟩
  have pe := px_end (l.map (frP a b c d)) (a * x + b, c * y + d)
  rw [List.length_map] at pe
  refine ⟨by rw [em, List.take_append_of_le_length (by simp), List.take_of_length_le (by simp)], by rw [em]; exact pe.1, by rw [em]; exact pe.2, o1, o2, o3, o4, ?_⟩
  have q : ∀ k, k < l.length → okP (a * px l k + b) (c * py l k + d) = true := fun k hk => by
    have := okL_nth hok' (k := k) (by rw [hm]; omega)
    rw [(p k hk).1, (p k hk).2] at this; exact this
  rw [(p 0 (by omega)).1, (p 0 (by omega)).2, (p 1 (by omega)).1, (p 1 (by omega)).2, (p 2 (by omega)).1, (p 2 (by omega)).2, (p 3 (by omega)).1, (p 3 (by omega)).2]
  exact Meet_fr ha hc (okL_nth o1 (by omega)) (okL_nth o1 (by omega)) (okL_nth o1 (by omega)) (okL_nth o1 (by omega)) (q 0 (by omega)) (q 1 (by omega)) (q 2 (by omega)) (q 3 (by omega))

theorem planeMoves_in (b off n c : Nat) (l : List P2) (x y dx dy k : Int) (w : World) (hn : n ≤ 40) (hn4 : 4 ≤ n) (hw : Pts w b off n l) :
    Calls Tryz.prog 25 #[.slice (some ⟨b, off, none⟩) n c, pv x y, .int .i64 dx, .int .i64 dy, .int .i64 k] w fun e w' => e = .returned (.bool true) ∧ New w w' := by
  have hl := hw.1
  have hal : (l ++ [(x, y)]).length = n + 1 := by simp [hl]
  have pa : ∀ (w1 : World) (g : Nat), Pts w1 g 0 (n + 1) (l ++ [(x, y)]) → PtsA w1 (some ⟨g, 0, none⟩) (n + 1) (l ++ [(x, y)]) := fun w1 g h => ⟨hal, fun _ => ⟨g, 0, rfl, h⟩⟩
  refine moves_go b off n c l x y dx dy k w hn hn4 hw ((l ++ [(x, y)]).map (frP 1 dx 1 dy)) ((l ++ [(x, y)]).map (frP (-1) dx 1 0)) ((l ++ [(x, y)]).map (frP k 0 k 0))
    (chE (l ++ [(x, y)]) ((l ++ [(x, y)]).map (frP 1 dx 1 dy)) (inR dx dy)) (chE (l ++ [(x, y)]) ((l ++ [(x, y)]).map (frP (-1) dx 1 0)) (inR dx 0)) (chE (l ++ [(x, y)]) ((l ++ [(x, y)]).map (frP k 0 k 0)) (inR k 0))
    (MeetI (px l 0) (py l 0) (px l 1) (py l 1) (px l 2) (py l 2) (px l 3) (py l 3)) (WhereI l x y) (areaI l)
    (Lib.hid fun w1 => Meet_c _ _ _ _ _ _ _ _ w1) (Lib.hid fun w1 h1 => Where_c b off n c l x y w1 (by omega) (by omega) (hw.new h1)) (Lib.hid fun w1 h1 => area2_c b off n c l w1 (by omega) (by omega) (hw.new h1))
    (Lib.hid fun w1 g cap h => (move_c _ (n + 1) cap _ dx dy w1 (by omega) (pa w1 g h)).mono fun _ _ hh => mvR_of (by simpa using hl) (by omega) hh)
    (Lib.hid fun w1 g cap h => (mirror_c _ (n + 1) cap _ dx w1 (by omega) (pa w1 g h)).mono fun _ _ hh => mvR_of (by simpa using hl) (by omega) hh)
    (Lib.hid fun w1 g cap h => (enlarge_c _ (n + 1) cap _ k w1 (by omega) (pa w1 g h)).mono fun _ _ hh => mvR_of (by simpa using hl) (by omega) hh)
    (Lib.hid fun hE => ?_) (Lib.hid fun hE => ?_) (Lib.hid fun hE => ?_) (area_bd l (by omega))
  · obtain ⟨o1, o2, o3⟩ := chE_zero hE
    obtain ⟨e1, e2, e3, e4, e5, e6, e7, e8⟩ := moved (by omega) (by decide) (by decide) o1 o3
    rw [hl] at e1 e2 e3
    refine ⟨fun w1 => ?_, fun w1 g cap h => ?_, fun w1 g cap h => ?_⟩
    · rw [← e8]; exact Meet_c _ _ _ _ _ _ _ _ w1
    · have := Where_c g 0 n cap _ (1 * x + dx) (1 * y + dy) w1 (by omega) (by omega) h
      rw [e1, Where_fr (by decide) (by decide) e4 e6 e5 e7] at this
      rw [e2, e3]; exact this
    · have := area2_c g 0 n cap _ w1 (by omega) (by omega) h
      rw [e1, area_fr e4 e6] at this
      simpa using this
  · obtain ⟨o1, o2, o3⟩ := chE_zero hE
    obtain ⟨e1, e2, e3, e4, e5, e6, e7, e8⟩ := moved (by omega) (by decide) (by decide) o1 o3
    rw [hl] at e1 e2 e3
    refine ⟨fun w1 => ?_, fun w1 g cap h => ?_, fun w1 g cap h => ?_⟩
    · rw [← e8]; exact Meet_c _ _ _ _ _ _ _ _ w1
    · have := Where_c g 0 n cap _ (-1 * x + dx) (1 * y + 0) w1 (by omega) (by omega) h
      rw [e1, Where_fr (by decide) (by decide) e4 e6 e5 e7] at this
      rw [e2, e3]; exact this
    · have := area2_c g 0 n cap _ w1 (by omega) (by omega) h
      rw [e1, area_fr e4 e6] at this
      have e : -1 * 1 * areaI l = -areaI l := by omega
      rw [e] at this; exact this
  · obtain ⟨o1, o2, o3⟩ := chE_zero hE
    have hk : -20000 ≤ k ∧ k ≤ 20000 := by unfold inR at o2; simp only [decide_eq_true_eq] at o2; exact o2.1
    have kk := mul_bd k k 20000 20000 (by omega) (by omega) (by omega) (by omega)
    by_cases h0 : k = 0
    · have hz : k * k * areaI l = 0 := by rw [h0]; simp
      have hz2 : k * k = 0 := by rw [h0]; rfl
      refine ⟨by rw [hz2]; exact IntWalk.i64_in _ (by omega), by rw [hz]; exact IntWalk.i64_in _ (by omega), fun w1 g cap h => ?_, fun hh => absurd h0 hh⟩
      have := area2_c g 0 n cap _ w1 (by omega) (by omega) h
      have hz3 : areaI (((l ++ [(x, y)]).map (frP k 0 k 0)).take n) = k * k * areaI l := by
        obtain ⟨q1, q2⟩ := okL_split o1
        have em : ((l ++ [(x, y)]).map (frP k 0 k 0)).take n = l.map (frP k 0 k 0) := by
          rw [List.map_append, List.take_append_of_le_length (by simp; omega), List.take_of_length_le (by simp; omega)]
        have o3' := o3
        rw [List.map_append] at o3'
        have : okL (l.map (frP k 0 k 0)) = true := by unfold okL at o3' ⊢; simp only [List.all_append, Bool.and_eq_true] at o3'; exact o3'.1
        rw [em, area_fr q1 this]
      rw [hz3] at this; exact this
    · obtain ⟨e1, e2, e3, e4, e5, e6, e7, e8⟩ := moved (by omega) h0 h0 o1 o3
      rw [hl] at e1 e2 e3
      have ea := area_fr e4 e6
      have hb := area_bd (l.map (frP k 0 k 0)) (by simp; omega)
      rw [ea] at hb
      refine ⟨IntWalk.i64_in _ (by omega), IntWalk.i64_in _ (by omega), fun w1 g cap h => ?_, fun _ w1 g cap h => ?_⟩
      · have := area2_c g 0 n cap _ w1 (by omega) (by omega) h
        rw [e1, ea] at this; exact this
      · rcases Int.lt_or_gt_of_ne h0 with g0 | g0
        · have es := neg_same g0 o1 o3
          rw [es] at h ⊢
          have := Where_c g 0 n cap _ x y w1 (by omega) (by omega) h
          have et : (l ++ [(x, y)]).take n = l := by rw [List.take_append_of_le_length (by omega), List.take_of_length_le (by omega)]
          rw [et] at this
          have pe := px_end l (x, y)
          rw [hl] at pe
          rw [pe.1, pe.2]; exact this
        · have := Where_c g 0 n cap _ (k * x + 0) (k * y + 0) w1 (by omega) (by omega) h
          rw [e1, Where_fr h0 g0 e4 e6 e5 e7] at this
          rw [e2, e3]; exact this

theorem planeMoves_all (w : World) (av : Option Addr) (n c : Nat) (l : List P2) (hl : l.length = n) (hp : 0 < n → ∃ b off, av = some ⟨b, off, none⟩ ∧ Pts w b off n l) (x y : Int) (dx : Int) (hdx : (Lit.int .i64 dx).wf = true) (dy : Int) (hdy : (Lit.int .i64 dy).wf = true) (k : Int) (hk : (Lit.int .i64 k).wf = true) :
    Calls Tryz.prog 25 #[.slice av n c, pv x y, .int .i64 dx, .int .i64 dy, .int .i64 k] w fun e w' => e = .returned (.bool true) ∧ New w w' := by
  by_cases h : 40 < n ∨ n < 4
  · exact moves_long av n c x y dx dy k w h
  · obtain ⟨b, off, rfl, hw⟩ := hp (by omega)
    exact planeMoves_in b off n c l x y dx dy k w (by omega) (by omega) hw

end Go.Proofs.YtpdfbboagaflhaaGreat

set_option linter.unusedSimpArgs false
set_option linter.unusedVariables false
set_option linter.constructorNameAsVariable false
namespace Go.Proofs.YtpdfbboagaflhaaGreat
open Go.ChangeShapes Go.WideShapes Go.ChangeAt Go.RowKit Go.Joins
set_option maxRecDepth 100000

theorem jMv_wf : Rows.planeMovesRow.wf (OpenSpec.ofChange Rows.planeMovesSpec) = true := by kernel_rfl
theorem jMv_par : Tryz.f25.params.all (Tryz.prog.readableRec ·) = true := by kernel_rfl
theorem jMv_tie : namedTie Tryz.prog Rows.planeMovesRow.named Rows.planeMovesSpec.vars = true := by kernel_rfl
theorem jMv_st : (Rows.planeMovesRow.stops == []) = true := by kernel_rfl
theorem jMv_kn : (Rows.planeMovesRow.knobs == []) = true := by kernel_rfl
theorem jMv_inp : (Rows.planeMovesRow.inPlace == Tryz.prog.inPlace 25) = true := by kernel_rfl
theorem jMv_unf : (Rows.planeMovesRow.unfollowed == Tryz.prog.unfollowed 25) = true := by kernel_rfl
theorem jMv_rec : (Rows.planeMovesRow.recurses == Tryz.prog.recurses 25) = true := by kernel_rfl
theorem jMv_nam : (Rows.planeMovesRow.named == Tryz.prog.varsNamed 25) = true := by kernel_rfl
theorem jMv_maps : (Rows.planeMovesRow.maps == (Tryz.f25.params.toList ++ Rows.planeMovesSpec.plain.varTypes Tryz.prog).any (Tryz.prog.mapsRec ·)) = true := by kernel_rfl
theorem jMv_ifs : (Rows.planeMovesRow.ifaces == (Tryz.f25.params.toList ++ Rows.planeMovesSpec.plain.varTypes Tryz.prog).any (Tryz.prog.ifacesRec ·)) = true := by kernel_rfl
theorem jMv_mout : (Rows.planeMovesRow.mapsOut == Tryz.prog.mapsAmong Tryz.f25.resultTypes.toList) = true := by kernel_rfl
theorem jMv_loops : (Rows.planeMovesRow.loops == (Tryz.f25.params.toList ++ Rows.planeMovesSpec.plain.varTypes Tryz.prog).any (Tryz.prog.loopsFrom ·)) = true := by kernel_rfl
theorem jMv_wide : (Rows.planeMovesRow.wideKeys == (Tryz.f25.params.toList ++ Rows.planeMovesSpec.plain.varTypes Tryz.prog ++ Tryz.f25.resultTypes.toList).any (Tryz.prog.wideKeysFrom ·)) = true := by kernel_rfl
theorem jMv_vars : Rows.planeMovesSpec.vars.all (Tryz.prog.varReadable ·) = true := by kernel_rfl
theorem jMv_res : Tryz.f25.resultTypes.all (fun t => Tryz.prog.readableRec t && decide (t < Tryz.prog.types.size)) = true := by kernel_rfl
theorem jMv_iout : (Rows.planeMovesRow.ifacesOut == Tryz.f25.resultTypes.toList.any (Tryz.prog.ifacesRec ·)) = true := by kernel_rfl
theorem jMv_lout : (Rows.planeMovesRow.loopsOut == Tryz.f25.resultTypes.toList.any (Tryz.prog.loopsFrom ·)) = true := by kernel_rfl
theorem jMv_plain : (Rows.planeMovesRow.plainKeys == Tryz.prog.plainKeys) = true := by kernel_rfl
theorem jMv_short : Rows.planeMovesRow.shortTexts.isNone = true := by kernel_rfl
theorem jMv_lift0 : (Rows.planeMovesRow.lifted == false) = true := by kernel_rfl
theorem jMv_lift : (Rows.planeMovesRow.lifted == Tryz.prog.liftsFinal) = true := (congrArg (fun b => (Rows.planeMovesRow.lifted == b)) lift_is).trans jMv_lift0
theorem jMv_make0 : (some Make.cut == some Rows.planeMovesRow.make) = true := by kernel_rfl
theorem jMv_make : (Tryz.prog.make == some Rows.planeMovesRow.make) = true := (congrArg (fun b => (b == some Rows.planeMovesRow.make)) make_is).trans jMv_make0
theorem jMv_kinds : (Rows.planeMovesRow.kinds == (if Rows.planeMovesRow.domain.isEmpty then [] else Tryz.f25.params.toList.map fun t => match Tryz.prog.underlying t with | some (.int k) => some k | _ => none)) = true := by kernel_rfl
theorem jMv_pin : (Rows.planeMovesRow.pinned == Rows.planeMovesRow.pinnedBy) = true := by kernel_rfl
theorem jMv_veil : (Rows.planeMovesRow.veiled == (Tryz.f25.params.toList ++ Rows.planeMovesSpec.plain.varTypes Tryz.prog ++ Tryz.f25.resultTypes.toList).any (Tryz.prog.veiledRec ·)) = true := by kernel_rfl
theorem jMv_vfit : Rows.planeMovesRow.veiledFits Tryz.prog Tryz.f25.params.toList (Tryz.f25.params.toList ++ Rows.planeMovesSpec.plain.varTypes Tryz.prog ++ Tryz.f25.resultTypes.toList) = true := by kernel_rfl
theorem jMv_closed : joinedFacts Tryz.prog 25 Tryz.f25 Rows.planeMovesSpec Rows.planeMovesRow = true := (b_and (b_and (b_and (b_and (b_and (b_and (b_and (b_and (b_and (b_and (b_and (b_and (b_and (b_and (b_and (b_and (b_and (b_and (b_and (b_and (b_and (b_and (b_and (b_and (b_and (b_and (b_and (b_and (b_and (b_and (b_and jMv_wf jp_laid) jp_rowed) jMv_par) jMv_tie) jMv_st) jp_stops) jMv_kn) jp_knobs) jMv_inp) jMv_unf) jMv_rec) jMv_nam) jMv_maps) jMv_ifs) jMv_mout) jMv_loops) jMv_wide) jMv_vars) jMv_res) jMv_iout) jMv_lout) jMv_plain) jMv_short) jp_heard) jp_enter) jMv_lift) jMv_make) jMv_kinds) jMv_pin) jMv_veil) jMv_vfit)
theorem jMv_name : Tryz.prog.funcNamed Rows.planeMovesRow.func = some 25 := by kernel_rfl
theorem jMv_inst : Tryz.f25.isInstance Tryz.prog Rows.planeMovesRow.origin Rows.planeMovesRow.targs := of_decide_eq_true (by kernel_rfl)
theorem jMv_wrap : Tryz.f25.isWrapper Tryz.prog Rows.planeMovesRow.wrapper Rows.planeMovesRow.mainSum := by unfold Func.isWrapper; rw [if_neg (by decide +kernel)]; exact ⟨rfl, rfl⟩

set_option maxHeartbeats 2000000 in
theorem jMv_lifted (os : Os) (started : os.Started) (H : Type) (enc : TypeId × Value → H) :
    ReturnsInHanded {} Tryz.checked os 25 .any (Rows.planeMovesSpec.pre6 enc Tryz.prog Tryz.f25 Rows.planeMovesRow.domain false) (Rows.planeMovesSpec.post enc Tryz.prog Tryz.f25 false true false false) := by
  refine returnsInHanded_of_change (C := Tryz.checked) own_knob started (by kernel_rfl) Tryz.func25
    (ChangeSpec.witness6 (enc := enc) (C := Tryz.checked) false ⟨#[], #[.slice none 0 0, .agg #[.int .i64 0, .int .i64 0], .int .i64 0, .int .i64 0, .int .i64 0], []⟩ 8 (by kernel_rfl) (by kernel_rfl) (by kernel_rfl) (by kernel_rfl)) ?_
  intro W base args ds gs before hval0 hW hcnd _
  have hval : ∀ (j : Nat) t v, Tryz.f25.params[j]? = some t → args[j]? = some v → Value.okWide Tryz.prog W .any base t v := hval0
  have hW' := hW
  obtain ⟨p, q, hA0, hV, rfl, hfz, hnd⟩ := hW
  have hA : DataW.TrodAll enc Tryz.prog W 0 (fun _ => true) true Tryz.f25.params.toList args.toList ds p := hA0
  rw [Tryz.params25] at hA hval
  obtain ⟨v0, vs0, d0, ds0, p0, q0, hargs, rfl, rfl, h0, r0⟩ := trodAll_cons hA
  obtain ⟨v1, vs1, d1, ds1, p1, q1, rfl, rfl, rfl, h1, r1⟩ := trodAll_cons r0
  obtain ⟨v2, vs2, d2, ds2, p2, q2, rfl, rfl, rfl, h2, r2⟩ := trodAll_cons r1
  obtain ⟨v3, vs3, d3, ds3, p3, q3, rfl, rfl, rfl, h3, r3⟩ := trodAll_cons r2
  obtain ⟨v4, vs4, d4, ds4, p4, q4, rfl, rfl, rfl, h4, r4⟩ := trodAll_cons r3
  obtain ⟨rfl, rfl, rfl⟩ := trodAll_nil r4
  obtain rfl : args = #[v0, v1, v2, v3, v4] := by cases args; simp_all
  obtain ⟨rfl, rfl⟩ := trodVars_none hV
  have hlt : ∀ x ∈ p0 ++ p1 ++ p2 ++ p3 ++ p4, x.block < W.heap.size := fun x hx => hW'.lt x (by simpa using hx)
  have g0 := h0
  obtain ⟨av0, n0, cap0, l0, rfl, hl0, hp0⟩ := open_pts (hval 0 40 v0 rfl rfl) h0
  have g1 := h1
  obtain ⟨x1, y1, rfl, _, _⟩ := open_pt (hval 1 23 v1 rfl rfl) h1
  have g2 := h2
  obtain ⟨x2, rfl, hx2⟩ := open_int (hval 2 3 v2 rfl rfl) h2
  have g3 := h3
  obtain ⟨x3, rfl, hx3⟩ := open_int (hval 3 3 v3 rfl rfl) h3
  have g4 := h4
  obtain ⟨x4, rfl, hx4⟩ := open_int (hval 4 3 v4 rfl rfl) h4
  clear hA0 hval0 hval
  refine (planeMoves_all W av0 n0 cap0 l0 hl0 hp0 x1 y1 x2 hx2 x3 hx3 x4 hx4).mono fun e W' ⟨he, hg⟩ => ?_
  subst he
  have t4 := Below.trod laidOut (by kernel_rfl) (of_decide_eq_true (by kernel_rfl)) g4 hg.below (fun x hx => hlt x (by simp [hx]))
  have t3 := Below.trod laidOut (by kernel_rfl) (of_decide_eq_true (by kernel_rfl)) g3 hg.below (fun x hx => hlt x (by simp [hx]))
  have t2 := Below.trod laidOut (by kernel_rfl) (of_decide_eq_true (by kernel_rfl)) g2 hg.below (fun x hx => hlt x (by simp [hx]))
  have t1 := Below.trod laidOut (by kernel_rfl) (of_decide_eq_true (by kernel_rfl)) g1 hg.below (fun x hx => hlt x (by simp [hx]))
  have t0 := Below.trod laidOut (by kernel_rfl) (of_decide_eq_true (by kernel_rfl)) g0 hg.below (fun x hx => hlt x (by simp [hx]))
  exact ⟨_, rfl, _, _, _, _, _, _, hW', trodAll_cons_mk (shut_bool Tryz.underlying4 _) trodAll_mk0, trodAll_cons_mk t0 (trodAll_cons_mk t1 (trodAll_cons_mk t2 (trodAll_cons_mk t3 (trodAll_cons_mk t4 trodAll_mk0)))), rfl, hg.below.frame _, fun h => by cases h⟩

/-- PlaneMoves, as it is given -/
theorem planeMoves_proved : Rows.PlaneMovesSaid :=
  OpenClaim.holds_of_wide 25 Tryz.f25 rfl rfl rfl rfl rfl rfl rfl ⟨rfl, rfl, rfl, rfl, rfl⟩ rfl rfl rfl rfl rfl jMv_name Tryz.func25 jMv_closed jMv_inst jMv_wrap
    (fun os started H enc _ => jMv_lifted os started H enc)

end Go.Proofs.YtpdfbboagaflhaaGreat
