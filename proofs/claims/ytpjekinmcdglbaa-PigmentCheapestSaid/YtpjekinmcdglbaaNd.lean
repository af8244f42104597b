/- Differences and cross products of shades, as both sides return them. Entries within 1000000000 either way. · The vector that is upright on up to three tints toward a shade: upright. At most 1000 tints with shades from 0 to 1000. -/
import Derived.Test.YtpjekinmcdglbaaCy
import Derived.Test.YtpjekinmcdglbaaNb
import Derived.Test.YtpjekinmcdglbaaFo

section
set_option linter.unusedSimpArgs false
set_option linter.unusedVariables false
set_option maxRecDepth 100000
namespace Go.Proofs.Ytpjekinmcdglbaa
open Go.RowKit

abbrev v3 (v : V3) : Value := vv v.x v.y v.z
def bdV (B : Int) (v : V3) : Prop := (-B ≤ v.x ∧ v.x ≤ B) ∧ (-B ≤ v.y ∧ v.y ≤ B) ∧ (-B ≤ v.z ∧ v.z ≤ B)
theorem mulB {B C x y : Int} (hx : -B ≤ x ∧ x ≤ B) (hy : -C ≤ y ∧ y ≤ C) : -(B * C) ≤ x * y ∧ x * y ≤ B * C := mbs hx hy
theorem bdV.mono {B C : Int} {v : V3} (h : bdV B v) (hc : B ≤ C) : bdV C v := by
  obtain ⟨⟨a, b⟩, ⟨c, d⟩, e, f⟩ := h
  exact ⟨⟨by omega, by omega⟩, ⟨by omega, by omega⟩, by omega, by omega⟩
theorem bdV.sub {B C : Int} {u v : V3} (h : bdV B u) (k : bdV C v) : bdV (B + C) (u.sub v) := by
  obtain ⟨⟨a, b⟩, ⟨c, d⟩, e, f⟩ := h
  obtain ⟨⟨a', b'⟩, ⟨c', d'⟩, e', f'⟩ := k
  simp only [bdV, V3.sub]
  exact ⟨⟨by omega, by omega⟩, ⟨by omega, by omega⟩, by omega, by omega⟩
theorem bdV.cross {B C : Int} {u v : V3} (h : bdV B u) (k : bdV C v) : bdV (2 * (B * C)) (u.cross v) := by
  obtain ⟨a, b, c⟩ := h
  obtain ⟨d, e, f⟩ := k
  have h1 := mulB b f
  have h2 := mulB c e
  have h3 := mulB c d
  have h4 := mulB a f
  have h5 := mulB a e
  have h6 := mulB b d
  simp only [bdV, V3.cross]
  exact ⟨⟨by omega, by omega⟩, ⟨by omega, by omega⟩, by omega, by omega⟩
theorem bdV.dot {B C : Int} {u v : V3} (h : bdV B u) (k : bdV C v) : -(3 * (B * C)) ≤ u.dot v ∧ u.dot v ≤ 3 * (B * C) := by
  obtain ⟨a, b, c⟩ := h
  obtain ⟨d, e, f⟩ := k
  have h1 := mulB a d
  have h2 := mulB b e
  have h3 := mulB c f
  simp only [V3.dot]
  exact ⟨by omega, by omega⟩

set_option maxHeartbeats 4000000 in
theorem minus_c (u v : V3) (w : World) (hu : bdV 1000000000 u) (hv : bdV 1000000000 v) :
    Calls Try.prog 68 #[v3 u, v3 v] w fun en w' => en = .returned (v3 (u.sub v)) ∧ New w w' := by
  obtain ⟨a, b, c⟩ := u
  obtain ⟨d, e, f⟩ := v
  obtain ⟨h1, h2, h3⟩ := hu
  obtain ⟨h4, h5, h6⟩ := hv
  simp only at h1 h2 h3 h4 h5 h6
  have HT := Lib.hid (fun w1 : World => times_c d e f (-1) w1 (by omega) (by omega) (by omega))
  have HP := Lib.hid (fun w1 : World => plus_c a b c (-1 * d) (-1 * e) (-1 * f) w1 (by omega) (by omega) (by omega))
  have HV := Lib.hid (show vv (a + -1 * d) (b + -1 * e) (c + -1 * f) = v3 (V3.sub ⟨a, b, c⟩ ⟨d, e, f⟩) by
    unfold v3 V3.sub vv; rw [show a + -1 * d = a - d by omega, show b + -1 * e = b - e by omega, show c + -1 * f = c - f by omega])
  generalize -1 * d = d1 at *
  generalize -1 * e = e1 at *
  generalize -1 * f = f1 at *
  generalize v3 (V3.sub ⟨a, b, c⟩ ⟨d, e, f⟩) = R at *
  clear h1 h2 h3 h4 h5 h6
  go_enter Try.func68, Try.ntmps68
  go_upto_region 1 with fail
  go_region_law (first | (go_simp; go_at_call 55; refine (HT.out _).mono ?_; rintro e w1 ⟨rfl, pw, rfl⟩) | (go_simp; go_at_call 54; refine (HP.out _).mono ?_; rintro e w1 ⟨rfl, pw, rfl⟩))
  all_goals (go_wp2_with fail)
  all_goals (refine bodyPost_ret (v := vv (a + d1) (b + e1) (c + f1)) (by simp [results, Try.results68, go_sem]) rfl ⟨by rw [HV.out], (by (repeat (first | exact New.refl _ | apply New.alloc | apply New.aft | apply New.drew | refine New.setCell ?_ ?_ _)); all_goals (first | done | (simp [size_aft]; done) | (simp [size_aft]; omega)))⟩)

set_option maxHeartbeats 8000000 in
theorem cross_c (u v : V3) (w : World) (hu : bdV 1000000000 u) (hv : bdV 1000000000 v) :
    Calls Try.prog 69 #[v3 u, v3 v] w fun en w' => en = .returned (v3 (u.cross v)) ∧ New w w' := by
  obtain ⟨a, b, c⟩ := u
  obtain ⟨d, e, f⟩ := v
  obtain ⟨h1, h2, h3⟩ := hu
  obtain ⟨h4, h5, h6⟩ := hv
  simp only at h1 h2 h3 h4 h5 h6
  have m1 := mulB h2 h6
  have m2 := mulB h3 h5
  have m3 := mulB h3 h4
  have m4 := mulB h1 h6
  have m5 := mulB h1 h5
  have m6 := mulB h2 h4
  have q1 : IntKind.i64.wrap (b * f) = b * f := IntWalk.i64_in _ (by omega)
  have q2 : IntKind.i64.wrap (c * e) = c * e := IntWalk.i64_in _ (by omega)
  have q3 : IntKind.i64.wrap (c * d) = c * d := IntWalk.i64_in _ (by omega)
  have q4 : IntKind.i64.wrap (a * f) = a * f := IntWalk.i64_in _ (by omega)
  have q5 : IntKind.i64.wrap (a * e) = a * e := IntWalk.i64_in _ (by omega)
  have q6 : IntKind.i64.wrap (b * d) = b * d := IntWalk.i64_in _ (by omega)
  have q7 : IntKind.i64.wrap (b * f - c * e) = b * f - c * e := IntWalk.i64_in _ (by omega)
  have q8 : IntKind.i64.wrap (c * d - a * f) = c * d - a * f := IntWalk.i64_in _ (by omega)
  have q9 : IntKind.i64.wrap (a * e - b * d) = a * e - b * d := IntWalk.i64_in _ (by omega)
  clear m1 m2 m3 m4 m5 m6 h1 h2 h3 h4 h5 h6
  go_enter Try.func69, Try.ntmps69
  go_wp2_with fail
  all_goals (refine bodyPost_ret (v := vv (b * f - c * e) (c * d - a * f) (a * e - b * d)) (by simp [results, Try.results69, go_sem]) rfl ⟨rfl, (by (repeat (first | exact New.refl _ | apply New.alloc | apply New.aft | apply New.drew | refine New.setCell ?_ ?_ _)); all_goals (first | done | (simp [size_aft]; done) | (simp [size_aft]; omega)))⟩)

set_option maxHeartbeats 8000000 in
theorem refCross_c (u v : V3) (w : World) (hu : bdV 1000000000 u) (hv : bdV 1000000000 v) :
    Calls Try.prog 86 #[v3 u, v3 v] w fun en w' => en = .returned (v3 (u.cross v)) ∧ New w w' := by
  obtain ⟨a, b, c⟩ := u
  obtain ⟨d, e, f⟩ := v
  obtain ⟨h1, h2, h3⟩ := hu
  obtain ⟨h4, h5, h6⟩ := hv
  simp only at h1 h2 h3 h4 h5 h6
  have m1 := mulB h2 h6
  have m2 := mulB h3 h5
  have m3 := mulB h3 h4
  have m4 := mulB h1 h6
  have m5 := mulB h1 h5
  have m6 := mulB h2 h4
  have q1 : IntKind.i64.wrap (b * f) = b * f := IntWalk.i64_in _ (by omega)
  have q2 : IntKind.i64.wrap (c * e) = c * e := IntWalk.i64_in _ (by omega)
  have q3 : IntKind.i64.wrap (c * d) = c * d := IntWalk.i64_in _ (by omega)
  have q4 : IntKind.i64.wrap (a * f) = a * f := IntWalk.i64_in _ (by omega)
  have q5 : IntKind.i64.wrap (a * e) = a * e := IntWalk.i64_in _ (by omega)
  have q6 : IntKind.i64.wrap (b * d) = b * d := IntWalk.i64_in _ (by omega)
  have q7 : IntKind.i64.wrap (b * f - c * e) = b * f - c * e := IntWalk.i64_in _ (by omega)
  have q8 : IntKind.i64.wrap (c * d - a * f) = c * d - a * f := IntWalk.i64_in _ (by omega)
  have q9 : IntKind.i64.wrap (a * e - b * d) = a * e - b * d := IntWalk.i64_in _ (by omega)
  clear m1 m2 m3 m4 m5 m6 h1 h2 h3 h4 h5 h6
  go_enter Try.func86, Try.ntmps86
  go_wp2_with fail
  all_goals (refine bodyPost_ret (v := vv (b * f - c * e) (c * d - a * f) (a * e - b * d)) (by simp [results, Try.results86, go_sem]) rfl ⟨rfl, (by (repeat (first | exact New.refl _ | apply New.alloc | apply New.aft | apply New.drew | refine New.setCell ?_ ?_ _)); all_goals (first | done | (simp [size_aft]; done) | (simp [size_aft]; omega)))⟩)

set_option maxHeartbeats 4000000 in
theorem refMinus_c (u v : V3) (w : World) (hu : bdV 1000000000 u) (hv : bdV 1000000000 v) :
    Calls Try.prog 85 #[v3 u, v3 v] w fun en w' => en = .returned (v3 (u.sub v)) ∧ New w w' := by
  obtain ⟨a, b, c⟩ := u
  obtain ⟨d, e, f⟩ := v
  obtain ⟨h1, h2, h3⟩ := hu
  obtain ⟨h4, h5, h6⟩ := hv
  simp only at h1 h2 h3 h4 h5 h6
  have q1 : IntKind.i64.wrap (a - d) = a - d := IntWalk.i64_in _ (by omega)
  have q2 : IntKind.i64.wrap (b - e) = b - e := IntWalk.i64_in _ (by omega)
  have q3 : IntKind.i64.wrap (c - f) = c - f := IntWalk.i64_in _ (by omega)
  clear h1 h2 h3 h4 h5 h6
  go_enter Try.func85, Try.ntmps85
  go_wp2_with fail
  all_goals (refine bodyPost_ret (v := vv (a - d) (b - e) (c - f)) (by simp [results, Try.results85, go_sem]) rfl ⟨rfl, (by (repeat (first | exact New.refl _ | apply New.alloc | apply New.aft | apply New.drew | refine New.setCell ?_ ?_ _)); all_goals (first | done | (simp [size_aft]; done) | (simp [size_aft]; omega)))⟩)

end Go.Proofs.Ytpjekinmcdglbaa
end

section
set_option linter.unusedSimpArgs false
set_option linter.unusedVariables false
set_option maxRecDepth 100000
namespace Go.Proofs.Ytpjekinmcdglbaa
open Go.RowKit Go.Shelf

theorem sh_bd {T : List T5} (h : shOk T) (p : Nat) : bdV 1000 (sh3 T p) := by
  obtain ⟨⟨a, b⟩, ⟨c, d⟩, e, f⟩ := h p
  simp only [bdV, sh3]
  exact ⟨⟨by omega, by omega⟩, ⟨by omega, by omega⟩, by omega, by omega⟩

set_option maxHeartbeats 8000000 in
theorem upright1_c (b off n cp : Nat) (T : List T5) (g cap p : Nat) (x : V3) (w : World) (hT : Tnts w b off n T) (hS : shOk T) (hn : n ≤ 1000) (hp : p < n) (hx : bdV 1000 x)
    (h0 : w.cell? ⟨g, 0, none⟩ = some (.int .i64 (p : Int))) (hg : g < w.heap.size) :
    Calls Try.prog 43 #[.slice (some ⟨b, off, none⟩) n cp, .slice (some ⟨g, 0, none⟩) 1 cap, v3 x] w fun e w' => e = .returned (v3 (upr T x [p])) ∧ New w w' := by
  obtain ⟨⟨_, d1, d2⟩, d3, _⟩ := hT.2.2 p hp
  have hbl := hT.2.1
  have HM := Lib.hid (fun w1 : World => minus_c x (sh3 T p) w1 (hx.mono (by omega)) ((sh_bd hS p).mono (by omega)))
  have HR := Lib.hid (show upr T x [p] = x.sub (sh3 T p) from rfl)
  rw [HR.out]
  unfold sh3 at HM ⊢
  clear HR
  generalize tA T p = A at *
  generalize tB T p = B at *
  generalize tC T p = C at *
  obtain ⟨x1, x2, x3⟩ := x
  generalize hr : V3.sub ⟨x1, x2, x3⟩ ⟨A, B, C⟩ = R at *
  clear hr hS hT hx
  go_enter Try.func43, Try.ntmps43
  go_wp2_with fail
  go_at_call 68
  refine (HM.out _).mono ?_
  rintro e w1 ⟨rfl, pw, rfl⟩
  go_wp2_with fail
  all_goals (refine bodyPost_ret (v := v3 R) (by simp [results, Try.results43, go_sem]) rfl ⟨rfl, (by (repeat (first | exact New.refl _ | apply New.alloc | apply New.aft | apply New.drew | refine New.setCell ?_ ?_ _)); all_goals (first | done | (simp [size_aft]; done) | (simp [size_aft]; omega)))⟩)

abbrev cV3 (v : V3) : Array Value := #[.int .i64 v.x, .int .i64 v.y, .int .i64 v.z]
/-- the world in upright behind the first two vectors -/
def UpW (w W : World) (x f Y : V3) (G : Nat) : Prop :=
  New w W ∧ W.heap[w.heap.size]? = some (.cells (cV3 x) 66 (0, 0)) ∧ W.heap[w.heap.size + 1]? = some (.cells (cV3 ⟨0, 0, 0⟩) 66 (0, 0)) ∧ W.heap[w.heap.size + 2]? = some (.cells (cV3 f) 66 (0, 0)) ∧ W.heap[G]? = some (.cells (cV3 Y) 66 (0, 0)) ∧ w.heap.size + 2 < G
theorem UpW.new {w W V : World} {x f Y : V3} {G : Nat} (h : UpW w W x f Y G) (hn : New W V) : UpW w V x f Y G := by
  have hk : ∀ k o, W.heap[k]? = some o → V.heap[k]? = some o := fun k o h => (hn.below.block k (Array.getElem?_eq_some_iff.1 h).1).trans h
  exact ⟨h.1.trans hn, hk _ _ h.2.1, hk _ _ h.2.2.1, hk _ _ h.2.2.2.1, hk _ _ h.2.2.2.2.1, h.2.2.2.2.2⟩
theorem cells3 {W : World} {g : Nat} {v : V3} {t : TypeId} (h : W.heap[g]? = some (.cells (cV3 v) t (0, 0))) : W.cell? ⟨g, 0, none⟩ = some (.int .i64 v.x) ∧ W.cell? ⟨g, 1, none⟩ = some (.int .i64 v.y) ∧ W.cell? ⟨g, 2, none⟩ = some (.int .i64 v.z) := by
  simp [World.cell?, h]
theorem froz3 {W : World} {g : Nat} {v : V3} {t : TypeId} (h : W.heap[g]? = some (.cells (cV3 v) t (0, 0))) : ∀ o, W.frozen? ⟨g, o, none⟩ = false := fun o => by simp [World.frozen?, h]
theorem heap_put3 {W : World} {b : Nat} {u v : V3} {t : TypeId} (h : W.heap[b]? = some (.cells (cV3 u) t (0, 0))) : (((W.setCell ⟨b, 0, none⟩ (.int .i64 v.x)).setCell ⟨b, 1, none⟩ (.int .i64 v.y)).setCell ⟨b, 2, none⟩ (.int .i64 v.z)).heap[b]? = some (.cells (cV3 v) t (0, 0)) := by
  rw [heap_setCell_same _ _ 2 _ (heap_setCell_same _ _ 1 _ (heap_setCell_same _ _ 0 _ h))]
  simp
theorem up_results (tmps : Array Value) (W : World) (a : Nat) (v : V3) (t : TypeId) (h6 : tmps.getD 6 undef = .pointer (some ⟨a, 0, none⟩)) (hA : W.heap[a]? = some (.cells (cV3 v) t (0, 0))) : (results Try.f43 tmps).run Try.prog W = .ok (v3 v) W := by
  obtain ⟨c1, c2, c3⟩ := cells3 hA
  simp only [Array.getD_eq_getD_getElem?] at h6
  simp [results, Try.results43, go_sem, h6, c1, c2, c3]
theorem heap_aftA (W : World) (d : Nat) (os : Array Obj) (o : Obj) : ((Aft W.drew d os).alloc o).heap[W.heap.size + os.size]? = some o := by
  have := World.alloc_heap_new (Aft W.drew d os) o
  rwa [size_aft] at this
theorem heap_aftB (W : World) (d : Nat) (os : Array Obj) (o : Obj) : (Aft (W.alloc o).drew d os).heap[W.heap.size]? = some o :=
  (heap_aft_old (W.alloc o).drew d os (by show W.heap.size < (W.alloc o).heap.size; simp)).trans (World.alloc_heap_new W o)
set_option maxHeartbeats 16000000 in
theorem upright2_c (b off n cp : Nat) (T : List T5) (g cap p q : Nat) (x : V3) (w : World) (hT : Tnts w b off n T) (hS : shOk T) (hn : n ≤ 1000) (hp : p < n) (hq : q < n) (hx : bdV 1000 x)
    (h0 : w.cell? ⟨g, 0, none⟩ = some (.int .i64 (p : Int))) (h1 : w.cell? ⟨g, 1, none⟩ = some (.int .i64 (q : Int))) (hg : g < w.heap.size) :
    Calls Try.prog 43 #[.slice (some ⟨b, off, none⟩) n cp, .slice (some ⟨g, 0, none⟩) 2 cap, v3 x] w fun e w' => e = .returned (v3 (upr T x [p, q])) ∧ New w w' := by
  have HT := Lib.hid hT
  obtain ⟨⟨_, d1, d2⟩, d3, _⟩ := hT.2.2 p hp
  have hbl := hT.2.1
  have hu := (sh_bd hS q).sub (sh_bd hS p)
  have hy := hx.sub (sh_bd hS p)
  have hm := hy.cross hu
  have HM := Lib.hid (fun w1 : World => minus_c x (sh3 T p) w1 (hx.mono (by omega)) ((sh_bd hS p).mono (by omega)))
  have HU := Lib.hid (fun w1 : World => minus_c (sh3 T q) (sh3 T p) w1 ((sh_bd hS q).mono (by omega)) ((sh_bd hS p).mono (by omega)))
  have HC := Lib.hid (fun w1 : World => cross_c _ _ w1 (hy.mono (by omega)) (hu.mono (by omega)))
  have HD := Lib.hid (fun w1 : World => cross_c _ _ w1 (hu.mono (by omega)) (hm.mono (by omega)))
  have HR := Lib.hid (show upr T x [p, q] = ((sh3 T q).sub (sh3 T p)).cross ((x.sub (sh3 T p)).cross ((sh3 T q).sub (sh3 T p))) from rfl)
  rw [HR.out]
  clear HR hu hy hm hT
  generalize ((sh3 T q).sub (sh3 T p)).cross ((x.sub (sh3 T p)).cross ((sh3 T q).sub (sh3 T p))) = R at *
  generalize (x.sub (sh3 T p)).cross ((sh3 T q).sub (sh3 T p)) = M at *
  generalize (sh3 T q).sub (sh3 T p) = U at *
  generalize x.sub (sh3 T p) = Y at *
  have HG1 := Lib.hid h1
  have hpp : sh3 T p = ⟨tA T p, tB T p, tC T p⟩ := rfl
  rw [hpp] at HM HU
  unfold sh3 at HU
  clear hpp h1
  clear hS hx
  obtain ⟨x1, x2, x3⟩ := x
  obtain ⟨A, hA⟩ : ∃ A, A = tA T p := ⟨_, rfl⟩
  obtain ⟨B, hB⟩ : ∃ B, B = tB T p := ⟨_, rfl⟩
  obtain ⟨C, hC⟩ : ∃ C, C = tC T p := ⟨_, rfl⟩
  rw [← hA] at d1 HM HU
  rw [← hB] at d2 HM HU
  rw [← hC] at d3 HM HU
  clear hA hB hC
  go_enter Try.func43, Try.ntmps43
  go_wp2_with fail
  go_at_call 68
  obtain ⟨W1, hW1⟩ : ∃ W1, W1 = ((w.alloc (.cells (cV3 ⟨x1, x2, x3⟩) 66)).alloc (.cells (cV3 ⟨0, 0, 0⟩) 66)).alloc (.cells (cV3 ⟨A, B, C⟩) 66) := ⟨_, rfl⟩
  rw [← hW1]
  have hz := alloc3_heap w (.cells (cV3 ⟨x1, x2, x3⟩) 66) (.cells (cV3 ⟨0, 0, 0⟩) 66) (.cells (cV3 ⟨A, B, C⟩) 66)
  rw [← hW1] at hz
  have hn1 : New w W1 := by rw [hW1]; exact (((New.refl _).alloc _).alloc _).alloc _
  clear hW1
  refine (HM.out _).mono ?_
  rintro e w1 ⟨rfl, hnw1⟩
  have HZ := Lib.hid (show UpW w (w1.alloc (.cells (cV3 Y) 66)) ⟨x1, x2, x3⟩ ⟨A, B, C⟩ Y w1.heap.size from by
    have hk : ∀ k o, W1.heap[k]? = some o → (w1.alloc (.cells (cV3 Y) 66)).heap[k]? = some o := fun k o h => ((hnw1.alloc _).below.block k (Array.getElem?_eq_some_iff.1 h).1).trans h
    have hl := (Array.getElem?_eq_some_iff.1 hz.2.2).1
    have := hnw1.size
    exact ⟨hn1.trans (hnw1.alloc _), hk _ _ hz.1, hk _ _ hz.2.1, hk _ _ hz.2.2, World.alloc_heap_new _ _, by omega⟩)
  clear HM hz hn1 hnw1 d1 d2 d3 h0
  go_upto_region 5 with fail
  obtain ⟨W2, hW2⟩ : ∃ W2, W2 = w1.alloc (.cells (cV3 Y) 66) := ⟨_, rfl⟩
  rw [← hW2] at HZ ⊢
  generalize w1.heap.size = G at *
  clear hW2
  obtain ⟨z1, z2, z3, z4, z5, z6⟩ := HZ.out
  have hl4 := (Array.getElem?_eq_some_iff.1 z4).1
  obtain ⟨c1, c2, c3⟩ := cells3 z4
  have hG1 : W2.cell? ⟨g, 1, none⟩ = some (.int .i64 (q : Int)) := (z1.cell hg).trans HG1.out
  have hgW : g < W2.heap.size := Nat.lt_of_lt_of_le hg z1.size
  obtain ⟨⟨_, d1, d2⟩, d3, _⟩ := (HT.out.new z1).2.2 q hq
  have hbW := (HT.out.new z1).2.1
  have HZN := Lib.hid (fun V (h : New W2 V) => HZ.out.new h)
  clear z1 z2 z3 z4 z5 z6 HZ
  generalize tA T q = A' at *
  generalize tB T q = B' at *
  generalize tC T q = C' at *
  go_cut [9] (fun s9 wz => ∃ G2, s9 = .pointer (some ⟨G2, 0, none⟩) ∧ UpW w wz ⟨x1, x2, x3⟩ ⟨A, B, C⟩ Y G ∧ wz.heap[G2]? = some (.cells (cV3 U) 66 (0, 0)) ∧ w.heap.size + 2 < G2)
  case first =>
    go_region_law (go_simp; go_at_call 68; refine (HU.out _).mono ?_; rintro e w2 ⟨rfl, pw, rfl⟩)

    all_goals (go_wp2_with fail; go_meet)
    all_goals first
      | exact ⟨_, rfl, HZN.out _ (by (repeat (first | exact New.refl _ | apply New.alloc | apply New.aft | apply New.drew))), heap_aftA _ _ _ _, by omega⟩
      | exact ⟨_, rfl, HZN.out _ (by (repeat (first | exact New.refl _ | apply New.alloc | apply New.aft | apply New.drew))), heap_aftB _ _ _ _, by omega⟩
  case rest =>
    obtain ⟨G2, rfl, hup, h9, hlt⟩ := hcut
    obtain ⟨z1, z2, z3, z4, z5, z6⟩ := hup
    have HN := Lib.hid z1
    have HZ3 := Lib.hid z3
    obtain ⟨y1, y2, y3⟩ := cells3 z5
    obtain ⟨u1, u2, u3⟩ := cells3 h9
    obtain ⟨r1, r2, r3⟩ := cells3 z3
    have hf := froz3 z3
    have hf0 := hf 0
    have hf1 := hf 1
    have hf2 := hf 2
    have l5 := (Array.getElem?_eq_some_iff.1 z5).1
    have l9 := (Array.getElem?_eq_some_iff.1 h9).1
    have l3 := (Array.getElem?_eq_some_iff.1 z3).1
    clear z1 z2 z3 z4 z5 hf h9 HZN c1 c2 c3 hG1 hgW d1 d2 d3 hbW hl4 HU
    have HSW := Lib.hid (show ∀ V, New wc V → ((V.cell? ⟨G, 0, none⟩ = some (.int .i64 Y.x) ∧ V.cell? ⟨G, 1, none⟩ = some (.int .i64 Y.y) ∧ V.cell? ⟨G, 2, none⟩ = some (.int .i64 Y.z)) ∧ V.cell? ⟨G2, 0, none⟩ = some (.int .i64 U.x) ∧ V.cell? ⟨G2, 1, none⟩ = some (.int .i64 U.y) ∧ V.cell? ⟨G2, 2, none⟩ = some (.int .i64 U.z)) from fun V hV =>
      ⟨⟨(hV.cell l5).trans y1, (hV.cell l5).trans y2, (hV.cell l5).trans y3⟩, (hV.cell l9).trans u1, (hV.cell l9).trans u2, (hV.cell l9).trans u3⟩)
    have hsc : ∀ (V : World) (k o : Nat) (x y z : Value), k ≠ w.heap.size + 1 → (((V.setCell ⟨w.heap.size + 1, 0, none⟩ x).setCell ⟨w.heap.size + 1, 1, none⟩ y).setCell ⟨w.heap.size + 1, 2, none⟩ z).cell? ⟨k, o, none⟩ = V.cell? ⟨k, o, none⟩ := fun V k o x y z hk => by
      simp only [World.cell?]; rw [heap_setCell_other _ _ _ _ _ hk, heap_setCell_other _ _ _ _ _ hk, heap_setCell_other _ _ _ _ _ hk]
    have HSS := Lib.hid (show ∀ V x y z, New wc V → (((((V.setCell ⟨w.heap.size + 1, 0, none⟩ x).setCell ⟨w.heap.size + 1, 1, none⟩ y).setCell ⟨w.heap.size + 1, 2, none⟩ z).cell? ⟨G, 0, none⟩ = some (.int .i64 Y.x) ∧ (((V.setCell ⟨w.heap.size + 1, 0, none⟩ x).setCell ⟨w.heap.size + 1, 1, none⟩ y).setCell ⟨w.heap.size + 1, 2, none⟩ z).cell? ⟨G, 1, none⟩ = some (.int .i64 Y.y) ∧ (((V.setCell ⟨w.heap.size + 1, 0, none⟩ x).setCell ⟨w.heap.size + 1, 1, none⟩ y).setCell ⟨w.heap.size + 1, 2, none⟩ z).cell? ⟨G, 2, none⟩ = some (.int .i64 Y.z)) ∧ (((V.setCell ⟨w.heap.size + 1, 0, none⟩ x).setCell ⟨w.heap.size + 1, 1, none⟩ y).setCell ⟨w.heap.size + 1, 2, none⟩ z).cell? ⟨G2, 0, none⟩ = some (.int .i64 U.x) ∧ (((V.setCell ⟨w.heap.size + 1, 0, none⟩ x).setCell ⟨w.heap.size + 1, 1, none⟩ y).setCell ⟨w.heap.size + 1, 2, none⟩ z).cell? ⟨G2, 1, none⟩ = some (.int .i64 U.y) ∧ (((V.setCell ⟨w.heap.size + 1, 0, none⟩ x).setCell ⟨w.heap.size + 1, 1, none⟩ y).setCell ⟨w.heap.size + 1, 2, none⟩ z).cell? ⟨G2, 2, none⟩ = some (.int .i64 U.z)) from fun V x y z hV => by
      rw [hsc V G 0 x y z (by omega), hsc V G 1 x y z (by omega), hsc V G 2 x y z (by omega), hsc V G2 0 x y z (by omega), hsc V G2 1 x y z (by omega), hsc V G2 2 x y z (by omega)]; exact HSW.out V hV)
    clear hsc
    go_upto_region 7 with fail
    have g1 : ∀ d os, (Aft wc.drew d os).cell? ⟨w.heap.size + 1, 0, none⟩ = some (.int .i64 0) := fun d os => (aft_cell wc.drew d os _ 0 l3).trans r1
    have k1 : ∀ d os, (Aft wc.drew d os).frozen? ⟨w.heap.size + 1, 0, none⟩ = false := fun d os => (aft_frozen wc.drew d os _ 0 l3).trans hf0
    have g2 : ∀ d os, (Aft wc.drew d os).cell? ⟨w.heap.size + 1, 1, none⟩ = some (.int .i64 0) := fun d os => (aft_cell wc.drew d os _ 1 l3).trans r2
    have k2 : ∀ d os, (Aft wc.drew d os).frozen? ⟨w.heap.size + 1, 1, none⟩ = false := fun d os => (aft_frozen wc.drew d os _ 1 l3).trans hf1
    have g3 : ∀ d os, (Aft wc.drew d os).cell? ⟨w.heap.size + 1, 2, none⟩ = some (.int .i64 0) := fun d os => (aft_cell wc.drew d os _ 2 l3).trans r3
    have k3 : ∀ d os, (Aft wc.drew d os).frozen? ⟨w.heap.size + 1, 2, none⟩ = false := fun d os => (aft_frozen wc.drew d os _ 2 l3).trans hf2
    clear r1 r2 r3 hf0 hf1 hf2
    go_region_held3 (fun w' => ((w'.cell? ⟨G, 0, none⟩ = some (.int .i64 Y.x) ∧ w'.cell? ⟨G, 1, none⟩ = some (.int .i64 Y.y) ∧ w'.cell? ⟨G, 2, none⟩ = some (.int .i64 Y.z)) ∧ w'.cell? ⟨G2, 0, none⟩ = some (.int .i64 U.x) ∧ w'.cell? ⟨G2, 1, none⟩ = some (.int .i64 U.y) ∧ w'.cell? ⟨G2, 2, none⟩ = some (.int .i64 U.z))) (first | (with_reducible refine HSS.out _ _ _ _ ?_; (repeat (first | exact New.refl _ | apply New.alloc | apply New.aft | apply New.drew)); done) | (with_reducible refine HSW.out _ ?_; (repeat (first | exact New.refl _ | apply New.alloc | apply New.aft | apply New.drew)); done))
      (first | (go_at_call 69; (with_reducible refine (HC.out _).mono ?_); rintro e w3 ⟨rfl, pw, rfl⟩) | (go_at_call 69; (with_reducible refine (HD.out _).mono ?_); rintro e w3 ⟨rfl, pw, rfl⟩))
    all_goals (go_wp2_with fail)
    all_goals (refine bodyPost_ret (v := v3 R) (up_results _ _ (w.heap.size + 1) R _ rfl (heap_put3 ((heap_aft_old wc.drew _ _ l3).trans HZ3.out))) rfl ⟨rfl, ((((HN.out.trans ((New.refl wc).drew)).aft _ _).setCell (Nat.le_succ w.heap.size) _).setCell (Nat.le_succ w.heap.size) _).setCell (Nat.le_succ w.heap.size) _⟩)

end Go.Proofs.Ytpjekinmcdglbaa
end
