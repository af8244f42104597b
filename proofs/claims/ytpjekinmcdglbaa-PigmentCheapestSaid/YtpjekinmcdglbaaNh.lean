/- upright at any one to three places; where a plane of the program lies between, and where none does. At most 1000 tints with shades from 0 to 1000. · The reference's weights of one to four points. Points from 0 to 1000. -/
import Derived.Test.YtpjekinmcdglbaaNf
import Derived.Test.YtpjekinmcdglbaaFj

section
set_option linter.unusedSimpArgs false
set_option linter.unusedVariables false
set_option maxRecDepth 100000
namespace Go.Proofs.Ytpjekinmcdglbaa
open Go.RowKit Go.Shelf

theorem upright_c (b off n cp base : Nat) (T : List T5) (pl : List Nat) (x : V3) (v : Value) (w : World) (hT : Tnts w b off n T) (hS : shOk T) (hn : n ≤ 1000) (h1 : 1 ≤ pl.length) (h3 : pl.length ≤ 3) (hlt : ∀ p ∈ pl, p < n) (hx : bdV 1000 x)
    (hv : w.ownsRow base 3 1 v pl.length (natCells pl)) :
    Calls Try.prog 43 #[.slice (some ⟨b, off, none⟩) n cp, v, v3 x] w fun e w' => e = .returned (v3 (upr T x pl)) ∧ New w w' := by
  obtain ⟨av, cv, rfl⟩ := own_slice hv
  obtain ⟨g, cap, he, hg1, hg2⟩ := hv.form (by omega)
  injection he with he1 he2 he3
  subst he1
  subst he3
  have hc : ∀ k, k < pl.length → w.cell? ⟨g, k, none⟩ = some (.int .i64 ((pl.getD k 0 : Nat) : Int)) := fun k hk => (own_cell hv (natCells_at pl k hk)).1
  have hgl : g < w.heap.size := hg2
  rcases four pl h1 (by omega) with ⟨p, rfl⟩ | ⟨p, q, rfl⟩ | ⟨p, q, r, rfl⟩ | ⟨p, q, r, s, rfl⟩
  · exact upright1_c b off n cp T g cv p x w hT hS hn (hlt p (by simp)) hx (hc 0 (by simp)) hgl
  · exact upright2_c b off n cp T g cv p q x w hT hS hn (hlt p (by simp)) (hlt q (by simp)) hx (hc 0 (by simp)) (hc 1 (by simp)) hgl
  · exact upright3_c b off n cp T g cv p q r x w hT hS hn (hlt p (by simp)) (hlt q (by simp)) (hlt r (by simp)) hx (hc 0 (by simp)) (hc 1 (by simp)) (hc 2 (by simp)) hgl
  · simp at h3

theorem smul_bd {s B : Int} {n : V3} (hs : s = 1 ∨ s = -1) (h : bdV B n) : bdV B (smul s n) := by
  obtain ⟨⟨a, b⟩, ⟨c, d⟩, e, f⟩ := h
  rcases hs with rfl | rfl <;> simp only [bdV, smul] <;> exact ⟨⟨by omega, by omega⟩, ⟨by omega, by omega⟩, by omega, by omega⟩
theorem upr_bd {T : List T5} {x : V3} {pl : List Nat} (hS : shOk T) (hx : bdV 1000 x) (h1 : 1 ≤ pl.length) (h3 : pl.length ≤ 3) : bdV 100000000000 (upr T x pl) := by
  rcases four pl h1 (by omega) with ⟨p, rfl⟩ | ⟨p, q, rfl⟩ | ⟨p, q, r, rfl⟩ | ⟨p, q, r, s, rfl⟩
  · exact (hx.sub (sh_bd hS p)).mono (by omega)
  · exact (((sh_bd hS q).sub (sh_bd hS p)).cross ((hx.sub (sh_bd hS p)).cross ((sh_bd hS q).sub (sh_bd hS p)))).mono (by omega)
  · exact (smul_bd (sg1_or _) (((sh_bd hS q).sub (sh_bd hS p)).cross ((sh_bd hS r).sub (sh_bd hS p)))).mono (by omega)
  · simp at h3
theorem mx_ge {T : List T5} {N : V3} : ∀ {n i : Nat}, i < n → N.dot (sh3 T i) ≤ mxTo T N n
  | 0, i, h => by omega
  | n + 1, i, h => by
    simp only [mxTo]
    by_cases e : i = n
    · subst e; omega
    · have := mx_ge (T := T) (N := N) (show i < n by omega); omega
theorem mx_lt {T : List T5} {N : V3} {D : Int} : ∀ {n : Nat}, 0 < n → (∀ i, i < n → N.dot (sh3 T i) < D) → mxTo T N n < D
  | 0, h, _ => by omega
  | n + 1, _, h => by
    have h0 := h 0 (by omega)
    have hn := h n (by omega)
    simp only [mxTo]
    by_cases e : n = 0
    · subst e; simp only [mxTo]; omega
    · have := mx_lt (T := T) (N := N) (D := D) (show 0 < n by omega) (fun i hi => h i (by omega)); omega
/-- the directions that Plane goes through -/
def dirs (n k : Nat) : List (List Nat) := (List.range k).flatMap fun i => extL n (i + 1) [] 0
def btP (T : List T5) (n : Nat) (x : V3) (pl : List Nat) : Bool := btB T n (upr T x pl).x (upr T x pl).y (upr T x pl).z (mxTo T (upr T x pl) n) x.x x.y x.z
theorem dirs_len {n : Nat} {pl : List Nat} (h : pl ∈ dirs n 3) : 1 ≤ pl.length ∧ pl.length ≤ 3 := by
  simp only [dirs, List.mem_flatMap, List.mem_range] at h
  obtain ⟨i, hi, h⟩ := h
  have := (extL_mem h).1
  simp at this; omega
theorem pl_some {T : List T5} {n : Nat} {a b c : Int} (hS : shOk T) (hn : 0 < n) (hx : bdV 1000 ⟨a, b, c⟩) (h : rcpL T n a b c = []) : ∃ pl ∈ dirs n 3, btP T n ⟨a, b, c⟩ pl = true := by
  obtain ⟨pl, hm, hd⟩ := plane_found hn h
  have hmem : pl ∈ dirs n 3 := by
    simp only [dirs, List.mem_flatMap, List.mem_range]
    rcases hm with h | h | h
    · exact ⟨0, by omega, h⟩
    · exact ⟨1, by omega, h⟩
    · exact ⟨2, by omega, h⟩
  refine ⟨pl, hmem, ?_⟩
  obtain ⟨l1, l3⟩ := dirs_len hmem
  have hb := upr_bd hS hx l1 l3
  have hm := mx_bd hS hb n
  have hlt := mx_lt hn hd
  unfold btP btB pnB3 pnB pcB
  generalize upr T ⟨a, b, c⟩ pl = N at *
  obtain ⟨⟨b1, b2⟩, ⟨b3, b4⟩, b5, b6⟩ := hb
  simp only [Bool.and_eq_true, decide_eq_true_eq, List.all_eq_true, List.mem_range]
  refine ⟨⟨⟨⟨⟨by omega, by omega⟩, by omega, by omega⟩, by omega, by omega⟩, by omega, by omega⟩, fun i hi => ?_, hlt⟩
  have := mx_ge (T := T) (N := N) hi
  exact decide_eq_true this
theorem pl_none {T : List T5} {n : Nat} {a b c : Int} {pl : List Nat} (hS : shOk T) (ha : 0 ≤ a ∧ a ≤ 1000) (hb : 0 ≤ b ∧ b ≤ 1000) (hc : 0 ≤ c ∧ c ≤ 1000) (h : rcpL T n a b c ≠ []) : btP T n ⟨a, b, c⟩ pl = false := by
  cases hbt : btP T n ⟨a, b, c⟩ pl
  · rfl
  · exfalso
    apply h
    unfold btP btB at hbt
    simp only [Bool.and_eq_true, decide_eq_true_eq, List.all_eq_true, List.mem_range] at hbt
    obtain ⟨_, h1, h2⟩ := hbt
    exact plane_none hS ha hb hc (fun p hp => of_decide_eq_true (h1 p hp)) h2

end Go.Proofs.Ytpjekinmcdglbaa
end

section
set_option linter.unusedSimpArgs false
set_option linter.unusedVariables false
set_option maxRecDepth 100000
namespace Go.Proofs.Ytpjekinmcdglbaa
open Go.RowKit Go.Shelf

set_option maxHeartbeats 4000000 in
theorem equal_arr (D : Nat) (a b c d e f : Int) (w : World) : (Op.equalIn (D + 2) 37 (.agg #[.int .i64 a, .int .i64 b, .int .i64 c]) (.agg #[.int .i64 d, .int .i64 e, .int .i64 f])).run Try.prog w = .ok (a == d && b == e && c == f) w := by
  have ht : Try.prog.underlying 37 = some (.array 3 3) := by kernel_rfl
  have hs : ∀ w, (sizeOf 3).run Try.prog w = .ok 1 w := fun w => rfl
  have p0 : ∀ (a b c : Int) w, (part 3 #[.int .i64 a, .int .i64 b, .int .i64 c] (0 * 1)).run Try.prog w = .ok (.int .i64 a) w := fun a b c w => rfl
  have p1 : ∀ (a b c : Int) w, (part 3 #[.int .i64 a, .int .i64 b, .int .i64 c] (1 * 1)).run Try.prog w = .ok (.int .i64 b) w := fun a b c w => rfl
  have p2 : ∀ (a b c : Int) w, (part 3 #[.int .i64 a, .int .i64 b, .int .i64 c] (2 * 1)).run Try.prog w = .ok (.int .i64 c) w := fun a b c w => rfl
  rw [show D + 2 = (D + 1) + 1 from rfl]
  conv => lhs; unfold Op.equalIn
  cases h0 : (a == d) <;> cases h1 : (b == e) <;> cases h2 : (c == f) <;>
  · simp only [Sem.run_bind, run_underlying ht, Result.andThen_ok, hs, Std.Legacy.Range.forIn_eq_forIn_range', Std.Legacy.Range.size]
    simp [List.range', List.forIn_cons, List.forIn_nil, Sem.run_bind, Result.andThen_ok, p0, p1, p2, int_eqs, h0, h1, h2, Sem.run_pure]
def intCells (l : List Int) : List Value := l.map (.int .i64)
theorem own_ints {W : World} {base g : Nat} {l : List Int} (h : W.heap[g]? = some (.cells (intCells l).toArray 3 (0, 0))) (hl : l.length ≤ maxLen) (hb : base ≤ g) : W.ownsRow base 3 1 (.slice (some ⟨g, 0, none⟩) l.length l.length) l.length (intCells l) :=
  ⟨by simp [intCells], .inr ⟨g, l.length, _, rfl, hb, h, Nat.le_refl _, hl, by simp [intCells], by simp [intCells, List.take_of_length_le]⟩⟩
/-- what weights returns -/
def WtR (w : World) (r : List Int × Bool) (en : Ending) (w' : World) : Prop := ∃ sv, en = .returned (.tuple #[sv, .bool r.2]) ∧ New w w' ∧ w'.ownsRow w.heap.size 3 1 sv r.1.length (intCells r.1)
/-- the points in their row -/
def Pts3 (w : World) (g n : Nat) (P : Nat → V3) : Prop := g < w.heap.size ∧ ∀ i, i < n → w.cell? ⟨g, i * 3, none⟩ = some (.int .i64 (P i).x) ∧ w.cell? ⟨g, i * 3 + 1, none⟩ = some (.int .i64 (P i).y) ∧ w.cell? ⟨g, i * 3 + 2, none⟩ = some (.int .i64 (P i).z)

/-- behind the way: the shade's box and the way's -/
def WX (w W : World) (x X : V3) (G : Nat) : Prop := New w W ∧ W.heap[w.heap.size]? = some (.cells (cV3 x) 37 (0, 0)) ∧ W.heap[G]? = some (.cells (cV3 X) 37 (0, 0)) ∧ w.heap.size < G
theorem WX.mk' {w W V : World} {x X : V3} {G : Nat} (h : New w W) (z : W.heap[w.heap.size]? = some (.cells (cV3 x) 37 (0, 0))) (hV : New W V) (hG : V.heap[G]? = some (.cells (cV3 X) 37 (0, 0))) (hl : W.heap.size ≤ G) : WX w V x X G :=
  ⟨h.trans hV, (hV.below.block _ (Array.getElem?_eq_some_iff.1 z).1).trans z, hG, by have := (Array.getElem?_eq_some_iff.1 z).1; omega⟩
theorem wx_facts {w W : World} {x : V3} {g : Nat} {A B C : Int} {o1 o2 o3 : Nat} (h : New w W) (z : W.heap[w.heap.size]? = some (.cells (cV3 x) 37 (0, 0))) (hg : g < w.heap.size) (d1 : w.cell? ⟨g, o1, none⟩ = some (.int .i64 A)) (d2 : w.cell? ⟨g, o2, none⟩ = some (.int .i64 B)) (d3 : w.cell? ⟨g, o3, none⟩ = some (.int .i64 C)) :
    ∀ X, New W X → ((X.cell? ⟨w.heap.size, 0, none⟩ = some (.int .i64 x.x) ∧ X.cell? ⟨w.heap.size, 1, none⟩ = some (.int .i64 x.y) ∧ X.cell? ⟨w.heap.size, 2, none⟩ = some (.int .i64 x.z)) ∧ X.cell? ⟨g, o1, none⟩ = some (.int .i64 A) ∧ X.cell? ⟨g, o2, none⟩ = some (.int .i64 B) ∧ X.cell? ⟨g, o3, none⟩ = some (.int .i64 C)) := fun X hX => by
  have l1 := (Array.getElem?_eq_some_iff.1 z).1
  obtain ⟨c1, c2, c3⟩ := cells3 z
  have hgW : g < W.heap.size := Nat.lt_of_lt_of_le hg h.size
  exact ⟨⟨(hX.cell l1).trans c1, (hX.cell l1).trans c2, (hX.cell l1).trans c3⟩, (hX.cell hgW).trans ((h.cell hg).trans d1), (hX.cell hgW).trans ((h.cell hg).trans d2), (hX.cell hgW).trans ((h.cell hg).trans d3)⟩
set_option maxHeartbeats 8000000 in
theorem weights1_c (g cap : Nat) (p x : V3) (w : World) (hP : Pts3 w g 1 (fun _ => p)) (hp : bdV 1000 p) (hx : bdV 1000 x) :
    Calls Try.prog 64 #[.slice (some ⟨g, 0, none⟩) 1 cap, v3 x] w (WtR w (rwt [p] x)) := by
  obtain ⟨hg, hc⟩ := hP
  obtain ⟨d1, d2, d3⟩ := hc 0 (by omega)
  have HM := Lib.hid (fun w1 : World => refMinus_c x p w1 (hx.mono (by omega)) (hp.mono (by omega)))
  have HR := Lib.hid (show rwt [p] x = ([1], decide (x.x = p.x) && decide (x.y = p.y) && decide (x.z = p.z)) from rfl)
  rw [HR.out]
  obtain ⟨A, B, C⟩ := p
  obtain ⟨x1, x2, x3⟩ := x
  generalize hr : V3.sub ⟨x1, x2, x3⟩ ⟨A, B, C⟩ = R at *
  clear hr hp hx hc HR
  simp only at d1 d2 d3
  go_enter Try.func64, Try.ntmps64
  go_upto_region 1 with fail
  obtain ⟨W1, hW1⟩ : ∃ W1, W1 = w.alloc (.cells (cV3 ⟨x1, x2, x3⟩) 37) := ⟨_, rfl⟩
  have hn1 : New w W1 := by rw [hW1]; exact (New.refl _).alloc _
  have z1 : W1.heap[w.heap.size]? = some (.cells (cV3 ⟨x1, x2, x3⟩) 37 (0, 0)) := by rw [hW1]; exact World.alloc_heap_new _ _
  rw [← hW1]
  clear hW1
  have l1 := (Array.getElem?_eq_some_iff.1 z1).1
  have hgW : g < W1.heap.size := Nat.lt_of_lt_of_le hg hn1.size
  have HSW := Lib.hid (wx_facts hn1 z1 hg d1 d2 d3)
  have HWX := Lib.hid (fun V X G (h : New W1 V) => WX.mk' (X := X) (G := G) hn1 z1 h)
  have hh := HSW.out W1 (New.refl _)
  clear z1
  go_cut [6] (fun s6 wz => ∃ G, s6 = .pointer (some ⟨G, 0, none⟩) ∧ WX w wz ⟨x1, x2, x3⟩ R G)
  case first =>
    go_region_held3 (fun w' => ((w'.cell? ⟨w.heap.size, 0, none⟩ = some (.int .i64 x1) ∧ w'.cell? ⟨w.heap.size, 1, none⟩ = some (.int .i64 x2) ∧ w'.cell? ⟨w.heap.size, 2, none⟩ = some (.int .i64 x3)) ∧ w'.cell? ⟨g, 0 * 3, none⟩ = some (.int .i64 A) ∧ w'.cell? ⟨g, 0 * 3 + 1, none⟩ = some (.int .i64 B) ∧ w'.cell? ⟨g, 0 * 3 + 2, none⟩ = some (.int .i64 C))) (first | (with_reducible refine HSW.out _ ?_; (repeat (first | exact New.refl _ | apply New.alloc | apply New.aft | apply New.drew)); done))
      (first | (go_at_call 85; (with_reducible refine (HM.out _).mono ?_); rintro e w3 ⟨rfl, pw, rfl⟩))
    all_goals (go_wp2_with fail; go_meet)
    all_goals first
      | exact ⟨_, rfl, HWX.out _ _ _ (by (repeat (first | exact New.refl _ | apply New.alloc | apply New.aft | apply New.drew))) (heap_aftA _ _ _ _) (by omega)⟩
      | exact ⟨_, rfl, HWX.out _ _ _ (by (repeat (first | exact New.refl _ | apply New.alloc | apply New.aft | apply New.drew))) (heap_aftB _ _ _ _) (by omega)⟩
  case rest =>
    obtain ⟨G, rfl, hwx⟩ := hcut
    have HX := Lib.hid hwx
    obtain ⟨m1, m2, m3, m4⟩ := hwx
    obtain ⟨y1, y2, y3⟩ := cells3 m2
    have e1 : wc.cell? ⟨g, 0 * 3, none⟩ = some (.int .i64 A) := (m1.cell hg).trans d1
    have e2 : wc.cell? ⟨g, 0 * 3 + 1, none⟩ = some (.int .i64 B) := (m1.cell hg).trans d2
    have e3 : wc.cell? ⟨g, 0 * 3 + 2, none⟩ = some (.int .i64 C) := (m1.cell hg).trans d3
    have hgc : g < wc.heap.size := Nat.lt_of_lt_of_le hg m1.size
    have l2 := (Array.getElem?_eq_some_iff.1 m2).1
    clear m1 m2 m3 m4 hh HSW HWX HM d1 d2 d3
    have heq : ∀ V, (Op.equalIn 10000 37 (.agg #[.int .i64 x1, .int .i64 x2, .int .i64 x3]) (.agg #[.int .i64 A, .int .i64 B, .int .i64 C])).run Try.prog V = .ok (x1 == A && x2 == B && x3 == C) V := fun V => equal_arr 9998 x1 x2 x3 A B C V
    generalize hb : (x1 == A && x2 == B && x3 == C) = bb at *
    go_upto_region 3 with fail
    go_region
    go_wp2_with fail
    refine bodyPost_ret (v := .tuple #[.slice (some ⟨wc.heap.size, 0, none⟩) 1 1, .bool bb]) (by simp [results, Try.results64, go_sem]) rfl ⟨_, rfl, HX.out.1.trans ((New.refl wc).alloc _).drew, own_ints (l := [1]) (World.alloc_heap_new wc _) (by decide) HX.out.1.size⟩

end Go.Proofs.Ytpjekinmcdglbaa
end
