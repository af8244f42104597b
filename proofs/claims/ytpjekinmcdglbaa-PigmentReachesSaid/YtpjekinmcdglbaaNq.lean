/- Plane where tints and shade are valid: the first of its directions that parts the tints from the shade. At most 1000 tints. -/
import Derived.Test.YtpjekinmcdglbaaNh
import Derived.Test.YtpjekinmcdglbaaCv
import Derived.Test.YtpjekinmcdglbaaRv
set_option linter.unusedSimpArgs false
set_option linter.unusedVariables false
namespace Go.Proofs.Ytpjekinmcdglbaa
open Go.RowKit Go.Shelf

attribute [local go_sem] Oper.semAt_some

def plC (T : List T5) (n : Nat) (x : V3) (pl : List Nat) : Array Value := #[.int .i64 (upr T x pl).x, .int .i64 (upr T x pl).y, .int .i64 (upr T x pl).z, .int .i64 (mxTo T (upr T x pl) n)]
def plZ : Array Value := #[.int .i64 0, .int .i64 0, .int .i64 0, .int .i64 0]
/-- the boxes of Plane -/
def PlK (w : World) (S0 : Value) (x : V3) (pv : Array Value) (bb : Bool) (W : World) : Prop :=
  New w W ∧ (W.heap[w.heap.size]? = some (.cells #[S0] 22 (0, 0)) ∧ W.heap[w.heap.size + 1]? = some (.cells (cV3 x) 37 (0, 0))) ∧ W.heap[w.heap.size + 2]? = some (.cells pv 41 (0, 0)) ∧ W.heap[w.heap.size + 3]? = some (.cells #[.bool bb] 4 (0, 0)) ∧ W.heap[w.heap.size + 4]? = some (.cells #[.int .i64 0] 31 (0, 0))
theorem PlK.mod {w W W' : World} {S0 : Value} {x : V3} {pv : Array Value} {bb : Bool} {O : Nat → Prop} (h : PlK w S0 x pv bb W) (hm : Mod O W W') (ho : ∀ k, O k → w.heap.size + 5 ≤ k) : PlK w S0 x pv bb W' := by
  obtain ⟨h1, ⟨h2, h3⟩, h4, h5, h6⟩ := h
  have hk : ∀ k o, k < w.heap.size + 5 → W.heap[k]? = some o → W'.heap[k]? = some o := fun k o hk h => (hm.2 k (Array.getElem?_eq_some_iff.1 h).1 (fun h' => by have := ho k h'; omega)).trans h
  exact ⟨Mod.new h1 hm fun k hk => by have := ho k hk; omega, ⟨hk _ _ (by omega) h2, hk _ _ (by omega) h3⟩, hk _ _ (by omega) h4, hk _ _ (by omega) h5, hk _ _ (by omega) h6⟩
def PlI (w : World) (S0 : Value) (T : List T5) (n : Nat) (x : V3) (pre : List (List Nat)) (Ds : List Nat) (O : Nat → Prop) (done : List (List Nat)) (bb : Bool) (W : World) : Prop :=
  (∀ k, O k → w.heap.size + 5 ≤ k ∧ k ∉ Ds) ∧ (∀ D ∈ Ds, W.heap[D]? = some (.deferred (some [])) ∧ w.heap.size + 5 ≤ D) ∧ ∃ pv, PlK w S0 x pv bb W ∧ ((bb = false ∧ pv = plZ ∧ ∀ pl ∈ pre ++ done, btP T n x pl = false) ∨ (bb = true ∧ ∃ pl ∈ dirs n 3, btP T n x pl = true ∧ pv = plC T n x pl))
theorem PlI.stable (w : World) (S0 : Value) (T : List T5) (n : Nat) (x : V3) (pre : List (List Nat)) (Ds : List Nat) : StableJ (PlI w S0 T n x pre Ds) := by
  rintro O O' done bb W W' ⟨h1, h2, pv, h3, h4⟩ hm ho
  have hl := (Array.getElem?_eq_some_iff.1 h3.2.2.2.2).1
  refine ⟨fun k hk => ?_, fun D hD => ⟨(hm.2 D (Array.getElem?_eq_some_iff.1 (h2 D hD).1).1 (fun h' => (h1 D h').2 hD)).trans (h2 D hD).1, (h2 D hD).2⟩, pv, h3.mod hm fun k hk => (h1 k hk).1, h4⟩
  rcases ho k hk with h | h
  · exact h1 k h
  · exact ⟨by omega, fun hD => by have := (Array.getElem?_eq_some_iff.1 (h2 k hD).1).1; omega⟩
/-- between two sizes -/
def PlL (w : World) (S0 : Value) (T : List T5) (n : Nat) (x : V3) (s : Nat) (Ds : List Nat) (W : World) : Prop :=
  s ≤ 3 ∧ Ds.Nodup ∧ PlI w S0 T n x (dirs n s) Ds (fun _ => False) [] false W
theorem dirs_succ (n s : Nat) : dirs n (s + 1) = dirs n s ++ extL n (s + 1) [] 0 := by simp [dirs, List.range_succ]
theorem dirs_mem {n s : Nat} {pl : List Nat} (hs : s < 3) (h : pl ∈ extL n (s + 1) [] 0) : pl ∈ dirs n 3 := by
  simp only [dirs, List.mem_flatMap, List.mem_range]
  exact ⟨s, hs, h⟩
/-- what Plane returns -/
def PnR (w : World) (T : List T5) (n : Nat) (x : V3) (en : Ending) (w' : World) : Prop :=
  New w w' ∧ (((∀ pl ∈ dirs n 3, btP T n x pl = false) ∧ en = .returned (.tuple #[plV 0 0 0 0, .bool false, .int .i64 0])) ∨ ∃ pl ∈ dirs n 3, btP T n x pl = true ∧ en = .returned (.tuple #[plV (upr T x pl).x (upr T x pl).y (upr T x pl).z (mxTo T (upr T x pl) n), .bool true, .int .i64 0]))
theorem cells4q {W : World} {g : Nat} {a b c d : Value} {t : TypeId} (h : W.heap[g]? = some (.cells #[a, b, c, d] t (0, 0))) : (W.cell? ⟨g, 0, none⟩ = some a ∧ W.cell? ⟨g, 1, none⟩ = some b ∧ W.cell? ⟨g, 2, none⟩ = some c) ∧ W.cell? ⟨g, 3, none⟩ = some d := by
  simp [World.cell?, h]
theorem pn_results (tmps : Array Value) (W : World) (a c d : Nat) (N0 N1 N2 C : Int) (r : Bool) (t1 t2 t3 : TypeId) (h4 : tmps.getD 4 undef = .pointer (some ⟨a, 0, none⟩)) (h5 : tmps.getD 5 undef = .pointer (some ⟨c, 0, none⟩)) (h6 : tmps.getD 6 undef = .pointer (some ⟨d, 0, none⟩))
    (hA : W.heap[a]? = some (.cells #[.int .i64 N0, .int .i64 N1, .int .i64 N2, .int .i64 C] t1 (0, 0))) (hC : W.heap[c]? = some (.cells #[.bool r] t2 (0, 0))) (hD : W.heap[d]? = some (.cells #[.int .i64 0] t3 (0, 0))) :
    (results Try.f17 tmps).run Try.prog W = .ok (.tuple #[plV N0 N1 N2 C, .bool r, .int .i64 0]) W := by
  obtain ⟨⟨c1, c2, c3⟩, c4⟩ := cells4q hA
  have c5 := (box_cell hC).1
  have c6 := (box_cell hD).1
  simp only [Array.getD_eq_getD_getElem?] at h4 h5 h6
  simp [results, Try.results17, go_sem, h4, h5, h6, c1, c2, c3, c4, c5, c6, plV]
theorem heap_put4z {W : World} {g : Nat} {a b c d a' b' c' d' : Value} {t : TypeId} (h : W.heap[g]? = some (.cells #[a, b, c, d] t (0, 0))) : ((((W.setCell ⟨g, 0, none⟩ a').setCell ⟨g, 1, none⟩ b').setCell ⟨g, 2, none⟩ c').setCell ⟨g, 3, none⟩ d').heap[g]? = some (.cells #[a', b', c', d'] t (0, 0)) := by
  rw [heap_setCell_same _ _ 3 _ (heap_setCell_same _ _ 2 _ (heap_setCell_same _ _ 1 _ (heap_setCell_same _ _ 0 _ h)))]
  simp
theorem al_old {X : World} {o q : Obj} {k : Nat} (h : X.heap[k]? = some q) : (X.alloc o).heap[k]? = some q := (Below.heap_alloc X o k (Array.getElem?_eq_some_iff.1 h).1).trans h
theorem al_newD {X V : World} {o : Obj} (h : New (X.alloc o).drew V) : V.heap[X.heap.size]? = some o := (h.below.block _ (by show _ < (X.alloc o).heap.size; simp)).trans (World.alloc_heap_new _ _)
theorem al_new {X V : World} {o : Obj} (h : New (X.alloc o) V) : V.heap[X.heap.size]? = some o := (h.below.block _ (by simp)).trans (World.alloc_heap_new _ _)

/-- the results are stored -/
theorem pl_put {w V : World} {S0 : Value} {x : V3} {pv : Array Value} {bb : Bool} (hp : pv = plZ) (h : PlK w S0 x pv bb V) (q0 q1 q2 q3 : Value) (b' : Bool) :
    PlK w S0 x #[q0, q1, q2, q3] b' ((((((V.setCell ⟨w.heap.size + 2, 0, none⟩ q0).setCell ⟨w.heap.size + 2, 1, none⟩ q1).setCell ⟨w.heap.size + 2, 2, none⟩ q2).setCell ⟨w.heap.size + 2, 3, none⟩ q3).setCell ⟨w.heap.size + 3, 0, none⟩ (.bool b')).setCell ⟨w.heap.size + 4, 0, none⟩ (.int .i64 0)) ∧ Mod (fun k => k = w.heap.size + 2 ∨ k = w.heap.size + 3 ∨ k = w.heap.size + 4) V ((((((V.setCell ⟨w.heap.size + 2, 0, none⟩ q0).setCell ⟨w.heap.size + 2, 1, none⟩ q1).setCell ⟨w.heap.size + 2, 2, none⟩ q2).setCell ⟨w.heap.size + 2, 3, none⟩ q3).setCell ⟨w.heap.size + 3, 0, none⟩ (.bool b')).setCell ⟨w.heap.size + 4, 0, none⟩ (.int .i64 0)) := by
  subst hp
  obtain ⟨h1, ⟨h2, h3⟩, h4, h5, h6⟩ := h
  have hm : Mod (fun k => k = w.heap.size + 2 ∨ k = w.heap.size + 3 ∨ k = w.heap.size + 4) V ((((((V.setCell ⟨w.heap.size + 2, 0, none⟩ q0).setCell ⟨w.heap.size + 2, 1, none⟩ q1).setCell ⟨w.heap.size + 2, 2, none⟩ q2).setCell ⟨w.heap.size + 2, 3, none⟩ q3).setCell ⟨w.heap.size + 3, 0, none⟩ (.bool b')).setCell ⟨w.heap.size + 4, 0, none⟩ (.int .i64 0)) :=
    (((((Mod.setCell _ _ _ _ (.inl rfl)).trans (Mod.setCell _ _ _ _ (.inl rfl))).trans (Mod.setCell _ _ _ _ (.inl rfl))).trans (Mod.setCell _ _ _ _ (.inl rfl))).trans (Mod.setCell _ _ _ _ (.inr (.inl rfl)))).trans (Mod.setCell _ _ _ _ (.inr (.inr rfl)))
  refine ⟨⟨Mod.new h1 hm fun k hk => by omega, ⟨(hm.2 _ (Array.getElem?_eq_some_iff.1 h2).1 (by omega)).trans h2, (hm.2 _ (Array.getElem?_eq_some_iff.1 h3).1 (by omega)).trans h3⟩, ?_, ?_, ?_⟩, hm⟩
  · rw [heap_setCell_other _ _ _ _ _ (by omega), heap_setCell_other _ _ _ _ _ (by omega)]
    exact heap_put4z h4
  · rw [heap_setCell_other _ _ _ _ _ (by omega)]
    exact heap_setCell_same _ _ 0 _ ((heap_setCell_other _ _ _ _ _ (by omega)).trans ((heap_setCell_other _ _ _ _ _ (by omega)).trans ((heap_setCell_other _ _ _ _ _ (by omega)).trans ((heap_setCell_other _ _ _ _ _ (by omega)).trans h5))))
  · exact heap_setCell_same _ _ 0 _ ((heap_setCell_other _ _ _ _ _ (by omega)).trans ((heap_setCell_other _ _ _ _ _ (by omega)).trans ((heap_setCell_other _ _ _ _ _ (by omega)).trans ((heap_setCell_other _ _ _ _ _ (by omega)).trans ((heap_setCell_other _ _ _ _ _ (by omega)).trans h6)))))

set_option maxRecDepth 100000 in
set_option maxHeartbeats 16000000 in
theorem plane_ok (b off n cp : Nat) (a1 a2 a3 : Int) (T : List T5) (w : World) (hT : Tnts w b off n T) (htn : tnOk T) (hS : shOk T) (hn : n ≤ 1000) (hn0 : 0 < n) (ha1 : 0 ≤ a1 ∧ a1 ≤ 1000) (ha2 : 0 ≤ a2 ∧ a2 ≤ 1000) (ha3 : 0 ≤ a3 ∧ a3 ≤ 1000)
    (hcw : ∀ w1, New w w1 → Calls Try.prog 36 #[.slice (some ⟨b, off, none⟩) n cp, vv a1 a2 a3] w1 fun e w' => e = .returned (.int .i64 0) ∧ New w1 w') :
    Calls Try.prog 17 #[.slice (some ⟨b, off, none⟩) n cp, vv a1 a2 a3] w (PnR w T n ⟨a1, a2, a3⟩) := by
  have hx : bdV 1000 ⟨a1, a2, a3⟩ := ⟨⟨by simp only; omega, by simp only; omega⟩, ⟨by simp only; omega, by simp only; omega⟩, by simp only; omega, by simp only; omega⟩
  have HCW := Lib.hid (fun (w1 : World) h1 => (callsIn_wide (n := 4)).2 (hcw w1 h1))
  have HUP := Lib.hid (fun (V : World) (base : Nat) (pl : List Nat) (v : Value) (hV : New w V) (q1 : 1 ≤ pl.length) (q3 : pl.length ≤ 3) (ql : ∀ p ∈ pl, p < n) (hv : V.ownsRow base 3 1 v pl.length (natCells pl)) => upright_c b off n cp base T pl ⟨a1, a2, a3⟩ v V (hT.new hV) hS hn q1 q3 ql hx hv)
  have HPO := Lib.hid (fun (V : World) (pl : List Nat) (hV : New w V) (q1 : 1 ≤ pl.length) (q3 : pl.length ≤ 3) => planeOf_c b off n cp T (upr T ⟨a1, a2, a3⟩ pl) V (hT.new hV) hS hn hn0 (upr_bd hS hx q1 q3))
  have HIB := Lib.hid (fun (V : World) (N0 N1 N2 C : Int) (hV : New w V) => isBetween_c (some ⟨b, off, none⟩) n cp T a1 a2 a3 N0 N1 N2 C V hn htn (fun _ => ⟨b, off, rfl, hT.new hV⟩) ha1 ha2 ha3)
  have hbl := hT.2.1
  clear hT htn hS hcw hx ha1 ha2 ha3
  refine (callsIn_wide (n := 5)).1 ?_
  refine callsIn_of_wp_marks Try.func17 rfl trivial ?_ rfl
  simp only [Try.ntmps17, List.size_toArray, List.length_cons, List.length_nil, Nat.reduceAdd, Nat.reduceSub, Array.replicate_succ, Array.replicate_zero, List.push_toArray, List.append_toArray, List.nil_append, List.cons_append]
  gi_wp2
  obtain ⟨W1, hW1⟩ : ∃ W1, W1 = ((((w.alloc (.cells #[.slice (some ⟨b, off, none⟩) n cp] 22)).alloc (.cells #[.int .i64 a1, .int .i64 a2, .int .i64 a3] 37)).alloc (.cells plZ 41)).alloc (.cells #[.bool false] 4)).alloc (.cells #[.int .i64 0] 31) := ⟨_, rfl⟩
  have HK1 := Lib.hid (show PlK w (.slice (some ⟨b, off, none⟩) n cp) ⟨a1, a2, a3⟩ plZ false W1 by
    have h4 := alloc4_heap w (.cells #[.slice (some ⟨b, off, none⟩) n cp] 22) (.cells #[.int .i64 a1, .int .i64 a2, .int .i64 a3] 37) (.cells plZ 41) (.cells #[.bool false] 4)
    have h5 := World.alloc_heap_new ((((w.alloc (.cells #[.slice (some ⟨b, off, none⟩) n cp] 22)).alloc (.cells #[.int .i64 a1, .int .i64 a2, .int .i64 a3] 37)).alloc (.cells plZ 41)).alloc (.cells #[.bool false] 4)) (.cells #[.int .i64 0] 31)
    rw [hW1]
    obtain ⟨q1, q2, q3, q4⟩ := h4
    exact ⟨((((((New.refl _).alloc _).alloc _).alloc _).alloc _).alloc _), ⟨al_old q1, al_old q2⟩, al_old q3, al_old q4, by simpa using h5⟩)
  unfold plZ at hW1
  rw [← hW1]
  clear hW1
  have c0 := box_cell HK1.out.2.1.1
  obtain ⟨d0, d1, d2⟩ := cells3 HK1.out.2.1.2
  have hs1 := (Array.getElem?_eq_some_iff.1 HK1.out.2.2.2.2).1
  gi_wp2
  refine ⟨trivial, ?_⟩
  gi_at_call 36
  refine (HCW.out _ HK1.out.1).mono ?_
  rintro e w2 ⟨rfl, hn2⟩
  have HK2 := Lib.hid (HK1.out.mod (O := fun _ => False) (Mod.of_new hn2) (fun k h => h.elim))
  have HL0 := Lib.hid (show PlL w (.slice (some ⟨b, off, none⟩) n cp) T n ⟨a1, a2, a3⟩ 0 [] w2 from ⟨by omega, List.nodup_nil, (fun k h => h.elim), (fun D h => by cases h), _, HK2.out, .inl ⟨rfl, rfl, fun pl h => by simp [dirs] at h⟩⟩)
  clear hn2 c0 d0 d1 d2 HK1 hs1 HK2
  gi_wp2
  refine wpIn_loop (fun a' w' => ∃ (s : Nat) (Ds : List Nat) (u7 u9 u10 u11 u12 u13 u14 u15 u16 u17 u18 u19 u20 u21 u22 u23 u24 u25 u26 u27 u28 u29 u30 u31 u32 u33 u34 u35 u36 u37 u38 : Value), PlL w (.slice (some ⟨b, off, none⟩) n cp) T n ⟨a1, a2, a3⟩ s Ds w' ∧ a' = { tmps := #[.slice (some ⟨b, off, none⟩) n cp, vv a1 a2 a3, .pointer (some ⟨w.heap.size, 0, none⟩), .pointer (some ⟨w.heap.size + 1, 0, none⟩), .pointer (some ⟨w.heap.size + 2, 0, none⟩), .pointer (some ⟨w.heap.size + 3, 0, none⟩), .pointer (some ⟨w.heap.size + 4, 0, none⟩), u7, .int .i64 ((s : Int) + 1), u9, u10, u11, u12, u13, u14, u15, u16, u17, u18, u19, u20, u21, u22, u23, u24, u25, u26, u27, u28, u29, u30, u31, u32, u33, u34, u35, u36, u37, u38], defers := marks Ds }) (fun a' _ => 4 - (intOf (a'.tmps.getD 8 undef)).toNat) ?_ ?_
  · exact ⟨0, [], _, _, _, _, _, _, _, _, _, _, _, _, _, _, _, _, _, _, _, _, _, _, _, _, _, _, _, _, _, _, _, HL0.out, rfl⟩
  · rintro a' wr ⟨s, Ds, u7, u9, u10, u11, u12, u13, u14, u15, u16, u17, u18, u19, u20, u21, u22, u23, u24, u25, u26, u27, u28, u29, u30, u31, u32, u33, u34, u35, u36, u37, u38, hL, rfl⟩
    have HL := Lib.hid hL
    obtain ⟨hs3, hnd, k1, k2, pv, kk, kc⟩ := hL
    obtain ⟨rfl, hall⟩ : pv = plZ ∧ ∀ pl ∈ dirs n s ++ [], btP T n ⟨a1, a2, a3⟩ pl = false := kc.elim (fun h => h.2) (fun h => by cases h.1)
    rw [List.append_nil] at hall
    have HALL := Lib.hid hall
    have HK := Lib.hid kk
    clear hall kc kk k1 k2
    by_cases hlt : s < 3
    · have c1 := (box_cell HK.out.2.1.1).1
      have hsB := (Array.getElem?_eq_some_iff.1 HK.out.2.2.2.2).1
      have HCC := Lib.hid (fun (w1 : World) => (callsIn_wide (n := 4)).2 (choices_c (n : Int) ((s : Int) + 1) w1))
      have ht : (s : Int) + 1 ≤ 3 := by omega
      have ht2 : (s : Int) < 3 := by omega
      have ht3 : (s : Int) ≤ 2 := by omega
      clear hs3 hnd
      dsimp only
      gi_wp2
      refine ⟨trivial, ?_⟩
      gi_at_call 41
      refine (HCC.out _).mono ?_
      rintro e w2 ⟨rfl, rfl⟩
      gi_wp2
      obtain ⟨WS, HWS⟩ : ∃ WS : World, Hid (WS = (wr.alloc (.cells #[.int .i64 (n : Int)] 3)).alloc (.cells #[.int .i64 ((s : Int) + 1)] 3)) := ⟨_, Lib.hid rfl⟩
      rw [← HWS.out]
      have HNS := Lib.hid (show New wr WS by rw [HWS.out]; exact ((New.refl _).alloc _).alloc _)
      have hss : wr.heap.size + 2 ≤ WS.heap.size := by rw [HWS.out]; simp
      have HSB : Hid (WS.heap[wr.heap.size + 1]? = some (.cells #[.int .i64 ((s + 1 : Nat) : Int)] 3 (0, 0)) ∧ WS.heap[wr.heap.size]? = some (.cells #[.int .i64 (n : Int)] 3 (0, 0))) := Lib.hid (by
        rw [HWS.out]
        exact ⟨alloc2_new rfl, by rw [Below.heap_alloc _ _ _ (by simp)]; exact World.alloc_heap_new _ _⟩)
      refine range_iter (n := 5) (by omega) (gf := 65) (lb := #[.pointer (some ⟨wr.heap.size + 1, 0, none⟩), .pointer (some ⟨wr.heap.size, 0, none⟩)]) rfl (enters_of Try.func65 (by kernel_rfl) rfl)
        (Elem := ElemL) (xs := extL n (s + 1) [] 0) (E := fun k => k = wr.heap.size + 1 ∨ k = wr.heap.size)
        (fun W1 hn1 _ => choices_it n (s + 1) _ _ (by omega) hn W1 ((hn1.below.block _ (by omega)).trans HSB.out.1) ((hn1.below.block _ (by omega)).trans HSB.out.2))
        (by intro k hk; omega) (by rintro x args O W ⟨_, _, rfl, _⟩; rfl)
        (PlI w (.slice (some ⟨b, off, none⟩) n cp) T n ⟨a1, a2, a3⟩ (dirs n s) Ds) (PlI.stable _ _ _ _ _ _ _) ?h0 ?hbody ?hdone ?hstop
      case h0 =>
        obtain ⟨_, _, hI⟩ := HL.out
        refine PlI.stable w _ T n _ (dirs n s) Ds _ _ _ _ _ _ hI (Mod.of_new HNS.out) ?_
        rintro k (hk | hk | hk)
        · cases hk
        · right; omega
        · right; omega
      case hbody =>
        intro mm O done x args Wb hI hE hpre hO1 hO2 hrec hbnd
        have HBND := Lib.hid hbnd
        clear hbnd
        obtain ⟨base', v', rfl, hpl⟩ := hE
        obtain ⟨ax, cx, rfl⟩ := own_slice hpl.1
        have hxm := hpre.subset (by simp : x ∈ done ++ [x])
        obtain ⟨hxl, hxn⟩ := extL_mem hxm
        have HXN := Lib.hid (hxn (by simp))
        have HXM := Lib.hid (dirs_mem hlt hxm)
        have hxl1 : x.length ≤ 3 := by simp at hxl; omega
        have hxl2 : 1 ≤ x.length := by simp at hxl; omega
        have HPL := Lib.hid hpl
        have HI := Lib.hid hI
        clear hxl hxn hxm hpl hpre hI hrec c1 HCC
        gi_wp2
        refine ⟨Keep.refl _ _, ?_⟩
        intro W2 hb2 hs2 ho2 hrec2
        have HI2 := Lib.hid (PlI.stable w _ T n _ (dirs n s) Ds _ _ _ _ _ W2 HI.out (show Mod (plus WS.heap.size O) Wb W2 from ⟨hb2, fun k hk hne => ho2 k (fun e => hne (.inr (.inr e)))⟩) (fun k hk => .inl hk))
        have HOW := Lib.hid (show W2.ownsRow base' 3 1 (.slice ax x.length cx) x.length (natCells x) from own_keep HPL.out.1 (fun g hg => ho2 g (fun e => hO1 (e ▸ HPL.out.2 g hg))))
        obtain ⟨i1, i2, pv, hk2, hc2⟩ := HI2.out
        obtain ⟨rfl, hdn⟩ : pv = plZ ∧ ∀ pl ∈ dirs n s ++ done, btP T n ⟨a1, a2, a3⟩ pl = false := hc2.elim (fun h => h.2) (fun h => by cases h.1)
        have HK2 := Lib.hid hk2
        have HDN := Lib.hid hdn
        have HIO := Lib.hid (And.intro i1 i2)
        have HUPR := Lib.hid (fun (V : World) (hV : New W2 V) => HUP.out V base' x _ (hk2.1.trans hV) hxl2 hxl1 HXN.out (own_new HOW.out hV))
        have HPOR := Lib.hid (fun (V : World) (hV : New W2 V) => HPO.out V x (hk2.1.trans hV) hxl2 hxl1)
        have HIBR := Lib.hid (fun (V : World) (N0 N1 N2 C : Int) (hV : New W2 V) => CallsIn.inRound (WS.heap.size + 1) ((callsIn_wide (n := mm - 1)).2 (HIB.out V N0 N1 N2 C (hk2.1.trans hV))))
        have HBT := Lib.hid (show btP T n ⟨a1, a2, a3⟩ x = btB T n (upr T ⟨a1, a2, a3⟩ x).x (upr T ⟨a1, a2, a3⟩ x).y (upr T ⟨a1, a2, a3⟩ x).z (mxTo T (upr T ⟨a1, a2, a3⟩ x) n) a1 a2 a3 from rfl)
        have hsB2 := (Array.getElem?_eq_some_iff.1 HK2.out.2.2.2.2).1
        have hSS := HNS.out.size
        have HCE := Lib.hid (show ∀ V, New W2 V → (V.cell? ⟨w.heap.size, 0, none⟩ = some (.slice (some ⟨b, off, none⟩) n cp) ∧ V.cell? ⟨w.heap.size + 1, 0, none⟩ = some (.int .i64 a1) ∧ V.cell? ⟨w.heap.size + 1, 1, none⟩ = some (.int .i64 a2) ∧ V.cell? ⟨w.heap.size + 1, 2, none⟩ = some (.int .i64 a3)) from fun V hV => by
          have q := HK2.out.mod (O := fun _ => False) (Mod.of_new hV) (fun k h => h.elim)
          obtain ⟨z1, z2, z3⟩ := cells3 q.2.1.2
          exact ⟨(box_cell q.2.1.1).1, z1, z2, z3⟩)
        obtain ⟨N0, hN0⟩ : ∃ N0, N0 = (upr T ⟨a1, a2, a3⟩ x).x := ⟨_, rfl⟩
        obtain ⟨N1, hN1⟩ : ∃ N1, N1 = (upr T ⟨a1, a2, a3⟩ x).y := ⟨_, rfl⟩
        obtain ⟨N2, hN2⟩ : ∃ N2, N2 = (upr T ⟨a1, a2, a3⟩ x).z := ⟨_, rfl⟩
        obtain ⟨CC, hCC⟩ : ∃ CC, CC = mxTo T (upr T ⟨a1, a2, a3⟩ x) n := ⟨_, rfl⟩
        rw [← hN0, ← hN1, ← hN2, ← hCC] at HBT HPOR
        have HPC := Lib.hid (show plC T n ⟨a1, a2, a3⟩ x = #[.int .i64 N0, .int .i64 N1, .int .i64 N2, .int .i64 CC] by rw [hN0, hN1, hN2, hCC]; rfl)
        unfold v3 at HUPR HPOR
        rw [← hN0, ← hN1, ← hN2] at HUPR HPOR
        clear hN0 hN1 hN2 hCC hb2 hs2 ho2 hrec2 hO1 hO2 i1 i2 hk2 hc2 hdn
        -- what a round leaves
        have HFIN := Lib.hid (show ∀ V, New W2 V → btP T n ⟨a1, a2, a3⟩ x = false → RoundP WS.heap.size O (fun k => k = wr.heap.size + 1 ∨ k = wr.heap.size) (PlI w (.slice (some ⟨b, off, none⟩) n cp) T n ⟨a1, a2, a3⟩ (dirs n s) Ds) (done ++ [x]) W2 .normal V from fun V hV hf => by
          obtain ⟨j1, j2, pv', j3, j4⟩ := PlI.stable w _ T n _ (dirs n s) Ds _ _ _ _ _ V HI2.out (Mod.of_new hV) (fun k hk => .inl hk)
          refine ⟨Keep.of_new hV, false, ⟨j1, j2, pv', j3, .inl ⟨rfl, (j4.elim (fun h => h.2.1) (fun h => by cases h.1)), fun pl hpl => ?_⟩⟩, .inl ⟨rfl, rfl⟩⟩
          rw [← List.append_assoc, List.mem_append, List.mem_singleton] at hpl
          rcases hpl with hpl | rfl
          · exact HDN.out pl hpl
          · exact hf)
        have HSET := Lib.hid (show ∀ V, New W2 V → btP T n ⟨a1, a2, a3⟩ x = true → RoundP WS.heap.size O (fun k => k = wr.heap.size + 1 ∨ k = wr.heap.size) (PlI w (.slice (some ⟨b, off, none⟩) n cp) T n ⟨a1, a2, a3⟩ (dirs n s) Ds) (done ++ [x]) W2 .ret ((((((V.setCell ⟨w.heap.size + 2, 0, none⟩ (.int .i64 N0)).setCell ⟨w.heap.size + 2, 1, none⟩ (.int .i64 N1)).setCell ⟨w.heap.size + 2, 2, none⟩ (.int .i64 N2)).setCell ⟨w.heap.size + 2, 3, none⟩ (.int .i64 CC)).setCell ⟨w.heap.size + 3, 0, none⟩ (.bool true)).setCell ⟨w.heap.size + 4, 0, none⟩ (.int .i64 0)) from fun V hV hb => by
          obtain ⟨j1, j2, pv', j3, j4⟩ := PlI.stable w _ T n _ (dirs n s) Ds _ _ _ _ _ V HI2.out (Mod.of_new hV) (fun k hk => .inl hk)
          have hp : pv' = plZ := j4.elim (fun h => h.2.1) (fun h => by cases h.1)
          obtain ⟨z1, z2⟩ := pl_put hp j3 (.int .i64 N0) (.int .i64 N1) (.int .i64 N2) (.int .i64 CC) true
          refine ⟨(Keep.of_new hV).trans (Keep.of_mod z2 (fun k hk e => ?_)), true, ⟨j1, fun D hD => ⟨(z2.2 D (Array.getElem?_eq_some_iff.1 (j2 D hD).1).1 (fun e => by have := (j2 D hD).2; omega)).trans (j2 D hD).1, (j2 D hD).2⟩, _, z1, .inr ⟨rfl, x, HXM.out, hb, HPC.out.symm⟩⟩, .inr ⟨rfl, rfl⟩⟩
          rcases hk with hk | hk | hk
          · have := (j1 k hk).1; omega
          · omega
          · omega)
        have q0 := HCE.out W2 (New.refl _)
        obtain ⟨e0, e1, e2, e3⟩ := q0
        have hq0 : w.heap.size < W2.heap.size := by omega
        have hq1 : w.heap.size + 1 < W2.heap.size := by omega
        gi_upto_region 9 with (fail)
        refine region_round (fun w' => (w'.cell? ⟨w.heap.size, 0, none⟩ = some (.slice (some ⟨b, off, none⟩) n cp) ∧ w'.cell? ⟨w.heap.size + 1, 0, none⟩ = some (.int .i64 a1) ∧ w'.cell? ⟨w.heap.size + 1, 1, none⟩ = some (.int .i64 a2) ∧ w'.cell? ⟨w.heap.size + 1, 2, none⟩ = some (.int .i64 a3)))
          (fun a a' w' => ∃ G : Nat, a' = ((((((a.put (some 27) (.slice (some ⟨b, off, none⟩) n cp)).put (some 28) (.slice (some ⟨b, off, none⟩) n cp)).put (some 29) (.slice ax x.length cx)).put (some 30) (vv a1 a2 a3)).put (some 31) (vv N0 N1 N2)).put (some 32) (plV N0 N1 N2 CC)).put (some 10) (.pointer (some ⟨G, 0, none⟩)) ∧ New W2 w' ∧ w'.heap[G]? = some (.cells #[.int .i64 N0, .int .i64 N1, .int .i64 N2, .int .i64 CC] 41 (0, 0)) ∧ W2.heap.size ≤ G)
          (by kernel_rfl) (by kernel_rfl) (HCE.out _ (New.refl _).drew) (fun hHeld => ?_) ?_
        · have HD := Lib.hid (show New W2 W2.drew from (New.refl _).drew)
          refine wpAnyH_take (i := 0) (v := ?_) rfl (by kernel_rfl) (by kernel_rfl) (by kernel_rfl) (fun _ _ _ h => h) (Or.inl ⟨by rfl, (by intro w hSw; (try dsimp only at hSw); go_simp; try with_reducible rfl)⟩) (by assumption) ?_
          (try simp only [Act.put, List.setIfInBounds_toArray, List.set_cons_zero, List.set_cons_succ])
          refine wpAnyH_take (i := 1) (v := ?_) rfl (by kernel_rfl) (by kernel_rfl) (by kernel_rfl) (fun _ _ _ h => h) (Or.inl ⟨by rfl, (by intro w hSw; (try dsimp only at hSw); go_simp; try with_reducible rfl)⟩) (by assumption) ?_
          (try simp only [Act.put, List.setIfInBounds_toArray, List.set_cons_zero, List.set_cons_succ])
          refine wpAnyH_take (i := 2) (v := ?_) rfl (by kernel_rfl) (by kernel_rfl) (by kernel_rfl) (fun _ _ _ h => h) (Or.inl ⟨by rfl, (by intro w hSw; (try dsimp only at hSw); go_simp; try with_reducible rfl)⟩) (by assumption) ?_
          (try simp only [Act.put, List.setIfInBounds_toArray, List.set_cons_zero, List.set_cons_succ])
          refine wpAnyH_take (i := 3) (v := ?_) rfl (by kernel_rfl) (by kernel_rfl) (by kernel_rfl) (fun _ _ _ h => h) (Or.inl ⟨by rfl, (by intro w hSw; (try dsimp only at hSw); go_simp; try with_reducible rfl)⟩) (by assumption) ?_
          (try simp only [Act.put, List.setIfInBounds_toArray, List.set_cons_zero, List.set_cons_succ])
          refine wpAnyH_ready (rs := [4, 6]) (by kernel_rfl) (by simp) ?_
          refine AllReadyH.cons rfl (fun K hK => ?_) (AllReadyH.cons rfl (fun K hK => ?_) AllReadyH.nil)
          · go_simp
            go_at_call 43
            refine (HUPR.out _ HD.out).mono ?_
            rintro e w5 ⟨rfl, hn5⟩
            have HN5 := Lib.hid ((HD.out : New W2 _).trans hn5)
            refine hK.out _ _ ?_ (fun hHeld => ?_)
            · exact HCE.out _ HN5.out
            clear hK K
            (try simp only [Act.put, List.setIfInBounds_toArray, List.set_cons_zero, List.set_cons_succ])
            refine wpAnyH_ready (rs := [5, 6]) (by kernel_rfl) (by simp) ?_
            refine AllReadyH.cons rfl (fun K hK => ?_) (AllReadyH.cons rfl (fun K hK => ?_) AllReadyH.nil)
            · go_simp
              go_at_call 42
              refine (HPOR.out _ HN5.out).mono ?_
              rintro e w6 ⟨rfl, hn6⟩
              have HN6 := Lib.hid ((HN5.out : New W2 _).trans hn6)
              refine hK.out _ _ ?_ (fun hHeld => ?_)
              · exact HCE.out _ HN6.out
              clear hK K
              (try simp only [Act.put, List.setIfInBounds_toArray, List.set_cons_zero, List.set_cons_succ])
              refine wpAnyH_ready (rs := [6]) (by kernel_rfl) (by simp) ?_
              refine AllReadyH.cons rfl (fun K hK => ?_) AllReadyH.nil
              go_simp
              refine hK.out _ _ ?_ (fun hHeld => ?_)
              · exact HCE.out _ (HN6.out.alloc _)
              clear hK K
              (try simp only [Act.put, List.setIfInBounds_toArray, List.set_cons_zero, List.set_cons_succ])
              refine wpAnyH_ready (rs := [7]) (by kernel_rfl) (by simp) ?_
              refine AllReadyH.cons rfl (fun K hK => ?_) AllReadyH.nil
              unfold plV
              go_simp
              refine hK.out _ _ ?_ (fun hHeld => ?_)
              · exact HCE.out _ (HN6.out.alloc _)
              clear hK K
              (try simp only [Act.put, List.setIfInBounds_toArray, List.set_cons_zero, List.set_cons_succ])
              refine wpAnyH_done (by kernel_rfl) ?_ _
              exact ⟨_, rfl, HN6.out.alloc _, World.alloc_heap_new _ _, HN6.out.size⟩
            · go_simp
              refine hK.out _ _ ?_ (fun hHeld => ?_)
              · exact HCE.out _ (HN5.out.alloc _)
              clear hK K
              (try simp only [Act.put, List.setIfInBounds_toArray, List.set_cons_zero, List.set_cons_succ])
              refine wpAnyH_ready (rs := [5]) (by kernel_rfl) (by simp) ?_
              refine AllReadyH.cons rfl (fun K hK => ?_) AllReadyH.nil
              go_simp
              go_at_call 42
              refine (HPOR.out _ (HN5.out.alloc _)).mono ?_
              rintro e w6 ⟨rfl, hn6⟩
              have HN6 := Lib.hid (((HN5.out.alloc _) : New W2 _).trans hn6)
              refine hK.out _ _ ?_ (fun hHeld => ?_)
              · exact HCE.out _ HN6.out
              clear hK K
              (try simp only [Act.put, List.setIfInBounds_toArray, List.set_cons_zero, List.set_cons_succ])
              have HAL := Lib.hid (show w6.heap[w5.heap.size]? = some (.cells #[.int .i64 0, .int .i64 0, .int .i64 0, .int .i64 0] 41 (0, 0)) from al_new hn6)
              have hgz : W2.heap.size ≤ w5.heap.size := HN5.out.size
              have HNF := Lib.hid (show New W2 ((((w6.setCell ⟨w5.heap.size, 0, none⟩ (.int .i64 N0)).setCell ⟨w5.heap.size, 1, none⟩ (.int .i64 N1)).setCell ⟨w5.heap.size, 2, none⟩ (.int .i64 N2)).setCell ⟨w5.heap.size, 3, none⟩ (.int .i64 CC)) from (((HN6.out.setCell hgz _).setCell hgz _).setCell hgz _).setCell hgz _)
              obtain ⟨⟨g0, g1, g2⟩, g3⟩ := cells4q HAL.out
              have gf := frozen_heap HAL.out
              refine wpAnyH_ready (rs := [7]) (by kernel_rfl) (by simp) ?_
              refine AllReadyH.cons rfl (fun K hK => ?_) AllReadyH.nil
              unfold plV
              go_simp
              refine hK.out _ _ ?_ (fun hHeld => ?_)
              · exact HCE.out _ HNF.out
              clear hK K
              (try simp only [Act.put, List.setIfInBounds_toArray, List.set_cons_zero, List.set_cons_succ])
              refine wpAnyH_done (by kernel_rfl) ?_ _
              exact ⟨_, rfl, HNF.out, heap_put4z HAL.out, hgz⟩
          · go_simp
            refine hK.out _ _ ?_ (fun hHeld => ?_)
            · exact HCE.out _ (HD.out.alloc _)
            clear hK K
            (try simp only [Act.put, List.setIfInBounds_toArray, List.set_cons_zero, List.set_cons_succ])
            refine wpAnyH_ready (rs := [4]) (by kernel_rfl) (by simp) ?_
            refine AllReadyH.cons rfl (fun K hK => ?_) AllReadyH.nil
            go_simp
            go_at_call 43
            refine (HUPR.out _ (HD.out.alloc _)).mono ?_
            rintro e w5 ⟨rfl, hn5⟩
            have HN5 := Lib.hid (((HD.out.alloc _) : New W2 _).trans hn5)
            refine hK.out _ _ ?_ (fun hHeld => ?_)
            · exact HCE.out _ HN5.out
            clear hK K
            (try simp only [Act.put, List.setIfInBounds_toArray, List.set_cons_zero, List.set_cons_succ])
            refine wpAnyH_ready (rs := [5]) (by kernel_rfl) (by simp) ?_
            refine AllReadyH.cons rfl (fun K hK => ?_) AllReadyH.nil
            go_simp
            go_at_call 42
            refine (HPOR.out _ HN5.out).mono ?_
            rintro e w6 ⟨rfl, hn6⟩
            have HN6 := Lib.hid ((HN5.out : New W2 _).trans hn6)
            refine hK.out _ _ ?_ (fun hHeld => ?_)
            · exact HCE.out _ HN6.out
            clear hK K
            (try simp only [Act.put, List.setIfInBounds_toArray, List.set_cons_zero, List.set_cons_succ])
            have HAL := Lib.hid (show w6.heap[W2.heap.size]? = some (.cells #[.int .i64 0, .int .i64 0, .int .i64 0, .int .i64 0] 41 (0, 0)) from (hn6.below.block _ (Array.getElem?_eq_some_iff.1 (al_new hn5)).1).trans (al_new hn5))
            have hgz : W2.heap.size ≤ W2.heap.size := Nat.le_refl _
            have HNF := Lib.hid (show New W2 ((((w6.setCell ⟨W2.heap.size, 0, none⟩ (.int .i64 N0)).setCell ⟨W2.heap.size, 1, none⟩ (.int .i64 N1)).setCell ⟨W2.heap.size, 2, none⟩ (.int .i64 N2)).setCell ⟨W2.heap.size, 3, none⟩ (.int .i64 CC)) from (((HN6.out.setCell hgz _).setCell hgz _).setCell hgz _).setCell hgz _)
            obtain ⟨⟨g0, g1, g2⟩, g3⟩ := cells4q HAL.out
            have gf := frozen_heap HAL.out
            refine wpAnyH_ready (rs := [7]) (by kernel_rfl) (by simp) ?_
            refine AllReadyH.cons rfl (fun K hK => ?_) AllReadyH.nil
            unfold plV
            go_simp
            refine hK.out _ _ ?_ (fun hHeld => ?_)
            · exact HCE.out _ HNF.out
            clear hK K
            (try simp only [Act.put, List.setIfInBounds_toArray, List.set_cons_zero, List.set_cons_succ])
            refine wpAnyH_done (by kernel_rfl) ?_ _
            exact ⟨_, rfl, HNF.out, heap_put4z HAL.out, hgz⟩
        · rintro a' w5 ⟨G, rfl, hn5, hG, hGs⟩
          have HN5 := Lib.hid hn5
          have HG := Lib.hid hG
          obtain ⟨e0, e1, e2, e3⟩ := HCE.out _ hn5
          obtain ⟨⟨g0, g1, g2⟩, g3⟩ := cells4q hG
          simp only [Act.put, List.setIfInBounds_toArray, List.set_cons_zero, List.set_cons_succ]
          clear hn5 hG hq0 hq1
          gi_wp2
          refine ⟨trivial, (fun h => by cases h), ?_⟩
          gi_at_call 44
          refine (HIBR.out _ N0 N1 N2 CC HN5.out).mono ?_
          rintro e w7 ⟨rfl, hn7⟩
          rw [← HBT.out]
          have HN7 := Lib.hid (HN5.out.trans hn7)
          have HG7 := Lib.hid (show w7.heap[G]? = some (.cells #[.int .i64 N0, .int .i64 N1, .int .i64 N2, .int .i64 CC] 41 (0, 0)) from (hn7.below.block _ (Array.getElem?_eq_some_iff.1 HG.out).1).trans HG.out)
          clear hn7 e0 e1 e2 e3 g0 g1 g2 g3
          cases hbt : btP T n ⟨a1, a2, a3⟩ x
          · have HS := Lib.hid (HFIN.out w7 HN7.out hbt)
            clear hbt
            gi_wp2
            exact HS.out
          · have HS := Lib.hid (HSET.out w7 HN7.out hbt)
            obtain ⟨⟨g0, g1, g2⟩, g3⟩ := cells4q HG7.out
            have HK7 := Lib.hid (HK2.out.mod (O := fun _ => False) (Mod.of_new HN7.out) (fun k h => h.elim))
            have kz := HK7.out.2.2.1
            unfold plZ at kz
            obtain ⟨⟨h0, h1, h2⟩, h3⟩ := cells4q kz
            have hf := frozen_heap kz
            have hf0 := hf 0
            have hf1 := hf 1
            have hf2 := hf 2
            have hf3 := hf 3
            obtain ⟨c1, c1f⟩ := box_cell HK7.out.2.2.2.1
            obtain ⟨c2, c2f⟩ := box_cell HK7.out.2.2.2.2
            have hGn : ¬ G = w.heap.size + 2 := by omega
            have hl7 := (Array.getElem?_eq_some_iff.1 HK7.out.2.2.2.2).1
            clear hbt kz hf
            gi_wp2
            exact HS.out
      case hdone =>
        rintro O W' ⟨i1, i2, pv, hk, hc⟩ hdf
        obtain ⟨rfl, hdn⟩ : pv = plZ ∧ ∀ pl ∈ dirs n s ++ extL n (s + 1) [] 0, btP T n ⟨a1, a2, a3⟩ pl = false := hc.elim (fun h => h.2) (fun h => by cases h.1)
        have HL1 := Lib.hid (show PlL w (.slice (some ⟨b, off, none⟩) n cp) T n ⟨a1, a2, a3⟩ (s + 1) (WS.heap.size :: Ds) W' by
          obtain ⟨_, hnd, _, k2, _⟩ := HL.out
          refine ⟨by omega, ?_, (fun k h => h.elim), fun D hD => ?_, _, hk, .inl ⟨rfl, rfl, fun pl hpl => hdn pl (by rw [← dirs_succ]; simpa using hpl)⟩⟩
          · rw [List.nodup_cons]
            exact ⟨fun h => by have := (Array.getElem?_eq_some_iff.1 (k2 _ h).1).1; omega, hnd⟩
          · rw [List.mem_cons] at hD
            rcases hD with rfl | hD
            · exact ⟨hdf, by omega⟩
            · exact i2 D hD)
        clear i1 i2 hk hc hdf hdn
        have hw1 : IntKind.i64.wrap ((s : Int) + 1 + 1) = (s : Int) + 1 + 1 := IntWalk.i64_in _ (by omega)
        gi_wp2
        refine ⟨⟨s + 1, WS.heap.size :: Ds, _, _, _, _, _, _, _, _, _, _, _, _, _, _, _, _, _, _, _, _, _, _, _, _, _, _, _, _, _, _, _, HL1.out, (by rw [show ((s + 1 : Nat) : Int) = (s : Int) + 1 by omega]; rfl)⟩, ?_⟩
        simp [intOf]
        omega
      case hstop =>
        rintro O done W' ⟨i1, i2, pv, hk, hc⟩ hpre hdf
        obtain ⟨pl, hpl, hbt, rfl⟩ : ∃ pl ∈ dirs n 3, btP T n ⟨a1, a2, a3⟩ pl = true ∧ pv = plC T n ⟨a1, a2, a3⟩ pl := hc.elim (fun h => by cases h.1) (fun h => h.2)
        obtain ⟨_, hnd, _, k2, _⟩ := HL.out
        have HND := Lib.hid (show (WS.heap.size :: Ds).Nodup by
          rw [List.nodup_cons]
          exact ⟨fun h => by have := (Array.getElem?_eq_some_iff.1 (k2 _ h).1).1; omega, hnd⟩)
        have HDS := Lib.hid (show ∀ D ∈ WS.heap.size :: Ds, W'.heap[D]? = some (.deferred (some [])) ∧ w.heap.size + 5 ≤ D from fun D hD => by
          rw [List.mem_cons] at hD
          rcases hD with rfl | hD
          · exact ⟨hdf, by omega⟩
          · exact i2 D hD)
        have HKF := Lib.hid hk
        have HPF := Lib.hid (And.intro hpl hbt)
        clear i1 i2 hk hc hdf hnd k2 hpre hpl hbt
        gi_wp2
        refine leaves_marks (WS.heap.size :: Ds) W' HND.out (fun D hD => (HDS.out D hD).1) (fun W9 hm => ?_)
        have hk9 := HKF.out.mod hm (fun k hk => (HDS.out k hk).2)
        exact ⟨_, pn_results _ _ (w.heap.size + 2) (w.heap.size + 3) (w.heap.size + 4) _ _ _ _ true _ _ _ rfl rfl rfl hk9.2.2.1 hk9.2.2.2.1 hk9.2.2.2.2, hk9.1, .inr ⟨pl, HPF.out.1, HPF.out.2, rfl⟩⟩
    · obtain rfl : s = 3 := by omega
      obtain ⟨_, hnd, _, k2, _⟩ := HL.out
      have HND := Lib.hid hnd
      have HDS := Lib.hid k2
      have kz := HK.out.2.2.1
      unfold plZ at kz
      obtain ⟨⟨h0, h1, h2⟩, h3⟩ := cells4q kz
      have hf := frozen_heap kz
      have hf0 := hf 0
      have hf1 := hf 1
      have hf2 := hf 2
      have hf3 := hf 3
      obtain ⟨c1, c1f⟩ := box_cell HK.out.2.2.2.1
      obtain ⟨c2, c2f⟩ := box_cell HK.out.2.2.2.2
      have hl7 := (Array.getElem?_eq_some_iff.1 HK.out.2.2.2.2).1
      have HPUT := Lib.hid (pl_put rfl HK.out (.int .i64 0) (.int .i64 0) (.int .i64 0) (.int .i64 0) false)
      clear hs3 hnd k2 kz hf
      dsimp only
      gi_wp2
      refine leaves_marks Ds ((((((wr.setCell ⟨w.heap.size + 2, 0, none⟩ (.int .i64 0)).setCell ⟨w.heap.size + 2, 1, none⟩ (.int .i64 0)).setCell ⟨w.heap.size + 2, 2, none⟩ (.int .i64 0)).setCell ⟨w.heap.size + 2, 3, none⟩ (.int .i64 0)).setCell ⟨w.heap.size + 3, 0, none⟩ (.bool false)).setCell ⟨w.heap.size + 4, 0, none⟩ (.int .i64 0)) HND.out (fun D hD => (HPUT.out.2.2 D (Array.getElem?_eq_some_iff.1 (HDS.out D hD).1).1 (fun e => by have := (HDS.out D hD).2; omega)).trans (HDS.out D hD).1) (fun W9 hm => ?_)
      have hk9 := HPUT.out.1.mod hm (fun k hk => (HDS.out k hk).2)
      exact ⟨_, pn_results _ _ (w.heap.size + 2) (w.heap.size + 3) (w.heap.size + 4) 0 0 0 0 false _ _ _ rfl rfl rfl hk9.2.2.1 hk9.2.2.2.1 hk9.2.2.2.2, hk9.1, .inl ⟨HALL.out, rfl⟩⟩

end Go.Proofs.Ytpjekinmcdglbaa
