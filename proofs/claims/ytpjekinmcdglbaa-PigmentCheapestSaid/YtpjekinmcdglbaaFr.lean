/- Free tints with their frames, as the closure of free yields them. Tints with shades from 0 to 1000, at most 1000 of them. -/
import Derived.Test.YtpjekinmcdglbaaFo
set_option linter.unusedSimpArgs false
set_option linter.unusedVariables false
namespace Go.Proofs.Ytpjekinmcdglbaa
open Go.RowKit Go.Shelf

attribute [local go_sem] Oper.semAt_some

/-- a function leaves with marks alone among its deferred calls -/
theorem leaves_marks {P : Program} {F : Fence} {n : Nat} {fn : Func} {tmps : Array Value} {R : Ending → World → Prop} : ∀ (Ds : List Nat) (W : World), Ds.Nodup → (∀ D ∈ Ds, W.heap[D]? = some (.deferred (some []))) →
    (∀ W', Mod (fun k => k ∈ Ds) W W' → LeavesIn F n P fn tmps R [] .returning W') → LeavesInM F n P fn tmps R (Ds.map fun D => { target := .collected D, args := #[] }) .returning W
  | [], W, _, _, h => h W (Mod.refl _ _)
  | D :: Ds, W, hd, hW, h => by
    rw [List.nodup_cons] at hd
    refine ⟨by simp, .inl ⟨_, _, rfl, run_takeDeferred (hW D (by simp)), ?_⟩⟩
    refine leaves_marks Ds _ hd.2 (fun D' hD' => ?_) (fun W' hm => h W' ?_)
    · rw [World.putObj_heap_other (show D' ≠ D from fun e => hd.1 (e ▸ hD'))]
      exact hW D' (by simp [hD'])
    · exact (Mod.putObj (O := fun k => k ∈ D :: Ds) W D _ (by simp)).trans (hm.mono fun k hk => by simp [hk])

def frF (T : List T5) (pl : List Nat) : Option (List Nat × (Nat → Int)) := if (frameR T pl).2 = true then some (pl, (frameR T pl).1) else none
/-- the free tints of at most s, with their frames -/
def freeTo (T : List T5) (n s : Nat) : List (List Nat × (Nat → Int)) := (List.range s).flatMap fun i => (extL n (i + 1) [] 0).filterMap (frF T)
theorem freeTo_succ (T : List T5) (n s : Nat) : freeTo T n (s + 1) = freeTo T n s ++ (extL n (s + 1) [] 0).filterMap (frF T) := by simp [freeTo, List.range_succ]
theorem freeTo_prefix (T : List T5) (n : Nat) {s s' : Nat} (h : s ≤ s') : freeTo T n s <+: freeTo T n s' := by
  obtain ⟨d, rfl⟩ := Nat.le.dest h
  clear h
  induction d with
  | zero => exact List.prefix_rfl
  | succ d ih => rw [← Nat.add_assoc, freeTo_succ]; exact ih.trans (List.prefix_append _ _)
theorem prefix_filterMap {α β : Type} (f : α → Option β) {l m : List α} (h : l <+: m) : l.filterMap f <+: m.filterMap f := by
  obtain ⟨r, rfl⟩ := h; rw [List.filterMap_append]; exact List.prefix_append _ _

def ElemF (x : List Nat × (Nat → Int)) (args : Array Value) (O : Nat → Prop) (W : World) : Prop := ∃ base v, args = #[v, frV x.2] ∧ PlV base O W v x.1

/-- the blocks that the closure of free keeps between the rounds -/
structure FrB where
  lp : Nat
  tb : Nat
  yb : Nat
  b : Nat
  off : Nat
  n : Nat
  cp : Nat
  ob : Obj
def FrB.ext (c : FrB) (Ds : List Nat) (O : Nat → Prop) : Nat → Prop := fun k => O k ∨ k = c.yb ∨ k ∈ Ds
def FrK (c : FrB) (Ds : List Nat) (O : Nat → Prop) (W : World) : Prop :=
  Has O W c.yb (.cells #[.func (.yield c.lp) #[] #[]] 126 (0, 0)) ∧ Has O W c.tb (.cells #[.slice (some ⟨c.b, c.off, none⟩) c.n c.cp] 22 (0, 0)) ∧ Has O W c.b c.ob ∧ ∀ D ∈ Ds, Has O W D (.deferred (some []))
theorem FrK.stable {c : FrB} {Ds : List Nat} {O O' : Nat → Prop} {W W' : World} (h : FrK c Ds O W) (hm : Mod O W W') (ho : ∀ k, O' k → O k ∨ W.heap.size ≤ k) : FrK c Ds O' W' :=
  ⟨h.1.stable hm ho, h.2.1.stable hm ho, h.2.2.1.stable hm ho, fun D hD => (h.2.2.2 D hD).stable hm ho⟩
def FrI (c : FrB) (T : List T5) (Ds : List Nat) (Ei : Nat → Prop) (J : (Nat → Prop) → List (List Nat × (Nat → Int)) → Bool → World → Prop) (pre : List (List Nat × (Nat → Int))) (O : Nat → Prop) (done : List (List Nat)) (bb : Bool) (W : World) : Prop :=
  FrK c Ds O W ∧ J (c.ext Ds fun k => O k ∨ Ei k) (pre ++ done.filterMap (frF T)) bb W
theorem FrI.stable (c : FrB) (T : List T5) (Ds : List Nat) (Ei : Nat → Prop) {J : (Nat → Prop) → List (List Nat × (Nat → Int)) → Bool → World → Prop} (hJ : StableJ J) (pre : List (List Nat × (Nat → Int))) : StableJ (FrI c T Ds Ei J pre) := by
  rintro O O' done bb W W' ⟨h1, h2⟩ hm ho
  refine ⟨h1.stable hm ho, hJ _ _ _ _ _ _ h2 (hm.mono fun k hk => .inl (.inl hk)) ?_⟩
  rintro k ((hk | hk) | hk)
  · exact (ho k hk).imp (fun h => .inl (.inl h)) id
  · exact .inl (.inl (.inr hk))
  · exact .inl (.inr hk)

theorem tnts_of_block {W W' : World} {b off n : Nat} {T : List T5} (h : Tnts W b off n T) (hb : W'.heap[b]? = W.heap[b]?) : Tnts W' b off n T := by
  obtain ⟨h1, h2, h3⟩ := h
  refine ⟨h1, ?_, fun i hi => ?_⟩
  · rw [Array.getElem?_eq_getElem h2] at hb; exact (Array.getElem?_eq_some_iff.1 hb).1
  · rw [cell_same hb, cell_same hb, cell_same hb, cell_same hb, cell_same hb]; exact h3 i hi

/-- what holds between two sizes -/
def FrL (c : FrB) (T : List T5) (J : (Nat → Prop) → List (List Nat × (Nat → Int)) → Bool → World → Prop) (s : Nat) (Ds : List Nat) (W : World) : Prop :=
  s ≤ 4 ∧ Ds.Nodup ∧ FrK c Ds (fun _ => False) W ∧ J (c.ext Ds (fun _ => False)) (freeTo T c.n s) false W
def marks (Ds : List Nat) : List Deferred := Ds.map fun D => { target := .collected D, args := #[] }

set_option maxRecDepth 100000 in
set_option maxHeartbeats 8000000 in
theorem free_it (b off n cp tb : Nat) (T : List T5) (W : World) (htb : W.heap[tb]? = some (.cells #[.slice (some ⟨b, off, none⟩) n cp] 22 (0, 0))) (hT : Tnts W b off n T) (hS : shOk T) (hn : n ≤ 1000) :
    IterAt Try.prog 81 #[.pointer (some ⟨tb, 0, none⟩)] ElemF (freeTo T n 4) (fun k => k = tb ∨ k = b) W := by
  intro lp J hJs hJ hY
  have htl := (Array.getElem?_eq_some_iff.1 htb).1
  have hbl := hT.2.1
  obtain ⟨c, hc⟩ : ∃ c : FrB, c = ⟨lp, tb, W.heap.size, b, off, n, cp, W.heap[b]'hbl⟩ := ⟨_, rfl⟩
  have HT := Lib.hid (show ∀ O W', FrK c [] O W' → Tnts W' b off n T from fun O W' h => by
    have h3 := h.2.2.1.2
    rw [hc] at h3
    exact tnts_of_block hT (by rw [h3, Array.getElem?_eq_getElem hbl]))
  have HS := Lib.hid hS
  have HJS := Lib.hid hJs
  have HY := Lib.hid hY
  have HL0 := Lib.hid (show FrL c T J 0 [] (W.alloc (.cells #[.func (.yield lp) #[] #[]] 126)) by
    have hne := (New.refl W).alloc (.cells #[.func (.yield lp) #[] #[]] 126)
    refine ⟨by omega, List.nodup_nil, ⟨⟨(fun h => h), ?_⟩, ⟨(fun h => h), ?_⟩, ⟨(fun h => h), ?_⟩, fun D hD => by cases hD⟩, ?_⟩
    · rw [hc]; exact World.alloc_heap_new _ _
    · rw [hc]; exact (hne.below.block _ htl).trans htb
    · rw [hc]; exact (hne.below.block _ hbl).trans (Array.getElem?_eq_getElem hbl)
    · refine hJs _ _ _ _ _ _ hJ (Mod.of_new hne) ?_
      rw [hc]
      rintro k (hk | hk | hk)
      · cases hk
      · exact .inr (by dsimp only at hk; omega)
      · cases hk)
  clear hJs hJ hY hT hS htb
  show Calls _ _ #[.func (.yield lp) #[] #[], .pointer (some ⟨tb, 0, none⟩)] _ _
  obtain ⟨hc1, hc2, hc3, hc4, hc5, hc6, hc7⟩ : c.lp = lp ∧ c.tb = tb ∧ c.yb = W.heap.size ∧ c.b = b ∧ c.off = off ∧ c.n = n ∧ c.cp = cp := by rw [hc]; exact ⟨rfl, rfl, rfl, rfl, rfl, rfl, rfl⟩
  clear hc
  subst hc1 hc2 hc4 hc5 hc6 hc7
  have HYB := Lib.hid hc3
  clear hc3
  refine (callsIn_wide (n := 5)).1 ?_
  refine callsIn_of_wp_marks Try.func81 rfl trivial ?_ rfl
  simp only [Try.ntmps81, List.size_toArray, List.length_cons, List.length_nil, Nat.reduceAdd, Nat.reduceSub, Array.replicate_succ, Array.replicate_zero, List.push_toArray, List.append_toArray, List.nil_append, List.cons_append]
  gi_wp2
  rw [← HYB.out]
  refine wpIn_loop (fun a' w' => ∃ (s : Nat) (Ds : List Nat) (u4 u5 u6 u7 u8 u9 u10 u11 u12 u13 u14 u15 u16 u17 u18 u19 u20 u21 u22 u23 u24 u25 u26 u27 u28 u29 : Value), FrL c T J s Ds w' ∧ a' = { tmps := #[.func (.yield c.lp) #[] #[], .pointer (some ⟨c.tb, 0, none⟩), .pointer (some ⟨c.yb, 0, none⟩), .int .i64 ((s : Int) + 1), u4, u5, u6, u7, u8, u9, u10, u11, u12, u13, u14, u15, u16, u17, u18, u19, u20, u21, u22, u23, u24, u25, u26, u27, u28, u29], defers := marks Ds }) (fun a' _ => 5 - (intOf (a'.tmps.getD 3 undef)).toNat) ?_ ?_
  · exact ⟨0, [], _, _, _, _, _, _, _, _, _, _, _, _, _, _, _, _, _, _, _, _, _, _, _, _, _, _, HL0.out, rfl⟩
  · rintro a' wr ⟨s, Ds, u4, u5, u6, u7, u8, u9, u10, u11, u12, u13, u14, u15, u16, u17, u18, u19, u20, u21, u22, u23, u24, u25, u26, u27, u28, u29, hL, rfl⟩
    have HL := Lib.hid hL
    obtain ⟨hs4, hnd, ⟨k1, k2, k3, k4⟩, hJ⟩ := hL
    by_cases hlt : s < 4
    · have c1 := box_cell k2.2
      have HCC := Lib.hid (fun (w1 : World) => (callsIn_wide (n := 4)).2 (choices_c (c.n : Int) ((s : Int) + 1) w1))
      have ht : (s : Int) + 1 ≤ 4 := by omega
      have ht2 : (s : Int) < 4 := by omega
      have ht3 : (s : Int) ≤ 3 := by omega
      clear hs4 hnd k1 k2 k3 k4 hJ
      dsimp only
      gi_wp2
      refine ⟨trivial, ?_⟩
      gi_at_call 41
      refine (HCC.out _).mono ?_
      rintro e w2 ⟨rfl, rfl⟩
      gi_wp2
      obtain ⟨WS, HWS⟩ : ∃ WS : World, Hid (WS = (wr.alloc (.cells #[.int .i64 (c.n : Int)] 3)).alloc (.cells #[.int .i64 ((s : Int) + 1)] 3)) := ⟨_, Lib.hid rfl⟩
      rw [← HWS.out]
      have HNS := Lib.hid (show New wr WS by rw [HWS.out]; exact ((New.refl _).alloc _).alloc _)
      have hss : wr.heap.size + 2 ≤ WS.heap.size := by rw [HWS.out]; simp
      have HSB : Hid (WS.heap[wr.heap.size + 1]? = some (.cells #[.int .i64 ((s + 1 : Nat) : Int)] 3 (0, 0)) ∧ WS.heap[wr.heap.size]? = some (.cells #[.int .i64 (c.n : Int)] 3 (0, 0))) := Lib.hid (by
        rw [HWS.out]
        exact ⟨alloc2_new rfl, by rw [Below.heap_alloc _ _ _ (by simp)]; exact World.alloc_heap_new _ _⟩)
      refine range_iter (n := 5) (by omega) (gf := 65) (lb := #[.pointer (some ⟨wr.heap.size + 1, 0, none⟩), .pointer (some ⟨wr.heap.size, 0, none⟩)]) rfl (enters_of Try.func65 (by kernel_rfl) rfl)
        (Elem := ElemL) (xs := extL c.n (s + 1) [] 0) (E := fun k => k = wr.heap.size + 1 ∨ k = wr.heap.size)
        (fun W1 hn1 _ => choices_it c.n (s + 1) _ _ (by omega) hn W1 ((hn1.below.block _ (by omega)).trans HSB.out.1) ((hn1.below.block _ (by omega)).trans HSB.out.2))
        (by intro k hk; omega) (by rintro x args O W ⟨_, _, rfl, _⟩; rfl)
        (FrI c T Ds (fun k => k = wr.heap.size + 1 ∨ k = wr.heap.size) J (freeTo T c.n s)) (FrI.stable _ _ _ _ HJS.out _) ?h0 ?hbody ?hdone ?hstop
      case h0 =>
        obtain ⟨_, _, hk, hJ⟩ := HL.out
        refine ⟨hk.stable (Mod.of_new HNS.out) ?_, ?_⟩
        · rintro k (hk | hk | hk)
          · cases hk
          · right; omega
          · right; omega
        · refine HJS.out _ _ _ _ _ _ (by simpa using hJ) (Mod.of_new HNS.out) ?_
          rintro k (((hk | hk | hk) | hk) | hk)
          · cases hk
          · right; omega
          · right; omega
          · right; omega
          · exact .inl (.inr hk)
      case hbody =>
        intro mm O done x args Wb hI hE hpre hO1 hO2 hrec hbnd
        have HBND := Lib.hid hbnd
        clear hbnd
        obtain ⟨base', v', rfl, hpl⟩ := hE
        obtain ⟨ax, cx, rfl⟩ := own_slice hpl.1
        obtain ⟨hxl, hxn⟩ := extL_mem (hpre.subset (by simp : x ∈ done ++ [x]))
        have HXN := Lib.hid (hxn (by simp))
        have hxl1 : x.length ≤ s + 1 := by simp at hxl; omega
        have hxl2 : s + 1 ≤ x.length := by simp at hxl; omega
        have HPL := Lib.hid hpl
        have HI := Lib.hid hI
        have HPRE := Lib.hid (show freeTo T c.n s ++ (done ++ [x]).filterMap (frF T) <+: freeTo T c.n 4 from by
          refine List.IsPrefix.trans ?_ (freeTo_prefix T c.n (show s + 1 ≤ 4 by omega))
          rw [freeTo_succ]
          exact (List.prefix_append_right_inj _).2 (prefix_filterMap _ hpre))
        clear hxl hxn hpl hpre hI hrec c1 HCC
        gi_wp2
        refine ⟨Keep.refl _ _, ?_⟩
        intro W2 hb2 hs2 ho2 hrec2
        have HI2 := Lib.hid (FrI.stable c T Ds _ HJS.out _ _ _ _ _ _ W2 HI.out (show Mod (plus WS.heap.size O) Wb W2 from ⟨hb2, fun k hk hne => ho2 k (fun e => hne (.inr (.inr e)))⟩) (fun k hk => .inl hk))
        have HOW := Lib.hid (show W2.ownsRow base' 3 1 (.slice ax x.length cx) x.length (natCells x) from own_keep HPL.out.1 (fun g hg => ho2 g (fun e => hO1 (e ▸ HPL.out.2 g hg))))
        have HFO := Lib.hid (CallsIn.inRound (WS.heap.size + 1) ((callsIn_wide (n := mm - 1)).2 (frameOf_c c.b c.off c.n c.cp base' T x W2 _ (HT.out (plus WS.heap.size O) W2 ⟨HI2.out.1.1, HI2.out.1.2.1, HI2.out.1.2.2.1, fun D h => by cases h⟩) HS.out (by omega) (by omega) HXN.out hn HOW.out)))
        have c1 := (box_cell HI2.out.1.2.1.2).1
        have HWL := Lib.hid (show Wb.heap.size ≤ W2.heap.size ∧ WS.heap.size + 1 < W2.heap.size from ⟨hb2.size, by obtain ⟨r, hr⟩ := hrec2; exact (Array.getElem?_eq_some_iff.1 hr).1⟩)
        clear hb2 hs2 ho2 hrec2 hO1 hO2
        obtain ⟨F, hF⟩ : ∃ F, F = (frameR T x).1 := ⟨_, rfl⟩
        obtain ⟨is, his⟩ : ∃ is, is = (frameR T x).2 := ⟨_, rfl⟩
        rw [← hF, ← his] at HFO
        have HFR := Lib.hid (show frF T x = if is = true then some (x, F) else none by rw [frF, hF, his])
        clear hF his
        gi_wp2
        refine ⟨trivial, (fun h => by cases h), ?_⟩
        gi_at_call 82
        refine HFO.out.mono ?_
        rintro e w5 ⟨rfl, hn5⟩
        have HN5 := Lib.hid hn5
        have hk5 : ∀ k o, W2.heap[k]? = some o → w5.heap[k]? = some o := fun k o h => (hn5.below.block k (Array.getElem?_eq_some_iff.1 h).1).trans h
        have c2 := (box_cell (hk5 _ _ HI2.out.1.1.2)).1
        have hyl : c.yb < w5.heap.size := (Array.getElem?_eq_some_iff.1 (hk5 _ _ HI2.out.1.1.2)).1
        clear hn5 hk5
        have HN6 := Lib.hid (show New W2 (w5.alloc (.cells (arr16 F) 107)) from HN5.out.alloc _)
        have HI6 := Lib.hid (FrI.stable c T Ds _ HJS.out _ _ _ _ _ _ (w5.alloc (.cells (arr16 F) 107)) HI2.out (Mod.of_new HN6.out) (fun k hk => .inl hk))
        cases is with
        | false =>
          have HP := Lib.hid (show RoundP WS.heap.size O (fun k => k = wr.heap.size + 1 ∨ k = wr.heap.size) (FrI c T Ds (fun k => k = wr.heap.size + 1 ∨ k = wr.heap.size) J (freeTo T c.n s)) (done ++ [x]) W2 .normal (w5.alloc (.cells (arr16 F) 107)) from
            ⟨Keep.of_new HN6.out, false, ⟨HI6.out.1, by rw [List.filterMap_append, show [x].filterMap (frF T) = [] by simp [HFR.out]]; simpa using HI6.out.2⟩, .inl ⟨rfl, rfl⟩⟩)
          gi_wp2
          refine ⟨fun _ h => (by cases h), ?_⟩
          gi_wp2
          exact HP.out
        | true =>
          have HFM := Lib.hid (show freeTo T c.n s ++ done.filterMap (frF T) ++ [(x, F)] = freeTo T c.n s ++ (done ++ [x]).filterMap (frF T) by
            rw [List.filterMap_append, show [x].filterMap (frF T) = [(x, F)] by simp [HFR.out], List.append_assoc])
          have HBD6 := Lib.hid (show ∀ k, c.ext Ds (fun k => plus WS.heap.size O k ∨ (k = wr.heap.size + 1 ∨ k = wr.heap.size)) k → k < (w5.alloc (.cells (arr16 F) 107)).heap.size from fun k hk => by
            obtain ⟨a1, a2, a3, a4⟩ := HI6.out.1
            have hw := HWL.out
            have hz : W2.heap.size ≤ (w5.alloc (.cells (arr16 F) 107)).heap.size := HN6.out.size
            rcases hk with ((hk | hk | hk) | hk) | hk | hk
            · exact Nat.lt_of_lt_of_le (HBND.out k hk) (by omega)
            · omega
            · omega
            · omega
            · rw [hk]; exact a1.lt
            · exact (a4 k hk).lt)
          have HYA := Lib.hid (HY.out (c.ext Ds fun k => plus WS.heap.size O k ∨ (k = wr.heap.size + 1 ∨ k = wr.heap.size)) _ (x, F) #[.slice ax x.length cx, frV F] _ HI6.out.2 (by rw [HFM.out]; exact HPRE.out) ⟨base', _, rfl, own_new HOW.out HN6.out, fun g hg => .inl (.inl (.inl (HPL.out.2 g hg)))⟩ HBD6.out (mm - 1))
          obtain ⟨fn, tmps, assign, body, hy, hR⟩ := HYA.out
          have HR := Lib.hid hR
          unfold arr16 at hy HR
          clear hR HYA
          have HRP := Lib.hid (show ∀ (b : Bool) W7, J (c.ext Ds fun k => plus WS.heap.size O k ∨ (k = wr.heap.size + 1 ∨ k = wr.heap.size)) (freeTo T c.n s ++ done.filterMap (frF T) ++ [(x, F)]) (!b) W7 → Keep (fun k => c.ext Ds (fun k => plus WS.heap.size O k ∨ (k = wr.heap.size + 1 ∨ k = wr.heap.size)) k ∨ (k = c.tb ∨ k = c.b)) (w5.alloc (.cells (arr16 F) 107)) W7 →
              RoundP WS.heap.size O (fun k => k = wr.heap.size + 1 ∨ k = wr.heap.size) (FrI c T Ds (fun k => k = wr.heap.size + 1 ∨ k = wr.heap.size) J (freeTo T c.n s)) (done ++ [x]) W2 (if b then .normal else .ret) W7 from fun b W7 hj hk => by
            refine ⟨(Keep.of_new HN6.out).trans (hk.mono fun k h => .inl (.inl h)), !b, ⟨?_, by rw [← HFM.out]; exact hj⟩, by cases b <;> simp⟩
            obtain ⟨a1, a2, a3, a4⟩ := HI6.out.1
            exact ⟨⟨a1.1, hk.at a1.2 (.inl (.inr (.inl rfl)))⟩, ⟨a2.1, hk.at a2.2 (.inr (.inl rfl))⟩, ⟨a3.1, hk.at a3.2 (.inr (.inr rfl))⟩, fun D hD => ⟨(a4 D hD).1, hk.at (a4 D hD).2 (.inl (.inr (.inr hD)))⟩⟩)
          gi_wp2
          refine ⟨(fun h => by cases h), ?_⟩
          refine (show RoundIn (Fence.wide.inRound (WS.heap.size + 1)) (mm - 1) Try.prog c.lp fn tmps assign body _ _ from HR.out).mono ?_
          rintro e W7 ⟨bb, rfl, hj7, hk7⟩
          have HP := Lib.hid (HRP.out bb W7 hj7 hk7)
          clear hj7 hk7
          cases bb
          · gi_wp2
            exact HP.out
          · gi_wp2
            exact HP.out
      case hdone =>
        rintro O W' ⟨hk, hJ⟩ hdf
        have HL1 := Lib.hid (show FrL c T J (s + 1) (WS.heap.size :: Ds) W' by
          obtain ⟨_, hnd, ⟨k1, k2, k3, k4⟩, _⟩ := HL.out
          refine ⟨by omega, ?_, ⟨⟨(fun h => h), hk.1.2⟩, ⟨(fun h => h), hk.2.1.2⟩, ⟨(fun h => h), hk.2.2.1.2⟩, ?_⟩, ?_⟩
          · rw [List.nodup_cons]
            exact ⟨fun h => by have := (k4 _ h).lt; omega, hnd⟩
          · intro D hD
            rw [List.mem_cons] at hD
            rcases hD with rfl | hD
            · exact ⟨(fun h => h), hdf⟩
            · exact ⟨(fun h => h), (hk.2.2.2 D hD).2⟩
          · rw [freeTo_succ]
            refine HJS.out _ _ _ _ _ _ hJ (Mod.refl _ _) ?_
            rintro k (h | h | h)
            · cases h
            · exact .inl (.inr (.inl h))
            · rw [List.mem_cons] at h
              rcases h with h | h
              · exact .inl (.inl (.inl (.inr (.inl h))))
              · exact .inl (.inr (.inr h)))
        clear hk hJ hdf
        have hw1 : IntKind.i64.wrap ((s : Int) + 1 + 1) = (s : Int) + 1 + 1 := IntWalk.i64_in _ (by omega)
        gi_wp2
        refine ⟨⟨s + 1, WS.heap.size :: Ds, _, _, _, _, _, _, _, _, _, _, _, _, _, _, _, _, _, _, _, _, _, _, _, _, _, _, HL1.out, (by rw [show ((s + 1 : Nat) : Int) = (s : Int) + 1 by omega]; rfl)⟩, ?_⟩
        simp [intOf]
        omega
      case hstop =>
        rintro O done W' ⟨hk, hJ⟩ hpre hdf
        obtain ⟨_, hnd, ⟨_, _, _, k4⟩, _⟩ := HL.out
        have HND := Lib.hid (show (WS.heap.size :: Ds).Nodup by
          rw [List.nodup_cons]
          exact ⟨fun h => by have := (k4 _ h).lt; omega, hnd⟩)
        have HDS := Lib.hid (show ∀ D ∈ WS.heap.size :: Ds, W'.heap[D]? = some (.deferred (some [])) from fun D hD => by
          rw [List.mem_cons] at hD
          rcases hD with rfl | hD
          · exact hdf
          · exact (hk.2.2.2 D hD).2)
        have HPRE := Lib.hid (show freeTo T c.n s ++ done.filterMap (frF T) <+: freeTo T c.n 4 from by
          refine List.IsPrefix.trans ?_ (freeTo_prefix T c.n (show s + 1 ≤ 4 by omega))
          rw [freeTo_succ]
          exact (List.prefix_append_right_inj _).2 (prefix_filterMap _ hpre))
        have HJ := Lib.hid hJ
        clear hk hJ hpre hdf hnd k4
        gi_wp2
        refine leaves_marks (WS.heap.size :: Ds) W' HND.out HDS.out (fun W9 hm => ?_)
        have HJ9 := HJS.out _ _ _ _ _ _ HJ.out (hm.mono (O' := c.ext Ds fun k => plus WS.heap.size O k ∨ (k = wr.heap.size + 1 ∨ k = wr.heap.size)) fun k hk => ?_) (fun k hk => .inl hk)
        first
          | exact ⟨_, results_none rfl _ _ _, ⟨_, rfl⟩, _, _, true, HJ9, (fun h => by cases h), HPRE.out⟩
          | exact ⟨_, results_none rfl _ _ _, ⟨_, rfl⟩, _, _, .inr ⟨HJ9, HPRE.out⟩⟩
        rw [List.mem_cons] at hk
        rcases hk with hk | hk
        · exact .inl (.inl (.inr (.inl hk)))
        · exact .inr (.inr hk)
    · obtain rfl : s = 4 := by omega
      clear hs4 k1 k2 k3 k4 hJ
      dsimp only
      gi_wp2
      obtain ⟨_, _, ⟨_, _, _, k4⟩, hJ⟩ := HL.out
      refine leaves_marks Ds wr hnd (fun D hD => (k4 D hD).2) (fun W' hm => ?_)
      refine ⟨_, results_none rfl _ _ _, ⟨_, rfl⟩, _, _, false, HJS.out _ _ _ _ _ _ hJ (hm.mono fun k hk => .inr (.inr hk)) (fun k hk => .inl hk), fun _ => rfl, List.prefix_rfl⟩

end Go.Proofs.Ytpjekinmcdglbaa
