/- All ascending lists of a number of places below another number, as the closure of choices yields them one after the other. Numbers up to 1000. -/
import Derived.Test.YtpjekinmcdglbaaIt
import Derived.Test.YtpjekinmcdglbaaCy
import Derived.Shelf.Abstract
import Derived.OwnWalkIn
import Derived.TacticsInMore
import Derived.LoopNIn
import Derived.LoopIn
import Derived.RegionIn
import Derived.Laws.EntriesVeiled
set_option linter.unusedSimpArgs false
set_option linter.unusedVariables false
namespace Go.Proofs.Ytpjekinmcdglbaa
open Go.RowKit Go.Shelf

attribute [local go_sem] Oper.semAt_some

theorem int_info : (Try.prog.info? 3).map (fun i => (i.zero, i.size, i.bytes)) = some (some (.int .i64 0), 1, 8) := by kernel_rfl

def natCells (x : List Nat) : List Value := x.map fun (i : Nat) => Value.int .i64 (i : Int)
theorem natCells_len (x : List Nat) : (natCells x).length = x.length := by simp [natCells]
theorem natCells_snoc (x : List Nat) (p : Nat) : natCells (x ++ [p]) = natCells x ++ [.int .i64 (p : Int)] := by simp [natCells]
theorem natCells_take (x : List Nat) (k : Nat) : natCells (x.take k) = (natCells x).take k := by simp [natCells, List.map_take]
theorem natCells_at (x : List Nat) (k : Nat) (h : k < x.length) : (natCells x)[k]? = some (.int .i64 ((x.getD k 0 : Nat) : Int)) := by
  simp [natCells, List.getElem?_map, List.getElem?_eq_getElem h, List.getD_eq_getElem?_getD]

/-- all ascending lists that begin with pre and have k places more, from s on and below n -/
def extL (n : Nat) : Nat → List Nat → Nat → List (List Nat)
  | 0, pre, _ => [pre]
  | k + 1, pre, s => (List.range (n - s)).flatMap fun i => extL n k (pre ++ [s + i]) (s + i + 1)
def extTo (n k : Nat) (pre : List Nat) (s m : Nat) : List (List Nat) := (List.range m).flatMap fun i => extL n k (pre ++ [s + i]) (s + i + 1)
theorem extTo_succ (n k : Nat) (pre : List Nat) (s m : Nat) : extTo n k pre s (m + 1) = extTo n k pre s m ++ extL n k (pre ++ [s + m]) (s + m + 1) := by
  simp [extTo, List.range_succ, List.flatMap_append]
theorem extTo_prefix (n k : Nat) (pre : List Nat) (s : Nat) {m m' : Nat} (h : m ≤ m') : extTo n k pre s m <+: extTo n k pre s m' := by
  obtain ⟨d, rfl⟩ := Nat.le.dest h
  clear h
  induction d with
  | zero => exact List.prefix_rfl
  | succ d ih => rw [← Nat.add_assoc, extTo_succ]; exact ih.trans (List.prefix_append _ _)

/-- the boxes of choices: places, size, n, yield, extend; O are the blocks that the iterator may change -/
structure ChB where
  lp : Nat
  pb : Nat
  sb : Nat
  nb : Nat
  yb : Nat
  eb : Nat
  base : Nat
  n : Nat
  size : Nat
  E : Nat → Prop

def ChB.fv (c : ChB) : Value := .func (.func 66) #[] #[.pointer (some ⟨c.pb, 0, none⟩), .pointer (some ⟨c.sb, 0, none⟩), .pointer (some ⟨c.yb, 0, none⟩), .pointer (some ⟨c.nb, 0, none⟩), .pointer (some ⟨c.eb, 0, none⟩)]
/-- v is a slice of the places x, in a block of O -/
def PlV (base : Nat) (O : Nat → Prop) (W : World) (v : Value) (x : List Nat) : Prop := W.ownsRow base 3 1 v x.length (natCells x) ∧ ∀ g, v.ownBlock = some g → O g
def ChSt (c : ChB) (O : Nat → Prop) (W : World) (pre : List Nat) : Prop :=
  (∃ v, W.heap[c.pb]? = some (.cells #[v] 84 (0, 0)) ∧ PlV c.base O W v pre) ∧
  (W.heap[c.sb]? = some (.cells #[.int .i64 (c.size : Int)] 3 (0, 0)) ∧ W.heap[c.nb]? = some (.cells #[.int .i64 (c.n : Int)] 3 (0, 0)) ∧
   W.heap[c.yb]? = some (.cells #[.func (.yield c.lp) #[] #[]] 112 (0, 0)) ∧ W.heap[c.eb]? = some (.cells #[c.fv] 113 (0, 0))) ∧
  (O c.pb ∧ c.E c.sb ∧ c.E c.nb ∧ O c.yb ∧ O c.eb) ∧ c.base ≤ W.heap.size ∧ ∀ k, O k → k < W.heap.size
def ChB.ok (c : ChB) : Prop := (c.pb < c.base ∧ c.sb < c.base ∧ c.nb < c.base ∧ c.yb < c.base ∧ c.eb < c.base) ∧ (c.pb ≠ c.sb ∧ c.pb ≠ c.nb ∧ c.pb ≠ c.yb ∧ c.pb ≠ c.eb)
def ElemC (base : Nat) (x : List Nat) (args : Array Value) (O : Nat → Prop) (W : World) : Prop := ∃ v, args = #[v] ∧ PlV base O W v x

theorem PlV.keep {base : Nat} {O : Nat → Prop} {W W' : World} {v : Value} {x : List Nat} (h : PlV base O W v x) (hk : Keep O W W') : PlV base O W' v x :=
  ⟨own_keep h.1 fun g hg => hk.2 g (h.2 g hg) (h.1.lt g hg).2, h.2⟩
theorem ChSt.keep {c : ChB} {O : Nat → Prop} {W W' : World} {pre : List Nat} (h : ChSt c O W pre) (hk : Keep (fun k => O k ∨ c.E k) W W') : ChSt c O W' pre := by
  obtain ⟨⟨v, h1, h2⟩, ⟨h3, h4, h5, h6⟩, ⟨o1, o2, o3, o4, o5⟩, hb⟩ := h
  exact ⟨⟨v, hk.at h1 (.inl o1), h2.keep (hk.mono fun k h => .inl h)⟩, ⟨hk.at h3 (.inr o2), hk.at h4 (.inr o3), hk.at h5 (.inl o4), hk.at h6 (.inl o5)⟩, ⟨o1, o2, o3, o4, o5⟩, Nat.le_trans hb.1 hk.size, fun k h => Nat.lt_of_lt_of_le (hb.2 k h) hk.size⟩

/-- what extend has done when it is over -/
def ExtPost (c : ChB) (J : (Nat → Prop) → List (List Nat) → Bool → World → Prop) (pre : List Nat) (all xs : List (List Nat)) (e : Ending) (W' : World) : Prop :=
  ∃ O b, e = .returned (.bool b) ∧ ((b = true ∧ J O all false W' ∧ ChSt c O W' pre) ∨ (b = false ∧ ∃ done, J O done true W' ∧ done <+: xs))

set_option maxRecDepth 100000 in
set_option maxHeartbeats 8000000 in
theorem extend_zero (c : ChB) (hc : c.ok) (hs : c.size ≤ 1000) (J : (Nat → Prop) → List (List Nat) → Bool → World → Prop) (xs : List (List Nat))
    (hY : ∀ O done x args W0, J O done false W0 → done ++ [x] <+: xs → ElemC c.base x args O W0 → (∀ k, O k → k < W0.heap.size) → YieldsAt Try.prog c.lp args W0 fun e W' => ∃ b, e = .returned (.bool b) ∧ J O (done ++ [x]) (!b) W' ∧ Keep (fun k => O k ∨ c.E k) W0 W')
    (pre : List Nat) (s : Nat) (O : Nat → Prop) (done : List (List Nat)) (W : World) (hl : pre.length = c.size) (hst : ChSt c O W pre) (hJ : J O done false W) (hpre : done ++ [pre] <+: xs) :
    Calls Try.prog 66 #[.int .i64 (s : Int), .pointer (some ⟨c.pb, 0, none⟩), .pointer (some ⟨c.sb, 0, none⟩), .pointer (some ⟨c.yb, 0, none⟩), .pointer (some ⟨c.nb, 0, none⟩), .pointer (some ⟨c.eb, 0, none⟩)] W
      (ExtPost c J pre (done ++ [pre]) xs) := by
  obtain ⟨⟨v, h1, h2⟩, ⟨h3, h4, h5, h6⟩, ho, hb⟩ := id hst
  have HST := Lib.hid hst
  have HY := Lib.hid (hY O done pre #[v] W hJ hpre ⟨v, rfl, h2⟩ hb.2 4)
  have HPRE := Lib.hid hpre
  obtain ⟨av, cv, rfl⟩ := own_slice h2.1
  have c1 := box_cell h1
  have c3 := box_cell h3
  have c5 := box_cell h5
  obtain ⟨fn, tmps, assign, body, hy, hR⟩ := HY.out
  have HR := Lib.hid hR
  clear hY hst h1 h2 h3 h4 h5 h6 hJ hR hpre HY
  have hd : (((pre.length : Nat) : Int) == (c.size : Int)) = true := by rw [hl]; simp
  clear hl
  refine (callsIn_wide (n := 5)).1 ?_
  refine callsIn_of_wp Try.func66 rfl trivial ?_ rfl
  simp only [Try.ntmps66, List.size_toArray, List.length_cons, List.length_nil, Nat.reduceAdd, Nat.reduceSub, Array.replicate_succ, Array.replicate_zero, List.push_toArray, List.append_toArray, List.nil_append, List.cons_append]
  gi_wp2
  refine HR.out.mono ?_
  rintro e W3 ⟨b, rfl, hJ3, hk3⟩
  have HP := Lib.hid (show ExtPost c J pre (done ++ [pre]) xs (.returned (.bool b)) W3 from ⟨O, b, rfl, by
    cases b
    · exact .inr ⟨rfl, _, hJ3, HPRE.out⟩
    · exact .inl ⟨rfl, hJ3, HST.out.keep hk3⟩⟩)
  clear hJ3 hk3
  gi_wp2
  go_ret
  exact HP.out

theorem extL_head (n k : Nat) (pre : List Nat) (s : Nat) : extL n (k + 1) pre s = extTo n k pre s (n - s) := rfl

set_option maxRecDepth 100000 in
set_option maxHeartbeats 8000000 in
theorem extend_in (c : ChB) (hc : c.ok) (hs : c.size ≤ 1000) (hn : c.n ≤ 1000) (J : (Nat → Prop) → List (List Nat) → Bool → World → Prop) (hJs : StableJ J) (xs : List (List Nat))
    (hY : ∀ O done x args W0, J O done false W0 → done ++ [x] <+: xs → ElemC c.base x args O W0 → (∀ k, O k → k < W0.heap.size) → YieldsAt Try.prog c.lp args W0 fun e W' => ∃ b, e = .returned (.bool b) ∧ J O (done ++ [x]) (!b) W' ∧ Keep (fun k => O k ∨ c.E k) W0 W') :
    ∀ (k : Nat) (pre : List Nat) (s : Nat) (O : Nat → Prop) (done : List (List Nat)) (W : World), pre.length + k = c.size → s ≤ 1001 → ChSt c O W pre → J O done false W → done ++ extL c.n k pre s <+: xs →
    Calls Try.prog 66 #[.int .i64 (s : Int), .pointer (some ⟨c.pb, 0, none⟩), .pointer (some ⟨c.sb, 0, none⟩), .pointer (some ⟨c.yb, 0, none⟩), .pointer (some ⟨c.nb, 0, none⟩), .pointer (some ⟨c.eb, 0, none⟩)] W
      (ExtPost c J pre (done ++ extL c.n k pre s) xs)
  | 0, pre, s, O, done, W, hl, _, hst, hJ, hpre => extend_zero c hc hs J xs hY pre s O done W (by omega) hst hJ hpre
  | k + 1, pre, s, O, done, W, hl, hs1, hst, hJ, hpre => by
    have IH := Lib.hid (fun (s : Nat) O done W (h1 : s ≤ 1000) h2 h3 h4 => extend_in c hc hs hn J hJs xs hY k (pre ++ [s]) (s + 1) O done W (by simp; omega) (by omega) h2 h3 h4)
    have HST0 := Lib.hid hst
    have HJ0 := Lib.hid hJ
    have HPRE := Lib.hid hpre
    have HJS := Lib.hid hJs
    have HC := Lib.hid hc
    have hd : (((pre.length : Nat) : Int) == (c.size : Int)) = false := by simp; omega
    have hpl : pre.length ≤ 1000 := by omega
    obtain ⟨⟨v, h1, h2⟩, ⟨h3, h4, h5, h6⟩, ho, hb⟩ := hst
    obtain ⟨av, cv, rfl⟩ := own_slice h2.1
    have c1 := box_cell h1
    have c3 := box_cell h3
    obtain ⟨i0, hi, hz0, hz1, hz2⟩ := info_parts int_info
    clear hY hJ hpre h1 h2 h3 h4 h5 h6 ho hb hl hJs hc
    refine (callsIn_wide (n := 5)).1 ?_
    refine callsIn_of_wp Try.func66 rfl trivial ?_ rfl
    simp only [Try.ntmps66, List.size_toArray, List.length_cons, List.length_nil, Nat.reduceAdd, Nat.reduceSub, Array.replicate_succ, Array.replicate_zero, List.push_toArray, List.append_toArray, List.nil_append, List.cons_append]
    gi_wp2
    clear c1 c3
    gi_loopw [8] (fun i wr => ∃ (m : Nat) (O1 : Nat → Prop), m ≤ c.n - s ∧ i = .int .i64 ((s : Int) + (m : Int)) ∧ ChSt c O1 wr pre ∧ J O1 (done ++ extTo c.n k pre s m) false wr) (fun i _ => 2002 - (intOf i).toNat)
    case atStart => exact ⟨0, O, Nat.zero_le _, by simp, HST0.out, by have := HJ0.out; simpa [extTo] using this⟩
    case round =>
      obtain ⟨m, O1, hm, rfl, hst, hJ⟩ := hrel
      have HST := Lib.hid hst
      have HJ := Lib.hid hJ
      obtain ⟨⟨v, h1, h2⟩, ⟨h3, h4, h5, h6⟩, ho, hb⟩ := hst
      obtain ⟨av, cv, rfl⟩ := own_slice h2.1
      have c4 := box_cell h4
      by_cases hlt : s + m < c.n
      · have c1 := box_cell h1
        have HOW := Lib.hid h2
        have HH1 := Lib.hid h1
        have HB := Lib.hid hb
        have HO := Lib.hid ho
        have ht : (s : Int) + (m : Int) < (c.n : Int) := by omega
        clear hJ h1 h2 h3 h4 h5 h6 ho hb
        have HIH := Lib.hid (show ∀ (O2 : Nat → Prop) (W2 : World), ChSt c O2 W2 (pre ++ [s + m]) → J O2 (done ++ extTo c.n k pre s m) false W2 → Calls Try.prog 66 #[.int .i64 ((s : Int) + (m : Int) + 1), .pointer (some ⟨c.pb, 0, none⟩), .pointer (some ⟨c.sb, 0, none⟩), .pointer (some ⟨c.yb, 0, none⟩), .pointer (some ⟨c.nb, 0, none⟩), .pointer (some ⟨c.eb, 0, none⟩)] W2
            (ExtPost c J (pre ++ [s + m]) (done ++ extTo c.n k pre s (m + 1)) xs) from fun O2 W2 a1 a2 => by
          have := IH.out (s + m) O2 (done ++ extTo c.n k pre s m) W2 (by omega) a1 a2 (by
            rw [List.append_assoc, ← extTo_succ]
            refine List.IsPrefix.trans ?_ HPRE.out
            rw [extL_head]
            exact (List.prefix_append_right_inj _).2 (extTo_prefix _ _ _ _ (by omega)))
          rw [List.append_assoc, ← extTo_succ] at this
          simpa only [Int.natCast_add, Int.natCast_one] using this)
        have hW1 : IntKind.i64.wrap ((s : Int) + (m : Int) + 1) = (s : Int) + (m : Int) + 1 := IntWalk.i64_in _ (by omega)
        gi_wp2_with (gi_at_builtin; refine wpListIn_append_lies _ rfl _ _ 84 rfl c.base 3 i0 _ 1 8 Try.underlying84 hi hz0 hz1 hz2 rfl (by decide) (.slice av pre.length cv) pre.length (natCells pre) rfl ?o1 _ 1 1 [.int .i64 ((s : Int) + (m : Int))] rfl rfl ?o2 ?o3 (by omega) ?o4 ?o5 ?o6 _ rfl ?o7)
        case o1 => exact own_new HOW.out.1 ((New.refl _).alloc _)
        case o2 => refine cells_new _ _ _ _ ?_; simp [go_sem]
        case o3 => intro u hu; simp at hu; subst hu; rfl
        case o4 => unfold maxLen; omega
        case o5 => omega
        case o6 => have := HB.out.1; simp; omega
        case o7 =>
          intro g4 cap4 w4 hown4 hgrow4 hor4 hlt4
          have hvb : ∀ g, (Value.slice av pre.length cv).ownBlock = some g → O1 g ∧ c.base ≤ g := fun g hg => ⟨HOW.out.2 g hg, (HOW.out.1.lt g hg).1⟩
          have HM4 := Lib.hid (show Mod O1 wr w4 from (Mod.of_new ((New.refl wr).alloc (.cells #[.int .i64 ((s : Int) + (m : Int))] 3))).trans (Mod.grown hgrow4 fun g hg => (hvb g hg).1))
          have hkeep : ∀ k, k < c.base → w4.heap[k]? = wr.heap[k]? := fun k hk => by
            have hk2 : k < wr.heap.size := Nat.lt_of_lt_of_le hk HB.out.1
            rw [hgrow4.block k (by simp; omega) (fun e => by have := (hvb k e.symm).2; omega)]
            exact Below.heap_alloc _ _ _ hk2
          have hpb : w4.heap[c.pb]? = some (.cells #[.slice av pre.length cv] 84 (0, 0)) := (hkeep _ HC.out.1.1).trans HH1.out
          have hsz : wr.heap.size ≤ w4.heap.size := HM4.out.size
          have hg4 : O1 g4 ∨ wr.heap.size ≤ g4 := hor4.imp (fun e => (hvb _ e).1) (fun e => by rw [e]; simp)
          have hg4b : c.base ≤ g4 := (own_parts hown4).choose_spec.1
          have c1 := box_cell hpb
          have HST5 := Lib.hid (show ChSt c (fun q => O1 q ∨ q = g4) (w4.setCell ⟨c.pb, 0, none⟩ (.slice (some ⟨g4, 0, none⟩) (pre.length + 1) cap4)) (pre ++ [s + m]) by
            obtain ⟨_, ⟨h3, h4, h5, h6⟩, ⟨o1, o2, o3, o4, o5⟩, hb⟩ := HST.out
            obtain ⟨⟨b1, b2, b3, b4, b5⟩, d1, d2, d3, d4⟩ := HC.out
            have hoth : ∀ k o, k < c.base → c.pb ≠ k → wr.heap[k]? = some o → (w4.setCell ⟨c.pb, 0, none⟩ (.slice (some ⟨g4, 0, none⟩) (pre.length + 1) cap4)).heap[k]? = some o := fun k o hk hne h => by
              rw [heap_setCell_other _ _ _ _ _ (Ne.symm hne), hkeep k hk]; exact h
            refine ⟨⟨_, by rw [heap_setCell_same _ _ _ _ hpb]; rfl, ?_, fun g hg => ?_⟩, ⟨hoth _ _ b2 d1 h3, hoth _ _ b3 d2 h4, hoth _ _ b4 d3 h5, hoth _ _ b5 d4 h6⟩, ⟨.inl o1, o2, o3, .inl o4, .inl o5⟩, ?_⟩
            · have := own_keep (w' := w4.setCell ⟨c.pb, 0, none⟩ (.slice (some ⟨g4, 0, none⟩) (pre.length + 1) cap4)) hown4 (fun g hg => heap_setCell_other _ _ _ _ _ (by simp [Value.ownBlock] at hg; omega))
              rw [natCells_snoc, List.length_append]
              simpa using this
            · simp [Value.ownBlock] at hg
              exact .inr hg.symm
            · have hsw : (w4.setCell ⟨c.pb, 0, none⟩ (.slice (some ⟨g4, 0, none⟩) (pre.length + 1) cap4)).heap.size = w4.heap.size := by simp [go_sem]
              rw [hsw]
              refine ⟨by omega, fun k hk => ?_⟩
              rcases hk with hk | hk
              · exact Nat.lt_of_lt_of_le (hb.2 k hk) hsz
              · rw [hk]; exact hlt4)
          have HJ5 := Lib.hid (show J (fun q => O1 q ∨ q = g4) (done ++ extTo c.n k pre s m) false (w4.setCell ⟨c.pb, 0, none⟩ (.slice (some ⟨g4, 0, none⟩) (pre.length + 1) cap4)) from
            HJS.out _ _ _ _ _ _ HJ.out (HM4.out.trans (Mod.setCell _ _ _ _ HST.out.2.2.1.1)) (fun q hq => hq.elim .inl (fun e => by subst e; exact hg4)))
          obtain ⟨_, ⟨h3, h4, h5, h6⟩, _, _⟩ := id HST.out
          obtain ⟨⟨b1, b2, b3, b4, b5⟩, d1, d2, d3, d4⟩ := id HC.out
          have c6 := box_cell ((hkeep _ b5).trans h6)
          unfold ChB.fv at c6
          clear hown4 hgrow4 hor4 hlt4 hvb hkeep hpb hg4 h3 h4 h5 h6 b1 b2 b3 b4 b5 d1 d2 d3 hsz
          have HCALL := Lib.hid (HIH.out _ _ HST5.out HJ5.out)
          gi_wp2
          refine ⟨trivial, ?_⟩
          gi_at_call 66
          refine ((callsIn_wide (n := 4)).2 HCALL.out).mono ?_
          rintro e w6 ⟨O3, b, rfl, (⟨rfl, hJ6, hst6⟩ | ⟨rfl, done6, hJ6, hp6⟩)⟩
          · have HJ6 := Lib.hid hJ6
            have HST6 := Lib.hid hst6
            obtain ⟨⟨v6, h1, h2⟩, ⟨h3, h4, h5, h6⟩, ho, hb⟩ := hst6
            have hform := h2.1.form (by simp)
            obtain ⟨g6, cap6, rfl, hg6, hgl6⟩ := hform
            have hl6 : (pre ++ [s + m]).length = pre.length + 1 := by simp
            have h2o : w6.ownsRow c.base 3 1 (.slice (some ⟨g6, 0, none⟩) (pre.length + 1) cap6) (pre.length + 1) (natCells (pre ++ [s + m])) := by have := h2.1; rwa [hl6] at this
            rw [hl6] at h1 h2
            have hcm := (own_cap h2o).1
            have c7 := box_cell h1
            have HST7 := Lib.hid (show ChSt c O3 (w6.setCell ⟨c.pb, 0, none⟩ (.slice (some ⟨g6, 0, none⟩) pre.length cap6)) pre by
              obtain ⟨⟨b1, b2, b3, b4, b5⟩, d1, d2, d3, d4⟩ := HC.out
              have hoth : ∀ k o, c.pb ≠ k → w6.heap[k]? = some o → (w6.setCell ⟨c.pb, 0, none⟩ (.slice (some ⟨g6, 0, none⟩) pre.length cap6)).heap[k]? = some o := fun k o hne h => by
                rw [heap_setCell_other _ _ _ _ _ (Ne.symm hne)]; exact h
              refine ⟨⟨_, by rw [heap_setCell_same _ _ _ _ h1]; rfl, ?_, fun g hg => h2.2 g (by simpa [Value.ownBlock] using hg)⟩, ⟨hoth _ _ d1 h3, hoth _ _ d2 h4, hoth _ _ d3 h5, hoth _ _ d4 h6⟩, ho, ?_⟩
              · have := own_prefix h2o pre.length (by omega)
                have e : (natCells (pre ++ [s + m])).take (pre.length * 1) = natCells pre := by rw [← natCells_take]; simp
                rw [e] at this
                exact own_keep this (fun g hg => heap_setCell_other _ _ _ _ _ (by simp [Value.ownBlock] at hg; omega))
              · have hsw : (w6.setCell ⟨c.pb, 0, none⟩ (.slice (some ⟨g6, 0, none⟩) pre.length cap6)).heap.size = w6.heap.size := by simp [go_sem]
                rw [hsw]; exact hb)
            have HJ7 := Lib.hid (show J O3 (done ++ extTo c.n k pre s (m + 1)) false (w6.setCell ⟨c.pb, 0, none⟩ (.slice (some ⟨g6, 0, none⟩) pre.length cap6)) from
              HJS.out _ _ _ _ _ _ HJ6.out (Mod.setCell _ _ _ _ ho.1) (fun q hq => .inl hq))
            have hw7 : IntKind.i64.wrap ((pre.length : Int) + 1 - 1) = (pre.length : Int) := by rw [show (pre.length : Int) + 1 - 1 = (pre.length : Int) by omega]; exact IntWalk.i64_in _ (by omega)
            clear hJ6 h1 h2 h2o h3 h4 h5 h6 ho hb hl6 c6 c1
            gi_wp2
            go_roundw
            case rel => exact ⟨m + 1, O3, by omega, by go_num, HST7.out, HJ7.out⟩
            case measure => simp [intOf]; omega
          · have HP := Lib.hid (show ExtPost c J pre (done ++ extL c.n (k + 1) pre s) xs (.returned (.bool false)) w6 from ⟨O3, false, rfl, .inr ⟨rfl, done6, hJ6, hp6⟩⟩)
            clear hJ6 c6 c1
            gi_wp2
            go_ret
            exact HP.out
      · obtain rfl : m = c.n - s := by omega
        have HP := Lib.hid (show ExtPost c J pre (done ++ extL c.n (k + 1) pre s) xs (.returned (.bool true)) wr from ⟨O1, true, rfl, .inl ⟨rfl, by rw [extL_head]; exact HJ.out, HST.out⟩⟩)
        have ht : ¬ ((s : Int) + ((c.n - s : Nat) : Int) < (c.n : Int)) := by omega
        clear hJ h1 h2 h3 h4 h5 h6 ho hb
        gi_wp2
        go_ret
        exact HP.out

set_option maxHeartbeats 2000000 in
theorem choices_c (n size : Int) (w : World) : Calls Try.prog 41 #[.int .i64 n, .int .i64 size] w fun e w' =>
    e = .returned (.func (.func 65) #[] #[.pointer (some ⟨w.heap.size + 1, 0, none⟩), .pointer (some ⟨w.heap.size, 0, none⟩)]) ∧ w' = (w.alloc (.cells #[.int .i64 n] 3)).alloc (.cells #[.int .i64 size] 3) := by
  go_enter Try.func41, Try.ntmps41
  go_wp2_with fail
  go_ret
  exact ⟨rfl, rfl⟩

theorem alloc3_heap (W : World) (A B C : Obj) : (((W.alloc A).alloc B).alloc C).heap[W.heap.size]? = some A ∧ (((W.alloc A).alloc B).alloc C).heap[W.heap.size + 1]? = some B ∧ (((W.alloc A).alloc B).alloc C).heap[W.heap.size + 2]? = some C := by
  have e1 := World.alloc_heap_new W A
  have e2 := World.alloc_heap_new (W.alloc A) B
  have e3 := World.alloc_heap_new ((W.alloc A).alloc B) C
  simp only [World.size_alloc] at e2 e3
  refine ⟨?_, ?_, e3⟩
  · rw [Below.heap_alloc _ _ _ (by simp; omega), Below.heap_alloc _ _ _ (by simp)]; exact e1
  · rw [Below.heap_alloc _ _ _ (by simp)]; exact e2

def ElemL (x : List Nat) (args : Array Value) (O : Nat → Prop) (W : World) : Prop := ∃ base, ElemC base x args O W

set_option maxRecDepth 100000 in
set_option maxHeartbeats 8000000 in
theorem choices_it (n size sb nb : Nat) (hs : size ≤ 1000) (hn : n ≤ 1000) (W : World) (h1 : W.heap[sb]? = some (.cells #[.int .i64 (size : Int)] 3 (0, 0))) (h2 : W.heap[nb]? = some (.cells #[.int .i64 (n : Int)] 3 (0, 0))) :
    IterAt Try.prog 65 #[.pointer (some ⟨sb, 0, none⟩), .pointer (some ⟨nb, 0, none⟩)] ElemL (extL n size [] 0) (fun k => k = sb ∨ k = nb) W := by
  intro lp J hJs hJ hY
  have hb1 := (Array.getElem?_eq_some_iff.1 h1).1
  have hb2 := (Array.getElem?_eq_some_iff.1 h2).1
  have HX := Lib.hid (show ∀ W5, New W W5 → W.heap.size + 3 ≤ W5.heap.size → W5.heap[W.heap.size]? = some (.cells #[.func (.yield lp) #[] #[]] 112 (0, 0)) → W5.heap[W.heap.size + 1]? = some (.cells #[.slice none 0 0] 84 (0, 0)) →
      W5.heap[W.heap.size + 2]? = some (.cells #[.func (.func 66) #[] #[.pointer (some ⟨W.heap.size + 1, 0, none⟩), .pointer (some ⟨sb, 0, none⟩), .pointer (some ⟨W.heap.size, 0, none⟩), .pointer (some ⟨nb, 0, none⟩), .pointer (some ⟨W.heap.size + 2, 0, none⟩)]] 113 (0, 0)) →
      Calls Try.prog 66 #[.int .i64 0, .pointer (some ⟨W.heap.size + 1, 0, none⟩), .pointer (some ⟨sb, 0, none⟩), .pointer (some ⟨W.heap.size, 0, none⟩), .pointer (some ⟨nb, 0, none⟩), .pointer (some ⟨W.heap.size + 2, 0, none⟩)] W5
        (fun e W' => ∃ v, e = .returned v ∧ ∃ O done b, J O done b W' ∧ (b = false → done = extL n size [] 0) ∧ done <+: extL n size [] 0) from fun W5 hn5 hs5 k1 k2 k3 => by
    have := extend_in ⟨lp, W.heap.size + 1, sb, nb, W.heap.size, W.heap.size + 2, W.heap.size + 3, n, size, fun k => k = sb ∨ k = nb⟩ (by unfold ChB.ok; dsimp only; omega) hs hn J hJs (extL n size [] 0)
      (fun O done x args W0 a1 a2 a3 a4 => hY O done x args W0 a1 a2 ⟨_, a3⟩ a4) size [] 0 (fun k => W.heap.size ≤ k ∧ k < W5.heap.size) [] W5 (by simp) (by omega)
      ⟨⟨_, k2, World.ownsRow_nil _ _ _ _, fun g hg => by simp [Value.ownBlock] at hg⟩, ⟨(hn5.below.block _ hb1).trans h1, (hn5.below.block _ hb2).trans h2, k1, k3⟩, ⟨⟨by simp, by dsimp only; omega⟩, .inl rfl, .inr rfl, ⟨Nat.le_refl _, by dsimp only; omega⟩, ⟨by simp, by dsimp only; omega⟩⟩, hs5, fun k hk => hk.2⟩
      (hJs _ _ _ _ _ _ hJ (Mod.of_new hn5) (fun k hk => .inr hk.1)) (by simp)
    refine this.mono ?_
    rintro e W' ⟨O, b, rfl, (⟨rfl, a1, _⟩ | ⟨rfl, done, a1, a2⟩)⟩
    · exact ⟨_, rfl, O, _, false, a1, fun _ => rfl, by simp⟩
    · exact ⟨_, rfl, O, done, true, a1, (fun h => by cases h), a2⟩)
  clear hJs hJ hY h1 h2
  show Calls _ _ #[.func (.yield lp) #[] #[], .pointer (some ⟨sb, 0, none⟩), .pointer (some ⟨nb, 0, none⟩)] _ _
  go_enter Try.func65, Try.ntmps65
  go_wp2_with (go_at_call 66; refine (HX.out _ ?n1 ?n2 ?n3 ?n4 ?n5).mono ?n6)
  case n1 => (repeat (first | exact New.refl _ | apply New.alloc | apply New.aft | apply New.drew | refine New.setCell ?_ ?_ _)); all_goals (first | done | (simp; done) | (simp; omega))
  case n2 => simp [go_sem]
  case n3 => exact (alloc3_heap _ _ _ _).1
  case n4 => exact (alloc3_heap _ _ _ _).2.1
  case n5 => exact (alloc3_heap _ _ _ _).2.2
  case n6 => 
    rintro e W' ⟨v, rfl, h⟩
    have HP := Lib.hid h
    clear h
    go_wp2_with fail
    go_end0
    exact ⟨⟨_, rfl⟩, HP.out⟩

end Go.Proofs.Ytpjekinmcdglbaa
