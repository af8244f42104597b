/- The law PigmentReaches. -/
import Derived.Test.YtpjekinmcdglbaaNr
import Derived.Test.YtpjekinmcdglbaaEd
set_option linter.unusedSimpArgs false
set_option linter.unusedVariables false
set_option maxRecDepth 100000
namespace Go.Proofs.Ytpjekinmcdglbaa
open Go.RowKit

theorem plane_zero_in (D : Nat) (w : World) : (Op.equalIn (D + 3) 41 (.agg #[.int .i64 0, .int .i64 0, .int .i64 0, .int .i64 0]) (.agg #[.int .i64 0, .int .i64 0, .int .i64 0, .int .i64 0])).run Try.prog w = .ok true w := by
  have hs : Try.prog.underlying 41 = some (.struct (Try.prog.fieldsOf 41)) := by kernel_rfl
  have hp : Try.prog.stoodInHeld 41 = false := by kernel_rfl
  have hf : ((Try.prog.fieldsOf 41).toList.map fun f => (f.type, f.offset, decide (f.name = "_"))) = [(37, 0, false), (3, 3, false)] := by kernel_rfl
  have p0 : ∀ w, (part 37 #[.int .i64 0, .int .i64 0, .int .i64 0, .int .i64 0] 0).run Try.prog w = .ok (.agg #[.int .i64 0, .int .i64 0, .int .i64 0]) w := fun w => rfl
  have p1 : ∀ w, (part 3 #[.int .i64 0, .int .i64 0, .int .i64 0, .int .i64 0] 3).run Try.prog w = .ok (.int .i64 0) w := fun w => rfl
  have q0 : ∀ w, (Op.equalIn (D + 2) 37 (.agg #[.int .i64 0, .int .i64 0, .int .i64 0]) (.agg #[.int .i64 0, .int .i64 0, .int .i64 0])).run Try.prog w = .ok true w := fun w => equal_arr D 0 0 0 0 0 0 w
  rw [run_equalIn_agg _ _ _ _ _ hs hp]
  generalize (Try.prog.fieldsOf 41).toList = F at *
  rcases F with _ | ⟨f, _ | ⟨g, _ | ⟨x, F⟩⟩⟩
  · simp at hf
  · simp at hf
  · simp only [List.map_cons, List.map_nil, List.cons.injEq, Prod.mk.injEq, and_true, decide_eq_false_iff_not] at hf
    obtain ⟨⟨h1, h2, h3⟩, h4, h5, h6⟩ := hf
    simp [go_sem, Op.eqFields, h1, h2, h3, h4, h5, h6, p0, p1, q0, Try.underlying3]
  · simp at hf
theorem plane_zero_eq (V : World) : (binOp .eql 41 (.agg #[.int .i64 0, .int .i64 0, .int .i64 0, .int .i64 0]) (.agg #[.int .i64 0, .int .i64 0, .int .i64 0, .int .i64 0])).run Try.prog V = .ok (.bool true) V := by
  rw [run_eql_struct, show (10000 : Nat) = 9997 + 3 from rfl, plane_zero_in]; rfl
theorem rOf_len {T : List T5} {m : Nat} {a b c : Int} (hTl : T.length = m) : (rOf T m a b c).length ≤ 4 := by
  unfold rOf
  split
  · rename_i hz
    obtain ⟨htn, ha, hb, hc⟩ := wntE_zero hTl hz
    cases h : rcpL T m a b c with
    | nil => simp
    | cons x l => exact (rcp_small (tn_sh htn) ha hb hc (show x ∈ rcpL T m a b c by rw [h]; simp)).1.1.2
  · simp

/-- the law's boxes: the shade; the recipes -/
def RhW (w W : World) (a b c : Int) : Prop := New w W ∧ W.heap[w.heap.size]? = some (.cells (#[.int .i64 a, .int .i64 b, .int .i64 c] : Array Value) 37 (0, 0))
theorem RhW.keep {w W V : World} {a b c : Int} (h : RhW w W a b c) (hn : New W V) : RhW w V a b c :=
  ⟨h.1.trans hn, (hn.below.block _ (Array.getElem?_eq_some_iff.1 h.2).1).trans h.2⟩
theorem blk_keep {W V : World} {k : Nat} {o : Obj} (h : W.heap[k]? = some o) (hn : New W V) : V.heap[k]? = some o := (hn.below.block _ (Array.getElem?_eq_some_iff.1 h).1).trans h

set_option maxHeartbeats 16000000 in
theorem reaches_c (tv : Option Addr) (m tc : Nat) (T : List T5) (a b c : Int) (w : World) (hm : m ≤ 9223372036854775807) (hTl : T.length = m) (hT : 0 < m → ∃ b off, tv = some ⟨b, off, none⟩ ∧ Tnts w b off m T) :
    Calls Try.prog 4 #[.slice tv m tc, vv a b c] w fun en w' => en = .returned (.bool true) ∧ New w w' := by
  have HFI := Lib.hid (fun (w1 : World) (h1 : New w w1) => fine_c tv m tc 14 T w1 hm (fun h => by obtain ⟨b, o, e, h2⟩ := hT h; exact ⟨b, o, e, h2.new h1⟩))
  have HA := Lib.hid (fun (h14 : m ≤ 14) (w1 : World) (h1 : New w w1) => reach_any tv m tc T a b c w1 (by omega) hTl (fun h => by obtain ⟨b, o, e, h2⟩ := hT h; exact ⟨b, o, e, h2.new h1⟩))
  have HB := Lib.hid (fun (h14 : m ≤ 14) (w1 : World) (h1 : New w w1) => rreach_any tv m tc T a b c w1 (by omega) hTl (fun h => by obtain ⟨b, o, e, h2⟩ := hT h; exact ⟨b, o, e, h2.new h1⟩))
  have HP := Lib.hid (fun (h14 : m ≤ 14) (w1 : World) (h1 : New w w1) => plane_any tv m tc T a b c w1 (by omega) hTl (fun h => by obtain ⟨b, o, e, h2⟩ := hT h; exact ⟨b, o, e, h2.new h1⟩))
  have HC := Lib.hid (fun (h14 : m ≤ 14) (N0 N1 N2 C : Int) (w1 : World) (h1 : New w w1) => checkPlane_c tv m tc T a b c N0 N1 N2 C w1 (by omega) hTl (fun h => by obtain ⟨b, o, e, h2⟩ := hT h; exact ⟨b, o, e, h2.new h1⟩))
  have HD := Lib.hid (fun (h14 : m ≤ 14) (N0 N1 N2 C : Int) (w1 : World) (h1 : New w w1) => ref_checkPlane tv m tc T a b c N0 N1 N2 C w1 (by omega) hTl (fun h => by obtain ⟨b, o, e, h2⟩ := hT h; exact ⟨b, o, e, h2.new h1⟩))
  have HMX := Lib.hid (fun (w1 : World) => mixed_c w1)
  have HLX := Lib.hid (rOf_len (a := a) (b := b) (c := c) hTl)
  have HCASE := Lib.hid (show (wntE T a b c m ≠ 0 ∧ isOf T m a b c = false ∧ noOf T m a b c = false) ∨ (wntE T a b c m = 0 ∧ isOf T m a b c = true ∧ noOf T m a b c = false) ∨ (wntE T a b c m = 0 ∧ isOf T m a b c = false ∧ noOf T m a b c = true) by
    unfold isOf noOf
    by_cases hz : wntE T a b c m = 0
    · rw [decide_eq_true hz]
      cases (rcpL T m a b c).isEmpty
      · exact .inr (.inl ⟨hz, rfl, rfl⟩)
      · exact .inr (.inr ⟨hz, rfl, rfl⟩)
    · rw [decide_eq_false hz]
      exact .inl ⟨hz, rfl, rfl⟩)
  have HLE := Lib.hid (show fineB T m 14 = true → m ≤ 14 from fun h => by have := fine_le h; omega)
  clear hT hTl
  generalize fineB T m 14 = fb at *
  generalize isOf T m a b c = IS at *
  generalize noOf T m a b c = NO at *
  generalize rOf T m a b c = X at *
  generalize wntE T a b c m = E at *
  go_enter Try.func4, Try.ntmps4
  go_wp2_with fail
  go_at_call 9
  refine (HFI.out _ ((New.refl w).alloc _)).mono ?_
  rintro e w1 ⟨rfl, hn1⟩
  have HW1 := Lib.hid (show RhW w w1 a b c from ⟨((New.refl w).alloc _).trans hn1, blk_keep (heap_alloc_new _ _) hn1⟩)
  clear hn1
  cases fb
  · go_wp2_with fail
    go_at_call 10
    refine (HMX.out _).mono ?_
    rintro e w2 ⟨rfl, hn2⟩
    have HN2 := Lib.hid (HW1.out.1.trans hn2)
    clear hn2
    go_wp2_with fail
    all_goals (go_ret; exact ⟨rfl, HN2.out⟩)
  · have h14 := HLE.out rfl
    by_cases hmid : (7 : Int) < (m : Int) ∧ (m : Int) ≤ 12
    · obtain ⟨hm7, hm12⟩ := hmid
      go_wp2_with fail
      go_at_call 10
      refine (HMX.out _).mono ?_
      rintro e w2 ⟨rfl, hn2⟩
      have HN2 := Lib.hid (HW1.out.1.trans hn2)
      clear hn2
      go_wp2_with fail
      all_goals (go_ret; exact ⟨rfl, HN2.out⟩)
    · have hmid' : ¬ (7 : Int) < (m : Int) ∨ ¬ (m : Int) ≤ 12 := by omega
      rcases HCASE.out with ⟨hE, rfl, rfl⟩ | ⟨rfl, rfl, rfl⟩ | ⟨rfl, rfl, rfl⟩
      · clear HCASE hmid
        rcases hmid' with hm7 | hm12
        · skip
          obtain ⟨k1, k2, k3⟩ := cell_v3 HW1.out.2
          go_wp2_with fail
          go_at_call 15
          refine (HA.out h14 _ HW1.out.1).mono ?_
          rintro e w2 ⟨v, rfl, ⟨sv, cv, rfl, hro⟩, hn2⟩
          have HW2 := Lib.hid (HW1.out.keep hn2)
          have HR1 := Lib.hid hro
          clear hn2 hro k1 k2 k3
          obtain ⟨k1, k2, k3⟩ := cell_v3 HW2.out.2
          have hs2 := (Array.getElem?_eq_some_iff.1 HW2.out.2).1
          go_wp2_with fail
          go_at_call 16
          refine (HB.out h14 _ (HW2.out.1.trans ((New.refl _).alloc _))).mono ?_
          rintro e w3 ⟨v', rfl, ⟨sq, cq, rfl, hro⟩, hn3⟩
          have HN3 := Lib.hid (((New.refl w2).alloc (.cells #[.slice sv X.length cv] 25)).trans hn3)
          have HW3 := Lib.hid (HW2.out.keep HN3.out)
          have HB1 := Lib.hid (show w3.heap[w2.heap.size]? = some (.cells #[.slice sv X.length cv] 25 (0, 0)) from blk_keep (heap_alloc_new _ _) hn3)
          have HR2 := Lib.hid hro
          clear hn3 hro k1 k2 k3
          obtain ⟨k1, k2, k3⟩ := cell_v3 HW3.out.2
          have hs3 := (Array.getElem?_eq_some_iff.1 HW3.out.2).1
          go_wp2_with fail
          go_at_call 17
          refine (HP.out h14 _ (HW3.out.1.trans ((New.refl _).alloc _))).mono ?_
          rintro e w4 ⟨N0, N1, N2, C, rfl, hn4, hz, ho⟩
          obtain ⟨rfl, rfl, rfl, rfl⟩ := hz rfl
          have HN4 := Lib.hid (((New.refl w3).alloc (.cells #[.slice sq X.length cq] 25)).trans hn4)
          have HW4 := Lib.hid (HW3.out.keep HN4.out)
          have HB2 := Lib.hid (show w4.heap[w3.heap.size]? = some (.cells #[.slice sq X.length cq] 25 (0, 0)) from blk_keep (heap_alloc_new _ _) hn4)
          have HB1' := Lib.hid (blk_keep HB1.out HN4.out)
          clear hn4 hz ho k1 k2 k3 HB1
          have b1 := (box_cell HB1'.out).1
          have b2 := (box_cell HB2.out).1
          have z1 := (Array.getElem?_eq_some_iff.1 HB1'.out).1
          have z2 := (Array.getElem?_eq_some_iff.1 HB2.out).1
          have hs4 := (Array.getElem?_eq_some_iff.1 HW4.out.2).1
          have hE0 : (E = 0) = False := eq_false hE
          have hE1 : (E == 0) = false := by simpa using hE
          go_wp2_with fail
          go_at_call 18
          have HN5 := Lib.hid ((New.refl w4).alloc (.cells #[.int .i64 0, .int .i64 0, .int .i64 0, .int .i64 0] 41))
          have hl := HLX.out
          have HSM := sameRecipe_c sv sq X.length cv X.length cq X X _ (by omega) (by omega) (fun h => by obtain ⟨g, o, e, h2⟩ := HR1.out h; exact ⟨g, o, e, h2.new (HN3.out.trans (HN4.out.trans HN5.out))⟩) (fun h => by obtain ⟨g, o, e, h2⟩ := HR2.out h; exact ⟨g, o, e, h2.new (HN4.out.trans HN5.out)⟩)
          rw [same_self] at HSM
          refine HSM.mono ?_
          rintro e w6 ⟨rfl, hn6⟩
          have HW6 := Lib.hid (HW4.out.keep (HN5.out.trans hn6))
          have HB6 := Lib.hid (show w6.heap[w4.heap.size]? = some (.cells #[.int .i64 0, .int .i64 0, .int .i64 0, .int .i64 0] 41 (0, 0)) from blk_keep (heap_alloc_new _ _) hn6)
          clear hn6 HSM b1 b2 z1 z2 hs2 hs3 hs4 hl
          go_wp2_with fail
          go_at_call 10
          refine (HMX.out _).mono ?_
          rintro e w7 ⟨rfl, hn7⟩
          have HW7 := Lib.hid (HW6.out.keep hn7)
          have HB7 := Lib.hid (blk_keep HB6.out hn7)
          clear hn7
          obtain ⟨p1, p2, p3, p4⟩ := cell_pl HB7.out
          have z7 := (Array.getElem?_eq_some_iff.1 HB7.out).1
          have heq := plane_zero_in 9997
          simp only [Nat.reduceAdd] at heq
          go_wp2_with fail
          all_goals (go_ret; exact ⟨rfl, HW7.out.1⟩)
        · have hm7 : (7 : Int) < (m : Int) := by omega
          obtain ⟨k1, k2, k3⟩ := cell_v3 HW1.out.2
          go_wp2_with fail
          go_at_call 15
          refine (HA.out h14 _ HW1.out.1).mono ?_
          rintro e w2 ⟨v, rfl, ⟨sv, cv, rfl, hro⟩, hn2⟩
          have HW2 := Lib.hid (HW1.out.keep hn2)
          have HR1 := Lib.hid hro
          clear hn2 hro k1 k2 k3
          obtain ⟨k1, k2, k3⟩ := cell_v3 HW2.out.2
          have hs2 := (Array.getElem?_eq_some_iff.1 HW2.out.2).1
          go_wp2_with fail
          go_at_call 16
          refine (HB.out h14 _ (HW2.out.1.trans ((New.refl _).alloc _))).mono ?_
          rintro e w3 ⟨v', rfl, ⟨sq, cq, rfl, hro⟩, hn3⟩
          have HN3 := Lib.hid (((New.refl w2).alloc (.cells #[.slice sv X.length cv] 25)).trans hn3)
          have HW3 := Lib.hid (HW2.out.keep HN3.out)
          have HB1 := Lib.hid (show w3.heap[w2.heap.size]? = some (.cells #[.slice sv X.length cv] 25 (0, 0)) from blk_keep (heap_alloc_new _ _) hn3)
          have HR2 := Lib.hid hro
          clear hn3 hro k1 k2 k3
          obtain ⟨k1, k2, k3⟩ := cell_v3 HW3.out.2
          have hs3 := (Array.getElem?_eq_some_iff.1 HW3.out.2).1
          go_wp2_with fail
          go_at_call 17
          refine (HP.out h14 _ (HW3.out.1.trans ((New.refl _).alloc _))).mono ?_
          rintro e w4 ⟨N0, N1, N2, C, rfl, hn4, hz, ho⟩
          obtain ⟨rfl, rfl, rfl, rfl⟩ := hz rfl
          have HN4 := Lib.hid (((New.refl w3).alloc (.cells #[.slice sq X.length cq] 25)).trans hn4)
          have HW4 := Lib.hid (HW3.out.keep HN4.out)
          have HB2 := Lib.hid (show w4.heap[w3.heap.size]? = some (.cells #[.slice sq X.length cq] 25 (0, 0)) from blk_keep (heap_alloc_new _ _) hn4)
          have HB1' := Lib.hid (blk_keep HB1.out HN4.out)
          clear hn4 hz ho k1 k2 k3 HB1
          have b1 := (box_cell HB1'.out).1
          have b2 := (box_cell HB2.out).1
          have z1 := (Array.getElem?_eq_some_iff.1 HB1'.out).1
          have z2 := (Array.getElem?_eq_some_iff.1 HB2.out).1
          have hs4 := (Array.getElem?_eq_some_iff.1 HW4.out.2).1
          have hE0 : (E = 0) = False := eq_false hE
          have hE1 : (E == 0) = false := by simpa using hE
          go_wp2_with fail
          go_at_call 18
          have HN5 := Lib.hid ((New.refl w4).alloc (.cells #[.int .i64 0, .int .i64 0, .int .i64 0, .int .i64 0] 41))
          have hl := HLX.out
          have HSM := sameRecipe_c sv sq X.length cv X.length cq X X _ (by omega) (by omega) (fun h => by obtain ⟨g, o, e, h2⟩ := HR1.out h; exact ⟨g, o, e, h2.new (HN3.out.trans (HN4.out.trans HN5.out))⟩) (fun h => by obtain ⟨g, o, e, h2⟩ := HR2.out h; exact ⟨g, o, e, h2.new (HN4.out.trans HN5.out)⟩)
          rw [same_self] at HSM
          refine HSM.mono ?_
          rintro e w6 ⟨rfl, hn6⟩
          have HW6 := Lib.hid (HW4.out.keep (HN5.out.trans hn6))
          have HB6 := Lib.hid (show w6.heap[w4.heap.size]? = some (.cells #[.int .i64 0, .int .i64 0, .int .i64 0, .int .i64 0] 41 (0, 0)) from blk_keep (heap_alloc_new _ _) hn6)
          clear hn6 HSM b1 b2 z1 z2 hs2 hs3 hs4 hl
          go_wp2_with fail
          go_at_call 10
          refine (HMX.out _).mono ?_
          rintro e w7 ⟨rfl, hn7⟩
          have HW7 := Lib.hid (HW6.out.keep hn7)
          have HB7 := Lib.hid (blk_keep HB6.out hn7)
          clear hn7
          obtain ⟨p1, p2, p3, p4⟩ := cell_pl HB7.out
          have z7 := (Array.getElem?_eq_some_iff.1 HB7.out).1
          have heq := plane_zero_in 9997
          simp only [Nat.reduceAdd] at heq
          go_wp2_with fail
          all_goals (go_ret; exact ⟨rfl, HW7.out.1⟩)
      · clear HCASE hmid
        rcases hmid' with hm7 | hm12
        · skip
          obtain ⟨k1, k2, k3⟩ := cell_v3 HW1.out.2
          go_wp2_with fail
          go_at_call 15
          refine (HA.out h14 _ HW1.out.1).mono ?_
          rintro e w2 ⟨v, rfl, ⟨sv, cv, rfl, hro⟩, hn2⟩
          have HW2 := Lib.hid (HW1.out.keep hn2)
          have HR1 := Lib.hid hro
          clear hn2 hro k1 k2 k3
          obtain ⟨k1, k2, k3⟩ := cell_v3 HW2.out.2
          have hs2 := (Array.getElem?_eq_some_iff.1 HW2.out.2).1
          go_wp2_with fail
          go_at_call 16
          refine (HB.out h14 _ (HW2.out.1.trans ((New.refl _).alloc _))).mono ?_
          rintro e w3 ⟨v', rfl, ⟨sq, cq, rfl, hro⟩, hn3⟩
          have HN3 := Lib.hid (((New.refl w2).alloc (.cells #[.slice sv X.length cv] 25)).trans hn3)
          have HW3 := Lib.hid (HW2.out.keep HN3.out)
          have HB1 := Lib.hid (show w3.heap[w2.heap.size]? = some (.cells #[.slice sv X.length cv] 25 (0, 0)) from blk_keep (heap_alloc_new _ _) hn3)
          have HR2 := Lib.hid hro
          clear hn3 hro k1 k2 k3
          obtain ⟨k1, k2, k3⟩ := cell_v3 HW3.out.2
          have hs3 := (Array.getElem?_eq_some_iff.1 HW3.out.2).1
          go_wp2_with fail
          go_at_call 17
          refine (HP.out h14 _ (HW3.out.1.trans ((New.refl _).alloc _))).mono ?_
          rintro e w4 ⟨N0, N1, N2, C, rfl, hn4, hz, ho⟩
          obtain ⟨rfl, rfl, rfl, rfl⟩ := hz rfl
          have HN4 := Lib.hid (((New.refl w3).alloc (.cells #[.slice sq X.length cq] 25)).trans hn4)
          have HW4 := Lib.hid (HW3.out.keep HN4.out)
          have HB2 := Lib.hid (show w4.heap[w3.heap.size]? = some (.cells #[.slice sq X.length cq] 25 (0, 0)) from blk_keep (heap_alloc_new _ _) hn4)
          have HB1' := Lib.hid (blk_keep HB1.out HN4.out)
          clear hn4 hz ho k1 k2 k3 HB1
          have b1 := (box_cell HB1'.out).1
          have b2 := (box_cell HB2.out).1
          have z1 := (Array.getElem?_eq_some_iff.1 HB1'.out).1
          have z2 := (Array.getElem?_eq_some_iff.1 HB2.out).1
          have hs4 := (Array.getElem?_eq_some_iff.1 HW4.out.2).1
          go_wp2_with fail
          go_at_call 18
          have HN5 := Lib.hid ((New.refl w4).alloc (.cells #[.int .i64 0, .int .i64 0, .int .i64 0, .int .i64 0] 41))
          have hl := HLX.out
          have HSM := sameRecipe_c sv sq X.length cv X.length cq X X _ (by omega) (by omega) (fun h => by obtain ⟨g, o, e, h2⟩ := HR1.out h; exact ⟨g, o, e, h2.new (HN3.out.trans (HN4.out.trans HN5.out))⟩) (fun h => by obtain ⟨g, o, e, h2⟩ := HR2.out h; exact ⟨g, o, e, h2.new (HN4.out.trans HN5.out)⟩)
          rw [same_self] at HSM
          refine HSM.mono ?_
          rintro e w6 ⟨rfl, hn6⟩
          have HW6 := Lib.hid (HW4.out.keep (HN5.out.trans hn6))
          have HB6 := Lib.hid (show w6.heap[w4.heap.size]? = some (.cells #[.int .i64 0, .int .i64 0, .int .i64 0, .int .i64 0] 41 (0, 0)) from blk_keep (heap_alloc_new _ _) hn6)
          clear hn6 HSM b1 b2 z1 z2 hs2 hs3 hs4 hl
          go_wp2_with fail
          go_at_call 10
          refine (HMX.out _).mono ?_
          rintro e w7 ⟨rfl, hn7⟩
          have HW7 := Lib.hid (HW6.out.keep hn7)
          have HB7 := Lib.hid (blk_keep HB6.out hn7)
          clear hn7
          obtain ⟨p1, p2, p3, p4⟩ := cell_pl HB7.out
          have z7 := (Array.getElem?_eq_some_iff.1 HB7.out).1
          have heq := plane_zero_in 9997
          simp only [Nat.reduceAdd] at heq
          go_wp2_with fail
          all_goals (go_ret; exact ⟨rfl, HW7.out.1⟩)
        · have hm7 : (7 : Int) < (m : Int) := by omega
          obtain ⟨k1, k2, k3⟩ := cell_v3 HW1.out.2
          go_wp2_with fail
          go_at_call 15
          refine (HA.out h14 _ HW1.out.1).mono ?_
          rintro e w2 ⟨v, rfl, ⟨sv, cv, rfl, hro⟩, hn2⟩
          have HW2 := Lib.hid (HW1.out.keep hn2)
          have HR1 := Lib.hid hro
          clear hn2 hro k1 k2 k3
          obtain ⟨k1, k2, k3⟩ := cell_v3 HW2.out.2
          have hs2 := (Array.getElem?_eq_some_iff.1 HW2.out.2).1
          go_wp2_with fail
          go_at_call 16
          refine (HB.out h14 _ (HW2.out.1.trans ((New.refl _).alloc _))).mono ?_
          rintro e w3 ⟨v', rfl, ⟨sq, cq, rfl, hro⟩, hn3⟩
          have HN3 := Lib.hid (((New.refl w2).alloc (.cells #[.slice sv X.length cv] 25)).trans hn3)
          have HW3 := Lib.hid (HW2.out.keep HN3.out)
          have HB1 := Lib.hid (show w3.heap[w2.heap.size]? = some (.cells #[.slice sv X.length cv] 25 (0, 0)) from blk_keep (heap_alloc_new _ _) hn3)
          have HR2 := Lib.hid hro
          clear hn3 hro k1 k2 k3
          obtain ⟨k1, k2, k3⟩ := cell_v3 HW3.out.2
          have hs3 := (Array.getElem?_eq_some_iff.1 HW3.out.2).1
          go_wp2_with fail
          go_at_call 17
          refine (HP.out h14 _ (HW3.out.1.trans ((New.refl _).alloc _))).mono ?_
          rintro e w4 ⟨N0, N1, N2, C, rfl, hn4, hz, ho⟩
          obtain ⟨rfl, rfl, rfl, rfl⟩ := hz rfl
          have HN4 := Lib.hid (((New.refl w3).alloc (.cells #[.slice sq X.length cq] 25)).trans hn4)
          have HW4 := Lib.hid (HW3.out.keep HN4.out)
          have HB2 := Lib.hid (show w4.heap[w3.heap.size]? = some (.cells #[.slice sq X.length cq] 25 (0, 0)) from blk_keep (heap_alloc_new _ _) hn4)
          have HB1' := Lib.hid (blk_keep HB1.out HN4.out)
          clear hn4 hz ho k1 k2 k3 HB1
          have b1 := (box_cell HB1'.out).1
          have b2 := (box_cell HB2.out).1
          have z1 := (Array.getElem?_eq_some_iff.1 HB1'.out).1
          have z2 := (Array.getElem?_eq_some_iff.1 HB2.out).1
          have hs4 := (Array.getElem?_eq_some_iff.1 HW4.out.2).1
          go_wp2_with fail
          go_at_call 18
          have HN5 := Lib.hid ((New.refl w4).alloc (.cells #[.int .i64 0, .int .i64 0, .int .i64 0, .int .i64 0] 41))
          have hl := HLX.out
          have HSM := sameRecipe_c sv sq X.length cv X.length cq X X _ (by omega) (by omega) (fun h => by obtain ⟨g, o, e, h2⟩ := HR1.out h; exact ⟨g, o, e, h2.new (HN3.out.trans (HN4.out.trans HN5.out))⟩) (fun h => by obtain ⟨g, o, e, h2⟩ := HR2.out h; exact ⟨g, o, e, h2.new (HN4.out.trans HN5.out)⟩)
          rw [same_self] at HSM
          refine HSM.mono ?_
          rintro e w6 ⟨rfl, hn6⟩
          have HW6 := Lib.hid (HW4.out.keep (HN5.out.trans hn6))
          have HB6 := Lib.hid (show w6.heap[w4.heap.size]? = some (.cells #[.int .i64 0, .int .i64 0, .int .i64 0, .int .i64 0] 41 (0, 0)) from blk_keep (heap_alloc_new _ _) hn6)
          clear hn6 HSM b1 b2 z1 z2 hs2 hs3 hs4 hl
          go_wp2_with fail
          go_at_call 10
          refine (HMX.out _).mono ?_
          rintro e w7 ⟨rfl, hn7⟩
          have HW7 := Lib.hid (HW6.out.keep hn7)
          have HB7 := Lib.hid (blk_keep HB6.out hn7)
          clear hn7
          obtain ⟨p1, p2, p3, p4⟩ := cell_pl HB7.out
          have z7 := (Array.getElem?_eq_some_iff.1 HB7.out).1
          have heq := plane_zero_in 9997
          simp only [Nat.reduceAdd] at heq
          go_wp2_with fail
          all_goals (go_ret; exact ⟨rfl, HW7.out.1⟩)
      · clear HCASE hmid
        rcases hmid' with hm7 | hm12
        · skip
          obtain ⟨k1, k2, k3⟩ := cell_v3 HW1.out.2
          go_wp2_with fail
          go_at_call 15
          refine (HA.out h14 _ HW1.out.1).mono ?_
          rintro e w2 ⟨v, rfl, ⟨sv, cv, rfl, hro⟩, hn2⟩
          have HW2 := Lib.hid (HW1.out.keep hn2)
          have HR1 := Lib.hid hro
          clear hn2 hro k1 k2 k3
          obtain ⟨k1, k2, k3⟩ := cell_v3 HW2.out.2
          have hs2 := (Array.getElem?_eq_some_iff.1 HW2.out.2).1
          go_wp2_with fail
          go_at_call 16
          refine (HB.out h14 _ (HW2.out.1.trans ((New.refl _).alloc _))).mono ?_
          rintro e w3 ⟨v', rfl, ⟨sq, cq, rfl, hro⟩, hn3⟩
          have HN3 := Lib.hid (((New.refl w2).alloc (.cells #[.slice sv X.length cv] 25)).trans hn3)
          have HW3 := Lib.hid (HW2.out.keep HN3.out)
          have HB1 := Lib.hid (show w3.heap[w2.heap.size]? = some (.cells #[.slice sv X.length cv] 25 (0, 0)) from blk_keep (heap_alloc_new _ _) hn3)
          have HR2 := Lib.hid hro
          clear hn3 hro k1 k2 k3
          obtain ⟨k1, k2, k3⟩ := cell_v3 HW3.out.2
          have hs3 := (Array.getElem?_eq_some_iff.1 HW3.out.2).1
          go_wp2_with fail
          go_at_call 17
          refine (HP.out h14 _ (HW3.out.1.trans ((New.refl _).alloc _))).mono ?_
          rintro e w4 ⟨N0, N1, N2, C, rfl, hn4, hz, ho⟩
          have HO := Lib.hid (ho rfl)
          have HN4 := Lib.hid (((New.refl w3).alloc (.cells #[.slice sq X.length cq] 25)).trans hn4)
          have HW4 := Lib.hid (HW3.out.keep HN4.out)
          have HB2 := Lib.hid (show w4.heap[w3.heap.size]? = some (.cells #[.slice sq X.length cq] 25 (0, 0)) from blk_keep (heap_alloc_new _ _) hn4)
          have HB1' := Lib.hid (blk_keep HB1.out HN4.out)
          clear hn4 hz ho k1 k2 k3 HB1
          have b1 := (box_cell HB1'.out).1
          have b2 := (box_cell HB2.out).1
          have z1 := (Array.getElem?_eq_some_iff.1 HB1'.out).1
          have z2 := (Array.getElem?_eq_some_iff.1 HB2.out).1
          have hs4 := (Array.getElem?_eq_some_iff.1 HW4.out.2).1
          go_wp2_with fail
          go_at_call 18
          have HN5 := Lib.hid ((New.refl w4).alloc (.cells #[.int .i64 N0, .int .i64 N1, .int .i64 N2, .int .i64 C] 41))
          have hl := HLX.out
          have HSM := sameRecipe_c sv sq X.length cv X.length cq X X _ (by omega) (by omega) (fun h => by obtain ⟨g, o, e, h2⟩ := HR1.out h; exact ⟨g, o, e, h2.new (HN3.out.trans (HN4.out.trans HN5.out))⟩) (fun h => by obtain ⟨g, o, e, h2⟩ := HR2.out h; exact ⟨g, o, e, h2.new (HN4.out.trans HN5.out)⟩)
          rw [same_self] at HSM
          refine HSM.mono ?_
          rintro e w6 ⟨rfl, hn6⟩
          have HW6 := Lib.hid (HW4.out.keep (HN5.out.trans hn6))
          have HB6 := Lib.hid (show w6.heap[w4.heap.size]? = some (.cells #[.int .i64 N0, .int .i64 N1, .int .i64 N2, .int .i64 C] 41 (0, 0)) from blk_keep (heap_alloc_new _ _) hn6)
          clear hn6 HSM b1 b2 z1 z2 hs2 hs3 hs4 hl
          go_wp2_with fail
          go_at_call 10
          refine (HMX.out _).mono ?_
          rintro e w7 ⟨rfl, hn7⟩
          have HW7 := Lib.hid (HW6.out.keep hn7)
          have HB7 := Lib.hid (blk_keep HB6.out hn7)
          clear hn7
          obtain ⟨p1, p2, p3, p4⟩ := cell_pl HB7.out
          have z7 := (Array.getElem?_eq_some_iff.1 HB7.out).1
          obtain ⟨k1, k2, k3⟩ := cell_v3 HW7.out.2
          have hs7 := (Array.getElem?_eq_some_iff.1 HW7.out.2).1
          have HV := Lib.hid (show (decide ((0 : Int) = 0) && btB T m N0 N1 N2 C a b c) = true by rw [HO.out]; rfl)
          go_wp2_with fail
          go_at_call 19
          refine (HC.out h14 N0 N1 N2 C _ HW7.out.1).mono ?_
          rintro e w8 ⟨rfl, hn8⟩
          rw [HV.out]
          have HW8 := Lib.hid (HW7.out.keep hn8)
          have HB8 := Lib.hid (blk_keep HB7.out hn8)
          clear hn8 k1 k2 k3 p1 p2 p3 p4 z7 hs7
          obtain ⟨p1, p2, p3, p4⟩ := cell_pl HB8.out
          obtain ⟨k1, k2, k3⟩ := cell_v3 HW8.out.2
          have z8 := (Array.getElem?_eq_some_iff.1 HB8.out).1
          have hs8 := (Array.getElem?_eq_some_iff.1 HW8.out.2).1
          go_wp2_with fail
          go_at_call 20
          refine (HD.out h14 N0 N1 N2 C _ HW8.out.1).mono ?_
          rintro e w9 ⟨rfl, hn9⟩
          rw [HV.out]
          have HN9 := Lib.hid (HW8.out.1.trans hn9)
          clear hn9 k1 k2 k3 p1 p2 p3 p4 z8 hs8
          go_wp2_with fail
          all_goals (go_ret; exact ⟨rfl, HN9.out⟩)
        · have hm7 : (7 : Int) < (m : Int) := by omega
          obtain ⟨k1, k2, k3⟩ := cell_v3 HW1.out.2
          go_wp2_with fail
          go_at_call 15
          refine (HA.out h14 _ HW1.out.1).mono ?_
          rintro e w2 ⟨v, rfl, ⟨sv, cv, rfl, hro⟩, hn2⟩
          have HW2 := Lib.hid (HW1.out.keep hn2)
          have HR1 := Lib.hid hro
          clear hn2 hro k1 k2 k3
          obtain ⟨k1, k2, k3⟩ := cell_v3 HW2.out.2
          have hs2 := (Array.getElem?_eq_some_iff.1 HW2.out.2).1
          go_wp2_with fail
          go_at_call 16
          refine (HB.out h14 _ (HW2.out.1.trans ((New.refl _).alloc _))).mono ?_
          rintro e w3 ⟨v', rfl, ⟨sq, cq, rfl, hro⟩, hn3⟩
          have HN3 := Lib.hid (((New.refl w2).alloc (.cells #[.slice sv X.length cv] 25)).trans hn3)
          have HW3 := Lib.hid (HW2.out.keep HN3.out)
          have HB1 := Lib.hid (show w3.heap[w2.heap.size]? = some (.cells #[.slice sv X.length cv] 25 (0, 0)) from blk_keep (heap_alloc_new _ _) hn3)
          have HR2 := Lib.hid hro
          clear hn3 hro k1 k2 k3
          obtain ⟨k1, k2, k3⟩ := cell_v3 HW3.out.2
          have hs3 := (Array.getElem?_eq_some_iff.1 HW3.out.2).1
          go_wp2_with fail
          go_at_call 17
          refine (HP.out h14 _ (HW3.out.1.trans ((New.refl _).alloc _))).mono ?_
          rintro e w4 ⟨N0, N1, N2, C, rfl, hn4, hz, ho⟩
          have HO := Lib.hid (ho rfl)
          have HN4 := Lib.hid (((New.refl w3).alloc (.cells #[.slice sq X.length cq] 25)).trans hn4)
          have HW4 := Lib.hid (HW3.out.keep HN4.out)
          have HB2 := Lib.hid (show w4.heap[w3.heap.size]? = some (.cells #[.slice sq X.length cq] 25 (0, 0)) from blk_keep (heap_alloc_new _ _) hn4)
          have HB1' := Lib.hid (blk_keep HB1.out HN4.out)
          clear hn4 hz ho k1 k2 k3 HB1
          have b1 := (box_cell HB1'.out).1
          have b2 := (box_cell HB2.out).1
          have z1 := (Array.getElem?_eq_some_iff.1 HB1'.out).1
          have z2 := (Array.getElem?_eq_some_iff.1 HB2.out).1
          have hs4 := (Array.getElem?_eq_some_iff.1 HW4.out.2).1
          go_wp2_with fail
          go_at_call 18
          have HN5 := Lib.hid ((New.refl w4).alloc (.cells #[.int .i64 N0, .int .i64 N1, .int .i64 N2, .int .i64 C] 41))
          have hl := HLX.out
          have HSM := sameRecipe_c sv sq X.length cv X.length cq X X _ (by omega) (by omega) (fun h => by obtain ⟨g, o, e, h2⟩ := HR1.out h; exact ⟨g, o, e, h2.new (HN3.out.trans (HN4.out.trans HN5.out))⟩) (fun h => by obtain ⟨g, o, e, h2⟩ := HR2.out h; exact ⟨g, o, e, h2.new (HN4.out.trans HN5.out)⟩)
          rw [same_self] at HSM
          refine HSM.mono ?_
          rintro e w6 ⟨rfl, hn6⟩
          have HW6 := Lib.hid (HW4.out.keep (HN5.out.trans hn6))
          have HB6 := Lib.hid (show w6.heap[w4.heap.size]? = some (.cells #[.int .i64 N0, .int .i64 N1, .int .i64 N2, .int .i64 C] 41 (0, 0)) from blk_keep (heap_alloc_new _ _) hn6)
          clear hn6 HSM b1 b2 z1 z2 hs2 hs3 hs4 hl
          go_wp2_with fail
          go_at_call 10
          refine (HMX.out _).mono ?_
          rintro e w7 ⟨rfl, hn7⟩
          have HW7 := Lib.hid (HW6.out.keep hn7)
          have HB7 := Lib.hid (blk_keep HB6.out hn7)
          clear hn7
          obtain ⟨p1, p2, p3, p4⟩ := cell_pl HB7.out
          have z7 := (Array.getElem?_eq_some_iff.1 HB7.out).1
          obtain ⟨k1, k2, k3⟩ := cell_v3 HW7.out.2
          have hs7 := (Array.getElem?_eq_some_iff.1 HW7.out.2).1
          have HV := Lib.hid (show (decide ((0 : Int) = 0) && btB T m N0 N1 N2 C a b c) = true by rw [HO.out]; rfl)
          go_wp2_with fail
          go_at_call 19
          refine (HC.out h14 N0 N1 N2 C _ HW7.out.1).mono ?_
          rintro e w8 ⟨rfl, hn8⟩
          rw [HV.out]
          have HW8 := Lib.hid (HW7.out.keep hn8)
          have HB8 := Lib.hid (blk_keep HB7.out hn8)
          clear hn8 k1 k2 k3 p1 p2 p3 p4 z7 hs7
          obtain ⟨p1, p2, p3, p4⟩ := cell_pl HB8.out
          obtain ⟨k1, k2, k3⟩ := cell_v3 HW8.out.2
          have z8 := (Array.getElem?_eq_some_iff.1 HB8.out).1
          have hs8 := (Array.getElem?_eq_some_iff.1 HW8.out.2).1
          go_wp2_with fail
          go_at_call 20
          refine (HD.out h14 N0 N1 N2 C _ HW8.out.1).mono ?_
          rintro e w9 ⟨rfl, hn9⟩
          rw [HV.out]
          have HN9 := Lib.hid (HW8.out.1.trans hn9)
          clear hn9 k1 k2 k3 p1 p2 p3 p4 z8 hs8
          go_wp2_with fail
          all_goals (go_ret; exact ⟨rfl, HN9.out⟩)

end Go.Proofs.Ytpjekinmcdglbaa
