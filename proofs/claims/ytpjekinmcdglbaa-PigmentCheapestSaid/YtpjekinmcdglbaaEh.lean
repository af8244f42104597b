/- Whether tints are valid: checkTints. · Tints in a row of the call's own: cells of tints, append of tints as a step of a region that draws. -/
import Derived.Test.YtpjekinmcdglbaaCd
import Derived.Test.YtpjekinmcdglbaaCe
import Derived.Test.YtpjekinmcdglbaaOw
import Derived.Test.YtpjekinmcdglbaaCt
import Derived.Deep.RegionLaw
import Derived.Deep.RegionHeld3
import Derived.Deep.RegionWith
import Derived.Deep.DeepCutAuto
import Derived.BigRegion
import Derived.Deep.AppendLies

section
set_option linter.unusedSimpArgs false
set_option linter.unusedVariables false
set_option maxRecDepth 100000
namespace Go.Proofs.Ytpjekinmcdglbaa
open Go.RowKit

theorem str_info : (Try.prog.info? 9).map (fun i => (i.zero, i.size, i.bytes)) = some (some (.string ByteArray.empty), 1, 16) := by kernel_rfl
theorem info_of {P : Program} {t : TypeId} {z : Value} {s b : Nat} (h : (P.info? t).map (fun i => (i.zero, i.size, i.bytes)) = some (some z, s, b)) : ∃ i, P.info? t = some i ∧ i.zero = some z ∧ i.size = s ∧ i.bytes = b := by
  cases h' : P.info? t with
  | none => rw [h'] at h; cases h
  | some i => rw [h'] at h; simp at h; exact ⟨i, rfl, h.1, h.2.1, h.2.2⟩
def nmC (T : List T5) (k : Nat) : List Value := (List.range k).map (fun i => Value.string (tN T i))
theorem nmC_len (T : List T5) (k : Nat) : (nmC T k).length = k := by simp [nmC]
theorem nmC_snoc (T : List T5) (k : Nat) : nmC T (k + 1) = nmC T k ++ [.string (tN T k)] := by simp [nmC, List.range_succ]
theorem nmC_at (T : List T5) (k j : Nat) (h : j < k) : (nmC T k)[j]? = some (.string (tN T j)) := by simp [nmC, h]
def okT (T : List T5) (i : Nat) : Bool := tintB (tN T i) (tA T i) (tB T i) (tC T i) (tP T i)
def chkE (T : List T5) (m : Nat) : Int := if 12 < m then 2 else if m = 0 then 1 else if (List.range m).all (okT T) = false then 1 else if once (tN T) m = false then 6 else 0

theorem own_lt {w : World} {base e size n g cap : Nat} {xs : List Value} (h : w.ownsRow base e size (.slice (some ⟨g, 0, none⟩) n cap) n xs) : g < w.heap.size := by
  obtain ⟨cur, _, h2, _⟩ := own_parts h
  exact (Array.getElem?_eq_some_iff.1 h2).1
set_option maxHeartbeats 16000000 in
theorem checkTints_c (tv : Option Addr) (m tc : Nat) (T : List T5) (w : World) (hm : m ≤ 17592186044415) (hp : 0 < m → ∃ b off, tv = some ⟨b, off, none⟩ ∧ Tnts w b off m T) :
    Calls Try.prog 53 #[.slice tv m tc] w fun en w' => en = .returned (.int .i64 (chkE T m)) ∧ New w w' := by
  obtain ⟨i0, hi, hz0, hz1, hz2⟩ := info_of str_info
  have HP := Lib.hid hp
  have HR := Lib.hid (show chkE T m = if 12 < m then 2 else if m = 0 then 1 else if (List.range m).all (okT T) = false then 1 else if once (tN T) m = false then 6 else 0 from rfl)
  have HO := Lib.hid (show ∀ i, okT T i = tintB (tN T i) (tA T i) (tB T i) (tC T i) (tP T i) from fun _ => rfl)
  have HTI := Lib.hid (fun s a b c p (w1 : World) => isTint_c s a b c p w1)
  have HTW := Lib.hid (fun (b off n cp : Nat) (nm : Nat → ByteArray) (w1 : World) h1 h2 h3 => hasTwice_c b off n cp nm w1 h1 h2 h3)
  have HNEW := Lib.hid (New.refl w)
  clear hp
  generalize chkE T m = R at *
  generalize okT T = ok at *
  by_cases h12 : (12 : Int) < (m : Int)
  · have HF := Lib.hid (show (2 : Int) = R by rw [HR.out, if_pos (by omega)])
    go_enter Try.func53, Try.ntmps53
    go_wp2_with fail
    all_goals (go_ret; exact ⟨ret_int HF.out, HNEW.out⟩)
  · rw [if_neg (show ¬ 12 < m by omega)] at HR
    by_cases h0 : (m : Int) = 0
    · have HF := Lib.hid (show (1 : Int) = R by rw [HR.out, if_pos (by omega)])
      go_enter Try.func53, Try.ntmps53
      go_wp2_with fail
      all_goals (go_ret; exact ⟨ret_int HF.out, HNEW.out⟩)
    · rw [if_neg (show ¬ m = 0 by omega)] at HR
      obtain ⟨b, off, rfl, hT⟩ := HP.out (by omega)
      have HT := Lib.hid hT
      clear hT
      go_enter Try.func53, Try.ntmps53
      go_wp2_with fail
      go_loopw [3, 14] (fun v i wr => ∃ k : Nat, k ≤ m ∧ i = .int .i64 k ∧ (List.range k).all ok = true ∧ wr.ownsRow w.heap.size 9 1 v k (nmC T k) ∧ (k = 0 ∨ ∃ g cap, v = .slice (some ⟨g, 0, none⟩) k cap) ∧ New w wr) (fun _ i _ => m - (intOf i).toNat)
      case atStart => exact ⟨0, Nat.zero_le _, rfl, rfl, World.ownsRow_nil _ _ _ _, .inl rfl, New.refl _⟩
      case round =>
        obtain ⟨k, hk, rfl, hall, hown, hsl, hnew⟩ := hrel
        have HALL := Lib.hid hall
        have HOW := Lib.hid hown
        have HNW := Lib.hid hnew
        have HSL := Lib.hid hsl
        clear hall hown hnew hsl
        by_cases hlt : k < m
        · have hk1 : (k : Int) < (m : Int) := by omega
          obtain ⟨_, gl, hcc⟩ := HT.out.new HNW.out
          obtain ⟨⟨c1, c2, c3⟩, c4, c5⟩ := hcc k hlt
          have HOk := Lib.hid (HO.out k)
          have HSN := Lib.hid (all_snoc ok k)
          have HMS := Lib.hid (fun (e : ok k = false) => (by rw [HR.out, all_miss hlt e]; rfl : R = 1))
          have HCS := Lib.hid (nmC_snoc T k)
          have HOn := Lib.hid (fun X (hX : New wr X) => (own_new HOW.out hX))
          clear hcc
          generalize tN T k = S at *
          generalize tA T k = A at *
          generalize tB T k = B at *
          generalize tC T k = C at *
          generalize tP T k = P at *
          go_wp2_with fail
          go_at_call 78
          refine (HTI.out _ _ _ _ _ _).mono ?_
          rintro e w2 ⟨rfl, hn2⟩
          have HN2 := Lib.hid (((New.refl wr).alloc _).trans hn2)
          have hB : w2.heap[wr.heap.size]? = some (.cells #[.string S, .int .i64 A, .int .i64 B, .int .i64 C, .int .i64 P] 59 (0, 0)) := (hn2.below.block _ (by simp)).trans (heap_alloc_new _ _)
          have d0 : w2.cell? ⟨wr.heap.size, 0, none⟩ = some (.string S) := by simp [World.cell?, hB]
          have HO2 := Lib.hid (HOn.out _ HN2.out)
          clear hn2 hB c1 c2 c3 c4 c5
          generalize tintB S A B C P = q at *
          cases q
          · have HF := Lib.hid (show (1 : Int) = R from (HMS.out HOk.out).symm)
            go_wp2_with fail
            all_goals (go_ret; exact ⟨ret_int HF.out, HNW.out.trans HN2.out⟩)
          · have hsz := HNW.out.size
            have hsz2 := HN2.out.size
            have HO2n := Lib.hid (fun X (hX : New w2 X) => own_new HO2.out hX)
            have HZ := Lib.hid (show ∀ X Y, New w2 X → X.grownBy Y u3.ownBlock → New w Y from fun X Y hX hY => new_grown ((HNW.out.trans HN2.out).trans hX) hY HO2.out)
            have HV := Lib.hid HOk.out
            go_wp2_with (at_builtin; refine wpList_append_lies _ rfl (.tmp 21) (.tmp 24) 124 rfl w.heap.size 9 i0 _ 1 16 Try.underlying124 hi hz0 hz1 hz2 rfl (by omega) u3 k (nmC T k) rfl ?_ _ 1 1 [.string S] rfl rfl ?_ ?_ (by omega) ?_ ?_ ?_ _ rfl ?_; exact HO2n.out _ (by (repeat (first | exact New.refl _ | apply New.alloc | apply New.aft | apply New.drew | refine New.setCell ?_ ?_ _)); all_goals (first | done | (simp [size_aft]; done) | (simp [size_aft]; omega))); (refine cells_new _ _ _ _ ?_); (simp [go_sem]); (intro u hu; simp at hu; rcases hu with rfl <;> rfl); (unfold maxLen; omega); omega; (simp [go_sem]; omega); intro g cap w4 hown4 hgrow4 hor4 hlt4; have HNN := Lib.hid (HZ.out _ _ (by (repeat (first | exact New.refl _ | apply New.alloc | apply New.aft | apply New.drew | refine New.setCell ?_ ?_ _)); all_goals (first | done | (simp [size_aft]; done) | (simp [size_aft]; omega))) hgrow4); have HO4 := Lib.hid hown4; clear hown4 hgrow4 hor4 hlt4)
            go_roundw
            case rel => exact ⟨k + 1, by omega, by go_num, by rw [HSN.out, HALL.out, HV.out]; rfl, by rw [HCS.out]; exact HO4.out, .inr ⟨_, _, rfl⟩, HNN.out⟩
            case measure => simp [intOf]; omega
        · obtain rfl : k = m := by omega
          have hk1 : ¬ (k : Int) < (k : Int) := by omega
          have HRR := Lib.hid (show R = if once (tN T) k = false then 6 else 0 by rw [HR.out, HALL.out]; rfl)
          obtain ⟨g, cap, rfl⟩ : ∃ g cap, u3 = .slice (some ⟨g, 0, none⟩) k cap := HSL.out.resolve_left (by omega)
          have HCP := Lib.hid (own_capV HOW.out)
          go_wp2_with fail
          go_at_call 79
          refine (HTW.out g 0 k cap (tN T) _ (by omega) HCP.out ⟨(own_lt HOW.out), fun i hi' => by rw [Nat.zero_add]; exact (own_cell HOW.out (nmC_at T k i hi')).1⟩).mono ?_
          rintro e w2 ⟨rfl, hn2⟩
          have HN2 := Lib.hid (HNW.out.trans hn2)
          clear hn2
          generalize once (tN T) k = q at *
          cases q
          · have HF := Lib.hid (show (6 : Int) = R by rw [HRR.out]; rfl)
            go_wp2_with fail
            all_goals (go_ret; exact ⟨ret_int HF.out, HN2.out⟩)
          · have HF := Lib.hid (show (0 : Int) = R by rw [HRR.out]; rfl)
            go_wp2_with fail
            all_goals (go_ret; exact ⟨ret_int HF.out, HN2.out⟩)

end Go.Proofs.Ytpjekinmcdglbaa
end

section
set_option linter.unusedSimpArgs false
set_option linter.unusedVariables false
set_option maxRecDepth 100000
namespace Go.Proofs.Ytpjekinmcdglbaa
open Go.RowKit

theorem tint_info : (Try.prog.info? 59).map (fun i => (i.zero, i.size, i.bytes)) = some (some (.agg #[.string ByteArray.empty, .int .i64 0, .int .i64 0, .int .i64 0, .int .i64 0]), 5, 48) := by kernel_rfl
def tc5 (x : T5) : List Value := [.string x.1, .int .i64 x.2.1, .int .i64 x.2.2.1, .int .i64 x.2.2.2.1, .int .i64 x.2.2.2.2]
def tnCells : List T5 → List Value
  | [] => []
  | x :: l => tc5 x ++ tnCells l
theorem tnCells_length : ∀ l : List T5, (tnCells l).length = l.length * 5
  | [] => rfl
  | x :: l => by simp only [tnCells, List.length_append, tnCells_length l, List.length_cons]; simp [tc5]; omega
theorem tnCells_append : ∀ l k : List T5, tnCells (l ++ k) = tnCells l ++ tnCells k
  | [], k => rfl
  | x :: l, k => by simp only [List.cons_append, tnCells, tnCells_append l k, List.append_assoc]
theorem tnCells_one : ∀ (l : List T5) (u : Value), u ∈ tnCells l → u.oneCell' = true
  | [], u, h => by cases h
  | x :: l, u, h => by
    simp only [tnCells, List.mem_append, tc5, List.mem_cons, List.not_mem_nil, or_false] at h
    rcases h with (rfl | rfl | rfl | rfl | rfl) | h
    · rfl
    · rfl
    · rfl
    · rfl
    · rfl
    · exact tnCells_one l u h
theorem tnCells_at : ∀ (l : List T5) (i : Nat), i < l.length → ((tnCells l)[i * 5]? = some (.string (tN l i)) ∧ (tnCells l)[i * 5 + 1]? = some (.int .i64 (tA l i)) ∧ (tnCells l)[i * 5 + 2]? = some (.int .i64 (tB l i))) ∧ (tnCells l)[i * 5 + 3]? = some (.int .i64 (tC l i)) ∧ (tnCells l)[i * 5 + 4]? = some (.int .i64 (tP l i))
  | [], i, h => by simp at h
  | y :: l, 0, _ => by simp [tnCells, tc5, tN, tA, tB, tC, tP]
  | y :: l, i + 1, h => by
    have ih := tnCells_at l i (by simpa using h)
    have e : ∀ r, (tnCells (y :: l))[(i + 1) * 5 + r]? = (tnCells l)[i * 5 + r]? := fun r => by
      rw [show (i + 1) * 5 + r = 5 + (i * 5 + r) by omega]
      simp only [tnCells]
      rw [List.getElem?_append_right (by simp [tc5])]
      congr 1
      simp [tc5]
    have e0 := e 0
    simp only [Nat.add_zero] at e0
    rw [e0, e 1, e 2, e 3, e 4]
    exact ih
theorem tnts_news {W : World} {b off m : Nat} {T : List T5} (h : Tnts W b off m T) : ∀ j u, (tnCells T)[j]? = some u → W.cell? ((⟨b, off, none⟩ : Addr).add j) = some u := by
  intro j u hu
  have hj : j < (tnCells T).length := by
    rcases Nat.lt_or_ge j (tnCells T).length with h | h
    · exact h
    · rw [List.getElem?_eq_none h] at hu; cases hu
  rw [tnCells_length, h.1] at hj
  obtain ⟨⟨k0, k1, k2⟩, k3, k4⟩ := tnCells_at T (j / 5) (by rw [h.1]; omega)
  obtain ⟨⟨c0, c1, c2⟩, c3, c4⟩ := h.2.2 (j / 5) (by omega)
  have hadd : (⟨b, off, none⟩ : Addr).add j = ⟨b, off + j, none⟩ := by rw [Addr.add_mid]
  rw [hadd]
  have h5 : j % 5 = 0 ∨ j % 5 = 1 ∨ j % 5 = 2 ∨ j % 5 = 3 ∨ j % 5 = 4 := by omega
  rcases h5 with h5 | h5 | h5 | h5 | h5
  · rw [show j = j / 5 * 5 by omega] at hu ⊢; rw [k0] at hu; rw [← hu]; exact c0
  · rw [show j = j / 5 * 5 + 1 by omega] at hu ⊢; rw [k1] at hu; rw [← hu]; exact c1
  · rw [show j = j / 5 * 5 + 2 by omega] at hu ⊢; rw [k2] at hu; rw [← hu]; exact c2
  · rw [show j = j / 5 * 5 + 3 by omega] at hu ⊢; rw [k3] at hu; rw [← hu]; exact c3
  · rw [show j = j / 5 * 5 + 4 by omega] at hu ⊢; rw [k4] at hu; rw [← hu]; exact c4
theorem tnts_own {W : World} {base g cap n : Nat} {T : List T5} (hn : T.length = n) (h : W.ownsRow base 59 5 (.slice (some ⟨g, 0, none⟩) n cap) n (tnCells T)) : Tnts W g 0 n T :=
  ⟨hn, own_lt h, fun i hi => by
    obtain ⟨⟨k0, k1, k2⟩, k3, k4⟩ := tnCells_at T i (by omega)
    rw [Nat.zero_add]
    exact ⟨⟨(own_cell h k0).1, (own_cell h k1).1, (own_cell h k2).1⟩, (own_cell h k3).1, (own_cell h k4).1⟩⟩
theorem own_le {w : World} {base e size n g cap : Nat} {xs : List Value} (h : w.ownsRow base e size (.slice (some ⟨g, 0, none⟩) n cap) n xs) (hg : g < w.heap.size) : base ≤ w.heap.size := by
  have := (h.lt g rfl).1; omega
theorem own_noneT {W : World} {base g : Nat} (hg : g = W.heap.size) (hb : base ≤ W.heap.size) : (W.alloc (.cells #[] 59)).ownsRow base 59 5 (.slice (some ⟨g, 0, none⟩) 0 0) 0 (tnCells []) := by
  subst hg
  exact own_mk (by simp [tnCells]) hb (heap_alloc_new _ _) (Nat.le_refl _) (by unfold maxLen; omega) (by simp) (by simp [tnCells])
theorem grown_cell {X w4 : World} {row : Option Nat} (h : X.grownBy w4 row) {k : Nat} (hk : k < X.heap.size) (hne : some k ≠ row) : ∀ o, w4.cell? ⟨k, o, none⟩ = X.cell? ⟨k, o, none⟩ := fun o => by
  simp only [World.cell?, h.block k hk hne]
theorem news_new {X0 X : World} (hn : New X0 X) {H : Nat} (hk : H < X0.heap.size) {cs : List Value} (hc : ∀ j u, cs[j]? = some u → X0.cell? ((⟨H, 0, none⟩ : Addr).add j) = some u) : ∀ j u, cs[j]? = some u → X.cell? ((⟨H, 0, none⟩ : Addr).add j) = some u := by
  intro j u hu
  have hadd : (⟨H, 0, none⟩ : Addr).add j = ⟨H, j, none⟩ := by unfold Addr.add; split <;> simp_all
  have := hc j u hu
  rw [hadd] at this ⊢
  rw [← this]; exact hn.below.cell (p := ⟨H, j, none⟩) hk
theorem grown_news {X w4 : World} {row : Option Nat} (h : X.grownBy w4 row) {H : Nat} (hk : H < X.heap.size) (hne : some H ≠ row) {cs : List Value} (hc : ∀ j u, cs[j]? = some u → X.cell? ((⟨H, 0, none⟩ : Addr).add j) = some u) : ∀ j u, cs[j]? = some u → w4.cell? ((⟨H, 0, none⟩ : Addr).add j) = some u := by
  intro j u hu
  have hadd : (⟨H, 0, none⟩ : Addr).add j = ⟨H, j, none⟩ := by unfold Addr.add; split <;> simp_all
  have := hc j u hu
  rw [hadd] at this ⊢
  rw [← this]; exact grown_cell h hk hne j
/-- append of tints to a row of the call's own, as a step of a region that draws -/
theorem step_copyT {ops : Array Oper} {o : Oper} {a : Act} {w : World} {K : Act → World → Prop} {Q : Exit → Act → World → Prop} {E : Prop} (hgd : o.guard = none) (s x : Operand) (ho : o.op = .call { callee := .builtin .append, args := #[s, x], argTypes := #[22, 22] })
    (base : Nat) (v : Value) (k : Nat) (xs : List T5) (hs : a.eval s = v) (hown : w.ownsRow base 59 5 v k (tnCells xs)) (ad : Addr) (m c : Nat) (news : List T5) (hx : a.eval x = .slice (some ad) m c) (hl : news.length = m)
    (hnews : ∀ j u, (tnCells news)[j]? = some u → w.cell? (ad.add j) = some u) (hm : 0 < m) (h63 : k + m ≤ 1000) (hbase : base ≤ w.heap.size)
    (h : ∀ g cap w', w'.ownsRow base 59 5 (.slice (some ⟨g, 0, none⟩) (k + m) cap) (k + m) (tnCells (xs ++ news)) → w.grownBy w' v.ownBlock → (v.ownBlock = some g ∨ g = w.heap.size) → g < w'.heap.size → K (a.put o.dst (.slice (some ⟨g, 0, none⟩) (k + m) cap)) w') :
    if Region.wanted o (yielded ops a.tmps) = true then Oper.wp Try.prog o a w K Q else E := by
  obtain ⟨i0, hi, hz0, hz1, hz2⟩ := info_parts tint_info
  refine step_append_lies _ hgd s x 22 ho base 59 i0 _ 5 48 Try.underlying22 hi hz0 hz1 hz2 rfl (by omega) v k (tnCells xs) hs hown ad m c (tnCells news) hx (by rw [tnCells_length, hl]) hnews (tnCells_one _) hm (by unfold maxLen; omega) (by omega) hbase _ rfl ?_
  intro g cap w' h1 h2 h3 h4
  rw [← tnCells_append] at h1
  exact h g cap w' h1 h2 h3 h4

end Go.Proofs.Ytpjekinmcdglbaa
end
