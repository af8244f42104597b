/- Tints in a row of the call's own: cells of tints, append of tints as a step of a region that draws. -/
import Derived.Test.YtpjekinmcdglbaaCf
import Derived.Test.YtpjekinmcdglbaaCt
import Derived.Deep.RegionHeld3
import Derived.Deep.RegionWith
import Derived.Deep.DeepCutAuto
import Derived.BigRegion
import Derived.Deep.AppendLies
import Derived.Deep.RegionLaw
set_option linter.unusedSimpArgs false
set_option linter.unusedVariables false
set_option maxRecDepth 100000
namespace Go.Proofs.Ytpjekinmcdglbaa
open Go.RowKit

theorem tint_info : (Try.prog.info? 59).map (fun i => (i.zero, i.size, i.bytes)) = some (some (.agg #[.string ByteArray.empty, .int .i64 0, .int .i64 0, .int .i64 0, .int .i64 0]), 5, 48) := by kernel_rfl
def tc5 (x : T5) : List Value := [.string x.1, .int .i64 x.2.1, .int .i64 x.2.2.1, .int .i64 x.2.2.2.1, .int .i64 x.2.2.2.2]
def tnCells : List T5 → List Value
  | [] => []
  | x :: l => tc5 x ++ tnCells l
theorem tnCells_length : ∀ l : List T5, (tnCells l).length = l.length * 5
  | [] => rfl
  | x :: l => by simp only [tnCells, List.length_append, tnCells_length l, List.length_cons]; simp [tc5]; omega
theorem tnCells_append : ∀ l k : List T5, tnCells (l ++ k) = tnCells l ++ tnCells k
  | [], k => rfl
  | x :: l, k => by simp only [List.cons_append, tnCells, tnCells_append l k, List.append_assoc]
theorem tnCells_one : ∀ (l : List T5) (u : Value), u ∈ tnCells l → u.oneCell' = true
  | [], u, h => by cases h
  | x :: l, u, h => by
    simp only [tnCells, List.mem_append, tc5, List.mem_cons, List.not_mem_nil, or_false] at h
    rcases h with (rfl | rfl | rfl | rfl | rfl) | h
    · rfl
    · rfl
    · rfl
    · rfl
    · rfl
    · exact tnCells_one l u h
theorem tnCells_at : ∀ (l : List T5) (i : Nat), i < l.length → ((tnCells l)[i * 5]? = some (.string (tN l i)) ∧ (tnCells l)[i * 5 + 1]? = some (.int .i64 (tA l i)) ∧ (tnCells l)[i * 5 + 2]? = some (.int .i64 (tB l i))) ∧ (tnCells l)[i * 5 + 3]? = some (.int .i64 (tC l i)) ∧ (tnCells l)[i * 5 + 4]? = some (.int .i64 (tP l i))
  | [], i, h => by simp at h
  | y :: l, 0, _ => by simp [tnCells, tc5, tN, tA, tB, tC, tP]
  | y :: l, i + 1, h => by
    have ih := tnCells_at l i (by simpa using h)
    have e : ∀ r, (tnCells (y :: l))[(i + 1) * 5 + r]? = (tnCells l)[i * 5 + r]? := fun r => by
      rw [show (i + 1) * 5 + r = 5 + (i * 5 + r) by omega]
      simp only [tnCells]
      rw [List.getElem?_append_right (by simp [tc5])]
      congr 1
      simp [tc5]
    have e0 := e 0
    simp only [Nat.add_zero] at e0
    rw [e0, e 1, e 2, e 3, e 4]
    exact ih
theorem tnts_news {W : World} {b off m : Nat} {T : List T5} (h : Tnts W b off m T) : ∀ j u, (tnCells T)[j]? = some u → W.cell? ((⟨b, off, none⟩ : Addr).add j) = some u := by
  intro j u hu
  have hj : j < (tnCells T).length := by
    rcases Nat.lt_or_ge j (tnCells T).length with h | h
    · exact h
    · rw [List.getElem?_eq_none h] at hu; cases hu
  rw [tnCells_length, h.1] at hj
  obtain ⟨⟨k0, k1, k2⟩, k3, k4⟩ := tnCells_at T (j / 5) (by rw [h.1]; omega)
  obtain ⟨⟨c0, c1, c2⟩, c3, c4⟩ := h.2.2 (j / 5) (by omega)
  have hadd : (⟨b, off, none⟩ : Addr).add j = ⟨b, off + j, none⟩ := by rw [Addr.add_mid]
  rw [hadd]
  have h5 : j % 5 = 0 ∨ j % 5 = 1 ∨ j % 5 = 2 ∨ j % 5 = 3 ∨ j % 5 = 4 := by omega
  rcases h5 with h5 | h5 | h5 | h5 | h5
  · rw [show j = j / 5 * 5 by omega] at hu ⊢; rw [k0] at hu; rw [← hu]; exact c0
  · rw [show j = j / 5 * 5 + 1 by omega] at hu ⊢; rw [k1] at hu; rw [← hu]; exact c1
  · rw [show j = j / 5 * 5 + 2 by omega] at hu ⊢; rw [k2] at hu; rw [← hu]; exact c2
  · rw [show j = j / 5 * 5 + 3 by omega] at hu ⊢; rw [k3] at hu; rw [← hu]; exact c3
  · rw [show j = j / 5 * 5 + 4 by omega] at hu ⊢; rw [k4] at hu; rw [← hu]; exact c4
theorem tnts_own {W : World} {base g cap n : Nat} {T : List T5} (hn : T.length = n) (h : W.ownsRow base 59 5 (.slice (some ⟨g, 0, none⟩) n cap) n (tnCells T)) : Tnts W g 0 n T :=
  ⟨hn, own_lt h, fun i hi => by
    obtain ⟨⟨k0, k1, k2⟩, k3, k4⟩ := tnCells_at T i (by omega)
    rw [Nat.zero_add]
    exact ⟨⟨(own_cell h k0).1, (own_cell h k1).1, (own_cell h k2).1⟩, (own_cell h k3).1, (own_cell h k4).1⟩⟩
theorem own_le {w : World} {base e size n g cap : Nat} {xs : List Value} (h : w.ownsRow base e size (.slice (some ⟨g, 0, none⟩) n cap) n xs) (hg : g < w.heap.size) : base ≤ w.heap.size := by
  have := (h.lt g rfl).1; omega
theorem own_noneT {W : World} {base g : Nat} (hg : g = W.heap.size) (hb : base ≤ W.heap.size) : (W.alloc (.cells #[] 59)).ownsRow base 59 5 (.slice (some ⟨g, 0, none⟩) 0 0) 0 (tnCells []) := by
  subst hg
  exact own_mk (by simp [tnCells]) hb (heap_alloc_new _ _) (Nat.le_refl _) (by unfold maxLen; omega) (by simp) (by simp [tnCells])
theorem grown_cell {X w4 : World} {row : Option Nat} (h : X.grownBy w4 row) {k : Nat} (hk : k < X.heap.size) (hne : some k ≠ row) : ∀ o, w4.cell? ⟨k, o, none⟩ = X.cell? ⟨k, o, none⟩ := fun o => by
  simp only [World.cell?, h.block k hk hne]
theorem news_new {X0 X : World} (hn : New X0 X) {H : Nat} (hk : H < X0.heap.size) {cs : List Value} (hc : ∀ j u, cs[j]? = some u → X0.cell? ((⟨H, 0, none⟩ : Addr).add j) = some u) : ∀ j u, cs[j]? = some u → X.cell? ((⟨H, 0, none⟩ : Addr).add j) = some u := by
  intro j u hu
  have hadd : (⟨H, 0, none⟩ : Addr).add j = ⟨H, j, none⟩ := by unfold Addr.add; split <;> simp_all
  have := hc j u hu
  rw [hadd] at this ⊢
  rw [← this]; exact hn.below.cell (p := ⟨H, j, none⟩) hk
theorem grown_news {X w4 : World} {row : Option Nat} (h : X.grownBy w4 row) {H : Nat} (hk : H < X.heap.size) (hne : some H ≠ row) {cs : List Value} (hc : ∀ j u, cs[j]? = some u → X.cell? ((⟨H, 0, none⟩ : Addr).add j) = some u) : ∀ j u, cs[j]? = some u → w4.cell? ((⟨H, 0, none⟩ : Addr).add j) = some u := by
  intro j u hu
  have hadd : (⟨H, 0, none⟩ : Addr).add j = ⟨H, j, none⟩ := by unfold Addr.add; split <;> simp_all
  have := hc j u hu
  rw [hadd] at this ⊢
  rw [← this]; exact grown_cell h hk hne j
/-- append of tints to a row of the call's own, as a step of a region that draws -/
theorem step_copyT {ops : Array Oper} {o : Oper} {a : Act} {w : World} {K : Act → World → Prop} {Q : Exit → Act → World → Prop} {E : Prop} (hgd : o.guard = none) (s x : Operand) (ho : o.op = .call { callee := .builtin .append, args := #[s, x], argTypes := #[22, 22] })
    (base : Nat) (v : Value) (k : Nat) (xs : List T5) (hs : a.eval s = v) (hown : w.ownsRow base 59 5 v k (tnCells xs)) (ad : Addr) (m c : Nat) (news : List T5) (hx : a.eval x = .slice (some ad) m c) (hl : news.length = m)
    (hnews : ∀ j u, (tnCells news)[j]? = some u → w.cell? (ad.add j) = some u) (hm : 0 < m) (h63 : k + m ≤ 1000) (hbase : base ≤ w.heap.size)
    (h : ∀ g cap w', w'.ownsRow base 59 5 (.slice (some ⟨g, 0, none⟩) (k + m) cap) (k + m) (tnCells (xs ++ news)) → w.grownBy w' v.ownBlock → (v.ownBlock = some g ∨ g = w.heap.size) → g < w'.heap.size → K (a.put o.dst (.slice (some ⟨g, 0, none⟩) (k + m) cap)) w') :
    if Region.wanted o (yielded ops a.tmps) = true then Oper.wp Try.prog o a w K Q else E := by
  obtain ⟨i0, hi, hz0, hz1, hz2⟩ := info_parts tint_info
  refine step_append_lies _ hgd s x 22 ho base 59 i0 _ 5 48 Try.underlying22 hi hz0 hz1 hz2 rfl (by omega) v k (tnCells xs) hs hown ad m c (tnCells news) hx (by rw [tnCells_length, hl]) hnews (tnCells_one _) hm (by unfold maxLen; omega) (by omega) hbase _ rfl ?_
  intro g cap w' h1 h2 h3 h4
  rw [← tnCells_append] at h1
  exact h g cap w' h1 h2 h3 h4

end Go.Proofs.Ytpjekinmcdglbaa
