/- The disk: Crash: what it leaves, in lists; the laws of its copies. -/
import Derived.Test.YtcamcmcopkclfaaKf
set_option linter.unusedSimpArgs false
set_option linter.unusedVariables false
set_option maxRecDepth 100000
namespace Go.Proofs.Ytcamcmcopkclfaa
open Go.RowKit

theorem spl_back (L : List UInt8) (a : Nat) (c : List UInt8) (hc : c.length = 64) (hl : (a + 1) * 64 ≤ L.length) : spl (spl L (a * 64) c) (a * 64) (sect L a) = L := by
  have hs := sect_length L a hl
  unfold spl
  rw [hc, hs]
  have e1 : (L.take (a * 64) ++ c ++ L.drop (a * 64 + 64)).take (a * 64) = L.take (a * 64) := by
    rw [List.append_assoc, List.take_append_of_le_length (by simp; omega), List.take_of_length_le (by simp; omega)]
  have e2 : (L.take (a * 64) ++ c ++ L.drop (a * 64 + 64)).drop (a * 64 + 64) = L.drop (a * 64 + 64) := by
    rw [List.drop_append_of_le_length (by simp; omega), List.drop_eq_nil_of_le (by simp; omega)]; simp
  rw [e1, e2]
  unfold sect
  rw [show a * 64 + 64 = a * 64 + 64 from rfl, ← List.drop_drop, List.append_assoc, List.take_append_drop, List.take_append_drop]

theorem cur_take_succ (d : List UInt8) (p : List (Nat × List UInt8)) (k : Nat) (hk : k < p.length) : cur d (p.take (k + 1)) = spl (cur d (p.take k)) (p[k].1 * 64) p[k].2 := by
  rw [List.take_succ_eq_append_getElem hk, cur_snoc]
theorem okPd_take {n : Nat} {p : List (Nat × List UInt8)} (h : okPd n p) (k : Nat) : okPd n (p.take k) := fun q hq => h q (List.mem_of_mem_take hq)
theorem cur_undo {n : Nat} {d : List UInt8} {p : List (Nat × List UInt8)} (hd : d.length = n * 64) (h : okPd n p) (k : Nat) (hk : k < p.length) : spl (cur d (p.take (k + 1))) (p[k].1 * 64) (sect (cur d (p.take k)) p[k].1) = cur d (p.take k) := by
  have hq := h p[k] (List.getElem_mem hk)
  have hl := cur_length hd (okPd_take h k)
  rw [cur_take_succ d p k hk, spl_back _ _ _ hq.2 (by rw [hl]; omega)]

theorem pcell_length (L : List UInt8) (q : Nat × List UInt8) (h : (q.1 + 1) * 64 ≤ L.length) (hq : q.2.length = 64) : (pcell L q).length = 129 := by
  simp [pcell, sect_length L q.1 h, hq]
/-- the cells of the k-th pending write -/
theorem pcells_at {n : Nat} : ∀ {p : List (Nat × List UInt8)} {d : List UInt8}, d.length = n * 64 → okPd n p → ∀ k (hk : k < p.length), ((pcells d p).drop (k * 129)).take 129 = pcell (cur d (p.take k)) p[k] := by
  intro p
  induction p with
  | nil => intro d _ _ k hk; simp at hk
  | cons q r ih =>
    intro d hd h k hk
    have hq := h q (by simp)
    have hpl := pcell_length d q (by rw [hd]; omega) hq.2
    have hd' : (spl d (q.1 * 64) q.2).length = n * 64 := by rw [spl_length _ _ _ (by omega), hd]
    unfold pcells
    cases k with
    | zero => rw [Nat.zero_mul, List.drop_zero, List.take_append_of_le_length (by omega), List.take_of_length_le (by omega)]; rfl
    | succ k =>
      rw [List.drop_append, List.drop_eq_nil_of_le (by omega), List.nil_append, hpl, show (k + 1) * 129 - 129 = k * 129 by omega]
      rw [ih hd' (fun x hx => h x (by simp [hx])) k (by simp at hk; omega)]
      rfl

/-- how many bytes of the k-th pending write stay -/
def keepN (ks : List Int) (k : Nat) : Nat := if k < ks.length then (min (max (ks.getD k 0) 0) 64).toNat else 0
theorem keepN_le (ks : List Int) (k : Nat) : keepN ks k ≤ 64 := by unfold keepN; split <;> omega
/-- what lies on the disk after the first k pending writes of a crash -/
def crI (d : List UInt8) (p : List (Nat × List UInt8)) (ks : List Int) : Nat → List UInt8
  | 0 => d
  | k + 1 => match p[k]? with
    | some q => spl (crI d p ks k) (q.1 * 64) (q.2.take (keepN ks k))
    | none => crI d p ks k
theorem crI_length {n : Nat} {d : List UInt8} {p : List (Nat × List UInt8)} (ks : List Int) (hd : d.length = n * 64) (h : okPd n p) : ∀ k, (crI d p ks k).length = n * 64
  | 0 => hd
  | k + 1 => by
    have ih := crI_length ks hd h k
    unfold crI
    split
    · rename_i q hq
      have hm := h q (List.mem_of_getElem? hq)
      rw [spl_length _ _ _ (by rw [List.length_take, ih]; omega), ih]
    · exact ih
def DS.crash (s : DS) (ks : List Int) : DS := { s with dur := crI s.dur s.pend ks s.pend.length, pend := [], down := false, stops := false }

/-- v reads the numbers ks, and lies apart from the disk's blocks -/
def Ks (w : World) (D S : Nat) (pv v : Value) (ks : List Int) : Prop :=
  ∃ ad cap, v = .slice ad ks.length cap ∧ (0 < ks.length → ∃ g o, ad = some ⟨g, o, none⟩ ∧ w.rangeAt g o (ks.map (Value.int .i64)) ∧ ¬ OD D S pv g)

theorem step_copy_mod {P : Program} {ops : Array Oper} {o : Oper} {a : Act} {w : World} {K : Act → World → Prop} {Q : Exit → Act → World → Prop} {E : Prop} (hgd : o.guard = none) (d s : Operand) (dT sT : TypeId)
    (ho : o.op = .call { callee := .builtin .copy, args := #[d, s], argTypes := #[dT, sT] }) (elem : TypeId) (hu : P.underlying dT = some (.slice elem)) (hsz : (P.info? elem).map (·.size) = some 1)
    (dp sp : Option Addr) (dLen dCap sLen sCap : Nat) (hd : a.eval d = .slice dp dLen dCap) (hs : a.eval s = .slice sp sLen sCap)
    (g off : Nat) (cur : List Value) (t : TypeId) (hg : w.heap[g]? = some (.cells cur.toArray t (0, 0))) (cs : List Value) (hn : cs.length = Nat.min sLen dLen)
    (hpos : 0 < cs.length → dp = some ⟨g, off, none⟩ ∧ ∃ ad, sp = some ad ∧ ∀ j v, cs[j]? = some v → w.cell? (ad.add j) = some v)
    (hfit : off + cs.length ≤ cur.length) (h1 : ∀ v ∈ cs, v.oneCell' = true)
    (h : ∀ w', Hid (w'.heap[g]? = some (.cells (splice cur off cs).toArray t (0, 0))) → Hid (Mod (fun k => k = g) w w') → K (a.put o.dst (goInt cs.length)) w') :
    if Region.wanted o (yielded ops a.tmps) = true then Oper.wp P o a w K Q else E := by
  have hw : Region.wanted o (yielded ops a.tmps) = true := by simp [Region.wanted, hgd]
  rw [if_pos hw]
  by_cases h0 : cs.length = 0
  · obtain rfl : cs = [] := List.eq_nil_of_length_eq_zero h0
    have hrun := run_copy_none (P := P) w dT sT o.type elem dp sp dLen dCap sLen sCap hu hsz (by simpa using hn.symm)
    unfold Oper.wp
    simp [execOp, ho, resolve, invoke, builtin, hd, hs, hrun, Result.andThen]
    exact h w (show _ = _ by simpa [splice] using hg) (Mod.refl _ _)
  · obtain ⟨rfl, ad, rfl, hsrc⟩ := hpos (by omega)
    have hrun := run_copy_row (P := P) w dT sT o.type elem g off dLen dCap ad sLen sCap cur.toArray t cs hu hsz hg hn hsrc (by simpa using hfit) h1
    unfold Oper.wp
    simp [execOp, ho, resolve, invoke, builtin, hd, hs, hrun, Result.andThen]
    exact h _ (show _ = _ by simpa [splice] using setRow_heap w g _ _ t _ hg) ⟨⟨rfl, rfl, rfl, by simp, fun k hk => by omega⟩, fun k hk hn => setRow_other w g k _ (fun e => hn e)⟩
end Go.Proofs.Ytcamcmcopkclfaa
