/- KeepDisk returns true for every input, and its arguments read afterwards as before: the given statement, without a condition. -/
import Derived.Test.YtcamcmcopkclfaaRows
import Derived.Test.YtcamcmcopkclfaaRh
import Derived.WalkKit
import Derived.ProofKit
import Derived.OpenShut
import Derived.ShutString
import Derived.ChangeOld
import Derived.Below
import Derived.Deep.Slices
import Derived.Deep.Strs
set_option linter.unusedSimpArgs false
set_option linter.unusedVariables false
namespace Go.Proofs.Ytcamcmcopkclfaa
open Go.ChangeShapes Go.WideShapes Go.ChangeAt Go.RowKit Go.Deep
set_option maxRecDepth 100000

theorem own_knob : ownKnob Try.prog.godebug = none := by kernel_rfl
theorem laid_out : laidOutB Try.prog = true := by kernel_rfl


/-- WHAT THE WALK IS TOLD OF A SLICE OF INTEGERS THAT CAME IN: it is nil; or it leads to a row of 'cap' cells, the numbers 'zs' (the first 'len' are its elements, the rest its spare room), each fitting its kind. -/
def IsRowD (k : IntKind) (w : World) (a : Option Addr) (len cap : Nat) (zs : List Int) : Prop :=
  (a = none ∧ len = 0 ∧ cap = 0 ∧ zs = []) ∨
  ∃ x, a = some x ∧ len ≤ cap ∧ cap ≤ maxLen ∧ zs.length = cap ∧ (∀ i, i < zs.length → w.cell? (x.add i) = some (.int k (zs.getD i 0))) ∧ ∀ n ∈ zs, (Lit.int k n).wf = true

theorem IsRowD.argB {w : World} {a : Option Addr} {len cap : Nat} {zs : List Int} (h : IsRowD .u8 w a len cap zs) : ∃ b : List UInt8, b.length = len ∧ ArgB w (.slice a len cap) b := by
  rcases h with ⟨rfl, rfl, rfl, rfl⟩ | ⟨x, rfl, hl, hm, hz, hc, hw⟩
  · exact ⟨[], rfl, none, 0, rfl, fun h => absurd h (by simp)⟩
  · have hbl : ((zs.take len).map fun n => UInt8.ofNat n.toNat).length = len := by simp; omega
    refine ⟨(zs.take len).map fun n => UInt8.ofNat n.toNat, hbl, some x, cap, by rw [hbl], fun hp => ?_⟩
    obtain ⟨b, o, sp⟩ := x
    have h0 := hc 0 (by rw [hbl] at hp; omega)
    have hsp : sp = none := by simpa [Addr.add] using World.cell?_spot h0
    subst hsp
    refine ⟨b, o, rfl, fun j v hv => ?_⟩
    have hj : j < len := by
      have := (List.getElem?_eq_some_iff.1 hv).1
      rw [bV_length, hbl] at this; exact this
    have hcj := hc j (by omega)
    rw [Addr.add_mid] at hcj
    rw [hcj]
    have hwf := hw (zs.getD j 0) (by simp [List.getD, List.getElem?_eq_getElem (show j < zs.length by omega)])
    have hr : 0 ≤ zs.getD j 0 ∧ zs.getD j 0 < 256 := by
      simp [Lit.wf, IntKind.min, IntKind.max, IntKind.signed, IntKind.bits] at hwf
      simp [List.getD] at hwf ⊢
      omega
    simp only [bV, List.map_map, List.getElem?_map, List.getElem?_take_of_lt hj, List.getElem?_eq_getElem (show j < zs.length by omega), Option.map_some, Option.some.injEq, Function.comp] at hv
    rw [← hv]
    have e : zs.getD j 0 = zs[j] := by simp [List.getD, List.getElem?_eq_getElem (show j < zs.length by omega)]
    rw [e] at hr ⊢
    congr 2
    simp [UInt8.toNat_ofNat']
    omega

theorem IsRowD.argI {w : World} {a : Option Addr} {len cap : Nat} {zs : List Int} (h : IsRowD .i64 w a len cap zs) : ∃ ks : List Int, ks.length = len ∧ ArgI w (.slice a len cap) ks := by
  rcases h with ⟨rfl, rfl, rfl, rfl⟩ | ⟨x, rfl, hl, hm, hz, hc, hw⟩
  · exact ⟨[], rfl, none, 0, rfl, fun h => absurd h (by simp)⟩
  · have hbl : (zs.take len).length = len := by simp; omega
    refine ⟨zs.take len, hbl, some x, cap, by rw [hbl], fun hp => ?_⟩
    obtain ⟨b, o, sp⟩ := x
    have h0 := hc 0 (by rw [hbl] at hp; omega)
    have hsp : sp = none := by simpa [Addr.add] using World.cell?_spot h0
    subst hsp
    refine ⟨b, o, rfl, fun j v hv => ?_⟩
    have hj : j < len := by
      have := (List.getElem?_eq_some_iff.1 hv).1
      rw [List.length_map, hbl] at this; exact this
    have hcj := hc j (by omega)
    rw [Addr.add_mid] at hcj
    rw [hcj]
    simp only [List.getElem?_map, List.getElem?_take_of_lt hj, List.getElem?_eq_getElem (show j < zs.length by omega), Option.map_some, Option.some.injEq] at hv
    rw [← hv]
    simp [List.getD, List.getElem?_eq_getElem (show j < zs.length by omega)]

section
variable {H : Type} {enc : TypeId × Value → H} {W : World} {base b0 fuel : Nat} {spare : Nat → Bool} {held : Bool} {v : Value} {d : DataW H} {p : List MemPlace}
theorem cells_u8 : Try.prog.cellsOf 5 = 1 := by kernel_rfl
theorem cells_int : Try.prog.cellsOf 3 = 1 := by kernel_rfl
theorem cells_bytes : Try.prog.cellsOf 33 = 1 := by kernel_rfl
theorem cells_ints : Try.prog.cellsOf 34 = 1 := by kernel_rfl
theorem cells_op : Try.prog.cellsOf 36 = 5 := by kernel_rfl
theorem row_of {k : IntKind} {t e : TypeId} {x : DataW H × List MemPlace} (ht : Try.prog.underlying t = some (.slice e)) (he : Try.prog.underlying e = some (.int k)) (hc : Try.prog.cellsOf e = 1) (h : DataW.trod enc Try.prog W base spare held fuel t [v] = some x) (hsp : ∀ n, spare n = true) :
    ∃ a len cap zs, v = .slice a len cap ∧ len ≤ 9223372036854775807 ∧ IsRowD k W a len cap zs := by
  rcases open_ints ht he hc h with ⟨hcs, _⟩ | ⟨x, l, c, zs, hcs, _, hl, hm, hz, _, hcell, hwz⟩
  · simp only [List.cons.injEq, and_true] at hcs
    subst hcs
    exact ⟨none, 0, 0, [], rfl, by omega, .inl ⟨rfl, rfl, rfl, rfl⟩⟩
  · simp only [List.cons.injEq, and_true] at hcs
    subst hcs
    refine ⟨some x, l, c, zs, rfl, by unfold maxLen at hm; omega, .inr ⟨_, rfl, hl, hm, by simpa [hsp] using hz, hcell, hwz⟩⟩
theorem list_5 {cs : List Value} (h : cs.length = 5) : ∃ a b c d e, cs = [a, b, c, d, e] := by
  match cs, h with
  | [a, b, c, d, e], _ => exact ⟨a, b, c, d, e, rfl⟩
theorem trod_struct5 {P : Program} {t : TypeId} {f0 f1 f2 f3 f4 : Field} {cs : List Value} {x : DataW H × List MemPlace} (ht : P.underlying t = some (.struct #[f0, f1, f2, f3, f4])) (h : DataW.trod enc P W base spare held fuel t cs = some x) :
    ∃ y0 y1 y2 y3 y4 n, cs.length = P.cellsOf t ∧ DataW.trod enc P W base spare held n f0.type ((cs.drop f0.offset).take (P.cellsOf f0.type)) = some y0 ∧
      DataW.trod enc P W base spare held n f1.type ((cs.drop f1.offset).take (P.cellsOf f1.type)) = some y1 ∧ DataW.trod enc P W base spare held n f2.type ((cs.drop f2.offset).take (P.cellsOf f2.type)) = some y2 ∧
      DataW.trod enc P W base spare held n f3.type ((cs.drop f3.offset).take (P.cellsOf f3.type)) = some y3 ∧ DataW.trod enc P W base spare held n f4.type ((cs.drop f4.offset).take (P.cellsOf f4.type)) = some y4 := by
  obtain ⟨xs, n, _, rfl, hl, hlen, hf⟩ := DataW.trod_struct ht h
  match xs, hlen with
  | [y0, y1, y2, y3, y4], _ => exact ⟨y0, y1, y2, y3, y4, n, hl, by simpa using hf 0 f0 rfl, by simpa using hf 1 f1 rfl, by simpa using hf 2 f2 rfl, by simpa using hf 3 f3 rfl, by simpa using hf 4 f4 rfl⟩
instance : Inhabited OpA := ⟨⟨0, 0, 0, .bool false, .bool false, [], []⟩⟩
theorem op_trod {cs : List Value} {x : DataW H × List MemPlace} (h : DataW.trod enc Try.prog W base spare held fuel 36 cs = some x) (hsp : ∀ n, spare n = true) :
    ∃ q : OpA, cs = [.int .u8 q.kind, .int .i64 q.sec, q.dv, .int .i64 q.nn, q.kv] ∧ ArgB W q.dv q.b ∧ ArgI W q.kv q.ks ∧ 0 ≤ q.kind ∧ q.kind ≤ 255 ∧ q.nn ≤ 9223372036854775807 ∧ q.b.length ≤ 9223372036854775807 ∧ q.ks.length ≤ 9223372036854775807 := by
  obtain ⟨y0, y1, y2, y3, y4, n, hl, h0, h1, h2, h3, h4⟩ := trod_struct5 Try.underlying36 h
  rw [cells_op] at hl
  obtain ⟨c0, c1, c2, c3, c4, rfl⟩ := list_5 hl
  simp only [cells_u8, cells_int, cells_bytes, cells_ints, List.drop, List.take] at h0 h1 h2 h3 h4
  obtain ⟨k, e0, _, w0⟩ := DataW.trod_int Try.underlying5 h0
  obtain ⟨s, e1, _⟩ := DataW.trod_int Try.underlying3 h1
  obtain ⟨nn, e3, _, w3⟩ := DataW.trod_int Try.underlying3 h3
  simp only [List.cons.injEq, and_true] at e0 e1 e3
  subst e0; subst e1; subst e3
  obtain ⟨a2, l2, k2, z2, rfl, m2, r2⟩ := row_of Try.underlying33 Try.underlying5 cells_u8 h2 hsp
  obtain ⟨a4, l4, k4, z4, rfl, m4, r4⟩ := row_of Try.underlying34 Try.underlying3 cells_int h4 hsp
  obtain ⟨b, hb, ab⟩ := r2.argB
  obtain ⟨ks, hk, ak⟩ := r4.argI
  refine ⟨⟨k, s, nn, _, _, b, ks⟩, rfl, ab, ak, ?_, ?_, ?_, by show b.length ≤ _; omega, by show ks.length ≤ _; omega⟩
  · simp [Lit.wf, IntKind.min, IntKind.max, IntKind.signed, IntKind.bits] at w0; exact w0.1
  · simp [Lit.wf, IntKind.min, IntKind.max, IntKind.signed, IntKind.bits] at w0; exact w0.2
  · simp [Lit.wf, IntKind.min, IntKind.max, IntKind.signed, IntKind.bits] at w3; show nn ≤ _; omega
theorem open_ops (hv : Value.okWide Try.prog W .any b0 22 v) (h : DataW.Trod enc Try.prog W base spare held 22 v d p) (hsp : ∀ n, spare n = true) : ∃ l, OpsA W v l := by
  obtain ⟨av, n, cap, rfl⟩ := okWide_slice Try.underlying22 hv
  obtain ⟨fuel, hf⟩ := h
  rcases open_slice Try.underlying22 hf with ⟨hcs, _⟩ | ⟨a, len, cap', m, n', D, Pl, hcs, _, hlc, hmx, hm, hx, hi⟩
  · simp only [Value.cells, List.cons.injEq, Value.slice.injEq, and_true] at hcs
    obtain ⟨rfl, rfl, rfl⟩ := hcs
    exact ⟨[], none, 0, rfl, by simp, fun h => absurd h (by simp)⟩
  · simp only [Value.cells, List.cons.injEq, Value.slice.injEq, and_true] at hcs
    obtain ⟨rfl, rfl, rfl⟩ := hcs
    have hnm : n ≤ m := by rw [hm]; split <;> omega
    have hq : ∀ i, i < n → ∃ q : OpA, (W.cell? (a.add (i * 5)) = some (.int .u8 q.kind) ∧ W.cell? (a.add (i * 5 + 1)) = some (.int .i64 q.sec) ∧ W.cell? (a.add (i * 5 + 2)) = some q.dv ∧ W.cell? (a.add (i * 5 + 3)) = some (.int .i64 q.nn) ∧ W.cell? (a.add (i * 5 + 4)) = some q.kv) ∧ ArgB W q.dv q.b ∧ ArgI W q.kv q.ks ∧ 0 ≤ q.kind ∧ q.kind ≤ 255 ∧ q.nn ≤ 9223372036854775807 ∧ q.b.length ≤ 9223372036854775807 ∧ q.ks.length ≤ 9223372036854775807 := fun i hi' => by
      obtain ⟨cs', hc, ht⟩ := hi i (by omega)
      rw [cells_op] at hc
      obtain ⟨q, rfl, hr⟩ := op_trod ht hsp
      obtain ⟨_, _, hat⟩ := World.cells?_some hc
      have g0 := hat 0 (by omega)
      have g1 := hat 1 (by omega)
      have g2 := hat 2 (by omega)
      have g3 := hat 3 (by omega)
      have g4 := hat 4 (by omega)
      rw [add_add] at g0 g1 g2 g3 g4
      exact ⟨q, ⟨by simpa using g0, by simpa using g1, by simpa using g2, by simpa using g3, by simpa using g4⟩, hr⟩
    obtain ⟨q, hq⟩ := choose_lt hq
    refine ⟨(List.range n).map q, some a, cap, by simp, by simp; unfold maxLen at hmx; omega, fun h0 => ?_⟩
    have h0' : 0 < n := by simpa using h0
    obtain ⟨b, off, spot⟩ := a
    have hspot : spot = none := by simpa [Addr.add] using World.cell?_spot (hq 0 h0').1.1
    subst hspot
    refine ⟨b, off, rfl, fun i hi' => ?_⟩
    have hin : i < n := by simpa using hi'
    obtain ⟨⟨k0, k1, k2, k3, k4⟩, r⟩ := hq i hin
    rw [Addr.add_mid] at k0 k1 k2 k3 k4
    have e : ((List.range n).map q)[i] = q i := by simp
    rw [e]
    exact ⟨k0, k1, k2, k3, k4, r.1, r.2.1, r.2.2.1, r.2.2.2.1, r.2.2.2.2.1, r.2.2.2.2.2.1, r.2.2.2.2.2.2⟩
end

set_option maxRecDepth 100000 in
theorem disk_lifted (os : Os) (started : os.Started) (H : Type) (enc : TypeId × Value → H) :
    ReturnsInHanded {} Try.checked os 3 .any (Rows.keepDiskSpec.pre6 enc Try.prog Try.f3 Rows.keepDiskRow.domain false) (Rows.keepDiskSpec.post enc Try.prog Try.f3 false true false false) := by
  refine returnsInHanded_of_change (C := Try.checked) own_knob started (by kernel_rfl) Try.func3
    (ChangeSpec.witness6 (enc := enc) (C := Try.checked) false ⟨#[], #[.int .i64 0, .slice none 0 0], []⟩ 8 (by kernel_rfl) (by kernel_rfl) (by kernel_rfl) (by kernel_rfl)) ?_
  intro W base args ds gs before hval0 hW hcnd _
  have hval : ∀ (j : Nat) t v, Try.f3.params[j]? = some t → args[j]? = some v → Value.okWide Try.prog W .any base t v := hval0
  have hW' := hW
  obtain ⟨p, q, hA0, hV, rfl, hfz, hnd⟩ := hW
  have hA : DataW.TrodAll enc Try.prog W 0 (fun _ => true) true Try.f3.params.toList args.toList ds p := hA0
  rw [Try.params3] at hA hval
  obtain ⟨v0, vs0, d0, ds0, p0, q0, hargs, rfl, rfl, h0, r0⟩ := trodAll_cons hA
  obtain ⟨v1, vs1, d1, ds1, p1, q1, rfl, rfl, rfl, h1, r1⟩ := trodAll_cons r0
  obtain ⟨rfl, rfl, rfl⟩ := trodAll_nil r1
  obtain rfl : args = #[v0, v1] := by cases args; simp_all
  obtain ⟨rfl, rfl⟩ := trodVars_none hV
  obtain ⟨a0, rfl, rfl, rfl, w0⟩ := open_int Try.underlying3 (hval 0 3 v0 rfl rfl) h0
  have k1 := h1
  have lt1 : ∀ x ∈ p1, x.block < W.heap.size := by obtain ⟨m, hm⟩ := k1; exact DataW.trod_lt m _ _ _ hm
  obtain ⟨l, hops⟩ := open_ops (hval 1 22 v1 rfl rfl) h1 (fun _ => rfl)
  clear hA0 hval0
  refine (law_c a0 hops).mono fun e W' ⟨he, hn⟩ => ?_
  have bel := hn.below
  subst he
  exact ⟨_, rfl, _, _, _, [], _, [], hW', trodAll_mk1 (shut_bool Try.underlying4 _), (trodAll_cons_mk (shut_int Try.underlying3 w0) (trodAll_cons_mk (Below.trod laid_out (by kernel_rfl) (of_decide_eq_true (by kernel_rfl)) k1 bel lt1) trodAll_mk0)), rfl, bel.frame _, fun h => by cases h⟩

theorem disk_over : Rows.keepDiskRow.holds Try.pinned (OpenSpec.ofChange Rows.keepDiskSpec) :=
  OpenClaim.holds_of_wide 3 Try.f3 rfl rfl rfl rfl rfl rfl rfl ⟨rfl, rfl, rfl, rfl, rfl⟩ rfl rfl rfl rfl rfl (by kernel_rfl) Try.func3 (by kernel_rfl)
    (of_decide_eq_true (by kernel_rfl)) (by unfold Func.isWrapper; first | (rw [if_pos (by decide +kernel)]; kernel_rfl) | (rw [if_neg (by decide +kernel)]; exact ⟨rfl, rfl⟩))
    (fun os started H enc _ => disk_lifted os started H enc)

/-- KeepDisk, as it is given -/
theorem keepDisk_proved : Rows.KeepDiskSaid := disk_over
end Go.Proofs.Ytcamcmcopkclfaa
