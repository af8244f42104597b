/- The disk: Write, its first part. -/
import Derived.Test.YtcamcmcopkclfaaKb
import Derived.Test.YtcamcmcopkclfaaKc
set_option linter.unusedSimpArgs false
set_option linter.unusedVariables false
set_option maxRecDepth 100000
namespace Go.Proofs.Ytcamcmcopkclfaa
open Go.RowKit

def Z62 : Array Value := (.int .i64 0 :: bV (List.replicate 128 0)).toArray
theorem zero62 : (Try.prog.info? 62).map (·.zero) = some (some (.agg Z62)) := by kernel_rfl
theorem size62 : (Try.prog.info? 62).map (·.size) = some 129 := by kernel_rfl
theorem bytes62 : (Try.prog.info? 62).map (·.bytes) = some 136 := by kernel_rfl
theorem size60 : (Try.prog.info? 60).map (·.size) = some 64 := by kernel_rfl
theorem size5 : (Try.prog.info? 5).map (·.size) = some 1 := by kernel_rfl
noncomputable def flds : Option (List (Nat × Nat)) := match Try.prog.underlying 62 with
  | some (.struct fields) => fields.toList.mapM (fun f => (Try.prog.info? f.type).map fun i => (f.offset, i.size))
  | _ => none
theorem flds62 : flds = some [(0, 1), (1, 64), (65, 64)] := by kernel_rfl
theorem built62 (a : Int) (cs : List Value) (h : cs.length = 64) : Try.prog.built 62 [(0, .int .i64 a), (1, .agg cs.toArray)] = some (.int .i64 a :: (cs ++ bV (List.replicate 64 0))).toArray := by
  have hf := flds62
  have hz := zero62
  unfold flds at hf
  unfold Program.built
  cases hi : Try.prog.info? 62 with
  | none => simp [hi] at hz
  | some i =>
    have hz' : i.zero = some (.agg Z62) := by simpa [hi] using hz
    rw [Try.underlying62] at hf ⊢
    simp only at hf ⊢
    rw [hz', hf]
    simp only [Instr.fill, List.getElem?_toArray, List.getElem?_cons_zero, List.getElem?_cons_succ]
    rw [fill_zip _ _ _ (by simp [Value.cells, Z62])]
    rw [fill_zip _ _ _ (by simp [Value.cells, Z62, splice, h])]
    simp [Value.cells, Z62, splice, h]
    rfl

def pad (b : List UInt8) : List UInt8 := b ++ List.replicate (64 - b.length) 0
theorem pad_length {b : List UInt8} (h : b.length ≤ 64) : (pad b).length = 64 := by simp [pad]; omega
/-- v reads b, and lies apart from the block D -/
def Bs (w : World) (D : Nat) (v : Value) (b : List UInt8) : Prop :=
  ∃ ad cap, v = .slice ad b.length cap ∧ (0 < b.length → ∃ g o, ad = some ⟨g, o, none⟩ ∧ w.rangeAt g o (bV b) ∧ g ≠ D)
theorem range_mod {O : Nat → Prop} {w w' : World} {g o : Nat} {cs : List Value} (h : w.rangeAt g o cs) (hm : Mod O w w') (hg : ¬ O g) : w'.rangeAt g o cs := fun j v hv => by
  have hc := h j v hv
  have hb := World.block_lt_of_cell? w _ hc
  rw [← hc]
  exact cell_same (hm.2 g hb hg)

def DS.wrote (s : DS) (a : Nat) (b : List UInt8) : DS := { s.count with pend := s.pend ++ [(a, pad b)] }
def DS.write (s : DS) (n : Nat) (a : Int) (b : List UInt8) : DS := if refI s n a ≠ 0 then s else if 64 < b.length then s else if s.fails = true then s.count else s.wrote a.toNat b
def DS.writeE (s : DS) (n : Nat) (a : Int) (b : List UInt8) : Int := if refI s n a ≠ 0 then refI s n a else if 64 < b.length then 2 else if s.fails = true then 90 else 0

theorem refI_zero {s : DS} {n : Nat} {a : Int} (h : refI s n a = 0) : s.down = false ∧ 0 ≤ a ∧ a < n := by
  unfold refI at h
  split at h
  · omega
  · rename_i hd
    split at h
    · omega
    · exact ⟨by simpa using hd, by omega, by omega⟩

set_option maxHeartbeats 800000 in
/-- Write where it does not write -/
theorem write_no {w : World} {base D S n : Nat} {pv bv : Value} {s : DS} {b : List UInt8} (h : Dk w base D S n pv s) (a : Int) (hb : Bs w D bv b) (hno : refI s n a ≠ 0 ∨ 64 < b.length ∨ s.fails = true) (hlen : b.length ≤ 9223372036854775807) :
    Calls Try.prog 11 #[.pointer (some ⟨D, 0, none⟩), .int .i64 a, bv] w fun e w' => e = .returned (.int .i64 (s.writeE n a b)) ∧ After w base D S n pv (s.write n a b) w' := by
  obtain ⟨ad, cap, rfl, -⟩ := hb
  have HR := Lib.hid (refusal_c h a)
  have HD := Lib.hid h
  have hdn := fun hz => (refI_zero (s := s) (n := n) (a := a) hz).1
  have HF : refI s n a = 0 → _ := fun hz => Lib.hid (fails_c h (hdn hz))
  clear hdn
  unfold DS.write DS.writeE
  by_cases h0 : refI s n a = 0
  · have HF := HF h0
    rw [h0] at HR ⊢
    have hno' : 64 < b.length ∨ s.fails = true := by rcases hno with h | h; exact absurd h0 h; exact h
    clear hno h0 h
    by_cases h1 : 64 < b.length
    · have hl : (64 : Int) < (b.length : Int) := by omega
      simp only [ne_eq, not_true_eq_false, if_false, if_pos h1]
      generalize b.length = m at *
      clear h1 hno'
      go_enter Try.func11, Try.ntmps11
      go_wp2_with (first | (go_at_call 22; refine (HR.out).mono ?_; rintro e w' ⟨rfl, rfl⟩))
      go_ret
      exact ⟨rfl, After.same HD.out⟩
    · have hf : s.fails = true := by rcases hno' with h | h; exact absurd h h1; exact h
      have hl : (b.length : Int) ≤ 64 := by omega
      simp only [ne_eq, not_true_eq_false, if_false, if_neg h1, hf, if_true]
      unfold DS.fails at hf
      rw [hf] at HF
      generalize b.length = m at *
      clear h1 hno' hf
      go_enter Try.func11, Try.ntmps11
      go_wp2_with (first | (go_at_call 22; refine (HR.out).mono ?_; rintro e w' ⟨rfl, rfl⟩) | (go_at_call 23; refine (HF.out).mono ?_; rintro e w1 ⟨rfl, hm, hk⟩; have HM := Lib.hid hm; have HK := Lib.hid hk; clear hm hk))
      go_ret
      exact ⟨rfl, After.ofD HM.out HK.out⟩
  · rw [if_pos h0, if_pos h0]
    have hr : (refI s n a == 0) = false := by simpa using h0
    generalize refI s n a = r at *
    clear HF hno h
    have h0' : (r != 0) = true := by simpa using h0
    clear h0
    go_enter Try.func11, Try.ntmps11
    go_wp2_with (first | (go_at_call 22; refine (HR.out).mono ?_; rintro e w' ⟨rfl, rfl⟩))
    go_ret
    exact ⟨rfl, After.same HD.out⟩

end Go.Proofs.Ytcamcmcopkclfaa
