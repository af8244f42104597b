/- The sums of a valid recipe: weights, shades and prices, as sumsOf returns them. -/
import Derived.Test.YtpjekinmcdglbaaGb
import Derived.Test.YtpjekinmcdglbaaGc
set_option linter.unusedSimpArgs false
set_option linter.unusedVariables false
set_option maxRecDepth 100000
namespace Go.Proofs.Ytpjekinmcdglbaa
open Go.RowKit

theorem tint_size : (Try.prog.info? 59).map (fun i => i.size) = some 5 := by kernel_rfl
abbrev T5 := ByteArray × Int × Int × Int × Int
def tN (T : List T5) (i : Nat) : ByteArray := (T.getD i (ByteArray.empty, 0, 0, 0, 0)).1
def tA (T : List T5) (i : Nat) : Int := (T.getD i (ByteArray.empty, 0, 0, 0, 0)).2.1
def tB (T : List T5) (i : Nat) : Int := (T.getD i (ByteArray.empty, 0, 0, 0, 0)).2.2.1
def tC (T : List T5) (i : Nat) : Int := (T.getD i (ByteArray.empty, 0, 0, 0, 0)).2.2.2.1
def tP (T : List T5) (i : Nat) : Int := (T.getD i (ByteArray.empty, 0, 0, 0, 0)).2.2.2.2
/-- tints: names, shades and prices in the cells of the block b from off on -/
def Tnts (w : World) (b off m : Nat) (T : List T5) : Prop := T.length = m ∧ b < w.heap.size ∧ ∀ i, i < m → (w.cell? ⟨b, off + i * 5, none⟩ = some (.string (tN T i)) ∧ w.cell? ⟨b, off + i * 5 + 1, none⟩ = some (.int .i64 (tA T i)) ∧ w.cell? ⟨b, off + i * 5 + 2, none⟩ = some (.int .i64 (tB T i))) ∧ w.cell? ⟨b, off + i * 5 + 3, none⟩ = some (.int .i64 (tC T i)) ∧ w.cell? ⟨b, off + i * 5 + 4, none⟩ = some (.int .i64 (tP T i))
theorem Tnts.new {w w1 : World} {b off m : Nat} {T : List T5} (h : Tnts w b off m T) (hn : New w w1) : Tnts w1 b off m T := by
  obtain ⟨h1, h2, h3⟩ := h
  exact ⟨h1, Nat.lt_of_lt_of_le h2 hn.size, fun i hi => by rw [hn.cell h2, hn.cell h2, hn.cell h2, hn.cell h2, hn.cell h2]; exact h3 i hi⟩
/-- a sum over the first parts -/
def sumT (P : List (Int × Int)) (f : Nat → Int) : Nat → Int
  | 0 => 0
  | k + 1 => sumT P f k + pW P k * f (pT P k).toNat
def sumW (P : List (Int × Int)) : Nat → Int
  | 0 => 0
  | k + 1 => sumW P k + pW P k
theorem sumT_bd {P : List (Int × Int)} {f : Nat → Int} {M : Int} (hM : 0 ≤ M ∧ M ≤ 10000) : ∀ {k : Nat}, (∀ i, i < k → (1 ≤ pW P i ∧ pW P i ≤ 1000000000000) ∧ 0 ≤ f (pT P i).toNat ∧ f (pT P i).toNat ≤ M) → 0 ≤ sumT P f k ∧ sumT P f k ≤ k * 10000000000000000
  | 0, _ => by simp [sumT]
  | k + 1, h => by
    have ih := sumT_bd hM (k := k) (fun i hi => h i (by omega))
    obtain ⟨⟨w1, w2⟩, f1, f2⟩ := h k (by omega)
    have a := Int.mul_nonneg (show 0 ≤ pW P k by omega) f1
    have b := Int.mul_le_mul w2 (show f (pT P k).toNat ≤ 10000 by omega) f1 (by omega)
    simp only [sumT]; omega
theorem sumW_bd {P : List (Int × Int)} : ∀ {k : Nat}, (∀ i, i < k → 1 ≤ pW P i ∧ pW P i ≤ 1000000000000) → 0 ≤ sumW P k ∧ sumW P k ≤ k * 1000000000000
  | 0, _ => by simp [sumW]
  | k + 1, h => by
    have ih := sumW_bd (k := k) (fun i hi => h i (by omega))
    have := h k (by omega)
    simp only [sumW]; omega
/-- five numbers in a block of the call's own -/
def Five (W : World) (g : Nat) (a b c d e : Int) : Prop := g < W.heap.size ∧ (W.cell? ⟨g, 0, none⟩ = some (.int .i64 a) ∧ W.cell? ⟨g, 1, none⟩ = some (.int .i64 b) ∧ W.cell? ⟨g, 2, none⟩ = some (.int .i64 c) ∧ W.cell? ⟨g, 3, none⟩ = some (.int .i64 d) ∧ W.cell? ⟨g, 4, none⟩ = some (.int .i64 e)) ∧ ∀ o, W.frozen? ⟨g, o, none⟩ = false
theorem Five.new {W W' : World} {g : Nat} {a b c d e : Int} (h : Five W g a b c d e) (hn : New W W') : Five W' g a b c d e := by
  obtain ⟨h1, ⟨h2, h3, h4, h5, h6⟩, h7⟩ := h
  exact ⟨Nat.lt_of_lt_of_le h1 hn.size, ⟨(hn.cell h1).trans h2, (hn.cell h1).trans h3, (hn.cell h1).trans h4, (hn.cell h1).trans h5, (hn.cell h1).trans h6⟩, fun o => (hn.below.frozen (p := ⟨g, o, none⟩) h1).trans (h7 o)⟩
theorem frozen_new (W : World) (c : Array Value) (t : TypeId) (o : Nat) : (W.alloc (.cells c t)).frozen? ⟨W.heap.size, o, none⟩ = false := by
  unfold World.frozen?
  rw [show (W.alloc (.cells c t)).heap[(⟨W.heap.size, o, none⟩ : Addr).block]? = some (.cells c t) from heap_alloc_new _ _]
  simp
theorem Five.put0 {W : World} {g : Nat} {a b c d e : Int} (h : Five W g a b c d e) (x : Int) : Five (W.setCell ⟨g, 0, none⟩ (.int .i64 x)) g x b c d e := by
  obtain ⟨h1, ⟨h2, h3, h4, h5, h6⟩, h7⟩ := h
  exact ⟨by simpa [go_sem] using h1, ⟨by simp [go_sem, h2], by simp [go_sem, h3], by simp [go_sem, h4], by simp [go_sem, h5], by simp [go_sem, h6]⟩, fun o => by simp [go_sem, h7]⟩
theorem Five.put4 {W : World} {g : Nat} {a b c d e : Int} (h : Five W g a b c d e) (x : Int) : Five (W.setCell ⟨g, 4, none⟩ (.int .i64 x)) g a b c d x := by
  obtain ⟨h1, ⟨h2, h3, h4, h5, h6⟩, h7⟩ := h
  exact ⟨by simpa [go_sem] using h1, ⟨by simp [go_sem, h2], by simp [go_sem, h3], by simp [go_sem, h4], by simp [go_sem, h5], by simp [go_sem, h6]⟩, fun o => by simp [go_sem, h7]⟩
theorem Five.put3 {W : World} {g : Nat} {a b c d e : Int} (h : Five W g a b c d e) (x y z : Int) : Five (((W.setCell ⟨g, 1, none⟩ (.int .i64 x)).setCell ⟨g, 2, none⟩ (.int .i64 y)).setCell ⟨g, 3, none⟩ (.int .i64 z)) g a x y z e := by
  obtain ⟨h1, ⟨h2, h3, h4, h5, h6⟩, h7⟩ := h
  exact ⟨by simpa [go_sem] using h1, ⟨by simp [go_sem, h2], by simp [go_sem, h3], by simp [go_sem, h4], by simp [go_sem, h5], by simp [go_sem, h6]⟩, fun o => by simp [go_sem, h7]⟩

end Go.Proofs.Ytpjekinmcdglbaa
