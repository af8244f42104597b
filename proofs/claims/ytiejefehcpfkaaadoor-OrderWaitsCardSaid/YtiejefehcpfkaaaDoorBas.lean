/- Words and plain lemmas that the other texts of this seat use: worlds that only grew, regions that read and call, signs and products of numbers. No condition beyond what each lemma names. -/
import Derived.WalkKit
import Derived.Below
import Derived.BigQuiet
import Derived.Lib.Hide
import Derived.Lib.SmallJoins
import Derived.Deep.OwnShut
import Derived.Sort.Grow
namespace Go.Proofs.YtiejefehcpfkaaaDoor
open Go.RowKit

/-- w with d for the place on the tape, and the blocks os behind its heap. -/
def Aft (w : World) (d : Nat) (os : Array Obj) : World := { w with heap := w.heap ++ os, drawn := d }

structure AtBy where
  d : Nat
  os : Array Obj
  deriving Inhabited

theorem aft_self (w : World) : Aft w w.drawn #[] = w := by simp [Aft]
theorem aft_aft (w : World) (d d' : Nat) (os os' : Array Obj) : Aft (Aft w d os) d' os' = Aft w d' (os ++ os') := by simp [Aft, Array.append_assoc]
theorem size_aft (w : World) (d : Nat) (os : Array Obj) : (Aft w d os).heap.size = w.heap.size + os.size := by simp [Aft]
theorem heap_aft_old (w : World) (d : Nat) (os : Array Obj) {k : Nat} (h : k < w.heap.size) : (Aft w d os).heap[k]? = w.heap[k]? := by simp [Aft, Array.getElem?_append, h]
theorem cell_aft {w : World} {a : Addr} {v : Value} (hb : a.block < w.heap.size) (h : w.cell? a = some v) (d : Nat) (os : Array Obj) : (Aft w d os).cell? a = some v := by
  rw [← h]; simp only [World.cell?, heap_aft_old w d os hb]
theorem frozen_aft {w : World} {a : Addr} {v : Bool} (hb : a.block < w.heap.size) (h : w.frozen? a = v) (d : Nat) (os : Array Obj) : (Aft w d os).frozen? a = v := by
  rw [← h]; simp only [World.frozen?, heap_aft_old w d os hb]

theorem below_aft (w : World) (d : Nat) (os : Array Obj) : Below w.heap.size w (Aft w d os) :=
  ⟨rfl, rfl, rfl, by rw [size_aft]; omega, fun _ hk => heap_aft_old w d os hk⟩

theorem aft_of_below {w w' : World} (h : Below w.heap.size w w') : ∃ p : AtBy, w' = Aft w p.d p.os := by
  refine ⟨⟨w'.drawn, w'.heap.extract w.heap.size w'.heap.size⟩, ?_⟩
  obtain ⟨h1, h2, h3, h4, h5⟩ := h
  have hh : w'.heap = w.heap ++ w'.heap.extract w.heap.size w'.heap.size := by
    apply Array.ext_getElem?
    intro k
    rw [Array.getElem?_append]
    by_cases hk : k < w.heap.size
    · rw [if_pos hk]; exact h5 k hk
    · rw [if_neg hk, Array.getElem?_extract]
      by_cases hk2 : k < w'.heap.size
      · rw [if_pos (by omega)]; congr 1; omega
      · rw [if_neg (by omega), Array.getElem?_eq_none (by omega)]
  cases w; cases w'
  simp only [Aft] at *
  subst h1; subst h2; subst h3
  simp only [World.mk.injEq, and_true]
  exact hh

/-- A callee's contract, met in a world of the class. -/
theorem calls_at {P : Program} {f : FuncId} {args : Array Value} {w : World} {d : Nat} {os : Array Obj} {v : Value}
    (h : Calls P f args (Aft w d os) fun e w' => e = .returned v ∧ Below (Aft w d os).heap.size (Aft w d os) w') : Calls P f args (Aft w d os) fun e w'' => e = .returned v ∧ ∃ p : AtBy, w'' = Aft w p.d p.os :=
  h.mono fun _ _ ⟨he, hb⟩ => ⟨he, by obtain ⟨p, hp⟩ := aft_of_below hb; exact ⟨⟨p.d, os ++ p.os⟩, by rw [hp, aft_aft]⟩⟩

theorem wp_region_at {P : Program} {id : Nat} {Q : Exit → Act → World → Prop} {a : Act} {w : World} {l : List Oper} (hm : P.follows .mixedOrders = true) (hB : Region.lexB .any l.toArray = true)
    (h : wpQuiet P l.toArray (fun w' => ∃ p : AtBy, w' = Aft w p.d p.os) (fun a' => ∀ w', (∃ p : AtBy, w' = Aft w p.d p.os) → Q .normal a' w') l a) : (Code.region id l.toArray true).wp P Q a w :=
  wp_region_quiet (C := fun w' => ∃ p : AtBy, w' = Aft w p.d p.os) hm hB ⟨⟨w.drawn + 1, #[]⟩, by simp [Aft]⟩ (by simpa using h)

theorem bcell {W w1 : World} (hb : Below W.heap.size W w1) : (∀ b o, b < W.heap.size → w1.cell? ⟨b, o, none⟩ = W.cell? ⟨b, o, none⟩) ∧ (∀ b o, b < W.heap.size → w1.frozen? ⟨b, o, none⟩ = W.frozen? ⟨b, o, none⟩) :=
  ⟨fun b o h => hb.cell (p := ⟨b, o, none⟩) h, fun b o h => hb.frozen (p := ⟨b, o, none⟩) h⟩

/-- The same from a world that is already behind w: the class is the one over w. -/
theorem wp_region_at2 {P : Program} {id : Nat} {Q : Exit → Act → World → Prop} {a : Act} {w : World} {d : Nat} {os : Array Obj} {l : List Oper} (hm : P.follows .mixedOrders = true) (hB : Region.lexB .any l.toArray = true)
    (h : wpQuiet P l.toArray (fun w' => ∃ p : AtBy, w' = Aft w p.d p.os) (fun a' => ∀ w', (∃ p : AtBy, w' = Aft w p.d p.os) → Q .normal a' w') l a) : (Code.region id l.toArray true).wp P Q a (Aft w d os) :=
  wp_region_quiet (C := fun w' => ∃ p : AtBy, w' = Aft w p.d p.os) hm hB ⟨⟨d + 1, os⟩, rfl⟩ (by simpa using h)

/-- w' is w with blocks behind its heap and another place on the tape. -/
def New (w w' : World) : Prop := ∃ p : AtBy, w' = Aft w p.d p.os

@[go_sem] theorem aft_cell (w : World) (d : Nat) (os : Array Obj) (b o : Nat) (h : b < w.heap.size) : (Aft w d os).cell? ⟨b, o, none⟩ = w.cell? ⟨b, o, none⟩ := by
  simp only [World.cell?, heap_aft_old w d os h]
@[go_sem] theorem aft_frozen (w : World) (d : Nat) (os : Array Obj) (b o : Nat) (h : b < w.heap.size) : (Aft w d os).frozen? ⟨b, o, none⟩ = w.frozen? ⟨b, o, none⟩ := by
  simp only [World.frozen?, heap_aft_old w d os h]
@[go_sem] theorem aft_size (w : World) (d : Nat) (os : Array Obj) : (Aft w d os).heap.size = w.heap.size + os.size := size_aft w d os
@[go_sem] theorem aft_setCell (w : World) (d : Nat) (os : Array Obj) (b o : Nat) (v : Value) (h : b < w.heap.size) : (Aft w d os).setCell ⟨b, o, none⟩ v = Aft (w.setCell ⟨b, o, none⟩ v) d os := by
  simp only [World.setCell, Aft, Go.Sort.modify_append_left _ _ _ _ h]

theorem New.of_below {w w' : World} (h : Below w.heap.size w w') : New w w' := aft_of_below h
theorem New.below {w w' : World} (h : New w w') : Below w.heap.size w w' := by obtain ⟨p, rfl⟩ := h; exact below_aft _ _ _
theorem New.refl (w : World) : New w w := ⟨⟨w.drawn, #[]⟩, (aft_self w).symm⟩
theorem New.size {w w' : World} (h : New w w') : w.heap.size ≤ w'.heap.size := h.below.size
theorem New.trans {a b c : World} (h : New a b) (k : New b c) : New a c := .of_below (h.below.trans (k.below.mono h.size))
theorem New.alloc {a w : World} (h : New a w) (o : Obj) : New a (w.alloc o) := .of_below (h.below.alloc h.size o)
theorem New.aft {a w : World} (h : New a w) (d : Nat) (os : Array Obj) : New a (Aft w d os) := h.trans ⟨⟨d, os⟩, rfl⟩
theorem New.drew {a w : World} (h : New a w) : New a w.drew := .of_below h.below.drew
theorem New.setCell {a w : World} (h : New a w) {p : Addr} (hp : a.heap.size ≤ p.block) (u : Value) : New a (w.setCell p u) := .of_below (h.below.setCell hp u)

theorem calls_new {P : Program} {f : FuncId} {args : Array Value} {w : World} {d : Nat} {os : Array Obj} {v : Value}
    (h : Calls P f args (Aft w d os) fun e w' => e = .returned v ∧ New (Aft w d os) w') : Calls P f args (Aft w d os) fun e w'' => e = .returned v ∧ ∃ p : AtBy, w'' = Aft w p.d p.os :=
  h.mono fun _ _ ⟨he, p, hp⟩ => ⟨he, ⟨⟨p.d, os ++ p.os⟩, by rw [hp, aft_aft]⟩⟩

@[go_sem] theorem aft_merge (w : World) (d d' : Nat) (os os' : Array Obj) : Aft (Aft w d os) d' os' = Aft w d' (os ++ os') := aft_aft w d d' os os'
@[go_sem] theorem lt_s1 (a c : Nat) : (a < a + 1 + c) = True := eq_true (by omega)
@[go_sem] theorem lt_s2 (a c : Nat) : (a < a + 1 + c + 1) = True := eq_true (by omega)
@[go_sem] theorem lt_s3 (a c : Nat) : (a < a + 1 + c + 1 + 1) = True := eq_true (by omega)
@[go_sem] theorem lt_s4 (a c : Nat) : (a < a + 1 + c + 1 + 1 + 1) = True := eq_true (by omega)
@[go_sem] theorem lt_s5 (a c d : Nat) : (a < a + 1 + c + 1 + d) = True := eq_true (by omega)
@[go_sem] theorem lt_s6 (a c d : Nat) : (a < a + 1 + c + 1 + 1 + d) = True := eq_true (by omega)
@[go_sem] theorem lt_s7 (a c d : Nat) : (a < a + 1 + c + 1 + d + 1) = True := eq_true (by omega)
@[go_sem] theorem lt_s8 (a : Nat) : (a < a + 1 + 1) = True := eq_true (by omega)
@[go_sem] theorem lt_s9 (a c : Nat) : (a < a + 1 + 1 + c) = True := eq_true (by omega)
@[go_sem] theorem lt_s10 (a c : Nat) : (a < a + 1 + 1 + c + 1) = True := eq_true (by omega)
@[go_sem] theorem lt_s11 (a c : Nat) : (a < a + 1 + 1 + c + 1 + 1) = True := eq_true (by omega)
@[go_sem] theorem lt_s12 (a c : Nat) : (a < a + 1 + 1 + c + 1 + 1 + 1) = True := eq_true (by omega)
@[go_sem] theorem lt_s13 (a c d : Nat) : (a < a + 1 + 1 + c + 1 + d) = True := eq_true (by omega)
@[go_sem] theorem lt_s14 (a c d : Nat) : (a < a + 1 + 1 + c + 1 + 1 + d) = True := eq_true (by omega)
@[go_sem] theorem lt_s15 (a c d : Nat) : (a < a + 1 + 1 + c + 1 + d + 1) = True := eq_true (by omega)
@[go_sem] theorem lt_s16 (a : Nat) : (a < a + 1 + 1 + 1) = True := eq_true (by omega)
@[go_sem] theorem lt_s17 (a c : Nat) : (a < a + 1 + 1 + 1 + c) = True := eq_true (by omega)
@[go_sem] theorem lt_s18 (a c : Nat) : (a < a + 1 + 1 + 1 + c + 1) = True := eq_true (by omega)
@[go_sem] theorem lt_s19 (a c : Nat) : (a < a + 1 + 1 + 1 + c + 1 + 1) = True := eq_true (by omega)
@[go_sem] theorem lt_s20 (a c : Nat) : (a < a + 1 + 1 + 1 + c + 1 + 1 + 1) = True := eq_true (by omega)
@[go_sem] theorem lt_s21 (a c d : Nat) : (a < a + 1 + 1 + 1 + c + 1 + d) = True := eq_true (by omega)
@[go_sem] theorem lt_s22 (a c d : Nat) : (a < a + 1 + 1 + 1 + c + 1 + 1 + d) = True := eq_true (by omega)
@[go_sem] theorem lt_s23 (a c d : Nat) : (a < a + 1 + 1 + 1 + c + 1 + d + 1) = True := eq_true (by omega)
@[go_sem] theorem lt_s24 (a : Nat) : (a < a + 1 + 1 + 1 + 1) = True := eq_true (by omega)
@[go_sem] theorem lt_s25 (a c : Nat) : (a < a + 1 + 1 + 1 + 1 + c) = True := eq_true (by omega)
@[go_sem] theorem lt_s26 (a c : Nat) : (a < a + 1 + 1 + 1 + 1 + c + 1) = True := eq_true (by omega)
@[go_sem] theorem lt_s27 (a c : Nat) : (a < a + 1 + 1 + 1 + 1 + c + 1 + 1) = True := eq_true (by omega)
@[go_sem] theorem lt_s28 (a c : Nat) : (a < a + 1 + 1 + 1 + 1 + c + 1 + 1 + 1) = True := eq_true (by omega)
@[go_sem] theorem lt_s29 (a c d : Nat) : (a < a + 1 + 1 + 1 + 1 + c + 1 + d) = True := eq_true (by omega)
@[go_sem] theorem lt_s30 (a c d : Nat) : (a < a + 1 + 1 + 1 + 1 + c + 1 + 1 + d) = True := eq_true (by omega)
@[go_sem] theorem lt_s31 (a c d : Nat) : (a < a + 1 + 1 + 1 + 1 + c + 1 + d + 1) = True := eq_true (by omega)
@[go_sem] theorem lt_s32 (a : Nat) : (a < a + 1 + 1 + 1 + 1 + 1) = True := eq_true (by omega)
@[go_sem] theorem lt_s33 (a c : Nat) : (a < a + 1 + 1 + 1 + 1 + 1 + c) = True := eq_true (by omega)
@[go_sem] theorem lt_s34 (a c : Nat) : (a < a + 1 + 1 + 1 + 1 + 1 + c + 1) = True := eq_true (by omega)
@[go_sem] theorem lt_s35 (a c : Nat) : (a < a + 1 + 1 + 1 + 1 + 1 + c + 1 + 1) = True := eq_true (by omega)
@[go_sem] theorem lt_s36 (a c : Nat) : (a < a + 1 + 1 + 1 + 1 + 1 + c + 1 + 1 + 1) = True := eq_true (by omega)
@[go_sem] theorem lt_s37 (a c d : Nat) : (a < a + 1 + 1 + 1 + 1 + 1 + c + 1 + d) = True := eq_true (by omega)
@[go_sem] theorem lt_s38 (a c d : Nat) : (a < a + 1 + 1 + 1 + 1 + 1 + c + 1 + 1 + d) = True := eq_true (by omega)
@[go_sem] theorem lt_s39 (a c d : Nat) : (a < a + 1 + 1 + 1 + 1 + 1 + c + 1 + d + 1) = True := eq_true (by omega)
@[go_sem] theorem lt_s40 (a : Nat) : (a < a + 1 + 1 + 1 + 1 + 1 + 1) = True := eq_true (by omega)
@[go_sem] theorem lt_s41 (a c : Nat) : (a < a + 1 + 1 + 1 + 1 + 1 + 1 + c) = True := eq_true (by omega)
@[go_sem] theorem lt_s42 (a c : Nat) : (a < a + 1 + 1 + 1 + 1 + 1 + 1 + c + 1) = True := eq_true (by omega)
@[go_sem] theorem lt_s43 (a c : Nat) : (a < a + 1 + 1 + 1 + 1 + 1 + 1 + c + 1 + 1) = True := eq_true (by omega)
@[go_sem] theorem lt_s44 (a c : Nat) : (a < a + 1 + 1 + 1 + 1 + 1 + 1 + c + 1 + 1 + 1) = True := eq_true (by omega)
@[go_sem] theorem lt_s45 (a c d : Nat) : (a < a + 1 + 1 + 1 + 1 + 1 + 1 + c + 1 + d) = True := eq_true (by omega)
@[go_sem] theorem lt_s46 (a c d : Nat) : (a < a + 1 + 1 + 1 + 1 + 1 + 1 + c + 1 + 1 + d) = True := eq_true (by omega)
@[go_sem] theorem lt_s47 (a c d : Nat) : (a < a + 1 + 1 + 1 + 1 + 1 + 1 + c + 1 + d + 1) = True := eq_true (by omega)
@[go_sem] theorem lt_s48 (a : Nat) : (a < a + 1 + 1 + 1 + 1 + 1 + 1 + 1) = True := eq_true (by omega)
@[go_sem] theorem lt_s49 (a c : Nat) : (a < a + 1 + 1 + 1 + 1 + 1 + 1 + 1 + c) = True := eq_true (by omega)
@[go_sem] theorem lt_s50 (a c : Nat) : (a < a + 1 + 1 + 1 + 1 + 1 + 1 + 1 + c + 1) = True := eq_true (by omega)
@[go_sem] theorem lt_s51 (a c : Nat) : (a < a + 1 + 1 + 1 + 1 + 1 + 1 + 1 + c + 1 + 1) = True := eq_true (by omega)
@[go_sem] theorem lt_s52 (a c : Nat) : (a < a + 1 + 1 + 1 + 1 + 1 + 1 + 1 + c + 1 + 1 + 1) = True := eq_true (by omega)
@[go_sem] theorem lt_s53 (a c d : Nat) : (a < a + 1 + 1 + 1 + 1 + 1 + 1 + 1 + c + 1 + d) = True := eq_true (by omega)
@[go_sem] theorem lt_s54 (a c d : Nat) : (a < a + 1 + 1 + 1 + 1 + 1 + 1 + 1 + c + 1 + 1 + d) = True := eq_true (by omega)
@[go_sem] theorem lt_s55 (a c d : Nat) : (a < a + 1 + 1 + 1 + 1 + 1 + 1 + 1 + c + 1 + d + 1) = True := eq_true (by omega)
@[go_sem] theorem lt_s56 (a : Nat) : (a < a + 1 + 1 + 1 + 1 + 1 + 1 + 1 + 1) = True := eq_true (by omega)
@[go_sem] theorem lt_s57 (a c : Nat) : (a < a + 1 + 1 + 1 + 1 + 1 + 1 + 1 + 1 + c) = True := eq_true (by omega)
@[go_sem] theorem lt_s58 (a c : Nat) : (a < a + 1 + 1 + 1 + 1 + 1 + 1 + 1 + 1 + c + 1) = True := eq_true (by omega)
@[go_sem] theorem lt_s59 (a c : Nat) : (a < a + 1 + 1 + 1 + 1 + 1 + 1 + 1 + 1 + c + 1 + 1) = True := eq_true (by omega)
@[go_sem] theorem lt_s60 (a c : Nat) : (a < a + 1 + 1 + 1 + 1 + 1 + 1 + 1 + 1 + c + 1 + 1 + 1) = True := eq_true (by omega)
@[go_sem] theorem lt_s61 (a c d : Nat) : (a < a + 1 + 1 + 1 + 1 + 1 + 1 + 1 + 1 + c + 1 + d) = True := eq_true (by omega)
@[go_sem] theorem lt_s62 (a c d : Nat) : (a < a + 1 + 1 + 1 + 1 + 1 + 1 + 1 + 1 + c + 1 + 1 + d) = True := eq_true (by omega)
@[go_sem] theorem lt_s63 (a c d : Nat) : (a < a + 1 + 1 + 1 + 1 + 1 + 1 + 1 + 1 + c + 1 + d + 1) = True := eq_true (by omega)
@[go_sem] theorem lt_add_deep (a b c : Nat) (h : a < b) : a < b + c := by omega

/-! numbers -/
def cmpI (a b : Int) : Int := if a < b then -1 else if b < a then 1 else 0
def sgn (n : Int) : Int := if 0 < n then 1 else if n < 0 then -1 else 0
def okN (n : Int) : Bool := decide (0 ≤ n ∧ n ≤ 10000)
def okP (x y : Int) : Bool := okN x && okN y
def turnI (ax ay bx by' cx cy : Int) : Int := cmpI ((bx - ax) * (cy - ay)) ((by' - ay) * (cx - ax))

theorem okN_iff {n : Int} : okN n = true ↔ 0 ≤ n ∧ n ≤ 10000 := by simp [okN]
theorem okP_iff {x y : Int} : okP x y = true ↔ (0 ≤ x ∧ x ≤ 10000) ∧ (0 ≤ y ∧ y ≤ 10000) := by simp [okP, okN_iff]

theorem mul_bd (a b A B : Int) (h1 : -A ≤ a) (h2 : a ≤ A) (h3 : -B ≤ b) (h4 : b ≤ B) : -(A * B) ≤ a * b ∧ a * b ≤ A * B := by
  have hA : 0 ≤ A := by omega
  have hB : 0 ≤ B := by omega
  have p1 := Int.mul_nonneg (show 0 ≤ A - a by omega) (show 0 ≤ B - b by omega)
  have p2 := Int.mul_nonneg (show 0 ≤ A + a by omega) (show 0 ≤ B + b by omega)
  have p3 := Int.mul_nonneg (show 0 ≤ A - a by omega) (show 0 ≤ B + b by omega)
  have p4 := Int.mul_nonneg (show 0 ≤ A + a by omega) (show 0 ≤ B - b by omega)
  simp only [Int.sub_mul, Int.mul_sub, Int.add_mul, Int.mul_add] at p1 p2 p3 p4
  constructor <;> omega

end Go.Proofs.YtiejefehcpfkaaaDoor
