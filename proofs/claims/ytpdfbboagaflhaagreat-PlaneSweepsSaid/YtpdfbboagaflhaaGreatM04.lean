/- Words and plain lemmas that the other texts of this seat use: worlds that only grew, regions that read and call, signs and products of numbers. No condition beyond what each lemma names. -/
import Derived.WalkKit
import Derived.Below
import Derived.BigQuiet
import Derived.Lib.Hide
import Derived.Lib.SmallJoins
import Derived.Deep.OwnShut
import Derived.Sort.Grow
import Derived.Test.YtpdfbboagaflhaaGreatProg
import Derived.WalkLawsBesides
import Derived.WalkSpells
import Derived.Deep.RegionHeld3

namespace Go.Proofs.YtpdfbboagaflhaaGreat
open Go.RowKit

/-- w with d for the place on the tape, and the blocks os behind its heap. -/
def Aft (w : World) (d : Nat) (os : Array Obj) : World := { w with heap := w.heap ++ os, drawn := d }

structure AtBy where
  d : Nat
  os : Array Obj
  deriving Inhabited

theorem aft_self (w : World) : Aft w w.drawn #[] = w := by simp [Aft]
theorem aft_aft (w : World) (d d' : Nat) (os os' : Array Obj) : Aft (Aft w d os) d' os' = Aft w d' (os ++ os') := by simp [Aft, Array.append_assoc]
theorem size_aft (w : World) (d : Nat) (os : Array Obj) : (Aft w d os).heap.size = w.heap.size + os.size := by simp [Aft]
theorem heap_aft_old (w : World) (d : Nat) (os : Array Obj) {k : Nat} (h : k < w.heap.size) : (Aft w d os).heap[k]? = w.heap[k]? := by simp [Aft, Array.getElem?_append, h]
theorem cell_aft {w : World} {a : Addr} {v : Value} (hb : a.block < w.heap.size) (h : w.cell? a = some v) (d : Nat) (os : Array Obj) : (Aft w d os).cell? a = some v := by
  rw [← h]; simp only [World.cell?, heap_aft_old w d os hb]
theorem frozen_aft {w : World} {a : Addr} {v : Bool} (hb : a.block < w.heap.size) (h : w.frozen? a = v) (d : Nat) (os : Array Obj) : (Aft w d os).frozen? a = v := by
  rw [← h]; simp only [World.frozen?, heap_aft_old w d os hb]

theorem below_aft (w : World) (d : Nat) (os : Array Obj) : Below w.heap.size w (Aft w d os) :=
  ⟨rfl, rfl, rfl, by rw [size_aft]; omega, fun _ hk => heap_aft_old w d os hk⟩

theorem aft_of_below {w w' : World} (h : Below w.heap.size w w') : ∃ p : AtBy, w' = Aft w p.d p.os := by
  refine ⟨⟨w'.drawn, w'.heap.extract w.heap.size w'.heap.size⟩, ?_⟩
  obtain ⟨h1, h2, h3, h4, h5⟩ := h
  have hh : w'.heap = w.heap ++ w'.heap.extract w.heap.size w'.heap.size := by
    apply Array.ext_getElem?
    intro k
    rw [Array.getElem?_append]
    by_cases hk : k < w.heap.size
    · rw [if_pos hk]; exact h5 k hk
    · rw [if_neg hk, Array.getElem?_extract]
      by_cases hk2 : k < w'.heap.size
      · rw [if_pos (by omega)]; congr 1; omega
      · rw [if_neg (by omega), Array.getElem?_eq_none (by omega)]
  cases w; cases w'
  simp only [Aft] at *
  subst h1; subst h2; subst h3
  simp only [World.mk.injEq, and_true]
  exact hh

/-- A callee's contract, met in a world of the class. -/
theorem calls_at {P : Program} {f : FuncId} {args : Array Value} {w : World} {d : Nat} {os : Array Obj} {v : Value}
    (h : Calls P f args (Aft w d os) fun e w' => e = .returned v ∧ Below (Aft w d os).heap.size (Aft w d os) w') : Calls P f args (Aft w d os) fun e w'' => e = .returned v ∧ ∃ p : AtBy, w'' = Aft w p.d p.os :=
  h.mono fun _ _ ⟨he, hb⟩ => ⟨he, by obtain ⟨p, hp⟩ := aft_of_below hb; exact ⟨⟨p.d, os ++ p.os⟩, by rw [hp, aft_aft]⟩⟩

theorem wp_region_at {P : Program} {id : Nat} {Q : Exit → Act → World → Prop} {a : Act} {w : World} {l : List Oper} (hm : P.follows .mixedOrders = true) (hB : Region.lexB .any l.toArray = true)
    (h : wpQuiet P l.toArray (fun w' => ∃ p : AtBy, w' = Aft w p.d p.os) (fun a' => ∀ w', (∃ p : AtBy, w' = Aft w p.d p.os) → Q .normal a' w') l a) : (Code.region id l.toArray true).wp P Q a w :=
  wp_region_quiet (C := fun w' => ∃ p : AtBy, w' = Aft w p.d p.os) hm hB ⟨⟨w.drawn + 1, #[]⟩, by simp [Aft]⟩ (by simpa using h)

theorem bcell {W w1 : World} (hb : Below W.heap.size W w1) : (∀ b o, b < W.heap.size → w1.cell? ⟨b, o, none⟩ = W.cell? ⟨b, o, none⟩) ∧ (∀ b o, b < W.heap.size → w1.frozen? ⟨b, o, none⟩ = W.frozen? ⟨b, o, none⟩) :=
  ⟨fun b o h => hb.cell (p := ⟨b, o, none⟩) h, fun b o h => hb.frozen (p := ⟨b, o, none⟩) h⟩

/-- The same from a world that is already behind w: the class is the one over w. -/
theorem wp_region_at2 {P : Program} {id : Nat} {Q : Exit → Act → World → Prop} {a : Act} {w : World} {d : Nat} {os : Array Obj} {l : List Oper} (hm : P.follows .mixedOrders = true) (hB : Region.lexB .any l.toArray = true)
    (h : wpQuiet P l.toArray (fun w' => ∃ p : AtBy, w' = Aft w p.d p.os) (fun a' => ∀ w', (∃ p : AtBy, w' = Aft w p.d p.os) → Q .normal a' w') l a) : (Code.region id l.toArray true).wp P Q a (Aft w d os) :=
  wp_region_quiet (C := fun w' => ∃ p : AtBy, w' = Aft w p.d p.os) hm hB ⟨⟨d + 1, os⟩, rfl⟩ (by simpa using h)

/-- w' is w with blocks behind its heap and another place on the tape. -/
def New (w w' : World) : Prop := ∃ p : AtBy, w' = Aft w p.d p.os

@[go_sem] theorem aft_cell (w : World) (d : Nat) (os : Array Obj) (b o : Nat) (h : b < w.heap.size) : (Aft w d os).cell? ⟨b, o, none⟩ = w.cell? ⟨b, o, none⟩ := by
  simp only [World.cell?, heap_aft_old w d os h]
@[go_sem] theorem aft_frozen (w : World) (d : Nat) (os : Array Obj) (b o : Nat) (h : b < w.heap.size) : (Aft w d os).frozen? ⟨b, o, none⟩ = w.frozen? ⟨b, o, none⟩ := by
  simp only [World.frozen?, heap_aft_old w d os h]
@[go_sem] theorem aft_size (w : World) (d : Nat) (os : Array Obj) : (Aft w d os).heap.size = w.heap.size + os.size := size_aft w d os
@[go_sem] theorem aft_setCell (w : World) (d : Nat) (os : Array Obj) (b o : Nat) (v : Value) (h : b < w.heap.size) : (Aft w d os).setCell ⟨b, o, none⟩ v = Aft (w.setCell ⟨b, o, none⟩ v) d os := by
  simp only [World.setCell, Aft, Go.Sort.modify_append_left _ _ _ _ h]

theorem New.of_below {w w' : World} (h : Below w.heap.size w w') : New w w' := aft_of_below h
theorem New.below {w w' : World} (h : New w w') : Below w.heap.size w w' := by obtain ⟨p, rfl⟩ := h; exact below_aft _ _ _
theorem New.refl (w : World) : New w w := ⟨⟨w.drawn, #[]⟩, (aft_self w).symm⟩
theorem New.size {w w' : World} (h : New w w') : w.heap.size ≤ w'.heap.size := h.below.size
theorem New.trans {a b c : World} (h : New a b) (k : New b c) : New a c := .of_below (h.below.trans (k.below.mono h.size))
theorem New.alloc {a w : World} (h : New a w) (o : Obj) : New a (w.alloc o) := .of_below (h.below.alloc h.size o)
theorem New.aft {a w : World} (h : New a w) (d : Nat) (os : Array Obj) : New a (Aft w d os) := h.trans ⟨⟨d, os⟩, rfl⟩
theorem New.drew {a w : World} (h : New a w) : New a w.drew := .of_below h.below.drew
theorem New.setCell {a w : World} (h : New a w) {p : Addr} (hp : a.heap.size ≤ p.block) (u : Value) : New a (w.setCell p u) := .of_below (h.below.setCell hp u)

theorem calls_new {P : Program} {f : FuncId} {args : Array Value} {w : World} {d : Nat} {os : Array Obj} {v : Value}
    (h : Calls P f args (Aft w d os) fun e w' => e = .returned v ∧ New (Aft w d os) w') : Calls P f args (Aft w d os) fun e w'' => e = .returned v ∧ ∃ p : AtBy, w'' = Aft w p.d p.os :=
  h.mono fun _ _ ⟨he, p, hp⟩ => ⟨he, ⟨⟨p.d, os ++ p.os⟩, by rw [hp, aft_aft]⟩⟩

@[go_sem] theorem aft_merge (w : World) (d d' : Nat) (os os' : Array Obj) : Aft (Aft w d os) d' os' = Aft w d' (os ++ os') := aft_aft w d d' os os'
@[go_sem] theorem lt_s1 (a c : Nat) : (a < a + 1 + c) = True := eq_true (by omega)
@[go_sem] theorem lt_s2 (a c : Nat) : (a < a + 1 + c + 1) = True := eq_true (by omega)
@[go_sem] theorem lt_s3 (a c : Nat) : (a < a + 1 + c + 1 + 1) = True := eq_true (by omega)
@[go_sem] theorem lt_s4 (a c : Nat) : (a < a + 1 + c + 1 + 1 + 1) = True := eq_true (by omega)
@[go_sem] theorem lt_s5 (a c d : Nat) : (a < a + 1 + c + 1 + d) = True := eq_true (by omega)
@[go_sem] theorem lt_s6 (a c d : Nat) : (a < a + 1 + c + 1 + 1 + d) = True := eq_true (by omega)
@[go_sem] theorem lt_s7 (a c d : Nat) : (a < a + 1 + c + 1 + d + 1) = True := eq_true (by omega)
@[go_sem] theorem lt_s8 (a : Nat) : (a < a + 1 + 1) = True := eq_true (by omega)
@[go_sem] theorem lt_s9 (a c : Nat) : (a < a + 1 + 1 + c) = True := eq_true (by omega)
@[go_sem] theorem lt_s10 (a c : Nat) : (a < a + 1 + 1 + c + 1) = True := eq_true (by omega)
@[go_sem] theorem lt_s11 (a c : Nat) : (a < a + 1 + 1 + c + 1 + 1) = True := eq_true (by omega)
@[go_sem] theorem lt_s12 (a c : Nat) : (a < a + 1 + 1 + c + 1 + 1 + 1) = True := eq_true (by omega)
@[go_sem] theorem lt_s13 (a c d : Nat) : (a < a + 1 + 1 + c + 1 + d) = True := eq_true (by omega)
@[go_sem] theorem lt_s14 (a c d : Nat) : (a < a + 1 + 1 + c + 1 + 1 + d) = True := eq_true (by omega)
@[go_sem] theorem lt_s15 (a c d : Nat) : (a < a + 1 + 1 + c + 1 + d + 1) = True := eq_true (by omega)
@[go_sem] theorem lt_s16 (a : Nat) : (a < a + 1 + 1 + 1) = True := eq_true (by omega)
@[go_sem] theorem lt_s17 (a c : Nat) : (a < a + 1 + 1 + 1 + c) = True := eq_true (by omega)
@[go_sem] theorem lt_s18 (a c : Nat) : (a < a + 1 + 1 + 1 + c + 1) = True := eq_true (by omega)
@[go_sem] theorem lt_s19 (a c : Nat) : (a < a + 1 + 1 + 1 + c + 1 + 1) = True := eq_true (by omega)
@[go_sem] theorem lt_s20 (a c : Nat) : (a < a + 1 + 1 + 1 + c + 1 + 1 + 1) = True := eq_true (by omega)
@[go_sem] theorem lt_s21 (a c d : Nat) : (a < a + 1 + 1 + 1 + c + 1 + d) = True := eq_true (by omega)
@[go_sem] theorem lt_s22 (a c d : Nat) : (a < a + 1 + 1 + 1 + c + 1 + 1 + d) = True := eq_true (by omega)
@[go_sem] theorem lt_s23 (a c d : Nat) : (a < a + 1 + 1 + 1 + c + 1 + d + 1) = True := eq_true (by omega)
@[go_sem] theorem lt_s24 (a : Nat) : (a < a + 1 + 1 + 1 + 1) = True := eq_true (by omega)
@[go_sem] theorem lt_s25 (a c : Nat) : (a < a + 1 + 1 + 1 + 1 + c) = True := eq_true (by omega)
@[go_sem] theorem lt_s26 (a c : Nat) : (a < a + 1 + 1 + 1 + 1 + c + 1) = True := eq_true (by omega)
@[go_sem] theorem lt_s27 (a c : Nat) : (a < a + 1 + 1 + 1 + 1 + c + 1 + 1) = True := eq_true (by omega)
@[go_sem] theorem lt_s28 (a c : Nat) : (a < a + 1 + 1 + 1 + 1 + c + 1 + 1 + 1) = True := eq_true (by omega)
@[go_sem] theorem lt_s29 (a c d : Nat) : (a < a + 1 + 1 + 1 + 1 + c + 1 + d) = True := eq_true (by omega)
@[go_sem] theorem lt_s30 (a c d : Nat) : (a < a + 1 + 1 + 1 + 1 + c + 1 + 1 + d) = True := eq_true (by omega)
@[go_sem] theorem lt_s31 (a c d : Nat) : (a < a + 1 + 1 + 1 + 1 + c + 1 + d + 1) = True := eq_true (by omega)
@[go_sem] theorem lt_s32 (a : Nat) : (a < a + 1 + 1 + 1 + 1 + 1) = True := eq_true (by omega)
@[go_sem] theorem lt_s33 (a c : Nat) : (a < a + 1 + 1 + 1 + 1 + 1 + c) = True := eq_true (by omega)
@[go_sem] theorem lt_s34 (a c : Nat) : (a < a + 1 + 1 + 1 + 1 + 1 + c + 1) = True := eq_true (by omega)
@[go_sem] theorem lt_s35 (a c : Nat) : (a < a + 1 + 1 + 1 + 1 + 1 + c + 1 + 1) = True := eq_true (by omega)
@[go_sem] theorem lt_s36 (a c : Nat) : (a < a + 1 + 1 + 1 + 1 + 1 + c + 1 + 1 + 1) = True := eq_true (by omega)
@[go_sem] theorem lt_s37 (a c d : Nat) : (a < a + 1 + 1 + 1 + 1 + 1 + c + 1 + d) = True := eq_true (by omega)
@[go_sem] theorem lt_s38 (a c d : Nat) : (a < a + 1 + 1 + 1 + 1 + 1 + c + 1 + 1 + d) = True := eq_true (by omega)
@[go_sem] theorem lt_s39 (a c d : Nat) : (a < a + 1 + 1 + 1 + 1 + 1 + c + 1 + d + 1) = True := eq_true (by omega)
@[go_sem] theorem lt_s40 (a : Nat) : (a < a + 1 + 1 + 1 + 1 + 1 + 1) = True := eq_true (by omega)
@[go_sem] theorem lt_s41 (a c : Nat) : (a < a + 1 + 1 + 1 + 1 + 1 + 1 + c) = True := eq_true (by omega)
@[go_sem] theorem lt_s42 (a c : Nat) : (a < a + 1 + 1 + 1 + 1 + 1 + 1 + c + 1) = True := eq_true (by omega)
@[go_sem] theorem lt_s43 (a c : Nat) : (a < a + 1 + 1 + 1 + 1 + 1 + 1 + c + 1 + 1) = True := eq_true (by omega)
@[go_sem] theorem lt_s44 (a c : Nat) : (a < a + 1 + 1 + 1 + 1 + 1 + 1 + c + 1 + 1 + 1) = True := eq_true (by omega)
@[go_sem] theorem lt_s45 (a c d : Nat) : (a < a + 1 + 1 + 1 + 1 + 1 + 1 + c + 1 + d) = True := eq_true (by omega)
@[go_sem] theorem lt_s46 (a c d : Nat) : (a < a + 1 + 1 + 1 + 1 + 1 + 1 + c + 1 + 1 + d) = True := eq_true (by omega)
@[go_sem] theorem lt_s47 (a c d : Nat) : (a < a + 1 + 1 + 1 + 1 + 1 + 1 + c + 1 + d + 1) = True := eq_true (by omega)
@[go_sem] theorem lt_s48 (a : Nat) : (a < a + 1 + 1 + 1 + 1 + 1 + 1 + 1) = True := eq_true (by omega)
@[go_sem] theorem lt_s49 (a c : Nat) : (a < a + 1 + 1 + 1 + 1 + 1 + 1 + 1 + c) = True := eq_true (by omega)
@[go_sem] theorem lt_s50 (a c : Nat) : (a < a + 1 + 1 + 1 + 1 + 1 + 1 + 1 + c + 1) = True := eq_true (by omega)
@[go_sem] theorem lt_s51 (a c : Nat) : (a < a + 1 + 1 + 1 + 1 + 1 + 1 + 1 + c + 1 + 1) = True := eq_true (by omega)
@[go_sem] theorem lt_s52 (a c : Nat) : (a < a + 1 + 1 + 1 + 1 + 1 + 1 + 1 + c + 1 + 1 + 1) = True := eq_true (by omega)
@[go_sem] theorem lt_s53 (a c d : Nat) : (a < a + 1 + 1 + 1 + 1 + 1 + 1 + 1 + c + 1 + d) = True := eq_true (by omega)
@[go_sem] theorem lt_s54 (a c d : Nat) : (a < a + 1 + 1 + 1 + 1 + 1 + 1 + 1 + c + 1 + 1 + d) = True := eq_true (by omega)
@[go_sem] theorem lt_s55 (a c d : Nat) : (a < a + 1 + 1 + 1 + 1 + 1 + 1 + 1 + c + 1 + d + 1) = True := eq_true (by omega)
@[go_sem] theorem lt_s56 (a : Nat) : (a < a + 1 + 1 + 1 + 1 + 1 + 1 + 1 + 1) = True := eq_true (by omega)
@[go_sem] theorem lt_s57 (a c : Nat) : (a < a + 1 + 1 + 1 + 1 + 1 + 1 + 1 + 1 + c) = True := eq_true (by omega)
@[go_sem] theorem lt_s58 (a c : Nat) : (a < a + 1 + 1 + 1 + 1 + 1 + 1 + 1 + 1 + c + 1) = True := eq_true (by omega)
@[go_sem] theorem lt_s59 (a c : Nat) : (a < a + 1 + 1 + 1 + 1 + 1 + 1 + 1 + 1 + c + 1 + 1) = True := eq_true (by omega)
@[go_sem] theorem lt_s60 (a c : Nat) : (a < a + 1 + 1 + 1 + 1 + 1 + 1 + 1 + 1 + c + 1 + 1 + 1) = True := eq_true (by omega)
@[go_sem] theorem lt_s61 (a c d : Nat) : (a < a + 1 + 1 + 1 + 1 + 1 + 1 + 1 + 1 + c + 1 + d) = True := eq_true (by omega)
@[go_sem] theorem lt_s62 (a c d : Nat) : (a < a + 1 + 1 + 1 + 1 + 1 + 1 + 1 + 1 + c + 1 + 1 + d) = True := eq_true (by omega)
@[go_sem] theorem lt_s63 (a c d : Nat) : (a < a + 1 + 1 + 1 + 1 + 1 + 1 + 1 + 1 + c + 1 + d + 1) = True := eq_true (by omega)
@[go_sem] theorem lt_add_deep (a b c : Nat) (h : a < b) : a < b + c := by omega

/-! numbers -/
def cmpI (a b : Int) : Int := if a < b then -1 else if b < a then 1 else 0
def sgn (n : Int) : Int := if 0 < n then 1 else if n < 0 then -1 else 0
def okN (n : Int) : Bool := decide (0 ≤ n ∧ n ≤ 10000)
def okP (x y : Int) : Bool := okN x && okN y
def turnI (ax ay bx by' cx cy : Int) : Int := cmpI ((bx - ax) * (cy - ay)) ((by' - ay) * (cx - ax))

theorem okN_iff {n : Int} : okN n = true ↔ 0 ≤ n ∧ n ≤ 10000 := by simp [okN]
theorem okP_iff {x y : Int} : okP x y = true ↔ (0 ≤ x ∧ x ≤ 10000) ∧ (0 ≤ y ∧ y ≤ 10000) := by simp [okP, okN_iff]

theorem mul_bd (a b A B : Int) (h1 : -A ≤ a) (h2 : a ≤ A) (h3 : -B ≤ b) (h4 : b ≤ B) : -(A * B) ≤ a * b ∧ a * b ≤ A * B := by
  have hA : 0 ≤ A := by omega
  have hB : 0 ≤ B := by omega
  have p1 := Int.mul_nonneg (show 0 ≤ A - a by omega) (show 0 ≤ B - b by omega)
  have p2 := Int.mul_nonneg (show 0 ≤ A + a by omega) (show 0 ≤ B + b by omega)
  have p3 := Int.mul_nonneg (show 0 ≤ A - a by omega) (show 0 ≤ B + b by omega)
  have p4 := Int.mul_nonneg (show 0 ≤ A + a by omega) (show 0 ≤ B - b by omega)
  simp only [Int.sub_mul, Int.mul_sub, Int.add_mul, Int.mul_add] at p1 p2 p3 p4
  constructor <;> omega

end Go.Proofs.YtpdfbboagaflhaaGreat

/- What the small functions on points return: signs, turns, points and segments that are valid. No condition beyond what each line names. -/
namespace Go.Proofs.YtpdfbboagaflhaaGreat
open Go.RowKit

abbrev pv (x y : Int) : Value := .agg #[.int .i64 x, .int .i64 y]
abbrev sv (a b c d : Int) : Value := .agg #[.int .i64 a, .int .i64 b, .int .i64 c, .int .i64 d]
theorem ret_int {k : IntKind} {a b : Int} (h : a = b) : Ending.returned (.int k a) = .returned (.int k b) := by rw [h]
theorem ret_bool {a b : Bool} (h : a = b) : Ending.returned (.bool a) = .returned (.bool b) := by rw [h]

set_option maxHeartbeats 400000 in
theorem compare_c (x y : Int) (w : World) : Calls Tryz.prog 163 #[.int .i64 x, .int .i64 y] w fun e w' => e = .returned (.int .i64 (cmpI x y)) ∧ New w w' := by
  unfold cmpI
  go_enter Tryz.func163, Tryz.ntmps163
  go_wp2
  all_goals (go_ret; refine ⟨rfl, ?_⟩; (repeat (first | exact New.refl _ | apply New.alloc | apply New.aft | apply New.drew | refine New.setCell ?_ ?_ _)); all_goals (first | done | (simp [size_aft]; done) | (simp [size_aft]; omega)))

set_option maxHeartbeats 400000 in
theorem pt_c (x y : Int) (w : World) : Calls Tryz.prog 82 #[.int .i64 x, .int .i64 y] w fun e w' => e = .returned (pv x y) ∧ New w w' := by
  go_enter Tryz.func82, Tryz.ntmps82
  go_wp2
  refine bodyPost_ret (v := pv x y) (by simp [results, Tryz.results82, go_sem]) rfl ⟨rfl, ?_⟩
  (repeat (first | exact New.refl _ | apply New.alloc | apply New.aft | apply New.drew | refine New.setCell ?_ ?_ _)); all_goals (first | done | (simp [size_aft]; done) | (simp [size_aft]; omega))

set_option maxHeartbeats 400000 in
theorem sg_c (a b c d : Int) (w : World) : Calls Tryz.prog 83 #[.int .i64 a, .int .i64 b, .int .i64 c, .int .i64 d] w fun e w' => e = .returned (sv a b c d) ∧ New w w' := by
  go_enter Tryz.func83, Tryz.ntmps83
  go_wp2_with (go_at_call 82; refine (pt_c _ _ _).mono ?_; rintro e w1 ⟨rfl, pw, rfl⟩)
  refine bodyPost_ret (v := sv a b c d) (by simp [results, Tryz.results83, go_sem]) rfl ⟨rfl, ?_⟩
  (repeat (first | exact New.refl _ | apply New.alloc | apply New.aft | apply New.drew | refine New.setCell ?_ ?_ _)); all_goals (first | done | (simp [size_aft]; done) | (simp [size_aft]; omega))

def okErr (x y : Int) : Int := if okP x y = true then 0 else 1
theorem okErr_yes {x y : Int} (h : okP x y = true) : okErr x y = 0 := if_pos h
theorem okErr_no {x y : Int} (h : okP x y = false) : okErr x y = 1 := if_neg (by simp [h])

set_option maxHeartbeats 400000 in
theorem checkPoint_c (x y : Int) (w : World) : Calls Tryz.prog 29 #[pv x y] w fun e w' => e = .returned (.int .i64 (okErr x y)) ∧ New w w' := by
  by_cases h : okP x y = true
  · rw [okErr_yes h]
    rw [okP_iff] at h
    obtain ⟨⟨h1, h2⟩, h3, h4⟩ := h
    go_enter Tryz.func29, Tryz.ntmps29
    go_wp2
    go_ret; refine ⟨rfl, ?_⟩; (repeat (first | exact New.refl _ | apply New.alloc | apply New.aft | apply New.drew | refine New.setCell ?_ ?_ _)); all_goals (first | done | (simp [size_aft]; done) | (simp [size_aft]; omega))
  · rw [okErr_no (by simpa using h)]
    rw [okP_iff] at h
    go_enter Tryz.func29, Tryz.ntmps29
    go_wp2
    all_goals (first | (exfalso; omega) | (go_ret; refine ⟨rfl, ?_⟩; (repeat (first | exact New.refl _ | apply New.alloc | apply New.aft | apply New.drew | refine New.setCell ?_ ?_ _)); all_goals (first | done | (simp [size_aft]; done) | (simp [size_aft]; omega))))

set_option maxHeartbeats 1000000 in
theorem turn_c (ax ay bx by' cx cy : Int) (w : World) (h1 : -40000 ≤ ax ∧ ax ≤ 40000) (h2 : -40000 ≤ ay ∧ ay ≤ 40000) (h3 : -40000 ≤ bx ∧ bx ≤ 40000) (h4 : -40000 ≤ by' ∧ by' ≤ 40000) (h5 : -40000 ≤ cx ∧ cx ≤ 40000) (h6 : -40000 ≤ cy ∧ cy ≤ 40000) :
    Calls Tryz.prog 85 #[pv ax ay, pv bx by', pv cx cy] w fun e w' => e = .returned (.int .i64 (turnI ax ay bx by' cx cy)) ∧ New w w' := by
  obtain ⟨p1, p2⟩ := mul_bd (bx - ax) (cy - ay) 80000 80000 (by omega) (by omega) (by omega) (by omega)
  obtain ⟨p3, p4⟩ := mul_bd (by' - ay) (cx - ax) 80000 80000 (by omega) (by omega) (by omega) (by omega)
  simp only [Int.reduceMul, Int.reduceNeg] at p1 p2 p3 p4
  go_enter Tryz.func85, Tryz.ntmps85
  go_wp2_with (go_at_call 163; refine (compare_c _ _ _).mono ?_; rintro e w1 ⟨rfl, pw, rfl⟩)
  go_ret; refine ⟨rfl, ?_⟩; (repeat (first | exact New.refl _ | apply New.alloc | apply New.aft | apply New.drew | refine New.setCell ?_ ?_ _)); all_goals (first | done | (simp [size_aft]; done) | (simp [size_aft]; omega))

def cmpP (ax ay bx by' : Int) : Int := if cmpI ax bx ≠ 0 then cmpI ax bx else cmpI ay by'
theorem cmpP_yes {ax ay bx by' : Int} (h : cmpI ax bx ≠ 0) : cmpP ax ay bx by' = cmpI ax bx := if_pos h
theorem cmpP_no {ax ay bx by' : Int} (h : cmpI ax bx = 0) : cmpP ax ay bx by' = cmpI ay by' := by simp [cmpP, h]

def orI (a b : Int) : Int := if a ≠ 0 then a else b

set_option maxHeartbeats 1000000 in
theorem or_c (a b : Int) (g : Nat) (w : World) (h0 : w.cell? ⟨g, 0, none⟩ = some (.int .i64 a)) (h1 : w.cell? ⟨g, 1, none⟩ = some (.int .i64 b)) : Calls Tryz.prog 173 #[.slice (some ⟨g, 0, none⟩) 2 2] w fun e w' => e = .returned (.int .i64 (orI a b)) ∧ New w w' := by
  by_cases ha : a = 0
  · subst ha
    by_cases hb : b = 0
    · subst hb
      rw [show orI 0 0 = 0 from rfl]
      go_enter Tryz.func173, Tryz.ntmps173
      go_wp2
      refine wp_loop_rounds 3 ?_
      repeat any_goals (rw [rounds_succ]; go_wp2)
      go_ret; refine ⟨rfl, ?_⟩; (repeat (first | exact New.refl _ | apply New.alloc | apply New.aft | apply New.drew | refine New.setCell ?_ ?_ _)); all_goals (first | done | (simp [size_aft]; done) | (simp [size_aft]; omega))
    · rw [show orI 0 b = b from by simp [orI]]
      have hb' : (b == 0) = false := by simpa using hb
      have hb2 : (b != 0) = true := by simpa using hb
      clear hb
      go_enter Tryz.func173, Tryz.ntmps173
      go_wp2
      refine wp_loop_rounds 3 ?_
      repeat any_goals (rw [rounds_succ]; go_wp2)
      go_ret; refine ⟨rfl, ?_⟩; (repeat (first | exact New.refl _ | apply New.alloc | apply New.aft | apply New.drew | refine New.setCell ?_ ?_ _)); all_goals (first | done | (simp [size_aft]; done) | (simp [size_aft]; omega))
  · rw [show orI a b = a from by simp [orI, ha]]
    have ha' : (a == 0) = false := by simpa using ha
    have ha2 : (a != 0) = true := by simpa using ha
    clear ha
    go_enter Tryz.func173, Tryz.ntmps173
    go_wp2
    refine wp_loop_rounds 3 ?_
    repeat any_goals (rw [rounds_succ]; go_wp2)
    go_ret; refine ⟨rfl, ?_⟩; (repeat (first | exact New.refl _ | apply New.alloc | apply New.aft | apply New.drew | refine New.setCell ?_ ?_ _)); all_goals (first | done | (simp [size_aft]; done) | (simp [size_aft]; omega))

set_option maxHeartbeats 1000000 in
theorem comparePoints_c (ax ay bx by' : Int) (w : World) : Calls Tryz.prog 125 #[pv ax ay, pv bx by'] w fun e w' => e = .returned (.int .i64 (orI (cmpI ax bx) (cmpI ay by'))) ∧ New w w' := by
  go_enter Tryz.func125, Tryz.ntmps125
  go_wp2_with fail
  go_region_held3 (fun w' => w'.cell? ⟨w.heap.size, 0, none⟩ = some (.int .i64 ax) ∧ w'.cell? ⟨w.heap.size, 1, none⟩ = some (.int .i64 ay) ∧ w'.cell? ⟨w.heap.size + 1, 0, none⟩ = some (.int .i64 bx) ∧ w'.cell? ⟨w.heap.size + 1, 1, none⟩ = some (.int .i64 by')) (first | (simp [go_sem]; done) | (simp [go_sem, *]; done) | (go_keep; done))
    (first | (go_at_call 163; refine (compare_c _ _ _).mono ?_; rintro e w1 ⟨rfl, pw, rfl⟩) | (go_at_call 173; refine (or_c (cmpI ax bx) (cmpI ay by') _ _ ?_ ?_).mono ?_; simp [go_sem]; simp [go_sem]; rintro e w1 ⟨rfl, pw, rfl⟩))
  all_goals (go_wp2_with fail)
  all_goals (go_ret; refine ⟨rfl, ?_⟩; (repeat (first | exact New.refl _ | apply New.alloc | apply New.aft | apply New.drew | refine New.setCell ?_ ?_ _)); all_goals (first | done | (simp [size_aft]; done) | (simp [size_aft]; omega)))

end Go.Proofs.YtpdfbboagaflhaaGreat
