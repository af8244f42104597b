/- Sets of places as 32 bits: one place, those below a number, has, without, part of, the least one. -/
import Derived.Test.YtiejefehcpfkaaaDoorProg
import Derived.Test.YtiejefehcpfkaaaDoorIt
import Derived.WalkKit
import Derived.WalkLawsBesides
import Derived.WalkSpells
import Derived.Deep.RegionHeld3
import Derived.BigRegion
import Derived.LoopTactic
import Derived.Lib.MinMax
import Derived.Lib.TrailingZeros
import Derived.Laws.BitsAllLaws
set_option linter.unusedSimpArgs false
set_option linter.unusedVariables false
set_option maxRecDepth 100000
namespace Go.Proofs.YtiejefehcpfkaaaDoor
open Go.RowKit

theorem ret_int {k : IntKind} {a b : Int} (h : a = b) : Ending.returned (.int k a) = .returned (.int k b) := by rw [h]
theorem ret_bool {a b : Bool} (h : a = b) : Ending.returned (.bool a) = .returned (.bool b) := by rw [h]
theorem New.cell {w w' : World} (h : New w w') {b o : Nat} (hb : b < w.heap.size) : w'.cell? ⟨b, o, none⟩ = w.cell? ⟨b, o, none⟩ := h.below.cell (p := ⟨b, o, none⟩) hb

abbrev sv (s : Nat) : Value := .int .u32 (s : Int)
theorem wrap32 (n : Int) : IntKind.u32.wrap n = n % 4294967296 := by simp [IntKind.wrap, IntKind.signed, IntKind.bits]
theorem ofInt_nat (a : Nat) (ha : a < 4294967296) : (BitVec.ofInt 32 (a : Int)).toNat = a := by
  rw [BitVec.ofInt_natCast, BitVec.toNat_ofNat]; exact Nat.mod_eq_of_lt (by omega)
theorem and32 (a b : Nat) (ha : a < 4294967296) (hb : b < 4294967296) : bits .and .u32 (a : Int) (b : Int) = ((a &&& b : Nat) : Int) := by
  have hx : a &&& b < 2 ^ 32 := Nat.and_lt_two_pow _ (by omega)
  show IntKind.u32.wrap ((BitVec.ofInt 32 (a : Int) &&& BitVec.ofInt 32 (b : Int)).toNat : Int) = _
  rw [BitVec.toNat_and, ofInt_nat a ha, ofInt_nat b hb, wrap32]
  omega
theorem or32 (a b : Nat) (ha : a < 4294967296) (hb : b < 4294967296) : bits .or .u32 (a : Int) (b : Int) = ((a ||| b : Nat) : Int) := by
  have hx : a ||| b < 2 ^ 32 := Nat.or_lt_two_pow (by omega) (by omega)
  show IntKind.u32.wrap ((BitVec.ofInt 32 (a : Int) ||| BitVec.ofInt 32 (b : Int)).toNat : Int) = _
  rw [BitVec.toNat_or, ofInt_nat a ha, ofInt_nat b hb, wrap32]
  omega
/-- a without b -/
def wo (a b : Nat) : Nat := a &&& (4294967295 - b)
theorem wo_le (a b : Nat) : wo a b ≤ a := Nat.and_le_left
theorem wo_bit (a b i : Nat) (ha : a < 4294967296) (hb : b < 4294967296) : (wo a b).testBit i = (a.testBit i && !b.testBit i) := by
  have h := Nat.testBit_two_pow_sub_succ (x := b) (n := 32) (by omega) i
  unfold wo
  rw [Nat.testBit_and, show 4294967295 - b = 2 ^ 32 - (b + 1) by omega, h]
  by_cases hi : i < 32
  · simp [hi]
  · have := Nat.testBit_lt_two_pow (x := a) (i := i) (Nat.lt_of_lt_of_le ha (show 4294967296 ≤ 2 ^ i from Nat.le_trans (by decide) (Nat.pow_le_pow_right (n := 2) (by omega) (show 32 ≤ i by omega))))
    simp [this]
theorem andNot32 (a b : Nat) (ha : a < 4294967296) (hb : b < 4294967296) : bits .andNot .u32 (a : Int) (b : Int) = ((wo a b : Nat) : Int) := by
  have hx := wo_le a b
  show IntKind.u32.wrap ((BitVec.ofInt 32 (a : Int) &&& ~~~(BitVec.ofInt 32 (b : Int))).toNat : Int) = _
  rw [BitVec.toNat_and, BitVec.toNat_not, ofInt_nat a ha, ofInt_nat b hb, wrap32, show 2 ^ 32 - 1 - b = 4294967295 - b by omega]
  unfold wo at hx ⊢
  omega
theorem bit_and (s p : Nat) : (s &&& 2 ^ p != 0) = s.testBit p := by
  have h : s &&& 2 ^ p = if s.testBit p then 2 ^ p else 0 := by
    apply Nat.eq_of_testBit_eq
    intro i
    rw [Nat.testBit_and, Nat.testBit_two_pow]
    by_cases hi : p = i
    · subst hi
      cases hs : s.testBit p
      · simp
      · simp [Nat.testBit_two_pow_self]
    · cases hs : s.testBit p
      · simp [hi]
      · simp [hi, Nat.testBit_two_pow]
  rw [h]
  have := Nat.two_pow_pos p
  cases hs : s.testBit p
  · simp
  · simp
theorem pow_lt (p : Nat) (hp : p < 32) : 2 ^ p < 4294967296 := Nat.pow_lt_pow_right (by omega) (show p < 32 from hp)

theorem pow_wrap (p : Nat) (hp : p < 32) : (2 : Int) ^ p % 4294967296 = ((2 ^ p : Nat) : Int) := by
  have h := pow_lt p hp
  have e : ((2 : Int) ^ p) = ((2 ^ p : Nat) : Int) := by simp
  rw [e]
  generalize 2 ^ p = X at *
  omega

theorem eq_cast (n : Nat) : (((n : Nat) : Int) == 0) = (n == 0) := by rw [Bool.eq_iff_iff]; simp
theorem ne_cast (n : Nat) : (((n : Nat) : Int) != 0) = (n != 0) := by rw [Bool.eq_iff_iff]; simp

set_option maxHeartbeats 1000000 in
theorem single_c (p : Nat) (w : World) (hp : p < 32) : Calls Tryd.prog 91 #[.int .i64 (p : Int)] w fun e w' => e = .returned (sv (2 ^ p)) ∧ New w w' := by
  have HA := Lib.hid (pow_wrap p hp)
  go_enter Tryd.func91, Tryd.ntmps91
  go_wp2_with fail
  go_ret
  exact ⟨ret_int HA.out, New.refl _⟩

set_option maxHeartbeats 1000000 in
theorem without_c (s t : Nat) (w : World) (hs : s < 4294967296) (ht : t < 4294967296) : Calls Tryd.prog 90 #[sv s, sv t] w fun e w' => e = .returned (sv (wo s t)) ∧ New w w' := by
  have HA := Lib.hid (andNot32 s t hs ht)
  go_enter Tryd.func90, Tryd.ntmps90
  go_wp2_with fail
  go_ret
  exact ⟨ret_int HA.out, New.refl _⟩

/-- the places below n -/
def fst (n : Nat) : Nat := 2 ^ n - 1
theorem fst_bit (n i : Nat) : (fst n).testBit i = decide (i < n) := by unfold fst; exact Nat.testBit_two_pow_sub_one _ _
theorem fst_lt (n : Nat) (h : n < 32) : fst n < 4294967296 := by have := pow_lt n h; unfold fst; omega
set_option maxHeartbeats 1000000 in
theorem firstPatches_c (n : Nat) (w : World) (hn : n < 32) : Calls Tryd.prog 102 #[.int .i64 (n : Int)] w fun e w' => e = .returned (sv (fst n)) ∧ New w w' := by
  have HA := Lib.hid (show (((2 ^ n : Nat) : Int) - 1) % 4294967296 = ((fst n : Nat) : Int) by have h1 := pow_lt n hn; have h2 := Nat.two_pow_pos n; unfold fst; omega)
  have HS := Lib.hid (fun (w1 : World) => single_c n w1 hn)
  generalize 2 ^ n = X at *
  go_enter Tryd.func102, Tryd.ntmps102
  go_wp2_with (go_at_call 91; refine (HS.out _).mono ?_; rintro e w' ⟨rfl, hn'⟩)
  go_ret
  exact ⟨ret_int HA.out, hn'⟩

set_option maxHeartbeats 1000000 in
theorem has_c (s p : Nat) (w : World) (hs : s < 4294967296) (hp : p < 32) : Calls Tryd.prog 70 #[sv s, .int .i64 (p : Int)] w fun e w' => e = .returned (.bool (s.testBit p)) ∧ New w w' := by
  have HA := Lib.hid (and32 s (2 ^ p) hs (pow_lt p hp))
  have HB := Lib.hid (bit_and s p)
  have HS := Lib.hid (fun (w1 : World) => single_c p w1 hp)
  generalize 2 ^ p = X at *
  go_enter Tryd.func70, Tryd.ntmps70
  go_wp2_with (go_at_call 91; refine (HS.out _).mono ?_; rintro e w' ⟨rfl, hn'⟩)
  go_ret
  exact ⟨ret_bool (by rw [HA.out, ← HB.out]; exact ne_cast _), hn'⟩

set_option maxHeartbeats 1000000 in
theorem isPartOf_c (s t : Nat) (w : World) (hs : s < 4294967296) (ht : t < 4294967296) : Calls Tryd.prog 139 #[sv s, sv t] w fun e w' => e = .returned (.bool (wo s t == 0)) ∧ New w w' := by
  have HS := Lib.hid (fun (w1 : World) => without_c s t w1 hs ht)
  generalize wo s t = X at *
  go_enter Tryd.func139, Tryd.ntmps139
  go_wp2_with (go_at_call 90; refine (HS.out _).mono ?_; rintro e w' ⟨rfl, hn'⟩)
  go_ret
  exact ⟨ret_bool (eq_cast _), hn'⟩

set_option maxHeartbeats 1000000 in
theorem tz_core (x k idx : Nat) (w : World) (hx0 : ((x : Int) == 0) = false)
    (key : bits BinOp.and IntKind.u32 (x : Int) (-(x : Int) % 4294967296) * 125613361 % 4294967296 / 134217728 = (idx : Int))
    (hi : idx < 32) (hk : k < 32) (hcell : w.cell? ⟨0, idx, none⟩ = some (.int .u8 k)) :
    Calls Tryd.prog 155 #[.int .u32 x] w fun e w' => e = .returned (.int .i64 k) ∧ w' = w := by
  go_enter Tryd.func155, Tryd.ntmps155
  go_wp2_with (simp only [key])
  go_ret
  exact ⟨rfl, rfl⟩

set_option maxHeartbeats 1000000 in
theorem tz_zero (w : World) : Calls Tryd.prog 155 #[.int .u32 0] w fun e w' => e = .returned (.int .i64 32) ∧ w' = w := by
  go_enter Tryd.func155, Tryd.ntmps155
  go_wp2
  go_ret
  exact ⟨rfl, rfl⟩
theorem tz_key (x a : Nat) (hx : x < 4294967296) (hx0 : x ≠ 0) (hlow : x &&& (4294967296 - x) = a) :
    bits BinOp.and IntKind.u32 (x : Int) (-(x : Int) % 4294967296) * 125613361 % 4294967296 / 134217728 = ((a * 125613361 % 4294967296 / 134217728 : Nat) : Int) := by
  have e1 : -(x : Int) % 4294967296 = ((4294967296 - x : Nat) : Int) := by omega
  rw [e1, and32 x _ hx (by omega), hlow]
  omega

/-- the table of the library in its variable -/
def Tab (w : World) : Prop := 0 < w.heap.size ∧ ∀ j, j < 32 → w.cell? ⟨0, j, none⟩ = some (.int .u8 ((Lib.deBruijn32tab.getD j 0 : Nat) : Int))
theorem Tab.new {w w' : World} (h : Tab w) (hn : New w w') : Tab w' := ⟨Nat.lt_of_lt_of_le h.1 hn.size, fun j hj => by rw [hn.cell h.1]; exact h.2 j hj⟩
theorem tz_c (x : Nat) (hx : x < 4294967296) (w : World) (hT : Tab w) :
    Calls Tryd.prog 155 #[.int .u32 x] w fun e w' => e = .returned (.int .i64 (Lib.ctz 32 x)) ∧ w' = w := by
  by_cases hx0 : x = 0
  · subst hx0
    exact tz_zero w
  · obtain ⟨hlow, hk⟩ := Lib.lowest_bit 32 x hx0 hx
    obtain ⟨hi, htab⟩ := Lib.deBruijn32_at _ hk
    have hcell := hT.2 _ hi
    rw [htab] at hcell
    exact tz_core x _ _ w (by simp; omega) (tz_key x _ hx hx0 hlow) hi hk hcell

/-- the least place of a set -/
def low (s : Nat) : Nat := Lib.ctz 32 s
theorem low_spec {s : Nat} (h0 : s ≠ 0) (hs : s < 4294967296) : s.testBit (low s) = true ∧ (∀ i, i < low s → s.testBit i = false) ∧ low s < 32 := by
  obtain ⟨m, hm, hk⟩ := Lib.ctzFrom_spec 32 s (by omega) hs
  have e : low s = Lib.ctzFrom 32 s := by unfold low Lib.ctz; rw [if_neg h0]
  rw [e]
  generalize Lib.ctzFrom 32 s = k at *
  subst hm
  refine ⟨?_, fun i hi => ?_, hk⟩
  · rw [Nat.testBit_two_pow_mul]; simp [Nat.testBit_zero]
  · rw [Nat.testBit_two_pow_mul]; simp; omega
set_option maxHeartbeats 1000000 in
theorem least_c (s : Nat) (w : World) (hs : s < 4294967296) (hT : Tab w) : Calls Tryd.prog 141 #[sv s] w fun e w' => e = .returned (.int .i64 (low s)) ∧ New w w' := by
  have HS := Lib.hid (tz_c s hs w hT)
  have e1 : Lib.ctz 32 s = low s := rfl
  rw [e1] at HS
  clear hT
  generalize low s = X at *
  go_enter Tryd.func141, Tryd.ntmps141
  go_wp2_with (go_at_call 155; refine HS.out.mono ?_; rintro e w' ⟨rfl, hn'⟩)
  subst hn'
  go_ret
  exact ⟨rfl, New.refl _⟩
end Go.Proofs.YtiejefehcpfkaaaDoor
