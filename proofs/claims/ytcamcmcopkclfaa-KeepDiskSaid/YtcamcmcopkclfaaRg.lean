/- One operation on both disks: step. -/
import Derived.Test.YtcamcmcopkclfaaRf
set_option linter.unusedSimpArgs false
set_option linter.unusedVariables false
set_option maxRecDepth 100000
namespace Go.Proofs.Ytcamcmcopkclfaa
open Go.RowKit

def Two0 (w W : World) (D R n : Nat) (s r : DS) : Prop :=
  ∃ S pv dv rv l, New w W ∧ Dk W w.heap.size D S n pv s ∧ Rk W w.heap.size R n dv rv l r ∧ (∀ k, OD D S pv k → ¬ OR R dv rv k)
theorem Two.drop {w W : World} {D R n : Nat} {s r : DS} {B : Nat} {o : Obj} (h : Two w W D R n s r B o) : Two0 w W D R n s r := by
  obtain ⟨S, pv, dv, rv, l, h1, h2, h3, h4, h5, h6, h7⟩ := h
  exact ⟨S, pv, dv, rv, l, h1, h2, h3, h4⟩
theorem Two0.box {w W W' : World} {D R n : Nat} {s r : DS} (h : Two0 w W D R n s r) (hn : New W W') (B : Nat) (o : Obj) (hB : W.heap.size ≤ B) (hb : W'.heap[B]? = some o) : Two w W' D R n s r B o := by
  obtain ⟨S, pv, dv, rv, l, h1, h2, h3, h4⟩ := h
  have hm : Mod (fun _ => False) W W' := Mod.of_new hn
  exact ⟨S, pv, dv, rv, l, h1.trans hn, h2.keep hm (fun h => h) (fun h => h) (fun _ _ h => h), h3.keep hm (fun h => h) (fun _ _ h => h) (fun _ _ h => h), h4, fun hk => by have := (OD.lt h2 hk).2; omega, fun hk => by have := (OR.lt h3 hk).2; omega, hb⟩
theorem Two0.new {w W : World} {D R n : Nat} {s r : DS} (h : Two0 w W D R n s r) : New w W := by obtain ⟨S, pv, dv, rv, l, h1, _⟩ := h; exact h1
theorem Two0.grow {w W W' : World} {D R n : Nat} {s r : DS} (h : Two0 w W D R n s r) (hn : New W W') : Two0 w W' D R n s r := by
  obtain ⟨S, pv, dv, rv, l, h1, h2, h3, h4⟩ := h
  have hm : Mod (fun _ => False) W W' := Mod.of_new hn
  exact ⟨S, pv, dv, rv, l, h1.trans hn, h2.keep hm (fun h => h) (fun h => h) (fun _ _ h => h), h3.keep hm (fun h => h) (fun _ _ h => h) (fun _ _ h => h), h4⟩

def opObj (kind sec nn : Int) (dv kv : Value) : Obj := .cells #[.int .u8 kind, .int .i64 sec, dv, .int .i64 nn, kv] 36
structure BoxC (W : World) (B : Nat) (kind sec nn : Int) (dv kv : Value) : Prop where
  b0 : W.cell? ⟨B, 0, none⟩ = some (.int .u8 kind)
  b1 : W.cell? ⟨B, 1, none⟩ = some (.int .i64 sec)
  b2 : W.cell? ⟨B, 2, none⟩ = some dv
  b3 : W.cell? ⟨B, 3, none⟩ = some (.int .i64 nn)
  b4 : W.cell? ⟨B, 4, none⟩ = some kv
theorem box_op {W : World} {B : Nat} {kind sec nn : Int} {dv kv : Value} (h : W.heap[B]? = some (opObj kind sec nn dv kv)) : BoxC W B kind sec nn dv kv := by
  constructor <;> rw [cell_of_row W B _ _ _ _ h] <;> rfl
/-- what step leaves -/
def StepR (w : World) (D R n : Nat) (s : DS) (e : Ending) (w' : World) : Prop := e = .returned (.bool true) ∧ ∃ s', Two0 w w' D R n s' s' ∧ s'.pend.length ≤ s.pend.length + 1
theorem pend_write (s : DS) (n : Nat) (a : Int) (b : List UInt8) : (s.write n a b).pend.length ≤ s.pend.length + 1 := by
  unfold DS.write
  split
  · omega
  · split
    · omega
    · split
      · show s.pend.length ≤ _; omega
      · show (s.pend ++ [_]).length ≤ _; simp
theorem pend_flush (s : DS) : s.flush.pend.length ≤ s.pend.length + 1 := by
  unfold DS.flush
  split
  · omega
  · split
    · show s.pend.length ≤ _; omega
    · simp
theorem pend_stop (s : DS) (c : Int) : (s.stop c).pend.length ≤ s.pend.length + 1 := by
  unfold DS.stop
  split
  · omega
  · split
    · omega
    · simp
theorem pend_crash (s : DS) (ks : List Int) : (s.crash ks).pend.length ≤ s.pend.length + 1 := by simp [DS.crash]

section
variable {w W : World} {D R n : Nat} {s : DS} {dv kv : Value} {b : List UInt8} {ks : List Int} (kind sec nn : Int)

theorem refS_str (s : DS) (n : Nat) (a : Int) : ∃ x, refS s n a = .string x := by
  unfold refS; split <;> exact ⟨_, rfl⟩

set_option maxHeartbeats 4000000 in
theorem step_read (h : Two0 w W D R n s s) (hk0 : 0 ≤ kind) (hk : kind % 5 = 0) (hroom : s.pend.length ≤ 1000) :
    Calls Try.prog 9 #[.pointer (some ⟨D, 0, none⟩), .pointer (some ⟨R, 0, none⟩), .agg #[.int .u8 kind, .int .i64 sec, dv, .int .i64 nn, kv]] W fun e w' => StepR w D R n s e w' := by
  obtain ⟨B, hB⟩ : ∃ B, B = W.heap.size := ⟨_, rfl⟩
  have hT := h.box ((New.refl W).alloc (opObj kind sec nn dv kv)) W.heap.size (opObj kind sec nn dv kv) (Nat.le_refl _) (World.alloc_heap_new _ _)
  have bc := box_op hT.box
  rw [← hB] at hT bc
  have HT := Lib.hid hT
  obtain ⟨b0, b1, b2, b3, b4⟩ := bc
  have hz0 : (kind % 5 == 0) = true := by simpa using hk
  have HB := Lib.hid hB
  unfold opObj at b0 b1 HT
  rw [hB] at b0 b1
  clear hT h hk b2 b3 b4 hB
  go_enter Try.func9, Try.ntmps9
  go_wp2_with fail
  rw [← HB.out]
  refine (two_read HT.out sec).mono ?_
  rintro e w1 ⟨v, rfl, ht1, hc1⟩
  have HT1 := Lib.hid ht1
  have bc := box_op ht1.box
  obtain ⟨a0, a1, -, -, -⟩ := bc
  have HC1 := Lib.hid hc1
  clear ht1 hc1 b0 b1
  go_wp2_with fail
  refine (two_readR HT1.out sec hroom).mono ?_
  rintro e w' ⟨rfl, rfl⟩
  obtain ⟨x, hx⟩ := refS_str s n sec
  have hc1 := HC1.out
  rw [hx] at hc1 ⊢
  generalize refI s n sec = r
  clear hx
  go_wp2_with fail
  go_ret
  exact ⟨rfl, s, HT1.out.drop, by omega⟩

set_option maxHeartbeats 4000000 in
theorem step_flush (h : Two0 w W D R n s s) (hk0 : 0 ≤ kind) (hk : kind % 5 = 2) (hroom : s.pend.length ≤ 1000) :
    Calls Try.prog 9 #[.pointer (some ⟨D, 0, none⟩), .pointer (some ⟨R, 0, none⟩), .agg #[.int .u8 kind, .int .i64 sec, dv, .int .i64 nn, kv]] W fun e w' => StepR w D R n s e w' := by
  obtain ⟨B, hB⟩ : ∃ B, B = W.heap.size := ⟨_, rfl⟩
  have hT := h.box ((New.refl W).alloc (opObj kind sec nn dv kv)) W.heap.size (opObj kind sec nn dv kv) (Nat.le_refl _) (World.alloc_heap_new _ _)
  have bc := box_op hT.box
  rw [← hB] at hT bc
  have HT := Lib.hid hT
  obtain ⟨b0, b1, b2, b3, b4⟩ := bc
  have hz0 : (kind % 5 == 0) = false := by simp; omega
  have hz1 : (kind % 5 == 1) = false := by simp; omega
  have hz2 : (kind % 5 == 2) = true := by simpa using hk
  have HB := Lib.hid hB
  unfold opObj at b0 HT
  rw [hB] at b0
  clear hT h hk b1 b2 b3 b4 hB
  go_enter Try.func9, Try.ntmps9
  go_wp2_with fail
  refine (two_flush HT.out).mono ?_
  rintro e w1 ⟨rfl, ht1⟩
  have HT1 := Lib.hid ht1
  clear ht1 b0
  go_wp2_with fail
  refine (two_flushR HT1.out hroom).mono ?_
  rintro e w2 ⟨rfl, ht2⟩
  have HT2 := Lib.hid ht2
  generalize s.flushE = r
  clear ht2
  go_wp2_with fail
  go_ret
  exact ⟨rfl, s.flush, HT2.out.drop, pend_flush s⟩

set_option maxHeartbeats 4000000 in
theorem step_crash (h : Two0 w W D R n s s) (hk0 : 0 ≤ kind) (hk : kind % 5 = 4) (hroom : s.pend.length ≤ 1000) (hkv : ArgI w kv ks) (hkl : ks.length ≤ 200) :
    Calls Try.prog 9 #[.pointer (some ⟨D, 0, none⟩), .pointer (some ⟨R, 0, none⟩), .agg #[.int .u8 kind, .int .i64 sec, dv, .int .i64 nn, kv]] W fun e w' => StepR w D R n s e w' := by
  obtain ⟨B, hB⟩ : ∃ B, B = W.heap.size := ⟨_, rfl⟩
  have hT := h.box ((New.refl W).alloc (opObj kind sec nn dv kv)) W.heap.size (opObj kind sec nn dv kv) (Nat.le_refl _) (World.alloc_heap_new _ _)
  have bc := box_op hT.box
  rw [← hB] at hT bc
  have HT := Lib.hid hT
  obtain ⟨b0, b1, b2, b3, b4⟩ := bc
  have hz0 : (kind % 5 == 0) = false := by simp; omega
  have hz1 : (kind % 5 == 1) = false := by simp; omega
  have hz2 : (kind % 5 == 2) = false := by simp; omega
  have hz3 : (kind % 5 == 3) = false := by simp; omega
  have HB := Lib.hid hB
  have HKV := Lib.hid hkv
  obtain ⟨ka, kc, hkf, -⟩ := hkv
  subst hkf
  unfold opObj at b0 b4 HT
  rw [hB] at b0 b4
  clear hT h hk b1 b2 b3 hB
  go_enter Try.func9, Try.ntmps9
  go_wp2_with fail
  rw [← HB.out]
  refine (two_crash HT.out HKV.out (by omega) hroom).mono ?_
  rintro e w1 ⟨rfl, ht1⟩
  have HT1 := Lib.hid ht1
  have bc := box_op ht1.box
  obtain ⟨-, -, -, -, a4⟩ := bc
  clear ht1 b0 b4
  go_wp2_with fail
  refine (two_crashR HT1.out HKV.out (by omega) hroom).mono ?_
  rintro e w2 ⟨rfl, ht2⟩
  have HT2 := Lib.hid ht2
  clear ht2
  go_wp2_with fail
  go_ret
  exact ⟨rfl, s.crash ks, HT2.out.drop, pend_crash s ks⟩

set_option maxHeartbeats 4000000 in
theorem step_stop (h : Two0 w W D R n s s) (hk0 : 0 ≤ kind) (hk : kind % 5 = 3) (hnn : nn ≤ 9223372036854775807) :
    Calls Try.prog 9 #[.pointer (some ⟨D, 0, none⟩), .pointer (some ⟨R, 0, none⟩), .agg #[.int .u8 kind, .int .i64 sec, dv, .int .i64 nn, kv]] W fun e w' => StepR w D R n s e w' := by
  obtain ⟨B, hB⟩ : ∃ B, B = W.heap.size := ⟨_, rfl⟩
  have hT := h.box ((New.refl W).alloc (opObj kind sec nn dv kv)) W.heap.size (opObj kind sec nn dv kv) (Nat.le_refl _) (World.alloc_heap_new _ _)
  have bc := box_op hT.box
  rw [← hB] at hT bc
  have HT := Lib.hid hT
  obtain ⟨b0, b1, b2, b3, b4⟩ := bc
  have hz0 : (kind % 5 == 0) = false := by simp; omega
  have hz1 : (kind % 5 == 1) = false := by simp; omega
  have hz2 : (kind % 5 == 2) = false := by simp; omega
  have hz3 : (kind % 5 == 3) = true := by simpa using hk
  have HB := Lib.hid hB
  unfold opObj at b0 b3 HT
  rw [hB] at b0 b3
  clear hT h hk b1 b2 b4 hB
  go_enter Try.func9, Try.ntmps9
  go_wp2_with fail
  rw [← HB.out]
  rw [← HB.out] at b0 b3
  obtain ⟨Wa, ea⟩ : ∃ Wa, Wa = W.alloc (.cells #[.int .u8 kind, .int .i64 sec, dv, .int .i64 nn, kv] 36) := ⟨_, rfl⟩
  rw [← ea] at b0 b3 HT ⊢
  clear ea
  go_region_held3 (fun w' => w'.cell? ⟨B, 3, none⟩ = some (.int .i64 nn)) ((first | assumption | exact b3)) (first | (go_at_call 19; refine (two_stop (HT.out.grow (New.drew (New.refl _))) nn hnn).mono ?_; rintro e w1 ⟨rfl, ht1⟩; have HT1 := Lib.hid ht1; have a3 := (box_op ht1.box).b3; clear ht1) | (go_at_call 20; refine (two_stopR HT1.out nn hnn).mono ?_; rintro e w2 ⟨rfl, ht2⟩; have HT2 := Lib.hid ht2; have a4 := (box_op ht2.box).b3; clear ht2))
  generalize s.stopE nn = r
  go_wp2_with fail
  go_ret
  exact ⟨rfl, s.stop nn, HT2.out.drop, pend_stop s nn⟩

set_option maxHeartbeats 4000000 in
theorem step_write (h : Two0 w W D R n s s) (hk0 : 0 ≤ kind) (hk : kind % 5 = 1) (hroom : s.pend.length ≤ 1000) (hdv : ArgB w dv b) (hdl : b.length ≤ 200) :
    Calls Try.prog 9 #[.pointer (some ⟨D, 0, none⟩), .pointer (some ⟨R, 0, none⟩), .agg #[.int .u8 kind, .int .i64 sec, dv, .int .i64 nn, kv]] W fun e w' => StepR w D R n s e w' := by
  obtain ⟨B, hB⟩ : ∃ B, B = W.heap.size := ⟨_, rfl⟩
  have hT := h.box ((New.refl W).alloc (opObj kind sec nn dv kv)) W.heap.size (opObj kind sec nn dv kv) (Nat.le_refl _) (World.alloc_heap_new _ _)
  have bc := box_op hT.box
  rw [← hB] at hT bc
  have HT := Lib.hid hT
  obtain ⟨b0, b1, b2, b3, b4⟩ := bc
  have hz0 : (kind % 5 == 0) = false := by simp; omega
  have hz1 : (kind % 5 == 1) = true := by simpa using hk
  have HB := Lib.hid hB
  have HDV := Lib.hid hdv
  have HCV := Lib.hid (fun W' (hn : New w W') => conv_arg hdv hn)
  obtain ⟨da, dc, hdf, -⟩ := hdv
  subst hdf
  unfold opObj at b0 b1 b2 HT
  rw [hB] at b0 b1 b2
  clear hT h hk b3 b4 hB
  go_enter Try.func9, Try.ntmps9
  go_wp2_with fail
  rw [← HB.out]
  rw [← HB.out] at b0 b1 b2
  have HTN := Lib.hid HT.out.new
  obtain ⟨Wa, ea⟩ : ∃ Wa, Wa = W.alloc (.cells #[.int .u8 kind, .int .i64 sec, .slice da b.length dc, .int .i64 nn, kv] 36) := ⟨_, rfl⟩
  rw [← ea] at b0 b1 b2 HT HTN ⊢
  have nWa := HTN.out
  clear ea
  have hcv := HCV.out
  obtain ⟨x, hx⟩ : ∃ x, strV b = .string x := ⟨_, rfl⟩
  have HX := Lib.hid hx
  rw [hx] at hcv
  clear hx
  go_region_held3 (fun w' => w'.cell? ⟨B, 1, none⟩ = some (.int .i64 sec) ∧ w'.cell? ⟨B, 2, none⟩ = some (.slice da b.length dc) ∧ New w w') ((first | exact ⟨b1, b2, New.drew nWa⟩ | exact ⟨a1, a2, a3⟩ | exact ⟨d1, d2, d3⟩)) (first | (go_at_call 11; refine (two_write (HT.out.grow (New.drew (New.refl _))) HDV.out sec (by omega) hroom).mono ?_; rintro e w1 ⟨rfl, ht1⟩; have HT1 := Lib.hid ht1; have a1 := (box_op ht1.box).b1; have a2 := (box_op ht1.box).b2; have a3 := ht1.new; clear ht1) | (go_at_call 17; rw [← HX.out]; refine (two_writeR HT1.out b sec (by omega) hroom).mono ?_; rintro e w2 ⟨rfl, ht2⟩; have HT2 := Lib.hid ht2; have d1 := (box_op ht2.box).b1; have d2 := (box_op ht2.box).b2; have d3 := ht2.new; clear ht2))
  generalize s.writeE n sec b = r
  go_wp2_with fail
  go_ret
  exact ⟨rfl, s.write n sec b, HT2.out.drop, pend_write s n sec b⟩
end
end Go.Proofs.Ytcamcmcopkclfaa
