/- The disk: Write whatever its arguments; NewDisk, Read. -/
import Derived.Test.YtcamcmcopkclfaaKe
import Derived.OwnWalk
set_option linter.unusedSimpArgs false
set_option linter.unusedVariables false
set_option maxRecDepth 100000
namespace Go.Proofs.Ytcamcmcopkclfaa
open Go.RowKit

theorem write_c {w : World} {base D S n : Nat} {pv bv : Value} {s : DS} {b : List UInt8} (h : Dk w base D S n pv s) (a : Int) (hb : Bs w D bv b) (hlen : b.length ≤ 9223372036854775807) (hroom : s.pend.length ≤ 1000) :
    Calls Try.prog 11 #[.pointer (some ⟨D, 0, none⟩), .int .i64 a, bv] w fun e w' => e = .returned (.int .i64 (s.writeE n a b)) ∧ After w base D S n pv (s.write n a b) w' := by
  by_cases hno : refI s n a ≠ 0 ∨ 64 < b.length ∨ s.fails = true
  · exact write_no h a hb hno hlen
  · have h1 : refI s n a = 0 := by
      by_cases h : refI s n a = 0
      · exact h
      · exact absurd (.inl h) hno
    have h2 : b.length ≤ 64 := by
      by_cases h : b.length ≤ 64
      · exact h
      · exact absurd (.inr (.inl (by omega))) hno
    have h3 : s.fails = false := by
      cases h : s.fails
      · rfl
      · exact absurd (.inr (.inr h)) hno
    obtain ⟨hdn, ha0, ha1⟩ := refI_zero h1
    obtain ⟨k, rfl⟩ : ∃ k : Nat, a = k := ⟨a.toNat, by omega⟩
    obtain ⟨ad, cap, rfl, hb'⟩ := hb
    unfold DS.writeE DS.write
    rw [h1, h3]
    simp only [ne_eq, not_true_eq_false, if_false, Bool.false_eq_true, if_neg (show ¬ 64 < b.length by omega), Int.toNat_natCast]
    exact write_yes h k ad cap ⟨ad, cap, rfl, hb'⟩ h1 h2 h3 hroom

theorem zero60 : (Try.prog.info? 60).map (·.zero) = some (some (.agg (bV (List.replicate 64 0)).toArray)) := by kernel_rfl
theorem bytes60 : (Try.prog.info? 60).map (·.bytes) = some 64 := by kernel_rfl

theorem wpList_make_z {P : Program} {w : World} {ops : Array Oper} {rest : List Oper} {o : Oper} {a : Act} {Q : Exit → Act → World → Prop} (hgd : o.guard = none) (l c : Operand) (t : TypeId) (hop : o.op = Op.makeSlice t l c)
    (e : TypeId) (i : TypeInfo) (z : Value) (ht : P.underlying t = some (.slice e)) (hi : P.info? e = some i) (hz : i.zero = some z) (n : Nat) (hl : a.eval l = .int .i64 (n : Int)) (hc : a.eval c = .int .i64 (n : Int))
    (h1 : n * i.size ≤ 16777216) (h2 : (i.bytes : Int) * (n : Int) ≤ 281474976710656) (h3 : (n : Int) ≤ 9223372036854775807)
    (h : wpList P ops Q rest (a.put o.dst (.slice (some ⟨w.heap.size, 0, none⟩) n n)) (w.alloc (.cells (madeCells z.cells (n * i.size)) e))) : wpList P ops Q (o :: rest) a w := by
  refine wpList_plain hgd fun K hK => ?_
  have hrun := run_makeSlice (P := P) w t e i z ht hi hz .i64 .i64 n n (by omega) (Int.le_refl _) (by simpa using h1) h2 h3
  simp only [Int.toNat_natCast] at hrun
  unfold Oper.wp
  simp [execOp, hop, hl, hc, hrun, Result.andThen]
  exact hK _ _ h
theorem bV_replicate (n : Nat) : bV (List.replicate n 0) = List.replicate n (.int .u8 0) := by simp [bV, List.map_replicate]
theorem made_rep (m k : Nat) (hm : 0 < m) (v : Value) : madeCells (List.replicate m v).toArray k = (List.replicate k v).toArray := by
  apply Array.ext'
  apply List.ext_getElem
  · simp [madeCells]
  · intro j h1 h2
    have hk : j % m < m := Nat.mod_lt _ hm
    simp [madeCells, getElem!_pos, hk]
theorem made_zero (n : Nat) : madeCells (bV (List.replicate 64 0)).toArray (n * 64) = (bV (List.replicate (n * 64) 0)).toArray := by
  rw [bV_replicate, bV_replicate]; exact made_rep 64 _ (by omega) _

/-- an empty disk -/
def DS.empty (n : Nat) : DS := { dur := List.replicate (n * 64) 0, pend := [], down := false, stops := false, calls := 0 }

set_option maxHeartbeats 800000 in
theorem newDisk_no (n : Int) (w : World) (h : n < 16 ∨ 65536 < n) :
    Calls Try.prog 7 #[.int .i64 n] w fun e w' => e = .returned (.tuple #[.pointer none, .int .i64 1]) ∧ w = w' := by
  by_cases h1 : n < 16
  · go_enter Try.func7, Try.ntmps7
    go_wp2_with fail
    go_ret2
    exact ⟨rfl, rfl⟩
  · have h2 : 65536 < n := by omega
    clear h
    go_enter Try.func7, Try.ntmps7
    go_wp2_with fail
    go_ret2
    exact ⟨rfl, rfl⟩

set_option maxHeartbeats 800000 in
theorem newDisk_yes (n : Nat) (w : World) (h1 : 16 ≤ n) (h2 : n ≤ 65536) :
    Calls Try.prog 7 #[.int .i64 (n : Int)] w fun e w' => e = .returned (.tuple #[.pointer (some ⟨w.heap.size + 1, 0, none⟩), .int .i64 0]) ∧ New w w' ∧ Dk w' w.heap.size (w.heap.size + 1) w.heap.size n (.slice none 0 0) (DS.empty n) := by
  have k1 : (16 : Int) ≤ n := by omega
  have k2 : (n : Int) ≤ 65536 := by omega
  go_enter Try.func7, Try.ntmps7
  obtain ⟨i0, hi0, his, hib, hiz⟩ : ∃ i0, Try.prog.info? 60 = some i0 ∧ i0.size = 64 ∧ i0.bytes = 64 ∧ i0.zero = some (.agg (bV (List.replicate 64 0)).toArray) := by
    have h1 := zero60; have h2 := size60; have h3 := bytes60
    cases hq : Try.prog.info? 60 with
    | none => rw [hq] at h1; simp at h1
    | some i => rw [hq] at h1 h2 h3; simp only [Option.map_some, Option.some.injEq] at h1 h2 h3; exact ⟨i, rfl, h2, h3, h1⟩
  obtain ⟨Z, hZ⟩ : ∃ Z, Z = (bV (List.replicate (n * 64) 0)).toArray := ⟨_, rfl⟩
  have HZ := Lib.hid hZ
  have HI := Lib.hid hi0
  have HS := Lib.hid his
  have HB := Lib.hid hib
  have HIZ := Lib.hid hiz
  clear hZ hi0 his hib hiz
  go_wp2_with (at_make; refine wpList_make_z rfl (.tmp 10) (.tmp 10) 49 rfl 60 i0 _ Try.underlying49 HI.out HIZ.out n rfl rfl (by rw [HS.out]; omega) (by rw [HB.out]; omega) (by omega) ?_; rw [show madeCells (Value.agg (bV (List.replicate 64 0)).toArray).cells (n * i0.size) = Z by rw [HS.out, HZ.out]; exact made_zero n])
  go_ret2
  refine ⟨rfl, ((New.refl w).alloc _).alloc _, ?_⟩
  have e1 : ((w.alloc (.cells Z 60)).alloc (.cells #[.slice (some ⟨w.heap.size, 0, none⟩) n n, .slice none 0 0, .bool false, .bool false, .int .i64 0] 52)).heap[w.heap.size + 1]? = some (.cells #[.slice (some ⟨w.heap.size, 0, none⟩) n n, .slice none 0 0, .bool false, .bool false, .int .i64 0] 52 (0, 0)) := by
    have := World.alloc_heap_new (w.alloc (.cells Z 60)) (.cells #[.slice (some ⟨w.heap.size, 0, none⟩) n n, .slice none 0 0, .bool false, .bool false, .int .i64 0] 52)
    rwa [World.size_alloc] at this
  have e2 : ((w.alloc (.cells Z 60)).alloc (.cells #[.slice (some ⟨w.heap.size, 0, none⟩) n n, .slice none 0 0, .bool false, .bool false, .int .i64 0] 52)).heap[w.heap.size]? = some (.cells Z 60 (0, 0)) :=
    (Below.heap_alloc _ _ _ (by simp)).trans (World.alloc_heap_new w _)
  refine ⟨e1, ?_, World.ownsRow_nil _ _ _ _, by omega, by simp [Value.ownBlock], by simp [Value.ownBlock], by omega, by omega, h1, h2, by simp [DS.empty], by simp [DS.empty, okPd], by simp [DS.empty], by simp [DS.empty]⟩
  rw [e2, HZ.out]
  rfl

/-- a result that reads as the bytes b, in a block from B on -/
def Reads (w : World) (B : Nat) (v : Value) (b : List UInt8) : Prop := ∃ g, v = .slice (some ⟨g, 0, none⟩) b.length b.length ∧ B ≤ g ∧ w.heap[g]? = some (.cells (bV b).toArray 60 (0, 0))

set_option maxHeartbeats 800000 in
theorem read_no {w : World} {base D S n : Nat} {pv : Value} {s : DS} (h : Dk w base D S n pv s) (a : Int) (hr : refI s n a ≠ 0) :
    Calls Try.prog 14 #[.pointer (some ⟨D, 0, none⟩), .int .i64 a] w fun e w' => e = .returned (.tuple #[.slice none 0 0, .int .i64 (refI s n a)]) ∧ w = w' := by
  have HR := Lib.hid (refusal_c h a)
  have h0' : (refI s n a != 0) = true := by simpa using hr
  have hr' : (refI s n a == 0) = false := by simpa using hr
  generalize refI s n a = r at *
  clear hr h
  go_enter Try.func14, Try.ntmps14
  go_wp2_with (first | (go_at_call 22; refine (HR.out).mono ?_; rintro e w' ⟨rfl, rfl⟩))
  go_ret2
  exact ⟨rfl, rfl⟩

set_option maxHeartbeats 800000 in
theorem read_yes {w : World} {base D S n : Nat} {pv : Value} {s : DS} (h : Dk w base D S n pv s) (a : Nat) (hr : refI s n (a : Int) = 0) :
    Calls Try.prog 14 #[.pointer (some ⟨D, 0, none⟩), .int .i64 (a : Int)] w fun e w' => ∃ v, e = .returned (.tuple #[v, .int .i64 0]) ∧ Reads w' w.heap.size v (sect (cur s.dur s.pend) a) ∧ New w w' := by
  have HR := Lib.hid (refusal_c h (a : Int))
  obtain ⟨hdn, ha0, ha⟩ := refI_zero hr
  rw [hr] at HR
  have HD := Lib.hid h
  have hLC := h.lenC
  obtain ⟨X, hX⟩ : ∃ X, X = sect (cur s.dur s.pend) a := ⟨_, rfl⟩
  have hXl : X.length = 64 := by rw [hX, sect_length _ _ (by omega)]
  obtain ⟨CS, hCS⟩ : ∃ CS, CS = bV X := ⟨_, rfl⟩
  have hCl : CS.length = 64 := by rw [hCS, bV_length, hXl]
  have HRg := Lib.hid (show w.rangeAt S (a * 64) CS by
    have := range_of_block h.hS (a * 64) 64
    rw [hCS, hX]; simpa [sect, bV] using this)
  have HC1 := Lib.hid (show ∀ v ∈ CS, v.oneCell' = true by rw [hCS]; exact bV_one _)
  have HCl := Lib.hid hCl
  have HCS := Lib.hid hCS
  have HX := Lib.hid hX
  have HXl := Lib.hid hXl
  have c0 := h.c0
  obtain ⟨H, hH⟩ : ∃ H, w.heap.size = H := ⟨_, rfl⟩
  have HH := Lib.hid hH
  obtain ⟨Z, hZ⟩ : ∃ Z, Z = (bV (List.replicate 64 0)).toArray := ⟨_, rfl⟩
  have HZ := Lib.hid hZ
  rw [← HX.out]
  clear hr hdn h hLC hX hXl hCS hCl hH hZ
  go_enter Try.func14, Try.ntmps14
  go_wp2_with (first | (go_at_call 22; refine (HR.out).mono ?_; rintro e w' ⟨rfl, rfl⟩) | (refine wpList_load_mid rfl 60 (.tmp 19) rfl S (a * 64) rfl CS (.array 64 5) HRg.out Try.underlying60 rfl (by rw [HCl.out]; exact size60) ?_) | (refine wpList_alloc_z rfl 60 rfl Z (by rw [HZ.out]; exact zero60) ?_; rw [HH.out]) | (refine wpList_store_row rfl 60 (.tmp 7) (.tmp 20) rfl H CS.toArray rfl rfl 60 Z ?_ ?_ ?_ ?_ ?_; exact (by rw [← HH.out]; exact World.alloc_heap_new _ _); exact (by rw [List.size_toArray, HCl.out]; exact size60); exact (show Z.size = CS.length by rw [HCl.out, HZ.out]; simp); exact (all_oneCell_toArray HC1.out); obtain ⟨w2, e2, n2, b2, s2⟩ : ∃ w2, w2 = (w.alloc (.cells Z 60)).setRow H CS.toArray ∧ New w w2 ∧ w2.heap[H]? = some (.cells CS.toArray 60 (0, 0)) ∧ w2.heap.size = H + 1 := ⟨_, rfl, made_row H HH.out _ _ _⟩; rw [← e2]; have N2 := Lib.hid n2; have B2 := Lib.hid b2; clear e2 n2 b2 s2))
  go_ret2
  exact ⟨_, rfl, ⟨H, by rw [HXl.out]; rfl, by rw [HH.out]; exact Nat.le_refl _, by rw [← HCS.out]; exact B2.out⟩, N2.out⟩

end Go.Proofs.Ytcamcmcopkclfaa
