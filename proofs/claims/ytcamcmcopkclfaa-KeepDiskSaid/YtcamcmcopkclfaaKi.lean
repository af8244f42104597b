/- The chapter's examples about disks: the law's first function. -/
import Derived.Test.YtcamcmcopkclfaaKh
set_option linter.unusedSimpArgs false
set_option linter.unusedVariables false
set_option maxRecDepth 100000
namespace Go.Proofs.Ytcamcmcopkclfaa
open Go.RowKit

theorem newDisk_at (n : Nat) (w : World) (h1 : 16 ≤ n) (h2 : n ≤ 65536) :
    Calls Try.prog 7 #[.int .i64 (n : Int)] w fun e w' => ∃ D S, e = .returned (.tuple #[.pointer (some ⟨D, 0, none⟩), .int .i64 0]) ∧ New w w' ∧ Dk w' w.heap.size D S n (.slice none 0 0) (DS.empty n) :=
  (newDisk_yes n w h1 h2).mono fun _ _ ⟨h1, h2, h3⟩ => ⟨_, _, h1, h2, h3⟩
theorem newDisk_16 (w : World) :
    Calls Try.prog 7 #[.int .i64 16] w fun e w' => ∃ D S, e = .returned (.tuple #[.pointer (some ⟨D, 0, none⟩), .int .i64 0]) ∧ New w w' ∧ Dk w' w.heap.size D S 16 (.slice none 0 0) (DS.empty 16) :=
  newDisk_at 16 w (by omega) (by omega)

theorem After.new {w W W' : World} {base D S n : Nat} {pv : Value} {s s' : DS} (hN : New w W) (hb : w.heap.size ≤ base) (hk : Dk W base D S n pv s) (ha : After W base D S n pv s' W') : ∃ pv', New w W' ∧ Dk W' base D S n pv' s' := by
  obtain ⟨pv', hm, hd, _⟩ := ha
  refine ⟨pv', Mod.new hN hm ?_, hd⟩
  rintro k (rfl | rfl | h)
  · exact Nat.le_trans hb hk.bD
  · exact Nat.le_trans hb hk.bS
  · exact Nat.le_trans hb (hk.hP.lt k h).1
/-- Write of bytes that lie in a new block -/
theorem write_lit {w W : World} {base D S n : Nat} {pv : Value} {s : DS} (hN : New w W) (hb : w.heap.size ≤ base) (hk : Dk W base D S n pv s) (a : Int) (b : List UInt8) (C : Array Value) (hC : C = (bV b).toArray) (t : TypeId) (fr : Nat × Nat) (m cap : Nat) (hm : m = b.length) (h64 : b.length ≤ 1000) (hroom : s.pend.length ≤ 1000) :
    Calls Try.prog 11 #[.pointer (some ⟨D, 0, none⟩), .int .i64 a, .slice (some ⟨W.heap.size, 0, none⟩) m cap] (W.alloc (.cells C t fr)) fun e w' => ∃ pv', e = .returned (.int .i64 (s.writeE n a b)) ∧ New w w' ∧ Dk w' base D S n pv' (s.write n a b) := by
  subst hm
  subst hC
  have hD := (Array.getElem?_eq_some_iff.1 hk.hD).1
  have hk2 : Dk (W.alloc (.cells (bV b).toArray t fr)) base D S n pv s := hk.keep (Mod.of_new (O := fun _ => False) ((New.refl W).alloc _)) (fun h => h) (fun h => h) (fun _ _ h => h)
  have hbs : Bs (W.alloc (.cells (bV b).toArray t fr)) D (.slice (some ⟨W.heap.size, 0, none⟩) b.length cap) b := by
    refine ⟨_, _, rfl, fun _ => ⟨W.heap.size, 0, rfl, ?_, by omega⟩⟩
    have := range_of_block (World.alloc_heap_new W (.cells (bV b).toArray t fr)) 0 b.length
    rwa [List.drop_zero, List.take_of_length_le (by simp)] at this
  refine (write_c hk2 a hbs (by omega) hroom).mono ?_
  rintro e w' ⟨he, ha⟩
  obtain ⟨pv', h1, h2⟩ := After.new (hN.alloc _) hb hk2 ha
  exact ⟨pv', he, h1, h2⟩
theorem flush_n {w W : World} {base D S n : Nat} {pv : Value} {s : DS} (hN : New w W) (hb : w.heap.size ≤ base) (hk : Dk W base D S n pv s) :
    Calls Try.prog 12 #[.pointer (some ⟨D, 0, none⟩)] W fun e w' => ∃ pv', e = .returned (.int .i64 s.flushE) ∧ New w w' ∧ Dk w' base D S n pv' s.flush :=
  (flush_c hk).mono fun e w' ⟨he, ha⟩ => by obtain ⟨pv', h1, h2⟩ := After.new hN hb hk ha; exact ⟨pv', he, h1, h2⟩
/-- Crash with numbers that lie in a new block -/
theorem crash_lit {w W : World} {base D S n : Nat} {pv : Value} {s : DS} (hN : New w W) (hb : w.heap.size ≤ base) (hk : Dk W base D S n pv s) (ks : List Int) (C : Array Value) (hC : C = (ks.map (Value.int .i64)).toArray) (t : TypeId) (fr : Nat × Nat) (m cap : Nat) (hm : m = ks.length) (h64 : ks.length ≤ 1000) (hroom : s.pend.length ≤ 1000) :
    Calls Try.prog 13 #[.pointer (some ⟨D, 0, none⟩), .slice (some ⟨W.heap.size, 0, none⟩) m cap] (W.alloc (.cells C t fr)) fun e w' => ∃ pv', e = .returned (.tuple #[]) ∧ New w w' ∧ Dk w' base D S n pv' (s.crash ks) := by
  subst hm
  subst hC
  have hD := (Array.getElem?_eq_some_iff.1 hk.hD).1
  have hS := (Array.getElem?_eq_some_iff.1 hk.hS).1
  have hk2 : Dk (W.alloc (.cells (ks.map (Value.int .i64)).toArray t fr)) base D S n pv s := hk.keep (Mod.of_new (O := fun _ => False) ((New.refl W).alloc _)) (fun h => h) (fun h => h) (fun _ _ h => h)
  have hbs : Ks (W.alloc (.cells (ks.map (Value.int .i64)).toArray t fr)) D S pv (.slice (some ⟨W.heap.size, 0, none⟩) ks.length cap) ks := by
    refine ⟨_, _, rfl, fun _ => ⟨W.heap.size, 0, rfl, ?_, ?_⟩⟩
    · have := range_of_block (World.alloc_heap_new W (.cells (ks.map (Value.int .i64)).toArray t fr)) 0 ks.length
      rwa [List.drop_zero, List.take_of_length_le (by simp)] at this
    · rintro (h | h | h)
      · omega
      · omega
      · have := (hk.hP.lt _ h).2; omega
  refine (crash_c hk2 hbs (by omega) (by omega)).mono ?_
  rintro e w' ⟨he, ha⟩
  obtain ⟨pv', h1, h2⟩ := After.new (hN.alloc _) hb hk2 ha
  exact ⟨pv', he, h1, h2⟩
theorem read_n {w W : World} {base D S n : Nat} {pv : Value} {s : DS} (hN : New w W) (hk : Dk W base D S n pv s) (a : Nat) (hr : refI s n (a : Int) = 0) (X : List UInt8) (hX : sect (cur s.dur s.pend) a = X) (hXl : X.length = 64) :
    Calls Try.prog 14 #[.pointer (some ⟨D, 0, none⟩), .int .i64 (a : Int)] W fun e w' => ∃ g, e = .returned (.tuple #[.slice (some ⟨g, 0, none⟩) 64 64, .int .i64 0]) ∧ w'.heap[g]? = some (.cells (bV X).toArray 60 (0, 0)) ∧ New w w' ∧ Dk w' base D S n pv s := by
  refine (read_yes hk a hr).mono ?_
  rintro e w' ⟨v, he, ⟨g, hv, -, hg⟩, hn⟩
  rw [hX] at hv hg
  exact ⟨g, by rw [he, hv, hXl], hg, hN.trans hn, hk.keep (Mod.of_new (O := fun _ => False) hn) (fun h => h) (fun h => h) (fun _ _ h => h)⟩

/-! the chapter's example, in lists -/
def sA : DS := (DS.empty 16).write 16 0 [97, 98, 99]
def sB : DS := sA.flush
def sC : DS := sB.write 16 0 [120, 121, 122]
def sE : DS := sC.crash [1]
def xbc : List UInt8 := [120, 98, 99] ++ List.replicate 61 0
theorem e0 : (DS.empty 16).writeE 16 0 [97, 98, 99] = 0 := by kernel_rfl
theorem e1 : sA.flushE = 0 := by kernel_rfl
theorem e2 : sB.writeE 16 0 [120, 121, 122] = 0 := by kernel_rfl
theorem e3 : refI sE 16 ((0 : Nat) : Int) = 0 := by kernel_rfl
theorem e4 : sect (cur sE.dur sE.pend) 0 = xbc := by kernel_rfl
theorem l0 : (DS.empty 16).pend.length ≤ 1000 := of_decide_eq_true (by kernel_rfl)
theorem l1 : sB.pend.length ≤ 1000 := of_decide_eq_true (by kernel_rfl)
theorem l2 : sC.pend.length ≤ 1000 := of_decide_eq_true (by kernel_rfl)

set_option maxHeartbeats 2000000 in
theorem disks_c (w : World) : Calls Try.prog 6 #[] w fun e w' => e = .returned (.bool true) ∧ New w w' := by
  have kc := fun (w : World) (C : Array Value) (n c : Nat) => Lib.run_convert_bytes_const (P := Try.prog) w 33 5 C n c Try.underlying33 Try.underlying5
  go_enter Try.func6, Try.ntmps6
  go_wp2_with fail
  refine (newDisk_no 15 _ (by omega)).mono ?_
  rintro e w' ⟨rfl, rfl⟩
  go_wp2_with fail
  refine (newDisk_16 _).mono ?_
  rintro e w1 ⟨D, S, rfl, hn1, hk1⟩
  have HN1 := Lib.hid hn1
  have HK1 := Lib.hid hk1
  clear hn1 hk1
  go_wp2_with fail
  refine (write_lit HN1.out (Nat.le_refl _) HK1.out 0 [97, 98, 99] _ rfl 5 (3, 4) 3 3 rfl (by decide) l0).mono ?_
  rintro e w2 ⟨p2, rfl, hn2, hk2⟩
  have HN2 := Lib.hid hn2
  have HK2 := Lib.hid (show Dk w2 w.heap.size D S 16 p2 sA from hk2)
  rw [e0]
  clear hn2 hk2
  go_wp2_with fail
  refine (flush_n HN2.out (Nat.le_refl _) HK2.out).mono ?_
  rintro e w3 ⟨p3, rfl, hn3, hk3⟩
  have HN3 := Lib.hid hn3
  have HK3 := Lib.hid (show Dk w3 w.heap.size D S 16 p3 sB from hk3)
  rw [e1]
  clear hn3 hk3
  go_wp2_with fail
  refine (write_lit HN3.out (Nat.le_refl _) HK3.out 0 [120, 121, 122] _ rfl 5 (3, 4) 3 3 rfl (by decide) l1).mono ?_
  rintro e w4 ⟨p4, rfl, hn4, hk4⟩
  have HN4 := Lib.hid hn4
  have HK4 := Lib.hid (show Dk w4 w.heap.size D S 16 p4 sC from hk4)
  rw [e2]
  clear hn4 hk4
  go_wp2_with fail
  refine (crash_lit HN4.out (Nat.le_refl _) HK4.out [1] _ rfl 3 (0, 0) 1 1 rfl (by decide) l2).mono ?_
  rintro e w5 ⟨p5, rfl, hn5, hk5⟩
  have HN5 := Lib.hid hn5
  have HK5 := Lib.hid (show Dk w5 w.heap.size D S 16 p5 sE from hk5)
  clear hn5 hk5
  go_wp2_with fail
  refine (read_n HN5.out HK5.out 0 e3 xbc e4 rfl).mono ?_
  rintro e w6 ⟨g, rfl, hg, hn6, -⟩
  have HN6 := Lib.hid hn6
  have kb := run_convert_bytes_back (P := Try.prog) w6 33 9 5 ⟨g, 0, none⟩ 64 [120, 98, 99, 0] Try.underlying33 Try.underlying5 Try.underlying9 (by
    intro j hj
    rw [Addr.add_mid, cell_of_row w6 g _ _ _ _ hg]
    simp at hj
    have : j = 0 ∨ j = 1 ∨ j = 2 ∨ j = 3 := by omega
    rcases this with rfl | rfl | rfl | rfl <;> rfl)
  simp only [List.length_cons, List.length_nil] at kb
  clear hg hn6
  go_wp2_with fail
  go_ret
  exact ⟨rfl, HN6.out⟩

end Go.Proofs.Ytcamcmcopkclfaa
