/- The disk of package keep: what it is in memory; silence, refusal, fails, Down. -/
import Derived.Test.YtcamcmcopkclfaaOw
import Derived.Deep.MidRow
import Derived.Deep.RegionHeld3
import Derived.Test.YtcamcmcopkclfaaProg
set_option linter.unusedSimpArgs false
set_option linter.unusedVariables false
set_option maxRecDepth 100000
namespace Go.Proofs.Ytcamcmcopkclfaa
open Go.RowKit

/-- bytes as cells -/
def bV (l : List UInt8) : List Value := l.map fun b => .int .u8 (b.toNat : Int)
@[simp] theorem bV_length (l : List UInt8) : (bV l).length = l.length := by simp [bV]
theorem bV_append (a b : List UInt8) : bV (a ++ b) = bV a ++ bV b := by simp [bV]
theorem bV_take (a : List UInt8) (k : Nat) : bV (a.take k) = (bV a).take k := by simp [bV]
theorem bV_drop (a : List UInt8) (k : Nat) : bV (a.drop k) = (bV a).drop k := by simp [bV]
theorem bV_one (l : List UInt8) : ∀ v ∈ bV l, v.oneCell' = true := by
  intro v hv; simp only [bV, List.mem_map] at hv; obtain ⟨b, _, rfl⟩ := hv; rfl
/-- L with cs from o on -/
def spl (L : List UInt8) (o : Nat) (cs : List UInt8) : List UInt8 := L.take o ++ cs ++ L.drop (o + cs.length)
theorem spl_length (L : List UInt8) (o : Nat) (cs : List UInt8) (h : o + cs.length ≤ L.length) : (spl L o cs).length = L.length := by simp [spl]; omega
/-- the sector a -/
def sect (L : List UInt8) (a : Nat) : List UInt8 := (L.drop (a * 64)).take 64
theorem sect_length (L : List UInt8) (a : Nat) (h : (a + 1) * 64 ≤ L.length) : (sect L a).length = 64 := by simp [sect]; omega
/-- what lies on a disk with pending writes -/
def cur (d : List UInt8) (p : List (Nat × List UInt8)) : List UInt8 := p.foldl (fun L q => spl L (q.1 * 64) q.2) d
/-- the cells of a pending write onto L -/
def pcell (L : List UInt8) (q : Nat × List UInt8) : List Value := .int .i64 (q.1 : Int) :: (bV (sect L q.1) ++ bV q.2)
def pcells : List UInt8 → List (Nat × List UInt8) → List Value
  | _, [] => []
  | L, q :: r => pcell L q ++ pcells (spl L (q.1 * 64) q.2) r
def okPd (n : Nat) (p : List (Nat × List UInt8)) : Prop := ∀ q ∈ p, q.1 < n ∧ q.2.length = 64
theorem cur_length {n : Nat} : ∀ {p : List (Nat × List UInt8)} {d : List UInt8}, d.length = n * 64 → okPd n p → (cur d p).length = n * 64
  | [], d, h, _ => h
  | q :: r, d, h, hp => by
    have hq := hp q (by simp)
    have : (spl d (q.1 * 64) q.2).length = n * 64 := by rw [spl_length _ _ _ (by omega), h]
    exact cur_length (p := r) this (fun x hx => hp x (by simp [hx]))
theorem cur_snoc (d : List UInt8) (p : List (Nat × List UInt8)) (q : Nat × List UInt8) : cur d (p ++ [q]) = spl (cur d p) (q.1 * 64) q.2 := by simp [cur]
theorem pcells_snoc : ∀ (p : List (Nat × List UInt8)) (d : List UInt8) (q : Nat × List UInt8), pcells d (p ++ [q]) = pcells d p ++ pcell (cur d p) q
  | [], d, q => by simp [pcells, cur]
  | x :: r, d, q => by
    simp only [List.cons_append, pcells, pcells_snoc r, List.append_assoc]
    rfl

structure DS where
  dur : List UInt8
  pend : List (Nat × List UInt8)
  down : Bool
  stops : Bool
  calls : Int

/-- the cells of the disk's struct -/
def dCells (S n : Nat) (pv : Value) (s : DS) : Array Value := #[.slice (some ⟨S, 0, none⟩) n n, pv, .bool s.down, .bool s.stops, .int .i64 s.calls]
structure Dk (w : World) (base D S n : Nat) (pv : Value) (s : DS) : Prop where
  hD : w.heap[D]? = some (.cells (dCells S n pv s) 52 (0, 0))
  hS : w.heap[S]? = some (.cells (bV (cur s.dur s.pend)).toArray 60 (0, 0))
  hP : w.ownsRow base 62 129 pv s.pend.length (pcells s.dur s.pend)
  nDS : D ≠ S
  nD : pv.ownBlock ≠ some D
  nS : pv.ownBlock ≠ some S
  bD : base ≤ D
  bS : base ≤ S
  n0 : 16 ≤ n
  n1 : n ≤ 65536
  len : s.dur.length = n * 64
  ok : okPd n s.pend
  cl : s.calls ≤ 9223372036854775807 ∧ -1 ≤ s.calls
  cs : s.stops = true → s.down = false → 0 ≤ s.calls
def OD (D S : Nat) (pv : Value) : Nat → Prop := fun k => k = D ∨ k = S ∨ pv.ownBlock = some k

section
variable {w : World} {base D S n : Nat} {pv : Value} {s : DS}
theorem Dk.lenC (h : Dk w base D S n pv s) : (cur s.dur s.pend).length = n * 64 := cur_length h.len h.ok
theorem Dk.c0 (h : Dk w base D S n pv s) : w.cell? ⟨D, 0, none⟩ = some (.slice (some ⟨S, 0, none⟩) n n) := by rw [cell_of_row w D 0 _ _ _ h.hD]; rfl
theorem Dk.c1 (h : Dk w base D S n pv s) : w.cell? ⟨D, 1, none⟩ = some pv := by rw [cell_of_row w D 1 _ _ _ h.hD]; rfl
theorem Dk.c2 (h : Dk w base D S n pv s) : w.cell? ⟨D, 2, none⟩ = some (.bool s.down) := by rw [cell_of_row w D 2 _ _ _ h.hD]; rfl
theorem Dk.c3 (h : Dk w base D S n pv s) : w.cell? ⟨D, 3, none⟩ = some (.bool s.stops) := by rw [cell_of_row w D 3 _ _ _ h.hD]; rfl
theorem Dk.c4 (h : Dk w base D S n pv s) : w.cell? ⟨D, 4, none⟩ = some (.int .i64 s.calls) := by rw [cell_of_row w D 4 _ _ _ h.hD]; rfl
theorem Dk.fz (h : Dk w base D S n pv s) (o : Nat) : w.frozen? ⟨D, o, none⟩ = false := by simp [World.frozen?, h.hD]
end

theorem ret_bool {a b : Bool} (h : a = b) : Ending.returned (.bool a) = .returned (.bool b) := by rw [h]
theorem ret_int {k : IntKind} {a b : Int} (h : a = b) : Ending.returned (.int k a) = .returned (.int k b) := by rw [h]

set_option maxHeartbeats 400000 in
theorem silence_c {w : World} {base D S n : Nat} {pv : Value} {s : DS} (h : Dk w base D S n pv s) :
    Calls Try.prog 24 #[.pointer (some ⟨D, 0, none⟩)] w fun e w' => e = .returned (.int .i64 (if s.down = true then 90 else 0)) ∧ w = w' := by
  have c2 := h.c2
  cases hd : s.down
  all_goals
    rw [hd] at c2
    clear h hd
    go_enter Try.func24, Try.ntmps24
    go_wp2_with fail
    go_ret
    exact ⟨rfl, rfl⟩

set_option maxHeartbeats 400000 in
theorem down_c {w : World} {base D S n : Nat} {pv : Value} {s : DS} (h : Dk w base D S n pv s) :
    Calls Try.prog 10 #[.pointer (some ⟨D, 0, none⟩)] w fun e w' => e = .returned (.bool s.down) ∧ w = w' := by
  have c2 := h.c2
  generalize s.down = b at *
  clear h
  go_enter Try.func10, Try.ntmps10
  go_wp2_with fail
  go_ret
  exact ⟨rfl, rfl⟩

/-- what refusal answers -/
def refI (s : DS) (n : Nat) (a : Int) : Int := if s.down = true then 90 else if a < 0 ∨ (n : Int) ≤ a then 1 else 0
set_option maxHeartbeats 400000 in
theorem refusal_c {w : World} {base D S n : Nat} {pv : Value} {s : DS} (h : Dk w base D S n pv s) (a : Int) :
    Calls Try.prog 22 #[.pointer (some ⟨D, 0, none⟩), .int .i64 a] w fun e w' => e = .returned (.int .i64 (refI s n a)) ∧ w = w' := by
  have c0 := h.c0
  have n1 := h.n1
  have HS := Lib.hid (silence_c h)
  unfold refI
  clear h
  cases hd : s.down
  all_goals (rw [hd] at HS; clear hd)
  · by_cases h1 : a < 0
    · go_enter Try.func22, Try.ntmps22
      go_wp2_with (go_at_call 24; refine (HS.out).mono ?_; rintro e w' ⟨rfl, rfl⟩)
      go_ret
      exact ⟨ret_int (by simp [h1]), rfl⟩
    · by_cases h2 : (n : Int) ≤ a
      · go_enter Try.func22, Try.ntmps22
        go_wp2_with (go_at_call 24; refine (HS.out).mono ?_; rintro e w' ⟨rfl, rfl⟩)
        go_ret
        exact ⟨ret_int (by simp [h2]), rfl⟩
      · go_enter Try.func22, Try.ntmps22
        go_wp2_with (go_at_call 24; refine (HS.out).mono ?_; rintro e w' ⟨rfl, rfl⟩)
        go_ret
        exact ⟨ret_int (by simp [h1, h2]), rfl⟩
  · go_enter Try.func22, Try.ntmps22
    go_wp2_with (go_at_call 24; refine (HS.out).mono ?_; rintro e w' ⟨rfl, rfl⟩)
    go_ret
    exact ⟨rfl, rfl⟩

end Go.Proofs.Ytcamcmcopkclfaa
