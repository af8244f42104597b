/- The heights of segments, as heights returns them. At most 1000000 segments and numbers. -/
import Derived.Test.YtpdfbboagaflhaaGreatM22
import Derived.Test.YtpdfbboagaflhaaGreatM15
import Derived.Deep.RegionHeld3
import Derived.Deep.RegionWith
import Derived.BigRegion
import Derived.LoopTactic
import Derived.Test.YtpdfbboagaflhaaGreatM21
import Derived.Deep.AppendLies
import Derived.Deep.RegionLaw
import Derived.Test.YtpdfbboagaflhaaGreatM25

namespace Go.Proofs.YtpdfbboagaflhaaGreat
open Go.RowKit

theorem info142 : (Tryz.prog.info? 142).map (fun i => (i.zero, i.size, i.bytes)) = some (some (.agg #[.int .i64 0, .int .i64 0, .int .i64 0]), 3, 24) := by kernel_rfl
def nat (L : List Nat) (k : Nat) : Nat := L.getD k 0
/-- a slice of numbers of segments -/
def Nats (w : World) (b off n : Nat) (L : List Nat) : Prop := L.length = n ∧ b < w.heap.size ∧ ∀ i, i < n → w.cell? ⟨b, off + i, none⟩ = some (.int .i64 (nat L i))
theorem Nats.new {w w1 : World} {b off n : Nat} {l : List Nat} (h : Nats w b off n l) (hn : New w w1) : Nats w1 b off n l := by
  obtain ⟨h1, h2, h3⟩ := h
  exact ⟨h1, Nat.lt_of_lt_of_le h2 hn.size, fun i hi => by rw [hn.cell h2]; exact h3 i hi⟩
abbrev H3 := Int × Int × Int
def htCells (l : List H3) : List Value := l.flatMap fun s => [.int .i64 s.1, .int .i64 s.2.1, .int .i64 s.2.2]
theorem htCells_snoc (l : List H3) (a b c : Int) : htCells (l ++ [(a, b, c)]) = htCells l ++ [.int .i64 a, .int .i64 b, .int .i64 c] := by simp [htCells]
def hgtN (l : List S4) (x : Int) (j : Nat) : Int := hN (q1 l j) (q2 l j) (q3 l j) (q4 l j) x
def hgtW (l : List S4) (j : Nat) : Int := hW (q1 l j) (q2 l j) (q3 l j) (q4 l j)
def heightsTo (l : List S4) (L : List Nat) (x : Int) : Nat → List H3
  | 0 => []
  | k + 1 => heightsTo l L x k ++ [(hgtN l x (nat L k), hgtW l (nat L k), (nat L k : Int))]
theorem heightsTo_length (l : List S4) (L : List Nat) (x : Int) : ∀ k, (heightsTo l L x k).length = k
  | 0 => rfl
  | k + 1 => by simp [heightsTo, heightsTo_length l L x k]

set_option maxRecDepth 20000 in
set_option maxHeartbeats 8000000 in
theorem heights_c (b off n c b2 off2 m c2 : Nat) (l : List S4) (L : List Nat) (x : Int) (w : World) (hm : m ≤ 1000000) (hw : Segs w b off n l) (hw2 : Nats w b2 off2 m L) (hL : ∀ k, k < m → nat L k < n) (hok : okSegs l = true) (hx : 0 ≤ x ∧ x ≤ 20000) :
    Calls Tryz.prog 144 #[.slice (some ⟨b, off, none⟩) n c, .slice (some ⟨b2, off2, none⟩) m c2, .int .i64 x] w fun en w' => ∃ v, en = .returned v ∧ w'.ownsRow w.heap.size 142 3 v m (htCells (heightsTo l L x m)) ∧ New w w' := by
  obtain ⟨i0, hi, hz0, hz1, hz2⟩ := info_parts info142
  obtain ⟨hwl, hb, hcell⟩ := hw
  obtain ⟨hwl2, hb2, hcell2⟩ := hw2
  have HC := Lib.hid hcell
  have HC2 := Lib.hid hcell2
  have HOK := Lib.hid (fun j hj => okS_iff.1 (okSegs_at l j hj hok))
  have HWL := Lib.hid hwl
  have HL := Lib.hid hL
  clear hwl hwl2 hcell hcell2 hL hok
  have hmk : ∀ w : World, (Instr.makeSlice 138 (.int .i64 0) (.int .i64 (m : Int))).run Tryz.prog w = .ok (.slice (some ⟨w.heap.size, 0, none⟩) 0 m) (w.alloc (.cells (madeCells (.agg #[.int .i64 0, .int .i64 0, .int .i64 0] : Value).cells (m * 3)) 142)) := by
    intro w
    have := run_make (P := Tryz.prog) w 138 142 i0 _ Tryz.underlying138 hi hz0 .i64 .i64 0 m (by omega) (by omega) (by rw [hz2]; omega) (by omega)
    rw [hz1] at this
    simpa using this
  go_enter Tryz.func144, Tryz.ntmps144
  go_wp2_with fail
  go_loopw [7, 15] (fun v i wr => ∃ k : Nat, k ≤ m ∧ i = .int .i64 k ∧ wr.ownsRow w.heap.size 142 3 v k (htCells (heightsTo l L x k)) ∧ New w wr) (fun _ i _ => m - (intOf i).toNat)
  case atStart => exact ⟨0, Nat.zero_le _, rfl, World.ownsRow_made _ _ _ (Nat.le_refl _) (by unfold maxLen; omega) (by simp [size_madeCells]), (New.refl w).alloc _⟩
  case round =>
    obtain ⟨k, hk, rfl, hown, pr, rfl⟩ := hrel
    have HO := Lib.hid hown
    clear hown
    by_cases hlt : k < m
    · have d1 := HC2.out k hlt
      have hjn := HL.out k hlt
      obtain ⟨c1, c2, c3, c4⟩ := HC.out (nat L k) hjn
      obtain ⟨⟨o1, o2⟩, ⟨o3, o4⟩, _⟩ := HOK.out (nat L k) (by rw [HWL.out]; exact hjn)
      have HH := Lib.hid (fun w1 : World => heightAt_c (q1 l (nat L k)) (q2 l (nat L k)) (q3 l (nat L k)) (q4 l (nat L k)) x w1 o1 o2 o3 o4 hx)
      have HE := Lib.hid (show heightsTo l L x (k + 1) = heightsTo l L x k ++ [(hN (q1 l (nat L k)) (q2 l (nat L k)) (q3 l (nat L k)) (q4 l (nat L k)) x, hW (q1 l (nat L k)) (q2 l (nat L k)) (q3 l (nat L k)) (q4 l (nat L k)), (nat L k : Int))] from rfl)
      generalize hN (q1 l (nat L k)) (q2 l (nat L k)) (q3 l (nat L k)) (q4 l (nat L k)) x = A at HH HE
      generalize hW (q1 l (nat L k)) (q2 l (nat L k)) (q3 l (nat L k)) (q4 l (nat L k)) = B at HH HE
      go_wp2_with (first | (go_at_call 99; refine (HH.out _).mono ?_; rintro e w1 ⟨rfl, pw, rfl⟩) | (at_builtin; refine wpList_append_lies _ rfl (.tmp 19) (.tmp 28) 138 rfl w.heap.size 142 i0 _ 3 24 Tryz.underlying138 hi hz0 hz1 hz2 rfl (by omega) u7 k (htCells (heightsTo l L x k)) rfl ?_ _ 1 1 [.int .i64 A, .int .i64 B, .int .i64 (nat L k)] rfl rfl ?_ ?_ (by omega) ?_ ?_ ?_ _ rfl ?_; exact own_new HO.out (by rw [← aft_merge]; exact ((New.refl _).aft _ _).alloc _); (refine cells_new _ _ _ _ ?_); (simp [go_sem]); (intro u hu; simp at hu; rcases hu with rfl | rfl | rfl <;> rfl); (unfold maxLen; omega); omega; (simp [go_sem, Nat.add_assoc]); intro g cap w2 hown2 hgrow2 hor2 hlt2; have HNW := Lib.hid (show New w w2 from new_grown (by (repeat (first | exact New.refl _ | apply New.alloc | apply New.aft | apply New.drew | refine New.setCell ?_ ?_ _)); all_goals (first | done | (simp [size_aft]; done) | (simp [size_aft]; omega))) hgrow2 HO.out); have HO2 := Lib.hid hown2; clear hown2 hgrow2 hor2 hlt2))
      go_roundw
      case rel => exact ⟨k + 1, by omega, by go_num, by rw [HE.out, htCells_snoc]; exact HO2.out, HNW.out⟩
      case measure => simp [intOf]; omega
    · go_wp2_with fail
      have hkm : k = m := by omega
      have h1 := HO.out
      rw [hkm] at h1
      go_ret
      exact ⟨u7, rfl, h1, by (repeat (first | exact New.refl _ | apply New.alloc | apply New.aft | apply New.drew | refine New.setCell ?_ ?_ _)); all_goals (first | done | (simp [size_aft]; done) | (simp [size_aft]; omega))⟩

end Go.Proofs.YtpdfbboagaflhaaGreat
