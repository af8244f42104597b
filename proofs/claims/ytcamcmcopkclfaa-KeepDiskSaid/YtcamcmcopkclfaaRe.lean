/- The reference's NewDisk; both disks. -/
import Derived.Test.YtcamcmcopkclfaaRd
import Derived.Test.YtcamcmcopkclfaaKi
set_option linter.unusedSimpArgs false
set_option linter.unusedVariables false
set_option maxRecDepth 100000
namespace Go.Proofs.Ytcamcmcopkclfaa
open Go.RowKit

theorem strInfo : ∃ i0, Try.prog.info? 9 = some i0 ∧ i0.size = 1 ∧ i0.bytes = 16 ∧ i0.zero = some (.string ⟨#[]⟩) := by
  have h1 : (Try.prog.info? 9).map (·.zero) = some (some (.string ⟨#[]⟩)) := by kernel_rfl
  have h2 : (Try.prog.info? 9).map (·.size) = some 1 := by kernel_rfl
  have h3 : (Try.prog.info? 9).map (·.bytes) = some 16 := by kernel_rfl
  cases hq : Try.prog.info? 9 with
  | none => rw [hq] at h1; simp at h1
  | some i => rw [hq] at h1 h2 h3; simp only [Option.map_some, Option.some.injEq] at h1 h2 h3; exact ⟨i, rfl, h2, h3, h1⟩
theorem dCs_zero (n : Nat) : dCs n (List.replicate (n * 64) 0) = List.replicate n (strV (List.replicate 64 0)) := by
  apply List.ext_getElem
  · simp [dCs]
  · intro j h1 h2
    have hj : j < n := by simpa [dCs] using h1
    simp only [dCs, List.getElem_map, List.getElem_range, List.getElem_replicate, sect, List.drop_replicate, List.take_replicate]
    rw [Nat.min_eq_left (by omega)]

/-- the world in the midst of NewDisk: k strings are made -/
def NdW (w wr : World) (R k : Nat) : Prop :=
  ∃ dv, New w wr ∧ R = w.heap.size ∧ wr.heap[R]? = some (.cells (rCells dv (.slice none 0 0) (-1) false) 40 (0, 0)) ∧ wr.ownsRow w.heap.size 9 1 dv k (List.replicate k (strV (List.replicate 64 0))) ∧ dv.ownBlock ≠ some R

set_option maxHeartbeats 4000000 in
theorem newR_yes (n : Nat) (w : World) (h1 : 16 ≤ n) (h2 : n ≤ 65536) :
    Calls Try.prog 15 #[.int .i64 (n : Int)] w fun e w' => ∃ R dv l, e = .returned (.tuple #[.pointer (some ⟨R, 0, none⟩), .int .i64 0]) ∧ New w w' ∧ Rk w' w.heap.size R n dv (.slice none 0 0) l (DS.empty n) := by
  have k1 : (16 : Int) ≤ n := by omega
  have k2 : (n : Int) ≤ 65536 := by omega
  obtain ⟨PB, hPB⟩ : ∃ PB : ByteArray, PB = ⟨(List.replicate 64 0).toArray⟩ := ⟨_, rfl⟩
  have HPB := Lib.hid (show strV (List.replicate 64 0) = .string PB by rw [hPB]; rfl)
  have HPD := Lib.hid (show ∀ w, Calls Try.prog 25 #[.string { data := #[] }] w fun e w' => e = .returned (.string PB) ∧ w = w' from fun w => by rw [← HPB.out]; exact padded_c [] (by simp) w)
  clear hPB
  obtain ⟨i0, hi0, his, hib, hiz⟩ := strInfo
  have HI := Lib.hid hi0
  have HIS := Lib.hid his
  have HIB := Lib.hid hib
  have HIZ := Lib.hid hiz
  clear hi0 his hib hiz
  obtain ⟨R, hR⟩ : ∃ R, R = w.heap.size := ⟨_, rfl⟩
  have HR := Lib.hid hR
  go_enter Try.func15, Try.ntmps15
  go_wp2_with fail
  rw [← hR]
  clear hR
  go_loopw [5] (fun i wr => ∃ k : Nat, k ≤ n ∧ i = .int .i64 (k : Int) ∧ NdW w wr R k) (fun i _ => n - (intOf i).toNat)
  case atStart => exact ⟨0, by omega, rfl, .slice none 0 0, (New.refl _).alloc _, HR.out, by rw [HR.out]; exact World.alloc_heap_new _ _, World.ownsRow_nil _ _ _ _, by simp [Value.ownBlock]⟩
  case round =>
    obtain ⟨k, hk, rfl, hnd⟩ := hrel
    obtain ⟨U1, rfl⟩ : ∃ U1 : World, U1 = wr := ⟨_, rfl⟩
    obtain ⟨dv, hN, hRw, hRb, hO, hne⟩ := hnd
    have hRl : R < U1.heap.size := (Array.getElem?_eq_some_iff.1 hRb).1
    have HN := Lib.hid hN
    have HRb := Lib.hid hRb
    have HO := Lib.hid hO
    have HNE := Lib.hid hne
    obtain ⟨da, dc, hdv⟩ := own_slice hO
    by_cases hlt : k < n
    · have hlt' : (k : Int) < (n : Int) := by omega
      have c0 : U1.cell? ⟨R, 0, none⟩ = some (.slice da k dc) := by rw [cell_of_row U1 R 0 _ _ _ hRb, hdv]; rfl
      subst hdv
      have HOn := Lib.hid (show ∀ X, New U1 X → X.ownsRow w.heap.size 9 1 (.slice da k dc) k (List.replicate k (strV (List.replicate 64 0))) from fun X hX => own_new HO.out hX)
      have hws := hN.size
      have HG := Lib.hid (show ∀ X Y, New U1 X → X.grownBy Y (Value.slice da k dc).ownBlock → Y.heap[R]? = U1.heap[R]? ∧ New w Y from fun X Y hX hY => ⟨(hY.block R (Nat.lt_of_lt_of_le hRl hX.size) (fun e => HNE.out e.symm)).trans (hX.below.block R hRl), new_grown (HN.out.trans hX) hY HO.out⟩)
      have HAt := Lib.hid (show ∀ (X : World) (g : Nat), New U1 X → ((Value.slice da k dc).ownBlock = some g ∨ g = X.heap.size) → g ≠ R from fun X g hX hat e => by
        rcases hat with h | h
        · exact HNE.out (by rw [h, e])
        · have := hX.size; omega)
      clear hN hRw hRb hO hne
      go_wp2_with fail
      go_region_law (first | (refine step_append_lies _ rfl (.tmp 23) (.tmp 25) 37 rfl w.heap.size 9 i0 _ 1 16 Try.underlying37 HI.out HIZ.out HIS.out HIB.out rfl (by omega) (.slice da k dc) k (List.replicate k (strV (List.replicate 64 0))) rfl (HOn.out _ (by (repeat (first | exact New.refl _ | apply New.alloc | apply New.drew)))) ⟨U1.heap.size, 0, none⟩ 1 1 [.string PB] rfl rfl (fun j u hu => cells_new U1 _ _ _ rfl j u hu) (by intro u hu; simp at hu; rcases hu with rfl; rfl) (by omega) (by unfold maxLen; omega) (by omega) (by simp; omega) _ rfl ?_; intro g4 cap4 w4 hown4 hgrow4 hat4 hlt4; have HH4 := Lib.hid (HG.out _ _ (by (repeat (first | exact New.refl _ | apply New.alloc | apply New.drew))) hgrow4); have HA4 := Lib.hid (HAt.out _ _ (by (repeat (first | exact New.refl _ | apply New.alloc | apply New.drew))) hat4); have HO4 := Lib.hid hown4; have c4 : w4.cell? ⟨R, 0, none⟩ = some (.slice da k dc) := (by rw [cell_same HH4.out.1]; exact c0); have f4 : w4.frozen? ⟨R, 0, none⟩ = false := (by simp [World.frozen?, HH4.out.1, HRb.out]); clear hown4 hgrow4 hat4 hlt4) | (go_simp; go_at_call 25; refine (HPD.out _).mono ?_; rintro e w' ⟨rfl, rfl⟩))
      all_goals have HND := Lib.hid (show NdW w (w4.setCell ⟨R, 0, none⟩ (.slice (some ⟨g4, 0, none⟩) (k + 1) cap4)) R (k + 1) from by
        refine ⟨.slice (some ⟨g4, 0, none⟩) (k + 1) cap4, HH4.out.2.setCell (by show w.heap.size ≤ R; rw [HR.out]; exact Nat.le_refl _) _, HR.out, by rw [heap_setCell_same _ _ _ _ (HH4.out.1.trans HRb.out)]; rfl, ?_, by simp [Value.ownBlock]; exact HA4.out⟩
        rw [List.replicate_succ', HPB.out]
        rw [HPB.out] at HO4
        exact own_keep HO4.out fun g' hg' => heap_setCell_other _ _ _ _ _ (by simp [Value.ownBlock] at hg'; have := HA4.out; omega))
      all_goals (go_wp2_with fail)
      all_goals go_roundw
      all_goals first
        | exact ⟨k + 1, by omega, by go_num, HND.out⟩
        | (simp [intOf]; omega)
    · obtain rfl : k = n := by omega
      clear hN hRw hRb hO hne
      go_wp2_with fail
      go_ret2
      refine ⟨R, dv, -1, rfl, HN.out, HRb.out, ?_, World.ownsRow_nil _ _ _ _, HNE.out, by simp [Value.ownBlock], fun g hg => by simp [Value.ownBlock], by rw [HR.out]; exact Nat.le_refl _, h1, h2, by simp [DS.empty], by simp [DS.empty, okPd], by omega, by simp [DS.empty], by simp [DS.empty]⟩
      show World.ownsRow _ _ _ _ _ _ (dCs k (List.replicate (k * 64) 0))
      rw [dCs_zero]
      exact HO.out
end Go.Proofs.Ytcamcmcopkclfaa
