/- The disk: what a change of its struct's fields leaves; fails, Stop, Flush. -/
import Derived.Test.YtcamcmcopkclfaaKa
import Derived.Test.YtcamcmcopkclfaaIt
set_option linter.unusedSimpArgs false
set_option linter.unusedVariables false
set_option maxRecDepth 100000
namespace Go.Proofs.Ytcamcmcopkclfaa
open Go.RowKit

theorem Dk.flags {w w' : World} {base D S n : Nat} {pv : Value} {s : DS} (h : Dk w base D S n pv s) (s' : DS) (hd : s'.dur = s.dur) (hp : s'.pend = s.pend)
    (hw : w'.heap[D]? = some (.cells (dCells S n pv s') 52 (0, 0))) (hk : Mod (fun k => k = D) w w') (hc : s'.calls ≤ 9223372036854775807 ∧ -1 ≤ s'.calls) (hcs : s'.stops = true → s'.down = false → 0 ≤ s'.calls) : Dk w' base D S n pv s' := by
  have hl : S < w.heap.size := (Array.getElem?_eq_some_iff.1 h.hS).1
  refine ⟨hw, ?_, ?_, h.nDS, h.nD, h.nS, h.bD, h.bS, h.n0, h.n1, by rw [hd]; exact h.len, by rw [hp]; exact h.ok, hc, hcs⟩
  · rw [hd, hp]; exact (hk.2 S hl (fun e => h.nDS e.symm)).trans h.hS
  · rw [hd, hp]
    refine own_keep h.hP fun g hg => hk.2 g (h.hP.lt g hg).2 (fun e => h.nD (by rw [hg, e]))

theorem Mod.setD (w : World) (D j : Nat) (v : Value) : Mod (fun k => k = D) w (w.setCell ⟨D, j, none⟩ v) := Mod.setCell (O := fun k => k = D) w D j v rfl
theorem Mod.setD2 (w : World) (D j i : Nat) (v u : Value) : Mod (fun k => k = D) w ((w.setCell ⟨D, j, none⟩ v).setCell ⟨D, i, none⟩ u) := (Mod.setD w D j v).trans (Mod.setD _ D i u)

/-- the disk after a call that would return OK -/
def DS.count (s : DS) : DS := { s with down := s.stops && s.calls == 0, calls := if s.stops = true then s.calls - 1 else s.calls }

set_option maxHeartbeats 800000 in
theorem fails_c {w : World} {base D S n : Nat} {pv : Value} {s : DS} (h : Dk w base D S n pv s) (hdn : s.down = false) :
    Calls Try.prog 23 #[.pointer (some ⟨D, 0, none⟩)] w fun e w' => e = .returned (.bool (s.stops && s.calls == 0)) ∧ Mod (fun k => k = D) w w' ∧ Dk w' base D S n pv s.count := by
  have c2 := h.c2
  have c3 := h.c3
  have c4 := h.c4
  have f2 := h.fz 2
  have f4 := h.fz 4
  have hcl := h.cl
  have hcs := h.cs
  have HD := Lib.hid h
  have HB := Lib.hid (show D < w.heap.size from (Array.getElem?_eq_some_iff.1 h.hD).1)
  obtain ⟨dur, pend, down, stops, calls⟩ := s
  simp only at hdn c2 c3 c4 hcl hcs
  subst hdn
  clear h
  cases stops
  · clear hcs
    go_enter Try.func23, Try.ntmps23
    go_wp2_with fail
    go_ret
    refine ⟨rfl, Mod.setD _ _ _ _, HD.out.flags _ rfl rfl ?_ (Mod.setD _ _ _ _) (by simpa [DS.count] using hcl) (by simp [DS.count])⟩
    rw [heap_setCell_same _ _ _ _ HD.out.hD]; rfl
  · have hc0 := hcs rfl rfl
    clear hcs
    by_cases h0 : calls = 0
    · subst h0
      go_enter Try.func23, Try.ntmps23
      go_wp2_with fail
      go_ret
      refine ⟨rfl, Mod.setD2 _ _ _ _ _ _, HD.out.flags _ rfl rfl ?_ (Mod.setD2 _ _ _ _ _ _) (by simp [DS.count]) (by simp [DS.count])⟩
      rw [heap_setCell_same _ _ _ _ (heap_setCell_same _ _ _ _ HD.out.hD)]; rfl
    · have hb : (calls == 0) = false := by simpa using h0
      go_enter Try.func23, Try.ntmps23
      go_wp2_with fail
      go_ret
      refine ⟨ret_bool (by simp [hb]), Mod.setD2 _ _ _ _ _ _, HD.out.flags _ rfl rfl ?_ (Mod.setD2 _ _ _ _ _ _) (by simp [DS.count]; omega) (by simp [DS.count]; omega)⟩
      rw [heap_setCell_same _ _ _ _ (heap_setCell_same _ _ _ _ HD.out.hD)]; simp [dCells, DS.count, hb]

/-- what a call leaves of the disk -/
def After (w : World) (base D S n : Nat) (pv : Value) (s' : DS) (w' : World) : Prop :=
  ∃ pv', Mod (OD D S pv) w w' ∧ Dk w' base D S n pv' s' ∧ ∀ g, pv'.ownBlock = some g → pv.ownBlock = some g ∨ w.heap.size ≤ g
theorem After.same {w : World} {base D S n : Nat} {pv : Value} {s : DS} (h : Dk w base D S n pv s) : After w base D S n pv s w := ⟨pv, Mod.refl _ _, h, fun _ h => .inl h⟩
theorem After.ofD {w w' : World} {base D S n : Nat} {pv : Value} {s : DS} (hm : Mod (fun k => k = D) w w') (h : Dk w' base D S n pv s) : After w base D S n pv s w' := ⟨pv, hm.mono fun _ h => .inl h, h, fun _ h => .inl h⟩
theorem After.trans {a b c : World} {base D S n : Nat} {pv : Value} {s : DS} (hm : Mod (fun k => k = D) a b) (h : After b base D S n pv s c) : After a base D S n pv s c := by
  obtain ⟨pv', h1, h2, h3⟩ := h
  exact ⟨pv', (hm.mono fun _ h => .inl h).trans h1, h2, fun g hg => (h3 g hg).imp id fun h => Nat.le_trans hm.size h⟩

def DS.fails (s : DS) : Bool := s.stops && s.calls == 0
def DS.flush (s : DS) : DS := if s.down = true then s else if s.fails = true then s.count else { s.count with dur := cur s.dur s.pend, pend := [] }
def DS.flushE (s : DS) : Int := if s.down = true then 90 else if s.fails = true then 90 else 0

theorem Dk.nilP {w : World} {base D S n : Nat} {pv : Value} {s : DS} (h : Dk w base D S n pv s) : Dk (w.setCell ⟨D, 1, none⟩ (.slice none 0 0)) base D S n (.slice none 0 0) { s with dur := cur s.dur s.pend, pend := [] } := by
  have hS := (heap_setCell_other w D 1 S (.slice none 0 0) (fun e => h.nDS e.symm)).trans h.hS
  exact ⟨by rw [heap_setCell_same _ _ _ _ h.hD]; rfl, hS, World.ownsRow_nil _ _ _ _, h.nDS, by simp [Value.ownBlock], by simp [Value.ownBlock], h.bD, h.bS, h.n0, h.n1, h.lenC, by simp [okPd], h.cl, h.cs⟩

set_option maxHeartbeats 800000 in
theorem flush_c {w : World} {base D S n : Nat} {pv : Value} {s : DS} (h : Dk w base D S n pv s) :
    Calls Try.prog 12 #[.pointer (some ⟨D, 0, none⟩)] w fun e w' => e = .returned (.int .i64 s.flushE) ∧ After w base D S n pv s.flush w' := by
  have HS := Lib.hid (silence_c h)
  have HD := Lib.hid h
  cases hd : s.down
  · have HF := Lib.hid (fails_c h hd)
    rw [hd] at HS
    unfold DS.flush DS.flushE
    rw [hd]
    clear hd h
    generalize hb : s.fails = b at *
    unfold DS.fails at hb
    rw [hb] at HF
    cases b
    · clear hb
      go_enter Try.func12, Try.ntmps12
      go_wp2_with (first | (go_at_call 24; refine (HS.out).mono ?_; rintro e w' ⟨rfl, rfl⟩) | (go_at_call 23; refine (HF.out).mono ?_; rintro e w1 ⟨rfl, hm, hk⟩; have f1 := hk.fz 1; have c1 := hk.c1; have HM := Lib.hid hm; have HK := Lib.hid hk; clear hm hk))
      go_ret
      refine ⟨rfl, After.trans HM.out ⟨_, ?_, HK.out.nilP, fun g hg => by simp [Value.ownBlock] at hg⟩⟩
      exact (Mod.setD _ _ _ _).mono fun _ h => .inl h
    · clear hb
      go_enter Try.func12, Try.ntmps12
      go_wp2_with (first | (go_at_call 24; refine (HS.out).mono ?_; rintro e w' ⟨rfl, rfl⟩) | (go_at_call 23; refine (HF.out).mono ?_; rintro e w1 ⟨rfl, hm, hk⟩; have HM := Lib.hid hm; have HK := Lib.hid hk; clear hm hk))
      go_ret
      exact ⟨rfl, After.ofD HM.out HK.out⟩
  · rw [hd] at HS
    unfold DS.flush DS.flushE
    rw [hd]
    clear hd h
    go_enter Try.func12, Try.ntmps12
    go_wp2_with (first | (go_at_call 24; refine (HS.out).mono ?_; rintro e w' ⟨rfl, rfl⟩))
    go_ret
    exact ⟨rfl, After.same HD.out⟩

end Go.Proofs.Ytcamcmcopkclfaa
