/- PlaneMemory returns true for every input, and its arguments read afterwards as before: the given statement, without a condition. -/
import Derived.Test.YtpdfbboagaflhaaGreatS44
import Derived.Test.YtpdfbboagaflhaaGreatS53
import Derived.Test.YtpdfbboagaflhaaGreatS41
import Derived.Deep.RegionHeld3
import Derived.Deep.RegionWith
import Derived.BigRegion
import Derived.LoopTactic
import Derived.Deep.AppendLies
import Derived.Deep.RegionLaw
import Derived.Deep.DeepCutAuto
import Derived.Deep.LoopGhost
import Derived.Deep.CutBlock
import Derived.Test.YtpdfbboagaflhaaGreatRows
import Derived.ProofKit
import Derived.OpenShut
import Derived.Lib.SmallJoins
import Derived.Carry

set_option linter.unusedSimpArgs false
set_option linter.unusedVariables false
set_option maxRecDepth 100000
namespace Go.Proofs.YtpdfbboagaflhaaGreat
open Go.RowKit Go.Shelf

/-- strips and their segments, counted as the machine counts -/
def thinW (C : List SV) : Nat → Int
  | 0 => C.length
  | k + 1 => wrap64 (thinW C k + (sL C k).length)
set_option maxHeartbeats 8000000 in
theorem thin_c (cv : Option Addr) (N cc : Nat) (C : List SV) (w : World) (hN : N ≤ 17592186044415) (hCn : C.length = N) (hC : 0 < N → ∃ cb co, cv = some ⟨cb, co, none⟩ ∧ Strps w cb co N C) :
    Calls Tryz.prog 69 #[.slice cv N cc] w fun e w' => e = .returned (.bool (decide (thinW C N ≤ 4000))) ∧ New w w' := by
  have HC := Lib.hid hC
  have HS := Lib.hid (show ∀ k, thinW C (k + 1) = wrap64 (thinW C k + (sL C k).length) from fun _ => rfl)
  have H0 := Lib.hid (show thinW C 0 = N by rw [← hCn]; rfl)
  generalize thinW C = T at *
  clear hC
  go_enter Tryz.func69, Tryz.ntmps69
  go_wp2_with fail
  go_loopw [3, 10] (fun s i wr => ∃ k : Nat, k ≤ N ∧ i = .int .i64 k ∧ s = .int .i64 (T k) ∧ New w wr) (fun _ i _ => N - (intOf i).toNat)
  case atStart => exact ⟨0, Nat.zero_le _, rfl, by rw [H0.out], New.refl _⟩
  case round =>
    obtain ⟨k, hk, rfl, rfl, hnew⟩ := hrel
    have HNEW := Lib.hid hnew
    clear hnew
    by_cases hlt : k < N
    · obtain ⟨cb, co, rfl, hst⟩ := HC.out (by omega)
      obtain ⟨_, hcb, hcc⟩ := hst.new HNEW.out
      obtain ⟨v, ⟨x1, x2⟩, x3, av, c2, rfl, _⟩ := hcc k hlt
      have hk1 : (k : Int) < (N : Int) := by omega
      have HSK := Lib.hid (HS.out k)
      clear hcc hst
      generalize sF C k = F at *
      generalize sT C k = T1 at *
      generalize (sL C k).length = q at *
      go_wp2_with fail
      go_roundw
      case rel => exact ⟨k + 1, by omega, by go_num, by rw [HSK.out], (by (repeat (first | exact HNEW.out | exact New.refl _ | apply New.alloc | apply New.aft | apply New.drew | refine New.setCell ?_ ?_ _)); all_goals (first | done | (simp [size_aft]; done) | (simp [size_aft]; omega)))⟩
      case measure => simp [intOf]; omega
    · obtain rfl : k = N := by omega
      go_wp2_with fail
      go_ret
      exact ⟨rfl, HNEW.out⟩

theorem checkSweep_c (b off n cp N cc : Nat) (cv : Option Addr) (l : List S4) (C : List SV) (w : World) (h0 : 0 < n) (hl : n ≤ 1000000) (hw : Segs w b off n l) (hCn : C.length = N) (hN : N ≤ 17592186044415) (hC : 0 < N → ∃ cb co, cv = some ⟨cb, co, none⟩ ∧ Strps w cb co N C) (hlen : ∀ i, i < N → (sL C i).length ≤ 17592186044415) (r : Bool) (hr : r = true ↔ ChkOk l C) :
    Calls Tryz.prog 73 #[.slice (some ⟨b, off, none⟩) n cp, .slice cv N cc] w fun e w' => e = .returned (.bool r) ∧ New w w' := by
  have hn := hw.1
  by_cases hck : ckSegs l = 0
  · have hl4 : n ≤ 400 := by
      unfold ckSegs at hck
      split at hck
      · cases hck
      · omega
    have hCat : ∀ w1, New w w1 → 0 < N → ∃ cb co, cv = some ⟨cb, co, none⟩ ∧ Strps w1 cb co N C := fun w1 h1 g => by
      obtain ⟨cb, co, e1, e2⟩ := hC g
      exact ⟨cb, co, e1, e2.new h1⟩
    have hiff : StripsAre l C ↔ N = (endXsL l).length - 1 ∧ ∀ j, j < N → mtS l C j := ⟨fun h => ⟨by rw [← hCn]; exact h.len, fun j hj => h.mt j (by omega)⟩, fun h => ⟨by rw [hCn]; exact h.1, fun j hj => h.2 j (by omega)⟩⟩
    rcases Classical.em (StripsAre l C) with hS | hS
    · exact checkSweep_go b off n cp N cc cv l C w h0 hw hCn (by have h1 := hS.len; have h2 := endXsL_le l; omega) hC hck hS r hr (Lib.hid (fun w1 h1 => sameStrips_c b off n cp N cc cv l C w1 h0 hl4 (hw.new h1) hCn hN (hCat w1 h1) hlen true ⟨fun _ => hiff.1 hS, fun _ => rfl⟩))
    · have hrf : r = false := by
        cases hh : r
        · rfl
        · exact absurd (hr.1 hh).are hS
      rw [hrf]
      exact checkSweep_bad _ cv n cp N cc w (Lib.hid (fun w1 h1 => by have := checkSegs_c b off n cp l w1 (by omega) (hw.new h1); rwa [hck] at this)) (Lib.hid (fun w1 h1 => sameStrips_c b off n cp N cc cv l C w1 h0 hl4 (hw.new h1) hCn hN (hCat w1 h1) hlen false ⟨fun e => (by cases e), fun h => absurd (hiff.2 h) hS⟩))
  · have hrf : r = false := by
      cases hh : r
      · rfl
      · exact absurd (hr.1 hh).segs hck
    rw [hrf]
    exact checkSweep_no _ cv n cp N cc (ckSegs l) w hck (Lib.hid (fun w1 h1 => checkSegs_c b off n cp l w1 (by omega) (hw.new h1)))

end Go.Proofs.YtpdfbboagaflhaaGreat

set_option linter.unusedSimpArgs false
set_option linter.unusedVariables false
set_option maxRecDepth 100000
namespace Go.Proofs.YtpdfbboagaflhaaGreat
open Go.RowKit Go.Shelf

set_option maxHeartbeats 1000000 in
theorem checkSegs_nil (v : Option Addr) (c : Nat) (w : World) : Calls Tryz.prog 135 #[.slice v 0 c] w fun en w' => en = .returned (.int .i64 0) ∧ New w w' := by
  go_enter Tryz.func135, Tryz.ntmps135
  go_wp2_with fail
  refine wp_loop_rounds 1 ?_
  repeat any_goals (rw [rounds_succ]; go_wp2)
  go_ret; exact ⟨rfl, New.refl _⟩
set_option maxHeartbeats 1000000 in
theorem crossing_none (v : Option Addr) (c : Nat) (w : World) : Calls Tryz.prog 64 #[.slice v 0 c] w fun en w' => en = .returned (.tuple #[.int .i64 0, .int .i64 0, .bool false, .int .i64 0]) ∧ New w w' := by
  have HC := Lib.hid (fun w1 : World => checkSegs_nil v c w1)
  go_enter Tryz.func64, Tryz.ntmps64
  go_wp2_with (go_at_call 135; refine (HC.out _).mono ?_; rintro e w1 ⟨rfl, pw, rfl⟩)
  refine wp_loop_rounds 1 ?_
  repeat any_goals (rw [rounds_succ]; go_wp2)
  refine bodyPost_ret (v := .tuple #[.int .i64 0, .int .i64 0, .bool false, .int .i64 0]) (by simp [results, Tryz.results64, go_sem]) rfl ⟨rfl, ?_⟩; exact (by (repeat (first | exact New.refl _ | apply New.alloc | apply New.aft | apply New.drew | refine New.setCell ?_ ?_ _)); all_goals (first | done | (simp [size_aft]; done) | (simp [size_aft]; omega)))
set_option maxHeartbeats 2000000 in
theorem checkApart_none (v : Option Addr) (c : Nat) (w : World) : Calls Tryz.prog 137 #[.slice v 0 c] w fun en w' => en = .returned (.int .i64 0) ∧ New w w' := by
  have HC := Lib.hid (crossing_none v c)
  go_enter Tryz.func137, Tryz.ntmps137
  go_wp2_with (go_at_call 64; refine (HC.out _).mono ?_; rintro e w1 ⟨rfl, hn⟩; have HN1 := Lib.hid hn; clear hn)
  go_ret; exact ⟨rfl, HN1.out⟩
set_option maxHeartbeats 2000000 in
theorem compactI_nil (v : Option Addr) (c : Nat) (w : World) : Calls Tryz.prog 212 #[.slice v 0 c] w fun en w' => en = .returned (.slice v 0 c) ∧ New w w' := by
  go_enter Tryz.func212, Tryz.ntmps212
  go_wp2_with fail
  go_ret; exact ⟨rfl, New.refl _⟩
set_option maxHeartbeats 4000000 in
theorem endXs_nil (v : Option Addr) (c : Nat) (w : World) : Calls Tryz.prog 180 #[.slice v 0 c] w fun en w' => ∃ a c', en = .returned (.slice a 0 c') ∧ New w w' := by
  obtain ⟨i0, hi, hz0, hz1, hz2⟩ := info_parts info3
  have hmk : ∀ w : World, (Instr.makeSlice 82 (.int .i64 0) (.int .i64 0)).run Tryz.prog w = .ok (.slice (some ⟨w.heap.size, 0, none⟩) 0 0) (w.alloc (.cells (madeCells (.int .i64 0 : Value).cells (0 * 1)) 3)) := by
    intro w
    have := run_make (P := Tryz.prog) w 82 3 i0 _ Tryz.underlying82 hi hz0 .i64 .i64 0 0 (by omega) (by omega) (by rw [hz2]; omega) (by omega)
    rw [hz1] at this
    simpa using this
  have HS := Lib.hid (fun (a : Option Addr) (c : Nat) (w1 : World) => sortI_nil a c w1)
  have HP := Lib.hid (fun (a : Option Addr) (c : Nat) (w1 : World) => compactI_nil a c w1)
  go_enter Tryz.func180, Tryz.ntmps180
  go_wp2_with fail
  go_loopw [3, 12] (fun s i wr => (i = .int .i64 0 ∧ s = .slice (some ⟨w.heap.size, 0, none⟩) 0 0) ∧ New w wr) (fun _ _ _ => 0)
  case atStart => exact ⟨⟨rfl, rfl⟩, (New.refl _).alloc _⟩
  case round =>
    obtain ⟨⟨rfl, rfl⟩, hn⟩ := hrel
    have HN := Lib.hid hn
    clear hn
    go_wp2_with (first | (go_at_call 211; refine (HS.out _ _ _).mono ?_; rintro e w1 ⟨rfl, hn⟩; have HN1 := Lib.hid (HN.out.trans hn); clear hn) | (go_at_call 212; refine (HP.out _ _ _).mono ?_; rintro e w2 ⟨rfl, hn⟩; have HN2 := Lib.hid (HN1.out.trans hn); clear hn))
    go_ret
    exact ⟨_, _, rfl, HN2.out⟩
set_option maxHeartbeats 4000000 in
theorem strips0 (fv : Value) (Bs cp : Nat) (v : Option Addr) (W : World) (hB : W.cell? ⟨Bs, 0, none⟩ = some (.slice v 0 cp)) : Calls Tryz.prog 179 #[fv, .pointer (some ⟨Bs, 0, none⟩)] W fun e W' => e = .returned (.tuple #[]) ∧ New W W' := by
  have HE := Lib.hid (fun w1 : World => endXs_nil v cp w1)
  go_enter Tryz.func179, Tryz.ntmps179
  go_wp2_with (go_at_call 180; refine (HE.out _).mono ?_; rintro e w1 ⟨a, c2, rfl, hn⟩; have HN := Lib.hid hn; clear hn)
  go_loopw [4] (fun i wr => i = .int .i64 1 ∧ New W wr) (fun _ _ => 0)
  case atStart => exact ⟨rfl, HN.out⟩
  case round =>
    obtain ⟨rfl, hn⟩ := hrel
    have HN2 := Lib.hid hn
    clear hn
    go_wp2_with fail
    exact bodyPost_end (results_none rfl _ _ _) rfl ⟨rfl, HN2.out⟩

set_option maxHeartbeats 4000000 in
theorem sweep_err (A : Option Addr) (n cp : Nat) (K : Int) (w : World) (hK : K ≠ 0)
    (HC : Hid (∀ w1 : World, New w w1 → Calls Tryz.prog 137 #[.slice A n cp] w1 fun en w' => en = .returned (.int .i64 K) ∧ New w1 w')) :
    Calls Tryz.prog 70 #[.slice A n cp] w fun en w' => en = .returned (.tuple #[.slice none 0 0, .int .i64 K]) ∧ New w w' := by
  have z1 : (K == 0) = false := by simpa using hK
  have z2 : (K != 0) = true := by simpa using hK
  have HCC := Lib.hid (fun (w1 : World) (h1 : New w w1) => (callsIn_wide (n := 4)).2 (HC.out w1 h1))
  refine (callsIn_wide (n := 5)).1 ?_
  refine callsIn_of_wp_marks Tryz.func70 rfl trivial ?_ rfl
  simp only [Tryz.ntmps70, List.size_toArray, List.length_cons, List.length_nil, Nat.reduceAdd, Nat.reduceSub, Array.replicate_succ, Array.replicate_zero, List.push_toArray, List.append_toArray, List.nil_append, List.cons_append]
  gi_wp2
  refine ⟨trivial, ?_⟩
  gi_at_call 137
  refine (HCC.out _ ((New.refl _).alloc _)).mono ?_
  rintro e w1 ⟨rfl, hn1⟩
  have HN1 := Lib.hid (show New w w1 from ((New.refl _).alloc _).trans hn1)
  clear hn1
  gi_wp2
  refine ⟨_, results_tmp2 rfl _ _ _, ?_⟩
  exact ⟨rfl, HN1.out⟩

end Go.Proofs.YtpdfbboagaflhaaGreat

set_option linter.unusedSimpArgs false
set_option linter.unusedVariables false
set_option maxRecDepth 100000
namespace Go.Proofs.YtpdfbboagaflhaaGreat
open Go.RowKit Go.Shelf

attribute [local go_sem] Oper.semAt_some

set_option maxHeartbeats 8000000 in
theorem sweep_nil (A : Option Addr) (cp : Nat) (w : World) :
    Calls Tryz.prog 70 #[.slice A 0 cp] w fun en w' => en = .returned (.tuple #[.slice none 0 0, .int .i64 0]) ∧ New w w' := by
  have HCC := Lib.hid (fun (w1 : World) => (callsIn_wide (n := 4)).2 (checkApart_none A cp w1))
  have HST := Lib.hid (fun (w1 : World) => (callsIn_wide (n := 4)).2 (strips_c A 0 cp w1))
  refine (callsIn_wide (n := 5)).1 ?_
  refine callsIn_of_wp_marks Tryz.func70 rfl trivial ?_ rfl
  simp only [Tryz.ntmps70, List.size_toArray, List.length_cons, List.length_nil, Nat.reduceAdd, Nat.reduceSub, Array.replicate_succ, Array.replicate_zero, List.push_toArray, List.append_toArray, List.nil_append, List.cons_append]
  gi_wp2
  refine ⟨trivial, ?_⟩
  gi_at_call 137
  refine (HCC.out _).mono ?_
  rintro e w1 ⟨rfl, hn1⟩
  have HN1 := Lib.hid (show New w w1 from ((New.refl _).alloc _).trans hn1)
  have hbx : w1.cell? ⟨w.heap.size, 0, none⟩ = some (.slice A 0 cp) := (hn1.below.cell (p := ⟨w.heap.size, 0, none⟩) (by simp)).trans (by simp [go_sem])
  have hsz1 := hn1.size
  simp only [World.size_alloc] at hsz1
  have hwl : w.heap.size < w1.heap.size := by omega
  clear hn1
  gi_wp2
  refine ⟨trivial, ?_⟩
  gi_at_call 143
  refine (HST.out _).mono ?_
  rintro e w2 ⟨rfl, rfl⟩
  gi_wp2
  obtain ⟨WS, HWS⟩ : ∃ WS : World, Hid (WS = (w1.alloc (.cells #[.slice none 0 0] 65)).alloc (.cells #[.slice A 0 cp] 58)) := ⟨_, Lib.hid rfl⟩
  rw [← HWS.out]
  have hss : WS.heap.size = w1.heap.size + 2 := by rw [HWS.out]; simp
  have hss1 : w1.heap.size + 2 ≤ WS.heap.size := by omega
  have hss2 : WS.heap.size ≤ w1.heap.size + 2 := by omega
  clear hss
  have HNS := Lib.hid (show New w WS by rw [HWS.out]; exact (HN1.out.alloc _).alloc _)
  have HOB := Lib.hid (show WS.heap[w1.heap.size]? = some (.cells #[.slice none 0 0] 65 (0, 0)) by rw [HWS.out]; exact (Below.heap_alloc _ _ _ (by simp)).trans (World.alloc_heap_new w1 _))
  have HBB := Lib.hid (show WS.heap[w1.heap.size + 1]? = some (.cells #[.slice A 0 cp] 58 (0, 0)) by rw [HWS.out]; have := World.alloc_heap_new (w1.alloc (.cells #[.slice none 0 0] 65)) (.cells #[.slice A 0 cp] 58); rwa [World.size_alloc] at this)
  refine range_whole (n := 5) rfl (fun _ => trivial) (by omega) (gf := 179) (lb := #[.pointer (some ⟨w1.heap.size + 1, 0, none⟩)]) rfl (enters_of Tryz.func179 (by kernel_rfl) rfl)
    (fun W => New w W ∧ W.heap[w1.heap.size]? = some (.cells #[.slice none 0 0] 65 (0, 0)) ∧ W.heap[WS.heap.size]? = some (.deferred (some []))) ?hit ?hdone
  case hit =>
    intro fn W1 hW1
    have HNW1 := Lib.hid (show New WS W1 by rw [hW1]; exact ((New.refl _).alloc _).alloc _)
    have HDF := Lib.hid (show W1.heap[WS.heap.size]? = some (.deferred (some [])) by rw [hW1]; exact (Below.heap_alloc _ _ _ (by simp)).trans (World.alloc_heap_new WS _))
    have HRC := Lib.hid (alloc2_new hW1)
    have hD1 : W1.heap.size = WS.heap.size + 2 := by rw [hW1]; simp
    have hold : ∀ (X Y : World) (h : New X Y) (k : Nat), k < X.heap.size → Y.heap[k]? = X.heap[k]? := fun X Y h k hk => h.below.block k hk
    have hb : W1.cell? ⟨w1.heap.size + 1, 0, none⟩ = some (.slice A 0 cp) := by
      have h1 : W1.heap[w1.heap.size + 1]? = some (.cells #[.slice A 0 cp] 58 (0, 0)) := (hold _ _ HNW1.out _ (by omega)).trans HBB.out
      simp [World.cell?, h1]
    have h3 := (callsIn_wide (n := 4)).2 (strips0 (.func (.yield (WS.heap.size + 1)) #[] #[]) (w1.heap.size + 1) cp A W1 hb)
    refine h3.mono ?_
    rintro e W' ⟨rfl, hn⟩
    refine ⟨⟨_, rfl⟩, ⟨HNS.out.trans (HNW1.out.trans hn), ?_, ?_⟩, ?_⟩
    · exact (hold _ _ hn _ (by omega)).trans ((hold _ _ HNW1.out _ (by omega)).trans HOB.out)
    · exact (hold _ _ hn _ (by omega)).trans HDF.out
    · exact (hold _ _ hn _ (by omega)).trans HRC.out
  case hdone =>
    rintro W o ⟨hnw, hbx2, hdf⟩
    obtain ⟨Wf, HWf⟩ : ∃ Wf, Hid (Wf = W.putObj (WS.heap.size + 1) o) := ⟨_, Lib.hid rfl⟩
    rw [← HWf.out]
    have hsn := HNS.out.size
    have hbf : Wf.heap[w1.heap.size]? = some (.cells #[.slice none 0 0] 65 (0, 0)) := by rw [HWf.out, putObj_heap _ _ _ _ (by omega)]; exact hbx2
    have hcell : Wf.cell? ⟨w1.heap.size, 0, none⟩ = some (.slice none 0 0) := by simp [World.cell?, hbf]
    have HDF := Lib.hid (show Wf.heap[WS.heap.size]? = some (.deferred (some [])) by rw [HWf.out, putObj_heap _ _ _ _ (by omega)]; exact hdf)
    have HNW := Lib.hid (show New w Wf by rw [HWf.out]; exact new_putObj hnw _ (by omega))
    clear hnw hbx2 hdf hbf
    gi_wp2
    refine ⟨by simp, .inl ⟨_, _, rfl, run_takeDeferred HDF.out, ?_⟩⟩
    refine ⟨_, results_tmp2 rfl _ _ _, ?_⟩
    exact ⟨rfl, new_putObj HNW.out _ hsn⟩

set_option maxHeartbeats 8000000 in
theorem sameStrips_nil (A cv : Option Addr) (cp N cc : Nat) (w : World) :
    Calls Tryz.prog 150 #[.slice A 0 cp, .slice cv N cc] w fun e w' => e = .returned (.bool (decide (N = 0))) ∧ New w w' := by
  have HST := Lib.hid (fun (w1 : World) => (callsIn_wide (n := 4)).2 (strips_c A 0 cp w1))
  refine (callsIn_wide (n := 5)).1 ?_
  refine callsIn_of_wp_marks Tryz.func150 rfl trivial ?_ rfl
  simp only [Tryz.ntmps150, List.size_toArray, List.length_cons, List.length_nil, Nat.reduceAdd, Nat.reduceSub, Array.replicate_succ, Array.replicate_zero, List.push_toArray, List.append_toArray, List.nil_append, List.cons_append]
  gi_wp2
  refine ⟨trivial, ?_⟩
  gi_at_call 143
  refine (HST.out _).mono ?_
  rintro e w2 ⟨rfl, rfl⟩
  gi_wp2
  obtain ⟨WS, HWS⟩ : ∃ WS : World, Hid (WS = (((w.alloc (.cells #[.slice cv N cc] 65)).alloc (.cells #[.bool false] 4)).alloc (.cells #[.int .i64 0] 3)).alloc (.cells #[.slice A 0 cp] 58)) := ⟨_, Lib.hid rfl⟩
  rw [← HWS.out]
  have hss : WS.heap.size = w.heap.size + 4 := by rw [HWS.out]; simp
  have hss1 : w.heap.size + 4 ≤ WS.heap.size := by omega
  have hss2 : WS.heap.size ≤ w.heap.size + 4 := by omega
  clear hss
  have HNS := Lib.hid (show New w WS by rw [HWS.out]; exact ((((New.refl _).alloc _).alloc _).alloc _).alloc _)
  have HB4 := Lib.hid (show WS.heap[w.heap.size]? = some (.cells #[.slice cv N cc] 65 (0, 0)) ∧ WS.heap[w.heap.size + 1]? = some (.cells #[.bool false] 4 (0, 0)) ∧ WS.heap[w.heap.size + 2]? = some (.cells #[.int .i64 0] 3 (0, 0)) ∧ WS.heap[w.heap.size + 3]? = some (.cells #[.slice A 0 cp] 58 (0, 0)) by
    rw [HWS.out]
    have a1 := World.alloc_heap_new w (.cells #[.slice cv N cc] 65)
    have a2 := World.alloc_heap_new (w.alloc (.cells #[.slice cv N cc] 65)) (.cells #[.bool false] 4)
    have a3 := World.alloc_heap_new ((w.alloc (.cells #[.slice cv N cc] 65)).alloc (.cells #[.bool false] 4)) (.cells #[.int .i64 0] 3)
    have a4 := World.alloc_heap_new (((w.alloc (.cells #[.slice cv N cc] 65)).alloc (.cells #[.bool false] 4)).alloc (.cells #[.int .i64 0] 3)) (.cells #[.slice A 0 cp] 58)
    simp only [World.size_alloc] at a2 a3 a4
    refine ⟨?_, ?_, ?_, a4⟩
    · exact (Below.heap_alloc _ _ _ (by simp only [World.size_alloc]; omega)).trans ((Below.heap_alloc _ _ _ (by simp only [World.size_alloc]; omega)).trans ((Below.heap_alloc _ _ _ (by simp only [World.size_alloc]; omega)).trans a1))
    · exact (Below.heap_alloc _ _ _ (by simp only [World.size_alloc]; omega)).trans ((Below.heap_alloc _ _ _ (by simp only [World.size_alloc]; omega)).trans a2)
    · exact (Below.heap_alloc _ _ _ (by simp only [World.size_alloc]; omega)).trans a3)
  obtain ⟨b0, b1, b2, b3⟩ := HB4.out
  refine range_whole2 (n := 5) rfl (fun _ => trivial) (by omega) (gf := 179) (lb := #[.pointer (some ⟨w.heap.size + 3, 0, none⟩)]) rfl (enters_of Tryz.func179 (by kernel_rfl) rfl)
    (fun W => New w W ∧ (W.heap[w.heap.size]? = some (.cells #[.slice cv N cc] 65 (0, 0)) ∧ W.heap[w.heap.size + 1]? = some (.cells #[.bool false] 4 (0, 0)) ∧ W.heap[w.heap.size + 2]? = some (.cells #[.int .i64 0] 3 (0, 0))) ∧ W.heap[WS.heap.size]? = some (.deferred (some []))) (fun _ => False) ?hit ?hdone (fun _ _ h => h.elim)
  case hit =>
    intro fn W1 hW1
    have HNW1 := Lib.hid (show New WS W1 by rw [hW1]; exact ((New.refl _).alloc _).alloc _)
    have HDF := Lib.hid (show W1.heap[WS.heap.size]? = some (.deferred (some [])) by rw [hW1]; exact (Below.heap_alloc _ _ _ (by simp)).trans (World.alloc_heap_new WS _))
    have HRC := Lib.hid (alloc2_new hW1)
    have hD1 : W1.heap.size = WS.heap.size + 2 := by rw [hW1]; simp
    have hold : ∀ (X Y : World) (h : New X Y) (k : Nat), k < X.heap.size → Y.heap[k]? = X.heap[k]? := fun X Y h k hk => h.below.block k hk
    have hb : W1.cell? ⟨w.heap.size + 3, 0, none⟩ = some (.slice A 0 cp) := by
      have h1 : W1.heap[w.heap.size + 3]? = some (.cells #[.slice A 0 cp] 58 (0, 0)) := (hold _ _ HNW1.out _ (by omega)).trans b3
      simp [World.cell?, h1]
    have h3 := (callsIn_wide (n := 4)).2 (strips0 (.func (.yield (WS.heap.size + 1)) #[] #[]) (w.heap.size + 3) cp A W1 hb)
    refine h3.mono ?_
    rintro e W' ⟨rfl, hn⟩
    have e2 : ∀ k, k < WS.heap.size → W'.heap[k]? = WS.heap[k]? := fun k hk => (hold _ _ hn _ (by omega)).trans (hold _ _ HNW1.out _ hk)
    refine ⟨⟨_, rfl⟩, .inl ⟨⟨HNS.out.trans (HNW1.out.trans hn), ⟨(e2 _ (by omega)).trans b0, (e2 _ (by omega)).trans b1, (e2 _ (by omega)).trans b2⟩, ?_⟩, ?_⟩⟩
    · exact (hold _ _ hn _ (by omega)).trans HDF.out
    · exact (hold _ _ hn _ (by omega)).trans HRC.out
  case hdone =>
    rintro W o ⟨hnw, ⟨g0, g1, g2⟩, hdf⟩
    obtain ⟨Wf, HWf⟩ : ∃ Wf, Hid (Wf = W.putObj (WS.heap.size + 1) o) := ⟨_, Lib.hid rfl⟩
    rw [← HWf.out]
    have hsn := HNS.out.size
    have hsw := hnw.size
    have hszf : WS.heap.size < Wf.heap.size := by rw [HWf.out, World.putObj_size]; exact (Array.getElem?_eq_some_iff.1 hdf).1
    have HDF := Lib.hid (show Wf.heap[WS.heap.size]? = some (.deferred (some [])) by rw [HWf.out, putObj_heap _ _ _ _ (by omega)]; exact hdf)
    have HNW := Lib.hid (show New w Wf by rw [HWf.out]; exact new_putObj hnw _ (by omega))
    have HG1 := Lib.hid (show Wf.heap[w.heap.size + 1]? = some (.cells #[.bool false] 4 (0, 0)) by rw [HWf.out, putObj_heap _ _ _ _ (by omega)]; exact g1)
    have cC : Wf.cell? ⟨w.heap.size, 0, none⟩ = some (.slice cv N cc) := by
      have h1 : Wf.heap[w.heap.size]? = some (.cells #[.slice cv N cc] 65 (0, 0)) := by rw [HWf.out, putObj_heap _ _ _ _ (by omega)]; exact g0
      simp [World.cell?, h1]
    have cR : Wf.cell? ⟨w.heap.size + 1, 0, none⟩ = some (.bool false) ∧ Wf.frozen? ⟨w.heap.size + 1, 0, none⟩ = false := by
      have h1 := HG1.out
      simp [World.cell?, World.frozen?, h1]
    have cI : Wf.cell? ⟨w.heap.size + 2, 0, none⟩ = some (.int .i64 0) := by
      have h1 : Wf.heap[w.heap.size + 2]? = some (.cells #[.int .i64 0] 3 (0, 0)) := by rw [HWf.out, putObj_heap _ _ _ _ (by omega)]; exact g2
      simp [World.cell?, h1]
    obtain ⟨cR1, cR2⟩ := cR
    have HRV := Lib.hid (show ((0 : Int) == (N : Int)) = decide (N = 0) by
      by_cases hq : N = 0
      · subst hq; rfl
      · rw [decide_eq_false hq]; simpa using (show ¬ (0 : Int) = N by omega))
    clear hnw g0 g1 g2 hdf b0 b1 b2 b3
    gi_wp2
    have HD2 := Lib.hid (show (Wf.setCell ⟨w.heap.size + 1, 0, none⟩ (.bool ((0 : Int) == (N : Int)))).heap[WS.heap.size]? = some (.deferred (some [])) from (heap_setCell_other _ _ _ _ _ (by omega)).trans HDF.out)
    have hcell : ((Wf.setCell ⟨w.heap.size + 1, 0, none⟩ (.bool ((0 : Int) == (N : Int)))).putObj WS.heap.size (.deferred none)).cell? ⟨w.heap.size + 1, 0, none⟩ = some (.bool ((0 : Int) == (N : Int))) := by
      have h1 : ((Wf.setCell ⟨w.heap.size + 1, 0, none⟩ (.bool ((0 : Int) == (N : Int)))).putObj WS.heap.size (.deferred none)).heap[w.heap.size + 1]? = some (.cells #[.bool ((0 : Int) == (N : Int))] 4 (0, 0)) := (putObj_heap _ _ _ _ (by omega)).trans (heap_setCell_same Wf _ 0 _ HG1.out)
      simp [World.cell?, h1]
    refine ⟨by simp, .inl ⟨_, _, rfl, run_takeDeferred HD2.out, ?_⟩⟩
    rw [HRV.out] at hcell ⊢
    refine ⟨.bool (decide (N = 0)), by simp [results, Tryz.results150, go_sem, hcell], rfl, new_putObj (HNW.out.setCell (by show w.heap.size ≤ w.heap.size + 1; omega) _) _ hsn⟩

end Go.Proofs.YtpdfbboagaflhaaGreat

set_option linter.unusedSimpArgs false
set_option linter.unusedVariables false
set_option maxRecDepth 100000
namespace Go.Proofs.YtpdfbboagaflhaaGreat
open Go.RowKit Go.Shelf

set_option maxHeartbeats 4000000 in
theorem verticals_nil (v : Option Addr) (c : Nat) (w : World) : Calls Tryz.prog 153 #[.slice v 0 c] w fun en w' => en = .returned (.slice none 0 0) ∧ New w w' := by
  have HSO := Lib.hid (sortS_none none 0)
  go_enter Tryz.func153, Tryz.ntmps153
  go_wp2_with fail
  go_loopw [3, 8] (fun s i wr => (i = .int .i64 0 ∧ s = .slice none 0 0) ∧ New w wr) (fun _ _ _ => 0)
  case atStart => exact ⟨⟨rfl, rfl⟩, New.refl _⟩
  case round =>
    obtain ⟨⟨rfl, rfl⟩, hn⟩ := hrel
    have HN := Lib.hid hn
    clear hn
    go_wp2_with (first | (go_at_call 138; refine (HSO.out _).mono ?_; rintro e w1 ⟨rfl, rfl⟩))
    go_ret
    exact ⟨rfl, HN.out⟩
set_option maxHeartbeats 8000000 in
theorem checkSweep_nil (A cv : Option Addr) (cp N cc : Nat) (w : World) :
    Calls Tryz.prog 73 #[.slice A 0 cp, .slice cv N cc] w fun e w' => e = .returned (.bool (decide (N = 0))) ∧ New w w' := by
  have HC := Lib.hid (fun w1 : World => checkSegs_nil A cp w1)
  have HS := Lib.hid (fun w1 : World => sameStrips_nil A cv cp N cc w1)
  by_cases h0 : N = 0
  · subst h0
    have HVE := Lib.hid (fun w1 : World => verticals_nil A cp w1)
    have HO := Lib.hid (fun w1 : World => overlapping_c none 0 0 [] w1 (by omega) rfl (fun h => by omega))
    rw [show ovB [] = false from rfl] at HO
    rw [show decide (0 = 0) = true from rfl] at HS ⊢
    go_enter Tryz.func73, Tryz.ntmps73
    go_wp2_with (first | (go_at_call 135; refine (HC.out _).mono ?_; rintro en w1 ⟨rfl, pw, rfl⟩) | (go_at_call 150; refine (HS.out _).mono ?_; rintro en w2 ⟨rfl, hn2⟩))
    have HN2 := Lib.hid (show New w w2 from New.trans (by (repeat (first | exact New.refl _ | apply New.alloc | apply New.aft | apply New.drew | refine New.setCell ?_ ?_ _)); all_goals (first | done | (simp [size_aft]; done) | (simp [size_aft]; omega))) hn2)
    clear hn2
    go_loopw [21] (fun i wr => i = .int .i64 0 ∧ New w2 wr) (fun _ _ => 0)
    case atStart => exact ⟨rfl, New.refl _⟩
    case round =>
      obtain ⟨rfl, hn⟩ := hrel
      have HNW := Lib.hid (HN2.out.trans hn)
      clear hn
      go_wp2_with (first | (go_at_call 153; refine (HVE.out _).mono ?_; rintro en w3 ⟨rfl, hn3⟩; have HN3 := Lib.hid (HNW.out.trans hn3); clear hn3) | (go_at_call 154; refine (HO.out _).mono ?_; rintro en w4 ⟨rfl, hn4⟩; have HN4 := Lib.hid (HN3.out.trans hn4); clear hn4))
      go_loopw [52] (fun i wr => i = .int .i64 0 ∧ New w4 wr) (fun _ _ => 0)
      case atStart => exact ⟨rfl, New.refl _⟩
      case round =>
        obtain ⟨rfl, hn⟩ := hrel
        have HN5 := Lib.hid (HN4.out.trans hn)
        clear hn
        go_wp2_with fail
        go_ret
        exact ⟨rfl, HN5.out⟩
  · rw [show decide (N = 0) = false from decide_eq_false h0] at HS ⊢
    exact checkSweep_bad A cv 0 cp N cc w (Lib.hid (fun w1 _ => HC.out w1)) (Lib.hid (fun w1 _ => HS.out w1))

set_option maxHeartbeats 4000000 in
theorem swept_long (A cv : Option Addr) (n cp N cc : Nat) (w : World) (hn : 60 < n) : Calls Tryz.prog 23 #[.slice A n cp, .slice cv N cc] w fun e w' => e = .returned (.bool true) ∧ New w w' := by
  have HL := Lib.hid alive_c
  have hn2 : (60 : Int) < (n : Int) := by omega
  go_enter Tryz.func23, Tryz.ntmps23
  go_wp2_with (go_at_call 31; refine (HL.out _).mono ?_; rintro e w1 ⟨rfl, pw, rfl⟩)
  all_goals (go_ret; exact ⟨rfl, (by (repeat (first | exact New.refl _ | apply New.alloc | apply New.aft | apply New.drew | refine New.setCell ?_ ?_ _)); all_goals (first | done | (simp [size_aft]; done) | (simp [size_aft]; omega)))⟩)
set_option maxHeartbeats 4000000 in
theorem swept_thick (A cv : Option Addr) (n cp N cc : Nat) (w : World) (hn : n ≤ 60)
    (HT : Hid (∀ w1 : World, New w w1 → Calls Tryz.prog 69 #[.slice cv N cc] w1 fun e w' => e = .returned (.bool false) ∧ New w1 w')) : Calls Tryz.prog 23 #[.slice A n cp, .slice cv N cc] w fun e w' => e = .returned (.bool true) ∧ New w w' := by
  have HL := Lib.hid alive_c
  have hn2 : ¬ (60 : Int) < (n : Int) := by omega
  go_enter Tryz.func23, Tryz.ntmps23
  go_wp2_with (first | (go_at_call 31; refine (HL.out _).mono ?_; rintro e w1 ⟨rfl, pw, rfl⟩) | (go_at_call 69; refine (HT.out _ (by (repeat (first | exact New.refl _ | apply New.alloc | apply New.aft | apply New.drew | refine New.setCell ?_ ?_ _)); all_goals (first | done | (simp [size_aft]; done) | (simp [size_aft]; omega)))).mono ?_; rintro e w1 ⟨rfl, pw, rfl⟩))
  all_goals (go_ret; exact ⟨rfl, (by (repeat (first | exact New.refl _ | apply New.alloc | apply New.aft | apply New.drew | refine New.setCell ?_ ?_ _)); all_goals (first | done | (simp [size_aft]; done) | (simp [size_aft]; omega)))⟩)
set_option maxHeartbeats 8000000 in
/-- the segments are not valid -/
theorem swept_bad (A cv : Option Addr) (n cp N cc : Nat) (K : Int) (w : World) (hn : n ≤ 60) (hK : K ≠ 0)
    (HT : Hid (∀ w1 : World, New w w1 → Calls Tryz.prog 69 #[.slice cv N cc] w1 fun e w' => e = .returned (.bool true) ∧ New w1 w'))
    (HX : Hid (∀ w1 : World, New w w1 → Calls Tryz.prog 64 #[.slice A n cp] w1 fun e w' => e = .returned (.tuple #[.int .i64 0, .int .i64 0, .bool false, .int .i64 K]) ∧ New w1 w'))
    (HS : Hid (∀ w1 : World, New w w1 → Calls Tryz.prog 70 #[.slice A n cp] w1 fun e w' => e = .returned (.tuple #[.slice none 0 0, .int .i64 K]) ∧ New w1 w'))
    (HC : Hid (∀ w1 : World, New w w1 → Calls Tryz.prog 73 #[.slice A n cp, .slice cv N cc] w1 fun e w' => e = .returned (.bool false) ∧ New w1 w')) :
    Calls Tryz.prog 23 #[.slice A n cp, .slice cv N cc] w fun e w' => e = .returned (.bool true) ∧ New w w' := by
  have HL := Lib.hid alive_c
  have hn2 : ¬ (60 : Int) < (n : Int) := by omega
  have z1 : (K == 0) = false := by simpa using hK
  have z2 : (K != 0) = true := by simpa using hK
  have z3 : (K == K) = true := by simp
  go_enter Tryz.func23, Tryz.ntmps23
  go_wp2_with (first | (go_at_call 31; refine (HL.out _).mono ?_; rintro e w1 ⟨rfl, pw0, rfl⟩) | (go_at_call 69; refine (HT.out _ (by (repeat (first | exact New.refl _ | apply New.alloc | apply New.aft | apply New.drew | refine New.setCell ?_ ?_ _)); all_goals (first | done | (simp [size_aft]; done) | (simp [size_aft]; omega)))).mono ?_; rintro e w1 ⟨rfl, pw1, rfl⟩) | (go_at_call 64; refine (HX.out _ (by (repeat (first | exact New.refl _ | apply New.alloc | apply New.aft | apply New.drew | refine New.setCell ?_ ?_ _)); all_goals (first | done | (simp [size_aft]; done) | (simp [size_aft]; omega)))).mono ?_; rintro e w1 ⟨rfl, pw2, rfl⟩) | (go_at_call 70; refine (HS.out _ (by (repeat (first | exact New.refl _ | apply New.alloc | apply New.aft | apply New.drew | refine New.setCell ?_ ?_ _)); all_goals (first | done | (simp [size_aft]; done) | (simp [size_aft]; omega)))).mono ?_; rintro e w1 ⟨rfl, pw3, rfl⟩) | (go_at_call 73; refine (HC.out _ (by (repeat (first | exact New.refl _ | apply New.alloc | apply New.aft | apply New.drew | refine New.setCell ?_ ?_ _)); all_goals (first | done | (simp [size_aft]; done) | (simp [size_aft]; omega)))).mono ?_; rintro e w1 ⟨rfl, pw4, rfl⟩))
  all_goals (go_ret; exact ⟨rfl, (by (repeat (first | exact New.refl _ | apply New.alloc | apply New.aft | apply New.drew | refine New.setCell ?_ ?_ _)); all_goals (first | done | (simp [size_aft]; done) | (simp [size_aft]; omega)))⟩)
set_option maxHeartbeats 8000000 in
/-- two segments cross -/
theorem swept_cross (A cv : Option Addr) (n cp N cc : Nat) (w : World) (hn : n ≤ 60)
    (HT : Hid (∀ w1 : World, New w w1 → Calls Tryz.prog 69 #[.slice cv N cc] w1 fun e w' => e = .returned (.bool true) ∧ New w1 w'))
    (HX : Hid (∀ w1 : World, New w w1 → Calls Tryz.prog 64 #[.slice A n cp] w1 fun e w' => (∃ i j : Nat, e = .returned (.tuple #[.int .i64 i, .int .i64 j, .bool true, .int .i64 0])) ∧ New w1 w'))
    (HS : Hid (∀ w1 : World, New w w1 → Calls Tryz.prog 70 #[.slice A n cp] w1 fun e w' => e = .returned (.tuple #[.slice none 0 0, .int .i64 10]) ∧ New w1 w'))
    (HC : Hid (∀ w1 : World, New w w1 → Calls Tryz.prog 73 #[.slice A n cp, .slice cv N cc] w1 fun e w' => e = .returned (.bool false) ∧ New w1 w')) :
    Calls Tryz.prog 23 #[.slice A n cp, .slice cv N cc] w fun e w' => e = .returned (.bool true) ∧ New w w' := by
  have HL := Lib.hid alive_c
  have hn2 : ¬ (60 : Int) < (n : Int) := by omega
  go_enter Tryz.func23, Tryz.ntmps23
  go_wp2_with (first | (go_at_call 31; refine (HL.out _).mono ?_; rintro e w1 ⟨rfl, pw0, rfl⟩) | (go_at_call 69; refine (HT.out _ (by (repeat (first | exact New.refl _ | apply New.alloc | apply New.aft | apply New.drew | refine New.setCell ?_ ?_ _)); all_goals (first | done | (simp [size_aft]; done) | (simp [size_aft]; omega)))).mono ?_; rintro e w1 ⟨rfl, pw1, rfl⟩) | (go_at_call 64; refine (HX.out _ (by (repeat (first | exact New.refl _ | apply New.alloc | apply New.aft | apply New.drew | refine New.setCell ?_ ?_ _)); all_goals (first | done | (simp [size_aft]; done) | (simp [size_aft]; omega)))).mono ?_; rintro e w1 ⟨⟨i, j, rfl⟩, pw2, rfl⟩) | (go_at_call 70; refine (HS.out _ (by (repeat (first | exact New.refl _ | apply New.alloc | apply New.aft | apply New.drew | refine New.setCell ?_ ?_ _)); all_goals (first | done | (simp [size_aft]; done) | (simp [size_aft]; omega)))).mono ?_; rintro e w1 ⟨rfl, pw3, rfl⟩) | (go_at_call 73; refine (HC.out _ (by (repeat (first | exact New.refl _ | apply New.alloc | apply New.aft | apply New.drew | refine New.setCell ?_ ?_ _)); all_goals (first | done | (simp [size_aft]; done) | (simp [size_aft]; omega)))).mono ?_; rintro e w1 ⟨rfl, pw4, rfl⟩))
  all_goals (go_ret; exact ⟨rfl, (by (repeat (first | exact New.refl _ | apply New.alloc | apply New.aft | apply New.drew | refine New.setCell ?_ ?_ _)); all_goals (first | done | (simp [size_aft]; done) | (simp [size_aft]; omega)))⟩)
set_option maxHeartbeats 8000000 in
/-- no two segments cross -/
theorem swept_apart (A cv : Option Addr) (n cp N cc : Nat) (R : Value → World → Prop) (w : World) (hn : n ≤ 60)
    (HT : Hid (∀ w1 : World, New w w1 → Calls Tryz.prog 69 #[.slice cv N cc] w1 fun e w' => e = .returned (.bool true) ∧ New w1 w'))
    (HX : Hid (∀ w1 : World, New w w1 → Calls Tryz.prog 64 #[.slice A n cp] w1 fun e w' => e = .returned (.tuple #[.int .i64 0, .int .i64 0, .bool false, .int .i64 0]) ∧ New w1 w'))
    (HS : Hid (∀ w1 : World, New w w1 → Calls Tryz.prog 70 #[.slice A n cp] w1 fun e w' => ∃ a m c, e = .returned (.tuple #[.slice a m c, .int .i64 0]) ∧ R (.slice a m c) w' ∧ New w1 w'))
    (HC : Hid (∀ (v : Value) (w1 : World), New w w1 → R v w1 → Calls Tryz.prog 73 #[.slice A n cp, v] w1 fun e w' => e = .returned (.bool true) ∧ New w1 w')) :
    Calls Tryz.prog 23 #[.slice A n cp, .slice cv N cc] w fun e w' => e = .returned (.bool true) ∧ New w w' := by
  have HL := Lib.hid alive_c
  have hn2 : ¬ (60 : Int) < (n : Int) := by omega
  go_enter Tryz.func23, Tryz.ntmps23
  go_wp2_with (first | (go_at_call 31; refine (HL.out _).mono ?_; rintro e w1 ⟨rfl, pw0, rfl⟩) | (go_at_call 69; refine (HT.out _ (by (repeat (first | exact New.refl _ | apply New.alloc | apply New.aft | apply New.drew | refine New.setCell ?_ ?_ _)); all_goals (first | done | (simp [size_aft]; done) | (simp [size_aft]; omega)))).mono ?_; rintro e w1 ⟨rfl, pw1, rfl⟩) | (go_at_call 64; refine (HX.out _ (by (repeat (first | exact New.refl _ | apply New.alloc | apply New.aft | apply New.drew | refine New.setCell ?_ ?_ _)); all_goals (first | done | (simp [size_aft]; done) | (simp [size_aft]; omega)))).mono ?_; rintro e w1 ⟨rfl, pw2, rfl⟩) | (go_at_call 70; refine (HS.out _ (by (repeat (first | exact New.refl _ | apply New.alloc | apply New.aft | apply New.drew | refine New.setCell ?_ ?_ _)); all_goals (first | done | (simp [size_aft]; done) | (simp [size_aft]; omega)))).mono ?_; rintro e w5 ⟨a, m, c, rfl, hR, hn5⟩; have HRR := Lib.hid hR; have HN5 := Lib.hid (show New w w5 from New.trans (by (repeat (first | exact New.refl _ | apply New.alloc | apply New.aft | apply New.drew | refine New.setCell ?_ ?_ _)); all_goals (first | done | (simp [size_aft]; done) | (simp [size_aft]; omega))) hn5); clear hR hn5) | (go_at_call 73; refine (HC.out _ _ HN5.out HRR.out).mono ?_; rintro e w6 ⟨rfl, hn6⟩; have HN6 := Lib.hid (HN5.out.trans hn6); clear hn6))
  all_goals (go_ret; exact ⟨rfl, (by (repeat (first | exact HN6.out | exact New.refl _ | apply New.alloc | apply New.aft | apply New.drew | refine New.setCell ?_ ?_ _)); all_goals (first | done | (simp [size_aft]; done) | (simp [size_aft]; omega)))⟩)

end Go.Proofs.YtpdfbboagaflhaaGreat

set_option linter.unusedSimpArgs false
set_option linter.unusedVariables false
namespace Go.Proofs.YtpdfbboagaflhaaGreat
open Go.RowKit

theorem fwd_cases (a b c d : Int) : (Geo.lexB c d a b ∧ (f1 a b c d, f2 a b c d, f3 a b c d, f4 a b c d) = (c, d, a, b)) ∨ (¬ Geo.lexB c d a b ∧ (f1 a b c d, f2 a b c d, f3 a b c d, f4 a b c d) = (a, b, c, d)) := by
  have h := (Geo.or_lt a b c d).2.2
  unfold f1 f2 f3 f4
  by_cases g : 0 < orI (cmpI a c) (cmpI b d)
  · left; rw [if_pos g, if_pos g, if_pos g, if_pos g]; exact ⟨h.1 g, rfl⟩
  · right; rw [if_neg g, if_neg g, if_neg g, if_neg g]; exact ⟨fun e => g (h.2 e), rfl⟩
theorem fwd_ok (a b c d : Int) (hne : ¬ (a = c ∧ b = d)) : Geo.FwdOk (f1 a b c d, f2 a b c d, f3 a b c d, f4 a b c d) := by
  rcases fwd_cases a b c d with ⟨hl, e⟩ | ⟨hl, e⟩
  · rw [e]
    refine ⟨?_, ?_⟩
    · rcases fwd_cases c d a b with ⟨h2, _⟩ | ⟨_, e2⟩
      · unfold Geo.lexB at hl h2; omega
      · exact e2
    · unfold Geo.lexB at hl; exact hl
  · rw [e]
    refine ⟨e, ?_⟩
    unfold Geo.lexB at hl
    simp only
    omega
theorem fwdAt_ok {l : List S4} (hok : okSegs l = true) {i : Nat} (hi : i < l.length) : Geo.FwdOk (fwdAt l i) := by
  obtain ⟨_, _, hne⟩ := okS_iff.1 (okSegs_at l i hi hok)
  exact fwd_ok _ _ _ _ hne
theorem fwdAt_x (l : List S4) (i : Nat) : (fwdAt l i).1 = min (q1 l i) (q3 l i) ∧ (fwdAt l i).2.2.1 = max (q1 l i) (q3 l i) := f_minmax _ _ _ _
theorem ev_of {l : List S4} (hok : okSegs l = true) : Geo.Ev2 l.length (endXsL l).length (fwdAt l) (xAt l) where
  up k hk := xAt_lt (Nat.lt_succ_self k) hk
  mem x := by
    constructor
    · rintro ⟨k, hk, rfl⟩
      obtain ⟨i, hi, h⟩ := endXs_mem.1 (xAt_mem hk)
      obtain ⟨e1, e2⟩ := fwdAt_x l i
      refine ⟨i, hi, ?_⟩
      rw [e1, e2]; omega
    · rintro ⟨i, hi, h⟩
      obtain ⟨e1, e2⟩ := fwdAt_x l i
      rw [e1, e2] at h
      have hm : x ∈ endXsL l := endXs_mem.2 ⟨i, hi, by omega⟩
      obtain ⟨k, hk, e⟩ := List.getElem_of_mem hm
      exact ⟨k, hk, by unfold xAt; rw [List.getD_eq_getElem?_getD, List.getElem?_eq_getElem hk]; exact e⟩
  ok i hi := fwdAt_ok hok hi
theorem cmA_DD (l : List S4) (L : List Int) (x : Int) (p q : Nat) : (cmA l L x p q < 0 ↔ Geo.DD (fwdAt l (L.getD p 0).toNat) (fwdAt l (L.getD q 0).toNat) x < 0) ∧ (0 < cmA l L x p q ↔ 0 < Geo.DD (fwdAt l (L.getD p 0).toNat) (fwdAt l (L.getD q 0).toNat) x) ∧ (cmA l L x p q = 0 ↔ Geo.DD (fwdAt l (L.getD p 0).toNat) (fwdAt l (L.getD q 0).toNat) x = 0) := by
  have h := Geo.cmpI_sub (hA l L x p * hD l L q) (hA l L x q * hD l L p)
  exact h
theorem natsL_len (L : List Int) : (natsL L).length = L.length := by simp [natsL]
theorem natsL_getD (L : List Int) {p : Nat} (h : p < L.length) : (natsL L).getD p 0 = (L.getD p 0).toNat := nat_natsL L p h
theorem rise_of {l : List S4} {L : List Int} {f t : Int} (h : risB l L f t = true) : Geo.Rise (fwdAt l) (natsL L) f t := by
  intro p hp
  rw [natsL_len] at hp
  rw [natsL_getD L (by omega), natsL_getD L hp]
  obtain ⟨h1, h2, h3⟩ := ris_step h hp
  have a := cmA_DD l L (2 * f) p (p + 1)
  have b := cmA_DD l L (2 * t) p (p + 1)
  omega
theorem ris_of {l : List S4} {L : List Int} {f t : Int} (h : Geo.Rise (fwdAt l) (natsL L) f t) : risB l L f t = true := by
  unfold risB
  have : (List.range (L.length - 1)).any (badR l L f t) = false := by
    rw [List.any_eq_false]
    intro p hp
    rw [List.mem_range] at hp
    have h1 := h p (by rw [natsL_len]; omega)
    rw [natsL_getD L (by omega), natsL_getD L (by omega)] at h1
    have a := cmA_DD l L (2 * f) p (p + 1)
    have b := cmA_DD l L (2 * t) p (p + 1)
    unfold badR
    have c1 : ¬ 0 < cmA l L (2 * f) p (p + 1) := by omega
    have c2 : ¬ 0 < cmA l L (2 * t) p (p + 1) := by omega
    have c3 : ¬ (cmA l L (2 * f) p (p + 1) = 0 ∧ cmA l L (2 * t) p (p + 1) = 0) := by omega
    rw [decide_eq_false c1, decide_eq_false c2]
    simpa using c3
  rw [this]; rfl
section
variable {l : List S4} {C : List SV}
theorem spanTo_up (l : List S4) (f t : Int) : ∀ n, (spanTo l f t n).Pairwise (· < ·) ∧ ∀ x ∈ spanTo l f t n, x < (n : Int)
  | 0 => by simp [spanTo]
  | n + 1 => by
    obtain ⟨h1, h2⟩ := spanTo_up l f t n
    simp only [spanTo]
    split
    · refine ⟨List.pairwise_append.2 ⟨h1, List.pairwise_singleton _ _, fun a ha b hb => ?_⟩, fun x hx => ?_⟩
      · obtain rfl : b = n := by simpa using hb
        exact h2 a ha
      · rcases List.mem_append.1 hx with h | h
        · have := h2 x h; omega
        · obtain rfl : x = n := by simpa using h
          omega
    · exact ⟨h1, fun x hx => by have := h2 x hx; omega⟩
theorem StripsAre.nodup (h : StripsAre l C) {j : Nat} (hj : j < C.length) : (natsL (sL C j)).Nodup := by
  obtain ⟨⟨e1, e2⟩, e3⟩ := h.mt j hj
  have h1 : (sL C j).Nodup := by
    have hp : (sortI (sL C j)).Perm (sL C j) := List.mergeSort_perm _ _
    refine hp.nodup_iff.1 ?_
    rw [e3]
    exact (spanTo_up l _ _ _).1.imp (fun h => by omega)
  unfold natsL
  refine List.pairwise_map.2 (List.Pairwise.imp_of_mem ?_ h1)
  intro a b ha hb hab
  obtain ⟨i, e, _⟩ := (h.mem hj).1 ha
  obtain ⟨k, e', _⟩ := (h.mem hj).1 hb
  rw [e, e'] at hab ⊢
  simp only [Int.toNat_natCast]
  omega
theorem span_iff {l : List S4} {f t : Int} {i : Nat} : spanAt l f t i = true ↔ (fwdAt l i).1 ≤ f ∧ t ≤ (fwdAt l i).2.2.1 := by
  obtain ⟨e1, e2⟩ := fwdAt_x l i
  rw [e1, e2]
  unfold spanAt
  simp
theorem StripsAre.span (h : StripsAre l C) {j : Nat} (hj : j < C.length) (i : Nat) : i ∈ natsL (sL C j) ↔ i < l.length ∧ Geo.Span (fwdAt l) (xAt l) j i := by
  obtain ⟨⟨e1, e2⟩, _⟩ := h.mt j hj
  unfold natsL Geo.Span
  rw [List.mem_map]
  constructor
  · rintro ⟨x, hx, rfl⟩
    obtain ⟨k, rfl, hk, hs⟩ := (h.mem hj).1 hx
    rw [span_iff, e1, e2] at hs
    exact ⟨by simpa using hk, by simpa using hs⟩
  · rintro ⟨hi, hs⟩
    exact ⟨i, (h.mem hj).2 ⟨i, rfl, hi, by rw [span_iff, e1, e2]; exact hs⟩, by simp⟩
end

end Go.Proofs.YtpdfbboagaflhaaGreat

set_option linter.unusedSimpArgs false
set_option linter.unusedVariables false
namespace Go.Proofs.YtpdfbboagaflhaaGreat
open Go.RowKit

section
variable {E : Nat → Prop} [DecidablePred E] {fr : Nat → Bool} {go : Nat → Int}
/-- neighbours from p to q are all of one height -/
def Run (E : Nat → Prop) (p q : Nat) : Prop := ∀ k, p ≤ k → k < q → E k
/-- the count: a neighbour of another height sets it back -/
def Cnt (E : Nat → Prop) [DecidablePred E] (fr : Nat → Bool) (go : Nat → Int) : Prop := go 0 = 0 ∧ ∀ i, go (i + 1) = (if i = 0 ∨ ¬ E (i - 1) then 0 else go i) + (if fr i then 1 else 0)
theorem cnt_pos (h : Cnt E fr go) : ∀ i, 0 ≤ go i
  | 0 => by rw [h.1]; exact Int.le_refl _
  | i + 1 => by have := cnt_pos h i; rw [h.2]; split <;> split <;> omega
theorem cnt_up (h : Cnt E fr go) {p : Nat} : ∀ {q : Nat}, p < q → Run E p q → go (p + 1) + (if fr q then 1 else 0) ≤ go (q + 1)
  | 0, hq, _ => by omega
  | q + 1, hq, hr => by
    have hE : E q := hr q (by omega) (by omega)
    have h0 := h.2 (q + 1)
    rw [if_neg (by simpa using hE)] at h0
    rw [h0]
    rcases Nat.lt_or_ge p q with g | g
    · have := cnt_up h g (fun k h1 h2 => hr k h1 (by omega))
      have h5 : (0 : Int) ≤ if fr q = true then 1 else 0 := by split <;> omega
      omega
    · obtain rfl : p = q := by omega
      omega
theorem cnt_two (h : Cnt E fr go) {p q : Nat} (hpq : p < q) (hr : Run E p q) (fp : fr p = true) (fq : fr q = true) : 1 < go (q + 1) := by
  have h1 := cnt_up h hpq hr
  rw [fq] at h1
  have h2 := h.2 p
  rw [fp] at h2
  have h3 := cnt_pos h p
  simp only [if_true] at h1 h2
  split at h2 <;> omega
theorem cnt_back (h : Cnt E fr go) : ∀ i, (0 < go (i + 1) → ∃ p, p ≤ i ∧ fr p = true ∧ Run E p i) ∧ (1 < go (i + 1) → ∃ p q, p < q ∧ q ≤ i ∧ fr p = true ∧ fr q = true ∧ Run E p q)
  | 0 => by
    have h0 := h.2 0
    rw [if_pos (.inl rfl)] at h0
    constructor
    · intro g
      rw [h0] at g
      refine ⟨0, Nat.le_refl _, ?_, fun k h1 h2 => by omega⟩
      cases hf : fr 0
      · rw [hf] at g; simp at g
      · rfl
    · intro g
      rw [h0] at g
      split at g <;> omega
  | i + 1 => by
    obtain ⟨a, b⟩ := cnt_back h i
    have h0 := h.2 (i + 1)
    have hp := cnt_pos h (i + 1)
    by_cases hE : E i
    · rw [if_neg (by simpa using hE)] at h0
      have ext : ∀ p, Run E p i → Run E p (i + 1) := fun p hr k h1 h2 => by
        rcases Nat.lt_or_ge k i with g | g
        · exact hr k h1 g
        · obtain rfl : k = i := by omega
          exact hE
      cases hf : fr (i + 1)
      · rw [hf] at h0
        constructor
        · intro g
          obtain ⟨p, h1, h2, h3⟩ := a (by simp at h0; omega)
          exact ⟨p, by omega, h2, ext p h3⟩
        · intro g
          obtain ⟨p, q, h1, h2, h3⟩ := b (by simp at h0; omega)
          exact ⟨p, q, h1, by omega, h3⟩
      · rw [hf] at h0
        simp only [if_true] at h0
        constructor
        · intro _
          exact ⟨i + 1, Nat.le_refl _, hf, fun k h1 h2 => by omega⟩
        · intro g
          obtain ⟨p, h1, h2, h3⟩ := a (by omega)
          exact ⟨p, i + 1, by omega, Nat.le_refl _, h2, hf, ext p h3⟩
    · rw [if_pos (.inr (by simpa using hE))] at h0
      constructor
      · intro g
        refine ⟨i + 1, Nat.le_refl _, ?_, fun k h1 h2 => by omega⟩
        cases hf : fr (i + 1)
        · rw [hf] at h0; simp at h0; omega
        · rfl
      · intro g
        split at h0 <;> omega
end

theorem free_end (l : List S4) (L : List Int) (x : Int) (i : Nat) : freeAt l L x i = true ↔ ¬ Geo.EndAt (fwdAt l) x (L.getD i 0).toNat := by
  obtain ⟨e1, e2⟩ := fwdAt_x l (L.getD i 0).toNat
  unfold freeAt Geo.EndAt
  rw [e1, e2]
  simp only [Bool.and_eq_true, Bool.not_eq_true', beq_eq_false_iff_ne, ne_eq]
  omega
section
variable {l : List S4} {L : List Int} {x : Int}
/-- of one height at x: neighbours -/
def Eq1 (l : List S4) (L : List Int) (x : Int) (p : Nat) : Prop := Geo.DD (fwdAt l (L.getD p 0).toNat) (fwdAt l (L.getD (p + 1) 0).toNat) (2 * x) = 0
instance : DecidablePred (Eq1 l L x) := fun p => by unfold Eq1; infer_instance
theorem cnt_goTo : Cnt (Eq1 l L x) (freeAt l L x) (goTo l L x) := by
  refine ⟨rfl, fun i => ?_⟩
  have h : goTo l L x (i + 1) = (if i = 0 ∨ cmA l L (2 * x) i (i - 1) ≠ 0 then 0 else goTo l L x i) + (if freeAt l L x i then 1 else 0) := rfl
  rw [h]
  congr 1
  by_cases h0 : i = 0
  · rw [if_pos (.inl h0), if_pos (.inl h0)]
  · obtain ⟨k, rfl⟩ : ∃ k, i = k + 1 := ⟨i - 1, by omega⟩
    have e := (cmA_DD l L (2 * x) (k + 1) (k + 1 - 1)).2.2
    rw [show k + 1 - 1 = k by omega] at e ⊢
    have e2 : cmA l L (2 * x) (k + 1) k = 0 ↔ Eq1 l L x k := by
      rw [e]; unfold Eq1; rw [Geo.DD_swap]; omega
    by_cases g : Eq1 l L x k
    · rw [if_neg (by simp [e2.2 g]), if_neg (by simp [g])]
    · rw [if_pos (.inr (fun hh => g (e2.1 hh))), if_pos (.inr g)]
/-- the order at x, from neighbours to any two -/
theorem order_run (hle : ∀ p, p + 1 < L.length → Geo.DD (fwdAt l (L.getD p 0).toNat) (fwdAt l (L.getD (p + 1) 0).toNat) (2 * x) ≤ 0) (hpos : ∀ p, p < L.length → 0 < Geo.WW (fwdAt l (L.getD p 0).toNat)) {p : Nat} : ∀ {q : Nat}, p < q → q < L.length →
    Geo.DD (fwdAt l (L.getD p 0).toNat) (fwdAt l (L.getD q 0).toNat) (2 * x) ≤ 0 ∧ (Geo.DD (fwdAt l (L.getD p 0).toNat) (fwdAt l (L.getD q 0).toNat) (2 * x) = 0 ↔ Run (Eq1 l L x) p q)
  | 0, h, _ => by omega
  | q + 1, h, hq => by
    have h1 := hle q hq
    rcases Nat.lt_or_ge p q with g | g
    · obtain ⟨a, b⟩ := order_run hle hpos g (by omega)
      obtain ⟨c, d⟩ := Geo.DD_trans (hpos p (by omega)) (hpos q (by omega)) (hpos (q + 1) hq) a h1
      refine ⟨c, ⟨fun e k k1 k2 => ?_, fun r => ?_⟩⟩
      · obtain ⟨e1, e2⟩ := d e
        rcases Nat.lt_or_ge k q with g2 | g2
        · exact b.1 e1 k k1 g2
        · obtain rfl : k = q := by omega
          exact e2
      · have e1 := b.2 (fun k k1 k2 => r k k1 (by omega))
        have e2 : Geo.DD (fwdAt l (L.getD q 0).toNat) (fwdAt l (L.getD (q + 1) 0).toNat) (2 * x) = 0 := r q (by omega) (by omega)
        have e3 := Geo.DD_mid (fwdAt l (L.getD p 0).toNat) (fwdAt l (L.getD q 0).toNat) (fwdAt l (L.getD (q + 1) 0).toNat) (2 * x)
        rw [e1, e2, Int.mul_zero, Int.mul_zero, Int.add_zero] at e3
        have := hpos q (by omega)
        rcases Int.mul_eq_zero.1 e3 with k | k
        · omega
        · exact k
    · obtain rfl : p = q := by omega
      exact ⟨h1, ⟨fun e k k1 k2 => by obtain rfl : k = p := by omega
                                      exact e, fun r => r p (Nat.le_refl _) (by omega)⟩⟩
theorem crow_lone (hle : ∀ p, p + 1 < L.length → Geo.DD (fwdAt l (L.getD p 0).toNat) (fwdAt l (L.getD (p + 1) 0).toNat) (2 * x) ≤ 0) (hpos : ∀ p, p < L.length → 0 < Geo.WW (fwdAt l (L.getD p 0).toNat)) (hnd : (natsL L).Nodup) :
    crowB l L x = false ↔ Geo.Lone (fwdAt l) (natsL L) x := by
  have hcb : crowB l L x = false ↔ ∀ i, i < L.length → ¬ 1 < goTo l L x (i + 1) := by
    unfold crowB
    rw [List.any_eq_false]
    constructor
    · intro h i hi
      have := h i (List.mem_range.2 hi)
      simpa using this
    · intro h i hi
      have := h i (List.mem_range.1 hi)
      simpa using this
  have hidx : ∀ i, i ∈ natsL L → ∃ p, p < L.length ∧ (L.getD p 0).toNat = i := fun i hi => by
    obtain ⟨p, hp, e⟩ := List.getElem_of_mem hi
    rw [natsL_len] at hp
    refine ⟨p, hp, ?_⟩
    rw [← nat_natsL L p hp]
    unfold nat
    rw [List.getD_eq_getElem?_getD, List.getElem?_eq_getElem (by rw [natsL_len]; exact hp)]
    exact e
  have hmem : ∀ p, p < L.length → (L.getD p 0).toNat ∈ natsL L := fun p hp => by
    rw [← nat_natsL L p hp]
    unfold nat
    rw [List.getD_eq_getElem?_getD, List.getElem?_eq_getElem (by rw [natsL_len]; exact hp)]
    exact List.getElem_mem _
  have hinj : ∀ p q, p < q → q < L.length → (L.getD p 0).toNat ≠ (L.getD q 0).toNat := fun p q hpq hq e => by
    have h1 := List.pairwise_iff_getElem.1 hnd p q (by rw [natsL_len]; omega) (by rw [natsL_len]; exact hq) hpq
    rw [← nat_natsL L p (by omega), ← nat_natsL L q hq] at e
    unfold nat at e
    rw [List.getD_eq_getElem?_getD, List.getD_eq_getElem?_getD, List.getElem?_eq_getElem (by rw [natsL_len]; omega), List.getElem?_eq_getElem (by rw [natsL_len]; exact hq)] at e
    exact h1 e
  rw [hcb]
  constructor
  · intro h i hi j hj hij h0
    obtain ⟨p, hp, rfl⟩ := hidx i hi
    obtain ⟨q, hq, rfl⟩ := hidx j hj
    rcases Classical.em (Geo.EndAt (fwdAt l) x (L.getD p 0).toNat ∨ Geo.EndAt (fwdAt l) x (L.getD q 0).toNat) with g | g
    · exact g
    · exfalso
      have fp := (free_end l L x p).2 (fun e => g (.inl e))
      have fq := (free_end l L x q).2 (fun e => g (.inr e))
      rcases Nat.lt_trichotomy p q with k | k | k
      · exact h q hq (cnt_two cnt_goTo k ((order_run hle hpos k hq).2.1 h0) fp fq)
      · subst k; exact hij rfl
      · rw [Geo.DD_swap] at h0
        exact h p hp (cnt_two cnt_goTo k ((order_run hle hpos k hp).2.1 (by omega)) fq fp)
  · intro h i hi g
    obtain ⟨p, q, h1, h2, fp, fq, hr⟩ := (cnt_back cnt_goTo i).2 g
    have e := (order_run hle hpos h1 (show q < L.length by omega)).2.2 hr
    rcases h _ (hmem p (by omega)) _ (hmem q (by omega)) (hinj p q h1 (by omega)) e with k | k
    · exact (free_end l L x p).1 fp k
    · exact (free_end l L x q).1 fq k
end

end Go.Proofs.YtpdfbboagaflhaaGreat

set_option linter.unusedSimpArgs false
set_option linter.unusedVariables false
namespace Go.Proofs.YtpdfbboagaflhaaGreat
open Go.RowKit

/-- two vertical segments overlap -/
def Ovl (s t : S4) : Prop := s.1 = t.1 ∧ s.2.1 < t.2.2.2 ∧ t.2.1 < s.2.2.2
theorem Ovl.symm {s t : S4} (h : Ovl s t) : Ovl t s := ⟨h.1.symm, h.2.2, h.2.1⟩
theorem vert_eq (l : List S4) (i : Nat) : (q1 l i == q3 l i) = true ↔ (fwdAt l i).1 = (fwdAt l i).2.2.1 := by
  obtain ⟨e1, e2⟩ := fwdAt_x l i
  rw [e1, e2]
  simp only [beq_iff_eq]
  omega
theorem vertTo_mem {l : List S4} {s : S4} : ∀ {n : Nat}, s ∈ vertTo l n ↔ ∃ i, i < n ∧ (fwdAt l i).1 = (fwdAt l i).2.2.1 ∧ s = fwdAt l i
  | 0 => by simp [vertTo]
  | n + 1 => by
    simp only [vertTo]
    split
    · rename_i hv
      rw [List.mem_append, vertTo_mem (n := n)]
      simp only [List.mem_cons, List.not_mem_nil, or_false]
      constructor
      · rintro (⟨i, h1, h2, h3⟩ | h)
        · exact ⟨i, by omega, h2, h3⟩
        · exact ⟨n, by omega, (vert_eq l n).1 hv, h⟩
      · rintro ⟨i, h1, h2, h3⟩
        rcases Nat.lt_or_ge i n with g | g
        · exact .inl ⟨i, g, h2, h3⟩
        · obtain rfl : i = n := by omega
          exact .inr h3
    · rename_i hv
      rw [vertTo_mem (n := n)]
      constructor
      · rintro ⟨i, h1, h2⟩; exact ⟨i, by omega, h2⟩
      · rintro ⟨i, h1, h2, h3⟩
        rcases Nat.lt_or_ge i n with g | g
        · exact ⟨i, g, h2, h3⟩
        · obtain rfl : i = n := by omega
          exact absurd ((vert_eq l i).2 h2) hv
theorem vertTo_pair {l : List S4} {R : S4 → S4 → Prop} : ∀ {n : Nat}, (vertTo l n).Pairwise R ↔ ∀ i j, i < j → j < n → (fwdAt l i).1 = (fwdAt l i).2.2.1 → (fwdAt l j).1 = (fwdAt l j).2.2.1 → R (fwdAt l i) (fwdAt l j)
  | 0 => by simp [vertTo]
  | n + 1 => by
    simp only [vertTo]
    split
    · rename_i hv
      have hv' := (vert_eq l n).1 hv
      rw [List.pairwise_append, vertTo_pair (n := n)]
      constructor
      · rintro ⟨h1, _, h2⟩ i j hij hj vi vj
        rcases Nat.lt_or_ge j n with g | g
        · exact h1 i j hij g vi vj
        · obtain rfl : j = n := by omega
          exact h2 _ (vertTo_mem.2 ⟨i, hij, vi, rfl⟩) _ (List.mem_singleton.2 rfl)
      · intro h
        refine ⟨fun i j hij hj => h i j hij (by omega), List.pairwise_singleton _ _, fun a ha b hb => ?_⟩
        obtain ⟨i, hi, vi, rfl⟩ := vertTo_mem.1 ha
        obtain rfl := List.mem_singleton.1 hb
        exact h i n hi (by omega) vi hv'
    · rename_i hv
      rw [vertTo_pair (n := n)]
      constructor
      · intro h i j hij hj vi vj
        rcases Nat.lt_or_ge j n with g | g
        · exact h i j hij g vi vj
        · obtain rfl : j = n := by omega
          exact absurd ((vert_eq l j).2 vj) hv
      · intro h i j hij hj
        exact h i j hij (by omega)
theorem upL_sorted (l : List S4) : (upL l).Pairwise fun x y => ¬ lessS y x = true := by
  unfold upL sortS
  rw [ltOf_cfS_eq]
  have := List.pairwise_mergeSort (le := fun x y => !lessS y x) (fun a b c h1 h2 => by simp [lessS] at *; omega) (fun a b => by simp [lessS]; omega) (vertTo l l.length)
  refine this.imp fun {a b} h => ?_
  simpa using h
theorem upL_perm (l : List S4) : (upL l).Perm (vertTo l l.length) := List.mergeSort_perm _ _
theorem upL_at {l : List S4} {u : Nat} (hu : u < (upL l).length) : (upL l).getD u (0, 0, 0, 0) ∈ upL l := by
  rw [List.getD_eq_getElem?_getD, List.getElem?_eq_getElem hu]; exact List.getElem_mem hu
theorem upL_vert {l : List S4} (hok : okSegs l = true) {s : S4} (h : s ∈ upL l) : s.1 = s.2.2.1 ∧ s.2.1 < s.2.2.2 := by
  obtain ⟨i, hi, hv, rfl⟩ := vertTo_mem.1 ((upL_perm l).mem_iff.1 h)
  have := (fwdAt_ok hok hi).2
  exact ⟨hv, by omega⟩
theorem over_iff {l : List S4} (hok : okSegs l = true) : ovB (upL l) = false ↔ ∀ i j, i < l.length → j < l.length → i ≠ j → (fwdAt l i).1 = (fwdAt l i).2.2.1 → (fwdAt l j).1 = (fwdAt l j).2.2.1 → ¬ Ovl (fwdAt l i) (fwdAt l j) := by
  have hs := List.pairwise_iff_getElem.1 (upL_sorted l)
  have hv := fun (s : S4) (h : s ∈ upL l) => upL_vert hok h
  have h1 : ovB (upL l) = false ↔ (upL l).Pairwise (fun s t => ¬ Ovl s t) := by
    unfold ovB
    rw [List.any_eq_false, List.pairwise_iff_getElem]
    generalize upL l = U at *
    have hq : ∀ p (hp : p < U.length), q1 U p = U[p].1 ∧ q2 U p = U[p].2.1 ∧ q4 U p = U[p].2.2.2 := fun p hp => by
      simp [q1, q2, q4, List.getD_eq_getElem?_getD, hp]
    constructor
    · intro h p q hp hq' hpq ho
      -- neighbours from p to q do not overlap: so the lower ends climb
      have key : ∀ d, (hd : p + 1 + d < U.length) → U[p].1 = (U[p + 1 + d]).1 → U[p].2.2.2 ≤ (U[p + 1 + d]).2.1 := by
        intro d
        induction d with
        | zero =>
          intro hd e
          have := h p (List.mem_range.2 (by omega))
          unfold ovA at this
          obtain ⟨a1, a2, a3⟩ := hq p hp
          obtain ⟨b1, b2, b3⟩ := hq (p + 1) hd
          rw [a1, b1, a3, b2] at this
          simp only [Bool.and_eq_true, beq_iff_eq, decide_eq_true_eq, not_and] at this
          have := this e
          simp only [Nat.add_zero]
          omega
        | succ d ih =>
          intro hd e
          have s1 := hs p (p + 1 + d) hp (by omega) (by omega)
          have s2 := hs (p + 1 + d) (p + 1 + (d + 1)) (by omega) hd (by omega)
          simp only [lessS, decide_eq_true_eq] at s1 s2
          have e2 : U[p].1 = (U[p + 1 + d]).1 := by omega
          have := ih (by omega) e2
          omega
      have k := key (q - p - 1) (by omega)
      have eq : p + 1 + (q - p - 1) = q := by omega
      simp only [eq] at k
      have := k ho.1
      have := ho.2.2
      omega
    · intro h p hp
      have hp' := List.mem_range.1 hp
      unfold ovA
      obtain ⟨a1, a2, a3⟩ := hq p (by omega)
      obtain ⟨b1, b2, b3⟩ := hq (p + 1) (by omega)
      rw [a1, b1, a3, b2]
      simp only [Bool.and_eq_true, beq_iff_eq, decide_eq_true_eq, not_and]
      intro e g
      have h2 := h p (p + 1) (by omega) (by omega) (by omega)
      have s1 := hs p (p + 1) (by omega) (by omega) (by omega)
      simp only [lessS, decide_eq_true_eq] at s1
      have v1 := (hv _ (List.getElem_mem (show p + 1 < U.length by omega))).2
      exact h2 ⟨e, by omega, g⟩
  rw [h1, (upL_perm l).pairwise_iff (fun {x y} h g => h g.symm), vertTo_pair]
  constructor
  · intro h i j hi hj hij vi vj
    rcases Nat.lt_or_ge i j with g | g
    · exact h i j g hj vi vj
    · exact fun o => h j i (by omega) hi vj vi o.symm
  · intro h i j hij hj vi vj
    exact h i j (by omega) hj (by omega) vi vj

end Go.Proofs.YtpdfbboagaflhaaGreat

set_option linter.unusedSimpArgs false
set_option linter.unusedVariables false
namespace Go.Proofs.YtpdfbboagaflhaaGreat
open Go.RowKit

theorem past_iff (l : List S4) (L : List Int) (v y : Int) (i : Nat) : (0 < pastB l L v y i ↔ y * Geo.WW (fwdAt l (L.getD i 0).toNat) < Geo.NN (fwdAt l (L.getD i 0).toNat) (2 * v)) ∧ (pastB l L v y i < 0 ↔ Geo.NN (fwdAt l (L.getD i 0).toNat) (2 * v) < y * Geo.WW (fwdAt l (L.getD i 0).toNat)) := by
  have h := Geo.cmpI_sub (hA l L (2 * v) i * 1) (y * hD l L i)
  have e1 : hA l L (2 * v) i = Geo.NN (fwdAt l (L.getD i 0).toNat) (2 * v) := rfl
  have e2 : hD l L i = Geo.WW (fwdAt l (L.getD i 0).toNat) := rfl
  have e3 : pastB l L v y i = cmpI (hA l L (2 * v) i * 1) (y * hD l L i) := rfl
  rw [e3, ← e1, ← e2]
  omega
section
variable {l : List S4} {C : List SV}
theorem idx_at (L : List Int) {i : Nat} (h : i ∈ natsL L) : ∃ p, p < L.length ∧ (L.getD p 0).toNat = i := by
  obtain ⟨p, hp, e⟩ := List.getElem_of_mem h
  rw [natsL_len] at hp
  refine ⟨p, hp, ?_⟩
  rw [← nat_natsL L p hp]
  unfold nat
  rw [List.getD_eq_getElem?_getD, List.getElem?_eq_getElem (by rw [natsL_len]; exact hp)]
  exact e
theorem at_idx (L : List Int) {p : Nat} (hp : p < L.length) : (L.getD p 0).toNat ∈ natsL L := by
  rw [← nat_natsL L p hp]
  unfold nat
  rw [List.getD_eq_getElem?_getD, List.getElem?_eq_getElem (by rw [natsL_len]; exact hp)]
  exact List.getElem_mem _
/-- a segment that goes on beyond both sides of a vertical one and meets it inside -/
def Thru (l : List S4) (s : S4) : Prop := ∃ j, j < l.length ∧ ((fwdAt l j).1 < s.1 ∧ s.1 < (fwdAt l j).2.2.1) ∧ s.2.1 * Geo.WW (fwdAt l j) < Geo.NN (fwdAt l j) (2 * s.1) ∧ Geo.NN (fwdAt l j) (2 * s.1) < s.2.2.2 * Geo.WW (fwdAt l j)
theorem crs_iff (hok : okSegs l = true) (hS : StripsAre l C) (hR : ∀ j, j < C.length → risB l (sL C j) (sF C j) (sT C j) = true) {s : S4} (hs : ∃ i, i < l.length ∧ (fwdAt l i).1 = s.1) : Crs l C s.1 s.2.1 s.2.2.2 ↔ Thru l s := by
  have ev := ev_of hok
  have hlen := hS.len
  constructor
  · rintro ⟨k, hk, hT, i, hi, h1, h2, h3⟩
    obtain ⟨⟨e1, e2⟩, _⟩ := hS.mt k hk
    obtain ⟨hj, hsp⟩ := (hS.span hk _).1 (at_idx _ hi)
    have hx := xAt_lt (l := l) (show k < k + 1 by omega) (by omega)
    have hf := (free_end l (sL C k) s.1 i).1 h3
    have a1 := (past_iff l (sL C k) s.1 s.2.1 i).1.1 h1
    have a2 := (past_iff l (sL C k) s.1 s.2.2.2 i).2.1 (h2 i (Nat.le_refl _) h1)
    unfold Geo.Span at hsp
    unfold Geo.EndAt at hf
    refine ⟨_, hj, ⟨by omega, by omega⟩, a1, a2⟩
  · rintro ⟨j, hj, ⟨h1, h2⟩, h3, h4⟩
    obtain ⟨i0, hi0, e0⟩ := hs
    obtain ⟨k, hk, ek⟩ := (ev.mem s.1).2 ⟨i0, hi0, .inl e0.symm⟩
    obtain ⟨a, ha, ea⟩ := (ev.mem (fwdAt l j).1).2 ⟨j, hj, .inl rfl⟩
    have hak : a < k := (ev.lt_iff ha hk).1 (by omega)
    have hkC : k - 1 < C.length := by omega
    obtain ⟨⟨e1, e2⟩, _⟩ := hS.mt (k - 1) hkC
    rw [show k - 1 + 1 = k by omega] at e2
    have hsp : j ∈ natsL (sL C (k - 1)) := (hS.span hkC j).2 ⟨hj, by
      unfold Geo.Span
      rw [show k - 1 + 1 = k by omega, ek]
      have := ev.le (show a ≤ k - 1 by omega) (by omega)
      exact ⟨by omega, by omega⟩⟩
    obtain ⟨p, hp, ep⟩ := idx_at _ hsp
    refine ⟨k - 1, hkC, by rw [e2, ek], p, hp, ?_, ?_, ?_⟩
    · rw [(past_iff l (sL C (k - 1)) s.1 s.2.1 p).1, ep]; exact h3
    · intro q hq hpast
      rw [(past_iff l (sL C (k - 1)) s.1 s.2.2.2 q).2]
      have hrise := rise_of (hR (k - 1) hkC)
      have hpos := fun i hi => hS.pos hok hkC (i := i) hi
      rcases Nat.lt_or_ge q p with g | g
      · have ho := (order_run (l := l) (L := sL C (k - 1)) (x := s.1) (fun p' hp' => by
            have := (hrise p' (by rw [natsL_len]; exact hp')).2.1
            rw [natsL_getD _ (by omega), natsL_getD _ hp', e2, ek] at this
            exact this) (fun p' hp' => hpos p' hp') g hp).1
        rw [ep] at ho
        have w1 := hpos q (by omega)
        have w2 := hpos p hp
        have ew1 : hD l (sL C (k - 1)) q = Geo.WW (fwdAt l ((sL C (k - 1)).getD q 0).toNat) := rfl
        have ew2 : hD l (sL C (k - 1)) p = Geo.WW (fwdAt l ((sL C (k - 1)).getD p 0).toNat) := rfl
        rw [ew1] at w1
        rw [ew2, ep] at w2
        unfold Geo.DD at ho
        have := (fr_trans (a := Geo.NN (fwdAt l ((sL C (k - 1)).getD q 0).toNat) (2 * s.1)) (b := Geo.WW (fwdAt l ((sL C (k - 1)).getD q 0).toNat)) (c := Geo.NN (fwdAt l j) (2 * s.1)) (d := Geo.WW (fwdAt l j)) (e := s.2.2.2) (f := 1) w1 w2 (by omega) (by omega) (by omega)).2 (.inr (by omega))
        omega
      · obtain rfl : q = p := by omega
        rw [ep]; exact h4
    · rw [free_end, ep]
      unfold Geo.EndAt
      omega
end
theorem okSeg_fwd {l : List S4} (hok : okSegs l = true) {i : Nat} (hi : i < l.length) : okSeg (fwdAt l i) = true := by
  have h := okSegs_at l i hi hok
  obtain ⟨h1, h2, h3⟩ := okS_iff.1 h
  unfold okSeg fwdAt
  rcases fwd_cases (q1 l i) (q2 l i) (q3 l i) (q4 l i) with ⟨_, e⟩ | ⟨_, e⟩
  · rw [e]; exact okS_iff.2 ⟨h2, h1, fun hh => h3 ⟨hh.1.symm, hh.2.symm⟩⟩
  · rw [e]; exact h
theorem ck_ok {l : List S4} (h : ckSegs l = 0) : okSegs l = true := by
  unfold ckSegs at h
  split at h
  · cases h
  · split at h
    · rename_i g1 g2; exact g2
    · cases h
/-- strips that are accepted show that nothing crosses -/
theorem chk_nobad {l : List S4} {C : List SV} (h : ChkOk l C) : Geo.NoBad l.length (fwdAt l) := by
  have hok := ck_ok h.segs
  have ev := ev_of hok
  have hlen := h.are.len
  have hR := fun j hj => (h.each j hj).1.1
  refine Geo.no_bad ev (fun i hi => okSeg_fwd hok hi) (st := fun k => natsL (sL C k)) (fun k hk => ?_) ?_
  · have hkC : k < C.length := by omega
    obtain ⟨⟨r, c1⟩, c2⟩ := h.each k hkC
    obtain ⟨⟨e1, e2⟩, _⟩ := h.are.mt k hkC
    have hr := rise_of r
    rw [e1, e2] at hr
    rw [e1] at c1
    rw [e2] at c2
    have hpos := fun p hp => h.are.pos hok hkC (i := p) hp
    refine ⟨h.are.nodup hkC, h.are.span hkC, hr, ?_, ?_⟩
    · refine (crow_lone (fun p hp => ?_) hpos (h.are.nodup hkC)).1 c1
      have := (hr p (by rw [natsL_len]; exact hp)).1
      rwa [natsL_getD _ (by omega), natsL_getD _ hp] at this
    · refine (crow_lone (fun p hp => ?_) hpos (h.are.nodup hkC)).1 c2
      have := (hr p (by rw [natsL_len]; exact hp)).2.1
      rwa [natsL_getD _ (by omega), natsL_getD _ hp] at this
  · intro i hi vi j hj hji
    constructor
    · rintro ⟨vj, e, g1, g2⟩
      exact (over_iff hok).1 h.over i j hi hj (Ne.symm hji) vi vj ⟨e, g1, g2⟩
    · rintro ⟨g1, g2, g3⟩
      have hm : fwdAt l i ∈ upL l := (upL_perm l).mem_iff.2 (vertTo_mem.2 ⟨i, hi, vi, rfl⟩)
      obtain ⟨u, hu, eu⟩ := List.getElem_of_mem hm
      refine h.vert u hu ?_
      have eq1 : q1 (upL l) u = (fwdAt l i).1 ∧ q2 (upL l) u = (fwdAt l i).2.1 ∧ q4 (upL l) u = (fwdAt l i).2.2.2 := by
        simp [q1, q2, q4, List.getD_eq_getElem?_getD, hu, eu]
      rw [eq1.1, eq1.2.1, eq1.2.2]
      exact (crs_iff hok h.are hR ⟨i, hi, rfl⟩).2 ⟨j, hj, g1, g2, g3⟩
/-- strips by the heights in their middles are accepted where nothing crosses -/
theorem nobad_chk {l : List S4} {C : List SV} (hck : ckSegs l = 0) (hS : StripsAre l C) (hb : Geo.NoBad l.length (fwdAt l))
    (hm : ∀ k, k < C.length → ∀ p, p + 1 < (sL C k).length → cmA l (sL C k) (xAt l k + xAt l (k + 1)) p (p + 1) ≤ 0) : ChkOk l C := by
  have hok := ck_ok hck
  have ev := ev_of hok
  have hlen := hS.len
  have hstrip : ∀ k, k < C.length → Geo.StripOk l.length (fwdAt l) (xAt l) k (natsL (sL C k)) := fun k hk => by
    refine Geo.strip_of ev hb (by omega) (hS.nodup hk) (hS.span hk) (fun p hp => ?_)
    rw [natsL_len] at hp
    rw [natsL_getD _ (by omega), natsL_getD _ hp]
    have := (cmA_DD l (sL C k) (xAt l k + xAt l (k + 1)) p (p + 1)).2.1
    have := hm k hk p hp
    omega
  have hvert := Geo.vert_of ev hb
  have heach : ∀ j, j < C.length → stripB l C j := fun j hj => by
    have st := hstrip j hj
    obtain ⟨⟨e1, e2⟩, _⟩ := hS.mt j hj
    have hpos := fun p hp => hS.pos hok hj (i := p) hp
    unfold stripB
    rw [e1, e2]
    refine ⟨⟨ris_of st.rise, ?_⟩, ?_⟩
    · refine (crow_lone (fun p hp => ?_) hpos (hS.nodup hj)).2 st.low
      have := (st.rise p (by rw [natsL_len]; exact hp)).1
      rwa [natsL_getD _ (by omega), natsL_getD _ hp] at this
    · refine (crow_lone (fun p hp => ?_) hpos (hS.nodup hj)).2 st.high
      have := (st.rise p (by rw [natsL_len]; exact hp)).2.1
      rwa [natsL_getD _ (by omega), natsL_getD _ hp] at this
  refine ⟨hck, hS, heach, ?_, ?_⟩
  · refine (over_iff hok).2 (fun i j hi hj hij vi vj o => ?_)
    exact (hvert i hi vi j hj (Ne.symm hij)).1 ⟨vj, o.1, o.2.1, o.2.2⟩
  · intro u hu hc
    have hmem := upL_at hu
    obtain ⟨i, hi, vi, ei⟩ := vertTo_mem.1 ((upL_perm l).mem_iff.1 hmem)
    have e0 : q1 (upL l) u = (fwdAt l i).1 ∧ q2 (upL l) u = (fwdAt l i).2.1 ∧ q4 (upL l) u = (fwdAt l i).2.2.2 := by
      unfold q1 q2 q4; rw [ei]; exact ⟨rfl, rfl, rfl⟩
    rw [e0.1, e0.2.1, e0.2.2] at hc
    obtain ⟨j, hj, g1, g2, g3⟩ := (crs_iff hok hS (fun j hj => (heach j hj).1.1) ⟨i, hi, rfl⟩).1 hc
    have hji : j ≠ i := by
      rintro rfl
      omega
    exact (hvert i hi vi j hj hji).2 ⟨g1, g2, g3⟩

end Go.Proofs.YtpdfbboagaflhaaGreat

set_option linter.unusedSimpArgs false
set_option linter.unusedVariables false
namespace Go.Proofs.YtpdfbboagaflhaaGreat
open Go.RowKit

theorem nobad_iff {l : List S4} (hok : okSegs l = true) : Geo.NoBad l.length (fwdAt l) ↔ RowsFree l l.length l.length := by
  have hm : ∀ i j, i < l.length → j < l.length → Geo.meet4 (fwdAt l i) (fwdAt l j) = meetQ l i j := fun i j hi hj => meetI_f (okSegs_at l i hi hok) (okSegs_at l j hj hok)
  have hc : ∀ i j, i < l.length → j < l.length → meetQ l j i = meetQ l i j := fun i j hi hj => meetI_comm (okSegs_at l i hi hok) (okSegs_at l j hj hok)
  constructor
  · intro h i hi j hij hj
    have := h i j hi hj (by omega)
    unfold Geo.Ap at this
    rw [hm i j hi hj] at this
    unfold crB
    simpa using this
  · intro h i j hi hj hij
    unfold Geo.Ap
    rw [hm i j hi hj]
    rcases Nat.lt_or_ge i j with g | g
    · have := h i hi j g hj
      unfold crB at this
      simpa using this
    · have := h j hj i (by omega) hi
      unfold crB at this
      rw [← hc i j hi hj]
      simpa using this
/-- the strips that Sweep makes -/
def sweptC (l : List S4) : List SV := (List.range ((endXsL l).length - 1)).map fun k => (xAt l k, xAt l (k + 1), segsQ l k)
theorem sweptC_len (l : List S4) : (sweptC l).length = (endXsL l).length - 1 := by simp [sweptC]
theorem sweptC_at (l : List S4) {k : Nat} (h : k < (endXsL l).length - 1) : (sF (sweptC l) k = xAt l k ∧ sT (sweptC l) k = xAt l (k + 1)) ∧ sL (sweptC l) k = segsQ l k := by
  simp [sF, sT, sL, sweptC, List.getD_eq_getElem?_getD, h]
theorem pileL_at (l : List S4) (k : Nat) {h : H3} (hh : h ∈ pileL l k) : ∃ i : Nat, ((i : Int) ∈ spanI l k) ∧ h = (hgtN l (xAt l k + xAt l (k + 1)) i, hgtW l i, (i : Int)) := by
  obtain ⟨p, hp, e⟩ := List.getElem_of_mem hh
  rw [pileL_length] at hp
  have h1 := heightsTo_at l (spanN l k) (xAt l k + xAt l (k + 1)) (spanI l k).length p hp
  have h2 : (pileL l k).getD p (0, 0, 0) = h := by rw [List.getD_eq_getElem?_getD, List.getElem?_eq_getElem (by rw [pileL_length]; exact hp)]; exact e
  unfold pileL at h2
  rw [h1] at h2
  refine ⟨nat (spanN l k) p, ?_, h2.symm⟩
  rw [(spanN_at l k p hp).1, List.getD_eq_getElem?_getD, List.getElem?_eq_getElem hp]
  exact List.getElem_mem hp
theorem pileL_third (l : List S4) (k : Nat) : (pileL l k).map (fun h => h.2.2) = spanI l k := by
  apply List.ext_getElem
  · rw [List.length_map, pileL_length]
  · intro p h1 h2
    have hp : p < (spanI l k).length := h2
    have h3 := heightsTo_at l (spanN l k) (xAt l k + xAt l (k + 1)) (spanI l k).length p hp
    have h4 : (pileL l k).getD p (0, 0, 0) = (pileL l k)[p]'(by rw [pileL_length]; exact hp) := by rw [List.getD_eq_getElem?_getD, List.getElem?_eq_getElem (by rw [pileL_length]; exact hp)]; rfl
    unfold pileL at h4
    rw [h3] at h4
    rw [List.getElem_map]
    have h5 := congrArg (fun h : H3 => h.2.2) h4
    simp only at h5
    unfold pileL
    rw [← h5, (spanN_at l k p hp).1, List.getD_eq_getElem?_getD, List.getElem?_eq_getElem hp]
    rfl
theorem sortQ_perm (L : List H3) : (sortQ L).Perm L := List.mergeSort_perm _ _
theorem segsQ_perm (l : List S4) (k : Nat) : (segsQ l k).Perm (spanI l k) := by
  have := (sortQ_perm (pileL l k)).map (fun h : H3 => h.2.2)
  rw [pileL_third] at this
  exact this
theorem spanI_mem {l : List S4} {k i : Nat} : (i : Int) ∈ spanI l k ↔ i < l.length ∧ spanAt l (xAt l k) (xAt l (k + 1)) i = true := by
  unfold spanI
  rw [spanTo_span]
  constructor
  · rintro ⟨j, e, h1, h2⟩
    obtain rfl : i = j := by omega
    exact ⟨h1, h2⟩
  · rintro ⟨h1, h2⟩; exact ⟨i, rfl, h1, h2⟩
theorem sorted_eq {l : List Int} (h : l.Pairwise (· < ·)) {s : List Int} (hp : s.Perm l) : sortI s = l := by
  have h1 := sortI_le s
  have h2 : (sortI s).Perm l := (List.mergeSort_perm s _).trans hp
  exact h2.eq_of_pairwise (fun a b _ _ (x : a ≤ b) (y : b ≤ a) => by omega) h1 (h.imp (fun g => by omega))
theorem swept_are (l : List S4) : StripsAre l (sweptC l) where
  len := sweptC_len l
  mt j hj := by
    rw [sweptC_len] at hj
    obtain ⟨⟨e1, e2⟩, e3⟩ := sweptC_at l hj
    refine ⟨⟨e1, e2⟩, ?_⟩
    rw [e3]
    exact sorted_eq (spanTo_up l _ _ _).1 (segsQ_perm l j)
end Go.Proofs.YtpdfbboagaflhaaGreat

set_option linter.unusedSimpArgs false
set_option linter.unusedVariables false
namespace Go.Proofs.YtpdfbboagaflhaaGreat
open Go.RowKit

theorem xAt_bd' {l : List S4} (hok : okSegs l = true) (k : Nat) : 0 ≤ xAt l k ∧ xAt l k ≤ 10000 := by
  rcases Nat.lt_or_ge k (endXsL l).length with g | g
  · exact xAt_bd hok g
  · unfold xAt; rw [List.getD_eq_getElem?_getD, List.getElem?_eq_none g]; decide
theorem pile_of {l : List S4} (hok : okSegs l = true) (hb : Geo.NoBad l.length (fwdAt l)) {k : Nat} (hk : k + 1 < (endXsL l).length) : Pile (pileL l k) := by
  have ev := ev_of hok
  have hup := xAt_lt (l := l) (show k < k + 1 by omega) hk
  have b1 := xAt_bd' hok k
  have b2 := xAt_bd' hok (k + 1)
  have hel : ∀ h ∈ pileL l k, ∃ i : Nat, i < l.length ∧ ((fwdAt l i).1 ≤ xAt l k ∧ xAt l (k + 1) ≤ (fwdAt l i).2.2.1) ∧ h = (hgtN l (xAt l k + xAt l (k + 1)) i, hgtW l i, (i : Int)) := fun h hh => by
    obtain ⟨i, hi, e⟩ := pileL_at l k hh
    obtain ⟨h1, h2⟩ := spanI_mem.1 hi
    exact ⟨i, h1, span_iff.1 h2, e⟩
  refine ⟨fun h hh => ?_, fun h hh => ?_, fun h hh g hg e => ?_⟩
  · obtain ⟨i, hi, _, rfl⟩ := hel h hh
    obtain ⟨⟨o1, o2⟩, ⟨o3, o4⟩, _⟩ := okS_iff.1 (okSegs_at l i hi hok)
    have := h_bd (q1 l i) (q2 l i) (q3 l i) (q4 l i) (xAt l k + xAt l (k + 1)) o1 o2 o3 o4 (by omega)
    exact ⟨this.2, this.1⟩
  · obtain ⟨i, hi, hs, rfl⟩ := hel h hh
    have e2 : hgtW l i = 2 * ((fwdAt l i).2.2.1 - (fwdAt l i).1) := rfl
    simp only
    rw [e2]; omega
  · obtain ⟨i, hi, hs, rfl⟩ := hel h hh
    obtain ⟨j, hj, ht, rfl⟩ := hel g hg
    by_cases hij : i = j
    · subst hij; rfl
    · exfalso
      have := Geo.ap_ne (X := xAt l k + xAt l (k + 1)) (ev.ok i hi).1 (ev.ok j hj).1 (by omega) (by omega) (hb i j hi hj hij) (by omega) (by omega) (by omega) (by omega)
      refine this ?_
      have e1 : Geo.DD (fwdAt l i) (fwdAt l j) (xAt l k + xAt l (k + 1)) = hgtN l (xAt l k + xAt l (k + 1)) i * hgtW l j - hgtN l (xAt l k + xAt l (k + 1)) j * hgtW l i := rfl
      rw [e1]
      simp only at e
      omega
theorem pileQ_at {l : List S4} {k p : Nat} (hp : p < (segsQ l k).length) : (pileQ l k).getD p (0, 0, 0) = (hgtN l (xAt l k + xAt l (k + 1)) ((segsQ l k).getD p 0).toNat, hgtW l ((segsQ l k).getD p 0).toNat, (segsQ l k).getD p 0) := by
  have hl : p < (pileQ l k).length := by rw [pileQ_length]; rw [segsQ_length] at hp; exact hp
  have h1 : (pileQ l k)[p] ∈ pileL l k := (sortQ_perm (pileL l k)).mem_iff.1 (List.getElem_mem hl)
  obtain ⟨i, _, e⟩ := pileL_at l k h1
  have h2 : (segsQ l k).getD p 0 = ((pileQ l k)[p]).2.2 := by
    unfold segsQ
    rw [List.getD_eq_getElem?_getD, List.getElem?_map, List.getElem?_eq_getElem hl]; rfl
  rw [h2, List.getD_eq_getElem?_getD, List.getElem?_eq_getElem hl, e]
  simp
theorem mid_order {l : List S4} {k : Nat} (hP : Pile (pileL l k)) {p : Nat} (hp : p + 1 < (segsQ l k).length) : cmA l (segsQ l k) (xAt l k + xAt l (k + 1)) p (p + 1) ≤ 0 := by
  have hl : (pileQ l k).length = (segsQ l k).length := by rw [pileQ_length, segsQ_length]
  have hs : (sortQ (pileL l k)).Pairwise fun x y => ¬ ltQ y x = true := by
    have hp2 : (pileL l k).attach.map Subtype.val = pileL l k := List.attach_map_subtype_val _
    have := List.pairwise_mergeSort (le := fun (x y : PB (pileL l k)) => !ltQ y.1 x.1) (fun a b c h1 h2 => by
      simp only [ltQ, Bool.not_eq_true', decide_eq_false_iff_not] at *
      have := (fr_trans (hP.pos _ a.2) (hP.pos _ b.2) (hP.pos _ c.2) (show a.1.1 * b.1.2.1 ≤ b.1.1 * a.1.2.1 by omega) (show b.1.1 * c.1.2.1 ≤ c.1.1 * b.1.2.1 by omega)).1
      omega) (fun a b => by
      simp only [ltQ, Bool.or_eq_true, Bool.not_eq_true', decide_eq_false_iff_not]; omega) (pileL l k).attach
    have h2 : ((pileL l k).attach.mergeSort fun x y => !ltQ y.1 x.1).map Subtype.val = sortQ (pileL l k) := by
      unfold sortQ
      rw [List.map_mergeSort (s := fun x y => !ltQ y x) (fun a _ b _ => rfl), hp2]
    rw [← h2]
    refine List.pairwise_map.2 (this.imp fun {a b} h => ?_)
    simpa using h
  have h1 := List.pairwise_iff_getElem.1 hs p (p + 1) (by show p < (pileQ l k).length; omega) (by show p + 1 < (pileQ l k).length; omega) (by omega)
  have a1 := pileQ_at (l := l) (k := k) (p := p) (by omega)
  have a2 := pileQ_at (l := l) (k := k) (p := p + 1) hp
  have g1 : (pileQ l k).getD p (0, 0, 0) = (sortQ (pileL l k))[p]'(by show p < (pileQ l k).length; omega) := by rw [List.getD_eq_getElem?_getD, List.getElem?_eq_getElem (by omega)]; rfl
  have g2 : (pileQ l k).getD (p + 1) (0, 0, 0) = (sortQ (pileL l k))[p + 1]'(by show p + 1 < (pileQ l k).length; omega) := by rw [List.getD_eq_getElem?_getD, List.getElem?_eq_getElem (by omega)]; rfl
  rw [← g1, ← g2, a1, a2] at h1
  simp only [ltQ, decide_eq_true_eq] at h1
  have e : cmA l (segsQ l k) (xAt l k + xAt l (k + 1)) p (p + 1) = cmpI (hgtN l (xAt l k + xAt l (k + 1)) ((segsQ l k).getD p 0).toNat * hgtW l ((segsQ l k).getD (p + 1) 0).toNat) (hgtN l (xAt l k + xAt l (k + 1)) ((segsQ l k).getD (p + 1) 0).toNat * hgtW l ((segsQ l k).getD p 0).toNat) := rfl
  have := (Geo.cmpI_sub (hgtN l (xAt l k + xAt l (k + 1)) ((segsQ l k).getD p 0).toNat * hgtW l ((segsQ l k).getD (p + 1) 0).toNat) (hgtN l (xAt l k + xAt l (k + 1)) ((segsQ l k).getD (p + 1) 0).toNat * hgtW l ((segsQ l k).getD p 0).toNat)).2.1
  rw [e]
  omega
theorem swept_chk {l : List S4} (hck : ckSegs l = 0) (hb : Geo.NoBad l.length (fwdAt l)) : ChkOk l (sweptC l) := by
  have hok := ck_ok hck
  refine nobad_chk hck (swept_are l) hb (fun k hk p hp => ?_)
  rw [sweptC_len] at hk
  obtain ⟨_, e3⟩ := sweptC_at l hk
  rw [e3] at hp ⊢
  exact mid_order (pile_of hok hb (by omega)) hp
theorem stripCells_at (l : List S4) (vs : List Value) : ∀ (M j : Nat), j < M → (stripCells l vs M)[j * 3]? = some (.int .i64 (xAt l j)) ∧ (stripCells l vs M)[j * 3 + 1]? = some (.int .i64 (xAt l (j + 1))) ∧ (stripCells l vs M)[j * 3 + 2]? = some (vs.getD j undef)
  | 0, j, h => by omega
  | M + 1, j, h => by
    have hlen : ∀ M, (stripCells l vs M).length = M * 3 := fun M => by
      induction M with
      | zero => rfl
      | succ M ih => simp only [stripCells, List.length_append, ih]; simp; omega
    simp only [stripCells]
    rcases Nat.lt_or_ge j M with g | g
    · obtain ⟨a, b, c⟩ := stripCells_at l vs M j g
      rw [List.getElem?_append_left (by rw [hlen]; omega), List.getElem?_append_left (by rw [hlen]; omega), List.getElem?_append_left (by rw [hlen]; omega)]
      exact ⟨a, b, c⟩
    · obtain rfl : j = M := by omega
      rw [List.getElem?_append_right (by rw [hlen]; omega), List.getElem?_append_right (by rw [hlen]; omega), List.getElem?_append_right (by rw [hlen]; omega), hlen]
      rw [show j * 3 - j * 3 = 0 by omega, show j * 3 + 1 - j * 3 = 1 by omega, show j * 3 + 2 - j * 3 = 2 by omega]
      exact ⟨rfl, rfl, rfl⟩
/-- what Sweep lays is a slice of its strips -/
theorem swept_strps {l : List S4} {w : World} {base c : Nat} {a : Option Addr} {vs : List Value} (ho : w.ownsRow base 84 3 (.slice a ((endXsL l).length - 1) c) ((endXsL l).length - 1) (stripCells l vs ((endXsL l).length - 1)))
    (hv : ∀ j, j < (endXsL l).length - 1 → w.ownsRow base 3 1 (vs.getD j undef) (segsQ l j).length (inCells (segsQ l j))) (h0 : 0 < (endXsL l).length - 1) : ∃ cb co, a = some ⟨cb, co, none⟩ ∧ Strps w cb co ((endXsL l).length - 1) (sweptC l) := by
  obtain ⟨g, cap, hg0, hg1, hg2⟩ := ho.form h0
  obtain ⟨rfl, rfl⟩ : a = some ⟨g, 0, none⟩ ∧ c = cap := by cases hg0; exact ⟨rfl, rfl⟩
  refine ⟨g, 0, rfl, sweptC_len l, hg2, fun i hi => ?_⟩
  obtain ⟨c1, c2, c3⟩ := stripCells_at l vs _ i hi
  obtain ⟨⟨e1, e2⟩, e3⟩ := sweptC_at l hi
  rw [e1, e2, e3, Nat.zero_add]
  exact ⟨vs.getD i undef, ⟨(own_cell ho c1).1, (own_cell ho c2).1⟩, (own_cell ho c3).1, intsA_row (hv i hi)⟩

end Go.Proofs.YtpdfbboagaflhaaGreat

set_option linter.unusedSimpArgs false
set_option linter.unusedVariables false
namespace Go.Proofs.YtpdfbboagaflhaaGreat
open Go.RowKit

theorem planeSwept_all (w : World) (av : Option Addr) (n cap : Nat) (l : List S4) (hl : l.length = n) (hp : 0 < n → ∃ b off, av = some ⟨b, off, none⟩ ∧ Segs w b off n l)
    (cv : Option Addr) (N cc : Nat) (C : List SV) (hCn : C.length = N) (hC : 0 < N → ∃ cb co, cv = some ⟨cb, co, none⟩ ∧ Strps w cb co N C) (hN : N ≤ 17592186044415) (hlen : ∀ i, i < N → (sL C i).length ≤ 17592186044415) :
    Calls Tryz.prog 23 #[.slice av n cap, .slice cv N cc] w fun e w' => e = .returned (.bool true) ∧ New w w' := by
  by_cases hn : n ≤ 60
  · have hCat : ∀ w1, New w w1 → 0 < N → ∃ cb co, cv = some ⟨cb, co, none⟩ ∧ Strps w1 cb co N C := fun w1 h1 g => by
      obtain ⟨cb, co, e1, e2⟩ := hC g
      exact ⟨cb, co, e1, e2.new h1⟩
    have HT := fun (w1 : World) (h1 : New w w1) => thin_c cv N cc C w1 hN hCn (hCat w1 h1)
    cases ht : decide (thinW C N ≤ 4000)
    · rw [ht] at HT
      exact swept_thick av cv n cap N cc w hn (Lib.hid HT)
    · rw [ht] at HT
      by_cases h0 : 0 < n
      · obtain ⟨b, off, rfl, hw⟩ := hp h0
        have HX := fun (w1 : World) (h1 : New w w1) => Crossing_c b off n cap l w1 (by omega) (hw.new h1)
        have HAP := fun (w1 : World) (h1 : New w w1) => checkApart_c b off n cap l w1 (by omega) (hw.new h1)
        have HCK := fun (r : Bool) (hr : r = true ↔ ChkOk l C) (w1 : World) (h1 : New w w1) => checkSweep_c b off n cap N cc cv l C w1 h0 (by omega) (hw.new h1) hCn hN (hCat w1 h1) hlen r hr
        by_cases hck : ckSegs l = 0
        · have hok := ck_ok hck
          rcases Classical.em (RowsFree l l.length l.length) with hf | hf
          · have hb := (nobad_iff hok).2 hf
            refine swept_apart (some ⟨b, off, none⟩) cv n cap N cc (fun v w' => ∃ a c, v = .slice a ((endXsL l).length - 1) c ∧ (0 < (endXsL l).length - 1 → ∃ cb co, a = some ⟨cb, co, none⟩ ∧ Strps w' cb co ((endXsL l).length - 1) (sweptC l))) w hn (Lib.hid HT) (Lib.hid (fun w1 h1 => (HX w1 h1).mono fun e w' h => ⟨?_, h.2⟩)) (Lib.hid (fun w1 h1 => ?_)) (Lib.hid (fun v w1 h1 hR => ?_))
            · rcases h.1 with ⟨h2, _⟩ | ⟨_, _, h2⟩ | ⟨_, i, j, h2, h3, _, _, h4, _⟩
              · exact absurd hck h2
              · exact h2
              · have := hf i (by omega) j h2 h3
                rw [h4] at this; cases this
            · refine (sweep_any b off n cap l w1 h0 (by omega) (hw.new h1) hok (fun en hen => ?_) (xAt_bd' hok) (fun k hk => pile_of hok hb hk)).mono ?_
              · rcases hen with ⟨h2, _⟩ | ⟨_, _, h2⟩ | ⟨_, ⟨i, j, h2, h3, h4⟩, _⟩
                · exact absurd hck h2
                · exact h2
                · have := hf i (by omega) j h2 h3
                  rw [h4] at this; cases this
              · rintro e w' ⟨a, c, vs, he, _, ho, hv, hnew⟩
                exact ⟨a, (endXsL l).length - 1, c, he, ⟨a, c, rfl, fun g => swept_strps ho hv g⟩, hnew⟩
            · obtain ⟨a, c, rfl, hst⟩ := hR
              have hle := endXsL_le l
              exact checkSweep_c b off n cap ((endXsL l).length - 1) c a l (sweptC l) w1 h0 (by omega) (hw.new h1) (sweptC_len l) (by omega) hst (fun i hi => by
                have := (swept_are l).small (show i < (sweptC l).length by rw [sweptC_len]; exact hi); omega) true ⟨fun _ => swept_chk hck hb, fun _ => rfl⟩
          · refine swept_cross (some ⟨b, off, none⟩) cv n cap N cc w hn (Lib.hid HT) (Lib.hid (fun w1 h1 => (HX w1 h1).mono fun e w' h => ⟨?_, h.2⟩)) (Lib.hid (fun w1 h1 => sweep_err (some ⟨b, off, none⟩) n cap 10 w1 (by decide) (Lib.hid (fun w2 h2 => (HAP w2 (h1.trans h2)).mono fun e w' h => ⟨?_, h.2⟩)))) (Lib.hid (HCK false ⟨fun e => (by cases e), fun h => absurd ((nobad_iff hok).1 (chk_nobad h)) hf⟩))
            · rcases h.1 with ⟨h2, _⟩ | ⟨_, h2, _⟩ | ⟨_, i, j, _, _, _, _, _, h2⟩
              · exact absurd hck h2
              · exact absurd h2 hf
              · exact ⟨i, j, h2⟩
            · rcases h.1 with ⟨h2, _⟩ | ⟨_, h2, _⟩ | ⟨_, _, h2⟩
              · exact absurd hck h2
              · exact absurd h2 hf
              · exact h2
        · refine swept_bad (some ⟨b, off, none⟩) cv n cap N cc (ckSegs l) w hn hck (Lib.hid HT) (Lib.hid (fun w1 h1 => (HX w1 h1).mono fun e w' h => ⟨?_, h.2⟩)) (Lib.hid (fun w1 h1 => sweep_err (some ⟨b, off, none⟩) n cap (ckSegs l) w1 hck (Lib.hid (fun w2 h2 => (HAP w2 (h1.trans h2)).mono fun e w' h => ⟨?_, h.2⟩)))) (Lib.hid (HCK false ⟨fun e => (by cases e), fun h => absurd h.segs hck⟩))
          · rcases h.1 with ⟨_, h2⟩ | ⟨h2, _⟩ | ⟨h2, _⟩
            · exact h2
            · exact absurd h2 hck
            · exact absurd h2 hck
          · rcases h.1 with ⟨_, h2⟩ | ⟨h2, _⟩ | ⟨h2, _⟩
            · exact h2
            · exact absurd h2 hck
            · exact absurd h2 hck
      · obtain rfl : n = 0 := by omega
        exact swept_apart av cv 0 cap N cc (fun v _ => v = .slice none 0 0) w hn (Lib.hid HT) (Lib.hid (fun w1 _ => crossing_none av cap w1)) (Lib.hid (fun w1 _ => (sweep_nil av cap w1).mono fun e w' h => ⟨none, 0, 0, h.1, rfl, h.2⟩)) (Lib.hid (fun v w1 _ hv => by
          subst hv
          exact checkSweep_nil av none cap 0 0 w1))
  · exact swept_long av cv n cap N cc w (by omega)

end Go.Proofs.YtpdfbboagaflhaaGreat

set_option linter.unusedSimpArgs false
set_option linter.unusedVariables false
set_option maxRecDepth 100000
namespace Go.Proofs.YtpdfbboagaflhaaGreat
open Go.RowKit

/-- a slice that is empty, or a row laid since the heap had B blocks -/
def Wr (B : Nat) (w : World) (T s : Nat) (v : Value) : Prop := ∃ av n c, v = .slice av n c ∧ (0 < n → ∃ xs, w.ownsRow B T s v n xs)
theorem Wr.nil (B : Nat) (w : World) (T s : Nat) (av : Option Addr) (c : Nat) : Wr B w T s (.slice av 0 c) := ⟨av, 0, c, rfl, fun h => absurd h (by omega)⟩
theorem Wr.own {B : Nat} {w : World} {T s : Nat} {av : Option Addr} {n c : Nat} {xs : List Value} (h : w.ownsRow B T s (.slice av n c) n xs) : Wr B w T s (.slice av n c) := ⟨av, n, c, rfl, fun _ => ⟨xs, h⟩⟩
theorem Wr.new {B : Nat} {w w1 : World} {T s : Nat} {v : Value} (h : Wr B w T s v) (hn : New w w1) : Wr B w1 T s v := by
  obtain ⟨av, n, c, e, h⟩ := h
  exact ⟨av, n, c, e, fun h0 => by obtain ⟨xs, ho⟩ := h h0; exact ⟨xs, own_new ho hn⟩⟩
theorem own_dn {B B' : Nat} {w : World} {T s : Nat} {v : Value} {n : Nat} {xs : List Value} (h : w.ownsRow B' T s v n xs) (hb : B ≤ B') : w.ownsRow B T s v n xs := by
  obtain ⟨h1, h2⟩ := h
  refine ⟨h1, ?_⟩
  rcases h2 with h2 | ⟨g, cap, cur, e, hg, rest⟩
  · exact .inl h2
  · exact .inr ⟨g, cap, cur, e, Nat.le_trans hb hg, rest⟩
theorem Wr.base {B B' : Nat} {w : World} {T s : Nat} {v : Value} (h : Wr B' w T s v) (hb : B ≤ B') : Wr B w T s v := by
  obtain ⟨av, n, c, e, h⟩ := h
  exact ⟨av, n, c, e, fun h0 => by obtain ⟨xs, ho⟩ := h h0; exact ⟨xs, own_dn ho hb⟩⟩
def WrIs (w w' : World) (T s : Nat) (en : Ending) : Prop := ∃ r E, en = .returned (.tuple #[r, .int .i64 E]) ∧ Wr w.heap.size w' T s r ∧ New w w'

theorem normal_nilW (v : Option Addr) (c : Nat) (w1 : World) : Calls Tryz.prog 50 #[.slice v 0 c] w1 fun en w' => en = .returned (.tuple #[.slice none 0 0, .int .i64 1]) ∧ New w1 w' := by
  have HC := Lib.hid (fun w1 : World => checkPoly_nil v c w1)
  go_enter Tryz.func50, Tryz.ntmps50
  go_wp2_with (go_at_call 44; refine (HC.out _).mono ?_; rintro e w2 ⟨rfl, hn⟩; have HN1 := Lib.hid hn; clear hn)
  go_ret2; exact ⟨rfl, HN1.out⟩
theorem normal_w (av : Option Addr) (n c : Nat) (l : List P2) (w : World) (hl : n ≤ 1000000) (hp : PtsA w av n l) : Calls Tryz.prog 50 #[.slice av n c] w fun en w' => WrIs w w' 23 2 en := by
  by_cases h0 : 0 < n
  · obtain ⟨b, off, rfl, hw⟩ := hp.2 h0
    by_cases hq : polyI l = 0
    · refine (normal_yes b off n c l w h0 hl hw hq (area_bends hq).2.1).mono ?_
      rintro en w' ⟨g, cap, rfl, ho, hn⟩
      exact ⟨_, _, rfl, Wr.own ho, hn⟩
    · refine (normal_no b off n c l w h0 hl hw hq).mono ?_
      rintro en w' ⟨rfl, hn⟩
      exact ⟨_, _, rfl, Wr.nil _ _ _ _ _ _, hn⟩
  · obtain rfl : n = 0 := by omega
    refine (normal_nilW av c w).mono ?_
    rintro en w' ⟨rfl, hn⟩
    exact ⟨_, _, rfl, Wr.nil _ _ _ _ _ _, hn⟩

set_option maxHeartbeats 4000000 in
theorem hull_oneW (b off n c : Nat) (l : List P2) (w : World) (h0 : 0 < n) (hl : n ≤ 1000000) (hw : Pts w b off n l) (hk : ckPts l 400 = 0) (hm : (ptsL l).length < 2) : Calls Tryz.prog 57 #[.slice (some ⟨b, off, none⟩) n c] w fun en w' => ∃ r E, en = .returned (.tuple #[r, .int .i64 E]) ∧ Wr w.heap.size w' 23 2 r ∧ New w w' := by
  have HW := Lib.hid hw
  have HN := Lib.hid hw.1
  have HV := Lib.hid (show hullE l = 0 ∧ hullV l = ptsL l from ⟨hk, by unfold hullV; rw [if_neg (by rw [hk]; exact fun h => h rfl), if_pos hm]⟩)
  have HCK := Lib.hid (checkPoints_c b off n c l 400 w (by omega) hw)
  rw [hk] at HCK
  have HCL := Lib.hid (fun (w1 : World) (h1 : New w w1) => cloneP_c b off n c l w1 h0 hl (hw.new h1))
  have HPE := Lib.hid (show ddTo (sortP l) n = ptsL l by unfold ptsL; rw [hw.1])
  clear hw hk
  generalize ptsL l = PL at *
  generalize hmm : PL.length = m at *
  have HM := Lib.hid hmm
  clear hmm
  have hm2 : (m : Int) < 2 := by omega
  go_enter Tryz.func57, Tryz.ntmps57
  go_wp2_with (first | (go_at_call 84; refine HCK.out.mono ?_; rintro e w1 ⟨rfl, hn1⟩; have HN1 := Lib.hid hn1; clear hn1) | (go_at_call 123; refine (HCL.out _ HN1.out).mono ?_; rintro e w2 ⟨g, cap, rfl, ho2, hn2⟩; have HO2 := Lib.hid ho2; have HN2 := Lib.hid (HN1.out.trans hn2); have HS := Lib.hid HN1.out.size; clear ho2 hn2) | (go_at_call 124; refine (sortP_c w1.heap.size g n cap l _ hl HN.out HO2.out).mono ?_; rintro e w3 ⟨rfl, ho3, hg3⟩; have HO3 := Lib.hid ho3; have HG3 := Lib.hid hg3; clear ho3 hg3) | (go_at_call 126; refine (compactP_c w1.heap.size g n cap (sortP l) _ hl (by rw [sortP_length]; exact HN.out) HO3.out).mono ?_; rintro e w4 ⟨rfl, ho4, hg4⟩; rw [HPE.out, HM.out] at ho4; rw [HPE.out, HM.out]; have HO4 := Lib.hid ho4; have HG4 := Lib.hid (HG3.out.trans hg4); clear ho4 hg4))
  have HNEW4 := Lib.hid (new_grownBy HN2.out HG4.out (Nat.le_trans HS.out (HO2.out.lt g rfl).1))
  go_ret2
  exact ⟨.slice (some ⟨g, 0, none⟩) m cap, 0, rfl, Wr.own (own_dn HO4.out HS.out), HNEW4.out⟩
theorem hullW_of {w w' : World} {en : Ending} {l : List P2} (h : HullIs w w' en l) (hz : (hullV l).length = 0) : WrIs w w' 23 2 en := by
  obtain ⟨r, rfl, ⟨av, cap, rfl, _⟩, hn⟩ := h
  rw [hz]
  exact ⟨_, _, rfl, Wr.nil _ _ _ _ _ _, hn⟩
theorem hull_w (av : Option Addr) (n c : Nat) (l : List P2) (w : World) (hl : n ≤ 1000000) (hp : PtsA w av n l) : Calls Tryz.prog 57 #[.slice av n c] w fun en w' => WrIs w w' 23 2 en := by
  by_cases h0 : 0 < n
  · obtain ⟨b, off, rfl, hw⟩ := hp.2 h0
    by_cases hk : ckPts l 400 = 0
    · by_cases hm : (ptsL l).length < 2
      · exact hull_oneW b off n c l w h0 hl hw hk hm
      · have hbd := ptsL_bd (ckPts_zero hk).2
        refine (hull_many b off n c l w h0 hl hw hk (by omega) hbd (by rw [revTo_rev]; exact rev_bd hbd)).mono ?_
        rintro en w' ⟨g, cap, rfl, ho, hn⟩
        exact ⟨_, _, rfl, Wr.own ho, hn⟩
    · exact (hull_err b off n c l w hl hw hk).mono fun e w' h => hullW_of h (by unfold hullV; rw [if_pos hk]; rfl)
  · obtain rfl : n = 0 := by omega
    have : l = [] := List.eq_nil_of_length_eq_zero hp.1
    subst this
    exact (hull_nil av c w).mono fun e w' h => hullW_of h rfl

theorem split_w (av : Option Addr) (n c : Nat) (l : List S4) (w : World) (hl : n ≤ 400) (hp : SegsA w av n l) : Calls Tryz.prog 66 #[.slice av n c] w fun en w' => WrIs w w' 30 4 en := by
  by_cases h0 : 0 < n
  · obtain ⟨b, off, rfl, hw⟩ := hp.2 h0
    by_cases hg : ckSegs l = 0 ∧ RowsFree l l.length l.length
    · obtain ⟨hk, hf⟩ := hg
      have hok := okSegs_ck hk
      refine (split_yes b off n c l w h0 hl hw (fun i => ?_) (fun en h => ?_) (fun k hk => ?_)).mono ?_
      · by_cases hi : i < l.length
        · have := ckSegs_bd hk i hi; exact ⟨⟨this.1, this.2.1⟩, this.2.2.1, this.2.2.2⟩
        · simp [q1, q2, q3, q4, List.getD_eq_getElem?_getD, List.getElem?_eq_none (Nat.le_of_not_lt hi)]
      · rcases h with ⟨h1, _⟩ | ⟨_, _, h3⟩ | ⟨_, ⟨i, j, h3, h4, h5⟩, _⟩
        · exact absurd hk h1
        · exact h3
        · rw [hf i (by omega) j h3 h4] at h5; cases h5
      · have := pieces_pos hok (show k < l.length by rw [hw.1]; exact hk)
        rw [hw.1] at this; exact this
      · rintro en w' ⟨g, cap, rfl, ho, hn⟩
        exact ⟨_, _, rfl, Wr.own ho, hn⟩
    · obtain ⟨E, _, h⟩ := split_bad b off n c l (by omega) hg
      refine (h w hw).mono ?_
      rintro en w' ⟨rfl, hn⟩
      exact ⟨_, _, rfl, Wr.nil _ _ _ _ _ _, hn⟩
  · obtain rfl : n = 0 := by omega
    refine (split_nil av c w).mono ?_
    rintro en w' ⟨rfl, hn⟩
    exact ⟨_, _, rfl, Wr.nil _ _ _ _ _ _, hn⟩

end Go.Proofs.YtpdfbboagaflhaaGreat

set_option linter.unusedSimpArgs false
set_option linter.unusedVariables false
set_option maxRecDepth 100000
namespace Go.Proofs.YtpdfbboagaflhaaGreat
open Go.RowKit

def frP (a b c d : Int) (p : P2) : P2 := (a * p.1 + b, c * p.2 + d)

theorem px_map (l : List P2) (f : P2 → P2) (k : Nat) (h : k < l.length) : px (l.map f) k = (f (px l k, py l k)).1 ∧ py (l.map f) k = (f (px l k, py l k)).2 := by
  simp [px, py, List.getD_eq_getElem?_getD, h]
theorem cells_map (l : List P2) (a b c d : Int) (k : Nat) (h : k < l.length) : ptCells ((l.map (frP a b c d)).take (k + 1)) = ptCells ((l.map (frP a b c d)).take k) ++ [.int .i64 (a * px l k + b), .int .i64 (c * py l k + d)] := by
  rw [take_snoc _ _ (by simpa using h), ptCells_snoc, (px_map l _ k h).1, (px_map l _ k h).2]; rfl

set_option maxHeartbeats 16000000 in
theorem changedW (b0 off n cp B1 B2 : Nat) (l : List P2) (a b c d u v : Int) (w : World) (h0 : 0 < n) (hl : n ≤ 1000000) (hw : Pts w b0 off n l)
    (HF : Hid (∀ (w1 : World), New w w1 → ∀ x y : Int, 0 ≤ x ∧ x ≤ 10000 → 0 ≤ y ∧ y ≤ 10000 → (-20000 ≤ u ∧ u ≤ 20000) ∧ (-20000 ≤ v ∧ v ≤ 20000) → Calls Tryz.prog 159 #[pv x y, .pointer (some ⟨B1, 0, none⟩), .pointer (some ⟨B2, 0, none⟩)] w1 fun en w' => en = .returned (pv (a * x + b) (c * y + d)) ∧ New w1 w')) :
    Calls Tryz.prog 158 #[.slice (some ⟨b0, off, none⟩) n cp, .agg #[.int .i64 u, .int .i64 v], .func (.func 159) #[] #[.pointer (some ⟨B1, 0, none⟩), .pointer (some ⟨B2, 0, none⟩)]] w fun en w' =>
      WrIs w w' 23 2 en := by
  obtain ⟨i0, hi, hz0, hz1, hz2⟩ := info_parts info23
  have HW := Lib.hid hw
  have HN := Lib.hid hw.1
  obtain ⟨_, hb, hcell⟩ := hw
  have HCK := Lib.hid (fun (w1 : World) (h1 : New w w1) => checkPoints_c b0 off n cp l 400 w1 (by omega) (HW.out.new h1))
  by_cases hck : ckPts l 400 = 0
  · rw [hck] at HCK
    obtain ⟨hn4, hok⟩ := ckPts_zero hck
    have hn5 : (n : Int) ≤ 400 := by rw [← HN.out]; exact hn4
    have HCK0 := Lib.hid hck
    have HB := Lib.hid (okL_bd hok)
    clear hck hok hn4
    by_cases hu : -20000 ≤ u ∧ u ≤ 20000
    · by_cases hv : -20000 ≤ v ∧ v ≤ 20000
      · skip
        have HF2 := Lib.hid (fun (w1 : World) (h1 : New w w1) (x y : Int) (hx : 0 ≤ x ∧ x ≤ 10000) (hy : 0 ≤ y ∧ y ≤ 10000) => HF.out w1 h1 x y hx hy ⟨hu, hv⟩)
        have hmk : ∀ w : World, (Instr.makeSlice 40 (.int .i64 0) (.int .i64 (n : Int))).run Tryz.prog w = .ok (.slice (some ⟨w.heap.size, 0, none⟩) 0 n) (w.alloc (.cells (madeCells (.agg #[.int .i64 0, .int .i64 0] : Value).cells (n * 2)) 23)) := by
          intro w
          have := run_make (P := Tryz.prog) w 40 23 i0 _ Tryz.underlying40 hi hz0 .i64 .i64 0 n (by omega) (by omega) (by rw [hz2]; omega) (by omega)
          rw [hz1] at this
          simpa using this
        obtain ⟨hu1, hu2⟩ := hu
        obtain ⟨hv1, hv2⟩ := hv
        have hx0 : ∀ w0 : World, Sem.run Tryz.prog (Instr.index 152 (.agg #[.int .i64 u, .int .i64 v]) (.int .i64 0)) w0 = .ok (.int .i64 u) w0 := fun _ => by rfl
        have hx1 : ∀ w0 : World, Sem.run Tryz.prog (Instr.index 152 (.agg #[.int .i64 u, .int .i64 v]) (.int .i64 1)) w0 = .ok (.int .i64 v) w0 := fun _ => by rfl
        clear HF
        go_enter Tryz.func158, Tryz.ntmps158
        go_wp2_with (go_at_call 84; refine (HCK.out _ (by (repeat (first | exact New.refl _ | apply New.alloc | apply New.aft | apply New.drew | refine New.setCell ?_ ?_ _)); all_goals (first | done | (simp [size_aft]; done) | (simp [size_aft]; omega)))).mono ?_; rintro en w1 ⟨rfl, pw, rfl⟩)
        refine wp_loop_rounds 3 ?_
        repeat any_goals (rw [rounds_succ]; go_wp2)
        all_goals (try (exfalso; omega))
        have hlen : (l.map (frP a b c d)).length = n := by rw [List.length_map, HN.out]
        go_loopw [11, 36] (fun v i wr => ∃ k : Nat, k ≤ n ∧ i = .int .i64 k ∧ wr.ownsRow w.heap.size 23 2 v k (ptCells ((l.map (frP a b c d)).take k)) ∧ New w wr) (fun _ i _ => n - (intOf i).toNat)
        case atStart => exact ⟨0, Nat.zero_le _, rfl, (by have h := World.ownsRow_made (e := 23) (size := 2) (base := w.heap.size) (Aft (w.alloc (.cells #[.int .i64 u, .int .i64 v] 152)) pw.d pw.os) (madeCells #[.int .i64 0, .int .i64 0] (n * 2)) n (by simp [size_aft]; omega) (by unfold maxLen; omega) (by simp [size_madeCells]); simp only [size_aft, World.size_alloc] at h; simpa [ptCells] using h), by (repeat (first | exact New.refl _ | apply New.alloc | apply New.aft | apply New.drew | refine New.setCell ?_ ?_ _)); all_goals (first | done | (simp [size_aft]; done) | (simp [size_aft]; omega))⟩
        case round =>
          obtain ⟨k, hk, rfl, hown, pr, rfl⟩ := hrel
          have HO := Lib.hid hown
          clear hown
          by_cases hlt : k < n
          · obtain ⟨c1, c2⟩ := hcell k hlt
            have b1 := HB.out k
            have HCM := Lib.hid (cells_map l a b c d k (by rw [HN.out]; exact hlt))
            have HF3 := Lib.hid (fun (w1 : World) (h1 : New w w1) => HF2.out w1 h1 (px l k) (py l k) b1.1 b1.2)
            generalize a * px l k + b = X at *
            generalize c * py l k + d = Y at *
            go_wp2_with (first | (go_at_call 159; refine (HF3.out _ (by (repeat (first | exact New.refl _ | apply New.alloc | apply New.aft | apply New.drew | refine New.setCell ?_ ?_ _)); all_goals (first | done | (simp [size_aft]; done) | (simp [size_aft]; omega)))).mono ?_; rintro en w1 ⟨rfl, pw, rfl⟩) | (at_builtin; refine wpList_append_lies _ rfl (.tmp 40) (.tmp 44) 40 rfl w.heap.size 23 i0 _ 2 16 Tryz.underlying40 hi hz0 hz1 hz2 rfl (by omega) u11 k (ptCells ((l.map (frP a b c d)).take k)) rfl ?_ _ 1 1 [.int .i64 X, .int .i64 Y] rfl rfl ?_ ?_ (by omega) ?_ ?_ ?_ _ rfl ?_; exact own_new HO.out (by (repeat (first | exact New.refl _ | apply New.alloc | apply New.aft | apply New.drew | refine New.setCell ?_ ?_ _)); all_goals (first | done | (simp [size_aft]; done) | (simp [size_aft]; omega))); (refine cells_new _ _ _ _ ?_); (simp [go_sem]); (intro u hu; simp at hu; rcases hu with rfl | rfl <;> rfl); (unfold maxLen; omega); omega; (simp [go_sem, Nat.add_assoc]); intro gg cap2 w2 hown2 hgrow2 hor2 hlt2; have HNW := Lib.hid (show New w w2 from new_grown (by (repeat (first | exact New.refl _ | apply New.alloc | apply New.aft | apply New.drew | refine New.setCell ?_ ?_ _)); all_goals (first | done | (simp [size_aft]; done) | (simp [size_aft]; omega))) hgrow2 HO.out); have HO2 := Lib.hid hown2; clear hown2 hgrow2 hor2 hlt2))
            go_roundw
            case rel => exact ⟨k + 1, by omega, by go_num, by rw [HCM.out]; exact HO2.out, HNW.out⟩
            case measure => simp [intOf]; omega
          · obtain rfl : k = n := by omega
            have HO3 := HO.out
            rw [List.take_of_length_le (by omega)] at HO3
            have HO4 := HO3
            rcases HO3.2 with ⟨_, hk0⟩ | ⟨g, cap, cur, rfl, hg⟩
            · exact absurd hk0 (by omega)
            · have HPT := Lib.hid (pts_own HO4 hlen)
              have HCP := Lib.hid (fun (w1 : World) (h1 : New (Aft w pr.d pr.os) w1) => checkPoints_c g 0 k cap (l.map (frP a b c d)) 400 w1 (by omega) (HPT.out.new h1))
              have HRES := Lib.hid (show ∀ w1 : World, New (Aft w pr.d pr.os) w1 → Wr w.heap.size w1 23 2 (.slice (some ⟨g, 0, none⟩) k cap) from fun w1 h1 => (Wr.own HO4).new h1)
              clear HO HO3 HO4 hg
              cases hr : okL (l.map (frP a b c d))
              · skip
                rw [show ckPts (l.map (frP a b c d)) 400 = 1 by unfold ckPts; rw [if_neg (by omega), hr]; rfl] at HCP
                go_wp2_with (go_at_call 84; refine (HCP.out _ (New.refl _)).mono ?_; rintro en w1 ⟨rfl, pw, rfl⟩)
                refine bodyPost_ret (v := .tuple #[.slice none 0 0, .int .i64 1]) (by simp [results, Tryz.results158, go_sem]) rfl ⟨_, _, rfl, Wr.nil _ _ _ _ _ _, by (repeat (first | exact New.refl _ | apply New.alloc | apply New.aft | apply New.drew | refine New.setCell ?_ ?_ _)); all_goals (first | done | (simp [size_aft]; done) | (simp [size_aft]; omega))⟩
              · skip
                rw [show ckPts (l.map (frP a b c d)) 400 = 0 by unfold ckPts; rw [if_neg (by omega), hr]; rfl] at HCP
                go_wp2_with (go_at_call 84; refine (HCP.out _ (New.refl _)).mono ?_; rintro en w1 ⟨rfl, hn⟩; have HN2 := Lib.hid hn; clear hn)
                refine bodyPost_ret (v := .tuple #[.slice (some ⟨g, 0, none⟩) k cap, .int .i64 0]) (by simp [results, Tryz.results158, go_sem]) rfl ⟨_, _, rfl, HRES.out _ HN2.out, New.trans ((New.refl _).aft _ _) HN2.out⟩
      · skip
        have hx0 : ∀ w0 : World, Sem.run Tryz.prog (Instr.index 152 (.agg #[.int .i64 u, .int .i64 v]) (.int .i64 0)) w0 = .ok (.int .i64 u) w0 := fun _ => by rfl
        have hx1 : ∀ w0 : World, Sem.run Tryz.prog (Instr.index 152 (.agg #[.int .i64 u, .int .i64 v]) (.int .i64 1)) w0 = .ok (.int .i64 v) w0 := fun _ => by rfl
        obtain ⟨hu1, hu2⟩ := hu
        have d1 : decide (u < -20000) = false := by simp; omega
        have d2 : decide (20000 < u) = false := by simp; omega
        have d3 : (decide (v < -20000) || decide (20000 < v)) = true := by simp; omega
        have hvv : v < -20000 ∨ 20000 < v := by omega
        clear HF
        rcases hvv with hvv | hvv
        all_goals
          go_enter Tryz.func158, Tryz.ntmps158
          go_wp2_with (go_at_call 84; refine (HCK.out _ (by (repeat (first | exact New.refl _ | apply New.alloc | apply New.aft | apply New.drew | refine New.setCell ?_ ?_ _)); all_goals (first | done | (simp [size_aft]; done) | (simp [size_aft]; omega)))).mono ?_; rintro en w1 ⟨rfl, pw, rfl⟩)
          refine wp_loop_rounds 3 ?_
          repeat any_goals (rw [rounds_succ]; go_wp2)
          all_goals (try (exfalso; omega))
          all_goals (refine bodyPost_ret (v := .tuple #[.slice none 0 0, .int .i64 1]) (by simp [results, Tryz.results158, go_sem]) rfl ⟨_, _, rfl, Wr.nil _ _ _ _ _ _, by (repeat (first | exact New.refl _ | apply New.alloc | apply New.aft | apply New.drew | refine New.setCell ?_ ?_ _)); all_goals (first | done | (simp [size_aft]; done) | (simp [size_aft]; omega))⟩)
    · skip
      have hx0 : ∀ w0 : World, Sem.run Tryz.prog (Instr.index 152 (.agg #[.int .i64 u, .int .i64 v]) (.int .i64 0)) w0 = .ok (.int .i64 u) w0 := fun _ => by rfl
      have huu : u < -20000 ∨ 20000 < u := by omega
      clear HF
      rcases huu with huu | huu
      all_goals
        go_enter Tryz.func158, Tryz.ntmps158
        go_wp2_with (go_at_call 84; refine (HCK.out _ (by (repeat (first | exact New.refl _ | apply New.alloc | apply New.aft | apply New.drew | refine New.setCell ?_ ?_ _)); all_goals (first | done | (simp [size_aft]; done) | (simp [size_aft]; omega)))).mono ?_; rintro en w1 ⟨rfl, pw, rfl⟩)
        refine wp_loop_rounds 3 ?_
        repeat any_goals (rw [rounds_succ]; go_wp2)
        all_goals (try (exfalso; omega))
        all_goals (refine bodyPost_ret (v := .tuple #[.slice none 0 0, .int .i64 1]) (by simp [results, Tryz.results158, go_sem]) rfl ⟨_, _, rfl, Wr.nil _ _ _ _ _ _, by (repeat (first | exact New.refl _ | apply New.alloc | apply New.aft | apply New.drew | refine New.setCell ?_ ?_ _)); all_goals (first | done | (simp [size_aft]; done) | (simp [size_aft]; omega))⟩)
  · skip
    have z1 : (ckPts l 400 == 0) = false := by simpa using hck
    have z2 : (ckPts l 400 != 0) = true := by simpa using hck
    clear hck HF
    go_enter Tryz.func158, Tryz.ntmps158
    go_wp2_with (go_at_call 84; refine (HCK.out _ (by (repeat (first | exact New.refl _ | apply New.alloc | apply New.aft | apply New.drew | refine New.setCell ?_ ?_ _)); all_goals (first | done | (simp [size_aft]; done) | (simp [size_aft]; omega)))).mono ?_; rintro en w1 ⟨rfl, pw, rfl⟩)
    refine bodyPost_ret (v := .tuple #[.slice none 0 0, .int .i64 (ckPts l 400)]) (by simp [results, Tryz.results158, go_sem]) rfl ⟨_, _, rfl, Wr.nil _ _ _ _ _ _, by (repeat (first | exact New.refl _ | apply New.alloc | apply New.aft | apply New.drew | refine New.setCell ?_ ?_ _)); all_goals (first | done | (simp [size_aft]; done) | (simp [size_aft]; omega))⟩

set_option maxHeartbeats 4000000 in
theorem changed_nilW (av : Option Addr) (cp : Nat) (u v : Int) (fv : Value) (w : World) : Calls Tryz.prog 158 #[.slice av 0 cp, .agg #[.int .i64 u, .int .i64 v], fv] w fun en w' => WrIs w w' 23 2 en := by
  obtain ⟨i0, hi, hz0, hz1, hz2⟩ := info_parts info23
  have HCK := Lib.hid (fun (a : Option Addr) (c : Nat) (w1 : World) => checkPoints_nil a c 400 (by omega) w1)
  have hx0 : ∀ w0 : World, Sem.run Tryz.prog (Instr.index 152 (.agg #[.int .i64 u, .int .i64 v]) (.int .i64 0)) w0 = .ok (.int .i64 u) w0 := fun _ => by rfl
  have hx1 : ∀ w0 : World, Sem.run Tryz.prog (Instr.index 152 (.agg #[.int .i64 u, .int .i64 v]) (.int .i64 1)) w0 = .ok (.int .i64 v) w0 := fun _ => by rfl
  have hmk : ∀ w : World, (Instr.makeSlice 40 (.int .i64 0) (.int .i64 0)).run Tryz.prog w = .ok (.slice (some ⟨w.heap.size, 0, none⟩) 0 0) (w.alloc (.cells (madeCells (.agg #[.int .i64 0, .int .i64 0] : Value).cells (0 * 2)) 23)) := by
    intro w
    have := run_make (P := Tryz.prog) w 40 23 i0 _ Tryz.underlying40 hi hz0 .i64 .i64 0 0 (by omega) (by omega) (by rw [hz2]; omega) (by omega)
    rw [hz1] at this
    simpa using this
  have hck : ckPts ([] : List P2) 400 = 0 := by decide
  by_cases hu : -20000 ≤ u ∧ u ≤ 20000
  · by_cases hv : -20000 ≤ v ∧ v ≤ 20000
    · skip
      obtain ⟨hu1, hu2⟩ := hu
      obtain ⟨hv1, hv2⟩ := hv
      go_enter Tryz.func158, Tryz.ntmps158
      go_wp2_with (go_at_call 84; refine (HCK.out _ _ _).mono ?_; rintro en w1 ⟨rfl, pw, rfl⟩)
      refine wp_loop_rounds 3 ?_
      repeat any_goals (rw [rounds_succ]; go_wp2)
      all_goals (try (exfalso; omega))
      refine wp_loop_rounds 1 ?_
      rw [rounds_succ]
      go_wp2_with (go_at_call 84; refine (HCK.out _ _ _).mono ?_; rintro en w1 ⟨rfl, pw2, rfl⟩)
      all_goals (refine bodyPost_ret (v := .tuple #[.slice (some ⟨w.heap.size + 1 + pw.os.size, 0, none⟩) 0 0, .int .i64 0]) (by simp [results, Tryz.results158, go_sem]) rfl ⟨_, _, rfl, Wr.nil _ _ _ _ _ _, by (repeat (first | exact New.refl _ | apply New.alloc | apply New.aft | apply New.drew | refine New.setCell ?_ ?_ _)); all_goals (first | done | (simp [size_aft]; done) | (simp [size_aft]; omega))⟩)
    · skip
      obtain ⟨hu1, hu2⟩ := hu
      have hvv : v < -20000 ∨ 20000 < v := by omega
      rcases hvv with hvv | hvv
      all_goals
        go_enter Tryz.func158, Tryz.ntmps158
        go_wp2_with (go_at_call 84; refine (HCK.out _ _ _).mono ?_; rintro en w1 ⟨rfl, pw, rfl⟩)
        refine wp_loop_rounds 3 ?_
        repeat any_goals (rw [rounds_succ]; go_wp2)
        all_goals (try (exfalso; omega))
        all_goals (refine bodyPost_ret (v := .tuple #[.slice none 0 0, .int .i64 1]) (by simp [results, Tryz.results158, go_sem]) rfl ⟨_, _, rfl, Wr.nil _ _ _ _ _ _, by (repeat (first | exact New.refl _ | apply New.alloc | apply New.aft | apply New.drew | refine New.setCell ?_ ?_ _)); all_goals (first | done | (simp [size_aft]; done) | (simp [size_aft]; omega))⟩)
  · skip
    have huu : u < -20000 ∨ 20000 < u := by omega
    rcases huu with huu | huu
    all_goals
      go_enter Tryz.func158, Tryz.ntmps158
      go_wp2_with (go_at_call 84; refine (HCK.out _ _ _).mono ?_; rintro en w1 ⟨rfl, pw, rfl⟩)
      refine wp_loop_rounds 3 ?_
      repeat any_goals (rw [rounds_succ]; go_wp2)
      all_goals (try (exfalso; omega))
      all_goals (refine bodyPost_ret (v := .tuple #[.slice none 0 0, .int .i64 1]) (by simp [results, Tryz.results158, go_sem]) rfl ⟨_, _, rfl, Wr.nil _ _ _ _ _ _, by (repeat (first | exact New.refl _ | apply New.alloc | apply New.aft | apply New.drew | refine New.setCell ?_ ?_ _)); all_goals (first | done | (simp [size_aft]; done) | (simp [size_aft]; omega))⟩)

set_option maxHeartbeats 4000000 in
theorem move_w (av : Option Addr) (n cp : Nat) (l : List P2) (dx dy : Int) (w : World) (hl : n ≤ 1000000) (hp : PtsA w av n l) :
    Calls Tryz.prog 75 #[.slice av n cp, .int .i64 dx, .int .i64 dy] w fun en w' => WrIs w w' 23 2 en := by
  have hmf : ∀ (fn : Fn) (first cap : Array Value) (w : World), (Instr.makeFunc fn first cap).run Tryz.prog w = .ok (.func fn first cap) w := fun _ _ _ _ => rfl
  have HCH := Lib.hid (show ∀ w1 : World, New w w1 → (w1.cell? ⟨w.heap.size, 0, none⟩ = some (.int .i64 dx) ∧ w.heap.size < w1.heap.size) ∧ (w1.cell? ⟨w.heap.size + 1, 0, none⟩ = some (.int .i64 dy) ∧ w.heap.size + 1 < w1.heap.size) → Calls Tryz.prog 158 #[.slice av n cp, .agg #[.int .i64 dx, .int .i64 dy], .func (.func 159) #[] #[.pointer (some ⟨w.heap.size, 0, none⟩), .pointer (some ⟨w.heap.size + 1, 0, none⟩)]] w1 fun en w' => WrIs w1 w' 23 2 en from fun w1 hn hc => by
    by_cases h0 : 0 < n
    · obtain ⟨b0, off, rfl, hw⟩ := hp.2 h0
      exact changedW b0 off n cp w.heap.size (w.heap.size + 1) l 1 dx 1 dy dx dy w1 h0 hl (hw.new hn) (Lib.hid (fun w2 hn2 x y hx hy hr => by
        have := (move1_c x y dx dy w.heap.size (w.heap.size + 1) w2 hx hy hr.1 hr.2 ((hn2.cell hc.1.2).trans hc.1.1) ((hn2.cell hc.2.2).trans hc.2.1) (Nat.lt_of_lt_of_le hc.1.2 hn2.size) (Nat.lt_of_lt_of_le hc.2.2 hn2.size))
        rw [show x + dx = 1 * x + dx by omega, show y + dy = 1 * y + dy by omega] at this
        exact this))
    · obtain rfl : n = 0 := by omega
      have : l = [] := List.eq_nil_of_length_eq_zero hp.1
      subst this
      exact changed_nilW av cp dx dy _ w1)
  clear hp
  go_enter Tryz.func75, Tryz.ntmps75
  go_wp2_with (go_at_call 158; refine (HCH.out _ (by (repeat (first | exact New.refl _ | apply New.alloc | apply New.aft | apply New.drew | refine New.setCell ?_ ?_ _)); all_goals (first | done | (simp [size_aft]; done) | (simp [size_aft]; omega))) (by simp [go_sem])).mono ?_; rintro en w1 ⟨r, E, rfl, hr, hn⟩; have HR := Lib.hid (hr.base (B := w.heap.size) (by simp [size_aft] <;> omega)); have HN := Lib.hid (New.trans (by (repeat (first | exact New.refl _ | apply New.alloc | apply New.aft | apply New.drew | refine New.setCell ?_ ?_ _)); all_goals (first | done | (simp [size_aft]; done) | (simp [size_aft]; omega))) hn : New w w1); clear hr hn)
  all_goals (refine bodyPost_ret (v := .tuple #[r, .int .i64 E]) (by simp [results, Tryz.results75, go_sem]) rfl ⟨r, E, rfl, HR.out, HN.out⟩)

end Go.Proofs.YtpdfbboagaflhaaGreat

set_option linter.unusedSimpArgs false
set_option linter.unusedVariables false
set_option maxRecDepth 100000
namespace Go.Proofs.YtpdfbboagaflhaaGreat
open Go.RowKit

set_option maxHeartbeats 4000000 in
theorem samePoints_a (av : Option Addr) (n0 cv : Nat) (u : Value) (R : List P2) (w : World) (hl : R.length ≤ 1000000) (hv : PtsA w av n0 R) (hu : PtsR w u R) : Calls Tryz.prog 52 #[.slice av n0 cv, u] w fun en w' => en = .returned (.bool true) ∧ New w w' := by
  obtain ⟨hRn, hv⟩ := hv
  subst hRn
  obtain ⟨au, cu, rfl, hu⟩ := hu
  by_cases h0 : 0 < R.length
  · obtain ⟨b, off, rfl, _, hg1, hg2⟩ := hv h0
    obtain ⟨g', rfl, _, hg3, hg4⟩ := hu h0
    generalize R.length = n at *
    have t0 : ((n : Int) != (n : Int)) = false := by simp
    clear hv hu
    go_enter Tryz.func52, Tryz.ntmps52
    go_wp2_with fail
    go_loopw [5] (fun i wr => ∃ k : Nat, k ≤ n ∧ i = .int .i64 k ∧ New w wr) (fun i _ => n - (intOf i).toNat)
    case atStart => exact ⟨0, Nat.zero_le _, rfl, New.refl _⟩
    case round =>
      obtain ⟨k, hk, rfl, pr, rfl⟩ := hrel
      by_cases hlt : k < n
      · obtain ⟨c1, c2⟩ := hg2 k hlt
        obtain ⟨d1, d2⟩ := hg4 k hlt
        simp only [Nat.zero_add] at d1 d2
        have hkn : (k : Int) < (n : Int) := by omega
        clear hg2 hg4
        generalize px R k = X at *
        generalize py R k = Y at *
        have e1 : (X == X) = true := by simp
        have e2 : (Y == Y) = true := by simp
        go_wp2_with fail
        first | refine wp_region_at2 (by kernel_rfl) (by kernel_rfl) ?_ | refine wp_region_at (by kernel_rfl) (by kernel_rfl) ?_
        repeat (go_big_quiet_step (fail))
        refine wpQuiet_nil ?_
        rintro _ ⟨q, rfl⟩
        go_wp2_with fail
        go_roundw
        case rel => exact ⟨k + 1, by omega, by go_num, by (repeat (first | exact New.refl _ | apply New.alloc | apply New.aft | apply New.drew | refine New.setCell ?_ ?_ _)); all_goals (first | done | (simp [size_aft]; done) | (simp [size_aft]; omega))⟩
        case measure => simp [intOf]; omega
      · go_wp2_with fail
        go_ret
        exact ⟨rfl, by (repeat (first | exact New.refl _ | apply New.alloc | apply New.aft | apply New.drew | refine New.setCell ?_ ?_ _)); all_goals (first | done | (simp [size_aft]; done) | (simp [size_aft]; omega))⟩
  · have h1 : R.length = 0 := by omega
    rw [h1]
    clear hv hu
    go_enter Tryz.func52, Tryz.ntmps52
    go_wp2_with fail
    refine wp_loop_rounds 1 ?_
    repeat any_goals (rw [rounds_succ]; go_wp2)
    go_ret; exact ⟨rfl, New.refl _⟩

set_option maxHeartbeats 4000000 in
theorem sameSegs_a (av : Option Addr) (n0 cv : Nat) (u : Value) (R : List S4) (w : World) (hl : R.length ≤ 1000000) (hv : SegsA w av n0 R) (hu : SegsR w u R) : Calls Tryz.prog 68 #[.slice av n0 cv, u] w fun en w' => en = .returned (.bool true) ∧ New w w' := by
  obtain ⟨hRn, hv⟩ := hv
  subst hRn
  obtain ⟨au, cu, rfl, _, hu⟩ := hu
  by_cases h0 : 0 < R.length
  · obtain ⟨b, off, rfl, _, hg1, hg2⟩ := hv h0
    obtain ⟨g', rfl, _, hg3, hg4⟩ := hu h0
    have G1 := Lib.hid hg2
    have G2 := Lib.hid hg4
    generalize R.length = m at *
    have t0 : ((m : Int) != (m : Int)) = false := by simp
    clear hv hu hg2 hg4
    go_enter Tryz.func68, Tryz.ntmps68
    go_wp2_with fail
    go_loopw [5] (fun i wr => ∃ k : Nat, k ≤ m ∧ i = .int .i64 k ∧ New w wr) (fun i _ => m - (intOf i).toNat)
    case atStart => exact ⟨0, Nat.zero_le _, rfl, New.refl _⟩
    case round =>
      obtain ⟨k, hk, rfl, hn⟩ := hrel
      have HN := Lib.hid hn
      by_cases hlt : k < m
      · obtain ⟨c1, c2, c3, c4⟩ := G1.out k hlt
        obtain ⟨d1, d2, d3, d4⟩ := G2.out k hlt
        simp only [Nat.zero_add] at d1 d2 d3 d4
        have L1 := fun o => hn.below.cell (p := ⟨b, o, none⟩) hg1
        have L2 := fun o => hn.below.cell (p := ⟨g', o, none⟩) hg3
        replace c1 := (L1 _).trans c1
        replace c2 := (L1 _).trans c2
        replace c3 := (L1 _).trans c3
        replace c4 := (L1 _).trans c4
        replace d1 := (L2 _).trans d1
        replace d2 := (L2 _).trans d2
        replace d3 := (L2 _).trans d3
        replace d4 := (L2 _).trans d4
        have hkn : (k : Int) < (m : Int) := by omega
        clear L1 L2 G1 G2 hn
        generalize q1 R k = X1 at *
        generalize q2 R k = X2 at *
        generalize q3 R k = X3 at *
        generalize q4 R k = X4 at *
        have e1 : (X1 == X1) = true := by simp
        have e2 : (X2 == X2) = true := by simp
        have e3 : (X3 == X3) = true := by simp
        have e4 : (X4 == X4) = true := by simp
        go_wp2_with fail
        go_region
        go_wp2_with fail
        go_roundw
        case rel => exact ⟨k + 1, by omega, by go_num, (by (repeat (first | exact HN.out | exact New.refl _ | apply New.alloc | apply New.aft | apply New.drew | refine New.setCell ?_ ?_ _)); all_goals (first | done | (simp [size_aft]; done) | (simp [size_aft]; omega)))⟩
        case measure => simp [intOf]; omega
      · go_wp2_with fail
        go_ret
        exact ⟨rfl, HN.out⟩
  · have h1 : R.length = 0 := by omega
    rw [h1]
    clear hv hu
    go_enter Tryz.func68, Tryz.ntmps68
    go_wp2_with fail
    refine wp_loop_rounds 1 ?_
    repeat any_goals (rw [rounds_succ]; go_wp2)
    go_ret; exact ⟨rfl, New.refl _⟩

end Go.Proofs.YtpdfbboagaflhaaGreat

set_option linter.unusedSimpArgs false
set_option linter.unusedVariables false
set_option maxRecDepth 100000
namespace Go.Proofs.YtpdfbboagaflhaaGreat
open Go.RowKit

set_option maxHeartbeats 4000000 in
theorem sameInts_r (v u : Value) (L : List Int) (w : World) (hl : L.length ≤ 17592186044415) (hv : IntsA w v L) (hu : IntsA w u L) : Calls Tryz.prog 149 #[v, u] w fun en w' => en = .returned (.bool true) ∧ New w w' := by
  obtain ⟨av, cv, rfl, hv⟩ := hv
  obtain ⟨au, cu, rfl, hu⟩ := hu
  by_cases h0 : 0 < L.length
  · obtain ⟨b, off, rfl, _, hg1, hg2⟩ := hv h0
    obtain ⟨b', off', rfl, _, hg3, hg4⟩ := hu h0
    have G1 := Lib.hid hg2
    have G2 := Lib.hid hg4
    generalize L.length = m at *
    have t0 : ((m : Int) != (m : Int)) = false := by simp
    clear hv hu hg2 hg4
    go_enter Tryz.func149, Tryz.ntmps149
    go_wp2_with fail
    go_loopw [5] (fun i wr => ∃ k : Nat, k ≤ m ∧ i = .int .i64 k ∧ New w wr) (fun i _ => m - (intOf i).toNat)
    case atStart => exact ⟨0, Nat.zero_le _, rfl, New.refl _⟩
    case round =>
      obtain ⟨k, hk, rfl, hn⟩ := hrel
      have HN := Lib.hid hn
      by_cases hlt : k < m
      · have c1 := (hn.below.cell (p := ⟨b, off + k, none⟩) hg1).trans (G1.out k hlt)
        have d1 := (hn.below.cell (p := ⟨b', off' + k, none⟩) hg3).trans (G2.out k hlt)
        have hkn : (k : Int) < (m : Int) := by omega
        clear G1 G2 hn
        generalize L.getD k 0 = X1 at *
        have e1 : (X1 == X1) = true := by simp
        go_wp2_with fail
        go_region
        go_wp2_with fail
        go_roundw
        case rel => exact ⟨k + 1, by omega, by go_num, (by (repeat (first | exact HN.out | exact New.refl _ | apply New.alloc | apply New.aft | apply New.drew | refine New.setCell ?_ ?_ _)); all_goals (first | done | (simp [size_aft]; done) | (simp [size_aft]; omega)))⟩
        case measure => simp [intOf]; omega
      · go_wp2_with fail
        go_ret
        exact ⟨rfl, HN.out⟩
  · have h1 : L.length = 0 := by omega
    rw [h1]
    clear hv hu
    go_enter Tryz.func149, Tryz.ntmps149
    go_wp2_with fail
    refine wp_loop_rounds 1 ?_
    repeat any_goals (rw [rounds_succ]; go_wp2)
    go_ret; exact ⟨rfl, New.refl _⟩

set_option maxHeartbeats 8000000 in
theorem sameStrips_r (cv dv : Option Addr) (N cc dc : Nat) (C : List SV) (w : World) (hN : N ≤ 17592186044415) (hC : 0 < N → ∃ cb co, cv = some ⟨cb, co, none⟩ ∧ Strps w cb co N C) (hD : 0 < N → ∃ cb co, dv = some ⟨cb, co, none⟩ ∧ Strps w cb co N C) (hlen : ∀ i, i < N → (sL C i).length ≤ 17592186044415) :
    Calls Tryz.prog 72 #[.slice cv N cc, .slice dv N dc] w fun en w' => en = .returned (.bool true) ∧ New w w' := by
  have t0 : ((N : Int) != (N : Int)) = false := by simp
  by_cases h0 : 0 < N
  · obtain ⟨b, off, rfl, _, hg1, hg2⟩ := hC h0
    obtain ⟨b', off', rfl, _, hg3, hg4⟩ := hD h0
    have G1 := Lib.hid hg2
    have G2 := Lib.hid hg4
    have GL := Lib.hid hlen
    clear hC hD hg2 hg4 hlen
    go_enter Tryz.func72, Tryz.ntmps72
    go_wp2_with fail
    go_loopw [5] (fun i wr => ∃ k : Nat, k ≤ N ∧ i = .int .i64 k ∧ New w wr) (fun i _ => N - (intOf i).toNat)
    case atStart => exact ⟨0, Nat.zero_le _, rfl, New.refl _⟩
    case round =>
      obtain ⟨k, hk, rfl, hn⟩ := hrel
      have HN := Lib.hid hn
      by_cases hlt : k < N
      · obtain ⟨v1, ⟨c1, c2⟩, c3, i1⟩ := G1.out k hlt
        obtain ⟨v2, ⟨d1, d2⟩, d3, i2⟩ := G2.out k hlt
        replace c1 := (hn.below.cell (p := ⟨b, off + k * 3, none⟩) hg1).trans c1
        replace c2 := (hn.below.cell (p := ⟨b, off + k * 3 + 1, none⟩) hg1).trans c2
        replace c3 := (hn.below.cell (p := ⟨b, off + k * 3 + 2, none⟩) hg1).trans c3
        replace d1 := (hn.below.cell (p := ⟨b', off' + k * 3, none⟩) hg3).trans d1
        replace d2 := (hn.below.cell (p := ⟨b', off' + k * 3 + 1, none⟩) hg3).trans d2
        replace d3 := (hn.below.cell (p := ⟨b', off' + k * 3 + 2, none⟩) hg3).trans d3
        have hb := Nat.lt_of_lt_of_le hg1 hn.size
        have hb' := Nat.lt_of_lt_of_le hg3 hn.size
        have HC := Lib.hid (fun (w1 : World) (h1 : New wr w1) => sameInts_r v1 v2 (sL C k) w1 (GL.out k hlt) (i1.new (hn.trans h1)) (i2.new (hn.trans h1)))
        have hkn : (k : Int) < (N : Int) := by omega
        clear G1 G2 GL hn i1 i2
        generalize sF C k = X1 at *
        generalize sT C k = X2 at *
        have e1 : (X1 != X1) = false := by simp
        have e2 : (X2 != X2) = false := by simp
        go_wp2_with fail
        first | refine wp_region_at2 (by kernel_rfl) (by kernel_rfl) ?_ | refine wp_region_at (by kernel_rfl) (by kernel_rfl) ?_
        repeat (go_big_quiet_step ((with_reducible exact calls_new (HC.out _ (by (repeat (first | exact New.refl _ | apply New.alloc | apply New.aft | apply New.drew)))))))
        refine wpQuiet_nil ?_
        rintro _ ⟨q, rfl⟩
        go_wp2_with fail
        go_region
        go_wp2_with fail
        go_roundw
        case rel => exact ⟨k + 1, by omega, by go_num, (by (repeat (first | exact HN.out | exact New.refl _ | apply New.alloc | apply New.aft | apply New.drew | refine New.setCell ?_ ?_ _)); all_goals (first | done | (simp [size_aft]; done) | (simp [size_aft]; omega)))⟩
        case measure => simp [intOf]; omega
      · go_wp2_with fail
        go_ret
        exact ⟨rfl, HN.out⟩
  · obtain rfl : N = 0 := by omega
    clear hC hD
    go_enter Tryz.func72, Tryz.ntmps72
    go_wp2_with fail
    refine wp_loop_rounds 1 ?_
    repeat any_goals (rw [rounds_succ]; go_wp2)
    go_ret; exact ⟨rfl, New.refl _⟩

end Go.Proofs.YtpdfbboagaflhaaGreat

set_option linter.unusedSimpArgs false
set_option linter.unusedVariables false
set_option maxRecDepth 100000
namespace Go.Proofs.YtpdfbboagaflhaaGreat
open Go.RowKit

/-- a row of the call's own, whatever it holds -/
def OwnE (B : Nat) (w : World) (T s : Nat) (v : Value) (n : Nat) : Prop := ∃ xs, w.ownsRow B T s v n xs
theorem OwnE.new {B : Nat} {w w1 : World} {T s : Nat} {v : Value} {n : Nat} (h : OwnE B w T s v n) (hn : New w w1) : OwnE B w1 T s v n := by
  obtain ⟨xs, h⟩ := h
  exact ⟨xs, own_new h hn⟩
theorem heap_set_ne (w : World) (b j g : Nat) (u : Value) (h : b ≠ g) : (w.setCell ⟨b, j, none⟩ u).heap[g]? = w.heap[g]? := by
  have := (grownBy_setCell (grownBy_refl w (some b)) j u).block
  rcases Nat.lt_or_ge g w.heap.size with hg | hg
  · exact this g hg (by intro e; injection e with e; exact h e.symm)
  · have e : (w.setCell ⟨b, j, none⟩ u).heap.size = w.heap.size := by simp
    rw [Array.getElem?_eq_none hg, Array.getElem?_eq_none (by omega)]
theorem OwnE.set {B : Nat} {w : World} {T s : Nat} {v : Value} {n : Nat} (h : OwnE B w T s v n) (b j : Nat) (u : Value) : OwnE B (w.setCell ⟨b, j, none⟩ u) T s v n := by
  obtain ⟨xs, h1, h2⟩ := h
  rcases h2 with h2 | ⟨g, cap, cur, rfl, hg, hh, hr⟩
  · exact ⟨xs, h1, .inl h2⟩
  · by_cases e : b = g
    · subst e
      have := own_set (w := w) (base := B) (e := T) (size := s) (g := b) (n := n) (cap := cap) (xs := xs) ⟨h1, .inr ⟨b, cap, cur, rfl, hg, hh, hr⟩⟩ j u
      exact ⟨_, this⟩
    · exact ⟨xs, h1, .inr ⟨g, cap, cur, rfl, hg, by rw [heap_set_ne _ _ _ _ _ e]; exact hh, hr⟩⟩
/-- m strips in the row g -/
def Sw (B : Nat) (w : World) (g m : Nat) : Prop := (∃ cur, w.heap[g]? = some (.cells cur 84 (0, 0))) ∧ ∀ j, j < m → ∃ x y v n, (w.cell? ⟨g, j * 3, none⟩ = some (.int .i64 x) ∧ w.cell? ⟨g, j * 3 + 1, none⟩ = some (.int .i64 y)) ∧ w.cell? ⟨g, j * 3 + 2, none⟩ = some v ∧ OwnE B w 3 1 v n
theorem Sw.lt {B : Nat} {w : World} {g m : Nat} (h : Sw B w g m) : g < w.heap.size := by
  obtain ⟨⟨cur, h⟩, _⟩ := h
  exact (Array.getElem?_eq_some_iff.1 h).1
theorem Sw.new {B : Nat} {w w1 : World} {g m : Nat} (h : Sw B w g m) (hn : New w w1) : Sw B w1 g m := by
  have hl := h.lt
  obtain ⟨⟨cur, h0⟩, h⟩ := h
  obtain ⟨_, _, _, _, hb⟩ := hn.below
  refine ⟨⟨cur, by rw [hb g hl]; exact h0⟩, fun j hj => ?_⟩
  obtain ⟨x, y, v, n, ⟨c1, c2⟩, c3, c4⟩ := h j hj
  exact ⟨x, y, v, n, ⟨(hn.cell hl).trans c1, (hn.cell hl).trans c2⟩, (hn.cell hl).trans c3, c4.new hn⟩
theorem Sw.set {B : Nat} {w : World} {g m : Nat} (h : Sw B w g m) {b : Nat} (hb : ∃ cc, w.heap[b]? = some (.cells cc 3 (0, 0))) (j : Nat) (u : Value) : Sw B (w.setCell ⟨b, j, none⟩ u) g m := by
  obtain ⟨⟨cur, h0⟩, h⟩ := h
  obtain ⟨cc, hb⟩ := hb
  have hne : b ≠ g := by
    rintro rfl
    rw [hb] at h0
    simp at h0
  have e := heap_set_ne w b j g u hne
  have hc : ∀ o, (w.setCell ⟨b, j, none⟩ u).cell? ⟨g, o, none⟩ = w.cell? ⟨g, o, none⟩ := fun o => by simp only [World.cell?, e]
  refine ⟨⟨cur, by rw [e]; exact h0⟩, fun i hi => ?_⟩
  obtain ⟨x, y, v, n, ⟨c1, c2⟩, c3, c4⟩ := h i hi
  exact ⟨x, y, v, n, ⟨(hc _).trans c1, (hc _).trans c2⟩, (hc _).trans c3, c4.set _ _ _⟩
/-- what a call of Sweep hands out -/
def StIs (m : Nat) (C : List SV) (E : Int) (w w' : World) (en : Ending) : Prop := ∃ a c, en = .returned (.tuple #[.slice a m c, .int .i64 E]) ∧ (0 < m → ∃ g, a = some ⟨g, 0, none⟩ ∧ Strps w' g 0 m C ∧ Sw w.heap.size w' g m) ∧ New w w'
theorem sw_of {l : List S4} {w : World} {base c : Nat} {a : Option Addr} {vs : List Value} (ho : w.ownsRow base 84 3 (.slice a ((endXsL l).length - 1) c) ((endXsL l).length - 1) (stripCells l vs ((endXsL l).length - 1)))
    (hv : ∀ j, j < (endXsL l).length - 1 → w.ownsRow base 3 1 (vs.getD j undef) (segsQ l j).length (inCells (segsQ l j))) (h0 : 0 < (endXsL l).length - 1) : ∃ g, a = some ⟨g, 0, none⟩ ∧ Strps w g 0 ((endXsL l).length - 1) (sweptC l) ∧ Sw base w g ((endXsL l).length - 1) := by
  obtain ⟨cb, co, e1, hst⟩ := swept_strps ho hv h0
  obtain ⟨g, cap, hg0, hg1, hg2⟩ := ho.form h0
  obtain ⟨rfl, rfl⟩ : a = some ⟨g, 0, none⟩ ∧ c = cap := by cases hg0; exact ⟨rfl, rfl⟩
  have ecb : cb = g := by cases e1; rfl
  have eco : co = 0 := by cases e1; rfl
  rw [ecb, eco] at hst
  refine ⟨g, rfl, hst, ?_, fun i hi => ?_⟩
  · obtain ⟨cur, _, h2, _⟩ := own_parts ho
    exact ⟨cur, h2⟩
  · obtain ⟨c1, c2, c3⟩ := stripCells_at l vs _ i hi
    exact ⟨_, _, _, _, ⟨(own_cell ho c1).1, (own_cell ho c2).1⟩, (own_cell ho c3).1, ⟨_, hv i hi⟩⟩

end Go.Proofs.YtpdfbboagaflhaaGreat

set_option linter.unusedSimpArgs false
set_option linter.unusedVariables false
set_option maxRecDepth 100000
namespace Go.Proofs.YtpdfbboagaflhaaGreat
open Go.RowKit

theorem own_none0 {W : World} {e : TypeId} {sz : Nat} : (W.alloc (.cells #[] e)).ownsRow W.heap.size e sz (.slice (some ⟨W.heap.size, 0, none⟩) 0 0) 0 [] :=
  own_mk (by simp) (Nat.le_refl _) (heap_alloc_new _ _) (Nat.le_refl _) (by unfold maxLen; omega) (by simp) (by simp)
/-- a cell of a row of the call's own can be written -/
theorem own_at {w : World} {B T s g cap n : Nat} {xs : List Value} (h : w.ownsRow B T s (.slice (some ⟨g, 0, none⟩) n cap) n xs) {j : Nat} (hj : j < n * s) : ∃ u, w.cell? ⟨g, j, none⟩ = some u ∧ w.frozen? ⟨g, j, none⟩ = false := by
  have hl := h.1
  exact ⟨xs[j]'(by omega), own_cell h (List.getElem?_eq_getElem (by omega))⟩
theorem own_ge {w : World} {B T s g cap n : Nat} {xs : List Value} (h : w.ownsRow B T s (.slice (some ⟨g, 0, none⟩) n cap) n xs) : B ≤ g ∧ g < w.heap.size ∧ n ≤ cap ∧ cap ≤ maxLen := by
  obtain ⟨cur, h1, h2, h3, h4, _⟩ := own_parts h
  exact ⟨h1, (Array.getElem?_eq_some_iff.1 h2).1, h3, h4⟩

set_option maxHeartbeats 16000000 in
theorem memory_go (av sv : Option Addr) (n1 c1 n2 c2 : Nat) (l : List P2) (s : List S4) (w : World) (hn1 : n1 ≤ 40) (hn2 : n2 ≤ 30) (hl : PtsA w av n1 l) (hs : SegsA w sv n2 s) (m : Nat) (C : List SV) (E : Int) (hm : m ≤ 17592186044415) (hlen : ∀ i, i < m → (sL C i).length ≤ 17592186044415)
    (HSW : Hid (∀ w1 : World, New w w1 → Calls Tryz.prog 70 #[.slice sv n2 c2] w1 fun e w' => StIs m C E w1 w' e))
    (HCK : Hid (E = 0 → ∀ (a : Option Addr) (c : Nat) (w1 : World), New w w1 → (0 < m → ∃ cb co, a = some ⟨cb, co, none⟩ ∧ Strps w1 cb co m C) → Calls Tryz.prog 73 #[.slice sv n2 c2, .slice a m c] w1 fun e w' => e = .returned (.bool true) ∧ New w1 w')) :
    Calls Tryz.prog 26 #[.slice av n1 c1, .slice sv n2 c2] w fun e w' => e = .returned (.bool true) ∧ New w w' := by
  obtain ⟨i0, hi, hz0, hz1, hz2⟩ := info_parts info23
  obtain ⟨j0, ji, jz0, jz1, jz2⟩ := info_parts info30
  have HL := Lib.hid alive_c
  have HPL := Lib.hid hl
  have HLE := Lib.hid hlen
  clear hlen
  have HPS := Lib.hid hs
  have HCN := Lib.hid (fun (w1 : World) (h1 : New w w1) => normal_w av n1 c1 l w1 (by omega) (hl.new h1))
  have HCH := Lib.hid (fun (w1 : World) (h1 : New w w1) => hull_w av n1 c1 l w1 (by omega) (hl.new h1))
  have HCM := Lib.hid (fun (w1 : World) (h1 : New w w1) => move_w av n1 c1 l 0 0 w1 (by omega) (hl.new h1))
  have HCS := Lib.hid (fun (w1 : World) (h1 : New w w1) => split_w sv n2 c2 s w1 (by omega) (hs.new h1))
  have k1 : ¬ (40 : Int) < (n1 : Int) := by omega
  have k2 : ¬ (30 : Int) < (n2 : Int) := by omega
  clear hl hs
  go_enter Tryz.func26, Tryz.ntmps26
  go_upto_region 3 with fail
  have HNB := Lib.hid (New.refl w)
  go_cut [5] (fun s5 wx => PtsR wx s5 l ∧ New w wx)
  case first =>
    have HOWN := Lib.hid (own_none0 (W := w) (e := 23) (sz := 2))
    by_cases h0 : 0 < n1
    · obtain ⟨b, off, rfl, hw⟩ := HPL.out.2 h0
      have HW := Lib.hid hw
      have HLN := Lib.hid hw.1
      have HC := Lib.hid (show ∀ w1 : World, New w w1 → ∀ j u, (ptCells l)[j]? = some u → w1.cell? ((⟨b, off, none⟩ : Addr).add j) = some u from fun w1 h1 => by have := pts_part (HW.out.new h1) 0 n1 (by omega); simpa [List.take_of_length_le (Nat.le_of_eq hw.1)] using this)
      clear hw
      go_wp2_with (at_builtin; refine wpList_append_lies _ rfl (.tmp 37) (.tmp 38) 40 rfl w.heap.size 23 i0 _ 2 16 Tryz.underlying40 hi hz0 hz1 hz2 rfl (by omega) (.slice (some ⟨w.heap.size, 0, none⟩) 0 0) 0 [] rfl ?_ ⟨b, off, none⟩ n1 c1 (ptCells l) rfl ?_ ?_ ?_ h0 ?_ ?_ ?_ _ rfl ?_; exact HOWN.out; (rw [ptCells_length, HLN.out]); exact HC.out _ (HNB.out.trans ((New.refl _).alloc _)); exact ptCells_one _; (unfold maxLen; omega); omega; (simp [go_sem]); intro g1 cap1 w1 hown1 hgrow1 hat1 hlt1; have HO1 := Lib.hid hown1; have HN1 := Lib.hid (show New w w1 from new_grown ((New.refl w).alloc _) hgrow1 HOWN.out); clear hown1 hgrow1 hat1 hlt1)
      go_meet
      exact ⟨⟨_, cap1, by simp [HLN.out], fun _ => ⟨g1, rfl, by have := pts_own HO1.out (by simpa using HLN.out); rw [HLN.out]; simpa using this⟩⟩, HN1.out⟩
    · obtain rfl : n1 = 0 := by omega
      have : l = [] := List.eq_nil_of_length_eq_zero HPL.out.1
      subst this
      go_wp2_with (at_builtin; refine wpList_append_zero rfl (.tmp 37) (.tmp 38) 40 rfl 23 i0 Tryz.underlying40 hi _ _ _ _ rfl rfl ?_)
      go_meet
      exact ⟨⟨_, _, rfl, fun h => absurd h (by simp)⟩, (New.refl _).alloc _⟩
  case rest =>
    obtain ⟨hcp, hcn⟩ := hcut
    have HCP := Lib.hid hcp
    clear HNB
    have HNB := Lib.hid hcn
    clear hcp hcn
    obtain ⟨wa, rfl⟩ : ∃ wa : World, wa = wc := ⟨_, rfl⟩
    go_upto_region 4 with fail
    go_cut [6] (fun s6 wx => SegsR wx s6 s ∧ New wa wx)
    case first =>
      have HOWN := Lib.hid (own_none0 (W := wa) (e := 30) (sz := 4))
      by_cases h0 : 0 < n2
      · obtain ⟨b, off, rfl, hw⟩ := HPS.out.2 h0
        have HW := Lib.hid hw
        have HLN := Lib.hid hw.1
        have HC := Lib.hid (show ∀ w1 : World, New w w1 → ∀ j u, (segCells s)[j]? = some u → w1.cell? ((⟨b, off, none⟩ : Addr).add j) = some u from fun w1 h1 => by have := segs_part (HW.out.new h1) 0 n2 (by omega); simpa [List.take_of_length_le (Nat.le_of_eq hw.1)] using this)
        clear hw
        go_wp2_with (at_builtin; refine wpList_append_lies _ rfl (.tmp 40) (.tmp 41) 58 rfl wa.heap.size 30 j0 _ 4 32 Tryz.underlying58 ji jz0 jz1 jz2 rfl (by omega) (.slice (some ⟨wa.heap.size, 0, none⟩) 0 0) 0 [] rfl ?_ ⟨b, off, none⟩ n2 c2 (segCells s) rfl ?_ ?_ ?_ h0 ?_ ?_ ?_ _ rfl ?_; exact HOWN.out; (rw [segCells_length, HLN.out]); exact HC.out _ (HNB.out.trans ((New.refl _).alloc _)); exact segCells_one _; (unfold maxLen; omega); omega; (simp [go_sem]); intro g1 cap1 w1 hown1 hgrow1 hat1 hlt1; have HO1 := Lib.hid hown1; have HN1 := Lib.hid (show New wa w1 from new_grown ((New.refl wa).alloc _) hgrow1 HOWN.out); clear hown1 hgrow1 hat1 hlt1)
        go_meet
        exact ⟨⟨_, cap1, by simp [HLN.out], by have := (own_ge HO1.out).2.2.1; rw [HLN.out]; omega, fun _ => ⟨g1, rfl, by have := segs_own HO1.out (by simpa using HLN.out); rw [HLN.out]; simpa using this⟩⟩, HN1.out⟩
      · obtain rfl : n2 = 0 := by omega
        have : s = [] := List.eq_nil_of_length_eq_zero HPS.out.1
        subst this
        go_wp2_with (at_builtin; refine wpList_append_zero rfl (.tmp 40) (.tmp 41) 58 rfl 30 j0 Tryz.underlying58 ji _ _ _ _ rfl rfl ?_)
        go_meet
        exact ⟨⟨_, _, rfl, by simp, fun h => absurd h (by simp)⟩, (New.refl _).alloc _⟩
    case rest =>
      obtain ⟨hcp, hcn⟩ := hcut
      have HCQ := Lib.hid hcp
      have HNB2 := Lib.hid (HNB.out.trans hcn)
      have HCP2 := Lib.hid (HCP.out.new hcn)
      clear HNB HCP
      have HNB := HNB2
      have HCP := HCP2
      clear HNB2 HCP2 hcp hcn
      obtain ⟨wb, rfl⟩ : ∃ wb : World, wb = wc := ⟨_, rfl⟩
      go_upto_block 0 with (go_at_call 50; refine (HCN.out _ HNB.out).mono ?_; rintro e w1 ⟨r, E0, rfl, hr, hn⟩; have HN1 := Lib.hid hn; clear hn; obtain ⟨ra, rn, rc, hre, hr⟩ := hr; subst hre; have HRO := Lib.hid hr; clear hr)
      go_cut [7] (fun s7 wx => New wb wx)
      case first =>
        by_cases h0 : 0 < rn
        · obtain ⟨xs, ho⟩ := HRO.out h0
          obtain ⟨g, cap, hg0, hg1, hg2⟩ := ho.form h0
          obtain ⟨rfl, rfl⟩ : ra = some ⟨g, 0, none⟩ ∧ rc = cap := by cases hg0; exact ⟨rfl, rfl⟩
          have HOW := Lib.hid ho
          have hmx := (own_ge ho).2.2
          clear ho hg0 hg1 hg2
          unfold maxLen at hmx
          go_wp2_with fail
          go_loopw [50, 9] (fun i j wr => ∃ k : Nat, k ≤ rn ∧ i = .int .i64 k ∧ New wb wr ∧ ∃ xs, wr.ownsRow wb.heap.size 23 2 (.slice (some ⟨g, 0, none⟩) rn rc) rn xs) (fun i _ _ => rn - (intOf i).toNat)
          case atStart => exact ⟨0, Nat.zero_le _, rfl, HN1.out, xs, HOW.out⟩
          case round =>
            obtain ⟨k, hk, rfl, hnw, ys, ho⟩ := hrel
            have HO := Lib.hid ho
            have HNW := Lib.hid hnw
            clear hnw ho
            by_cases hlt : k < rn
            · have hkn : (k : Int) < (rn : Int) := by omega
              have hge := own_ge HO.out
              obtain ⟨v0, d0, f0⟩ := own_at HO.out (j := k * 2) (by omega)
              obtain ⟨v1, d1, f1⟩ := own_at HO.out (j := k * 2 + 1) (by omega)
              go_wp2_with (go_at_call 82; refine (pt_c _ _ _).mono ?_; rintro e w2 ⟨rfl, pw, rfl⟩)
              go_roundw
              case rel => exact ⟨k + 1, by omega, by go_num, (by (repeat (first | exact HNW.out | exact New.refl _ | apply New.alloc | apply New.aft | apply New.drew | refine New.setCell ?_ ?_ _)); all_goals (first | done | (simp [size_aft]; done) | (simp [size_aft]; omega))), _, own_new (own_set (own_set HO.out _ _) _ _) ((New.refl _).aft _ _)⟩
              case measure => simp [intOf]; omega
            · go_wp2_with fail
              go_meet
              exact HNW.out
        · obtain rfl : rn = 0 := by omega
          go_wp2_with fail
          refine wp_loop_rounds 1 ?_
          repeat any_goals (rw [rounds_succ]; go_wp2)
          go_meet
          exact HN1.out
      case rest =>
        have HNB2 := Lib.hid (HNB.out.trans hcut)
        have HCP2 := Lib.hid (HCP.out.new hcut)
        have HCQ2 := Lib.hid (HCQ.out.new hcut)
        clear HNB HCP HCQ HRO
        have HNB := HNB2
        have HCP := HCP2
        have HCQ := HCQ2
        clear HNB2 HCP2 HCQ2 HN1 hcut
        obtain ⟨wb, rfl⟩ : ∃ wb : World, wb = wc := ⟨_, rfl⟩
        go_upto_block 2 with (go_at_call 57; refine (HCH.out _ HNB.out).mono ?_; rintro e w1 ⟨r, E0, rfl, hr, hn⟩; have HN1 := Lib.hid hn; clear hn; obtain ⟨ra, rn, rc, hre, hr⟩ := hr; subst hre; have HRO := Lib.hid hr; clear hr)
        go_cut [10] (fun s10 wx => New wb wx)
        case first =>
          by_cases h0 : 0 < rn
          · obtain ⟨xs, ho⟩ := HRO.out h0
            obtain ⟨g, cap, hg0, hg1, hg2⟩ := ho.form h0
            obtain ⟨rfl, rfl⟩ : ra = some ⟨g, 0, none⟩ ∧ rc = cap := by cases hg0; exact ⟨rfl, rfl⟩
            have HOW := Lib.hid ho
            have hmx := (own_ge ho).2.2
            clear ho hg0 hg1 hg2
            unfold maxLen at hmx
            go_wp2_with fail
            go_loopw [65, 12] (fun i j wr => ∃ k : Nat, k ≤ rn ∧ i = .int .i64 k ∧ New wb wr ∧ ∃ xs, wr.ownsRow wb.heap.size 23 2 (.slice (some ⟨g, 0, none⟩) rn rc) rn xs) (fun i _ _ => rn - (intOf i).toNat)
            case atStart => exact ⟨0, Nat.zero_le _, rfl, HN1.out, xs, HOW.out⟩
            case round =>
              obtain ⟨k, hk, rfl, hnw, ys, ho⟩ := hrel
              have HO := Lib.hid ho
              have HNW := Lib.hid hnw
              clear hnw ho
              by_cases hlt : k < rn
              · have hkn : (k : Int) < (rn : Int) := by omega
                have hge := own_ge HO.out
                obtain ⟨v0, d0, f0⟩ := own_at HO.out (j := k * 2) (by omega)
                obtain ⟨v1, d1, f1⟩ := own_at HO.out (j := k * 2 + 1) (by omega)
                go_wp2_with (go_at_call 82; refine (pt_c _ _ _).mono ?_; rintro e w2 ⟨rfl, pw, rfl⟩)
                go_roundw
                case rel => exact ⟨k + 1, by omega, by go_num, (by (repeat (first | exact HNW.out | exact New.refl _ | apply New.alloc | apply New.aft | apply New.drew | refine New.setCell ?_ ?_ _)); all_goals (first | done | (simp [size_aft]; done) | (simp [size_aft]; omega))), _, own_new (own_set (own_set HO.out _ _) _ _) ((New.refl _).aft _ _)⟩
                case measure => simp [intOf]; omega
              · go_wp2_with fail
                go_meet
                exact HNW.out
          · obtain rfl : rn = 0 := by omega
            go_wp2_with fail
            refine wp_loop_rounds 1 ?_
            repeat any_goals (rw [rounds_succ]; go_wp2)
            go_meet
            exact HN1.out
        case rest =>
          have HNB2 := Lib.hid (HNB.out.trans hcut)
          have HCP2 := Lib.hid (HCP.out.new hcut)
          have HCQ2 := Lib.hid (HCQ.out.new hcut)
          clear HNB HCP HCQ HRO
          have HNB := HNB2
          have HCP := HCP2
          have HCQ := HCQ2
          clear HNB2 HCP2 HCQ2 HN1 hcut
          obtain ⟨wb, rfl⟩ : ∃ wb : World, wb = wc := ⟨_, rfl⟩
          go_upto_block 4 with (go_at_call 75; refine (HCM.out _ HNB.out).mono ?_; rintro e w1 ⟨r, E0, rfl, hr, hn⟩; have HN1 := Lib.hid hn; clear hn; obtain ⟨ra, rn, rc, hre, hr⟩ := hr; subst hre; have HRO := Lib.hid hr; clear hr)
          go_cut [13] (fun s13 wx => New wb wx)
          case first =>
            by_cases h0 : 0 < rn
            · obtain ⟨xs, ho⟩ := HRO.out h0
              obtain ⟨g, cap, hg0, hg1, hg2⟩ := ho.form h0
              obtain ⟨rfl, rfl⟩ : ra = some ⟨g, 0, none⟩ ∧ rc = cap := by cases hg0; exact ⟨rfl, rfl⟩
              have HOW := Lib.hid ho
              have hmx := (own_ge ho).2.2
              clear ho hg0 hg1 hg2
              unfold maxLen at hmx
              go_wp2_with fail
              go_loopw [80, 15] (fun i j wr => ∃ k : Nat, k ≤ rn ∧ i = .int .i64 k ∧ New wb wr ∧ ∃ xs, wr.ownsRow wb.heap.size 23 2 (.slice (some ⟨g, 0, none⟩) rn rc) rn xs) (fun i _ _ => rn - (intOf i).toNat)
              case atStart => exact ⟨0, Nat.zero_le _, rfl, HN1.out, xs, HOW.out⟩
              case round =>
                obtain ⟨k, hk, rfl, hnw, ys, ho⟩ := hrel
                have HO := Lib.hid ho
                have HNW := Lib.hid hnw
                clear hnw ho
                by_cases hlt : k < rn
                · have hkn : (k : Int) < (rn : Int) := by omega
                  have hge := own_ge HO.out
                  obtain ⟨v0, d0, f0⟩ := own_at HO.out (j := k * 2) (by omega)
                  obtain ⟨v1, d1, f1⟩ := own_at HO.out (j := k * 2 + 1) (by omega)
                  go_wp2_with (go_at_call 82; refine (pt_c _ _ _).mono ?_; rintro e w2 ⟨rfl, pw, rfl⟩)
                  go_roundw
                  case rel => exact ⟨k + 1, by omega, by go_num, (by (repeat (first | exact HNW.out | exact New.refl _ | apply New.alloc | apply New.aft | apply New.drew | refine New.setCell ?_ ?_ _)); all_goals (first | done | (simp [size_aft]; done) | (simp [size_aft]; omega))), _, own_new (own_set (own_set HO.out _ _) _ _) ((New.refl _).aft _ _)⟩
                  case measure => simp [intOf]; omega
                · go_wp2_with fail
                  go_meet
                  exact HNW.out
            · obtain rfl : rn = 0 := by omega
              go_wp2_with fail
              refine wp_loop_rounds 1 ?_
              repeat any_goals (rw [rounds_succ]; go_wp2)
              go_meet
              exact HN1.out
          case rest =>
            have HNB2 := Lib.hid (HNB.out.trans hcut)
            have HCP2 := Lib.hid (HCP.out.new hcut)
            have HCQ2 := Lib.hid (HCQ.out.new hcut)
            clear HNB HCP HCQ HRO
            have HNB := HNB2
            have HCP := HCP2
            have HCQ := HCQ2
            clear HNB2 HCP2 HCQ2 HN1 hcut
            obtain ⟨wb, rfl⟩ : ∃ wb : World, wb = wc := ⟨_, rfl⟩
            go_upto_block 6 with (go_at_call 66; refine (HCS.out _ HNB.out).mono ?_; rintro e w1 ⟨r, E0, rfl, hr, hn⟩; have HN1 := Lib.hid hn; clear hn; obtain ⟨ra, rn, rc, hre, hr⟩ := hr; subst hre; have HRO := Lib.hid hr; clear hr)
            go_cut [16] (fun s16 wx => New wb wx)
            case first =>
              by_cases h0 : 0 < rn
              · obtain ⟨xs, ho⟩ := HRO.out h0
                obtain ⟨g, cap, hg0, hg1, hg2⟩ := ho.form h0
                obtain ⟨rfl, rfl⟩ : ra = some ⟨g, 0, none⟩ ∧ rc = cap := by cases hg0; exact ⟨rfl, rfl⟩
                have HOW := Lib.hid ho
                have hmx := (own_ge ho).2.2
                clear ho hg0 hg1 hg2
                unfold maxLen at hmx
                go_wp2_with fail
                go_loopw [95, 18] (fun i j wr => ∃ k : Nat, k ≤ rn ∧ i = .int .i64 k ∧ New wb wr ∧ ∃ xs, wr.ownsRow wb.heap.size 30 4 (.slice (some ⟨g, 0, none⟩) rn rc) rn xs) (fun i _ _ => rn - (intOf i).toNat)
                case atStart => exact ⟨0, Nat.zero_le _, rfl, HN1.out, xs, HOW.out⟩
                case round =>
                  obtain ⟨k, hk, rfl, hnw, ys, ho⟩ := hrel
                  have HO := Lib.hid ho
                  have HNW := Lib.hid hnw
                  clear hnw ho
                  by_cases hlt : k < rn
                  · have hkn : (k : Int) < (rn : Int) := by omega
                    have hge := own_ge HO.out
                    obtain ⟨v0, d0, f0⟩ := own_at HO.out (j := k * 4) (by omega)
                    obtain ⟨v1, d1, f1⟩ := own_at HO.out (j := k * 4 + 1) (by omega)
                    obtain ⟨v2, d2, f2⟩ := own_at HO.out (j := k * 4 + 2) (by omega)
                    obtain ⟨v3, d3, f3⟩ := own_at HO.out (j := k * 4 + 3) (by omega)
                    go_wp2_with (go_at_call 83; refine (sg_c _ _ _ _ _).mono ?_; rintro e w2 ⟨rfl, pw, rfl⟩)
                    go_roundw
                    case rel => exact ⟨k + 1, by omega, by go_num, (by (repeat (first | exact HNW.out | exact New.refl _ | apply New.alloc | apply New.aft | apply New.drew | refine New.setCell ?_ ?_ _)); all_goals (first | done | (simp [size_aft]; done) | (simp [size_aft]; omega))), _, own_new (own_set (own_set (own_set (own_set HO.out _ _) _ _) _ _) _ _) ((New.refl _).aft _ _)⟩
                    case measure => simp [intOf]; omega
                  · go_wp2_with fail
                    go_meet
                    exact HNW.out
              · obtain rfl : rn = 0 := by omega
                go_wp2_with fail
                refine wp_loop_rounds 1 ?_
                repeat any_goals (rw [rounds_succ]; go_wp2)
                go_meet
                exact HN1.out
            case rest =>
              have HNB2 := Lib.hid (HNB.out.trans hcut)
              have HCP2 := Lib.hid (HCP.out.new hcut)
              have HCQ2 := Lib.hid (HCQ.out.new hcut)
              clear HNB HCP HCQ HRO
              have HNB := HNB2
              have HCP := HCP2
              have HCQ := HCQ2
              clear HNB2 HCP2 HCQ2 HN1 hcut
              obtain ⟨wb, rfl⟩ : ∃ wb : World, wb = wc := ⟨_, rfl⟩
              go_upto_block 8 with (go_at_call 70; refine (HSW.out _ HNB.out).mono ?_; rintro e w1 ⟨a, c, rfl, hst, hn⟩; have HST := Lib.hid hst; have HN1 := Lib.hid hn; clear hst hn)
              go_cut [19] (fun s19 wx => New wb wx)
              case first =>
                by_cases h0 : 0 < m
                · obtain ⟨g, hg, _, hsw⟩ := HST.out h0
                  subst hg
                  have HSW1 := Lib.hid hsw
                  clear hsw
                  go_wp2_with fail
                  go_loopw [110, 22, 23] (fun i p q wr => ∃ k : Nat, k ≤ m ∧ i = .int .i64 k ∧ New wb wr ∧ Sw wb.heap.size wr g m) (fun i _ _ _ => m - (intOf i).toNat)
                  case atStart => exact ⟨0, Nat.zero_le _, rfl, HN1.out, HSW1.out⟩
                  case round =>
                    obtain ⟨k, hk, rfl, hnw, hsw⟩ := hrel
                    have HSW2 := Lib.hid hsw
                    have HNW := Lib.hid hnw
                    clear hnw hsw
                    by_cases hlt : k < m
                    · have hkn : (k : Int) < (m : Int) := by omega
                      obtain ⟨x, y, v, n, ⟨a1, a2⟩, a3, xs, hl1, hv⟩ := HSW2.out.2 k hlt
                      have hgl := HSW2.out.lt
                      rcases hv with ⟨rfl, rfl⟩ | ⟨g2, cap, cur, rfl, hge, hh, hle, hcap, hsz, _⟩
                      · clear hl1
                        go_wp2_with fail
                        refine wp_loop_rounds 1 ?_
                        repeat any_goals (rw [rounds_succ]; go_wp2)
                        go_roundw
                        case rel => exact ⟨k + 1, by omega, by go_num, (by (repeat (first | exact HNW.out | exact New.refl _ | apply New.alloc | apply New.aft | apply New.drew | refine New.setCell ?_ ?_ _)); all_goals (first | done | (simp [size_aft]; done) | (simp [size_aft]; omega))), HSW2.out.new (by (repeat (first | exact New.refl _ | apply New.alloc | apply New.aft | apply New.drew | refine New.setCell ?_ ?_ _)); all_goals (first | done | (simp [size_aft]; done) | (simp [size_aft]; omega)))⟩
                        case measure => simp [intOf]; omega
                      · have HOV := Lib.hid (show OwnE wb.heap.size wr 3 1 (.slice (some ⟨g2, 0, none⟩) n cap) n from ⟨xs, hl1, .inr ⟨g2, cap, cur, rfl, hge, hh, hle, hcap, hsz, by assumption⟩⟩)
                        have hg2 : g2 < wr.heap.size := (Array.getElem?_eq_some_iff.1 hh).1
                        have hnc : n ≤ 9223372036854775807 := by unfold maxLen at hcap; omega
                        clear hh hsz hl1 hcap
                        have hne : g2 ≠ wr.heap.size := by omega
                        have c0 : (wr.alloc (.cells #[.int .i64 x, .int .i64 y, .slice (some ⟨g2, 0, none⟩) n cap] 84)).cell? ⟨wr.heap.size, 2, none⟩ = some (.slice (some ⟨g2, 0, none⟩) n cap) := by simp [World.cell?_alloc_new]
                        have HC0 := Lib.hid c0
                        clear c0
                        go_wp2_with fail
                        go_loopw [117, 23] (fun i q w2 => ∃ k2 : Nat, k2 ≤ n ∧ i = .int .i64 k2 ∧ New wb w2 ∧ Sw wb.heap.size w2 g m ∧ OwnE wb.heap.size w2 3 1 (.slice (some ⟨g2, 0, none⟩) n cap) n ∧ w2.cell? ⟨wr.heap.size, 2, none⟩ = some (.slice (some ⟨g2, 0, none⟩) n cap) ∧ wr.heap.size < w2.heap.size) (fun i _ _ => n - (intOf i).toNat)
                        case atStart => exact ⟨0, Nat.zero_le _, rfl, HNW.out.alloc _, HSW2.out.new ((New.refl _).alloc _), HOV.out.new ((New.refl _).alloc _), HC0.out, by simp⟩
                        case round =>
                          obtain ⟨k2, hk2, rfl, hn2', hsw2, hov2, c0, hsz2⟩ := hrel
                          have HSV := Lib.hid hsw2
                          have HNV := Lib.hid hn2'
                          have HOW2 := Lib.hid hov2
                          have HCV := Lib.hid c0
                          clear hn2' hsw2 hov2
                          by_cases hlt2 : k2 < n
                          · have hkn2 : (k2 : Int) < (n : Int) := by omega
                            obtain ⟨ys, ho2⟩ := HOW2.out
                            obtain ⟨u, d0, f0⟩ := own_at ho2 (j := k2) (by omega)
                            obtain ⟨cur2, _, hh2, _⟩ := own_parts ho2
                            have HHH := Lib.hid hh2
                            have hlt3 := (own_ge ho2).2.1
                            clear ho2 hh2
                            go_wp2_with fail
                            go_roundw
                            case rel => exact ⟨k2 + 1, by omega, by go_num, HNV.out.setCell hge _, HSV.out.set ⟨_, HHH.out⟩ _ _, HOW2.out.set _ _ _, by simp only [World.cell?, heap_set_ne _ _ _ _ _ hne]; exact HCV.out, by simpa using hsz2⟩
                            case measure => simp [intOf]; omega
                          · go_wp2_with fail
                            go_roundw
                            case rel => exact ⟨k + 1, by omega, by go_num, HNV.out, HSV.out⟩
                            case measure => simp [intOf]; omega
                    · go_wp2_with fail
                      go_meet
                      exact HNW.out
                · obtain rfl : m = 0 := by omega
                  go_wp2_with fail
                  refine wp_loop_rounds 1 ?_
                  repeat any_goals (rw [rounds_succ]; go_wp2)
                  go_meet
                  exact HN1.out
              case rest =>
                have HNB2 := Lib.hid (HNB.out.trans hcut)
                have HCP2 := Lib.hid (HCP.out.new hcut)
                have HCQ2 := Lib.hid (HCQ.out.new hcut)
                clear HNB HCP HCQ HST HN1 hcut
                have HNB := HNB2
                have HCP := HCP2
                have HCQ := HCQ2
                clear HNB2 HCP2 HCQ2
                obtain ⟨wb, rfl⟩ : ∃ wb : World, wb = wc := ⟨_, rfl⟩
                go_upto_region 40 with (go_at_call 70; refine (HSW.out _ HNB.out).mono ?_; rintro e w1 ⟨a, c, rfl, hst, hn⟩; have HST := Lib.hid hst; have HN1 := Lib.hid hn; clear hst hn)
                by_cases hE : E = 0
                · subst hE
                  have HCK0 := Lib.hid (HCK.out rfl)
                  go_wp2_with (first | (go_at_call 70; refine (HSW.out _ (HNB.out.trans HN1.out)).mono ?_; rintro e w2 ⟨a', c', rfl, hst, hn⟩; have HST2 := Lib.hid hst; have HNT := Lib.hid hn; have HN2 := Lib.hid (HN1.out.trans hn); clear hst hn) | (go_at_call 31; refine (HL.out _).mono ?_; rintro e w3 ⟨rfl, hn⟩; have HN3 := Lib.hid (HN2.out.trans hn); have HNT3 := Lib.hid (HNT.out.trans hn); have HNU3 := Lib.hid hn; clear hn) | (go_at_call 52; refine (samePoints_a av n1 c1 u5 l _ (by have := HPL.out.1; omega) (HPL.out.new (HNB.out.trans HN3.out)) (HCP.out.new HN3.out)).mono ?_; rintro e w4 ⟨rfl, hn⟩; have HN4 := Lib.hid (HN3.out.trans hn); have HNT4 := Lib.hid (HNT3.out.trans hn); have HNU4 := Lib.hid (HNU3.out.trans hn); clear hn) | (go_at_call 68; refine (sameSegs_a sv n2 c2 u6 s _ (by have := HPS.out.1; omega) (HPS.out.new (HNB.out.trans HN4.out)) (HCQ.out.new HN4.out)).mono ?_; rintro e w5 ⟨rfl, hn⟩; have HN5 := Lib.hid (HN4.out.trans hn); have HNT5 := Lib.hid (HNT4.out.trans hn); have HNU5 := Lib.hid (HNU4.out.trans hn); clear hn) | (go_at_call 72; refine (sameStrips_r a a' m c c' C _ hm (fun h => by obtain ⟨g, e1, e2, _⟩ := HST.out h; exact ⟨g, 0, e1, e2.new HNT5.out⟩) (fun h => by obtain ⟨g, e1, e2, _⟩ := HST2.out h; exact ⟨g, 0, e1, e2.new HNU5.out⟩) HLE.out).mono ?_; rintro e w6 ⟨rfl, hn⟩; have HN6 := Lib.hid (HN5.out.trans hn); have HNU6 := Lib.hid (HNU5.out.trans hn); clear hn) | (go_at_call 73; refine (HCK0.out a' c' _ (HNB.out.trans HN6.out) (fun h => by obtain ⟨g, e1, e2, _⟩ := HST2.out h; exact ⟨g, 0, e1, e2.new HNU6.out⟩)).mono ?_; rintro e w7 ⟨rfl, hn⟩; have HN7 := Lib.hid (HN6.out.trans hn); clear hn))
                  go_ret
                  exact ⟨rfl, HNB.out.trans HN7.out⟩
                · have z : (E != 0) = true := by simpa using hE
                  go_wp2_with (first | (go_at_call 70; refine (HSW.out _ (HNB.out.trans HN1.out)).mono ?_; rintro e w2 ⟨a', c', rfl, hst, hn⟩; have HST2 := Lib.hid hst; have HNT := Lib.hid hn; have HN2 := Lib.hid (HN1.out.trans hn); clear hst hn) | (go_at_call 31; refine (HL.out _).mono ?_; rintro e w3 ⟨rfl, hn⟩; have HN3 := Lib.hid (HN2.out.trans hn); have HNT3 := Lib.hid (HNT.out.trans hn); have HNU3 := Lib.hid hn; clear hn) | (go_at_call 52; refine (samePoints_a av n1 c1 u5 l _ (by have := HPL.out.1; omega) (HPL.out.new (HNB.out.trans HN3.out)) (HCP.out.new HN3.out)).mono ?_; rintro e w4 ⟨rfl, hn⟩; have HN4 := Lib.hid (HN3.out.trans hn); have HNT4 := Lib.hid (HNT3.out.trans hn); have HNU4 := Lib.hid (HNU3.out.trans hn); clear hn) | (go_at_call 68; refine (sameSegs_a sv n2 c2 u6 s _ (by have := HPS.out.1; omega) (HPS.out.new (HNB.out.trans HN4.out)) (HCQ.out.new HN4.out)).mono ?_; rintro e w5 ⟨rfl, hn⟩; have HN5 := Lib.hid (HN4.out.trans hn); have HNT5 := Lib.hid (HNT4.out.trans hn); have HNU5 := Lib.hid (HNU4.out.trans hn); clear hn) | (go_at_call 72; refine (sameStrips_r a a' m c c' C _ hm (fun h => by obtain ⟨g, e1, e2, _⟩ := HST.out h; exact ⟨g, 0, e1, e2.new HNT5.out⟩) (fun h => by obtain ⟨g, e1, e2, _⟩ := HST2.out h; exact ⟨g, 0, e1, e2.new HNU5.out⟩) HLE.out).mono ?_; rintro e w6 ⟨rfl, hn⟩; have HN6 := Lib.hid (HN5.out.trans hn); have HNU6 := Lib.hid (HNU5.out.trans hn); clear hn))
                  go_ret
                  exact ⟨rfl, HNB.out.trans HN6.out⟩

end Go.Proofs.YtpdfbboagaflhaaGreat

set_option linter.unusedSimpArgs false
set_option linter.unusedVariables false
set_option maxRecDepth 100000
namespace Go.Proofs.YtpdfbboagaflhaaGreat
open Go.RowKit

set_option maxHeartbeats 4000000 in
theorem memory_long (av sv : Option Addr) (n1 c1 n2 c2 : Nat) (w : World) (h : 40 < n1 ∨ 30 < n2) : Calls Tryz.prog 26 #[.slice av n1 c1, .slice sv n2 c2] w fun e w' => e = .returned (.bool true) ∧ New w w' := by
  have HL := Lib.hid alive_c
  by_cases h1 : 40 < n1
  · have k1 : (40 : Int) < (n1 : Int) := by omega
    clear h h1
    go_enter Tryz.func26, Tryz.ntmps26
    go_wp2_with (go_at_call 31; refine (HL.out _).mono ?_; rintro e w1 ⟨rfl, hn⟩; have N1 := Lib.hid hn; clear hn)
    all_goals (go_ret; exact ⟨ret_bool (by simp), N1.out⟩)
  · have k1 : ¬ (40 : Int) < (n1 : Int) := by omega
    have k2 : (30 : Int) < (n2 : Int) := by omega
    clear h h1
    go_enter Tryz.func26, Tryz.ntmps26
    go_wp2_with (go_at_call 31; refine (HL.out _).mono ?_; rintro e w1 ⟨rfl, hn⟩; have N1 := Lib.hid hn; clear hn)
    all_goals (go_ret; exact ⟨ret_bool (by simp), N1.out⟩)

theorem st_none {m : Nat} {E : Int} {w w' : World} {en : Ending} (h : en = .returned (.tuple #[.slice none 0 0, .int .i64 E]) ∧ New w w') : StIs 0 [] E w w' en :=
  ⟨none, 0, h.1, fun h0 => absurd h0 (by omega), h.2⟩

theorem planeMemory_all (w : World) (av : Option Addr) (n1 c1 : Nat) (l : List P2) (hl : l.length = n1) (hp : 0 < n1 → ∃ b off, av = some ⟨b, off, none⟩ ∧ Pts w b off n1 l)
    (sv : Option Addr) (n2 c2 : Nat) (s : List S4) (hs : s.length = n2) (hq : 0 < n2 → ∃ b off, sv = some ⟨b, off, none⟩ ∧ Segs w b off n2 s) :
    Calls Tryz.prog 26 #[.slice av n1 c1, .slice sv n2 c2] w fun e w' => e = .returned (.bool true) ∧ New w w' := by
  by_cases hb : 40 < n1 ∨ 30 < n2
  · exact memory_long av sv n1 c1 n2 c2 w hb
  · have hn1 : n1 ≤ 40 := by omega
    have hn2 : n2 ≤ 30 := by omega
    clear hb
    by_cases h0 : 0 < n2
    · obtain ⟨b, off, rfl, hw⟩ := hq h0
      have HAP := fun (w1 : World) (h1 : New w w1) => checkApart_c b off n2 c2 s w1 (by omega) (hw.new h1)
      by_cases hck : ckSegs s = 0
      · have hok := ck_ok hck
        rcases Classical.em (RowsFree s s.length s.length) with hf | hf
        · have hbb := (nobad_iff hok).2 hf
          have hle := endXsL_le s
          have hsm : ∀ i, i < (endXsL s).length - 1 → (sL (sweptC s) i).length ≤ 17592186044415 := fun i hi => by
            have := (swept_are s).small (show i < (sweptC s).length by rw [sweptC_len]; exact hi); omega
          refine memory_go av (some ⟨b, off, none⟩) n1 c1 n2 c2 l s w hn1 hn2 ⟨hl, hp⟩ ⟨hs, hq⟩ ((endXsL s).length - 1) (sweptC s) 0 (by omega) hsm (Lib.hid (fun w1 h1 => ?_)) (Lib.hid (fun _ a c w1 h1 hst => ?_))
          · refine (sweep_any b off n2 c2 s w1 h0 (by omega) (hw.new h1) hok (fun en hen => ?_) (xAt_bd' hok) (fun k hk => pile_of hok hbb hk)).mono ?_
            · rcases hen with ⟨h2, _⟩ | ⟨_, _, h2⟩ | ⟨_, ⟨i, j, h2, h3, h4⟩, _⟩
              · exact absurd hck h2
              · exact h2
              · have := hf i (by omega) j h2 h3
                rw [h4] at this; cases this
            · rintro e w' ⟨a, c, vs, he, _, ho, hv, hnew⟩
              exact ⟨a, c, he, fun g => sw_of ho hv g, hnew⟩
          · exact checkSweep_c b off n2 c2 ((endXsL s).length - 1) c a s (sweptC s) w1 h0 (by omega) (hw.new h1) (sweptC_len s) (by omega) hst hsm true ⟨fun _ => swept_chk hck hbb, fun _ => rfl⟩
        · refine memory_go av (some ⟨b, off, none⟩) n1 c1 n2 c2 l s w hn1 hn2 ⟨hl, hp⟩ ⟨hs, hq⟩ 0 [] 10 (by omega) (fun i hi => absurd hi (by omega)) (Lib.hid (fun w1 h1 => (sweep_err (some ⟨b, off, none⟩) n2 c2 10 w1 (by decide) (Lib.hid (fun w2 h2 => (HAP w2 (h1.trans h2)).mono fun e w' h => ⟨?_, h.2⟩))).mono fun e w' h => st_none (m := 0) h)) (Lib.hid (fun h => absurd h (by decide)))
          rcases h.1 with ⟨h2, _⟩ | ⟨_, h2, _⟩ | ⟨_, _, h2⟩
          · exact absurd hck h2
          · exact absurd h2 hf
          · exact h2
      · refine memory_go av (some ⟨b, off, none⟩) n1 c1 n2 c2 l s w hn1 hn2 ⟨hl, hp⟩ ⟨hs, hq⟩ 0 [] (ckSegs s) (by omega) (fun i hi => absurd hi (by omega)) (Lib.hid (fun w1 h1 => (sweep_err (some ⟨b, off, none⟩) n2 c2 (ckSegs s) w1 hck (Lib.hid (fun w2 h2 => (HAP w2 (h1.trans h2)).mono fun e w' h => ⟨?_, h.2⟩))).mono fun e w' h => st_none (m := 0) h)) (Lib.hid (fun h => absurd h hck))
        rcases h.1 with ⟨_, h2⟩ | ⟨h2, _⟩ | ⟨h2, _⟩
        · exact h2
        · exact absurd h2 hck
        · exact absurd h2 hck
    · obtain rfl : n2 = 0 := by omega
      exact memory_go av sv n1 c1 0 c2 l s w hn1 hn2 ⟨hl, hp⟩ ⟨hs, hq⟩ 0 [] 0 (by omega) (fun i hi => absurd hi (by omega)) (Lib.hid (fun w1 _ => (sweep_nil sv c2 w1).mono fun e w' h => st_none (m := 0) h)) (Lib.hid (fun _ a c w1 _ _ => checkSweep_nil sv a c2 0 c w1))

end Go.Proofs.YtpdfbboagaflhaaGreat

set_option linter.unusedSimpArgs false
set_option linter.unusedVariables false
set_option linter.constructorNameAsVariable false
namespace Go.Proofs.YtpdfbboagaflhaaGreat
open Go.ChangeShapes Go.WideShapes Go.ChangeAt Go.RowKit Go.Joins
set_option maxRecDepth 100000

theorem jMe_wf : Rows.planeMemoryRow.wf (OpenSpec.ofChange Rows.planeMemorySpec) = true := by kernel_rfl
theorem jMe_par : Tryz.f26.params.all (Tryz.prog.readableRec ·) = true := by kernel_rfl
theorem jMe_tie : namedTie Tryz.prog Rows.planeMemoryRow.named Rows.planeMemorySpec.vars = true := by kernel_rfl
theorem jMe_st : (Rows.planeMemoryRow.stops == []) = true := by kernel_rfl
theorem jMe_kn : (Rows.planeMemoryRow.knobs == []) = true := by kernel_rfl
theorem jMe_inp : (Rows.planeMemoryRow.inPlace == Tryz.prog.inPlace 26) = true := by kernel_rfl
theorem jMe_unf : (Rows.planeMemoryRow.unfollowed == Tryz.prog.unfollowed 26) = true := by kernel_rfl
theorem jMe_rec : (Rows.planeMemoryRow.recurses == Tryz.prog.recurses 26) = true := by kernel_rfl
theorem jMe_nam : (Rows.planeMemoryRow.named == Tryz.prog.varsNamed 26) = true := by kernel_rfl
theorem jMe_maps : (Rows.planeMemoryRow.maps == (Tryz.f26.params.toList ++ Rows.planeMemorySpec.plain.varTypes Tryz.prog).any (Tryz.prog.mapsRec ·)) = true := by kernel_rfl
theorem jMe_ifs : (Rows.planeMemoryRow.ifaces == (Tryz.f26.params.toList ++ Rows.planeMemorySpec.plain.varTypes Tryz.prog).any (Tryz.prog.ifacesRec ·)) = true := by kernel_rfl
theorem jMe_mout : (Rows.planeMemoryRow.mapsOut == Tryz.prog.mapsAmong Tryz.f26.resultTypes.toList) = true := by kernel_rfl
theorem jMe_loops : (Rows.planeMemoryRow.loops == (Tryz.f26.params.toList ++ Rows.planeMemorySpec.plain.varTypes Tryz.prog).any (Tryz.prog.loopsFrom ·)) = true := by kernel_rfl
theorem jMe_wide : (Rows.planeMemoryRow.wideKeys == (Tryz.f26.params.toList ++ Rows.planeMemorySpec.plain.varTypes Tryz.prog ++ Tryz.f26.resultTypes.toList).any (Tryz.prog.wideKeysFrom ·)) = true := by kernel_rfl
theorem jMe_vars : Rows.planeMemorySpec.vars.all (Tryz.prog.varReadable ·) = true := by kernel_rfl
theorem jMe_res : Tryz.f26.resultTypes.all (fun t => Tryz.prog.readableRec t && decide (t < Tryz.prog.types.size)) = true := by kernel_rfl
theorem jMe_iout : (Rows.planeMemoryRow.ifacesOut == Tryz.f26.resultTypes.toList.any (Tryz.prog.ifacesRec ·)) = true := by kernel_rfl
theorem jMe_lout : (Rows.planeMemoryRow.loopsOut == Tryz.f26.resultTypes.toList.any (Tryz.prog.loopsFrom ·)) = true := by kernel_rfl
theorem jMe_plain : (Rows.planeMemoryRow.plainKeys == Tryz.prog.plainKeys) = true := by kernel_rfl
theorem jMe_short : Rows.planeMemoryRow.shortTexts.isNone = true := by kernel_rfl
theorem jMe_lift0 : (Rows.planeMemoryRow.lifted == false) = true := by kernel_rfl
theorem jMe_lift : (Rows.planeMemoryRow.lifted == Tryz.prog.liftsFinal) = true := (congrArg (fun b => (Rows.planeMemoryRow.lifted == b)) lift_is).trans jMe_lift0
theorem jMe_make0 : (some Make.cut == some Rows.planeMemoryRow.make) = true := by kernel_rfl
theorem jMe_make : (Tryz.prog.make == some Rows.planeMemoryRow.make) = true := (congrArg (fun b => (b == some Rows.planeMemoryRow.make)) make_is).trans jMe_make0
theorem jMe_kinds : (Rows.planeMemoryRow.kinds == (if Rows.planeMemoryRow.domain.isEmpty then [] else Tryz.f26.params.toList.map fun t => match Tryz.prog.underlying t with | some (.int k) => some k | _ => none)) = true := by kernel_rfl
theorem jMe_pin : (Rows.planeMemoryRow.pinned == Rows.planeMemoryRow.pinnedBy) = true := by kernel_rfl
theorem jMe_veil : (Rows.planeMemoryRow.veiled == (Tryz.f26.params.toList ++ Rows.planeMemorySpec.plain.varTypes Tryz.prog ++ Tryz.f26.resultTypes.toList).any (Tryz.prog.veiledRec ·)) = true := by kernel_rfl
theorem jMe_vfit : Rows.planeMemoryRow.veiledFits Tryz.prog Tryz.f26.params.toList (Tryz.f26.params.toList ++ Rows.planeMemorySpec.plain.varTypes Tryz.prog ++ Tryz.f26.resultTypes.toList) = true := by kernel_rfl
theorem jMe_closed : joinedFacts Tryz.prog 26 Tryz.f26 Rows.planeMemorySpec Rows.planeMemoryRow = true := (b_and (b_and (b_and (b_and (b_and (b_and (b_and (b_and (b_and (b_and (b_and (b_and (b_and (b_and (b_and (b_and (b_and (b_and (b_and (b_and (b_and (b_and (b_and (b_and (b_and (b_and (b_and (b_and (b_and (b_and (b_and jMe_wf jp_laid) jp_rowed) jMe_par) jMe_tie) jMe_st) jp_stops) jMe_kn) jp_knobs) jMe_inp) jMe_unf) jMe_rec) jMe_nam) jMe_maps) jMe_ifs) jMe_mout) jMe_loops) jMe_wide) jMe_vars) jMe_res) jMe_iout) jMe_lout) jMe_plain) jMe_short) jp_heard) jp_enter) jMe_lift) jMe_make) jMe_kinds) jMe_pin) jMe_veil) jMe_vfit)
theorem jMe_name : Tryz.prog.funcNamed Rows.planeMemoryRow.func = some 26 := by kernel_rfl
theorem jMe_inst : Tryz.f26.isInstance Tryz.prog Rows.planeMemoryRow.origin Rows.planeMemoryRow.targs := of_decide_eq_true (by kernel_rfl)
theorem jMe_wrap : Tryz.f26.isWrapper Tryz.prog Rows.planeMemoryRow.wrapper Rows.planeMemoryRow.mainSum := by unfold Func.isWrapper; rw [if_neg (by decide +kernel)]; exact ⟨rfl, rfl⟩

set_option maxHeartbeats 2000000 in
theorem jMe_lifted (os : Os) (started : os.Started) (H : Type) (enc : TypeId × Value → H) :
    ReturnsInHanded {} Tryz.checked os 26 .any (Rows.planeMemorySpec.pre6 enc Tryz.prog Tryz.f26 Rows.planeMemoryRow.domain false) (Rows.planeMemorySpec.post enc Tryz.prog Tryz.f26 false true false false) := by
  refine returnsInHanded_of_change (C := Tryz.checked) own_knob started (by kernel_rfl) Tryz.func26
    (ChangeSpec.witness6 (enc := enc) (C := Tryz.checked) false ⟨#[], #[.slice none 0 0, .slice none 0 0], []⟩ 8 (by kernel_rfl) (by kernel_rfl) (by kernel_rfl) (by kernel_rfl)) ?_
  intro W base args ds gs before hval0 hW hcnd _
  have hval : ∀ (j : Nat) t v, Tryz.f26.params[j]? = some t → args[j]? = some v → Value.okWide Tryz.prog W .any base t v := hval0
  have hW' := hW
  obtain ⟨p, q, hA0, hV, rfl, hfz, hnd⟩ := hW
  have hA : DataW.TrodAll enc Tryz.prog W 0 (fun _ => true) true Tryz.f26.params.toList args.toList ds p := hA0
  rw [Tryz.params26] at hA hval
  obtain ⟨v0, vs0, d0, ds0, p0, q0, hargs, rfl, rfl, h0, r0⟩ := trodAll_cons hA
  obtain ⟨v1, vs1, d1, ds1, p1, q1, rfl, rfl, rfl, h1, r1⟩ := trodAll_cons r0
  obtain ⟨rfl, rfl, rfl⟩ := trodAll_nil r1
  obtain rfl : args = #[v0, v1] := by cases args; simp_all
  obtain ⟨rfl, rfl⟩ := trodVars_none hV
  have hlt : ∀ x ∈ p0 ++ p1, x.block < W.heap.size := fun x hx => hW'.lt x (by simpa using hx)
  have g0 := h0
  obtain ⟨av0, n0, cap0, l0, rfl, hl0, hp0⟩ := open_pts (hval 0 40 v0 rfl rfl) h0
  have g1 := h1
  obtain ⟨av1, n1, cap1, l1, rfl, hl1, hp1⟩ := open_segs (hval 1 58 v1 rfl rfl) h1
  clear hA0 hval0 hval
  refine (planeMemory_all W av0 n0 cap0 l0 hl0 hp0 av1 n1 cap1 l1 hl1 hp1).mono fun e W' ⟨he, hg⟩ => ?_
  subst he
  have t1 := Below.trod laidOut (by kernel_rfl) (of_decide_eq_true (by kernel_rfl)) g1 hg.below (fun x hx => hlt x (by simp [hx]))
  have t0 := Below.trod laidOut (by kernel_rfl) (of_decide_eq_true (by kernel_rfl)) g0 hg.below (fun x hx => hlt x (by simp [hx]))
  exact ⟨_, rfl, _, _, _, _, _, _, hW', trodAll_cons_mk (shut_bool Tryz.underlying4 _) trodAll_mk0, trodAll_cons_mk t0 (trodAll_cons_mk t1 trodAll_mk0), rfl, hg.below.frame _, fun h => by cases h⟩

/-- PlaneMemory, as it is given -/
theorem planeMemory_proved : Rows.PlaneMemorySaid :=
  OpenClaim.holds_of_wide 26 Tryz.f26 rfl rfl rfl rfl rfl rfl rfl ⟨rfl, rfl, rfl, rfl, rfl⟩ rfl rfl rfl rfl rfl jMe_name Tryz.func26 jMe_closed jMe_inst jMe_wrap
    (fun os started H enc _ => jMe_lifted os started H enc)

end Go.Proofs.YtpdfbboagaflhaaGreat
