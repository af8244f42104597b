/- PlaneSwept returns true for every input, and its arguments read afterwards as before: the given statement, without a condition. -/
import Derived.Test.YtpdfbboagaflhaaGreatS44
import Derived.Test.YtpdfbboagaflhaaGreatS43
import Derived.Test.YtpdfbboagaflhaaGreatS41
import Derived.Deep.Slices
import Derived.Deep.Strs
import Derived.SizedLaws
import Derived.Test.YtpdfbboagaflhaaGreatRows
import Derived.ProofKit
import Derived.OpenShut
import Derived.Lib.SmallJoins
import Derived.Carry

set_option linter.unusedSimpArgs false
set_option linter.unusedVariables false
set_option maxRecDepth 100000
namespace Go.Proofs.YtpdfbboagaflhaaGreat
open Go.RowKit Go.Shelf

/-- strips and their segments, counted as the machine counts -/
def thinW (C : List SV) : Nat → Int
  | 0 => C.length
  | k + 1 => wrap64 (thinW C k + (sL C k).length)
set_option maxHeartbeats 8000000 in
theorem thin_c (cv : Option Addr) (N cc : Nat) (C : List SV) (w : World) (hN : N ≤ 17592186044415) (hCn : C.length = N) (hC : 0 < N → ∃ cb co, cv = some ⟨cb, co, none⟩ ∧ Strps w cb co N C) :
    Calls Tryz.prog 69 #[.slice cv N cc] w fun e w' => e = .returned (.bool (decide (thinW C N ≤ 4000))) ∧ New w w' := by
  have HC := Lib.hid hC
  have HS := Lib.hid (show ∀ k, thinW C (k + 1) = wrap64 (thinW C k + (sL C k).length) from fun _ => rfl)
  have H0 := Lib.hid (show thinW C 0 = N by rw [← hCn]; rfl)
  generalize thinW C = T at *
  clear hC
  go_enter Tryz.func69, Tryz.ntmps69
  go_wp2_with fail
  go_loopw [3, 10] (fun s i wr => ∃ k : Nat, k ≤ N ∧ i = .int .i64 k ∧ s = .int .i64 (T k) ∧ New w wr) (fun _ i _ => N - (intOf i).toNat)
  case atStart => exact ⟨0, Nat.zero_le _, rfl, by rw [H0.out], New.refl _⟩
  case round =>
    obtain ⟨k, hk, rfl, rfl, hnew⟩ := hrel
    have HNEW := Lib.hid hnew
    clear hnew
    by_cases hlt : k < N
    · obtain ⟨cb, co, rfl, hst⟩ := HC.out (by omega)
      obtain ⟨_, hcb, hcc⟩ := hst.new HNEW.out
      obtain ⟨v, ⟨x1, x2⟩, x3, av, c2, rfl, _⟩ := hcc k hlt
      have hk1 : (k : Int) < (N : Int) := by omega
      have HSK := Lib.hid (HS.out k)
      clear hcc hst
      generalize sF C k = F at *
      generalize sT C k = T1 at *
      generalize (sL C k).length = q at *
      go_wp2_with fail
      go_roundw
      case rel => exact ⟨k + 1, by omega, by go_num, by rw [HSK.out], (by (repeat (first | exact HNEW.out | exact New.refl _ | apply New.alloc | apply New.aft | apply New.drew | refine New.setCell ?_ ?_ _)); all_goals (first | done | (simp [size_aft]; done) | (simp [size_aft]; omega)))⟩
      case measure => simp [intOf]; omega
    · obtain rfl : k = N := by omega
      go_wp2_with fail
      go_ret
      exact ⟨rfl, HNEW.out⟩

theorem checkSweep_c (b off n cp N cc : Nat) (cv : Option Addr) (l : List S4) (C : List SV) (w : World) (h0 : 0 < n) (hl : n ≤ 1000000) (hw : Segs w b off n l) (hCn : C.length = N) (hN : N ≤ 17592186044415) (hC : 0 < N → ∃ cb co, cv = some ⟨cb, co, none⟩ ∧ Strps w cb co N C) (hlen : ∀ i, i < N → (sL C i).length ≤ 17592186044415) (r : Bool) (hr : r = true ↔ ChkOk l C) :
    Calls Tryz.prog 73 #[.slice (some ⟨b, off, none⟩) n cp, .slice cv N cc] w fun e w' => e = .returned (.bool r) ∧ New w w' := by
  have hn := hw.1
  by_cases hck : ckSegs l = 0
  · have hl4 : n ≤ 400 := by
      unfold ckSegs at hck
      split at hck
      · cases hck
      · omega
    have hCat : ∀ w1, New w w1 → 0 < N → ∃ cb co, cv = some ⟨cb, co, none⟩ ∧ Strps w1 cb co N C := fun w1 h1 g => by
      obtain ⟨cb, co, e1, e2⟩ := hC g
      exact ⟨cb, co, e1, e2.new h1⟩
    have hiff : StripsAre l C ↔ N = (endXsL l).length - 1 ∧ ∀ j, j < N → mtS l C j := ⟨fun h => ⟨by rw [← hCn]; exact h.len, fun j hj => h.mt j (by omega)⟩, fun h => ⟨by rw [hCn]; exact h.1, fun j hj => h.2 j (by omega)⟩⟩
    rcases Classical.em (StripsAre l C) with hS | hS
    · exact checkSweep_go b off n cp N cc cv l C w h0 hw hCn (by have h1 := hS.len; have h2 := endXsL_le l; omega) hC hck hS r hr (Lib.hid (fun w1 h1 => sameStrips_c b off n cp N cc cv l C w1 h0 hl4 (hw.new h1) hCn hN (hCat w1 h1) hlen true ⟨fun _ => hiff.1 hS, fun _ => rfl⟩))
    · have hrf : r = false := by
        cases hh : r
        · rfl
        · exact absurd (hr.1 hh).are hS
      rw [hrf]
      exact checkSweep_bad _ cv n cp N cc w (Lib.hid (fun w1 h1 => by have := checkSegs_c b off n cp l w1 (by omega) (hw.new h1); rwa [hck] at this)) (Lib.hid (fun w1 h1 => sameStrips_c b off n cp N cc cv l C w1 h0 hl4 (hw.new h1) hCn hN (hCat w1 h1) hlen false ⟨fun e => (by cases e), fun h => absurd (hiff.2 h) hS⟩))
  · have hrf : r = false := by
      cases hh : r
      · rfl
      · exact absurd (hr.1 hh).segs hck
    rw [hrf]
    exact checkSweep_no _ cv n cp N cc (ckSegs l) w hck (Lib.hid (fun w1 h1 => checkSegs_c b off n cp l w1 (by omega) (hw.new h1)))

end Go.Proofs.YtpdfbboagaflhaaGreat

set_option linter.unusedSimpArgs false
set_option linter.unusedVariables false
set_option maxRecDepth 100000
namespace Go.Proofs.YtpdfbboagaflhaaGreat
open Go.RowKit Go.Shelf

set_option maxHeartbeats 1000000 in
theorem checkSegs_nil (v : Option Addr) (c : Nat) (w : World) : Calls Tryz.prog 135 #[.slice v 0 c] w fun en w' => en = .returned (.int .i64 0) ∧ New w w' := by
  go_enter Tryz.func135, Tryz.ntmps135
  go_wp2_with fail
  refine wp_loop_rounds 1 ?_
  repeat any_goals (rw [rounds_succ]; go_wp2)
  go_ret; exact ⟨rfl, New.refl _⟩
set_option maxHeartbeats 1000000 in
theorem crossing_none (v : Option Addr) (c : Nat) (w : World) : Calls Tryz.prog 64 #[.slice v 0 c] w fun en w' => en = .returned (.tuple #[.int .i64 0, .int .i64 0, .bool false, .int .i64 0]) ∧ New w w' := by
  have HC := Lib.hid (fun w1 : World => checkSegs_nil v c w1)
  go_enter Tryz.func64, Tryz.ntmps64
  go_wp2_with (go_at_call 135; refine (HC.out _).mono ?_; rintro e w1 ⟨rfl, pw, rfl⟩)
  refine wp_loop_rounds 1 ?_
  repeat any_goals (rw [rounds_succ]; go_wp2)
  refine bodyPost_ret (v := .tuple #[.int .i64 0, .int .i64 0, .bool false, .int .i64 0]) (by simp [results, Tryz.results64, go_sem]) rfl ⟨rfl, ?_⟩; exact (by (repeat (first | exact New.refl _ | apply New.alloc | apply New.aft | apply New.drew | refine New.setCell ?_ ?_ _)); all_goals (first | done | (simp [size_aft]; done) | (simp [size_aft]; omega)))
set_option maxHeartbeats 2000000 in
theorem checkApart_none (v : Option Addr) (c : Nat) (w : World) : Calls Tryz.prog 137 #[.slice v 0 c] w fun en w' => en = .returned (.int .i64 0) ∧ New w w' := by
  have HC := Lib.hid (crossing_none v c)
  go_enter Tryz.func137, Tryz.ntmps137
  go_wp2_with (go_at_call 64; refine (HC.out _).mono ?_; rintro e w1 ⟨rfl, hn⟩; have HN1 := Lib.hid hn; clear hn)
  go_ret; exact ⟨rfl, HN1.out⟩
set_option maxHeartbeats 2000000 in
theorem compactI_nil (v : Option Addr) (c : Nat) (w : World) : Calls Tryz.prog 212 #[.slice v 0 c] w fun en w' => en = .returned (.slice v 0 c) ∧ New w w' := by
  go_enter Tryz.func212, Tryz.ntmps212
  go_wp2_with fail
  go_ret; exact ⟨rfl, New.refl _⟩
set_option maxHeartbeats 4000000 in
theorem endXs_nil (v : Option Addr) (c : Nat) (w : World) : Calls Tryz.prog 180 #[.slice v 0 c] w fun en w' => ∃ a c', en = .returned (.slice a 0 c') ∧ New w w' := by
  obtain ⟨i0, hi, hz0, hz1, hz2⟩ := info_parts info3
  have hmk : ∀ w : World, (Instr.makeSlice 82 (.int .i64 0) (.int .i64 0)).run Tryz.prog w = .ok (.slice (some ⟨w.heap.size, 0, none⟩) 0 0) (w.alloc (.cells (madeCells (.int .i64 0 : Value).cells (0 * 1)) 3)) := by
    intro w
    have := run_make (P := Tryz.prog) w 82 3 i0 _ Tryz.underlying82 hi hz0 .i64 .i64 0 0 (by omega) (by omega) (by rw [hz2]; omega) (by omega)
    rw [hz1] at this
    simpa using this
  have HS := Lib.hid (fun (a : Option Addr) (c : Nat) (w1 : World) => sortI_nil a c w1)
  have HP := Lib.hid (fun (a : Option Addr) (c : Nat) (w1 : World) => compactI_nil a c w1)
  go_enter Tryz.func180, Tryz.ntmps180
  go_wp2_with fail
  go_loopw [3, 12] (fun s i wr => (i = .int .i64 0 ∧ s = .slice (some ⟨w.heap.size, 0, none⟩) 0 0) ∧ New w wr) (fun _ _ _ => 0)
  case atStart => exact ⟨⟨rfl, rfl⟩, (New.refl _).alloc _⟩
  case round =>
    obtain ⟨⟨rfl, rfl⟩, hn⟩ := hrel
    have HN := Lib.hid hn
    clear hn
    go_wp2_with (first | (go_at_call 211; refine (HS.out _ _ _).mono ?_; rintro e w1 ⟨rfl, hn⟩; have HN1 := Lib.hid (HN.out.trans hn); clear hn) | (go_at_call 212; refine (HP.out _ _ _).mono ?_; rintro e w2 ⟨rfl, hn⟩; have HN2 := Lib.hid (HN1.out.trans hn); clear hn))
    go_ret
    exact ⟨_, _, rfl, HN2.out⟩
set_option maxHeartbeats 4000000 in
theorem strips0 (fv : Value) (Bs cp : Nat) (v : Option Addr) (W : World) (hB : W.cell? ⟨Bs, 0, none⟩ = some (.slice v 0 cp)) : Calls Tryz.prog 179 #[fv, .pointer (some ⟨Bs, 0, none⟩)] W fun e W' => e = .returned (.tuple #[]) ∧ New W W' := by
  have HE := Lib.hid (fun w1 : World => endXs_nil v cp w1)
  go_enter Tryz.func179, Tryz.ntmps179
  go_wp2_with (go_at_call 180; refine (HE.out _).mono ?_; rintro e w1 ⟨a, c2, rfl, hn⟩; have HN := Lib.hid hn; clear hn)
  go_loopw [4] (fun i wr => i = .int .i64 1 ∧ New W wr) (fun _ _ => 0)
  case atStart => exact ⟨rfl, HN.out⟩
  case round =>
    obtain ⟨rfl, hn⟩ := hrel
    have HN2 := Lib.hid hn
    clear hn
    go_wp2_with fail
    exact bodyPost_end (results_none rfl _ _ _) rfl ⟨rfl, HN2.out⟩

set_option maxHeartbeats 4000000 in
theorem sweep_err (A : Option Addr) (n cp : Nat) (K : Int) (w : World) (hK : K ≠ 0)
    (HC : Hid (∀ w1 : World, New w w1 → Calls Tryz.prog 137 #[.slice A n cp] w1 fun en w' => en = .returned (.int .i64 K) ∧ New w1 w')) :
    Calls Tryz.prog 70 #[.slice A n cp] w fun en w' => en = .returned (.tuple #[.slice none 0 0, .int .i64 K]) ∧ New w w' := by
  have z1 : (K == 0) = false := by simpa using hK
  have z2 : (K != 0) = true := by simpa using hK
  have HCC := Lib.hid (fun (w1 : World) (h1 : New w w1) => (callsIn_wide (n := 4)).2 (HC.out w1 h1))
  refine (callsIn_wide (n := 5)).1 ?_
  refine callsIn_of_wp_marks Tryz.func70 rfl trivial ?_ rfl
  simp only [Tryz.ntmps70, List.size_toArray, List.length_cons, List.length_nil, Nat.reduceAdd, Nat.reduceSub, Array.replicate_succ, Array.replicate_zero, List.push_toArray, List.append_toArray, List.nil_append, List.cons_append]
  gi_wp2
  refine ⟨trivial, ?_⟩
  gi_at_call 137
  refine (HCC.out _ ((New.refl _).alloc _)).mono ?_
  rintro e w1 ⟨rfl, hn1⟩
  have HN1 := Lib.hid (show New w w1 from ((New.refl _).alloc _).trans hn1)
  clear hn1
  gi_wp2
  refine ⟨_, results_tmp2 rfl _ _ _, ?_⟩
  exact ⟨rfl, HN1.out⟩

end Go.Proofs.YtpdfbboagaflhaaGreat

set_option linter.unusedSimpArgs false
set_option linter.unusedVariables false
set_option maxRecDepth 100000
namespace Go.Proofs.YtpdfbboagaflhaaGreat
open Go.RowKit Go.Shelf

attribute [local go_sem] Oper.semAt_some

set_option maxHeartbeats 8000000 in
theorem sweep_nil (A : Option Addr) (cp : Nat) (w : World) :
    Calls Tryz.prog 70 #[.slice A 0 cp] w fun en w' => en = .returned (.tuple #[.slice none 0 0, .int .i64 0]) ∧ New w w' := by
  have HCC := Lib.hid (fun (w1 : World) => (callsIn_wide (n := 4)).2 (checkApart_none A cp w1))
  have HST := Lib.hid (fun (w1 : World) => (callsIn_wide (n := 4)).2 (strips_c A 0 cp w1))
  refine (callsIn_wide (n := 5)).1 ?_
  refine callsIn_of_wp_marks Tryz.func70 rfl trivial ?_ rfl
  simp only [Tryz.ntmps70, List.size_toArray, List.length_cons, List.length_nil, Nat.reduceAdd, Nat.reduceSub, Array.replicate_succ, Array.replicate_zero, List.push_toArray, List.append_toArray, List.nil_append, List.cons_append]
  gi_wp2
  refine ⟨trivial, ?_⟩
  gi_at_call 137
  refine (HCC.out _).mono ?_
  rintro e w1 ⟨rfl, hn1⟩
  have HN1 := Lib.hid (show New w w1 from ((New.refl _).alloc _).trans hn1)
  have hbx : w1.cell? ⟨w.heap.size, 0, none⟩ = some (.slice A 0 cp) := (hn1.below.cell (p := ⟨w.heap.size, 0, none⟩) (by simp)).trans (by simp [go_sem])
  have hsz1 := hn1.size
  simp only [World.size_alloc] at hsz1
  have hwl : w.heap.size < w1.heap.size := by omega
  clear hn1
  gi_wp2
  refine ⟨trivial, ?_⟩
  gi_at_call 143
  refine (HST.out _).mono ?_
  rintro e w2 ⟨rfl, rfl⟩
  gi_wp2
  obtain ⟨WS, HWS⟩ : ∃ WS : World, Hid (WS = (w1.alloc (.cells #[.slice none 0 0] 65)).alloc (.cells #[.slice A 0 cp] 58)) := ⟨_, Lib.hid rfl⟩
  rw [← HWS.out]
  have hss : WS.heap.size = w1.heap.size + 2 := by rw [HWS.out]; simp
  have hss1 : w1.heap.size + 2 ≤ WS.heap.size := by omega
  have hss2 : WS.heap.size ≤ w1.heap.size + 2 := by omega
  clear hss
  have HNS := Lib.hid (show New w WS by rw [HWS.out]; exact (HN1.out.alloc _).alloc _)
  have HOB := Lib.hid (show WS.heap[w1.heap.size]? = some (.cells #[.slice none 0 0] 65 (0, 0)) by rw [HWS.out]; exact (Below.heap_alloc _ _ _ (by simp)).trans (World.alloc_heap_new w1 _))
  have HBB := Lib.hid (show WS.heap[w1.heap.size + 1]? = some (.cells #[.slice A 0 cp] 58 (0, 0)) by rw [HWS.out]; have := World.alloc_heap_new (w1.alloc (.cells #[.slice none 0 0] 65)) (.cells #[.slice A 0 cp] 58); rwa [World.size_alloc] at this)
  refine range_whole (n := 5) rfl (fun _ => trivial) (by omega) (gf := 179) (lb := #[.pointer (some ⟨w1.heap.size + 1, 0, none⟩)]) rfl (enters_of Tryz.func179 (by kernel_rfl) rfl)
    (fun W => New w W ∧ W.heap[w1.heap.size]? = some (.cells #[.slice none 0 0] 65 (0, 0)) ∧ W.heap[WS.heap.size]? = some (.deferred (some []))) ?hit ?hdone
  case hit =>
    intro fn W1 hW1
    have HNW1 := Lib.hid (show New WS W1 by rw [hW1]; exact ((New.refl _).alloc _).alloc _)
    have HDF := Lib.hid (show W1.heap[WS.heap.size]? = some (.deferred (some [])) by rw [hW1]; exact (Below.heap_alloc _ _ _ (by simp)).trans (World.alloc_heap_new WS _))
    have HRC := Lib.hid (alloc2_new hW1)
    have hD1 : W1.heap.size = WS.heap.size + 2 := by rw [hW1]; simp
    have hold : ∀ (X Y : World) (h : New X Y) (k : Nat), k < X.heap.size → Y.heap[k]? = X.heap[k]? := fun X Y h k hk => h.below.block k hk
    have hb : W1.cell? ⟨w1.heap.size + 1, 0, none⟩ = some (.slice A 0 cp) := by
      have h1 : W1.heap[w1.heap.size + 1]? = some (.cells #[.slice A 0 cp] 58 (0, 0)) := (hold _ _ HNW1.out _ (by omega)).trans HBB.out
      simp [World.cell?, h1]
    have h3 := (callsIn_wide (n := 4)).2 (strips0 (.func (.yield (WS.heap.size + 1)) #[] #[]) (w1.heap.size + 1) cp A W1 hb)
    refine h3.mono ?_
    rintro e W' ⟨rfl, hn⟩
    refine ⟨⟨_, rfl⟩, ⟨HNS.out.trans (HNW1.out.trans hn), ?_, ?_⟩, ?_⟩
    · exact (hold _ _ hn _ (by omega)).trans ((hold _ _ HNW1.out _ (by omega)).trans HOB.out)
    · exact (hold _ _ hn _ (by omega)).trans HDF.out
    · exact (hold _ _ hn _ (by omega)).trans HRC.out
  case hdone =>
    rintro W o ⟨hnw, hbx2, hdf⟩
    obtain ⟨Wf, HWf⟩ : ∃ Wf, Hid (Wf = W.putObj (WS.heap.size + 1) o) := ⟨_, Lib.hid rfl⟩
    rw [← HWf.out]
    have hsn := HNS.out.size
    have hbf : Wf.heap[w1.heap.size]? = some (.cells #[.slice none 0 0] 65 (0, 0)) := by rw [HWf.out, putObj_heap _ _ _ _ (by omega)]; exact hbx2
    have hcell : Wf.cell? ⟨w1.heap.size, 0, none⟩ = some (.slice none 0 0) := by simp [World.cell?, hbf]
    have HDF := Lib.hid (show Wf.heap[WS.heap.size]? = some (.deferred (some [])) by rw [HWf.out, putObj_heap _ _ _ _ (by omega)]; exact hdf)
    have HNW := Lib.hid (show New w Wf by rw [HWf.out]; exact new_putObj hnw _ (by omega))
    clear hnw hbx2 hdf hbf
    gi_wp2
    refine ⟨by simp, .inl ⟨_, _, rfl, run_takeDeferred HDF.out, ?_⟩⟩
    refine ⟨_, results_tmp2 rfl _ _ _, ?_⟩
    exact ⟨rfl, new_putObj HNW.out _ hsn⟩

set_option maxHeartbeats 8000000 in
theorem sameStrips_nil (A cv : Option Addr) (cp N cc : Nat) (w : World) :
    Calls Tryz.prog 150 #[.slice A 0 cp, .slice cv N cc] w fun e w' => e = .returned (.bool (decide (N = 0))) ∧ New w w' := by
  have HST := Lib.hid (fun (w1 : World) => (callsIn_wide (n := 4)).2 (strips_c A 0 cp w1))
  refine (callsIn_wide (n := 5)).1 ?_
  refine callsIn_of_wp_marks Tryz.func150 rfl trivial ?_ rfl
  simp only [Tryz.ntmps150, List.size_toArray, List.length_cons, List.length_nil, Nat.reduceAdd, Nat.reduceSub, Array.replicate_succ, Array.replicate_zero, List.push_toArray, List.append_toArray, List.nil_append, List.cons_append]
  gi_wp2
  refine ⟨trivial, ?_⟩
  gi_at_call 143
  refine (HST.out _).mono ?_
  rintro e w2 ⟨rfl, rfl⟩
  gi_wp2
  obtain ⟨WS, HWS⟩ : ∃ WS : World, Hid (WS = (((w.alloc (.cells #[.slice cv N cc] 65)).alloc (.cells #[.bool false] 4)).alloc (.cells #[.int .i64 0] 3)).alloc (.cells #[.slice A 0 cp] 58)) := ⟨_, Lib.hid rfl⟩
  rw [← HWS.out]
  have hss : WS.heap.size = w.heap.size + 4 := by rw [HWS.out]; simp
  have hss1 : w.heap.size + 4 ≤ WS.heap.size := by omega
  have hss2 : WS.heap.size ≤ w.heap.size + 4 := by omega
  clear hss
  have HNS := Lib.hid (show New w WS by rw [HWS.out]; exact ((((New.refl _).alloc _).alloc _).alloc _).alloc _)
  have HB4 := Lib.hid (show WS.heap[w.heap.size]? = some (.cells #[.slice cv N cc] 65 (0, 0)) ∧ WS.heap[w.heap.size + 1]? = some (.cells #[.bool false] 4 (0, 0)) ∧ WS.heap[w.heap.size + 2]? = some (.cells #[.int .i64 0] 3 (0, 0)) ∧ WS.heap[w.heap.size + 3]? = some (.cells #[.slice A 0 cp] 58 (0, 0)) by
    rw [HWS.out]
    have a1 := World.alloc_heap_new w (.cells #[.slice cv N cc] 65)
    have a2 := World.alloc_heap_new (w.alloc (.cells #[.slice cv N cc] 65)) (.cells #[.bool false] 4)
    have a3 := World.alloc_heap_new ((w.alloc (.cells #[.slice cv N cc] 65)).alloc (.cells #[.bool false] 4)) (.cells #[.int .i64 0] 3)
    have a4 := World.alloc_heap_new (((w.alloc (.cells #[.slice cv N cc] 65)).alloc (.cells #[.bool false] 4)).alloc (.cells #[.int .i64 0] 3)) (.cells #[.slice A 0 cp] 58)
    simp only [World.size_alloc] at a2 a3 a4
    refine ⟨?_, ?_, ?_, a4⟩
    · exact (Below.heap_alloc _ _ _ (by simp only [World.size_alloc]; omega)).trans ((Below.heap_alloc _ _ _ (by simp only [World.size_alloc]; omega)).trans ((Below.heap_alloc _ _ _ (by simp only [World.size_alloc]; omega)).trans a1))
    · exact (Below.heap_alloc _ _ _ (by simp only [World.size_alloc]; omega)).trans ((Below.heap_alloc _ _ _ (by simp only [World.size_alloc]; omega)).trans a2)
    · exact (Below.heap_alloc _ _ _ (by simp only [World.size_alloc]; omega)).trans a3)
  obtain ⟨b0, b1, b2, b3⟩ := HB4.out
  refine range_whole2 (n := 5) rfl (fun _ => trivial) (by omega) (gf := 179) (lb := #[.pointer (some ⟨w.heap.size + 3, 0, none⟩)]) rfl (enters_of Tryz.func179 (by kernel_rfl) rfl)
    (fun W => New w W ∧ (W.heap[w.heap.size]? = some (.cells #[.slice cv N cc] 65 (0, 0)) ∧ W.heap[w.heap.size + 1]? = some (.cells #[.bool false] 4 (0, 0)) ∧ W.heap[w.heap.size + 2]? = some (.cells #[.int .i64 0] 3 (0, 0))) ∧ W.heap[WS.heap.size]? = some (.deferred (some []))) (fun _ => False) ?hit ?hdone (fun _ _ h => h.elim)
  case hit =>
    intro fn W1 hW1
    have HNW1 := Lib.hid (show New WS W1 by rw [hW1]; exact ((New.refl _).alloc _).alloc _)
    have HDF := Lib.hid (show W1.heap[WS.heap.size]? = some (.deferred (some [])) by rw [hW1]; exact (Below.heap_alloc _ _ _ (by simp)).trans (World.alloc_heap_new WS _))
    have HRC := Lib.hid (alloc2_new hW1)
    have hD1 : W1.heap.size = WS.heap.size + 2 := by rw [hW1]; simp
    have hold : ∀ (X Y : World) (h : New X Y) (k : Nat), k < X.heap.size → Y.heap[k]? = X.heap[k]? := fun X Y h k hk => h.below.block k hk
    have hb : W1.cell? ⟨w.heap.size + 3, 0, none⟩ = some (.slice A 0 cp) := by
      have h1 : W1.heap[w.heap.size + 3]? = some (.cells #[.slice A 0 cp] 58 (0, 0)) := (hold _ _ HNW1.out _ (by omega)).trans b3
      simp [World.cell?, h1]
    have h3 := (callsIn_wide (n := 4)).2 (strips0 (.func (.yield (WS.heap.size + 1)) #[] #[]) (w.heap.size + 3) cp A W1 hb)
    refine h3.mono ?_
    rintro e W' ⟨rfl, hn⟩
    have e2 : ∀ k, k < WS.heap.size → W'.heap[k]? = WS.heap[k]? := fun k hk => (hold _ _ hn _ (by omega)).trans (hold _ _ HNW1.out _ hk)
    refine ⟨⟨_, rfl⟩, .inl ⟨⟨HNS.out.trans (HNW1.out.trans hn), ⟨(e2 _ (by omega)).trans b0, (e2 _ (by omega)).trans b1, (e2 _ (by omega)).trans b2⟩, ?_⟩, ?_⟩⟩
    · exact (hold _ _ hn _ (by omega)).trans HDF.out
    · exact (hold _ _ hn _ (by omega)).trans HRC.out
  case hdone =>
    rintro W o ⟨hnw, ⟨g0, g1, g2⟩, hdf⟩
    obtain ⟨Wf, HWf⟩ : ∃ Wf, Hid (Wf = W.putObj (WS.heap.size + 1) o) := ⟨_, Lib.hid rfl⟩
    rw [← HWf.out]
    have hsn := HNS.out.size
    have hsw := hnw.size
    have hszf : WS.heap.size < Wf.heap.size := by rw [HWf.out, World.putObj_size]; exact (Array.getElem?_eq_some_iff.1 hdf).1
    have HDF := Lib.hid (show Wf.heap[WS.heap.size]? = some (.deferred (some [])) by rw [HWf.out, putObj_heap _ _ _ _ (by omega)]; exact hdf)
    have HNW := Lib.hid (show New w Wf by rw [HWf.out]; exact new_putObj hnw _ (by omega))
    have HG1 := Lib.hid (show Wf.heap[w.heap.size + 1]? = some (.cells #[.bool false] 4 (0, 0)) by rw [HWf.out, putObj_heap _ _ _ _ (by omega)]; exact g1)
    have cC : Wf.cell? ⟨w.heap.size, 0, none⟩ = some (.slice cv N cc) := by
      have h1 : Wf.heap[w.heap.size]? = some (.cells #[.slice cv N cc] 65 (0, 0)) := by rw [HWf.out, putObj_heap _ _ _ _ (by omega)]; exact g0
      simp [World.cell?, h1]
    have cR : Wf.cell? ⟨w.heap.size + 1, 0, none⟩ = some (.bool false) ∧ Wf.frozen? ⟨w.heap.size + 1, 0, none⟩ = false := by
      have h1 := HG1.out
      simp [World.cell?, World.frozen?, h1]
    have cI : Wf.cell? ⟨w.heap.size + 2, 0, none⟩ = some (.int .i64 0) := by
      have h1 : Wf.heap[w.heap.size + 2]? = some (.cells #[.int .i64 0] 3 (0, 0)) := by rw [HWf.out, putObj_heap _ _ _ _ (by omega)]; exact g2
      simp [World.cell?, h1]
    obtain ⟨cR1, cR2⟩ := cR
    have HRV := Lib.hid (show ((0 : Int) == (N : Int)) = decide (N = 0) by
      by_cases hq : N = 0
      · subst hq; rfl
      · rw [decide_eq_false hq]; simpa using (show ¬ (0 : Int) = N by omega))
    clear hnw g0 g1 g2 hdf b0 b1 b2 b3
    gi_wp2
    have HD2 := Lib.hid (show (Wf.setCell ⟨w.heap.size + 1, 0, none⟩ (.bool ((0 : Int) == (N : Int)))).heap[WS.heap.size]? = some (.deferred (some [])) from (heap_setCell_other _ _ _ _ _ (by omega)).trans HDF.out)
    have hcell : ((Wf.setCell ⟨w.heap.size + 1, 0, none⟩ (.bool ((0 : Int) == (N : Int)))).putObj WS.heap.size (.deferred none)).cell? ⟨w.heap.size + 1, 0, none⟩ = some (.bool ((0 : Int) == (N : Int))) := by
      have h1 : ((Wf.setCell ⟨w.heap.size + 1, 0, none⟩ (.bool ((0 : Int) == (N : Int)))).putObj WS.heap.size (.deferred none)).heap[w.heap.size + 1]? = some (.cells #[.bool ((0 : Int) == (N : Int))] 4 (0, 0)) := (putObj_heap _ _ _ _ (by omega)).trans (heap_setCell_same Wf _ 0 _ HG1.out)
      simp [World.cell?, h1]
    refine ⟨by simp, .inl ⟨_, _, rfl, run_takeDeferred HD2.out, ?_⟩⟩
    rw [HRV.out] at hcell ⊢
    refine ⟨.bool (decide (N = 0)), by simp [results, Tryz.results150, go_sem, hcell], rfl, new_putObj (HNW.out.setCell (by show w.heap.size ≤ w.heap.size + 1; omega) _) _ hsn⟩

end Go.Proofs.YtpdfbboagaflhaaGreat

set_option linter.unusedSimpArgs false
set_option linter.unusedVariables false
set_option maxRecDepth 100000
namespace Go.Proofs.YtpdfbboagaflhaaGreat
open Go.RowKit Go.Shelf

set_option maxHeartbeats 4000000 in
theorem verticals_nil (v : Option Addr) (c : Nat) (w : World) : Calls Tryz.prog 153 #[.slice v 0 c] w fun en w' => en = .returned (.slice none 0 0) ∧ New w w' := by
  have HSO := Lib.hid (sortS_none none 0)
  go_enter Tryz.func153, Tryz.ntmps153
  go_wp2_with fail
  go_loopw [3, 8] (fun s i wr => (i = .int .i64 0 ∧ s = .slice none 0 0) ∧ New w wr) (fun _ _ _ => 0)
  case atStart => exact ⟨⟨rfl, rfl⟩, New.refl _⟩
  case round =>
    obtain ⟨⟨rfl, rfl⟩, hn⟩ := hrel
    have HN := Lib.hid hn
    clear hn
    go_wp2_with (first | (go_at_call 138; refine (HSO.out _).mono ?_; rintro e w1 ⟨rfl, rfl⟩))
    go_ret
    exact ⟨rfl, HN.out⟩
set_option maxHeartbeats 8000000 in
theorem checkSweep_nil (A cv : Option Addr) (cp N cc : Nat) (w : World) :
    Calls Tryz.prog 73 #[.slice A 0 cp, .slice cv N cc] w fun e w' => e = .returned (.bool (decide (N = 0))) ∧ New w w' := by
  have HC := Lib.hid (fun w1 : World => checkSegs_nil A cp w1)
  have HS := Lib.hid (fun w1 : World => sameStrips_nil A cv cp N cc w1)
  by_cases h0 : N = 0
  · subst h0
    have HVE := Lib.hid (fun w1 : World => verticals_nil A cp w1)
    have HO := Lib.hid (fun w1 : World => overlapping_c none 0 0 [] w1 (by omega) rfl (fun h => by omega))
    rw [show ovB [] = false from rfl] at HO
    rw [show decide (0 = 0) = true from rfl] at HS ⊢
    go_enter Tryz.func73, Tryz.ntmps73
    go_wp2_with (first | (go_at_call 135; refine (HC.out _).mono ?_; rintro en w1 ⟨rfl, pw, rfl⟩) | (go_at_call 150; refine (HS.out _).mono ?_; rintro en w2 ⟨rfl, hn2⟩))
    have HN2 := Lib.hid (show New w w2 from New.trans (by (repeat (first | exact New.refl _ | apply New.alloc | apply New.aft | apply New.drew | refine New.setCell ?_ ?_ _)); all_goals (first | done | (simp [size_aft]; done) | (simp [size_aft]; omega))) hn2)
    clear hn2
    go_loopw [21] (fun i wr => i = .int .i64 0 ∧ New w2 wr) (fun _ _ => 0)
    case atStart => exact ⟨rfl, New.refl _⟩
    case round =>
      obtain ⟨rfl, hn⟩ := hrel
      have HNW := Lib.hid (HN2.out.trans hn)
      clear hn
      go_wp2_with (first | (go_at_call 153; refine (HVE.out _).mono ?_; rintro en w3 ⟨rfl, hn3⟩; have HN3 := Lib.hid (HNW.out.trans hn3); clear hn3) | (go_at_call 154; refine (HO.out _).mono ?_; rintro en w4 ⟨rfl, hn4⟩; have HN4 := Lib.hid (HN3.out.trans hn4); clear hn4))
      go_loopw [52] (fun i wr => i = .int .i64 0 ∧ New w4 wr) (fun _ _ => 0)
      case atStart => exact ⟨rfl, New.refl _⟩
      case round =>
        obtain ⟨rfl, hn⟩ := hrel
        have HN5 := Lib.hid (HN4.out.trans hn)
        clear hn
        go_wp2_with fail
        go_ret
        exact ⟨rfl, HN5.out⟩
  · rw [show decide (N = 0) = false from decide_eq_false h0] at HS ⊢
    exact checkSweep_bad A cv 0 cp N cc w (Lib.hid (fun w1 _ => HC.out w1)) (Lib.hid (fun w1 _ => HS.out w1))

set_option maxHeartbeats 4000000 in
theorem swept_long (A cv : Option Addr) (n cp N cc : Nat) (w : World) (hn : 60 < n) : Calls Tryz.prog 23 #[.slice A n cp, .slice cv N cc] w fun e w' => e = .returned (.bool true) ∧ New w w' := by
  have HL := Lib.hid alive_c
  have hn2 : (60 : Int) < (n : Int) := by omega
  go_enter Tryz.func23, Tryz.ntmps23
  go_wp2_with (go_at_call 31; refine (HL.out _).mono ?_; rintro e w1 ⟨rfl, pw, rfl⟩)
  all_goals (go_ret; exact ⟨rfl, (by (repeat (first | exact New.refl _ | apply New.alloc | apply New.aft | apply New.drew | refine New.setCell ?_ ?_ _)); all_goals (first | done | (simp [size_aft]; done) | (simp [size_aft]; omega)))⟩)
set_option maxHeartbeats 4000000 in
theorem swept_thick (A cv : Option Addr) (n cp N cc : Nat) (w : World) (hn : n ≤ 60)
    (HT : Hid (∀ w1 : World, New w w1 → Calls Tryz.prog 69 #[.slice cv N cc] w1 fun e w' => e = .returned (.bool false) ∧ New w1 w')) : Calls Tryz.prog 23 #[.slice A n cp, .slice cv N cc] w fun e w' => e = .returned (.bool true) ∧ New w w' := by
  have HL := Lib.hid alive_c
  have hn2 : ¬ (60 : Int) < (n : Int) := by omega
  go_enter Tryz.func23, Tryz.ntmps23
  go_wp2_with (first | (go_at_call 31; refine (HL.out _).mono ?_; rintro e w1 ⟨rfl, pw, rfl⟩) | (go_at_call 69; refine (HT.out _ (by (repeat (first | exact New.refl _ | apply New.alloc | apply New.aft | apply New.drew | refine New.setCell ?_ ?_ _)); all_goals (first | done | (simp [size_aft]; done) | (simp [size_aft]; omega)))).mono ?_; rintro e w1 ⟨rfl, pw, rfl⟩))
  all_goals (go_ret; exact ⟨rfl, (by (repeat (first | exact New.refl _ | apply New.alloc | apply New.aft | apply New.drew | refine New.setCell ?_ ?_ _)); all_goals (first | done | (simp [size_aft]; done) | (simp [size_aft]; omega)))⟩)
set_option maxHeartbeats 8000000 in
/-- the segments are not valid -/
theorem swept_bad (A cv : Option Addr) (n cp N cc : Nat) (K : Int) (w : World) (hn : n ≤ 60) (hK : K ≠ 0)
    (HT : Hid (∀ w1 : World, New w w1 → Calls Tryz.prog 69 #[.slice cv N cc] w1 fun e w' => e = .returned (.bool true) ∧ New w1 w'))
    (HX : Hid (∀ w1 : World, New w w1 → Calls Tryz.prog 64 #[.slice A n cp] w1 fun e w' => e = .returned (.tuple #[.int .i64 0, .int .i64 0, .bool false, .int .i64 K]) ∧ New w1 w'))
    (HS : Hid (∀ w1 : World, New w w1 → Calls Tryz.prog 70 #[.slice A n cp] w1 fun e w' => e = .returned (.tuple #[.slice none 0 0, .int .i64 K]) ∧ New w1 w'))
    (HC : Hid (∀ w1 : World, New w w1 → Calls Tryz.prog 73 #[.slice A n cp, .slice cv N cc] w1 fun e w' => e = .returned (.bool false) ∧ New w1 w')) :
    Calls Tryz.prog 23 #[.slice A n cp, .slice cv N cc] w fun e w' => e = .returned (.bool true) ∧ New w w' := by
  have HL := Lib.hid alive_c
  have hn2 : ¬ (60 : Int) < (n : Int) := by omega
  have z1 : (K == 0) = false := by simpa using hK
  have z2 : (K != 0) = true := by simpa using hK
  have z3 : (K == K) = true := by simp
  go_enter Tryz.func23, Tryz.ntmps23
  go_wp2_with (first | (go_at_call 31; refine (HL.out _).mono ?_; rintro e w1 ⟨rfl, pw0, rfl⟩) | (go_at_call 69; refine (HT.out _ (by (repeat (first | exact New.refl _ | apply New.alloc | apply New.aft | apply New.drew | refine New.setCell ?_ ?_ _)); all_goals (first | done | (simp [size_aft]; done) | (simp [size_aft]; omega)))).mono ?_; rintro e w1 ⟨rfl, pw1, rfl⟩) | (go_at_call 64; refine (HX.out _ (by (repeat (first | exact New.refl _ | apply New.alloc | apply New.aft | apply New.drew | refine New.setCell ?_ ?_ _)); all_goals (first | done | (simp [size_aft]; done) | (simp [size_aft]; omega)))).mono ?_; rintro e w1 ⟨rfl, pw2, rfl⟩) | (go_at_call 70; refine (HS.out _ (by (repeat (first | exact New.refl _ | apply New.alloc | apply New.aft | apply New.drew | refine New.setCell ?_ ?_ _)); all_goals (first | done | (simp [size_aft]; done) | (simp [size_aft]; omega)))).mono ?_; rintro e w1 ⟨rfl, pw3, rfl⟩) | (go_at_call 73; refine (HC.out _ (by (repeat (first | exact New.refl _ | apply New.alloc | apply New.aft | apply New.drew | refine New.setCell ?_ ?_ _)); all_goals (first | done | (simp [size_aft]; done) | (simp [size_aft]; omega)))).mono ?_; rintro e w1 ⟨rfl, pw4, rfl⟩))
  all_goals (go_ret; exact ⟨rfl, (by (repeat (first | exact New.refl _ | apply New.alloc | apply New.aft | apply New.drew | refine New.setCell ?_ ?_ _)); all_goals (first | done | (simp [size_aft]; done) | (simp [size_aft]; omega)))⟩)
set_option maxHeartbeats 8000000 in
/-- two segments cross -/
theorem swept_cross (A cv : Option Addr) (n cp N cc : Nat) (w : World) (hn : n ≤ 60)
    (HT : Hid (∀ w1 : World, New w w1 → Calls Tryz.prog 69 #[.slice cv N cc] w1 fun e w' => e = .returned (.bool true) ∧ New w1 w'))
    (HX : Hid (∀ w1 : World, New w w1 → Calls Tryz.prog 64 #[.slice A n cp] w1 fun e w' => (∃ i j : Nat, e = .returned (.tuple #[.int .i64 i, .int .i64 j, .bool true, .int .i64 0])) ∧ New w1 w'))
    (HS : Hid (∀ w1 : World, New w w1 → Calls Tryz.prog 70 #[.slice A n cp] w1 fun e w' => e = .returned (.tuple #[.slice none 0 0, .int .i64 10]) ∧ New w1 w'))
    (HC : Hid (∀ w1 : World, New w w1 → Calls Tryz.prog 73 #[.slice A n cp, .slice cv N cc] w1 fun e w' => e = .returned (.bool false) ∧ New w1 w')) :
    Calls Tryz.prog 23 #[.slice A n cp, .slice cv N cc] w fun e w' => e = .returned (.bool true) ∧ New w w' := by
  have HL := Lib.hid alive_c
  have hn2 : ¬ (60 : Int) < (n : Int) := by omega
  go_enter Tryz.func23, Tryz.ntmps23
  go_wp2_with (first | (go_at_call 31; refine (HL.out _).mono ?_; rintro e w1 ⟨rfl, pw0, rfl⟩) | (go_at_call 69; refine (HT.out _ (by (repeat (first | exact New.refl _ | apply New.alloc | apply New.aft | apply New.drew | refine New.setCell ?_ ?_ _)); all_goals (first | done | (simp [size_aft]; done) | (simp [size_aft]; omega)))).mono ?_; rintro e w1 ⟨rfl, pw1, rfl⟩) | (go_at_call 64; refine (HX.out _ (by (repeat (first | exact New.refl _ | apply New.alloc | apply New.aft | apply New.drew | refine New.setCell ?_ ?_ _)); all_goals (first | done | (simp [size_aft]; done) | (simp [size_aft]; omega)))).mono ?_; rintro e w1 ⟨⟨i, j, rfl⟩, pw2, rfl⟩) | (go_at_call 70; refine (HS.out _ (by (repeat (first | exact New.refl _ | apply New.alloc | apply New.aft | apply New.drew | refine New.setCell ?_ ?_ _)); all_goals (first | done | (simp [size_aft]; done) | (simp [size_aft]; omega)))).mono ?_; rintro e w1 ⟨rfl, pw3, rfl⟩) | (go_at_call 73; refine (HC.out _ (by (repeat (first | exact New.refl _ | apply New.alloc | apply New.aft | apply New.drew | refine New.setCell ?_ ?_ _)); all_goals (first | done | (simp [size_aft]; done) | (simp [size_aft]; omega)))).mono ?_; rintro e w1 ⟨rfl, pw4, rfl⟩))
  all_goals (go_ret; exact ⟨rfl, (by (repeat (first | exact New.refl _ | apply New.alloc | apply New.aft | apply New.drew | refine New.setCell ?_ ?_ _)); all_goals (first | done | (simp [size_aft]; done) | (simp [size_aft]; omega)))⟩)
set_option maxHeartbeats 8000000 in
/-- no two segments cross -/
theorem swept_apart (A cv : Option Addr) (n cp N cc : Nat) (R : Value → World → Prop) (w : World) (hn : n ≤ 60)
    (HT : Hid (∀ w1 : World, New w w1 → Calls Tryz.prog 69 #[.slice cv N cc] w1 fun e w' => e = .returned (.bool true) ∧ New w1 w'))
    (HX : Hid (∀ w1 : World, New w w1 → Calls Tryz.prog 64 #[.slice A n cp] w1 fun e w' => e = .returned (.tuple #[.int .i64 0, .int .i64 0, .bool false, .int .i64 0]) ∧ New w1 w'))
    (HS : Hid (∀ w1 : World, New w w1 → Calls Tryz.prog 70 #[.slice A n cp] w1 fun e w' => ∃ a m c, e = .returned (.tuple #[.slice a m c, .int .i64 0]) ∧ R (.slice a m c) w' ∧ New w1 w'))
    (HC : Hid (∀ (v : Value) (w1 : World), New w w1 → R v w1 → Calls Tryz.prog 73 #[.slice A n cp, v] w1 fun e w' => e = .returned (.bool true) ∧ New w1 w')) :
    Calls Tryz.prog 23 #[.slice A n cp, .slice cv N cc] w fun e w' => e = .returned (.bool true) ∧ New w w' := by
  have HL := Lib.hid alive_c
  have hn2 : ¬ (60 : Int) < (n : Int) := by omega
  go_enter Tryz.func23, Tryz.ntmps23
  go_wp2_with (first | (go_at_call 31; refine (HL.out _).mono ?_; rintro e w1 ⟨rfl, pw0, rfl⟩) | (go_at_call 69; refine (HT.out _ (by (repeat (first | exact New.refl _ | apply New.alloc | apply New.aft | apply New.drew | refine New.setCell ?_ ?_ _)); all_goals (first | done | (simp [size_aft]; done) | (simp [size_aft]; omega)))).mono ?_; rintro e w1 ⟨rfl, pw1, rfl⟩) | (go_at_call 64; refine (HX.out _ (by (repeat (first | exact New.refl _ | apply New.alloc | apply New.aft | apply New.drew | refine New.setCell ?_ ?_ _)); all_goals (first | done | (simp [size_aft]; done) | (simp [size_aft]; omega)))).mono ?_; rintro e w1 ⟨rfl, pw2, rfl⟩) | (go_at_call 70; refine (HS.out _ (by (repeat (first | exact New.refl _ | apply New.alloc | apply New.aft | apply New.drew | refine New.setCell ?_ ?_ _)); all_goals (first | done | (simp [size_aft]; done) | (simp [size_aft]; omega)))).mono ?_; rintro e w5 ⟨a, m, c, rfl, hR, hn5⟩; have HRR := Lib.hid hR; have HN5 := Lib.hid (show New w w5 from New.trans (by (repeat (first | exact New.refl _ | apply New.alloc | apply New.aft | apply New.drew | refine New.setCell ?_ ?_ _)); all_goals (first | done | (simp [size_aft]; done) | (simp [size_aft]; omega))) hn5); clear hR hn5) | (go_at_call 73; refine (HC.out _ _ HN5.out HRR.out).mono ?_; rintro e w6 ⟨rfl, hn6⟩; have HN6 := Lib.hid (HN5.out.trans hn6); clear hn6))
  all_goals (go_ret; exact ⟨rfl, (by (repeat (first | exact HN6.out | exact New.refl _ | apply New.alloc | apply New.aft | apply New.drew | refine New.setCell ?_ ?_ _)); all_goals (first | done | (simp [size_aft]; done) | (simp [size_aft]; omega)))⟩)

end Go.Proofs.YtpdfbboagaflhaaGreat

set_option linter.unusedSimpArgs false
set_option linter.unusedVariables false
namespace Go.Proofs.YtpdfbboagaflhaaGreat
open Go.RowKit

theorem fwd_cases (a b c d : Int) : (Geo.lexB c d a b ∧ (f1 a b c d, f2 a b c d, f3 a b c d, f4 a b c d) = (c, d, a, b)) ∨ (¬ Geo.lexB c d a b ∧ (f1 a b c d, f2 a b c d, f3 a b c d, f4 a b c d) = (a, b, c, d)) := by
  have h := (Geo.or_lt a b c d).2.2
  unfold f1 f2 f3 f4
  by_cases g : 0 < orI (cmpI a c) (cmpI b d)
  · left; rw [if_pos g, if_pos g, if_pos g, if_pos g]; exact ⟨h.1 g, rfl⟩
  · right; rw [if_neg g, if_neg g, if_neg g, if_neg g]; exact ⟨fun e => g (h.2 e), rfl⟩
theorem fwd_ok (a b c d : Int) (hne : ¬ (a = c ∧ b = d)) : Geo.FwdOk (f1 a b c d, f2 a b c d, f3 a b c d, f4 a b c d) := by
  rcases fwd_cases a b c d with ⟨hl, e⟩ | ⟨hl, e⟩
  · rw [e]
    refine ⟨?_, ?_⟩
    · rcases fwd_cases c d a b with ⟨h2, _⟩ | ⟨_, e2⟩
      · unfold Geo.lexB at hl h2; omega
      · exact e2
    · unfold Geo.lexB at hl; exact hl
  · rw [e]
    refine ⟨e, ?_⟩
    unfold Geo.lexB at hl
    simp only
    omega
theorem fwdAt_ok {l : List S4} (hok : okSegs l = true) {i : Nat} (hi : i < l.length) : Geo.FwdOk (fwdAt l i) := by
  obtain ⟨_, _, hne⟩ := okS_iff.1 (okSegs_at l i hi hok)
  exact fwd_ok _ _ _ _ hne
theorem fwdAt_x (l : List S4) (i : Nat) : (fwdAt l i).1 = min (q1 l i) (q3 l i) ∧ (fwdAt l i).2.2.1 = max (q1 l i) (q3 l i) := f_minmax _ _ _ _
theorem ev_of {l : List S4} (hok : okSegs l = true) : Geo.Ev2 l.length (endXsL l).length (fwdAt l) (xAt l) where
  up k hk := xAt_lt (Nat.lt_succ_self k) hk
  mem x := by
    constructor
    · rintro ⟨k, hk, rfl⟩
      obtain ⟨i, hi, h⟩ := endXs_mem.1 (xAt_mem hk)
      obtain ⟨e1, e2⟩ := fwdAt_x l i
      refine ⟨i, hi, ?_⟩
      rw [e1, e2]; omega
    · rintro ⟨i, hi, h⟩
      obtain ⟨e1, e2⟩ := fwdAt_x l i
      rw [e1, e2] at h
      have hm : x ∈ endXsL l := endXs_mem.2 ⟨i, hi, by omega⟩
      obtain ⟨k, hk, e⟩ := List.getElem_of_mem hm
      exact ⟨k, hk, by unfold xAt; rw [List.getD_eq_getElem?_getD, List.getElem?_eq_getElem hk]; exact e⟩
  ok i hi := fwdAt_ok hok hi
theorem cmA_DD (l : List S4) (L : List Int) (x : Int) (p q : Nat) : (cmA l L x p q < 0 ↔ Geo.DD (fwdAt l (L.getD p 0).toNat) (fwdAt l (L.getD q 0).toNat) x < 0) ∧ (0 < cmA l L x p q ↔ 0 < Geo.DD (fwdAt l (L.getD p 0).toNat) (fwdAt l (L.getD q 0).toNat) x) ∧ (cmA l L x p q = 0 ↔ Geo.DD (fwdAt l (L.getD p 0).toNat) (fwdAt l (L.getD q 0).toNat) x = 0) := by
  have h := Geo.cmpI_sub (hA l L x p * hD l L q) (hA l L x q * hD l L p)
  exact h
theorem natsL_len (L : List Int) : (natsL L).length = L.length := by simp [natsL]
theorem natsL_getD (L : List Int) {p : Nat} (h : p < L.length) : (natsL L).getD p 0 = (L.getD p 0).toNat := nat_natsL L p h
theorem rise_of {l : List S4} {L : List Int} {f t : Int} (h : risB l L f t = true) : Geo.Rise (fwdAt l) (natsL L) f t := by
  intro p hp
  rw [natsL_len] at hp
  rw [natsL_getD L (by omega), natsL_getD L hp]
  obtain ⟨h1, h2, h3⟩ := ris_step h hp
  have a := cmA_DD l L (2 * f) p (p + 1)
  have b := cmA_DD l L (2 * t) p (p + 1)
  omega
theorem ris_of {l : List S4} {L : List Int} {f t : Int} (h : Geo.Rise (fwdAt l) (natsL L) f t) : risB l L f t = true := by
  unfold risB
  have : (List.range (L.length - 1)).any (badR l L f t) = false := by
    rw [List.any_eq_false]
    intro p hp
    rw [List.mem_range] at hp
    have h1 := h p (by rw [natsL_len]; omega)
    rw [natsL_getD L (by omega), natsL_getD L (by omega)] at h1
    have a := cmA_DD l L (2 * f) p (p + 1)
    have b := cmA_DD l L (2 * t) p (p + 1)
    unfold badR
    have c1 : ¬ 0 < cmA l L (2 * f) p (p + 1) := by omega
    have c2 : ¬ 0 < cmA l L (2 * t) p (p + 1) := by omega
    have c3 : ¬ (cmA l L (2 * f) p (p + 1) = 0 ∧ cmA l L (2 * t) p (p + 1) = 0) := by omega
    rw [decide_eq_false c1, decide_eq_false c2]
    simpa using c3
  rw [this]; rfl
section
variable {l : List S4} {C : List SV}
theorem spanTo_up (l : List S4) (f t : Int) : ∀ n, (spanTo l f t n).Pairwise (· < ·) ∧ ∀ x ∈ spanTo l f t n, x < (n : Int)
  | 0 => by simp [spanTo]
  | n + 1 => by
    obtain ⟨h1, h2⟩ := spanTo_up l f t n
    simp only [spanTo]
    split
    · refine ⟨List.pairwise_append.2 ⟨h1, List.pairwise_singleton _ _, fun a ha b hb => ?_⟩, fun x hx => ?_⟩
      · obtain rfl : b = n := by simpa using hb
        exact h2 a ha
      · rcases List.mem_append.1 hx with h | h
        · have := h2 x h; omega
        · obtain rfl : x = n := by simpa using h
          omega
    · exact ⟨h1, fun x hx => by have := h2 x hx; omega⟩
theorem StripsAre.nodup (h : StripsAre l C) {j : Nat} (hj : j < C.length) : (natsL (sL C j)).Nodup := by
  obtain ⟨⟨e1, e2⟩, e3⟩ := h.mt j hj
  have h1 : (sL C j).Nodup := by
    have hp : (sortI (sL C j)).Perm (sL C j) := List.mergeSort_perm _ _
    refine hp.nodup_iff.1 ?_
    rw [e3]
    exact (spanTo_up l _ _ _).1.imp (fun h => by omega)
  unfold natsL
  refine List.pairwise_map.2 (List.Pairwise.imp_of_mem ?_ h1)
  intro a b ha hb hab
  obtain ⟨i, e, _⟩ := (h.mem hj).1 ha
  obtain ⟨k, e', _⟩ := (h.mem hj).1 hb
  rw [e, e'] at hab ⊢
  simp only [Int.toNat_natCast]
  omega
theorem span_iff {l : List S4} {f t : Int} {i : Nat} : spanAt l f t i = true ↔ (fwdAt l i).1 ≤ f ∧ t ≤ (fwdAt l i).2.2.1 := by
  obtain ⟨e1, e2⟩ := fwdAt_x l i
  rw [e1, e2]
  unfold spanAt
  simp
theorem StripsAre.span (h : StripsAre l C) {j : Nat} (hj : j < C.length) (i : Nat) : i ∈ natsL (sL C j) ↔ i < l.length ∧ Geo.Span (fwdAt l) (xAt l) j i := by
  obtain ⟨⟨e1, e2⟩, _⟩ := h.mt j hj
  unfold natsL Geo.Span
  rw [List.mem_map]
  constructor
  · rintro ⟨x, hx, rfl⟩
    obtain ⟨k, rfl, hk, hs⟩ := (h.mem hj).1 hx
    rw [span_iff, e1, e2] at hs
    exact ⟨by simpa using hk, by simpa using hs⟩
  · rintro ⟨hi, hs⟩
    exact ⟨i, (h.mem hj).2 ⟨i, rfl, hi, by rw [span_iff, e1, e2]; exact hs⟩, by simp⟩
end

end Go.Proofs.YtpdfbboagaflhaaGreat

set_option linter.unusedSimpArgs false
set_option linter.unusedVariables false
namespace Go.Proofs.YtpdfbboagaflhaaGreat
open Go.RowKit

section
variable {E : Nat → Prop} [DecidablePred E] {fr : Nat → Bool} {go : Nat → Int}
/-- neighbours from p to q are all of one height -/
def Run (E : Nat → Prop) (p q : Nat) : Prop := ∀ k, p ≤ k → k < q → E k
/-- the count: a neighbour of another height sets it back -/
def Cnt (E : Nat → Prop) [DecidablePred E] (fr : Nat → Bool) (go : Nat → Int) : Prop := go 0 = 0 ∧ ∀ i, go (i + 1) = (if i = 0 ∨ ¬ E (i - 1) then 0 else go i) + (if fr i then 1 else 0)
theorem cnt_pos (h : Cnt E fr go) : ∀ i, 0 ≤ go i
  | 0 => by rw [h.1]; exact Int.le_refl _
  | i + 1 => by have := cnt_pos h i; rw [h.2]; split <;> split <;> omega
theorem cnt_up (h : Cnt E fr go) {p : Nat} : ∀ {q : Nat}, p < q → Run E p q → go (p + 1) + (if fr q then 1 else 0) ≤ go (q + 1)
  | 0, hq, _ => by omega
  | q + 1, hq, hr => by
    have hE : E q := hr q (by omega) (by omega)
    have h0 := h.2 (q + 1)
    rw [if_neg (by simpa using hE)] at h0
    rw [h0]
    rcases Nat.lt_or_ge p q with g | g
    · have := cnt_up h g (fun k h1 h2 => hr k h1 (by omega))
      have h5 : (0 : Int) ≤ if fr q = true then 1 else 0 := by split <;> omega
      omega
    · obtain rfl : p = q := by omega
      omega
theorem cnt_two (h : Cnt E fr go) {p q : Nat} (hpq : p < q) (hr : Run E p q) (fp : fr p = true) (fq : fr q = true) : 1 < go (q + 1) := by
  have h1 := cnt_up h hpq hr
  rw [fq] at h1
  have h2 := h.2 p
  rw [fp] at h2
  have h3 := cnt_pos h p
  simp only [if_true] at h1 h2
  split at h2 <;> omega
theorem cnt_back (h : Cnt E fr go) : ∀ i, (0 < go (i + 1) → ∃ p, p ≤ i ∧ fr p = true ∧ Run E p i) ∧ (1 < go (i + 1) → ∃ p q, p < q ∧ q ≤ i ∧ fr p = true ∧ fr q = true ∧ Run E p q)
  | 0 => by
    have h0 := h.2 0
    rw [if_pos (.inl rfl)] at h0
    constructor
    · intro g
      rw [h0] at g
      refine ⟨0, Nat.le_refl _, ?_, fun k h1 h2 => by omega⟩
      cases hf : fr 0
      · rw [hf] at g; simp at g
      · rfl
    · intro g
      rw [h0] at g
      split at g <;> omega
  | i + 1 => by
    obtain ⟨a, b⟩ := cnt_back h i
    have h0 := h.2 (i + 1)
    have hp := cnt_pos h (i + 1)
    by_cases hE : E i
    · rw [if_neg (by simpa using hE)] at h0
      have ext : ∀ p, Run E p i → Run E p (i + 1) := fun p hr k h1 h2 => by
        rcases Nat.lt_or_ge k i with g | g
        · exact hr k h1 g
        · obtain rfl : k = i := by omega
          exact hE
      cases hf : fr (i + 1)
      · rw [hf] at h0
        constructor
        · intro g
          obtain ⟨p, h1, h2, h3⟩ := a (by simp at h0; omega)
          exact ⟨p, by omega, h2, ext p h3⟩
        · intro g
          obtain ⟨p, q, h1, h2, h3⟩ := b (by simp at h0; omega)
          exact ⟨p, q, h1, by omega, h3⟩
      · rw [hf] at h0
        simp only [if_true] at h0
        constructor
        · intro _
          exact ⟨i + 1, Nat.le_refl _, hf, fun k h1 h2 => by omega⟩
        · intro g
          obtain ⟨p, h1, h2, h3⟩ := a (by omega)
          exact ⟨p, i + 1, by omega, Nat.le_refl _, h2, hf, ext p h3⟩
    · rw [if_pos (.inr (by simpa using hE))] at h0
      constructor
      · intro g
        refine ⟨i + 1, Nat.le_refl _, ?_, fun k h1 h2 => by omega⟩
        cases hf : fr (i + 1)
        · rw [hf] at h0; simp at h0; omega
        · rfl
      · intro g
        split at h0 <;> omega
end

theorem free_end (l : List S4) (L : List Int) (x : Int) (i : Nat) : freeAt l L x i = true ↔ ¬ Geo.EndAt (fwdAt l) x (L.getD i 0).toNat := by
  obtain ⟨e1, e2⟩ := fwdAt_x l (L.getD i 0).toNat
  unfold freeAt Geo.EndAt
  rw [e1, e2]
  simp only [Bool.and_eq_true, Bool.not_eq_true', beq_eq_false_iff_ne, ne_eq]
  omega
section
variable {l : List S4} {L : List Int} {x : Int}
/-- of one height at x: neighbours -/
def Eq1 (l : List S4) (L : List Int) (x : Int) (p : Nat) : Prop := Geo.DD (fwdAt l (L.getD p 0).toNat) (fwdAt l (L.getD (p + 1) 0).toNat) (2 * x) = 0
instance : DecidablePred (Eq1 l L x) := fun p => by unfold Eq1; infer_instance
theorem cnt_goTo : Cnt (Eq1 l L x) (freeAt l L x) (goTo l L x) := by
  refine ⟨rfl, fun i => ?_⟩
  have h : goTo l L x (i + 1) = (if i = 0 ∨ cmA l L (2 * x) i (i - 1) ≠ 0 then 0 else goTo l L x i) + (if freeAt l L x i then 1 else 0) := rfl
  rw [h]
  congr 1
  by_cases h0 : i = 0
  · rw [if_pos (.inl h0), if_pos (.inl h0)]
  · obtain ⟨k, rfl⟩ : ∃ k, i = k + 1 := ⟨i - 1, by omega⟩
    have e := (cmA_DD l L (2 * x) (k + 1) (k + 1 - 1)).2.2
    rw [show k + 1 - 1 = k by omega] at e ⊢
    have e2 : cmA l L (2 * x) (k + 1) k = 0 ↔ Eq1 l L x k := by
      rw [e]; unfold Eq1; rw [Geo.DD_swap]; omega
    by_cases g : Eq1 l L x k
    · rw [if_neg (by simp [e2.2 g]), if_neg (by simp [g])]
    · rw [if_pos (.inr (fun hh => g (e2.1 hh))), if_pos (.inr g)]
/-- the order at x, from neighbours to any two -/
theorem order_run (hle : ∀ p, p + 1 < L.length → Geo.DD (fwdAt l (L.getD p 0).toNat) (fwdAt l (L.getD (p + 1) 0).toNat) (2 * x) ≤ 0) (hpos : ∀ p, p < L.length → 0 < Geo.WW (fwdAt l (L.getD p 0).toNat)) {p : Nat} : ∀ {q : Nat}, p < q → q < L.length →
    Geo.DD (fwdAt l (L.getD p 0).toNat) (fwdAt l (L.getD q 0).toNat) (2 * x) ≤ 0 ∧ (Geo.DD (fwdAt l (L.getD p 0).toNat) (fwdAt l (L.getD q 0).toNat) (2 * x) = 0 ↔ Run (Eq1 l L x) p q)
  | 0, h, _ => by omega
  | q + 1, h, hq => by
    have h1 := hle q hq
    rcases Nat.lt_or_ge p q with g | g
    · obtain ⟨a, b⟩ := order_run hle hpos g (by omega)
      obtain ⟨c, d⟩ := Geo.DD_trans (hpos p (by omega)) (hpos q (by omega)) (hpos (q + 1) hq) a h1
      refine ⟨c, ⟨fun e k k1 k2 => ?_, fun r => ?_⟩⟩
      · obtain ⟨e1, e2⟩ := d e
        rcases Nat.lt_or_ge k q with g2 | g2
        · exact b.1 e1 k k1 g2
        · obtain rfl : k = q := by omega
          exact e2
      · have e1 := b.2 (fun k k1 k2 => r k k1 (by omega))
        have e2 : Geo.DD (fwdAt l (L.getD q 0).toNat) (fwdAt l (L.getD (q + 1) 0).toNat) (2 * x) = 0 := r q (by omega) (by omega)
        have e3 := Geo.DD_mid (fwdAt l (L.getD p 0).toNat) (fwdAt l (L.getD q 0).toNat) (fwdAt l (L.getD (q + 1) 0).toNat) (2 * x)
        rw [e1, e2, Int.mul_zero, Int.mul_zero, Int.add_zero] at e3
        have := hpos q (by omega)
        rcases Int.mul_eq_zero.1 e3 with k | k
        · omega
        · exact k
    · obtain rfl : p = q := by omega
      exact ⟨h1, ⟨fun e k k1 k2 => by obtain rfl : k = p := by omega
                                      exact e, fun r => r p (Nat.le_refl _) (by omega)⟩⟩
theorem crow_lone (hle : ∀ p, p + 1 < L.length → Geo.DD (fwdAt l (L.getD p 0).toNat) (fwdAt l (L.getD (p + 1) 0).toNat) (2 * x) ≤ 0) (hpos : ∀ p, p < L.length → 0 < Geo.WW (fwdAt l (L.getD p 0).toNat)) (hnd : (natsL L).Nodup) :
    crowB l L x = false ↔ Geo.Lone (fwdAt l) (natsL L) x := by
  have hcb : crowB l L x = false ↔ ∀ i, i < L.length → ¬ 1 < goTo l L x (i + 1) := by
    unfold crowB
    rw [List.any_eq_false]
    constructor
    · intro h i hi
      have := h i (List.mem_range.2 hi)
      simpa using this
    · intro h i hi
      have := h i (List.mem_range.1 hi)
      simpa using this
  have hidx : ∀ i, i ∈ natsL L → ∃ p, p < L.length ∧ (L.getD p 0).toNat = i := fun i hi => by
    obtain ⟨p, hp, e⟩ := List.getElem_of_mem hi
    rw [natsL_len] at hp
    refine ⟨p, hp, ?_⟩
    rw [← nat_natsL L p hp]
    unfold nat
    rw [List.getD_eq_getElem?_getD, List.getElem?_eq_getElem (by rw [natsL_len]; exact hp)]
    exact e
  have hmem : ∀ p, p < L.length → (L.getD p 0).toNat ∈ natsL L := fun p hp => by
    rw [← nat_natsL L p hp]
    unfold nat
    rw [List.getD_eq_getElem?_getD, List.getElem?_eq_getElem (by rw [natsL_len]; exact hp)]
    exact List.getElem_mem _
  have hinj : ∀ p q, p < q → q < L.length → (L.getD p 0).toNat ≠ (L.getD q 0).toNat := fun p q hpq hq e => by
    have h1 := List.pairwise_iff_getElem.1 hnd p q (by rw [natsL_len]; omega) (by rw [natsL_len]; exact hq) hpq
    rw [← nat_natsL L p (by omega), ← nat_natsL L q hq] at e
    unfold nat at e
    rw [List.getD_eq_getElem?_getD, List.getD_eq_getElem?_getD, List.getElem?_eq_getElem (by rw [natsL_len]; omega), List.getElem?_eq_getElem (by rw [natsL_len]; exact hq)] at e
    exact h1 e
  rw [hcb]
  constructor
  · intro h i hi j hj hij h0
    obtain ⟨p, hp, rfl⟩ := hidx i hi
    obtain ⟨q, hq, rfl⟩ := hidx j hj
    rcases Classical.em (Geo.EndAt (fwdAt l) x (L.getD p 0).toNat ∨ Geo.EndAt (fwdAt l) x (L.getD q 0).toNat) with g | g
    · exact g
    · exfalso
      have fp := (free_end l L x p).2 (fun e => g (.inl e))
      have fq := (free_end l L x q).2 (fun e => g (.inr e))
      rcases Nat.lt_trichotomy p q with k | k | k
      · exact h q hq (cnt_two cnt_goTo k ((order_run hle hpos k hq).2.1 h0) fp fq)
      · subst k; exact hij rfl
      · rw [Geo.DD_swap] at h0
        exact h p hp (cnt_two cnt_goTo k ((order_run hle hpos k hp).2.1 (by omega)) fq fp)
  · intro h i hi g
    obtain ⟨p, q, h1, h2, fp, fq, hr⟩ := (cnt_back cnt_goTo i).2 g
    have e := (order_run hle hpos h1 (show q < L.length by omega)).2.2 hr
    rcases h _ (hmem p (by omega)) _ (hmem q (by omega)) (hinj p q h1 (by omega)) e with k | k
    · exact (free_end l L x p).1 fp k
    · exact (free_end l L x q).1 fq k
end

end Go.Proofs.YtpdfbboagaflhaaGreat

set_option linter.unusedSimpArgs false
set_option linter.unusedVariables false
namespace Go.Proofs.YtpdfbboagaflhaaGreat
open Go.RowKit

/-- two vertical segments overlap -/
def Ovl (s t : S4) : Prop := s.1 = t.1 ∧ s.2.1 < t.2.2.2 ∧ t.2.1 < s.2.2.2
theorem Ovl.symm {s t : S4} (h : Ovl s t) : Ovl t s := ⟨h.1.symm, h.2.2, h.2.1⟩
theorem vert_eq (l : List S4) (i : Nat) : (q1 l i == q3 l i) = true ↔ (fwdAt l i).1 = (fwdAt l i).2.2.1 := by
  obtain ⟨e1, e2⟩ := fwdAt_x l i
  rw [e1, e2]
  simp only [beq_iff_eq]
  omega
theorem vertTo_mem {l : List S4} {s : S4} : ∀ {n : Nat}, s ∈ vertTo l n ↔ ∃ i, i < n ∧ (fwdAt l i).1 = (fwdAt l i).2.2.1 ∧ s = fwdAt l i
  | 0 => by simp [vertTo]
  | n + 1 => by
    simp only [vertTo]
    split
    · rename_i hv
      rw [List.mem_append, vertTo_mem (n := n)]
      simp only [List.mem_cons, List.not_mem_nil, or_false]
      constructor
      · rintro (⟨i, h1, h2, h3⟩ | h)
        · exact ⟨i, by omega, h2, h3⟩
        · exact ⟨n, by omega, (vert_eq l n).1 hv, h⟩
      · rintro ⟨i, h1, h2, h3⟩
        rcases Nat.lt_or_ge i n with g | g
        · exact .inl ⟨i, g, h2, h3⟩
        · obtain rfl : i = n := by omega
          exact .inr h3
    · rename_i hv
      rw [vertTo_mem (n := n)]
      constructor
      · rintro ⟨i, h1, h2⟩; exact ⟨i, by omega, h2⟩
      · rintro ⟨i, h1, h2, h3⟩
        rcases Nat.lt_or_ge i n with g | g
        · exact ⟨i, g, h2, h3⟩
        · obtain rfl : i = n := by omega
          exact absurd ((vert_eq l i).2 h2) hv
theorem vertTo_pair {l : List S4} {R : S4 → S4 → Prop} : ∀ {n : Nat}, (vertTo l n).Pairwise R ↔ ∀ i j, i < j → j < n → (fwdAt l i).1 = (fwdAt l i).2.2.1 → (fwdAt l j).1 = (fwdAt l j).2.2.1 → R (fwdAt l i) (fwdAt l j)
  | 0 => by simp [vertTo]
  | n + 1 => by
    simp only [vertTo]
    split
    · rename_i hv
      have hv' := (vert_eq l n).1 hv
      rw [List.pairwise_append, vertTo_pair (n := n)]
      constructor
      · rintro ⟨h1, _, h2⟩ i j hij hj vi vj
        rcases Nat.lt_or_ge j n with g | g
        · exact h1 i j hij g vi vj
        · obtain rfl : j = n := by omega
          exact h2 _ (vertTo_mem.2 ⟨i, hij, vi, rfl⟩) _ (List.mem_singleton.2 rfl)
      · intro h
        refine ⟨fun i j hij hj => h i j hij (by omega), List.pairwise_singleton _ _, fun a ha b hb => ?_⟩
        obtain ⟨i, hi, vi, rfl⟩ := vertTo_mem.1 ha
        obtain rfl := List.mem_singleton.1 hb
        exact h i n hi (by omega) vi hv'
    · rename_i hv
      rw [vertTo_pair (n := n)]
      constructor
      · intro h i j hij hj vi vj
        rcases Nat.lt_or_ge j n with g | g
        · exact h i j hij g vi vj
        · obtain rfl : j = n := by omega
          exact absurd ((vert_eq l j).2 vj) hv
      · intro h i j hij hj
        exact h i j hij (by omega)
theorem upL_sorted (l : List S4) : (upL l).Pairwise fun x y => ¬ lessS y x = true := by
  unfold upL sortS
  rw [ltOf_cfS_eq]
  have := List.pairwise_mergeSort (le := fun x y => !lessS y x) (fun a b c h1 h2 => by simp [lessS] at *; omega) (fun a b => by simp [lessS]; omega) (vertTo l l.length)
  refine this.imp fun {a b} h => ?_
  simpa using h
theorem upL_perm (l : List S4) : (upL l).Perm (vertTo l l.length) := List.mergeSort_perm _ _
theorem upL_at {l : List S4} {u : Nat} (hu : u < (upL l).length) : (upL l).getD u (0, 0, 0, 0) ∈ upL l := by
  rw [List.getD_eq_getElem?_getD, List.getElem?_eq_getElem hu]; exact List.getElem_mem hu
theorem upL_vert {l : List S4} (hok : okSegs l = true) {s : S4} (h : s ∈ upL l) : s.1 = s.2.2.1 ∧ s.2.1 < s.2.2.2 := by
  obtain ⟨i, hi, hv, rfl⟩ := vertTo_mem.1 ((upL_perm l).mem_iff.1 h)
  have := (fwdAt_ok hok hi).2
  exact ⟨hv, by omega⟩
theorem over_iff {l : List S4} (hok : okSegs l = true) : ovB (upL l) = false ↔ ∀ i j, i < l.length → j < l.length → i ≠ j → (fwdAt l i).1 = (fwdAt l i).2.2.1 → (fwdAt l j).1 = (fwdAt l j).2.2.1 → ¬ Ovl (fwdAt l i) (fwdAt l j) := by
  have hs := List.pairwise_iff_getElem.1 (upL_sorted l)
  have hv := fun (s : S4) (h : s ∈ upL l) => upL_vert hok h
  have h1 : ovB (upL l) = false ↔ (upL l).Pairwise (fun s t => ¬ Ovl s t) := by
    unfold ovB
    rw [List.any_eq_false, List.pairwise_iff_getElem]
    generalize upL l = U at *
    have hq : ∀ p (hp : p < U.length), q1 U p = U[p].1 ∧ q2 U p = U[p].2.1 ∧ q4 U p = U[p].2.2.2 := fun p hp => by
      simp [q1, q2, q4, List.getD_eq_getElem?_getD, hp]
    constructor
    · intro h p q hp hq' hpq ho
      -- neighbours from p to q do not overlap: so the lower ends climb
      have key : ∀ d, (hd : p + 1 + d < U.length) → U[p].1 = (U[p + 1 + d]).1 → U[p].2.2.2 ≤ (U[p + 1 + d]).2.1 := by
        intro d
        induction d with
        | zero =>
          intro hd e
          have := h p (List.mem_range.2 (by omega))
          unfold ovA at this
          obtain ⟨a1, a2, a3⟩ := hq p hp
          obtain ⟨b1, b2, b3⟩ := hq (p + 1) hd
          rw [a1, b1, a3, b2] at this
          simp only [Bool.and_eq_true, beq_iff_eq, decide_eq_true_eq, not_and] at this
          have := this e
          simp only [Nat.add_zero]
          omega
        | succ d ih =>
          intro hd e
          have s1 := hs p (p + 1 + d) hp (by omega) (by omega)
          have s2 := hs (p + 1 + d) (p + 1 + (d + 1)) (by omega) hd (by omega)
          simp only [lessS, decide_eq_true_eq] at s1 s2
          have e2 : U[p].1 = (U[p + 1 + d]).1 := by omega
          have := ih (by omega) e2
          omega
      have k := key (q - p - 1) (by omega)
      have eq : p + 1 + (q - p - 1) = q := by omega
      simp only [eq] at k
      have := k ho.1
      have := ho.2.2
      omega
    · intro h p hp
      have hp' := List.mem_range.1 hp
      unfold ovA
      obtain ⟨a1, a2, a3⟩ := hq p (by omega)
      obtain ⟨b1, b2, b3⟩ := hq (p + 1) (by omega)
      rw [a1, b1, a3, b2]
      simp only [Bool.and_eq_true, beq_iff_eq, decide_eq_true_eq, not_and]
      intro e g
      have h2 := h p (p + 1) (by omega) (by omega) (by omega)
      have s1 := hs p (p + 1) (by omega) (by omega) (by omega)
      simp only [lessS, decide_eq_true_eq] at s1
      have v1 := (hv _ (List.getElem_mem (show p + 1 < U.length by omega))).2
      exact h2 ⟨e, by omega, g⟩
  rw [h1, (upL_perm l).pairwise_iff (fun {x y} h g => h g.symm), vertTo_pair]
  constructor
  · intro h i j hi hj hij vi vj
    rcases Nat.lt_or_ge i j with g | g
    · exact h i j g hj vi vj
    · exact fun o => h j i (by omega) hi vj vi o.symm
  · intro h i j hij hj vi vj
    exact h i j (by omega) hj (by omega) vi vj

end Go.Proofs.YtpdfbboagaflhaaGreat

set_option linter.unusedSimpArgs false
set_option linter.unusedVariables false
namespace Go.Proofs.YtpdfbboagaflhaaGreat
open Go.RowKit

theorem past_iff (l : List S4) (L : List Int) (v y : Int) (i : Nat) : (0 < pastB l L v y i ↔ y * Geo.WW (fwdAt l (L.getD i 0).toNat) < Geo.NN (fwdAt l (L.getD i 0).toNat) (2 * v)) ∧ (pastB l L v y i < 0 ↔ Geo.NN (fwdAt l (L.getD i 0).toNat) (2 * v) < y * Geo.WW (fwdAt l (L.getD i 0).toNat)) := by
  have h := Geo.cmpI_sub (hA l L (2 * v) i * 1) (y * hD l L i)
  have e1 : hA l L (2 * v) i = Geo.NN (fwdAt l (L.getD i 0).toNat) (2 * v) := rfl
  have e2 : hD l L i = Geo.WW (fwdAt l (L.getD i 0).toNat) := rfl
  have e3 : pastB l L v y i = cmpI (hA l L (2 * v) i * 1) (y * hD l L i) := rfl
  rw [e3, ← e1, ← e2]
  omega
section
variable {l : List S4} {C : List SV}
theorem idx_at (L : List Int) {i : Nat} (h : i ∈ natsL L) : ∃ p, p < L.length ∧ (L.getD p 0).toNat = i := by
  obtain ⟨p, hp, e⟩ := List.getElem_of_mem h
  rw [natsL_len] at hp
  refine ⟨p, hp, ?_⟩
  rw [← nat_natsL L p hp]
  unfold nat
  rw [List.getD_eq_getElem?_getD, List.getElem?_eq_getElem (by rw [natsL_len]; exact hp)]
  exact e
theorem at_idx (L : List Int) {p : Nat} (hp : p < L.length) : (L.getD p 0).toNat ∈ natsL L := by
  rw [← nat_natsL L p hp]
  unfold nat
  rw [List.getD_eq_getElem?_getD, List.getElem?_eq_getElem (by rw [natsL_len]; exact hp)]
  exact List.getElem_mem _
/-- a segment that goes on beyond both sides of a vertical one and meets it inside -/
def Thru (l : List S4) (s : S4) : Prop := ∃ j, j < l.length ∧ ((fwdAt l j).1 < s.1 ∧ s.1 < (fwdAt l j).2.2.1) ∧ s.2.1 * Geo.WW (fwdAt l j) < Geo.NN (fwdAt l j) (2 * s.1) ∧ Geo.NN (fwdAt l j) (2 * s.1) < s.2.2.2 * Geo.WW (fwdAt l j)
theorem crs_iff (hok : okSegs l = true) (hS : StripsAre l C) (hR : ∀ j, j < C.length → risB l (sL C j) (sF C j) (sT C j) = true) {s : S4} (hs : ∃ i, i < l.length ∧ (fwdAt l i).1 = s.1) : Crs l C s.1 s.2.1 s.2.2.2 ↔ Thru l s := by
  have ev := ev_of hok
  have hlen := hS.len
  constructor
  · rintro ⟨k, hk, hT, i, hi, h1, h2, h3⟩
    obtain ⟨⟨e1, e2⟩, _⟩ := hS.mt k hk
    obtain ⟨hj, hsp⟩ := (hS.span hk _).1 (at_idx _ hi)
    have hx := xAt_lt (l := l) (show k < k + 1 by omega) (by omega)
    have hf := (free_end l (sL C k) s.1 i).1 h3
    have a1 := (past_iff l (sL C k) s.1 s.2.1 i).1.1 h1
    have a2 := (past_iff l (sL C k) s.1 s.2.2.2 i).2.1 (h2 i (Nat.le_refl _) h1)
    unfold Geo.Span at hsp
    unfold Geo.EndAt at hf
    refine ⟨_, hj, ⟨by omega, by omega⟩, a1, a2⟩
  · rintro ⟨j, hj, ⟨h1, h2⟩, h3, h4⟩
    obtain ⟨i0, hi0, e0⟩ := hs
    obtain ⟨k, hk, ek⟩ := (ev.mem s.1).2 ⟨i0, hi0, .inl e0.symm⟩
    obtain ⟨a, ha, ea⟩ := (ev.mem (fwdAt l j).1).2 ⟨j, hj, .inl rfl⟩
    have hak : a < k := (ev.lt_iff ha hk).1 (by omega)
    have hkC : k - 1 < C.length := by omega
    obtain ⟨⟨e1, e2⟩, _⟩ := hS.mt (k - 1) hkC
    rw [show k - 1 + 1 = k by omega] at e2
    have hsp : j ∈ natsL (sL C (k - 1)) := (hS.span hkC j).2 ⟨hj, by
      unfold Geo.Span
      rw [show k - 1 + 1 = k by omega, ek]
      have := ev.le (show a ≤ k - 1 by omega) (by omega)
      exact ⟨by omega, by omega⟩⟩
    obtain ⟨p, hp, ep⟩ := idx_at _ hsp
    refine ⟨k - 1, hkC, by rw [e2, ek], p, hp, ?_, ?_, ?_⟩
    · rw [(past_iff l (sL C (k - 1)) s.1 s.2.1 p).1, ep]; exact h3
    · intro q hq hpast
      rw [(past_iff l (sL C (k - 1)) s.1 s.2.2.2 q).2]
      have hrise := rise_of (hR (k - 1) hkC)
      have hpos := fun i hi => hS.pos hok hkC (i := i) hi
      rcases Nat.lt_or_ge q p with g | g
      · have ho := (order_run (l := l) (L := sL C (k - 1)) (x := s.1) (fun p' hp' => by
            have := (hrise p' (by rw [natsL_len]; exact hp')).2.1
            rw [natsL_getD _ (by omega), natsL_getD _ hp', e2, ek] at this
            exact this) (fun p' hp' => hpos p' hp') g hp).1
        rw [ep] at ho
        have w1 := hpos q (by omega)
        have w2 := hpos p hp
        have ew1 : hD l (sL C (k - 1)) q = Geo.WW (fwdAt l ((sL C (k - 1)).getD q 0).toNat) := rfl
        have ew2 : hD l (sL C (k - 1)) p = Geo.WW (fwdAt l ((sL C (k - 1)).getD p 0).toNat) := rfl
        rw [ew1] at w1
        rw [ew2, ep] at w2
        unfold Geo.DD at ho
        have := (fr_trans (a := Geo.NN (fwdAt l ((sL C (k - 1)).getD q 0).toNat) (2 * s.1)) (b := Geo.WW (fwdAt l ((sL C (k - 1)).getD q 0).toNat)) (c := Geo.NN (fwdAt l j) (2 * s.1)) (d := Geo.WW (fwdAt l j)) (e := s.2.2.2) (f := 1) w1 w2 (by omega) (by omega) (by omega)).2 (.inr (by omega))
        omega
      · obtain rfl : q = p := by omega
        rw [ep]; exact h4
    · rw [free_end, ep]
      unfold Geo.EndAt
      omega
end
theorem okSeg_fwd {l : List S4} (hok : okSegs l = true) {i : Nat} (hi : i < l.length) : okSeg (fwdAt l i) = true := by
  have h := okSegs_at l i hi hok
  obtain ⟨h1, h2, h3⟩ := okS_iff.1 h
  unfold okSeg fwdAt
  rcases fwd_cases (q1 l i) (q2 l i) (q3 l i) (q4 l i) with ⟨_, e⟩ | ⟨_, e⟩
  · rw [e]; exact okS_iff.2 ⟨h2, h1, fun hh => h3 ⟨hh.1.symm, hh.2.symm⟩⟩
  · rw [e]; exact h
theorem ck_ok {l : List S4} (h : ckSegs l = 0) : okSegs l = true := by
  unfold ckSegs at h
  split at h
  · cases h
  · split at h
    · rename_i g1 g2; exact g2
    · cases h
/-- strips that are accepted show that nothing crosses -/
theorem chk_nobad {l : List S4} {C : List SV} (h : ChkOk l C) : Geo.NoBad l.length (fwdAt l) := by
  have hok := ck_ok h.segs
  have ev := ev_of hok
  have hlen := h.are.len
  have hR := fun j hj => (h.each j hj).1.1
  refine Geo.no_bad ev (fun i hi => okSeg_fwd hok hi) (st := fun k => natsL (sL C k)) (fun k hk => ?_) ?_
  · have hkC : k < C.length := by omega
    obtain ⟨⟨r, c1⟩, c2⟩ := h.each k hkC
    obtain ⟨⟨e1, e2⟩, _⟩ := h.are.mt k hkC
    have hr := rise_of r
    rw [e1, e2] at hr
    rw [e1] at c1
    rw [e2] at c2
    have hpos := fun p hp => h.are.pos hok hkC (i := p) hp
    refine ⟨h.are.nodup hkC, h.are.span hkC, hr, ?_, ?_⟩
    · refine (crow_lone (fun p hp => ?_) hpos (h.are.nodup hkC)).1 c1
      have := (hr p (by rw [natsL_len]; exact hp)).1
      rwa [natsL_getD _ (by omega), natsL_getD _ hp] at this
    · refine (crow_lone (fun p hp => ?_) hpos (h.are.nodup hkC)).1 c2
      have := (hr p (by rw [natsL_len]; exact hp)).2.1
      rwa [natsL_getD _ (by omega), natsL_getD _ hp] at this
  · intro i hi vi j hj hji
    constructor
    · rintro ⟨vj, e, g1, g2⟩
      exact (over_iff hok).1 h.over i j hi hj (Ne.symm hji) vi vj ⟨e, g1, g2⟩
    · rintro ⟨g1, g2, g3⟩
      have hm : fwdAt l i ∈ upL l := (upL_perm l).mem_iff.2 (vertTo_mem.2 ⟨i, hi, vi, rfl⟩)
      obtain ⟨u, hu, eu⟩ := List.getElem_of_mem hm
      refine h.vert u hu ?_
      have eq1 : q1 (upL l) u = (fwdAt l i).1 ∧ q2 (upL l) u = (fwdAt l i).2.1 ∧ q4 (upL l) u = (fwdAt l i).2.2.2 := by
        simp [q1, q2, q4, List.getD_eq_getElem?_getD, hu, eu]
      rw [eq1.1, eq1.2.1, eq1.2.2]
      exact (crs_iff hok h.are hR ⟨i, hi, rfl⟩).2 ⟨j, hj, g1, g2, g3⟩
/-- strips by the heights in their middles are accepted where nothing crosses -/
theorem nobad_chk {l : List S4} {C : List SV} (hck : ckSegs l = 0) (hS : StripsAre l C) (hb : Geo.NoBad l.length (fwdAt l))
    (hm : ∀ k, k < C.length → ∀ p, p + 1 < (sL C k).length → cmA l (sL C k) (xAt l k + xAt l (k + 1)) p (p + 1) ≤ 0) : ChkOk l C := by
  have hok := ck_ok hck
  have ev := ev_of hok
  have hlen := hS.len
  have hstrip : ∀ k, k < C.length → Geo.StripOk l.length (fwdAt l) (xAt l) k (natsL (sL C k)) := fun k hk => by
    refine Geo.strip_of ev hb (by omega) (hS.nodup hk) (hS.span hk) (fun p hp => ?_)
    rw [natsL_len] at hp
    rw [natsL_getD _ (by omega), natsL_getD _ hp]
    have := (cmA_DD l (sL C k) (xAt l k + xAt l (k + 1)) p (p + 1)).2.1
    have := hm k hk p hp
    omega
  have hvert := Geo.vert_of ev hb
  have heach : ∀ j, j < C.length → stripB l C j := fun j hj => by
    have st := hstrip j hj
    obtain ⟨⟨e1, e2⟩, _⟩ := hS.mt j hj
    have hpos := fun p hp => hS.pos hok hj (i := p) hp
    unfold stripB
    rw [e1, e2]
    refine ⟨⟨ris_of st.rise, ?_⟩, ?_⟩
    · refine (crow_lone (fun p hp => ?_) hpos (hS.nodup hj)).2 st.low
      have := (st.rise p (by rw [natsL_len]; exact hp)).1
      rwa [natsL_getD _ (by omega), natsL_getD _ hp] at this
    · refine (crow_lone (fun p hp => ?_) hpos (hS.nodup hj)).2 st.high
      have := (st.rise p (by rw [natsL_len]; exact hp)).2.1
      rwa [natsL_getD _ (by omega), natsL_getD _ hp] at this
  refine ⟨hck, hS, heach, ?_, ?_⟩
  · refine (over_iff hok).2 (fun i j hi hj hij vi vj o => ?_)
    exact (hvert i hi vi j hj (Ne.symm hij)).1 ⟨vj, o.1, o.2.1, o.2.2⟩
  · intro u hu hc
    have hmem := upL_at hu
    obtain ⟨i, hi, vi, ei⟩ := vertTo_mem.1 ((upL_perm l).mem_iff.1 hmem)
    have e0 : q1 (upL l) u = (fwdAt l i).1 ∧ q2 (upL l) u = (fwdAt l i).2.1 ∧ q4 (upL l) u = (fwdAt l i).2.2.2 := by
      unfold q1 q2 q4; rw [ei]; exact ⟨rfl, rfl, rfl⟩
    rw [e0.1, e0.2.1, e0.2.2] at hc
    obtain ⟨j, hj, g1, g2, g3⟩ := (crs_iff hok hS (fun j hj => (heach j hj).1.1) ⟨i, hi, rfl⟩).1 hc
    have hji : j ≠ i := by
      rintro rfl
      omega
    exact (hvert i hi vi j hj hji).2 ⟨g1, g2, g3⟩

end Go.Proofs.YtpdfbboagaflhaaGreat

set_option linter.unusedSimpArgs false
set_option linter.unusedVariables false
namespace Go.Proofs.YtpdfbboagaflhaaGreat
open Go.RowKit

theorem nobad_iff {l : List S4} (hok : okSegs l = true) : Geo.NoBad l.length (fwdAt l) ↔ RowsFree l l.length l.length := by
  have hm : ∀ i j, i < l.length → j < l.length → Geo.meet4 (fwdAt l i) (fwdAt l j) = meetQ l i j := fun i j hi hj => meetI_f (okSegs_at l i hi hok) (okSegs_at l j hj hok)
  have hc : ∀ i j, i < l.length → j < l.length → meetQ l j i = meetQ l i j := fun i j hi hj => meetI_comm (okSegs_at l i hi hok) (okSegs_at l j hj hok)
  constructor
  · intro h i hi j hij hj
    have := h i j hi hj (by omega)
    unfold Geo.Ap at this
    rw [hm i j hi hj] at this
    unfold crB
    simpa using this
  · intro h i j hi hj hij
    unfold Geo.Ap
    rw [hm i j hi hj]
    rcases Nat.lt_or_ge i j with g | g
    · have := h i hi j g hj
      unfold crB at this
      simpa using this
    · have := h j hj i (by omega) hi
      unfold crB at this
      rw [← hc i j hi hj]
      simpa using this
/-- the strips that Sweep makes -/
def sweptC (l : List S4) : List SV := (List.range ((endXsL l).length - 1)).map fun k => (xAt l k, xAt l (k + 1), segsQ l k)
theorem sweptC_len (l : List S4) : (sweptC l).length = (endXsL l).length - 1 := by simp [sweptC]
theorem sweptC_at (l : List S4) {k : Nat} (h : k < (endXsL l).length - 1) : (sF (sweptC l) k = xAt l k ∧ sT (sweptC l) k = xAt l (k + 1)) ∧ sL (sweptC l) k = segsQ l k := by
  simp [sF, sT, sL, sweptC, List.getD_eq_getElem?_getD, h]
theorem pileL_at (l : List S4) (k : Nat) {h : H3} (hh : h ∈ pileL l k) : ∃ i : Nat, ((i : Int) ∈ spanI l k) ∧ h = (hgtN l (xAt l k + xAt l (k + 1)) i, hgtW l i, (i : Int)) := by
  obtain ⟨p, hp, e⟩ := List.getElem_of_mem hh
  rw [pileL_length] at hp
  have h1 := heightsTo_at l (spanN l k) (xAt l k + xAt l (k + 1)) (spanI l k).length p hp
  have h2 : (pileL l k).getD p (0, 0, 0) = h := by rw [List.getD_eq_getElem?_getD, List.getElem?_eq_getElem (by rw [pileL_length]; exact hp)]; exact e
  unfold pileL at h2
  rw [h1] at h2
  refine ⟨nat (spanN l k) p, ?_, h2.symm⟩
  rw [(spanN_at l k p hp).1, List.getD_eq_getElem?_getD, List.getElem?_eq_getElem hp]
  exact List.getElem_mem hp
theorem pileL_third (l : List S4) (k : Nat) : (pileL l k).map (fun h => h.2.2) = spanI l k := by
  apply List.ext_getElem
  · rw [List.length_map, pileL_length]
  · intro p h1 h2
    have hp : p < (spanI l k).length := h2
    have h3 := heightsTo_at l (spanN l k) (xAt l k + xAt l (k + 1)) (spanI l k).length p hp
    have h4 : (pileL l k).getD p (0, 0, 0) = (pileL l k)[p]'(by rw [pileL_length]; exact hp) := by rw [List.getD_eq_getElem?_getD, List.getElem?_eq_getElem (by rw [pileL_length]; exact hp)]; rfl
    unfold pileL at h4
    rw [h3] at h4
    rw [List.getElem_map]
    have h5 := congrArg (fun h : H3 => h.2.2) h4
    simp only at h5
    unfold pileL
    rw [← h5, (spanN_at l k p hp).1, List.getD_eq_getElem?_getD, List.getElem?_eq_getElem hp]
    rfl
theorem sortQ_perm (L : List H3) : (sortQ L).Perm L := List.mergeSort_perm _ _
theorem segsQ_perm (l : List S4) (k : Nat) : (segsQ l k).Perm (spanI l k) := by
  have := (sortQ_perm (pileL l k)).map (fun h : H3 => h.2.2)
  rw [pileL_third] at this
  exact this
theorem spanI_mem {l : List S4} {k i : Nat} : (i : Int) ∈ spanI l k ↔ i < l.length ∧ spanAt l (xAt l k) (xAt l (k + 1)) i = true := by
  unfold spanI
  rw [spanTo_span]
  constructor
  · rintro ⟨j, e, h1, h2⟩
    obtain rfl : i = j := by omega
    exact ⟨h1, h2⟩
  · rintro ⟨h1, h2⟩; exact ⟨i, rfl, h1, h2⟩
theorem sorted_eq {l : List Int} (h : l.Pairwise (· < ·)) {s : List Int} (hp : s.Perm l) : sortI s = l := by
  have h1 := sortI_le s
  have h2 : (sortI s).Perm l := (List.mergeSort_perm s _).trans hp
  exact h2.eq_of_pairwise (fun a b _ _ (x : a ≤ b) (y : b ≤ a) => by omega) h1 (h.imp (fun g => by omega))
theorem swept_are (l : List S4) : StripsAre l (sweptC l) where
  len := sweptC_len l
  mt j hj := by
    rw [sweptC_len] at hj
    obtain ⟨⟨e1, e2⟩, e3⟩ := sweptC_at l hj
    refine ⟨⟨e1, e2⟩, ?_⟩
    rw [e3]
    exact sorted_eq (spanTo_up l _ _ _).1 (segsQ_perm l j)
end Go.Proofs.YtpdfbboagaflhaaGreat

set_option linter.unusedSimpArgs false
set_option linter.unusedVariables false
namespace Go.Proofs.YtpdfbboagaflhaaGreat
open Go.RowKit

theorem xAt_bd' {l : List S4} (hok : okSegs l = true) (k : Nat) : 0 ≤ xAt l k ∧ xAt l k ≤ 10000 := by
  rcases Nat.lt_or_ge k (endXsL l).length with g | g
  · exact xAt_bd hok g
  · unfold xAt; rw [List.getD_eq_getElem?_getD, List.getElem?_eq_none g]; decide
theorem pile_of {l : List S4} (hok : okSegs l = true) (hb : Geo.NoBad l.length (fwdAt l)) {k : Nat} (hk : k + 1 < (endXsL l).length) : Pile (pileL l k) := by
  have ev := ev_of hok
  have hup := xAt_lt (l := l) (show k < k + 1 by omega) hk
  have b1 := xAt_bd' hok k
  have b2 := xAt_bd' hok (k + 1)
  have hel : ∀ h ∈ pileL l k, ∃ i : Nat, i < l.length ∧ ((fwdAt l i).1 ≤ xAt l k ∧ xAt l (k + 1) ≤ (fwdAt l i).2.2.1) ∧ h = (hgtN l (xAt l k + xAt l (k + 1)) i, hgtW l i, (i : Int)) := fun h hh => by
    obtain ⟨i, hi, e⟩ := pileL_at l k hh
    obtain ⟨h1, h2⟩ := spanI_mem.1 hi
    exact ⟨i, h1, span_iff.1 h2, e⟩
  refine ⟨fun h hh => ?_, fun h hh => ?_, fun h hh g hg e => ?_⟩
  · obtain ⟨i, hi, _, rfl⟩ := hel h hh
    obtain ⟨⟨o1, o2⟩, ⟨o3, o4⟩, _⟩ := okS_iff.1 (okSegs_at l i hi hok)
    have := h_bd (q1 l i) (q2 l i) (q3 l i) (q4 l i) (xAt l k + xAt l (k + 1)) o1 o2 o3 o4 (by omega)
    exact ⟨this.2, this.1⟩
  · obtain ⟨i, hi, hs, rfl⟩ := hel h hh
    have e2 : hgtW l i = 2 * ((fwdAt l i).2.2.1 - (fwdAt l i).1) := rfl
    simp only
    rw [e2]; omega
  · obtain ⟨i, hi, hs, rfl⟩ := hel h hh
    obtain ⟨j, hj, ht, rfl⟩ := hel g hg
    by_cases hij : i = j
    · subst hij; rfl
    · exfalso
      have := Geo.ap_ne (X := xAt l k + xAt l (k + 1)) (ev.ok i hi).1 (ev.ok j hj).1 (by omega) (by omega) (hb i j hi hj hij) (by omega) (by omega) (by omega) (by omega)
      refine this ?_
      have e1 : Geo.DD (fwdAt l i) (fwdAt l j) (xAt l k + xAt l (k + 1)) = hgtN l (xAt l k + xAt l (k + 1)) i * hgtW l j - hgtN l (xAt l k + xAt l (k + 1)) j * hgtW l i := rfl
      rw [e1]
      simp only at e
      omega
theorem pileQ_at {l : List S4} {k p : Nat} (hp : p < (segsQ l k).length) : (pileQ l k).getD p (0, 0, 0) = (hgtN l (xAt l k + xAt l (k + 1)) ((segsQ l k).getD p 0).toNat, hgtW l ((segsQ l k).getD p 0).toNat, (segsQ l k).getD p 0) := by
  have hl : p < (pileQ l k).length := by rw [pileQ_length]; rw [segsQ_length] at hp; exact hp
  have h1 : (pileQ l k)[p] ∈ pileL l k := (sortQ_perm (pileL l k)).mem_iff.1 (List.getElem_mem hl)
  obtain ⟨i, _, e⟩ := pileL_at l k h1
  have h2 : (segsQ l k).getD p 0 = ((pileQ l k)[p]).2.2 := by
    unfold segsQ
    rw [List.getD_eq_getElem?_getD, List.getElem?_map, List.getElem?_eq_getElem hl]; rfl
  rw [h2, List.getD_eq_getElem?_getD, List.getElem?_eq_getElem hl, e]
  simp
theorem mid_order {l : List S4} {k : Nat} (hP : Pile (pileL l k)) {p : Nat} (hp : p + 1 < (segsQ l k).length) : cmA l (segsQ l k) (xAt l k + xAt l (k + 1)) p (p + 1) ≤ 0 := by
  have hl : (pileQ l k).length = (segsQ l k).length := by rw [pileQ_length, segsQ_length]
  have hs : (sortQ (pileL l k)).Pairwise fun x y => ¬ ltQ y x = true := by
    have hp2 : (pileL l k).attach.map Subtype.val = pileL l k := List.attach_map_subtype_val _
    have := List.pairwise_mergeSort (le := fun (x y : PB (pileL l k)) => !ltQ y.1 x.1) (fun a b c h1 h2 => by
      simp only [ltQ, Bool.not_eq_true', decide_eq_false_iff_not] at *
      have := (fr_trans (hP.pos _ a.2) (hP.pos _ b.2) (hP.pos _ c.2) (show a.1.1 * b.1.2.1 ≤ b.1.1 * a.1.2.1 by omega) (show b.1.1 * c.1.2.1 ≤ c.1.1 * b.1.2.1 by omega)).1
      omega) (fun a b => by
      simp only [ltQ, Bool.or_eq_true, Bool.not_eq_true', decide_eq_false_iff_not]; omega) (pileL l k).attach
    have h2 : ((pileL l k).attach.mergeSort fun x y => !ltQ y.1 x.1).map Subtype.val = sortQ (pileL l k) := by
      unfold sortQ
      rw [List.map_mergeSort (s := fun x y => !ltQ y x) (fun a _ b _ => rfl), hp2]
    rw [← h2]
    refine List.pairwise_map.2 (this.imp fun {a b} h => ?_)
    simpa using h
  have h1 := List.pairwise_iff_getElem.1 hs p (p + 1) (by show p < (pileQ l k).length; omega) (by show p + 1 < (pileQ l k).length; omega) (by omega)
  have a1 := pileQ_at (l := l) (k := k) (p := p) (by omega)
  have a2 := pileQ_at (l := l) (k := k) (p := p + 1) hp
  have g1 : (pileQ l k).getD p (0, 0, 0) = (sortQ (pileL l k))[p]'(by show p < (pileQ l k).length; omega) := by rw [List.getD_eq_getElem?_getD, List.getElem?_eq_getElem (by omega)]; rfl
  have g2 : (pileQ l k).getD (p + 1) (0, 0, 0) = (sortQ (pileL l k))[p + 1]'(by show p + 1 < (pileQ l k).length; omega) := by rw [List.getD_eq_getElem?_getD, List.getElem?_eq_getElem (by omega)]; rfl
  rw [← g1, ← g2, a1, a2] at h1
  simp only [ltQ, decide_eq_true_eq] at h1
  have e : cmA l (segsQ l k) (xAt l k + xAt l (k + 1)) p (p + 1) = cmpI (hgtN l (xAt l k + xAt l (k + 1)) ((segsQ l k).getD p 0).toNat * hgtW l ((segsQ l k).getD (p + 1) 0).toNat) (hgtN l (xAt l k + xAt l (k + 1)) ((segsQ l k).getD (p + 1) 0).toNat * hgtW l ((segsQ l k).getD p 0).toNat) := rfl
  have := (Geo.cmpI_sub (hgtN l (xAt l k + xAt l (k + 1)) ((segsQ l k).getD p 0).toNat * hgtW l ((segsQ l k).getD (p + 1) 0).toNat) (hgtN l (xAt l k + xAt l (k + 1)) ((segsQ l k).getD (p + 1) 0).toNat * hgtW l ((segsQ l k).getD p 0).toNat)).2.1
  rw [e]
  omega
theorem swept_chk {l : List S4} (hck : ckSegs l = 0) (hb : Geo.NoBad l.length (fwdAt l)) : ChkOk l (sweptC l) := by
  have hok := ck_ok hck
  refine nobad_chk hck (swept_are l) hb (fun k hk p hp => ?_)
  rw [sweptC_len] at hk
  obtain ⟨_, e3⟩ := sweptC_at l hk
  rw [e3] at hp ⊢
  exact mid_order (pile_of hok hb (by omega)) hp
theorem stripCells_at (l : List S4) (vs : List Value) : ∀ (M j : Nat), j < M → (stripCells l vs M)[j * 3]? = some (.int .i64 (xAt l j)) ∧ (stripCells l vs M)[j * 3 + 1]? = some (.int .i64 (xAt l (j + 1))) ∧ (stripCells l vs M)[j * 3 + 2]? = some (vs.getD j undef)
  | 0, j, h => by omega
  | M + 1, j, h => by
    have hlen : ∀ M, (stripCells l vs M).length = M * 3 := fun M => by
      induction M with
      | zero => rfl
      | succ M ih => simp only [stripCells, List.length_append, ih]; simp; omega
    simp only [stripCells]
    rcases Nat.lt_or_ge j M with g | g
    · obtain ⟨a, b, c⟩ := stripCells_at l vs M j g
      rw [List.getElem?_append_left (by rw [hlen]; omega), List.getElem?_append_left (by rw [hlen]; omega), List.getElem?_append_left (by rw [hlen]; omega)]
      exact ⟨a, b, c⟩
    · obtain rfl : j = M := by omega
      rw [List.getElem?_append_right (by rw [hlen]; omega), List.getElem?_append_right (by rw [hlen]; omega), List.getElem?_append_right (by rw [hlen]; omega), hlen]
      rw [show j * 3 - j * 3 = 0 by omega, show j * 3 + 1 - j * 3 = 1 by omega, show j * 3 + 2 - j * 3 = 2 by omega]
      exact ⟨rfl, rfl, rfl⟩
/-- what Sweep lays is a slice of its strips -/
theorem swept_strps {l : List S4} {w : World} {base c : Nat} {a : Option Addr} {vs : List Value} (ho : w.ownsRow base 84 3 (.slice a ((endXsL l).length - 1) c) ((endXsL l).length - 1) (stripCells l vs ((endXsL l).length - 1)))
    (hv : ∀ j, j < (endXsL l).length - 1 → w.ownsRow base 3 1 (vs.getD j undef) (segsQ l j).length (inCells (segsQ l j))) (h0 : 0 < (endXsL l).length - 1) : ∃ cb co, a = some ⟨cb, co, none⟩ ∧ Strps w cb co ((endXsL l).length - 1) (sweptC l) := by
  obtain ⟨g, cap, hg0, hg1, hg2⟩ := ho.form h0
  obtain ⟨rfl, rfl⟩ : a = some ⟨g, 0, none⟩ ∧ c = cap := by cases hg0; exact ⟨rfl, rfl⟩
  refine ⟨g, 0, rfl, sweptC_len l, hg2, fun i hi => ?_⟩
  obtain ⟨c1, c2, c3⟩ := stripCells_at l vs _ i hi
  obtain ⟨⟨e1, e2⟩, e3⟩ := sweptC_at l hi
  rw [e1, e2, e3, Nat.zero_add]
  exact ⟨vs.getD i undef, ⟨(own_cell ho c1).1, (own_cell ho c2).1⟩, (own_cell ho c3).1, intsA_row (hv i hi)⟩

end Go.Proofs.YtpdfbboagaflhaaGreat

set_option linter.unusedSimpArgs false
set_option linter.unusedVariables false
namespace Go.Proofs.YtpdfbboagaflhaaGreat
open Go.RowKit

theorem planeSwept_all (w : World) (av : Option Addr) (n cap : Nat) (l : List S4) (hl : l.length = n) (hp : 0 < n → ∃ b off, av = some ⟨b, off, none⟩ ∧ Segs w b off n l)
    (cv : Option Addr) (N cc : Nat) (C : List SV) (hCn : C.length = N) (hC : 0 < N → ∃ cb co, cv = some ⟨cb, co, none⟩ ∧ Strps w cb co N C) (hN : N ≤ 17592186044415) (hlen : ∀ i, i < N → (sL C i).length ≤ 17592186044415) :
    Calls Tryz.prog 23 #[.slice av n cap, .slice cv N cc] w fun e w' => e = .returned (.bool true) ∧ New w w' := by
  by_cases hn : n ≤ 60
  · have hCat : ∀ w1, New w w1 → 0 < N → ∃ cb co, cv = some ⟨cb, co, none⟩ ∧ Strps w1 cb co N C := fun w1 h1 g => by
      obtain ⟨cb, co, e1, e2⟩ := hC g
      exact ⟨cb, co, e1, e2.new h1⟩
    have HT := fun (w1 : World) (h1 : New w w1) => thin_c cv N cc C w1 hN hCn (hCat w1 h1)
    cases ht : decide (thinW C N ≤ 4000)
    · rw [ht] at HT
      exact swept_thick av cv n cap N cc w hn (Lib.hid HT)
    · rw [ht] at HT
      by_cases h0 : 0 < n
      · obtain ⟨b, off, rfl, hw⟩ := hp h0
        have HX := fun (w1 : World) (h1 : New w w1) => Crossing_c b off n cap l w1 (by omega) (hw.new h1)
        have HAP := fun (w1 : World) (h1 : New w w1) => checkApart_c b off n cap l w1 (by omega) (hw.new h1)
        have HCK := fun (r : Bool) (hr : r = true ↔ ChkOk l C) (w1 : World) (h1 : New w w1) => checkSweep_c b off n cap N cc cv l C w1 h0 (by omega) (hw.new h1) hCn hN (hCat w1 h1) hlen r hr
        by_cases hck : ckSegs l = 0
        · have hok := ck_ok hck
          rcases Classical.em (RowsFree l l.length l.length) with hf | hf
          · have hb := (nobad_iff hok).2 hf
            refine swept_apart (some ⟨b, off, none⟩) cv n cap N cc (fun v w' => ∃ a c, v = .slice a ((endXsL l).length - 1) c ∧ (0 < (endXsL l).length - 1 → ∃ cb co, a = some ⟨cb, co, none⟩ ∧ Strps w' cb co ((endXsL l).length - 1) (sweptC l))) w hn (Lib.hid HT) (Lib.hid (fun w1 h1 => (HX w1 h1).mono fun e w' h => ⟨?_, h.2⟩)) (Lib.hid (fun w1 h1 => ?_)) (Lib.hid (fun v w1 h1 hR => ?_))
            · rcases h.1 with ⟨h2, _⟩ | ⟨_, _, h2⟩ | ⟨_, i, j, h2, h3, _, _, h4, _⟩
              · exact absurd hck h2
              · exact h2
              · have := hf i (by omega) j h2 h3
                rw [h4] at this; cases this
            · refine (sweep_any b off n cap l w1 h0 (by omega) (hw.new h1) hok (fun en hen => ?_) (xAt_bd' hok) (fun k hk => pile_of hok hb hk)).mono ?_
              · rcases hen with ⟨h2, _⟩ | ⟨_, _, h2⟩ | ⟨_, ⟨i, j, h2, h3, h4⟩, _⟩
                · exact absurd hck h2
                · exact h2
                · have := hf i (by omega) j h2 h3
                  rw [h4] at this; cases this
              · rintro e w' ⟨a, c, vs, he, _, ho, hv, hnew⟩
                exact ⟨a, (endXsL l).length - 1, c, he, ⟨a, c, rfl, fun g => swept_strps ho hv g⟩, hnew⟩
            · obtain ⟨a, c, rfl, hst⟩ := hR
              have hle := endXsL_le l
              exact checkSweep_c b off n cap ((endXsL l).length - 1) c a l (sweptC l) w1 h0 (by omega) (hw.new h1) (sweptC_len l) (by omega) hst (fun i hi => by
                have := (swept_are l).small (show i < (sweptC l).length by rw [sweptC_len]; exact hi); omega) true ⟨fun _ => swept_chk hck hb, fun _ => rfl⟩
          · refine swept_cross (some ⟨b, off, none⟩) cv n cap N cc w hn (Lib.hid HT) (Lib.hid (fun w1 h1 => (HX w1 h1).mono fun e w' h => ⟨?_, h.2⟩)) (Lib.hid (fun w1 h1 => sweep_err (some ⟨b, off, none⟩) n cap 10 w1 (by decide) (Lib.hid (fun w2 h2 => (HAP w2 (h1.trans h2)).mono fun e w' h => ⟨?_, h.2⟩)))) (Lib.hid (HCK false ⟨fun e => (by cases e), fun h => absurd ((nobad_iff hok).1 (chk_nobad h)) hf⟩))
            · rcases h.1 with ⟨h2, _⟩ | ⟨_, h2, _⟩ | ⟨_, i, j, _, _, _, _, _, h2⟩
              · exact absurd hck h2
              · exact absurd h2 hf
              · exact ⟨i, j, h2⟩
            · rcases h.1 with ⟨h2, _⟩ | ⟨_, h2, _⟩ | ⟨_, _, h2⟩
              · exact absurd hck h2
              · exact absurd h2 hf
              · exact h2
        · refine swept_bad (some ⟨b, off, none⟩) cv n cap N cc (ckSegs l) w hn hck (Lib.hid HT) (Lib.hid (fun w1 h1 => (HX w1 h1).mono fun e w' h => ⟨?_, h.2⟩)) (Lib.hid (fun w1 h1 => sweep_err (some ⟨b, off, none⟩) n cap (ckSegs l) w1 hck (Lib.hid (fun w2 h2 => (HAP w2 (h1.trans h2)).mono fun e w' h => ⟨?_, h.2⟩)))) (Lib.hid (HCK false ⟨fun e => (by cases e), fun h => absurd h.segs hck⟩))
          · rcases h.1 with ⟨_, h2⟩ | ⟨h2, _⟩ | ⟨h2, _⟩
            · exact h2
            · exact absurd h2 hck
            · exact absurd h2 hck
          · rcases h.1 with ⟨_, h2⟩ | ⟨h2, _⟩ | ⟨h2, _⟩
            · exact h2
            · exact absurd h2 hck
            · exact absurd h2 hck
      · obtain rfl : n = 0 := by omega
        exact swept_apart av cv 0 cap N cc (fun v _ => v = .slice none 0 0) w hn (Lib.hid HT) (Lib.hid (fun w1 _ => crossing_none av cap w1)) (Lib.hid (fun w1 _ => (sweep_nil av cap w1).mono fun e w' h => ⟨none, 0, 0, h.1, rfl, h.2⟩)) (Lib.hid (fun v w1 _ hv => by
          subst hv
          exact checkSweep_nil av none cap 0 0 w1))
  · exact swept_long av cv n cap N cc w (by omega)

end Go.Proofs.YtpdfbboagaflhaaGreat

set_option linter.unusedSimpArgs false
set_option linter.unusedVariables false
set_option linter.constructorNameAsVariable false
set_option maxRecDepth 100000
namespace Go.Proofs.YtpdfbboagaflhaaGreat
open Go.ChangeShapes Go.WideShapes Go.ChangeAt Go.RowKit Go.Joins Go.Deep

section
variable {H : Type} {enc : TypeId × Value → H} {W : World} {base b0 fuel : Nat} {spare : Nat → Bool} {held : Bool} {v : Value} {d : DataW H} {p : List MemPlace}
theorem weights_all {P : Program} {e : TypeId} : ∀ {l : List (DataW H)} {i : Nat} {d : DataW H}, l[i]? = some d → ∀ n ∈ d.weights P e, n ∈ DataW.weightsAll P e l
  | d0 :: r, 0, d, hd, n, hn => by
    simp only [List.getElem?_cons_zero, Option.some.injEq] at hd
    subst hd
    simp only [DataW.weightsAll, List.mem_append]
    exact Or.inl hn
  | d0 :: r, i + 1, d, hd, n, hn => by
    simp only [List.getElem?_cons_succ] at hd
    simp only [DataW.weightsAll, List.mem_append]
    exact Or.inr (weights_all hd n hn)
  | [], _, _, hd, _, _ => by simp at hd
theorem bytes_3 : Tryz.prog.bytesOf 3 = 8 := by kernel_rfl
theorem bytes_84 : Tryz.prog.bytesOf 84 = 40 := by kernel_rfl
theorem cells_82 : Tryz.prog.cellsOf 82 = 1 := by kernel_rfl
theorem cells_84 : Tryz.prog.cellsOf 84 = 3 := by kernel_rfl
theorem list_3 {cs : List Value} (h : cs.length = 3) : ∃ a b c, cs = [a, b, c] := by
  match cs, h with
  | [a, b, c], _ => exact ⟨a, b, c, rfl⟩
theorem ints_trod {x : DataW H × List MemPlace} (h : DataW.trod enc Tryz.prog W base spare held fuel 82 [v] = some x) :
    ∃ L : List Int, IntsA W v L ∧ ((∀ k ∈ x.1.weights Tryz.prog 82, k ≤ reachBytes) → L.length ≤ 17592186044415) := by
  rcases open_slice1 Tryz.underlying82 cells_3 h with ⟨hcs, _⟩ | ⟨a, len, cap, m, n, V, D, Pl, hcs, _, hlc, _, hm, hx, hi⟩
  · simp only [List.cons.injEq, and_true] at hcs
    subst hcs
    exact ⟨[], ⟨none, 0, rfl, fun h => absurd h (by simp)⟩, fun _ => by simp⟩
  · simp only [List.cons.injEq, and_true] at hcs
    subst hcs
    have hnm : len ≤ m := by rw [hm]; split <;> omega
    have hV : ∀ i, i < len → ∃ q : Int, V i = .int .i64 q := fun i hi' => by
      obtain ⟨_, ht⟩ := hi i (by omega)
      obtain ⟨q, e, _⟩ := DataW.trod_int Tryz.underlying3 ht
      simp only [List.cons.injEq, and_true] at e
      exact ⟨q, e⟩
    obtain ⟨q, hq⟩ := choose_lt hV
    refine ⟨(List.range len).map q, ⟨some a, cap, by simp, fun h0 => ?_⟩, fun hz => ?_⟩
    · simp only [List.length_map, List.length_range] at h0
      obtain ⟨b, off, spot⟩ := a
      have hspot : spot = none := by simpa [Addr.add] using World.cell?_spot (hi 0 (by omega)).1
      subst hspot
      have hcell : ∀ i, i < len → W.cell? ⟨b, off + i, none⟩ = some (.int .i64 (q i)) := fun i hi' => by
        have := (hi i (by omega)).1
        rw [hq i hi'] at this
        rwa [add_plain] at this
      refine ⟨b, off, rfl, rfl, cell_lt (hcell 0 h0), fun i hi' => ?_⟩
      simp only [List.length_map, List.length_range] at hi'
      rw [show ((List.range len).map q).getD i 0 = q i by simp [List.getD_eq_getElem?_getD, hi']]
      exact hcell i hi'
    · have := hz ((len + (m - len)) * Tryz.prog.bytesOf 3) (by rw [hx]; simp [DataW.weights, Tryz.underlying82])
      rw [bytes_3] at this
      unfold reachBytes at this
      simp only [List.length_map, List.length_range]
      omega
theorem strip_trod {cs : List Value} {x : DataW H × List MemPlace} (h : DataW.trod enc Tryz.prog W base spare held fuel 84 cs = some x) :
    ∃ q : SV, (∃ v, cs = [.int .i64 q.1, .int .i64 q.2.1, v] ∧ IntsA W v q.2.2) ∧ ((∀ k ∈ x.1.weights Tryz.prog 84, k ≤ reachBytes) → q.2.2.length ≤ 17592186044415) := by
  obtain ⟨y0, y1, y2, n, hx, hl, h0, h1, h2⟩ := trod_struct3 Tryz.underlying84 h
  rw [cells_84] at hl
  obtain ⟨c0, c1, c2, rfl⟩ := list_3 hl
  simp only [cells_3, cells_82, List.drop, List.take] at h0 h1 h2
  obtain ⟨a, e0, _⟩ := DataW.trod_int Tryz.underlying3 h0
  obtain ⟨b, e1, _⟩ := DataW.trod_int Tryz.underlying3 h1
  simp only [List.cons.injEq, and_true] at e0 e1
  subst e0; subst e1
  obtain ⟨L, hL, hb⟩ := ints_trod h2
  refine ⟨(a, b, L), ⟨c2, rfl, hL⟩, fun hz => hb fun k hk => hz k ?_⟩
  rw [hx]
  simp only [DataW.weights, Tryz.underlying84, DataW.weightsEach, List.map, List.mem_append]
  exact Or.inr (Or.inr (Or.inl hk))
theorem open_strips (hv : Value.okWide Tryz.prog W .any b0 65 v) (h : DataW.Trod enc Tryz.prog W base spare held 65 v d p) (hz : ∀ k ∈ d.weights Tryz.prog 65, k ≤ reachBytes) :
    ∃ cv N cc C, v = .slice cv N cc ∧ C.length = N ∧ (0 < N → ∃ cb co, cv = some ⟨cb, co, none⟩ ∧ Strps W cb co N C) ∧ N ≤ 17592186044415 ∧ ∀ i, i < N → (sL C i).length ≤ 17592186044415 := by
  obtain ⟨av, n, cap, rfl⟩ := okWide_slice Tryz.underlying65 hv
  obtain ⟨fuel, hf⟩ := h
  rcases open_slice Tryz.underlying65 hf with ⟨hcs, _⟩ | ⟨a, len, cap', m, n', D, Pl, hcs, _, hlc, _, hm, hx, hi⟩
  · simp only [Value.cells, List.cons.injEq, Value.slice.injEq, and_true] at hcs
    obtain ⟨rfl, rfl, rfl⟩ := hcs
    exact ⟨none, 0, 0, [], rfl, rfl, fun h => absurd h (by omega), by omega, fun i hi => absurd hi (by omega)⟩
  · simp only [Value.cells, List.cons.injEq, Value.slice.injEq, and_true] at hcs
    obtain ⟨rfl, rfl, rfl⟩ := hcs
    have hnm : n ≤ m := by rw [hm]; split <;> omega
    have hd : d = .slice ((List.range n).map D) ((List.range (m - n)).map fun j => D (n + j)) := congrArg Prod.fst hx
    have hN : n ≤ 17592186044415 := by
      have := hz ((n + (m - n)) * Tryz.prog.bytesOf 84) (by rw [hd]; simp [DataW.weights, Tryz.underlying65])
      rw [bytes_84] at this
      unfold reachBytes at this
      omega
    have hel : ∀ i, i < n → ∀ k ∈ (D i).weights Tryz.prog 84, k ≤ reachBytes := fun i hi' k hk => hz k (by
      rw [hd]
      simp only [DataW.weights, Tryz.underlying65, List.mem_cons, List.mem_append]
      exact Or.inr (Or.inl (weights_all (i := i) (d := D i) (by simp [hi']) k hk)))
    have hx : ∀ i, i < n → ∃ q : SV, (∃ v, (W.cell? (a.add (i * 3)) = some (.int .i64 q.1) ∧ W.cell? (a.add (i * 3 + 1)) = some (.int .i64 q.2.1)) ∧ W.cell? (a.add (i * 3 + 2)) = some v ∧ IntsA W v q.2.2) ∧ q.2.2.length ≤ 17592186044415 := fun i hi' => by
      obtain ⟨cs', hc, ht⟩ := hi i (by omega)
      rw [cells_84] at hc
      obtain ⟨q, ⟨v, rfl, hL⟩, hb⟩ := strip_trod ht
      obtain ⟨_, _, hat⟩ := World.cells?_some hc
      have g0 := hat 0 (by omega)
      have g1 := hat 1 (by omega)
      have g2 := hat 2 (by omega)
      rw [add_add] at g0 g1 g2
      exact ⟨q, ⟨v, ⟨by simpa using g0, by simpa using g1⟩, by simpa using g2, hL⟩, hb (hel i hi')⟩
    obtain ⟨q, hq⟩ := choose_lt hx
    have e1 : ∀ i, i < n → ((List.range n).map q).getD i (0, 0, []) = q i := fun i hi' => by simp [List.getD_eq_getElem?_getD, hi']
    refine ⟨some a, n, cap, (List.range n).map q, rfl, by simp, fun h0 => ?_, hN, fun i hi' => ?_⟩
    · obtain ⟨b, off, spot⟩ := a
      obtain ⟨⟨v0, ⟨k0, _⟩, _⟩, _⟩ := hq 0 h0
      have hspot : spot = none := by simpa [Addr.add] using World.cell?_spot k0
      subst hspot
      rw [add_plain] at k0
      refine ⟨b, off, rfl, by simp, cell_lt k0, fun i hi' => ?_⟩
      obtain ⟨⟨v, ⟨k0, k1⟩, k2, k3⟩, _⟩ := hq i hi'
      rw [add_plain] at k0 k1 k2
      refine ⟨v, ⟨?_, ?_⟩, k2, ?_⟩
      · simp only [sF, e1 i hi']; exact k0
      · simp only [sT, e1 i hi']; exact k1
      · simp only [sL, e1 i hi']; exact k3
    · simp only [sL, e1 i hi']; exact (hq i hi').2
end
end Go.Proofs.YtpdfbboagaflhaaGreat

set_option linter.unusedSimpArgs false
set_option linter.unusedVariables false
set_option linter.constructorNameAsVariable false
namespace Go.Proofs.YtpdfbboagaflhaaGreat
open Go.ChangeShapes Go.WideShapes Go.ChangeAt Go.RowKit Go.Joins
set_option maxRecDepth 100000

theorem jSw_wf : Rows.planeSweptRow.wf (OpenSpec.ofChange Rows.planeSweptSpec) = true := by kernel_rfl
theorem jSw_par : Tryz.f23.params.all (Tryz.prog.readableRec ·) = true := by kernel_rfl
theorem jSw_tie : namedTie Tryz.prog Rows.planeSweptRow.named Rows.planeSweptSpec.vars = true := by kernel_rfl
theorem jSw_st : (Rows.planeSweptRow.stops == []) = true := by kernel_rfl
theorem jSw_kn : (Rows.planeSweptRow.knobs == []) = true := by kernel_rfl
theorem jSw_inp : (Rows.planeSweptRow.inPlace == Tryz.prog.inPlace 23) = true := by kernel_rfl
theorem jSw_unf : (Rows.planeSweptRow.unfollowed == Tryz.prog.unfollowed 23) = true := by kernel_rfl
theorem jSw_rec : (Rows.planeSweptRow.recurses == Tryz.prog.recurses 23) = true := by kernel_rfl
theorem jSw_nam : (Rows.planeSweptRow.named == Tryz.prog.varsNamed 23) = true := by kernel_rfl
theorem jSw_maps : (Rows.planeSweptRow.maps == (Tryz.f23.params.toList ++ Rows.planeSweptSpec.plain.varTypes Tryz.prog).any (Tryz.prog.mapsRec ·)) = true := by kernel_rfl
theorem jSw_ifs : (Rows.planeSweptRow.ifaces == (Tryz.f23.params.toList ++ Rows.planeSweptSpec.plain.varTypes Tryz.prog).any (Tryz.prog.ifacesRec ·)) = true := by kernel_rfl
theorem jSw_mout : (Rows.planeSweptRow.mapsOut == Tryz.prog.mapsAmong Tryz.f23.resultTypes.toList) = true := by kernel_rfl
theorem jSw_loops : (Rows.planeSweptRow.loops == (Tryz.f23.params.toList ++ Rows.planeSweptSpec.plain.varTypes Tryz.prog).any (Tryz.prog.loopsFrom ·)) = true := by kernel_rfl
theorem jSw_wide : (Rows.planeSweptRow.wideKeys == (Tryz.f23.params.toList ++ Rows.planeSweptSpec.plain.varTypes Tryz.prog ++ Tryz.f23.resultTypes.toList).any (Tryz.prog.wideKeysFrom ·)) = true := by kernel_rfl
theorem jSw_vars : Rows.planeSweptSpec.vars.all (Tryz.prog.varReadable ·) = true := by kernel_rfl
theorem jSw_res : Tryz.f23.resultTypes.all (fun t => Tryz.prog.readableRec t && decide (t < Tryz.prog.types.size)) = true := by kernel_rfl
theorem jSw_iout : (Rows.planeSweptRow.ifacesOut == Tryz.f23.resultTypes.toList.any (Tryz.prog.ifacesRec ·)) = true := by kernel_rfl
theorem jSw_lout : (Rows.planeSweptRow.loopsOut == Tryz.f23.resultTypes.toList.any (Tryz.prog.loopsFrom ·)) = true := by kernel_rfl
theorem jSw_plain : (Rows.planeSweptRow.plainKeys == Tryz.prog.plainKeys) = true := by kernel_rfl
theorem jSw_short : Rows.planeSweptRow.shortTexts.isNone = true := by kernel_rfl
theorem jSw_lift0 : (Rows.planeSweptRow.lifted == false) = true := by kernel_rfl
theorem jSw_lift : (Rows.planeSweptRow.lifted == Tryz.prog.liftsFinal) = true := (congrArg (fun b => (Rows.planeSweptRow.lifted == b)) lift_is).trans jSw_lift0
theorem jSw_make0 : (some Make.cut == some Rows.planeSweptRow.make) = true := by kernel_rfl
theorem jSw_make : (Tryz.prog.make == some Rows.planeSweptRow.make) = true := (congrArg (fun b => (b == some Rows.planeSweptRow.make)) make_is).trans jSw_make0
theorem jSw_kinds : (Rows.planeSweptRow.kinds == (if Rows.planeSweptRow.domain.isEmpty then [] else Tryz.f23.params.toList.map fun t => match Tryz.prog.underlying t with | some (.int k) => some k | _ => none)) = true := by kernel_rfl
theorem jSw_pin : (Rows.planeSweptRow.pinned == Rows.planeSweptRow.pinnedBy) = true := by kernel_rfl
theorem jSw_veil : (Rows.planeSweptRow.veiled == (Tryz.f23.params.toList ++ Rows.planeSweptSpec.plain.varTypes Tryz.prog ++ Tryz.f23.resultTypes.toList).any (Tryz.prog.veiledRec ·)) = true := by kernel_rfl
theorem jSw_vfit : Rows.planeSweptRow.veiledFits Tryz.prog Tryz.f23.params.toList (Tryz.f23.params.toList ++ Rows.planeSweptSpec.plain.varTypes Tryz.prog ++ Tryz.f23.resultTypes.toList) = true := by kernel_rfl
theorem jSw_closed : joinedFacts Tryz.prog 23 Tryz.f23 Rows.planeSweptSpec Rows.planeSweptRow = true := (b_and (b_and (b_and (b_and (b_and (b_and (b_and (b_and (b_and (b_and (b_and (b_and (b_and (b_and (b_and (b_and (b_and (b_and (b_and (b_and (b_and (b_and (b_and (b_and (b_and (b_and (b_and (b_and (b_and (b_and (b_and jSw_wf jp_laid) jp_rowed) jSw_par) jSw_tie) jSw_st) jp_stops) jSw_kn) jp_knobs) jSw_inp) jSw_unf) jSw_rec) jSw_nam) jSw_maps) jSw_ifs) jSw_mout) jSw_loops) jSw_wide) jSw_vars) jSw_res) jSw_iout) jSw_lout) jSw_plain) jSw_short) jp_heard) jp_enter) jSw_lift) jSw_make) jSw_kinds) jSw_pin) jSw_veil) jSw_vfit)
theorem jSw_name : Tryz.prog.funcNamed Rows.planeSweptRow.func = some 23 := by kernel_rfl
theorem jSw_inst : Tryz.f23.isInstance Tryz.prog Rows.planeSweptRow.origin Rows.planeSweptRow.targs := of_decide_eq_true (by kernel_rfl)
theorem jSw_wrap : Tryz.f23.isWrapper Tryz.prog Rows.planeSweptRow.wrapper Rows.planeSweptRow.mainSum := by unfold Func.isWrapper; rw [if_neg (by decide +kernel)]; exact ⟨rfl, rfl⟩

set_option maxHeartbeats 2000000 in
theorem jSw_lifted (os : Os) (started : os.Started) (H : Type) (enc : TypeId × Value → H) :
    ReturnsInHanded {} Tryz.checked os 23 .any (Rows.planeSweptSpec.pre6 enc Tryz.prog Tryz.f23 Rows.planeSweptRow.domain false) (Rows.planeSweptSpec.post enc Tryz.prog Tryz.f23 false true false false) := by
  refine returnsInHanded_of_change_sized (C := Tryz.checked) own_knob started (by kernel_rfl) Tryz.func23
    (ChangeSpec.witness6 (enc := enc) (C := Tryz.checked) false ⟨#[], #[.slice none 0 0, .slice none 0 0], []⟩ 8 (by kernel_rfl) (by kernel_rfl) (by kernel_rfl) (by kernel_rfl)) ?_
  intro W base args ds gs before hval0 hW hcnd hsz _
  have hval : ∀ (j : Nat) t v, Tryz.f23.params[j]? = some t → args[j]? = some v → Value.okWide Tryz.prog W .any base t v := hval0
  have hW' := hW
  obtain ⟨p, q, hA0, hV, rfl, hfz, hnd⟩ := hW
  have hA : DataW.TrodAll enc Tryz.prog W 0 (fun _ => true) true Tryz.f23.params.toList args.toList ds p := hA0
  rw [Tryz.params23] at hA hval
  obtain ⟨v0, vs0, d0, ds0, p0, q0, hargs, rfl, rfl, h0, r0⟩ := trodAll_cons hA
  obtain ⟨v1, vs1, d1, ds1, p1, q1, rfl, rfl, rfl, h1, r1⟩ := trodAll_cons r0
  obtain ⟨rfl, rfl, rfl⟩ := trodAll_nil r1
  obtain rfl : args = #[v0, v1] := by cases args; simp_all
  obtain ⟨rfl, rfl⟩ := trodVars_none hV
  have hlt : ∀ x ∈ p0 ++ p1, x.block < W.heap.size := fun x hx => hW'.lt x (by simpa using hx)
  have g0 := h0
  obtain ⟨av0, n0, cap0, l0, rfl, hl0, hp0⟩ := open_segs (hval 0 58 v0 rfl rfl) h0
  have g1 := h1
  have hz1 : ∀ k ∈ d1.weights Tryz.prog 65, k ≤ reachBytes := fun k hk => of_decide_eq_true (List.all_eq_true.1 hsz k (DataW.weights_mem_each (j := 1) (t := 65) (d := d1) (by rw [Tryz.params23]; rfl) rfl k hk))
  obtain ⟨cv1, N1, cc1, C1, rfl, hCn1, hC1, hN1, hlen1⟩ := open_strips (hval 1 65 v1 rfl rfl) h1 hz1
  clear hA0 hval0 hval
  refine (planeSwept_all W av0 n0 cap0 l0 hl0 hp0 cv1 N1 cc1 C1 hCn1 hC1 hN1 hlen1).mono fun e W' ⟨he, hg⟩ => ?_
  subst he
  have t1 := Below.trod laidOut (by kernel_rfl) (of_decide_eq_true (by kernel_rfl)) g1 hg.below (fun x hx => hlt x (by simp [hx]))
  have t0 := Below.trod laidOut (by kernel_rfl) (of_decide_eq_true (by kernel_rfl)) g0 hg.below (fun x hx => hlt x (by simp [hx]))
  exact ⟨_, rfl, _, _, _, _, _, _, hW', trodAll_cons_mk (shut_bool Tryz.underlying4 _) trodAll_mk0, trodAll_cons_mk t0 (trodAll_cons_mk t1 trodAll_mk0), rfl, hg.below.frame _, fun h => by cases h⟩

/-- PlaneSwept, as it is given -/
theorem planeSwept_proved : Rows.PlaneSweptSaid :=
  OpenClaim.holds_of_wide 23 Tryz.f23 rfl rfl rfl rfl rfl rfl rfl ⟨rfl, rfl, rfl, rfl, rfl⟩ rfl rfl rfl rfl rfl jSw_name Tryz.func23 jSw_closed jSw_inst jSw_wrap
    (fun os started H enc _ => jSw_lifted os started H enc)

end Go.Proofs.YtpdfbboagaflhaaGreat
