/- Whether a recipe is valid, as isRecipe returns it. · Names that come twice: Index, Contains, hasTwice. -/
import Derived.Test.YtpjekinmcdglbaaCy
import Derived.BigQuiet
import Derived.Deep.DeepCutAuto

section
set_option linter.unusedSimpArgs false
set_option linter.unusedVariables false
set_option maxRecDepth 100000
namespace Go.Proofs.Ytpjekinmcdglbaa
open Go.RowKit

theorem all_snoc (f : Nat → Bool) (k : Nat) : (List.range (k + 1)).all f = ((List.range k).all f && f k) := by
  rw [List.range_succ, List.all_append]; simp
theorem all_miss {f : Nat → Bool} {k n : Nat} (h : k < n) (e : f k = false) : (List.range n).all f = false := by
  rw [Bool.eq_false_iff]; intro g
  have := List.all_eq_true.1 g k (List.mem_range.2 h)
  rw [e] at this; cases this
def pT (P : List (Int × Int)) (i : Nat) : Int := (P.getD i (0, 0)).1
def pW (P : List (Int × Int)) (i : Nat) : Int := (P.getD i (0, 0)).2
/-- parts of a recipe: their numbers lie in the cells of the block b from off on -/
def Prts (w : World) (b off n : Nat) (P : List (Int × Int)) : Prop := P.length = n ∧ b < w.heap.size ∧ ∀ i, i < n → w.cell? ⟨b, off + i * 2, none⟩ = some (.int .i64 (pT P i)) ∧ w.cell? ⟨b, off + i * 2 + 1, none⟩ = some (.int .i64 (pW P i))
theorem Prts.new {w w1 : World} {b off n : Nat} {P : List (Int × Int)} (h : Prts w b off n P) (hn : New w w1) : Prts w1 b off n P := by
  obtain ⟨h1, h2, h3⟩ := h
  exact ⟨h1, Nat.lt_of_lt_of_le h2 hn.size, fun i hi => by rw [hn.cell h2, hn.cell h2]; exact h3 i hi⟩
def lastT (P : List (Int × Int)) : Nat → Int
  | 0 => -1
  | i + 1 => pT P i
def gcdTo (P : List (Int × Int)) : Nat → Int
  | 0 => 0
  | k + 1 => gcdI (gcdTo P k) (pW P k)
def okPt (P : List (Int × Int)) (m : Nat) (i : Nat) : Bool := (decide (lastT P i < pT P i) && decide (pT P i < (m : Int))) && (decide (1 ≤ pW P i) && decide (pW P i ≤ 1000000000000))
def recB (P : List (Int × Int)) (m : Nat) : Bool := ((decide (1 ≤ P.length) && decide (P.length ≤ 4)) && (List.range P.length).all (okPt P m)) && (gcdTo P P.length == 1)
theorem gcdTo_bd {P : List (Int × Int)} {m : Nat} : ∀ {k : Nat}, (List.range k).all (okPt P m) = true → 0 ≤ gcdTo P k ∧ gcdTo P k ≤ 1000000000000
  | 0, _ => by simp [gcdTo]
  | k + 1, h => by
    rw [all_snoc, Bool.and_eq_true] at h
    have h2 := h.2
    unfold okPt at h2
    simp only [Bool.and_eq_true, decide_eq_true_eq] at h2
    have := gcdI_pos (gcdTo P k) (pW P k) (by omega)
    simp only [gcdTo]; omega

set_option maxHeartbeats 16000000 in
theorem isRecipe_c (tv pv : Option Addr) (m tc n pc : Nat) (P : List (Int × Int)) (w : World) (hm : m ≤ 17592186044415) (hn : n ≤ 17592186044415) (hP : P.length = n) (hp : 0 < n → ∃ b off, pv = some ⟨b, off, none⟩ ∧ Prts w b off n P) :
    Calls Try.prog 48 #[.slice tv m tc, .agg #[.slice pv n pc]] w fun en w' => en = .returned (.bool (recB P m)) ∧ New w w' := by
  have HP := Lib.hid hp
  have HR := Lib.hid (show recB P m = (((decide (1 ≤ n) && decide (n ≤ 4)) && (List.range n).all (okPt P m)) && (gcdTo P n == 1)) by unfold recB; rw [hP])
  have HO := Lib.hid (show ∀ i, okPt P m i = ((decide (lastT P i < pT P i) && decide (pT P i < (m : Int))) && (decide (1 ≤ pW P i) && decide (pW P i ≤ 1000000000000))) from fun _ => rfl)
  have HL0 := Lib.hid (show lastT P 0 = -1 from rfl)
  have HL := Lib.hid (show ∀ i, lastT P (i + 1) = pT P i from fun _ => rfl)
  have HG0 := Lib.hid (show gcdTo P 0 = 0 from rfl)
  have HG := Lib.hid (show ∀ i, gcdTo P (i + 1) = gcdI (gcdTo P i) (pW P i) from fun _ => rfl)
  have HGB := Lib.hid (fun k (h : (List.range k).all (okPt P m) = true) => gcdTo_bd h)
  clear hp hP
  generalize recB P m = R at *
  generalize okPt P m = ok at *
  generalize lastT P = la at *
  generalize gcdTo P = gc at *
  have HNEW := Lib.hid (New.refl w)
  by_cases h1 : (n : Int) < 1
  · have HF := Lib.hid (show false = R by rw [HR.out, decide_eq_false (show ¬ 1 ≤ n by omega)]; rfl)
    go_enter Try.func48, Try.ntmps48
    go_wp2_with fail
    all_goals (go_ret; exact ⟨ret_bool HF.out, (by (repeat (first | exact HNEW.out | exact New.refl _ | apply New.alloc | apply New.aft | apply New.drew | refine New.setCell ?_ ?_ _)); all_goals (first | done | (simp [size_aft]; done) | (simp [size_aft]; omega)))⟩)
  · by_cases h4 : (4 : Int) < (n : Int)
    · have HF := Lib.hid (show false = R by rw [HR.out, decide_eq_false (show ¬ n ≤ 4 by omega)]; simp)
      go_enter Try.func48, Try.ntmps48
      go_wp2_with fail
      all_goals (go_ret; exact ⟨ret_bool HF.out, (by (repeat (first | exact HNEW.out | exact New.refl _ | apply New.alloc | apply New.aft | apply New.drew | refine New.setCell ?_ ?_ _)); all_goals (first | done | (simp [size_aft]; done) | (simp [size_aft]; omega)))⟩)
    · have hd1 : decide (1 ≤ n) = true := decide_eq_true (by omega)
      have hd4 : decide (n ≤ 4) = true := decide_eq_true (by omega)
      rw [hd1, hd4] at HR
      clear hd1 hd4 HNEW
      go_enter Try.func48, Try.ntmps48
      go_wp2_with fail
      go_loopw [5, 6, 22] (fun s5 s6 i wr => ∃ k : Nat, k ≤ n ∧ i = .int .i64 k ∧ s5 = .int .i64 (la k) ∧ s6 = .int .i64 (gc k) ∧ (List.range k).all ok = true ∧ New w wr) (fun _ _ i _ => n - (intOf i).toNat)
      case atStart => exact ⟨0, Nat.zero_le _, rfl, by rw [HL0.out], by rw [HG0.out], rfl, (by (repeat (first | exact New.refl _ | apply New.alloc | apply New.aft | apply New.drew | refine New.setCell ?_ ?_ _)); all_goals (first | done | (simp [size_aft]; done) | (simp [size_aft]; omega)))⟩
      case round =>
        obtain ⟨k, hk, rfl, rfl, rfl, hall, hnew⟩ := hrel
        obtain ⟨U1, rfl⟩ : ∃ U1 : World, U1 = wr := ⟨_, rfl⟩
        have HALL := Lib.hid hall
        have HNEW := Lib.hid hnew
        have hgb := HGB.out k hall
        clear hall hnew
        by_cases hlt : k < n
        · obtain ⟨b, off, rfl, hpr⟩ := HP.out (by omega)
          obtain ⟨_, gl, hcc⟩ := hpr.new HNEW.out
          obtain ⟨c1, c2⟩ := hcc k hlt
          have hk1 : (k : Int) < (n : Int) := by omega
          have HOk := Lib.hid (HO.out k)
          have HLk := Lib.hid (HL.out k)
          have HGk := Lib.hid (HG.out k)
          have HSN := Lib.hid (all_snoc ok k)
          have HMS := Lib.hid (fun (e : ok k = false) => (by rw [HR.out, all_miss hlt e]; rfl : R = false))
          clear hcc hpr
          generalize pT P k = T at *
          generalize pW P k = X at *
          generalize la k = L at *
          generalize hgc : gc k = G at *
          clear hgc
          by_cases u1 : T ≤ L
          · have HF := Lib.hid (show false = R from (HMS.out (by rw [HOk.out, decide_eq_false (show ¬ L < T by omega)]; rfl)).symm)
            go_wp2_with fail
            all_goals (go_ret; exact ⟨ret_bool HF.out, (by (repeat (first | exact HNEW.out | exact New.refl _ | apply New.alloc | apply New.aft | apply New.drew | refine New.setCell ?_ ?_ _)); all_goals (first | done | (simp [size_aft]; done) | (simp [size_aft]; omega)))⟩)
          · by_cases u2 : (m : Int) ≤ T
            · have HF := Lib.hid (show false = R from (HMS.out (by rw [HOk.out, decide_eq_false (show ¬ T < (m : Int) by omega)]; simp)).symm)
              go_wp2_with fail
              all_goals (go_ret; exact ⟨ret_bool HF.out, (by (repeat (first | exact HNEW.out | exact New.refl _ | apply New.alloc | apply New.aft | apply New.drew | refine New.setCell ?_ ?_ _)); all_goals (first | done | (simp [size_aft]; done) | (simp [size_aft]; omega)))⟩)
            · by_cases u3 : X < 1
              · have HF := Lib.hid (show false = R from (HMS.out (by rw [HOk.out, decide_eq_false (show ¬ 1 ≤ X by omega)]; simp)).symm)
                go_wp2_with fail
                all_goals (go_ret; exact ⟨ret_bool HF.out, (by (repeat (first | exact HNEW.out | exact New.refl _ | apply New.alloc | apply New.aft | apply New.drew | refine New.setCell ?_ ?_ _)); all_goals (first | done | (simp [size_aft]; done) | (simp [size_aft]; omega)))⟩)
              · by_cases u4 : (1000000000000 : Int) < X
                · have HF := Lib.hid (show false = R from (HMS.out (by rw [HOk.out, decide_eq_false (show ¬ X ≤ 1000000000000 by omega)]; simp)).symm)
                  go_wp2_with fail
                  all_goals (go_ret; exact ⟨ret_bool HF.out, (by (repeat (first | exact HNEW.out | exact New.refl _ | apply New.alloc | apply New.aft | apply New.drew | refine New.setCell ?_ ?_ _)); all_goals (first | done | (simp [size_aft]; done) | (simp [size_aft]; omega)))⟩)
                · have HV := Lib.hid (show ok k = true by rw [HOk.out]; simp only [Bool.and_eq_true, decide_eq_true_eq]; omega)
                  have HGC := Lib.hid (fun w1 : World => gcd_c G X w1 ⟨hgb.1, by omega⟩ ⟨by omega, by omega⟩)
                  go_upto_region 9 with fail
                  have HN2 := Lib.hid (show New U1 (U1.alloc (.cells #[.int .i64 T, .int .i64 X] 64)) from (New.refl U1).alloc _)
                  have d0 : (U1.alloc (.cells #[.int .i64 T, .int .i64 X] 64)).cell? ⟨U1.heap.size, 0, none⟩ = some (.int .i64 T) := by simp [go_sem]
                  have d1 : (U1.alloc (.cells #[.int .i64 T, .int .i64 X] 64)).cell? ⟨U1.heap.size, 1, none⟩ = some (.int .i64 X) := by simp [go_sem]
                  have hdb : U1.heap.size < (U1.alloc (.cells #[.int .i64 T, .int .i64 X] 64)).heap.size := by simp
                  generalize U1.alloc (.cells #[.int .i64 T, .int .i64 X] 64) = U2 at *
                  first | refine wp_region_at2 (by kernel_rfl) (by kernel_rfl) ?_ | refine wp_region_at (by kernel_rfl) (by kernel_rfl) ?_
                  repeat (go_big_quiet_step (first | (go_at_call 56; (with_reducible exact calls_new (HGC.out _)))))
                  refine wpQuiet_nil ?_
                  rintro U3 hq3
                  have HN3 := Lib.hid (show New U2 U3 from hq3)
                  clear hq3 d0 d1 hdb
                  go_wp2_with fail
                  go_roundw
                  case rel => exact ⟨k + 1, by omega, by go_num, by rw [HLk.out], by rw [HGk.out], by rw [HSN.out, HALL.out, HV.out]; rfl, HNEW.out.trans (HN2.out.trans (by (repeat (first | exact HN3.out | exact New.refl _ | apply New.alloc | apply New.aft | apply New.drew | refine New.setCell ?_ ?_ _)); all_goals (first | done | (simp [size_aft]; done) | (simp [size_aft]; omega))))⟩
                  case measure => simp [intOf]; omega
        · obtain rfl : n = k := by omega
          have HF := Lib.hid (show (gc n == 1) = R by rw [HR.out, HALL.out]; simp)
          generalize gc n = G at *
          generalize hz : (G == 1) = z at *
          go_wp2_with fail
          go_ret
          exact ⟨ret_bool HF.out, HNEW.out⟩

end Go.Proofs.Ytpjekinmcdglbaa
end

section
set_option linter.unusedSimpArgs false
set_option linter.unusedVariables false
set_option maxRecDepth 100000
namespace Go.Proofs.Ytpjekinmcdglbaa
open Go.RowKit

/-- the names in the cells of a block -/
def Nms (w : World) (b off n : Nat) (nm : Nat → ByteArray) : Prop := b < w.heap.size ∧ ∀ i, i < n → w.cell? ⟨b, off + i, none⟩ = some (.string (nm i))
theorem Nms.new {w w1 : World} {b off n : Nat} {nm : Nat → ByteArray} (h : Nms w b off n nm) (hn : New w w1) : Nms w1 b off n nm :=
  ⟨Nat.lt_of_lt_of_le h.1 hn.size, fun i hi => (hn.cell h.1).trans (h.2 i hi)⟩
def sEq (s t : ByteArray) : Bool := s.toList == t.toList
def notIn (nm : Nat → ByteArray) (x : ByteArray) (n : Nat) : Bool := (List.range n).all (fun k => !sEq x (nm k))
def once (nm : Nat → ByteArray) (n : Nat) : Bool := (List.range n).all (fun i => notIn nm (nm i) i)

set_option maxHeartbeats 8000000 in
theorem indexS_c (sv : Option Addr) (n cp : Nat) (nm : Nat → ByteArray) (x : ByteArray) (w : World) (hn : n ≤ 1000) (hp : 0 < n → ∃ b off, sv = some ⟨b, off, none⟩ ∧ Nms w b off n nm) :
    Calls Try.prog 96 #[.slice sv n cp, .string x] w fun en w' => ∃ r, en = .returned (.int .i64 r) ∧ decide (0 ≤ r) = !(notIn nm x n) ∧ New w w' := by
  have HP := Lib.hid hp
  have HR := Lib.hid (show notIn nm x n = (List.range n).all (fun k => !sEq x (nm k)) from rfl)
  generalize notIn nm x n = R at *
  obtain ⟨ok, hok⟩ : ∃ ok : Nat → Bool, ok = fun k => !sEq x (nm k) := ⟨_, rfl⟩
  have HO := Lib.hid (show ∀ i, ok i = !(x.toList == (nm i).toList) from fun i => by rw [hok]; rfl)
  rw [← hok] at HR
  clear hok hp
  go_enter Try.func96, Try.ntmps96
  go_wp2_with fail
  go_loopw [8] (fun i wr => ∃ k : Nat, k ≤ n ∧ i = .int .i64 k ∧ (List.range k).all ok = true ∧ New w wr) (fun i _ => n - (intOf i).toNat)
  case atStart => exact ⟨0, Nat.zero_le _, rfl, rfl, New.refl _⟩
  case round =>
    obtain ⟨k, hk, rfl, hall, hnew⟩ := hrel
    have HALL := Lib.hid hall
    have HNW := Lib.hid hnew
    clear hall hnew
    by_cases hlt : k < n
    · obtain ⟨b, off, rfl, hpr⟩ := HP.out (by omega)
      obtain ⟨gl, hcc⟩ := hpr.new HNW.out
      have c0 := hcc k hlt
      have hk1 : (k : Int) < (n : Int) := by omega
      have HOk := Lib.hid (HO.out k)
      have HSN := Lib.hid (all_snoc ok k)
      have HMS := Lib.hid (fun (e : ok k = false) => (by rw [HR.out, all_miss hlt e] : R = false))
      clear hcc hpr
      generalize nm k = X at *
      generalize hq : (x.toList == X.toList) = q at *
      cases q
      · have HV := Lib.hid (show ok k = true by rw [HOk.out]; rfl)
        go_wp2_with fail
        go_roundw
        case rel => exact ⟨k + 1, by omega, by go_num, by rw [HSN.out, HALL.out, HV.out]; rfl, HNW.out⟩
        case measure => simp [intOf]; omega
      · have HF := Lib.hid (HMS.out (by rw [HOk.out]; rfl))
        go_wp2_with fail
        all_goals (go_ret; exact ⟨_, rfl, by rw [HF.out]; simp, HNW.out⟩)
    · have hke : k = n := by omega
      have hk1 : ¬ (k : Int) < n := by omega
      have HF := Lib.hid (show R = true by rw [HR.out, ← hke, HALL.out])
      go_wp2_with fail
      all_goals (go_ret; exact ⟨_, rfl, by rw [HF.out]; simp, HNW.out⟩)

set_option maxHeartbeats 8000000 in
theorem containsS_c (sv : Option Addr) (n cp : Nat) (nm : Nat → ByteArray) (x : ByteArray) (w : World) (hn : n ≤ 1000) (hp : 0 < n → ∃ b off, sv = some ⟨b, off, none⟩ ∧ Nms w b off n nm) :
    Calls Try.prog 91 #[.slice sv n cp, .string x] w fun en w' => en = .returned (.bool (!(notIn nm x n))) ∧ New w w' := by
  have HI := Lib.hid (indexS_c sv n cp nm x w hn hp)
  clear hp
  generalize notIn nm x n = R at *
  go_enter Try.func91, Try.ntmps91
  go_wp2_with fail
  go_at_call 96
  refine HI.out.mono ?_
  rintro e w2 ⟨r, rfl, hr, hn2⟩
  have HN2 := Lib.hid hn2
  have HRR := Lib.hid hr
  clear hn2 hr
  go_wp2_with fail
  all_goals (go_ret; exact ⟨ret_bool HRR.out, HN2.out⟩)

set_option maxHeartbeats 8000000 in
theorem hasTwice_c (b off n cp : Nat) (nm : Nat → ByteArray) (w : World) (hn : n ≤ 1000) (hcp : n ≤ cp) (hp : Nms w b off n nm) :
    Calls Try.prog 79 #[.slice (some ⟨b, off, none⟩) n cp] w fun en w' => en = .returned (.bool (!(once nm n))) ∧ New w w' := by
  have HP := Lib.hid hp
  have HR := Lib.hid (show once nm n = (List.range n).all (fun i => notIn nm (nm i) i) from rfl)
  generalize once nm n = R at *
  obtain ⟨ok, hok⟩ : ∃ ok : Nat → Bool, ok = fun i => notIn nm (nm i) i := ⟨_, rfl⟩
  have HO := Lib.hid (show ∀ i, ok i = notIn nm (nm i) i from fun i => by rw [hok])
  rw [← hok] at HR
  clear hok hp
  have HCN := Lib.hid (fun (k : Nat) (hk : k ≤ 1000) (x : ByteArray) (w1 : World) hq => containsS_c (some ⟨b, off, none⟩) k cp nm x w1 hk hq)
  go_enter Try.func79, Try.ntmps79
  go_wp2_with fail
  go_loopw [7] (fun i wr => ∃ k : Nat, k ≤ n ∧ i = .int .i64 k ∧ (List.range k).all ok = true ∧ New w wr) (fun i _ => n - (intOf i).toNat)
  case atStart => exact ⟨0, Nat.zero_le _, rfl, rfl, New.refl _⟩
  case round =>
    obtain ⟨k, hk, rfl, hall, hnew⟩ := hrel
    have HALL := Lib.hid hall
    have HNW := Lib.hid hnew
    clear hall hnew
    by_cases hlt : k < n
    · obtain ⟨gl, hcc⟩ := HP.out.new HNW.out
      have c0 := hcc k hlt
      have hk1 : (k : Int) < (n : Int) := by omega
      have hk2 : k ≤ cp := by omega
      have HOk := Lib.hid (HO.out k)
      have HSN := Lib.hid (all_snoc ok k)
      have HMS := Lib.hid (fun (e : ok k = false) => (by rw [HR.out, all_miss hlt e] : R = false))
      have HCC := Lib.hid hcc
      clear hcc
      generalize hX : nm k = X at *
      go_wp2_with fail
      go_at_call 91
      refine (HCN.out k (by omega) X _ (fun _ => ⟨b, off, rfl, gl, fun i hi => HCC.out i (by omega)⟩)).mono ?_
      rintro e w2 ⟨rfl, hn2⟩
      have HN2 := Lib.hid (HNW.out.trans hn2)
      clear hn2 c0
      generalize notIn nm X k = q at *
      cases q
      · have HF := Lib.hid (show true = !R by rw [HMS.out HOk.out]; rfl)
        go_wp2_with fail
        all_goals (go_ret; exact ⟨ret_bool HF.out, HN2.out⟩)
      · go_wp2_with fail
        go_roundw
        case rel => exact ⟨k + 1, by omega, by go_num, by rw [HSN.out, HALL.out, HOk.out]; rfl, HN2.out⟩
        case measure => simp [intOf]; omega
    · have hke : k = n := by omega
      have hk1 : ¬ (k : Int) < n := by omega
      have HF := Lib.hid (show false = !R by rw [HR.out, ← hke, HALL.out]; rfl)
      go_wp2_with fail
      all_goals (go_ret; exact ⟨ret_bool HF.out, HNW.out⟩)

end Go.Proofs.Ytpjekinmcdglbaa
end
