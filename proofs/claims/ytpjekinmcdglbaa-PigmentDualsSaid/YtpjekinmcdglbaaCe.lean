/- Names that come twice: Index, Contains, hasTwice. -/
import Derived.Test.YtpjekinmcdglbaaGc
set_option linter.unusedSimpArgs false
set_option linter.unusedVariables false
set_option maxRecDepth 100000
namespace Go.Proofs.Ytpjekinmcdglbaa
open Go.RowKit

/-- the names in the cells of a block -/
def Nms (w : World) (b off n : Nat) (nm : Nat → ByteArray) : Prop := b < w.heap.size ∧ ∀ i, i < n → w.cell? ⟨b, off + i, none⟩ = some (.string (nm i))
theorem Nms.new {w w1 : World} {b off n : Nat} {nm : Nat → ByteArray} (h : Nms w b off n nm) (hn : New w w1) : Nms w1 b off n nm :=
  ⟨Nat.lt_of_lt_of_le h.1 hn.size, fun i hi => (hn.cell h.1).trans (h.2 i hi)⟩
def sEq (s t : ByteArray) : Bool := s.toList == t.toList
def notIn (nm : Nat → ByteArray) (x : ByteArray) (n : Nat) : Bool := (List.range n).all (fun k => !sEq x (nm k))
def once (nm : Nat → ByteArray) (n : Nat) : Bool := (List.range n).all (fun i => notIn nm (nm i) i)

set_option maxHeartbeats 8000000 in
theorem indexS_c (sv : Option Addr) (n cp : Nat) (nm : Nat → ByteArray) (x : ByteArray) (w : World) (hn : n ≤ 1000) (hp : 0 < n → ∃ b off, sv = some ⟨b, off, none⟩ ∧ Nms w b off n nm) :
    Calls Try.prog 96 #[.slice sv n cp, .string x] w fun en w' => ∃ r, en = .returned (.int .i64 r) ∧ decide (0 ≤ r) = !(notIn nm x n) ∧ New w w' := by
  have HP := Lib.hid hp
  have HR := Lib.hid (show notIn nm x n = (List.range n).all (fun k => !sEq x (nm k)) from rfl)
  generalize notIn nm x n = R at *
  obtain ⟨ok, hok⟩ : ∃ ok : Nat → Bool, ok = fun k => !sEq x (nm k) := ⟨_, rfl⟩
  have HO := Lib.hid (show ∀ i, ok i = !(x.toList == (nm i).toList) from fun i => by rw [hok]; rfl)
  rw [← hok] at HR
  clear hok hp
  go_enter Try.func96, Try.ntmps96
  go_wp2_with fail
  go_loopw [8] (fun i wr => ∃ k : Nat, k ≤ n ∧ i = .int .i64 k ∧ (List.range k).all ok = true ∧ New w wr) (fun i _ => n - (intOf i).toNat)
  case atStart => exact ⟨0, Nat.zero_le _, rfl, rfl, New.refl _⟩
  case round =>
    obtain ⟨k, hk, rfl, hall, hnew⟩ := hrel
    have HALL := Lib.hid hall
    have HNW := Lib.hid hnew
    clear hall hnew
    by_cases hlt : k < n
    · obtain ⟨b, off, rfl, hpr⟩ := HP.out (by omega)
      obtain ⟨gl, hcc⟩ := hpr.new HNW.out
      have c0 := hcc k hlt
      have hk1 : (k : Int) < (n : Int) := by omega
      have HOk := Lib.hid (HO.out k)
      have HSN := Lib.hid (all_snoc ok k)
      have HMS := Lib.hid (fun (e : ok k = false) => (by rw [HR.out, all_miss hlt e] : R = false))
      clear hcc hpr
      generalize nm k = X at *
      generalize hq : (x.toList == X.toList) = q at *
      cases q
      · have HV := Lib.hid (show ok k = true by rw [HOk.out]; rfl)
        go_wp2_with fail
        go_roundw
        case rel => exact ⟨k + 1, by omega, by go_num, by rw [HSN.out, HALL.out, HV.out]; rfl, HNW.out⟩
        case measure => simp [intOf]; omega
      · have HF := Lib.hid (HMS.out (by rw [HOk.out]; rfl))
        go_wp2_with fail
        all_goals (go_ret; exact ⟨_, rfl, by rw [HF.out]; simp, HNW.out⟩)
    · have hke : k = n := by omega
      have hk1 : ¬ (k : Int) < n := by omega
      have HF := Lib.hid (show R = true by rw [HR.out, ← hke, HALL.out])
      go_wp2_with fail
      all_goals (go_ret; exact ⟨_, rfl, by rw [HF.out]; simp, HNW.out⟩)

set_option maxHeartbeats 8000000 in
theorem containsS_c (sv : Option Addr) (n cp : Nat) (nm : Nat → ByteArray) (x : ByteArray) (w : World) (hn : n ≤ 1000) (hp : 0 < n → ∃ b off, sv = some ⟨b, off, none⟩ ∧ Nms w b off n nm) :
    Calls Try.prog 91 #[.slice sv n cp, .string x] w fun en w' => en = .returned (.bool (!(notIn nm x n))) ∧ New w w' := by
  have HI := Lib.hid (indexS_c sv n cp nm x w hn hp)
  clear hp
  generalize notIn nm x n = R at *
  go_enter Try.func91, Try.ntmps91
  go_wp2_with fail
  go_at_call 96
  refine HI.out.mono ?_
  rintro e w2 ⟨r, rfl, hr, hn2⟩
  have HN2 := Lib.hid hn2
  have HRR := Lib.hid hr
  clear hn2 hr
  go_wp2_with fail
  all_goals (go_ret; exact ⟨ret_bool HRR.out, HN2.out⟩)

set_option maxHeartbeats 8000000 in
theorem hasTwice_c (b off n cp : Nat) (nm : Nat → ByteArray) (w : World) (hn : n ≤ 1000) (hcp : n ≤ cp) (hp : Nms w b off n nm) :
    Calls Try.prog 79 #[.slice (some ⟨b, off, none⟩) n cp] w fun en w' => en = .returned (.bool (!(once nm n))) ∧ New w w' := by
  have HP := Lib.hid hp
  have HR := Lib.hid (show once nm n = (List.range n).all (fun i => notIn nm (nm i) i) from rfl)
  generalize once nm n = R at *
  obtain ⟨ok, hok⟩ : ∃ ok : Nat → Bool, ok = fun i => notIn nm (nm i) i := ⟨_, rfl⟩
  have HO := Lib.hid (show ∀ i, ok i = notIn nm (nm i) i from fun i => by rw [hok])
  rw [← hok] at HR
  clear hok hp
  have HCN := Lib.hid (fun (k : Nat) (hk : k ≤ 1000) (x : ByteArray) (w1 : World) hq => containsS_c (some ⟨b, off, none⟩) k cp nm x w1 hk hq)
  go_enter Try.func79, Try.ntmps79
  go_wp2_with fail
  go_loopw [7] (fun i wr => ∃ k : Nat, k ≤ n ∧ i = .int .i64 k ∧ (List.range k).all ok = true ∧ New w wr) (fun i _ => n - (intOf i).toNat)
  case atStart => exact ⟨0, Nat.zero_le _, rfl, rfl, New.refl _⟩
  case round =>
    obtain ⟨k, hk, rfl, hall, hnew⟩ := hrel
    have HALL := Lib.hid hall
    have HNW := Lib.hid hnew
    clear hall hnew
    by_cases hlt : k < n
    · obtain ⟨gl, hcc⟩ := HP.out.new HNW.out
      have c0 := hcc k hlt
      have hk1 : (k : Int) < (n : Int) := by omega
      have hk2 : k ≤ cp := by omega
      have HOk := Lib.hid (HO.out k)
      have HSN := Lib.hid (all_snoc ok k)
      have HMS := Lib.hid (fun (e : ok k = false) => (by rw [HR.out, all_miss hlt e] : R = false))
      have HCC := Lib.hid hcc
      clear hcc
      generalize hX : nm k = X at *
      go_wp2_with fail
      go_at_call 91
      refine (HCN.out k (by omega) X _ (fun _ => ⟨b, off, rfl, gl, fun i hi => HCC.out i (by omega)⟩)).mono ?_
      rintro e w2 ⟨rfl, hn2⟩
      have HN2 := Lib.hid (HNW.out.trans hn2)
      clear hn2 c0
      generalize notIn nm X k = q at *
      cases q
      · have HF := Lib.hid (show true = !R by rw [HMS.out HOk.out]; rfl)
        go_wp2_with fail
        all_goals (go_ret; exact ⟨ret_bool HF.out, HN2.out⟩)
      · go_wp2_with fail
        go_roundw
        case rel => exact ⟨k + 1, by omega, by go_num, by rw [HSN.out, HALL.out, HOk.out]; rfl, HN2.out⟩
        case measure => simp [intOf]; omega
    · have hke : k = n := by omega
      have hk1 : ¬ (k : Int) < n := by omega
      have HF := Lib.hid (show false = !R by rw [HR.out, ← hke, HALL.out]; rfl)
      go_wp2_with fail
      all_goals (go_ret; exact ⟨ret_bool HF.out, HNW.out⟩)

end Go.Proofs.Ytpjekinmcdglbaa
