/- Whether tints are valid: tints of the reference. -/
import Derived.Test.YtpjekinmcdglbaaEh
import Derived.BigQuiet
set_option linter.unusedSimpArgs false
set_option linter.unusedVariables false
set_option maxRecDepth 100000
namespace Go.Proofs.Ytpjekinmcdglbaa
open Go.RowKit

theorem New.drewN {a w : World} (h : New a w) (n : Nat) : New a (w.drewN n) := .of_below (h.below.trans ⟨rfl, rfl, rfl, Nat.le_refl _, fun _ _ => rfl⟩)
set_option maxHeartbeats 16000000 in
theorem ref_tints (tv : Option Addr) (m tc : Nat) (T : List T5) (w : World) (hm : m ≤ 17592186044415) (hp : 0 < m → ∃ b off, tv = some ⟨b, off, none⟩ ∧ Tnts w b off m T) :
    Calls Try.prog 31 #[.slice tv m tc] w fun en w' => en = .returned (.int .i64 (chkE T m)) ∧ New w w' := by
  have HP := Lib.hid hp
  have HR := Lib.hid (show chkE T m = if 12 < m then 2 else if m = 0 then 1 else if (List.range m).all (okT T) = false then 1 else if once (tN T) m = false then 6 else 0 from rfl)
  have HO := Lib.hid (show ∀ i, okT T i = (((nameB (tN T i) && shB (tA T i) (tB T i) (tC T i)) && decide (0 ≤ tP T i)) && decide (tP T i ≤ 10000)) from fun _ => rfl)
  have HN := Lib.hid (fun s (w1 : World) => ref_name s w1)
  have HS := Lib.hid (fun a b c (w1 : World) => ref_shade a b c w1)
  have HON := Lib.hid (show once (tN T) m = (List.range m).all (fun i => notIn (tN T) (tN T i) i) from rfl)
  have HNI := Lib.hid (show ∀ i, notIn (tN T) (tN T i) i = (List.range i).all (fun k => !((tN T i).toList == (tN T k).toList)) from fun _ => rfl)
  have HNEW := Lib.hid (New.refl w)
  clear hp
  generalize chkE T m = R at *
  generalize okT T = ok at *
  by_cases h12 : (12 : Int) < (m : Int)
  · have HF := Lib.hid (show (2 : Int) = R by rw [HR.out, if_pos (by omega)])
    go_enter Try.func31, Try.ntmps31
    go_wp2_with fail
    all_goals (go_ret; exact ⟨ret_int HF.out, HNEW.out⟩)
  · rw [if_neg (show ¬ 12 < m by omega)] at HR
    by_cases h0 : (m : Int) = 0
    · have HF := Lib.hid (show (1 : Int) = R by rw [HR.out, if_pos (by omega)])
      go_enter Try.func31, Try.ntmps31
      go_wp2_with fail
      all_goals (go_ret; exact ⟨ret_int HF.out, HNEW.out⟩)
    · rw [if_neg (show ¬ m = 0 by omega)] at HR
      obtain ⟨b, off, rfl, hT⟩ := HP.out (by omega)
      have HT := Lib.hid hT
      clear hT
      go_enter Try.func31, Try.ntmps31
      go_wp2_with fail
      go_loopw [3] (fun i wr => ∃ k : Nat, k ≤ m ∧ i = .int .i64 k ∧ (List.range k).all ok = true ∧ New w wr) (fun i _ => m - (intOf i).toNat)
      case atStart => exact ⟨0, Nat.zero_le _, rfl, rfl, New.refl _⟩
      case round =>
        obtain ⟨k, hk, rfl, hall, hnew⟩ := hrel
        have HALL := Lib.hid hall
        have HNW := Lib.hid hnew
        clear hall hnew
        by_cases hlt : k < m
        · have hk1 : (k : Int) < (m : Int) := by omega
          obtain ⟨_, gl, hcc⟩ := HT.out.new HNW.out
          have HCC := Lib.hid (hcc k hlt)
          have HOk := Lib.hid (HO.out k)
          have HSN := Lib.hid (all_snoc ok k)
          have HMS := Lib.hid (fun (e : ok k = false) => (by rw [HR.out, all_miss hlt e]; rfl : R = 1))
          have c1 := HCC.out.1.1
          clear hcc
          generalize tN T k = S at *
          generalize tA T k = A at *
          generalize tB T k = B at *
          generalize tC T k = C at *
          generalize tP T k = P at *
          go_wp2_with fail
          go_at_call 57
          refine (HN.out _ _).mono ?_
          rintro e w2 ⟨rfl, hn2⟩
          have HN2 := Lib.hid (HNW.out.trans hn2)
          have c2 := (hn2.cell gl).trans HCC.out.1.2.1
          have c3 := (hn2.cell gl).trans HCC.out.1.2.2
          have c4 := (hn2.cell gl).trans HCC.out.2.1
          have c5 := Lib.hid ((hn2.cell gl).trans HCC.out.2.2)
          have gl2 := Nat.lt_of_lt_of_le gl hn2.size
          clear hn2 c1
          go_wp2_with fail
          go_at_call 58
          refine (HS.out _ _ _ _).mono ?_
          rintro e w3 ⟨rfl, hn3⟩
          have HN3 := Lib.hid (HN2.out.trans hn3)
          have c6 := (hn3.cell gl2).trans c5.out
          clear hn3 c2 c3 c4
          generalize nameB S = q1 at *
          generalize shB A B C = q2 at *
          cases q1
          · have HF := Lib.hid (show (1 : Int) = R from (HMS.out (by rw [HOk.out]; rfl)).symm)
            go_wp2_with fail
            all_goals (go_ret; exact ⟨ret_int HF.out, HN3.out⟩)
          · cases q2
            · have HF := Lib.hid (show (1 : Int) = R from (HMS.out (by rw [HOk.out]; rfl)).symm)
              go_wp2_with fail
              all_goals (go_ret; exact ⟨ret_int HF.out, HN3.out⟩)
            · by_cases v1 : P < 0
              · have HF := Lib.hid (show (1 : Int) = R from (HMS.out (by rw [HOk.out, decide_eq_false (show ¬ 0 ≤ P by omega)]; rfl)).symm)
                go_wp2_with fail
                all_goals (go_ret; exact ⟨ret_int HF.out, HN3.out⟩)
              · by_cases v2 : 10000 < P
                · have HF := Lib.hid (show (1 : Int) = R from (HMS.out (by rw [HOk.out, decide_eq_false (show ¬ P ≤ 10000 by omega)]; simp)).symm)
                  go_wp2_with fail
                  all_goals (go_ret; exact ⟨ret_int HF.out, HN3.out⟩)
                · have HV := Lib.hid (show ok k = true by rw [HOk.out, decide_eq_true (show 0 ≤ P by omega), decide_eq_true (show P ≤ 10000 by omega)]; rfl)
                  go_wp2_with fail
                  go_roundw
                  case rel => exact ⟨k + 1, by omega, by go_num, by rw [HSN.out, HALL.out, HV.out]; rfl, HN3.out⟩
                  case measure => simp [intOf]; omega
        · obtain rfl : k = m := by omega
          have hk1 : ¬ (k : Int) < (k : Int) := by omega
          have HRR := Lib.hid (show R = if once (tN T) k = false then 6 else 0 by rw [HR.out, HALL.out]; rfl)
          go_wp2_with fail
          clear HALL HR HO
          obtain ⟨ok2, hok2⟩ : ∃ ok2 : Nat → Bool, ok2 = fun i => notIn (tN T) (tN T i) i := ⟨_, rfl⟩
          have HO2 := Lib.hid (show ∀ i, ok2 i = (List.range i).all (fun k => !((tN T i).toList == (tN T k).toList)) from fun i => by rw [hok2]; exact HNI.out i)
          have HR2 := Lib.hid (show once (tN T) k = (List.range k).all ok2 by rw [HON.out, hok2])
          clear hok2 HNI HON
          go_loopw [6] (fun i wr => ∃ j : Nat, j ≤ k ∧ i = .int .i64 j ∧ (List.range j).all ok2 = true ∧ New w wr) (fun i _ => k - (intOf i).toNat)
          case atStart => exact ⟨0, Nat.zero_le _, rfl, rfl, HNW.out⟩
          case round =>
            obtain ⟨j, hj, rfl, hall, hnew⟩ := hrel
            have HALL := Lib.hid hall
            have HNX := Lib.hid hnew
            clear hall hnew HNW
            by_cases hlj : j < k
            · have hk2 : (j : Int) < (k : Int) := by omega
              have HSN2 := Lib.hid (all_snoc ok2 j)
              have HMS2 := Lib.hid (fun (e : ok2 j = false) => (by rw [HRR.out, HR2.out, all_miss hlj e]; rfl : R = 6))
              obtain ⟨ok3, hok3⟩ : ∃ ok3 : Nat → Bool, ok3 = fun i => !((tN T j).toList == (tN T i).toList) := ⟨_, rfl⟩
              have HO3 := Lib.hid (show ∀ i, ok3 i = !((tN T j).toList == (tN T i).toList) from fun i => by rw [hok3])
              have HOj := Lib.hid (show ok2 j = (List.range j).all ok3 by rw [HO2.out, hok3])
              clear hok3
              go_wp2_with fail
              go_loopw [7] (fun i wr => ∃ l : Nat, l ≤ j ∧ i = .int .i64 l ∧ (List.range l).all ok3 = true ∧ New w wr) (fun i _ => j - (intOf i).toNat)
              case atStart => exact ⟨0, Nat.zero_le _, rfl, rfl, HNX.out⟩
              case round =>
                obtain ⟨l, hl, rfl, hall, hnew⟩ := hrel
                have HALL3 := Lib.hid hall
                have HNY := Lib.hid hnew
                clear hall hnew HNX
                by_cases hll : l < j
                · have hk3 : (l : Int) < (j : Int) := by omega
                  have hk4 : (l : Int) < (k : Int) := by omega
                  obtain ⟨_, gl, hcc⟩ := HT.out.new HNY.out
                  have c1 := (hcc j hlj).1.1
                  have c2 := (hcc l (by omega)).1.1
                  have HSN3 := Lib.hid (all_snoc ok3 l)
                  have HMS3 := Lib.hid (fun (e : ok3 l = false) => HMS2.out (by rw [HOj.out, all_miss hll e]))
                  have HOl := Lib.hid (HO3.out l)
                  clear hcc
                  generalize tN T j = X at *
                  generalize tN T l = Y at *
                  generalize hq : (X.toList == Y.toList) = q at *
                  cases q
                  · have HV := Lib.hid (show ok3 l = true by rw [HOl.out]; rfl)
                    go_upto_region 18 with fail
                    go_quiet (fail)
                    have HNZ := Lib.hid (HNY.out.trans (show New wr (wr.drewN nq) from New.drewN (New.refl _) _))
                    generalize wr.drewN nq = wz at *
                    go_wp2_with fail
                    go_roundw
                    case rel => exact ⟨l + 1, by omega, by go_num, by rw [HSN3.out, HALL3.out, HV.out]; rfl, HNZ.out⟩
                    case measure => simp [intOf]; omega
                  · have HF := Lib.hid (show (6 : Int) = R from (HMS3.out (by rw [HOl.out]; rfl)).symm)
                    go_upto_region 18 with fail
                    go_quiet (fail)
                    have HNZ := Lib.hid (HNY.out.trans (show New wr (wr.drewN nq) from New.drewN (New.refl _) _))
                    generalize wr.drewN nq = wz at *
                    go_wp2_with fail
                    all_goals (go_ret; exact ⟨ret_int HF.out, HNZ.out⟩)
                · obtain rfl : l = j := by omega
                  have hk3 : ¬ (l : Int) < (l : Int) := by omega
                  have HV := Lib.hid (HOj.out.trans HALL3.out)
                  go_wp2_with fail
                  go_roundw
                  case rel => exact ⟨l + 1, by omega, by go_num, by rw [HSN2.out, HALL.out, HV.out]; rfl, HNY.out⟩
                  case measure => simp [intOf]; omega
            · obtain rfl : j = k := by omega
              have hk2 : ¬ (j : Int) < (j : Int) := by omega
              have HF := Lib.hid (show (0 : Int) = R by rw [HRR.out, HR2.out, HALL.out]; rfl)
              go_wp2_with fail
              all_goals (go_ret; exact ⟨ret_int HF.out, HNX.out⟩)

end Go.Proofs.Ytpjekinmcdglbaa
