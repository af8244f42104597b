/- Planes of the program: isBetween$1 over the three numbers, isBetween$2 over the tints. Tints with shades from 0 to 1000. -/
import Derived.Test.YtpjekinmcdglbaaGf
import Derived.BigQuiet
import Derived.Test.YtpjekinmcdglbaaCd
set_option linter.unusedSimpArgs false
set_option linter.unusedVariables false
set_option maxRecDepth 100000
namespace Go.Proofs.Ytpjekinmcdglbaa
open Go.RowKit

theorem not_f {a : Bool} (h : false = !a) : a = true := by cases a; · cases h
                                                           · rfl
theorem not_t {a : Bool} (h : true = !a) : a = false := by cases a; · rfl
                                                           · cases h
def pnB (x : Int) : Bool := decide (-1000000000000 ≤ x) && decide (x ≤ 1000000000000)
def pnB3 (a b c : Int) : Bool := (pnB a && pnB b) && pnB c
theorem pnum_c (x : Int) (w : World) : Calls Try.prog 72 #[.int .i64 x] w fun en w' => en = .returned (.bool (!pnB x)) ∧ New w w' := by
  have H := Lib.hid (show pnB x = (decide (-1000000000000 ≤ x) && decide (x ≤ 1000000000000)) from rfl)
  generalize pnB x = R at *
  by_cases h1 : x < -1000000000000
  · have HF := Lib.hid (show true = !R by rw [H.out, decide_eq_false (show ¬ -1000000000000 ≤ x by omega)]; rfl)
    go_enter Try.func72, Try.ntmps72
    go_wp2_with fail
    all_goals (go_ret; exact ⟨ret_bool HF.out, New.refl _⟩)
  · by_cases h2 : 1000000000000 < x
    · have HF := Lib.hid (show true = !R by rw [H.out, decide_eq_false (show ¬ x ≤ 1000000000000 by omega)]; simp)
      go_enter Try.func72, Try.ntmps72
      go_wp2_with fail
      all_goals (go_ret; exact ⟨ret_bool HF.out, New.refl _⟩)
    · have HF := Lib.hid (show false = !R by rw [H.out, decide_eq_true (show -1000000000000 ≤ x by omega), decide_eq_true (show x ≤ 1000000000000 by omega)]; rfl)
      go_enter Try.func72, Try.ntmps72
      go_wp2_with fail
      all_goals (go_ret; exact ⟨ret_bool HF.out, New.refl _⟩)

set_option maxHeartbeats 8000000 in
theorem index3n_c (g : Nat) (a b c : Int) (w : World) (h0 : w.cell? ⟨g, 0, none⟩ = some (.int .i64 a)) (h1 : w.cell? ⟨g, 1, none⟩ = some (.int .i64 b)) (h2 : w.cell? ⟨g, 2, none⟩ = some (.int .i64 c)) (hg : g < w.heap.size) :
    Calls Try.prog 87 #[.slice (some ⟨g, 0, none⟩) 3 3, .func (.func 72) #[] #[]] w fun en w' => ∃ r, en = .returned (.int .i64 r) ∧ decide (0 ≤ r) = !(pnB3 a b c) ∧ New w w' := by
  have HC := Lib.hid (show ∀ i, i < 3 → w.cell? ⟨g, i, none⟩ = some (.int .i64 (lk3 a b c i)) from fun i hi => by
    rcases i with _ | _ | _ | i
    · exact h0
    · exact h1
    · exact h2
    · omega)
  have HR := Lib.hid (show pnB3 a b c = (List.range 3).all (fun i => pnB (lk3 a b c i)) by simp [pnB3, List.range_succ, lk3, Bool.and_assoc])
  clear h0 h1 h2
  generalize pnB3 a b c = R at *
  generalize lk3 a b c = L at *
  obtain ⟨ok, hok⟩ : ∃ ok : Nat → Bool, ok = fun i => pnB (L i) := ⟨_, rfl⟩
  have HO := Lib.hid (show ∀ i, ok i = pnB (L i) from fun i => by rw [hok])
  rw [← hok] at HR
  clear hok
  have HS := Lib.hid (fun (x : Int) (w1 : World) => pnum_c x w1)
  go_enter Try.func87, Try.ntmps87
  go_wp2_with fail
  go_loopw [8] (fun i wr => ∃ k : Nat, k ≤ 3 ∧ i = .int .i64 k ∧ (List.range k).all ok = true ∧ New w wr) (fun i _ => 3 - (intOf i).toNat)
  case atStart => exact ⟨0, Nat.zero_le _, rfl, rfl, New.refl _⟩
  case round =>
    obtain ⟨k, hk, rfl, hall, hnew⟩ := hrel
    have HALL := Lib.hid hall
    have HNW := Lib.hid hnew
    clear hall hnew
    by_cases hlt : k < 3
    · have hk1 : (k : Int) < 3 := by omega
      have c0 := (HNW.out.cell (o := k) hg).trans (HC.out k hlt)
      have gl := Nat.lt_of_lt_of_le hg HNW.out.size
      have HOk := Lib.hid (HO.out k)
      have HSN := Lib.hid (all_snoc ok k)
      have HMS := Lib.hid (fun (e : ok k = false) => (by rw [HR.out, all_miss hlt e] : R = false))
      generalize L k = X at *
      go_wp2_with fail
      go_at_call 72
      refine (HS.out _ _).mono ?_
      rintro e w2 ⟨rfl, hn2⟩
      have HN2 := Lib.hid (HNW.out.trans hn2)
      clear hn2 c0
      cases hl2 : pnB X
      · have HF := Lib.hid (HMS.out (by rw [HOk.out, hl2]))
        go_wp2_with fail
        all_goals (go_ret; exact ⟨_, rfl, by rw [HF.out]; simp, HN2.out⟩)
      · have HV := Lib.hid (show ok k = true by rw [HOk.out, hl2])
        go_wp2_with fail
        go_roundw
        case rel => exact ⟨k + 1, by omega, by go_num, by rw [HSN.out, HALL.out, HV.out]; rfl, HN2.out⟩
        case measure => simp [intOf]; omega
    · have hke : k = 3 := by omega
      have hk1 : ¬ (k : Int) < 3 := by omega
      have HF := Lib.hid (show R = true by rw [HR.out, ← hke, HALL.out])
      go_wp2_with fail
      all_goals (go_ret; exact ⟨_, rfl, by rw [HF.out]; simp, HNW.out⟩)

set_option maxHeartbeats 8000000 in
theorem contains3n_c (g : Nat) (a b c : Int) (w : World) (h0 : w.cell? ⟨g, 0, none⟩ = some (.int .i64 a)) (h1 : w.cell? ⟨g, 1, none⟩ = some (.int .i64 b)) (h2 : w.cell? ⟨g, 2, none⟩ = some (.int .i64 c)) (hg : g < w.heap.size) :
    Calls Try.prog 71 #[.slice (some ⟨g, 0, none⟩) 3 3, .func (.func 72) #[] #[]] w fun en w' => en = .returned (.bool (!(pnB3 a b c))) ∧ New w w' := by
  have HI := Lib.hid (index3n_c g a b c w h0 h1 h2 hg)
  clear h0 h1 h2
  generalize pnB3 a b c = R at *
  go_enter Try.func71, Try.ntmps71
  go_wp2_with fail
  go_at_call 87
  refine HI.out.mono ?_
  rintro e w2 ⟨r, rfl, hr, hn2⟩
  have HN2 := Lib.hid hn2
  have HRR := Lib.hid hr
  clear hn2 hr
  go_wp2_with fail
  all_goals (go_ret; exact ⟨ret_bool HRR.out, HN2.out⟩)


theorem mulpn (s x : Int) (hs : -1000000000000 ≤ s ∧ s ≤ 1000000000000) (hx : 0 ≤ x ∧ x ≤ 1000) : -1000000000000000 ≤ s * x ∧ s * x ≤ 1000000000000000 := by
  have a := Int.mul_le_mul hs.2 hx.2 hx.1 (by omega)
  have b := Int.mul_le_mul (show -s ≤ 1000000000000 by omega) hx.2 hx.1 (by omega)
  rw [Int.neg_mul] at b
  omega
/-- a plane's three numbers in a box, and the plane in another one -/
def PlW (W : World) (g h : Nat) (N0 N1 N2 C : Int) : Prop :=
  W.heap[g]? = some (.cells (#[.int .i64 N0, .int .i64 N1, .int .i64 N2] : Array Value) 66 (0, 0)) ∧ W.heap[h]? = some (.cells (#[.int .i64 N0, .int .i64 N1, .int .i64 N2, .int .i64 C] : Array Value) 41 (0, 0))
theorem PlW.new {W V : World} {g h : Nat} {N0 N1 N2 C : Int} (hp : PlW W g h N0 N1 N2 C) (hn : New W V) : PlW V g h N0 N1 N2 C := by
  have hk : ∀ k o, W.heap[k]? = some o → V.heap[k]? = some o := fun k o h => (hn.below.block k (Array.getElem?_eq_some_iff.1 h).1).trans h
  exact ⟨hk _ _ hp.1, hk _ _ hp.2⟩
set_option maxHeartbeats 8000000 in
theorem beyond_c (g h : Nat) (N0 N1 N2 C : Int) (s : ByteArray) (x y z p : Int) (w : World) (hp : PlW w g h N0 N1 N2 C)
    (b1 : -1000000000000 ≤ N0 ∧ N0 ≤ 1000000000000) (b2 : -1000000000000 ≤ N1 ∧ N1 ≤ 1000000000000) (b3 : -1000000000000 ≤ N2 ∧ N2 ≤ 1000000000000) (bx : 0 ≤ x ∧ x ≤ 1000) (bY : 0 ≤ y ∧ y ≤ 1000) (bz : 0 ≤ z ∧ z ≤ 1000) :
    Calls Try.prog 73 #[tv5 s x y z p, .pointer (some ⟨g, 0, none⟩), .pointer (some ⟨h, 0, none⟩)] w fun en w' => en = .returned (.bool (decide (C < N0 * x + N1 * y + N2 * z))) ∧ New w w' := by
  have p1 := mulpn N0 x b1 bx
  have p2 := mulpn N1 y b2 bY
  have p3 := mulpn N2 z b3 bz
  have HD := Lib.hid (fun w1 : World => dot_c N0 N1 N2 x y z w1 (by omega) (by omega) (by omega) (by omega) (by omega))
  clear p1 p2 p3
  generalize N0 * x + N1 * y + N2 * z = V at *
  have HP2 := Lib.hid (hp.new ((New.refl w).alloc (.cells #[.string s, .int .i64 x, .int .i64 y, .int .i64 z, .int .i64 p] 59)))
  clear hp b1 b2 b3 bx bY bz
  go_enter Try.func73, Try.ntmps73
  go_upto_region 1 with fail
  have HN1 := Lib.hid ((New.refl w).alloc (.cells #[.string s, .int .i64 x, .int .i64 y, .int .i64 z, .int .i64 p] 59))
  have hB : (w.alloc (.cells #[.string s, .int .i64 x, .int .i64 y, .int .i64 z, .int .i64 p] 59)).heap[w.heap.size]? = some (.cells #[.string s, .int .i64 x, .int .i64 y, .int .i64 z, .int .i64 p] 59 (0, 0)) := heap_alloc_new _ _
  generalize w.alloc (.cells #[.string s, .int .i64 x, .int .i64 y, .int .i64 z, .int .i64 p] 59) = U2 at *
  have y0 : U2.cell? ⟨w.heap.size, 1, none⟩ = some (.int .i64 x) := by simp [World.cell?, hB]
  have y1 : U2.cell? ⟨w.heap.size, 2, none⟩ = some (.int .i64 y) := by simp [World.cell?, hB]
  have y2 : U2.cell? ⟨w.heap.size, 3, none⟩ = some (.int .i64 z) := by simp [World.cell?, hB]
  have z0 : U2.cell? ⟨g, 0, none⟩ = some (.int .i64 N0) := by simp [World.cell?, HP2.out.1]
  have z1 : U2.cell? ⟨g, 1, none⟩ = some (.int .i64 N1) := by simp [World.cell?, HP2.out.1]
  have z2 : U2.cell? ⟨g, 2, none⟩ = some (.int .i64 N2) := by simp [World.cell?, HP2.out.1]
  have z3 : U2.cell? ⟨h, 3, none⟩ = some (.int .i64 C) := by simp [World.cell?, HP2.out.2]
  have hq1 := (Array.getElem?_eq_some_iff.1 hB).1
  have hq2 := (Array.getElem?_eq_some_iff.1 HP2.out.1).1
  have hq3 := (Array.getElem?_eq_some_iff.1 HP2.out.2).1
  clear hB HP2
  first | refine wp_region_at2 (by kernel_rfl) (by kernel_rfl) ?_ | refine wp_region_at (by kernel_rfl) (by kernel_rfl) ?_
  repeat (go_big_quiet_step (first | (go_at_call 67; (with_reducible exact calls_new (HD.out _)))))
  refine wpQuiet_nil ?_
  rintro U3 hq
  have HN3 := Lib.hid (HN1.out.trans (show New U2 U3 from hq))
  clear hq
  go_wp2_with fail
  all_goals (go_ret; exact ⟨ret_bool (by simp), HN3.out⟩)

/-- the tint is not beyond the plane -/
def sdB (T : List T5) (N0 N1 N2 C : Int) (i : Nat) : Bool := decide (N0 * tA T i + N1 * tB T i + N2 * tC T i ≤ C)
set_option maxHeartbeats 8000000 in
theorem indexT_c (tv : Option Addr) (m tc g h : Nat) (N0 N1 N2 C : Int) (T : List T5) (w : World) (hm : m ≤ 1000) (htn : tnOk T) (hT : 0 < m → ∃ b off, tv = some ⟨b, off, none⟩ ∧ Tnts w b off m T) (hp : PlW w g h N0 N1 N2 C)
    (b1 : -1000000000000 ≤ N0 ∧ N0 ≤ 1000000000000) (b2 : -1000000000000 ≤ N1 ∧ N1 ≤ 1000000000000) (b3 : -1000000000000 ≤ N2 ∧ N2 ≤ 1000000000000) :
    Calls Try.prog 88 #[.slice tv m tc, .func (.func 73) #[] #[.pointer (some ⟨g, 0, none⟩), .pointer (some ⟨h, 0, none⟩)]] w fun en w' => ∃ r, en = .returned (.int .i64 r) ∧ decide (0 ≤ r) = !((List.range m).all (sdB T N0 N1 N2 C)) ∧ New w w' := by
  have HP := Lib.hid hT
  obtain ⟨R, hR⟩ : ∃ R, R = (List.range m).all (sdB T N0 N1 N2 C) := ⟨_, rfl⟩
  rw [← hR]
  have HS := Lib.hid (fun (i : Nat) (w1 : World) (h1 : New w w1) => beyond_c g h N0 N1 N2 C (tN T i) (tA T i) (tB T i) (tC T i) (tP T i) w1 (hp.new h1) b1 b2 b3 (htn i).1.1 (htn i).1.2 (htn i).2.1)
  obtain ⟨ok, hok⟩ : ∃ ok : Nat → Bool, ok = sdB T N0 N1 N2 C := ⟨_, rfl⟩
  have HO := Lib.hid (show ∀ i, decide (C < N0 * tA T i + N1 * tB T i + N2 * tC T i) = !(ok i) from fun i => by
    rw [hok]; unfold sdB
    by_cases h : C < N0 * tA T i + N1 * tB T i + N2 * tC T i
    · rw [decide_eq_true h, decide_eq_false (by omega)]; rfl
    · rw [decide_eq_false h, decide_eq_true (by omega)]; rfl)
  rw [← hok] at hR
  have HR := Lib.hid hR
  clear hok hp htn hT b1 b2 b3 hR
  go_enter Try.func88, Try.ntmps88
  go_wp2_with fail
  go_loopw [8] (fun i wr => ∃ k : Nat, k ≤ m ∧ i = .int .i64 k ∧ (List.range k).all ok = true ∧ New w wr) (fun i _ => m - (intOf i).toNat)
  case atStart => exact ⟨0, Nat.zero_le _, rfl, rfl, New.refl _⟩
  case round =>
    obtain ⟨k, hk, rfl, hall, hnew⟩ := hrel
    have HALL := Lib.hid hall
    have HNW := Lib.hid hnew
    clear hall hnew
    by_cases hlt : k < m
    · have hk1 : (k : Int) < (m : Int) := by omega
      obtain ⟨b, off, rfl, hT⟩ := HP.out (by omega)
      obtain ⟨_, gl, hcc⟩ := hT.new HNW.out
      obtain ⟨⟨c1, c2, c3⟩, c4, c5⟩ := hcc k hlt
      have HOk := Lib.hid (HO.out k)
      have HSN := Lib.hid (all_snoc ok k)
      have HMS := Lib.hid (fun (e : ok k = false) => (by rw [HR.out, all_miss hlt e] : R = false))
      have HSk := Lib.hid (HS.out k _ HNW.out)
      clear hcc hT HS HO
      generalize tN T k = S at *
      generalize tA T k = A at *
      generalize tB T k = B at *
      generalize tC T k = D at *
      generalize tP T k = P at *
      generalize hZ : decide (C < N0 * A + N1 * B + N2 * D) = Z at *
      clear hZ
      go_wp2_with fail
      go_at_call 73
      refine HSk.out.mono ?_
      rintro e w2 ⟨rfl, hn2⟩
      have HN2 := Lib.hid (HNW.out.trans hn2)
      clear hn2 c1 c2 c3 c4 c5
      cases Z
      · have HV := Lib.hid (show ok k = true from not_f HOk.out)
        go_wp2_with fail
        go_roundw
        case rel => exact ⟨k + 1, by omega, by go_num, by rw [HSN.out, HALL.out, HV.out]; rfl, HN2.out⟩
        case measure => simp [intOf]; omega
      · have HF := Lib.hid (HMS.out (not_t HOk.out))
        go_wp2_with fail
        all_goals (go_ret; exact ⟨_, rfl, by rw [HF.out]; simp, HN2.out⟩)
    · obtain rfl : k = m := by omega
      have hk1 : ¬ (k : Int) < (k : Int) := by omega
      have HF := Lib.hid (show R = true by rw [HR.out, HALL.out])
      go_wp2_with fail
      all_goals (go_ret; exact ⟨_, rfl, by rw [HF.out]; simp, HNW.out⟩)

set_option maxHeartbeats 8000000 in
theorem containsT_c (tv : Option Addr) (m tc g h : Nat) (N0 N1 N2 C : Int) (T : List T5) (w : World) (hm : m ≤ 1000) (htn : tnOk T) (hT : 0 < m → ∃ b off, tv = some ⟨b, off, none⟩ ∧ Tnts w b off m T) (hp : PlW w g h N0 N1 N2 C)
    (b1 : -1000000000000 ≤ N0 ∧ N0 ≤ 1000000000000) (b2 : -1000000000000 ≤ N1 ∧ N1 ≤ 1000000000000) (b3 : -1000000000000 ≤ N2 ∧ N2 ≤ 1000000000000) :
    Calls Try.prog 74 #[.slice tv m tc, .func (.func 73) #[] #[.pointer (some ⟨g, 0, none⟩), .pointer (some ⟨h, 0, none⟩)]] w fun en w' => en = .returned (.bool (!((List.range m).all (sdB T N0 N1 N2 C)))) ∧ New w w' := by
  have HI := Lib.hid (indexT_c tv m tc g h N0 N1 N2 C T w hm htn hT hp b1 b2 b3)
  clear hT hp htn b1 b2 b3
  generalize (List.range m).all (sdB T N0 N1 N2 C) = R at *
  go_enter Try.func74, Try.ntmps74
  go_wp2_with fail
  go_at_call 88
  refine HI.out.mono ?_
  rintro e w2 ⟨r, rfl, hr, hn2⟩
  have HN2 := Lib.hid hn2
  have HRR := Lib.hid hr
  clear hn2 hr
  go_wp2_with fail
  all_goals (go_ret; exact ⟨ret_bool HRR.out, HN2.out⟩)

end Go.Proofs.Ytpjekinmcdglbaa
