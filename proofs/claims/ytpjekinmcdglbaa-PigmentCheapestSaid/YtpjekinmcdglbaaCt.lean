/- The sums of a valid recipe: weights, shades and prices, as sumsOf returns them. · fine; SameRecipe of the reference. -/
import Derived.Test.YtpjekinmcdglbaaCy
import Derived.Test.YtpjekinmcdglbaaCe
import Derived.BigQuiet

section
set_option linter.unusedSimpArgs false
set_option linter.unusedVariables false
set_option maxRecDepth 100000
namespace Go.Proofs.Ytpjekinmcdglbaa
open Go.RowKit

theorem tint_size : (Try.prog.info? 59).map (fun i => i.size) = some 5 := by kernel_rfl
abbrev T5 := ByteArray × Int × Int × Int × Int
def tN (T : List T5) (i : Nat) : ByteArray := (T.getD i (ByteArray.empty, 0, 0, 0, 0)).1
def tA (T : List T5) (i : Nat) : Int := (T.getD i (ByteArray.empty, 0, 0, 0, 0)).2.1
def tB (T : List T5) (i : Nat) : Int := (T.getD i (ByteArray.empty, 0, 0, 0, 0)).2.2.1
def tC (T : List T5) (i : Nat) : Int := (T.getD i (ByteArray.empty, 0, 0, 0, 0)).2.2.2.1
def tP (T : List T5) (i : Nat) : Int := (T.getD i (ByteArray.empty, 0, 0, 0, 0)).2.2.2.2
/-- tints: names, shades and prices in the cells of the block b from off on -/
def Tnts (w : World) (b off m : Nat) (T : List T5) : Prop := T.length = m ∧ b < w.heap.size ∧ ∀ i, i < m → (w.cell? ⟨b, off + i * 5, none⟩ = some (.string (tN T i)) ∧ w.cell? ⟨b, off + i * 5 + 1, none⟩ = some (.int .i64 (tA T i)) ∧ w.cell? ⟨b, off + i * 5 + 2, none⟩ = some (.int .i64 (tB T i))) ∧ w.cell? ⟨b, off + i * 5 + 3, none⟩ = some (.int .i64 (tC T i)) ∧ w.cell? ⟨b, off + i * 5 + 4, none⟩ = some (.int .i64 (tP T i))
theorem Tnts.new {w w1 : World} {b off m : Nat} {T : List T5} (h : Tnts w b off m T) (hn : New w w1) : Tnts w1 b off m T := by
  obtain ⟨h1, h2, h3⟩ := h
  exact ⟨h1, Nat.lt_of_lt_of_le h2 hn.size, fun i hi => by rw [hn.cell h2, hn.cell h2, hn.cell h2, hn.cell h2, hn.cell h2]; exact h3 i hi⟩
/-- a sum over the first parts -/
def sumT (P : List (Int × Int)) (f : Nat → Int) : Nat → Int
  | 0 => 0
  | k + 1 => sumT P f k + pW P k * f (pT P k).toNat
def sumW (P : List (Int × Int)) : Nat → Int
  | 0 => 0
  | k + 1 => sumW P k + pW P k
theorem sumT_bd {P : List (Int × Int)} {f : Nat → Int} {M : Int} (hM : 0 ≤ M ∧ M ≤ 10000) : ∀ {k : Nat}, (∀ i, i < k → (1 ≤ pW P i ∧ pW P i ≤ 1000000000000) ∧ 0 ≤ f (pT P i).toNat ∧ f (pT P i).toNat ≤ M) → 0 ≤ sumT P f k ∧ sumT P f k ≤ k * 10000000000000000
  | 0, _ => by simp [sumT]
  | k + 1, h => by
    have ih := sumT_bd hM (k := k) (fun i hi => h i (by omega))
    obtain ⟨⟨w1, w2⟩, f1, f2⟩ := h k (by omega)
    have a := Int.mul_nonneg (show 0 ≤ pW P k by omega) f1
    have b := Int.mul_le_mul w2 (show f (pT P k).toNat ≤ 10000 by omega) f1 (by omega)
    simp only [sumT]; omega
theorem sumW_bd {P : List (Int × Int)} : ∀ {k : Nat}, (∀ i, i < k → 1 ≤ pW P i ∧ pW P i ≤ 1000000000000) → 0 ≤ sumW P k ∧ sumW P k ≤ k * 1000000000000
  | 0, _ => by simp [sumW]
  | k + 1, h => by
    have ih := sumW_bd (k := k) (fun i hi => h i (by omega))
    have := h k (by omega)
    simp only [sumW]; omega
/-- five numbers in a block of the call's own -/
def Five (W : World) (g : Nat) (a b c d e : Int) : Prop := g < W.heap.size ∧ (W.cell? ⟨g, 0, none⟩ = some (.int .i64 a) ∧ W.cell? ⟨g, 1, none⟩ = some (.int .i64 b) ∧ W.cell? ⟨g, 2, none⟩ = some (.int .i64 c) ∧ W.cell? ⟨g, 3, none⟩ = some (.int .i64 d) ∧ W.cell? ⟨g, 4, none⟩ = some (.int .i64 e)) ∧ ∀ o, W.frozen? ⟨g, o, none⟩ = false
theorem Five.new {W W' : World} {g : Nat} {a b c d e : Int} (h : Five W g a b c d e) (hn : New W W') : Five W' g a b c d e := by
  obtain ⟨h1, ⟨h2, h3, h4, h5, h6⟩, h7⟩ := h
  exact ⟨Nat.lt_of_lt_of_le h1 hn.size, ⟨(hn.cell h1).trans h2, (hn.cell h1).trans h3, (hn.cell h1).trans h4, (hn.cell h1).trans h5, (hn.cell h1).trans h6⟩, fun o => (hn.below.frozen (p := ⟨g, o, none⟩) h1).trans (h7 o)⟩
theorem frozen_new (W : World) (c : Array Value) (t : TypeId) (o : Nat) : (W.alloc (.cells c t)).frozen? ⟨W.heap.size, o, none⟩ = false := by
  unfold World.frozen?
  rw [show (W.alloc (.cells c t)).heap[(⟨W.heap.size, o, none⟩ : Addr).block]? = some (.cells c t) from heap_alloc_new _ _]
  simp
theorem Five.put0 {W : World} {g : Nat} {a b c d e : Int} (h : Five W g a b c d e) (x : Int) : Five (W.setCell ⟨g, 0, none⟩ (.int .i64 x)) g x b c d e := by
  obtain ⟨h1, ⟨h2, h3, h4, h5, h6⟩, h7⟩ := h
  exact ⟨by simpa [go_sem] using h1, ⟨by simp [go_sem, h2], by simp [go_sem, h3], by simp [go_sem, h4], by simp [go_sem, h5], by simp [go_sem, h6]⟩, fun o => by simp [go_sem, h7]⟩
theorem Five.put4 {W : World} {g : Nat} {a b c d e : Int} (h : Five W g a b c d e) (x : Int) : Five (W.setCell ⟨g, 4, none⟩ (.int .i64 x)) g a b c d x := by
  obtain ⟨h1, ⟨h2, h3, h4, h5, h6⟩, h7⟩ := h
  exact ⟨by simpa [go_sem] using h1, ⟨by simp [go_sem, h2], by simp [go_sem, h3], by simp [go_sem, h4], by simp [go_sem, h5], by simp [go_sem, h6]⟩, fun o => by simp [go_sem, h7]⟩
theorem Five.put3 {W : World} {g : Nat} {a b c d e : Int} (h : Five W g a b c d e) (x y z : Int) : Five (((W.setCell ⟨g, 1, none⟩ (.int .i64 x)).setCell ⟨g, 2, none⟩ (.int .i64 y)).setCell ⟨g, 3, none⟩ (.int .i64 z)) g a x y z e := by
  obtain ⟨h1, ⟨h2, h3, h4, h5, h6⟩, h7⟩ := h
  exact ⟨by simpa [go_sem] using h1, ⟨by simp [go_sem, h2], by simp [go_sem, h3], by simp [go_sem, h4], by simp [go_sem, h5], by simp [go_sem, h6]⟩, fun o => by simp [go_sem, h7]⟩

end Go.Proofs.Ytpjekinmcdglbaa
end

section
set_option linter.unusedSimpArgs false
set_option linter.unusedVariables false
set_option maxRecDepth 100000
namespace Go.Proofs.Ytpjekinmcdglbaa
open Go.RowKit

def okNm (T : List T5) (i : Nat) : Bool := decide ((tN T i).size ≤ 60)
def fineB (T : List T5) (m : Nat) (lim : Int) : Bool := decide ((m : Int) ≤ lim) && (List.range m).all (okNm T)
set_option maxHeartbeats 8000000 in
theorem fine_c (tv : Option Addr) (m tc : Nat) (lim : Int) (T : List T5) (w : World) (hm : m ≤ 9223372036854775807) (hp : 0 < m → ∃ b off, tv = some ⟨b, off, none⟩ ∧ Tnts w b off m T) :
    Calls Try.prog 9 #[.slice tv m tc, .int .i64 lim] w fun en w' => en = .returned (.bool (fineB T m lim)) ∧ New w w' := by
  have HP := Lib.hid hp
  have HR := Lib.hid (show fineB T m lim = (decide ((m : Int) ≤ lim) && (List.range m).all (okNm T)) from rfl)
  have HO := Lib.hid (show ∀ i, okNm T i = decide ((tN T i).size ≤ 60) from fun _ => rfl)
  clear hp
  generalize fineB T m lim = R at *
  generalize okNm T = ok at *
  by_cases h1 : lim < (m : Int)
  · have HF := Lib.hid (show false = R by rw [HR.out, decide_eq_false (show ¬ (m : Int) ≤ lim by omega)]; rfl)
    go_enter Try.func9, Try.ntmps9
    go_wp2_with fail
    all_goals (go_ret; exact ⟨ret_bool HF.out, New.refl _⟩)
  · rw [decide_eq_true (show (m : Int) ≤ lim by omega)] at HR
    go_enter Try.func9, Try.ntmps9
    go_wp2_with fail
    go_loopw [5] (fun i wr => ∃ k : Nat, k ≤ m ∧ i = .int .i64 k ∧ (List.range k).all ok = true ∧ New w wr) (fun i _ => m - (intOf i).toNat)
    case atStart => exact ⟨0, Nat.zero_le _, rfl, rfl, New.refl _⟩
    case round =>
      obtain ⟨k, hk, rfl, hall, hnew⟩ := hrel
      have HALL := Lib.hid hall
      have HNW := Lib.hid hnew
      clear hall hnew
      by_cases hlt : k < m
      · have hk1 : (k : Int) < (m : Int) := by omega
        obtain ⟨b, off, rfl, hT⟩ := HP.out (by omega)
        obtain ⟨_, gl, hcc⟩ := hT.new HNW.out
        have c1 := (hcc k hlt).1.1
        have HOk := Lib.hid (HO.out k)
        have HSN := Lib.hid (all_snoc ok k)
        have HMS := Lib.hid (fun (e : ok k = false) => (by rw [HR.out, all_miss hlt e]; rfl : R = false))
        clear hcc hT
        generalize tN T k = S at *
        by_cases hs : (60 : Int) < (S.size : Int)
        · have HF := Lib.hid (show false = R from (HMS.out (by rw [HOk.out, decide_eq_false (by omega)])).symm)
          go_wp2_with fail
          all_goals (go_ret; exact ⟨ret_bool HF.out, HNW.out⟩)
        · have HV := Lib.hid (show ok k = true by rw [HOk.out, decide_eq_true (by omega)])
          go_wp2_with fail
          go_roundw
          case rel => exact ⟨k + 1, by omega, by go_num, by rw [HSN.out, HALL.out, HV.out]; rfl, HNW.out⟩
          case measure => simp [intOf]; omega
      · obtain rfl : k = m := by omega
        have hk1 : ¬ (k : Int) < (k : Int) := by omega
        have HF := Lib.hid (show true = R by rw [HR.out, HALL.out]; rfl)
        go_wp2_with fail
        all_goals (go_ret; exact ⟨ret_bool HF.out, HNW.out⟩)

theorem New.drewN' {a w : World} (h : New a w) (n : Nat) : New a (w.drewN n) := .of_below (h.below.trans ⟨rfl, rfl, rfl, Nat.le_refl _, fun _ _ => rfl⟩)
def okS (P Q : List (Int × Int)) (i : Nat) : Bool := pT P i == pT Q i && pW P i == pW Q i
def sameB (P Q : List (Int × Int)) (n m : Nat) : Bool := decide (n = m) && (List.range n).all (okS P Q)
set_option maxHeartbeats 8000000 in
theorem sameRecipe_c (pv qv : Option Addr) (n pc m qc : Nat) (P Q : List (Int × Int)) (w : World) (hn : n ≤ 17592186044415) (hm : m ≤ 17592186044415) (hp : 0 < n → ∃ b off, pv = some ⟨b, off, none⟩ ∧ Prts w b off n P) (hq : 0 < m → ∃ b off, qv = some ⟨b, off, none⟩ ∧ Prts w b off m Q) :
    Calls Try.prog 18 #[.agg #[.slice pv n pc], .agg #[.slice qv m qc]] w fun en w' => en = .returned (.bool (sameB P Q n m)) ∧ New w w' := by
  have HP := Lib.hid hp
  have HQ := Lib.hid hq
  have HR := Lib.hid (show sameB P Q n m = (decide (n = m) && (List.range n).all (okS P Q)) from rfl)
  have HO := Lib.hid (show ∀ i, okS P Q i = (pT P i == pT Q i && pW P i == pW Q i) from fun _ => rfl)
  have HN1 := Lib.hid (((New.refl w).alloc (.cells #[.slice pv n pc] 25)).alloc (.cells #[.slice qv m qc] 25))
  have d0 : ((w.alloc (.cells #[.slice pv n pc] 25)).alloc (.cells #[.slice qv m qc] 25)).cell? ⟨w.heap.size, 0, none⟩ = some (.slice pv n pc) := by simp [go_sem]
  have d1 : ((w.alloc (.cells #[.slice pv n pc] 25)).alloc (.cells #[.slice qv m qc] 25)).cell? ⟨w.heap.size + 1, 0, none⟩ = some (.slice qv m qc) := by simp [go_sem]
  have hz : w.heap.size + 1 < ((w.alloc (.cells #[.slice pv n pc] 25)).alloc (.cells #[.slice qv m qc] 25)).heap.size := by simp
  clear hp hq
  generalize sameB P Q n m = R at *
  generalize okS P Q = ok at *
  go_enter Try.func18, Try.ntmps18
  go_upto_region 1 with fail
  generalize (w.alloc (.cells #[.slice pv n pc] 25)).alloc (.cells #[.slice qv m qc] 25) = W1 at *
  by_cases h1 : n = m
  · subst h1
    rw [decide_eq_true (show n = n from rfl)] at HR
    go_wp2_with fail
    have HD := Lib.hid (And.intro d0 d1)
    clear d0 d1
    go_loopw [5] (fun i wr => ∃ k : Nat, k ≤ n ∧ i = .int .i64 k ∧ (List.range k).all ok = true ∧ New W1 wr) (fun i _ => n - (intOf i).toNat)
    case atStart => exact ⟨0, Nat.zero_le _, rfl, rfl, New.refl _⟩
    case round =>
      obtain ⟨k, hk, rfl, hall, hnew⟩ := hrel
      have HALL := Lib.hid hall
      have HNW := Lib.hid hnew
      have d0 := (hnew.cell (show w.heap.size < W1.heap.size by omega)).trans HD.out.1
      have d1 := (hnew.cell hz).trans HD.out.2
      clear hall hnew
      by_cases hlt : k < n
      · have hk1 : (k : Int) < (n : Int) := by omega
        obtain ⟨b, off, rfl, hT⟩ := HP.out (by omega)
        obtain ⟨b2, off2, rfl, hT2⟩ := HQ.out (by omega)
        obtain ⟨_, gl, hcc⟩ := hT.new (HN1.out.trans HNW.out)
        obtain ⟨_, gl2, hcc2⟩ := hT2.new (HN1.out.trans HNW.out)
        obtain ⟨c1, c2⟩ := hcc k hlt
        obtain ⟨c3, c4⟩ := hcc2 k hlt
        have HOk := Lib.hid (HO.out k)
        have HSN := Lib.hid (all_snoc ok k)
        have HMS := Lib.hid (fun (e : ok k = false) => (by rw [HR.out, all_miss hlt e]; rfl : R = false))
        clear hcc hT hcc2 hT2
        generalize pT P k = X1 at *
        generalize pW P k = X2 at *
        generalize pT Q k = Y1 at *
        generalize pW Q k = Y2 at *
        have heq := neq_part X1 X2 Y1 Y2
        generalize (X1 == Y1 && X2 == Y2) = q at *
        go_upto_region 6 with fail
        go_quiet (fail)
        have HNZ := Lib.hid (HNW.out.trans (show New wr (wr.drewN nq) from New.drewN' (New.refl _) _))
        generalize wr.drewN nq = wz at *
        cases q
        · have HF := Lib.hid (show false = R from (HMS.out HOk.out).symm)
          go_wp2_with fail
          all_goals (go_ret; exact ⟨ret_bool HF.out, HN1.out.trans HNZ.out⟩)
        · go_wp2_with fail
          go_roundw
          case rel => exact ⟨k + 1, by omega, by go_num, by rw [HSN.out, HALL.out, HOk.out]; rfl, HNZ.out⟩
          case measure => simp [intOf]; omega
      · obtain rfl : k = n := by omega
        have hk1 : ¬ (k : Int) < (k : Int) := by omega
        have HF := Lib.hid (show true = R by rw [HR.out, HALL.out]; rfl)
        go_wp2_with fail
        all_goals (go_ret; exact ⟨ret_bool HF.out, HN1.out.trans HNW.out⟩)
  · have HF := Lib.hid (show false = R by rw [HR.out, decide_eq_false h1]; rfl)
    have h1' : ¬ (n : Int) = (m : Int) := by omega
    go_wp2_with fail
    all_goals (go_ret; exact ⟨ret_bool HF.out, HN1.out⟩)

/-- the chapter's palette -/
def palT : List T5 := [(⟨#[97]⟩, 0, 0, 0, 4), (⟨#[98]⟩, 10, 0, 0, 8), (⟨#[99]⟩, 0, 10, 0, 6), (⟨#[100]⟩, 5, 0, 0, 5)]
def PalR (w : World) (en : Ending) (w' : World) : Prop := ∃ g, en = .returned (.slice (some ⟨g, 0, none⟩) 4 4) ∧ Tnts w' g 0 4 palT ∧ New w w'
set_option maxHeartbeats 8000000 in
theorem palette_c (w : World) : Calls Try.prog 27 #[] w (PalR w) := by
  have HX := Lib.hid (fun (V : World) (hV : New w V) (cs : Array Value) (t : TypeId) (hcs : cs = #[.string ⟨#[97]⟩, .int .i64 0, .int .i64 0, .int .i64 0, .int .i64 4, .string ⟨#[98]⟩, .int .i64 10, .int .i64 0, .int .i64 0, .int .i64 8, .string ⟨#[99]⟩, .int .i64 0, .int .i64 10, .int .i64 0, .int .i64 6, .string ⟨#[100]⟩, .int .i64 5, .int .i64 0, .int .i64 0, .int .i64 5]) => show PalR w (.returned (.slice (some ⟨V.heap.size, 0, none⟩) 4 4)) (V.alloc (.cells cs t)) from by
    refine ⟨_, rfl, ⟨rfl, by simp, ?_⟩, hV.alloc _⟩
    intro i hi
    have hh : (V.alloc (.cells cs t)).heap[V.heap.size]? = some (.cells cs t) := heap_alloc_new _ _
    generalize V.alloc (.cells cs t) = Z at *
    rw [hcs] at hh
    have : i = 0 ∨ i = 1 ∨ i = 2 ∨ i = 3 := by omega
    rcases this with rfl | rfl | rfl | rfl <;> simp [World.cell?, hh, tN, tA, tB, tC, tP, palT])
  go_enter Try.func27, Try.ntmps27
  go_wp2_with fail
  all_goals (go_ret; exact HX.out _ (New.refl _) _ _ rfl)

end Go.Proofs.Ytpjekinmcdglbaa
end
