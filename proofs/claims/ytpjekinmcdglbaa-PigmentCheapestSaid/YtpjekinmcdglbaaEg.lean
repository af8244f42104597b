/- Reach and Cheapest at any tints and shade; the law's shade. At most 1000 tints. -/
import Derived.Test.YtpjekinmcdglbaaMa
import Derived.Test.YtpjekinmcdglbaaEd
import Derived.Test.YtpjekinmcdglbaaCn
import Derived.Test.YtpjekinmcdglbaaCw
set_option linter.unusedSimpArgs false
set_option linter.unusedVariables false
set_option maxRecDepth 100000
namespace Go.Proofs.Ytpjekinmcdglbaa
open Go.RowKit

/-- a recipe whose parts are x -/
def RO (W : World) (v : Value) (x : List (Int × Int)) : Prop := ∃ sv cap, v = .agg #[.slice sv x.length cap] ∧ (0 < x.length → ∃ g off, sv = some ⟨g, off, none⟩ ∧ Prts W g off x.length x)
theorem RO.new {W V : World} {v : Value} {x : List (Int × Int)} (h : RO W v x) (hn : New W V) : RO V v x := by
  obtain ⟨sv, cap, e, h⟩ := h
  exact ⟨sv, cap, e, fun h0 => by obtain ⟨g, off, e, hp⟩ := h h0; exact ⟨g, off, e, hp.new hn⟩⟩
theorem RO.nil (W : World) : RO W (.agg #[.slice none 0 0]) [] := ⟨none, 0, rfl, fun h => absurd h (by simp)⟩
theorem RO.own {W : World} {base : Nat} {sv : Value} {x : List (Int × Int)} (hx : 0 < x.length) (h : W.ownsRow base 64 2 sv x.length (partCells x)) : RO W (.agg #[sv]) x := by
  obtain ⟨sa, sc, rfl⟩ := own_slice h
  obtain ⟨g, rfl⟩ := own_some h hx
  exact ⟨_, _, rfl, fun _ => ⟨g, 0, rfl, prts_of_own rfl h⟩⟩
def rOf (T : List T5) (m : Nat) (a b c : Int) : List (Int × Int) := if wntE T a b c m = 0 then (rcpL T m a b c).headD [] else []
def cOf (T : List T5) (m : Nat) (a b c : Int) : List (Int × Int) := if wntE T a b c m = 0 then (bestTo T (rcpL T m a b c)).getD [] else []
def isOf (T : List T5) (m : Nat) (a b c : Int) : Bool := decide (wntE T a b c m = 0) && !(rcpL T m a b c).isEmpty
def ceOf (T : List T5) (m : Nat) (a b c : Int) : Int := if wntE T a b c m = 0 then (if (rcpL T m a b c).isEmpty = true then 61 else 0) else wntE T a b c m
def RaR (w : World) (is : Bool) (E : Int) (x : List (Int × Int)) (en : Ending) (w' : World) : Prop := ∃ v, en = .returned (.tuple #[v, .bool is, .int .i64 E]) ∧ RO w' v x ∧ New w w'
def CaR (w : World) (E : Int) (x : List (Int × Int)) (en : Ending) (w' : World) : Prop := ∃ v n0 n1 n2 n3 den, en = .returned (.tuple #[v, .agg #[.int .i64 n0, .int .i64 n1, .int .i64 n2, .int .i64 n3, .int .i64 den], .int .i64 E]) ∧ RO w' v x ∧ New w w'
theorem rcp_pos {T : List T5} {n : Nat} {a b c : Int} {x : List (Int × Int)} (hS : shOk T) (ha : 0 ≤ a ∧ a ≤ 1000) (hb : 0 ≤ b ∧ b ≤ 1000) (hc : 0 ≤ c ∧ c ≤ 1000) (h : x ∈ rcpL T n a b c) : 0 < x.length := by
  have := (rcp_small hS ha hb hc h).1.1; omega
theorem best_of {T : List T5} {n : Nat} {a b c : Int} (htn : tnOk T) (ha : 0 ≤ a ∧ a ≤ 1000) (hb : 0 ≤ b ∧ b ≤ 1000) (hc : 0 ≤ c ∧ c ≤ 1000) : (rcpL T n a b c = [] → bestTo T (rcpL T n a b c) = none) ∧ (rcpL T n a b c ≠ [] → ∃ y, bestTo T (rcpL T n a b c) = some y ∧ y ∈ rcpL T n a b c ∧ posR T y ∧ ∀ x, x ∈ rcpL T n a b c → ¬ ltR T x y) :=
  best_spec fun x hx => posR_of htn (rcp_small (tn_sh htn) ha hb hc hx).1

theorem reach_any (tv : Option Addr) (m tc : Nat) (T : List T5) (a b c : Int) (w : World) (hm : m ≤ 1000) (hTl : T.length = m) (hT : 0 < m → ∃ b off, tv = some ⟨b, off, none⟩ ∧ Tnts w b off m T) :
    Calls Try.prog 15 #[.slice tv m tc, vv a b c] w (RaR w (isOf T m a b c) (wntE T a b c m) (rOf T m a b c)) := by
  have hcw : ∀ w1, New w w1 → Calls Try.prog 36 #[.slice tv m tc, vv a b c] w1 fun e w' => e = .returned (.int .i64 (wntE T a b c m)) ∧ New w1 w' :=
    fun w1 h1 => checkWanted_c tv m tc T a b c w1 (by omega) (fun h => by obtain ⟨b, o, e, h2⟩ := hT h; exact ⟨b, o, e, h2.new h1⟩)
  unfold isOf rOf
  by_cases hz : wntE T a b c m = 0
  · obtain ⟨htn, ha, hb, hc⟩ := wntE_zero hTl hz
    have h1 := (chkE_zero hTl (wntE_zero' hz).1).1
    obtain ⟨tb, off, rfl, hTn⟩ := hT (by omega)
    rw [hz] at hcw ⊢
    refine (reach_ok tb off m tc a b c T w hTn (tn_sh htn) hm (by omega) (by omega) (by omega) hcw).mono ?_
    rintro en w' ⟨hn, ⟨h, rfl⟩ | ⟨x, rest, sv, h, rfl, ho⟩⟩
    · rw [h]; exact ⟨_, rfl, by simpa using RO.nil w', hn⟩
    · have hx := rcp_pos (tn_sh htn) ha hb hc (show x ∈ rcpL T m a b c by rw [h]; simp)
      rw [h]; exact ⟨_, rfl, by simpa using RO.own hx ho, hn⟩
  · refine (reach_err tv m tc a b c _ w hz hcw).mono ?_
    rintro en w' ⟨rfl, hn⟩
    rw [decide_eq_false hz, if_neg hz]
    exact ⟨_, rfl, RO.nil w', hn⟩

theorem cheap_any (tv : Option Addr) (m tc : Nat) (T : List T5) (a b c : Int) (w : World) (hm : m ≤ 1000) (hTl : T.length = m) (hT : 0 < m → ∃ b off, tv = some ⟨b, off, none⟩ ∧ Tnts w b off m T) :
    Calls Try.prog 21 #[.slice tv m tc, vv a b c] w (CaR w (ceOf T m a b c) (cOf T m a b c)) := by
  have hcw : ∀ w1, New w w1 → Calls Try.prog 36 #[.slice tv m tc, vv a b c] w1 fun e w' => e = .returned (.int .i64 (wntE T a b c m)) ∧ New w1 w' :=
    fun w1 h1 => checkWanted_c tv m tc T a b c w1 (by omega) (fun h => by obtain ⟨b, o, e, h2⟩ := hT h; exact ⟨b, o, e, h2.new h1⟩)
  unfold ceOf cOf
  by_cases hz : wntE T a b c m = 0
  · obtain ⟨htn, ha, hb, hc⟩ := wntE_zero hTl hz
    have h1 := (chkE_zero hTl (wntE_zero' hz).1).1
    obtain ⟨tb, off, rfl, hTn⟩ := hT (by omega)
    rw [hz] at hcw ⊢
    refine (cheap_ok tb off m tc a b c T w hTn (tn_sh htn) htn hm (by omega) (by omega) (by omega) (fun x hx => (rcp_small (tn_sh htn) ha hb hc hx).1) hcw (fun w1 lx ly h1 => (dualOf_c tb off m tc a b c lx ly T w1 (hTn.new h1) (tn_sh htn) htn hm ha hb hc))).mono ?_
    obtain ⟨b1, b2⟩ := best_of (n := m) htn ha hb hc
    rintro en w' ⟨hn, ⟨h, rfl⟩ | ⟨y, sv, n0, n1, n2, n3, den, h, rfl, ho⟩⟩
    · have hL : rcpL T m a b c = [] := by
        by_cases hL : rcpL T m a b c = []
        · exact hL
        · obtain ⟨y, hy, _⟩ := b2 hL; rw [h] at hy; cases hy
      rw [h, hL]; exact ⟨_, 0, 0, 0, 0, 0, rfl, by simpa using RO.nil w', hn⟩
    · have hL : rcpL T m a b c ≠ [] := fun e => by rw [b1 e] at h; cases h
      obtain ⟨y', hy', hm', _⟩ := b2 hL
      obtain rfl : y = y' := by rw [h] at hy'; injection hy'
      have hx := rcp_pos (tn_sh htn) ha hb hc hm'
      have he : (rcpL T m a b c).isEmpty = false := by cases hq : rcpL T m a b c <;> simp_all
      rw [h, he]; exact ⟨_, n0, n1, n2, n3, den, rfl, by simpa using RO.own hx ho, hn⟩
  · refine (cheap_err tv m tc a b c _ w hz hcw).mono ?_
    rintro en w' ⟨rfl, hn⟩
    rw [if_neg hz, if_neg hz]
    exact ⟨_, 0, 0, 0, 0, 0, rfl, RO.nil w', hn⟩

/-- what Mix and Price say of a recipe of the list -/
theorem rcp_mix {T : List T5} {m : Nat} {a b c : Int} {x : List (Int × Int)} (hTl : T.length = m) (hz : wntE T a b c m = 0) (h : x ∈ rcpL T m a b c) :
    rcpE T x m = 0 ∧ mixV T x m x.length = .agg (arr6 a 1 b 1 c 1) ∧ priA T x m x.length = pxA T x ∧ priB T x m x.length = pxB T x := by
  obtain ⟨htn, ha, hb, hc⟩ := wntE_zero hTl hz
  have hE : rcpE T x m = 0 := by
    unfold rcpE
    rw [(wntE_zero' hz).1, (rcp_small (tn_sh htn) ha hb hc h).2]; rfl
  obtain ⟨⟨⟨l1, _⟩, _, _⟩, s1, s2, s3⟩ := rcp_spec (tn_sh htn) ha hb hc h
  have hp := posR_of htn (rcp_small (tn_sh htn) ha hb hc h).1
  obtain ⟨p1, p2⟩ := low_whole a (sumW x x.length) ha.1 hp.2
  obtain ⟨p3, p4⟩ := low_whole b (sumW x x.length) hb.1 hp.2
  obtain ⟨p5, p6⟩ := low_whole c (sumW x x.length) hc.1 hp.2
  refine ⟨hE, ?_, ?_, ?_⟩
  · unfold mixV mixQ mixR
    simp only [if_pos hE, s1, s2, s3, p1, p2, p3, p4, p5, p6]
  · unfold priA pxA; rw [if_pos hE]
  · unfold priB pxB; rw [if_pos hE]

theorem neq_frac (a b c d : Int) (w : World) : (binOp .neq 29 (.agg #[.int .i64 a, .int .i64 b]) (.agg #[.int .i64 c, .int .i64 d])).run Try.prog w = .ok (.bool (!(a == c && b == d))) w := by
  rw [run_neq_struct, show (10000 : Nat) = 9998 + 2 from rfl, frac_two]; rfl
def SdW (w W : World) (g : Nat) (a b c : Int) : Prop :=
  New w W ∧ W.heap[g]? = some (.cells (arr6 a 1 b 1 c 1) 30 (0, 0)) ∧ W.heap[w.heap.size + 1]? = some (.cells (#[.int .i64 a, .int .i64 b, .int .i64 c] : Array Value) 37 (0, 0))
theorem SdW.keep {w W V : World} {g : Nat} {a b c : Int} (h : SdW w W g a b c) (hn : New W V) : SdW w V g a b c := by
  have hk : ∀ k o, W.heap[k]? = some o → V.heap[k]? = some o := fun k o h => (hn.below.block k (Array.getElem?_eq_some_iff.1 h).1).trans h
  exact ⟨h.1.trans hn, hk _ _ h.2.1, hk _ _ h.2.2⟩
set_option maxHeartbeats 8000000 in
theorem shade_c (tv pv : Option Addr) (m tc n pc : Nat) (T : List T5) (P : List (Int × Int)) (a b c : Int) (w : World) (hm : m ≤ 1000) (hn : n ≤ 1000) (hTl : T.length = m) (hT : 0 < m → ∃ b off, tv = some ⟨b, off, none⟩ ∧ Tnts w b off m T) (hP : P.length = n) (hp : 0 < n → ∃ b off, pv = some ⟨b, off, none⟩ ∧ Prts w b off n P)
    (hE : rcpE T P m = 0) (hM : mixV T P m n = .agg (arr6 a 1 b 1 c 1)) :
    Calls Try.prog 26 #[.slice tv m tc, .agg #[.slice pv n pc], vv a b c] w fun en w' => en = .returned (.bool true) ∧ New w w' := by
  have HM := Lib.hid (fun (w1 : World) (h1 : New w w1) => Mix_c tv pv m tc n pc T P w1 (by omega) (by omega) hTl (fun h => by obtain ⟨b, o, e, h2⟩ := hT h; exact ⟨b, o, e, h2.new h1⟩) hP (fun h => by obtain ⟨b, o, e, h2⟩ := hp h; exact ⟨b, o, e, h2.new h1⟩))
  rw [hE, hM] at HM
  clear hT hp hE hM
  go_enter Try.func26, Try.ntmps26
  go_wp2_with fail
  go_at_call 11
  refine (HM.out _ (((New.refl w).alloc _).alloc _)).mono ?_
  rintro e w2 ⟨rfl, hn2⟩
  have hP0 : ((w.alloc (.cells #[.slice pv n pc] 25)).alloc (.cells #[.int .i64 a, .int .i64 b, .int .i64 c] 37)).heap[w.heap.size + 1]? = some (.cells #[.int .i64 a, .int .i64 b, .int .i64 c] 37 (0, 0)) := alloc2_new rfl
  have HW := Lib.hid (show SdW w (w2.alloc (.cells (arr6 a 1 b 1 c 1) 30)) w2.heap.size a b c from
    ⟨((((New.refl w).alloc _).alloc _).trans hn2).alloc _, heap_alloc_new _ _, ((hn2.alloc _).below.block _ (Array.getElem?_eq_some_iff.1 hP0).1).trans hP0⟩)
  have hgl : w2.heap.size < (w2.alloc (.cells (arr6 a 1 b 1 c 1) 30)).heap.size := by simp
  clear hn2 hP0
  unfold arr6
  go_wp2_with fail
  obtain ⟨W3, hW3⟩ : ∃ W3, W3 = w2.alloc (.cells (arr6 a 1 b 1 c 1) 30) := ⟨_, rfl⟩
  rw [← hW3] at HW hgl
  unfold arr6 at hW3
  rw [← hW3]
  clear hW3
  generalize w2.heap.size = G at *
  go_loopw [9] (fun i wr => ∃ k : Nat, k ≤ 3 ∧ i = .int .i64 k ∧ SdW w wr G a b c) (fun i _ => 3 - (intOf i).toNat)
  case atStart => exact ⟨0, by omega, rfl, HW.out⟩
  case round =>
    obtain ⟨k, hk, rfl, hw⟩ := hrel
    have HWR := Lib.hid hw
    clear hw HW hgl
    obtain ⟨⟨s0, s1, s2⟩, s3, s4, s5⟩ := arr6_cells HWR.out.2.1
    obtain ⟨t0, t1, t2⟩ := cell_v3 HWR.out.2.2
    have hg1 := (Array.getElem?_eq_some_iff.1 HWR.out.2.1).1
    have hg2 := (Array.getElem?_eq_some_iff.1 HWR.out.2.2).1
    by_cases hlt : k < 3
    · have h3 : k = 0 ∨ k = 1 ∨ k = 2 := by omega
      rcases h3 with rfl | rfl | rfl
      · have r := neq_frac a 1 a 1
        rw [show (!(a == a && (1 : Int) == 1)) = false by simp] at r
        go_upto_region 5 with fail
        first | refine wp_region_at2 (by kernel_rfl) (by kernel_rfl) ?_ | refine wp_region_at (by kernel_rfl) (by kernel_rfl) ?_
        repeat (go_big_quiet_step (fail))
        refine wpQuiet_nil ?_
        rintro U3 hq
        have HU := Lib.hid (HWR.out.keep (show New wr U3 from hq))
        clear hq s0 s1 s2 s3 s4 s5 t0 t1 t2
        go_wp2_with fail
        go_roundw
        case rel => exact ⟨1, by omega, by go_num, HU.out⟩
        case measure => simp [intOf]
      · have r := neq_frac b 1 b 1
        rw [show (!(b == b && (1 : Int) == 1)) = false by simp] at r
        go_upto_region 5 with fail
        first | refine wp_region_at2 (by kernel_rfl) (by kernel_rfl) ?_ | refine wp_region_at (by kernel_rfl) (by kernel_rfl) ?_
        repeat (go_big_quiet_step (fail))
        refine wpQuiet_nil ?_
        rintro U3 hq
        have HU := Lib.hid (HWR.out.keep (show New wr U3 from hq))
        clear hq s0 s1 s2 s3 s4 s5 t0 t1 t2
        go_wp2_with fail
        go_roundw
        case rel => exact ⟨2, by omega, by go_num, HU.out⟩
        case measure => simp [intOf]
      · have r := neq_frac c 1 c 1
        rw [show (!(c == c && (1 : Int) == 1)) = false by simp] at r
        go_upto_region 5 with fail
        first | refine wp_region_at2 (by kernel_rfl) (by kernel_rfl) ?_ | refine wp_region_at (by kernel_rfl) (by kernel_rfl) ?_
        repeat (go_big_quiet_step (fail))
        refine wpQuiet_nil ?_
        rintro U3 hq
        have HU := Lib.hid (HWR.out.keep (show New wr U3 from hq))
        clear hq s0 s1 s2 s3 s4 s5 t0 t1 t2
        go_wp2_with fail
        go_roundw
        case rel => exact ⟨3, by omega, by go_num, HU.out⟩
        case measure => simp [intOf]
    · obtain rfl : k = 3 := by omega
      have hk1 : ¬ ((3 : Nat) : Int) < 3 := by omega
      go_wp2_with fail
      all_goals (go_ret; exact ⟨rfl, HWR.out.1⟩)

end Go.Proofs.Ytpjekinmcdglbaa
