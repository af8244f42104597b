import Derived.Test.YtpjekinmcdglbaaEg
import Derived.Test.YtpjekinmcdglbaaNu
import Derived.Test.YtpjekinmcdglbaaNw
import Derived.Test.YtpjekinmcdglbaaNp
import Derived.Test.YtpjekinmcdglbaaEd
import Derived.Test.YtpjekinmcdglbaaCz
import Derived.Test.YtpjekinmcdglbaaCl

/- Cheapest at any input, with its dual: the two checks hold of what it gives. At most 1000 tints. -/
namespace Go.Proofs.Ytpjekinmcdglbaa
set_option linter.unusedSimpArgs false
set_option linter.unusedVariables false
set_option maxRecDepth 100000
open Go.RowKit

/-- what Cheapest returns: a recipe, and a dual of which the checks hold -/
def CvR (T : List T5) (m : Nat) (a b c : Int) (w : World) (E : Int) (x : List (Int × Int)) (en : Ending) (w' : World) : Prop :=
  ∃ v, ∃ (N : Nat → Int) (den : Int), en = .returned (.tuple #[v, .agg (arr5 (N 0) (N 1) (N 2) (N 3) den), .int .i64 E]) ∧ RO w' v x ∧ New w w' ∧ (E ≠ 0 → (N 0 = 0 ∧ N 1 = 0 ∧ N 2 = 0 ∧ N 3 = 0) ∧ den = 0) ∧ (E = 0 → wntE T a b c m = 0 ∧ ccB T x m x.length N den a b c = true)
theorem cheapest_d (tv : Option Addr) (m tc : Nat) (T : List T5) (a b c : Int) (w : World) (hm : m ≤ 1000) (hTl : T.length = m) (hT : 0 < m → ∃ b off, tv = some ⟨b, off, none⟩ ∧ Tnts w b off m T) :
    Calls Try.prog 21 #[.slice tv m tc, vv a b c] w (CvR T m a b c w (ceOf T m a b c) (cOf T m a b c)) := by
  have hcw : ∀ w1, New w w1 → Calls Try.prog 36 #[.slice tv m tc, vv a b c] w1 fun e w' => e = .returned (.int .i64 (wntE T a b c m)) ∧ New w1 w' :=
    fun w1 h1 => checkWanted_c tv m tc T a b c w1 (by omega) (fun h => by obtain ⟨b, o, e, h2⟩ := hT h; exact ⟨b, o, e, h2.new h1⟩)
  unfold ceOf cOf
  by_cases hz : wntE T a b c m = 0
  · obtain ⟨htn, ha, hb, hc⟩ := wntE_zero hTl hz
    have h1 := (chkE_zero hTl (wntE_zero' hz).1).1
    obtain ⟨tb, off, rfl, hTn⟩ := hT (by omega)
    have hz0 := hz
    rw [hz] at hcw ⊢
    refine (cheap_v (fun lx ly n0 n1 n2 n3 den => ∃ N : Nat → Int, (n0 = N 0 ∧ n1 = N 1 ∧ n2 = N 2 ∧ n3 = N 3) ∧ ((∃ y, y ∈ freeTo T m 4 ∧ fitB T m lx ly a b c y = true) → duB T m N den lx ly a b c = true)) tb off m tc a b c T w hTn (tn_sh htn) htn hm (by omega) (by omega) (by omega) (fun x hx => (rcp_small (tn_sh htn) ha hb hc hx).1) hcw (fun w1 lx ly h1 => (dualOf_v tb off m tc a b c lx ly T w1 (hTn.new h1) (tn_sh htn) htn hm ha hb hc).mono (fun e w' => by
      rintro ⟨N, den, he, hn, hf⟩
      exact ⟨_, _, _, _, _, he, hn, N, ⟨rfl, rfl, rfl, rfl⟩, hf⟩))).mono ?_
    obtain ⟨b1, b2⟩ := best_of (n := m) htn ha hb hc
    rintro en w' ⟨hn, ⟨h, rfl⟩ | ⟨y, sv, n0, n1, n2, n3, den, h, rfl, ho, N, ⟨rfl, rfl, rfl, rfl⟩, hf⟩⟩
    · have hL : rcpL T m a b c = [] := by
        by_cases hL : rcpL T m a b c = []
        · exact hL
        · obtain ⟨y, hy, _⟩ := b2 hL; rw [h] at hy; cases hy
      rw [h, hL]; exact ⟨_, fun _ => 0, 0, rfl, by simpa using RO.nil w', hn, fun _ => ⟨⟨rfl, rfl, rfl, rfl⟩, rfl⟩, fun h => by simp at h⟩
    · have hL : rcpL T m a b c ≠ [] := fun e => by rw [b1 e] at h; cases h
      obtain ⟨y', hy', hm', _⟩ := b2 hL
      obtain rfl : y = y' := by rw [h] at hy'; injection hy'
      have hx := rcp_pos (tn_sh htn) ha hb hc hm'
      have he : (rcpL T m a b c).isEmpty = false := by cases hq : rcpL T m a b c <;> simp_all
      have hd := hf (dual_fits htn (tn_sh htn) ha hb hc h)
      obtain ⟨_, s1, s2, s3⟩ := rcp_spec (tn_sh htn) ha hb hc hm'
      have hrb := (rcp_small (tn_sh htn) ha hb hc hm').2
      rw [h, he]
      refine ⟨_, N, den, rfl, by simpa using RO.own hx ho, hn, fun h => by simp at h, fun _ => ⟨hz0, ?_⟩⟩
      show ccB T y m y.length N den a b c = true
      unfold ccB gvB
      unfold pxA pxB at hd
      rw [hrb, hd, s1, s2, s3, Int.mul_comm a, Int.mul_comm b, Int.mul_comm c]
      simp
  · refine (cheap_err tv m tc a b c _ w hz hcw).mono ?_
    rintro en w' ⟨rfl, hn⟩
    rw [if_neg hz, if_neg hz]
    exact ⟨_, fun _ => 0, 0, rfl, RO.nil w', hn, fun _ => ⟨⟨rfl, rfl, rfl, rfl⟩, rfl⟩, fun h => absurd h hz⟩

end Go.Proofs.Ytpjekinmcdglbaa

/- The reference's Cheapest at any input: the recipe that the program's gives. At most 1000 tints. -/
namespace Go.Proofs.Ytpjekinmcdglbaa
set_option linter.unusedSimpArgs false
set_option linter.unusedVariables false
set_option maxRecDepth 100000
open Go.RowKit Go.Shelf

/-- the recipes of the choices of fewer than k -/
def rkTo (T : List T5) (n : Nat) (x : V3) (k : Nat) : List (List (Int × Int)) := (List.range (k - 1)).flatMap fun i => rkL T n x (i + 1)
theorem rkTo_one (T : List T5) (n : Nat) (x : V3) : rkTo T n x 1 = [] := rfl
theorem rkTo_five (T : List T5) (n : Nat) (a b c : Int) : rkTo T n ⟨a, b, c⟩ 5 = rcpL T n a b c := (rcpL_eq T n a b c).symm
theorem rkTo_succ (T : List T5) (n : Nat) (x : V3) {k : Nat} (hk : 1 ≤ k) : rkTo T n x (k + 1) = rkTo T n x k ++ (chL n k).filterMap fun pl => rfR T pl x := by
  obtain ⟨j, rfl⟩ : ∃ j, k = j + 1 := ⟨k - 1, by omega⟩
  simp only [rkTo, Nat.add_sub_cancel, List.range_succ, List.flatMap_append, List.flatMap_cons, List.flatMap_nil, List.append_nil]
  rfl
theorem rk_mem {T : List T5} {n k : Nat} {a b c : Int} {l : List Nat} {r : List (Int × Int)} (h1 : 1 ≤ k) (h4 : k ≤ 4) (hl : l ∈ chL n k) (hr : rfR T l ⟨a, b, c⟩ = some r) : r ∈ rcpL T n a b c := by
  rw [rcpL_eq, List.mem_flatMap]
  refine ⟨k - 1, List.mem_range.2 (by omega), ?_⟩
  rw [show k - 1 + 1 = k by omega]
  exact List.mem_filterMap.2 ⟨l, hl, hr⟩
theorem rk_take {T : List T5} {X : List (List Nat)} {x : V3} {j : Nat} {l : List Nat} (hl : X[j]? = some l) : (X.take (j + 1)).filterMap (fun pl => rfR T pl x) = (X.take j).filterMap (fun pl => rfR T pl x) ++ (rfR T l x).toList := by
  rw [List.take_add_one, hl, List.filterMap_append]
  cases h : rfR T l x <;> simp [h]
theorem sums_bd {T : List T5} {x : List (Int × Int)} {n : Nat} (htn : tnOk T) (h : smallR x n) : (0 ≤ sumT x (tP T) x.length ∧ sumT x (tP T) x.length ≤ 4000000000000000000) ∧ 0 < sumW x x.length ∧ sumW x x.length ≤ 4000000000000000000 := by
  have h0 := (posR_of htn h).1
  obtain ⟨⟨h1, h2⟩, h3⟩ := h
  have hwok : ∀ i, i < x.length → 1 ≤ pW x i ∧ pW x i ≤ 1000000000000 := fun i hi => (h3 i hi).1
  have sW := sumW_bd (P := x) (k := x.length) hwok
  have sW1 := sumW_pos h3 (by omega)
  have sP := sumT_bd (P := x) (f := tP T) (M := 10000) (by omega) (k := x.length) (fun i hi => ⟨hwok i hi, (htn _).2.2.1, (htn _).2.2.2⟩)
  unfold pP at h0
  omega
theorem px_pos {T : List T5} {x : List (Int × Int)} {n : Nat} (htn : tnOk T) (h : smallR x n) : 0 < pxB T x := by
  have := sums_bd htn h
  exact (low_cross _ _ this.1.1 this.2.1).2.2
theorem ltB_less2 {a b c d : Int} (ha : 0 ≤ a) (hb : 0 ≤ b) (hc : 0 ≤ c) (hd : 0 ≤ d) : ltB false a b c d = lessB a.toNat b.toNat c.toNat d.toNat := by
  obtain ⟨a, rfl⟩ := Int.eq_ofNat_of_zero_le ha
  obtain ⟨b, rfl⟩ := Int.eq_ofNat_of_zero_le hb
  obtain ⟨c, rfl⟩ := Int.eq_ofNat_of_zero_le hc
  obtain ⟨d, rfl⟩ := Int.eq_ofNat_of_zero_le hd
  unfold ltB lessB
  simp only [Int.toNat_natCast, Bool.false_eq_true, if_false]
  rw [decide_eq_decide]
  rw [← Int.natCast_mul, ← Int.natCast_mul]; omega
/-- the boxes of Cheapest: the shade, the result, the best, its price -/
def CfS (w W : World) (B : Nat) (x : V3) (n : Nat) (T : List T5) (done : List (List (Int × Int))) (fd : Bool) : Prop :=
  New w W ∧ W.heap[w.heap.size]? = some (.cells (cV3 x) 37 (0, 0)) ∧ W.heap[w.heap.size + 1]? = some (.cells #[.slice none 0 0] 25 (0, 0)) ∧
    ∃ sv px py, W.heap[B]? = some (.cells #[sv] 25 (0, 0)) ∧ W.heap[B + 1]? = some (.cells #[.int .i64 px, .int .i64 py] 29 (0, 0)) ∧
      ((done = [] ∧ fd = false) ∨ ∃ y, fd = true ∧ bestTo T done = some y ∧ smallR y n ∧ px = pxA T y ∧ py = pxB T y ∧ W.ownsRow w.heap.size 64 2 sv y.length (partCells y))
theorem CfS.new {w W V : World} {B : Nat} {x : V3} {n : Nat} {T : List T5} {done : List (List (Int × Int))} {fd : Bool} (h : CfS w W B x n T done fd) (hn : New W V) : CfS w V B x n T done fd := by
  have hk : ∀ k o, W.heap[k]? = some o → V.heap[k]? = some o := fun k o h => (hn.below.block k (Array.getElem?_eq_some_iff.1 h).1).trans h
  obtain ⟨h1, h2, h3, sv, px, py, h4, h5, h6⟩ := h
  refine ⟨h1.trans hn, hk _ _ h2, hk _ _ h3, sv, px, py, hk _ _ h4, hk _ _ h5, h6.imp id ?_⟩
  rintro ⟨y, q1, q2, q3, q4, q5, q6⟩
  exact ⟨y, q1, q2, q3, q4, q5, own_new q6 hn⟩
/-- a better one is put in -/
theorem CfS.put {w W : World} {B : Nat} {x : V3} {n : Nat} {T : List T5} {done : List (List (Int × Int))} {fd : Bool} {r : List (Int × Int)} {sv : Value} {base : Nat} (hB : w.heap.size + 1 < B) (h : CfS w W B x n T done fd) (hb : bestTo T (done ++ [r]) = some r) (hs : smallR r n) (hw : w.heap.size ≤ base) (ho : W.ownsRow base 64 2 sv r.length (partCells r)) :
    CfS w (((W.setCell ⟨B, 0, none⟩ sv).setCell ⟨B + 1, 0, none⟩ (.int .i64 (pxA T r))).setCell ⟨B + 1, 1, none⟩ (.int .i64 (pxB T r))) B x n T (done ++ [r]) true ∧
    Mod (fun k => k = B ∨ k = B + 1) W (((W.setCell ⟨B, 0, none⟩ sv).setCell ⟨B + 1, 0, none⟩ (.int .i64 (pxA T r))).setCell ⟨B + 1, 1, none⟩ (.int .i64 (pxB T r))) := by
  obtain ⟨h1, h2, h3, sv0, px, py, h4, h5, h6⟩ := h
  have hm : Mod (fun k => k = B ∨ k = B + 1) W (((W.setCell ⟨B, 0, none⟩ sv).setCell ⟨B + 1, 0, none⟩ (.int .i64 (pxA T r))).setCell ⟨B + 1, 1, none⟩ (.int .i64 (pxB T r))) :=
    ((Mod.setCell _ _ _ _ (.inl rfl)).trans (Mod.setCell _ _ _ _ (.inr rfl))).trans (Mod.setCell _ _ _ _ (.inr rfl))
  have hk : ∀ k o, k < B → W.heap[k]? = some o → (((W.setCell ⟨B, 0, none⟩ sv).setCell ⟨B + 1, 0, none⟩ (.int .i64 (pxA T r))).setCell ⟨B + 1, 1, none⟩ (.int .i64 (pxB T r))).heap[k]? = some o := fun k o hk h => (hm.2 k (Array.getElem?_eq_some_iff.1 h).1 (by omega)).trans h
  refine ⟨⟨Mod.new h1 hm fun k hk => by omega, hk _ _ (by omega) h2, hk _ _ (by omega) h3, sv, _, _, ?_, ?_, .inr ⟨r, rfl, hb, hs, rfl, rfl, own_base (own_keep ho fun g hg => hm.2 g (ho.lt g hg).2 ?_) hw⟩⟩, hm⟩
  · rw [heap_setCell_other _ _ _ _ _ (by omega), heap_setCell_other _ _ _ _ _ (by omega)]
    exact heap_setCell_same _ _ 0 _ h4
  · exact (heap_setCell_same _ _ 1 _ (heap_setCell_same _ _ 0 _ ((heap_setCell_other _ _ _ _ _ (by omega)).trans h5))).trans (by simp)
  · rintro (e | e)
    · exact own_ne ho h4 (fun cur h => by cases h) (by rw [hg, e])
    · exact own_ne ho h5 (fun cur h => by cases h) (by rw [hg, e])
/-- the best stays -/
theorem CfS.stay {w W : World} {B : Nat} {x : V3} {n : Nat} {T : List T5} {done : List (List (Int × Int))} {r : List (Int × Int)} (h : CfS w W B x n T done true) (hb : bestTo T (done ++ [r]) = bestTo T done) : CfS w W B x n T (done ++ [r]) true := by
  obtain ⟨h1, h2, h3, sv, px, py, h4, h5, h6⟩ := h
  refine ⟨h1, h2, h3, sv, px, py, h4, h5, .inr ?_⟩
  rcases h6 with ⟨_, h⟩ | ⟨y, q1, q2, q3⟩
  · cases h
  · exact ⟨y, q1, hb.trans q2, q3⟩
theorem LL.mod {base : Nat} {W V : World} {v : Value} {X : List (List Nat)} {B : Nat} (hB : B + 1 < base) (hs : base ≤ W.heap.size) (h : LL base W v X) (hm : Mod (fun k => k = B ∨ k = B + 1) W V) : LL base V v X := by
  obtain ⟨hs, h1, h2⟩ := h
  exact ⟨hs, own_keep h1 fun g hg => hm.2 g (h1.lt g hg).2 (by have := (h1.lt g hg).1; omega), fun j x hx => by
    obtain ⟨u, h3, h4⟩ := h2 j x hx
    exact ⟨u, h3, own_keep h4 fun g hg => hm.2 g (h4.lt g hg).2 (by have := (h4.lt g hg).1; omega)⟩⟩
theorem chf_results (tmps : Array Value) (W : World) (a : Nat) (sv : Value) (E : Int) (t : TypeId) (h4 : tmps.getD 4 undef = .pointer (some ⟨a, 0, none⟩)) (h5 : tmps.getD 5 undef = .int .i64 E) (hA : W.heap[a]? = some (.cells #[sv] t (0, 0))) :
    (results Try.f22 tmps).run Try.prog W = .ok (.tuple #[.agg #[sv], .int .i64 E]) W := by
  have c1 := (box_cell hA).1
  simp only [Array.getD_eq_getD_getElem?] at h4 h5
  simp [results, Try.results22, go_sem, h4, h5, c1]
def RfR (w : World) (E : Int) (x : List (Int × Int)) (en : Ending) (w' : World) : Prop := ∃ v, en = .returned (.tuple #[v, .int .i64 E]) ∧ RO w' v x ∧ New w w'

set_option maxHeartbeats 16000000 in
theorem rcheap_any (tv : Option Addr) (m tc : Nat) (T : List T5) (a b c : Int) (w : World) (hm : m ≤ 1000) (hTl : T.length = m) (hT : 0 < m → ∃ b off, tv = some ⟨b, off, none⟩ ∧ Tnts w b off m T) :
    Calls Try.prog 22 #[.slice tv m tc, vv a b c] w (RfR w (ceOf T m a b c) (cOf T m a b c)) := by
  have HW := Lib.hid (fun (w1 : World) (h1 : New w w1) => ref_wanted tv m tc T a b c w1 (by omega) (fun h => by obtain ⟨b, o, e, h2⟩ := hT h; exact ⟨b, o, e, h2.new h1⟩))
  have HCE := Lib.hid (show ceOf T m a b c = if wntE T a b c m = 0 then (if (rcpL T m a b c).isEmpty = true then 61 else 0) else wntE T a b c m from rfl)
  have HCO := Lib.hid (show cOf T m a b c = if wntE T a b c m = 0 then (bestTo T (rcpL T m a b c)).getD [] else [] from rfl)
  by_cases hz : wntE T a b c m = 0
  · obtain ⟨htn, ha, hb, hc⟩ := wntE_zero hTl hz
    obtain ⟨hchk, _⟩ := wntE_zero' hz
    have h1 := (chkE_zero hTl hchk).1
    obtain ⟨tb, off, rfl, hTn⟩ := hT (by omega)
    have hS : shOk T := tn_sh htn
    have hx : bdV 1000 ⟨a, b, c⟩ := ⟨⟨by simp only; omega, by simp only; omega⟩, ⟨by simp only; omega, by simp only; omega⟩, by simp only; omega, by simp only; omega⟩
    rw [hz] at HW
    rw [if_pos hz] at HCE HCO
    have HREC := Lib.hid (fun (W0 : World) (base : Nat) (pl : List Nat) (v : Value) (h0 : New w W0) (q1 : 1 ≤ pl.length) (q4 : pl.length ≤ 4) (ql : ∀ p ∈ pl, p < m) (hv : W0.ownsRow base 3 1 v pl.length (natCells pl)) => recR_c tb off m tc base T pl v ⟨a, b, c⟩ W0 (hTn.new h0) hS hm q1 q4 ql hx hv)
    have HCH := Lib.hid (fun (k : Nat) (hk : k ≤ 4) (W0 : World) => rchoices_c m k W0 hm hk)
    have HSM := Lib.hid (fun (k : Nat) (l : List Nat) (r : List (Int × Int)) (q1 : 1 ≤ k) (q4 : k ≤ 4) (hl : l ∈ chL m k) (hr : rfR T l ⟨a, b, c⟩ = some r) => (rcp_small hS ha hb hc (rk_mem q1 q4 hl hr)).1)
    have HSU := Lib.hid (fun (r : List (Int × Int)) (hr : smallR r m) (pb : Nat) (pc : Nat) (W0 : World) (h0 : New w W0) (hP : Prts W0 pb 0 r.length r) => ref_sums tb off m tc pb 0 r.length pc T r W0 (hTn.new h0) hP hr.2 htn hr.1.2 hm)
    have HRT := Lib.hid (fun (r : List (Int × Int)) (hr : smallR r m) (W0 : World) => (show Calls Try.prog 34 #[.int .i64 (sumT r (tP T) r.length), .int .i64 (sumW r r.length)] W0 fun en w' => en = .returned (fv (pxA T r) (pxB T r)) ∧ New W0 w' from ratio_c _ _ W0 (sums_bd htn hr).1 (sums_bd htn hr).2))
    have HLS := Lib.hid (fun (r y : List (Int × Int)) (hr : smallR r m) (hy : smallR y m) (W0 : World) => (show Calls Try.prog 25 #[fv (pxA T r) (pxB T r), fv (pxA T y) (pxB T y)] W0 fun en w' => en = .returned (.bool (lessB (pxA T r).toNat (pxB T r).toNat (pxA T y).toNat (pxB T y).toNat)) ∧ New W0 w' from by
      have q1 := px_bd htn hr
      have q2 := px_bd htn hy
      have q3 := px_pos htn hr
      have q4 := px_pos htn hy
      rw [← ltB_less2 q1.1.1 q1.2.1 q2.1.1 q2.2.1]
      exact less_c _ _ _ _ W0 q1.1 ⟨q3, q1.2.2⟩ q2.1 ⟨q4, q2.2.2⟩))
    clear hT hTn hS hx htn ha hb hc hchk h1 hz
    generalize ceOf T m a b c = E' at *
    generalize cOf T m a b c = Y' at *
    go_enter Try.func22, Try.ntmps22
    go_wp2_with fail
    obtain ⟨W1, hW1⟩ : ∃ W1, W1 = (w.alloc (.cells (cV3 ⟨a, b, c⟩) 37)).alloc (.cells #[.slice none 0 0] 25) := ⟨_, rfl⟩
    have HB1 := Lib.hid (show RrB w W1 ⟨a, b, c⟩ by
      rw [hW1]; exact ⟨((New.refl _).alloc _).alloc _, by rw [Below.heap_alloc _ _ _ (by simp)]; exact World.alloc_heap_new _ _, alloc2_new rfl⟩)
    rw [← hW1]
    clear hW1
    go_at_call 38
    refine (HW.out _ HB1.out.1).mono ?_
    rintro e w2 ⟨rfl, hn2⟩
    have HB2 := Lib.hid (HB1.out.new hn2)
    clear hn2 HB1
    go_wp2_with fail
    obtain ⟨W3, hW3⟩ : ∃ W3, W3 = (w2.alloc (.cells #[.slice none 0 0] 25)).alloc (.cells #[.int .i64 0, .int .i64 0] 29) := ⟨_, rfl⟩
    have HBl := Lib.hid (show w.heap.size + 1 < w2.heap.size from (Array.getElem?_eq_some_iff.1 HB2.out.2.2).1)
    have HS3 := Lib.hid (show CfS w W3 w2.heap.size ⟨a, b, c⟩ m T [] false by
      have h3 := HB2.out.new (show New w2 W3 by rw [hW3]; exact ((New.refl _).alloc _).alloc _)
      refine ⟨h3.1, h3.2.1, h3.2.2, .slice none 0 0, 0, 0, ?_, ?_, .inl ⟨rfl, rfl⟩⟩
      · rw [hW3, Below.heap_alloc _ _ _ (by simp)]; exact World.alloc_heap_new _ _
      · rw [hW3]; exact alloc2_new rfl)
    rw [← hW3]
    clear hW3
    generalize hB : w2.heap.size = B at *
    go_loopw [9, 10] (fun f i wr => ∃ k : Nat, 1 ≤ k ∧ k ≤ 5 ∧ ∃ fd, f = .bool fd ∧ i = .int .i64 (k : Int) ∧ CfS w wr B ⟨a, b, c⟩ m T (rkTo T m ⟨a, b, c⟩ k) fd) (fun f i _ => 5 - (intOf i).toNat)
    case atStart => exact ⟨1, by omega, by omega, false, rfl, rfl, HS3.out⟩
    case round =>
      obtain ⟨k, hk1, hk5, fd, rfl, rfl, hbx⟩ := hrel
      have HBX := Lib.hid hbx
      clear hbx HS3
      by_cases hlt : k ≤ 4
      · have hk4 : (k : Int) ≤ 4 := by omega
        go_wp2_with fail
        go_at_call 39
        refine (HCH.out k hlt _).mono ?_
        rintro e w3 ⟨sv, rfl, hn3, hll⟩
        have hB1 : B + 1 < wr.heap.size := by
          obtain ⟨_, _, _, _, _, _, _, h, _⟩ := HBX.out
          exact (Array.getElem?_eq_some_iff.1 h).1
        have HB3 := Lib.hid (HBX.out.new hn3)
        have HLL := Lib.hid (show ∀ V, Mod (fun k => k = B ∨ k = B + 1) w3 V → LL wr.heap.size V sv (chL m k) from fun V hV => LL.mod hB1 hn3.size hll hV)
        have hXl : (chL m k).length ≤ 9223372036854775807 := by
          obtain ⟨hs, hrow, hin⟩ := hll
          rcases hrow.2 with ⟨_, h⟩ | ⟨_, _, _, _, _, _, h7, h8, _⟩
          · omega
          · unfold maxLen at h8; omega
        obtain ⟨sa, sc, rfl⟩ := own_slice hll.choose_spec.1
        have HME := Lib.hid (show ∀ l ∈ chL m k, l.length = k ∧ ∀ p ∈ l, p < m from fun l hl => chL_mem hl)
        have HSK := Lib.hid (HSM.out k · · hk1 hlt)
        have HSU2 := Lib.hid (rkTo_succ T m ⟨a, b, c⟩ hk1)
        clear hll
        obtain ⟨X, hX⟩ : ∃ X, X = chL m k := ⟨_, rfl⟩
        obtain ⟨D, hD⟩ : ∃ D, D = rkTo T m ⟨a, b, c⟩ k := ⟨_, rfl⟩
        rw [← hX] at HME HLL HSK HSU2 hXl ⊢
        rw [← hD] at HSU2 HB3
        clear hX hD HBX
        go_wp2_with fail
        go_loopw [9, 12] (fun f i wz => ∃ j : Nat, j ≤ X.length ∧ ∃ fd, f = .bool fd ∧ i = .int .i64 (j : Int) ∧ CfS w wz B ⟨a, b, c⟩ m T (D ++ (X.take j).filterMap fun pl => rfR T pl ⟨a, b, c⟩) fd ∧ Mod (fun k => k = B ∨ k = B + 1) w3 wz) (fun f i _ => X.length - (intOf i).toNat)
        case atStart => exact ⟨0, Nat.zero_le _, fd, rfl, rfl, by simpa using HB3.out, Mod.refl _ _⟩
        case round =>
          obtain ⟨j, hj, fd, rfl, rfl, hst, hmd⟩ := hrel
          have HST := Lib.hid hst
          have HMD := Lib.hid hmd
          have hll := HLL.out wr hmd
          by_cases hlt2 : j < X.length
          · have hj1 : (j : Int) < (X.length : Int) := by omega
            obtain ⟨l, hl⟩ : ∃ l, X[j]? = some l := ⟨_, List.getElem?_eq_getElem hlt2⟩
            obtain ⟨hlen, hln⟩ := HME.out l (List.mem_of_getElem? hl)
            obtain ⟨hs, hrow, hin⟩ := hll
            obtain ⟨h, hh1, hh2⟩ := hin j l hl
            obtain ⟨gX, cX, he, hgX1, hgX2⟩ := hrow.form (by omega)
            injection he with he1 he2 he3
            subst he1
            subst he3
            have HRW := Lib.hid hrow
            obtain ⟨sh, ch, rfl⟩ := own_slice hh2
            have hbs := (Array.getElem?_eq_some_iff.1 HST.out.2.1).1
            have HSW := Lib.hid (show ∀ Z, New wr Z → (Z.cell? ⟨gX, j, none⟩ = some (.slice sh l.length ch) ∧ Z.cell? ⟨w.heap.size, 0, none⟩ = some (.int .i64 a) ∧ Z.cell? ⟨w.heap.size, 1, none⟩ = some (.int .i64 b) ∧ Z.cell? ⟨w.heap.size, 2, none⟩ = some (.int .i64 c)) from fun Z hZ => by
              obtain ⟨z1, z2, z3⟩ := cells3 (HST.out.new hZ).2.1
              exact ⟨(own_cell (own_new HRW.out hZ) hh1).1, z1, z2, z3⟩)
            have hh := HSW.out wr (New.refl _)
            have HRC := Lib.hid (fun (V : World) (hV : New wr V) => HREC.out V _ l _ (HST.out.1.trans hV) (by omega) (by omega) hln (own_new hh2 hV))
            have HTK := Lib.hid (rk_take (T := T) (x := (⟨a, b, c⟩ : V3)) hl)
            have HLM := Lib.hid (List.mem_of_getElem? hl)
            have HLE := Lib.hid (show 1 ≤ l.length by omega)
            clear hst hmd hl hlen hln hh1 hh2 hrow hin
            cases hR : rfR T l ⟨a, b, c⟩ with
            | none =>
              rw [hR] at HTK
              have HC := Lib.hid (show ∀ V, New wr V → Calls Try.prog 40 #[.slice (some ⟨tb, off, none⟩) m tc, .slice sh l.length ch, v3 ⟨a, b, c⟩] V fun e w' => e = .returned (.tuple #[.agg #[.slice none 0 0], .bool false]) ∧ New V w' from fun V hV => (HRC.out V hV).mono fun e w' => by
                rintro ⟨sv, hn, ⟨_, he, _⟩ | ⟨l', hl', _⟩⟩
                · exact ⟨he, hn⟩
                · rw [hR] at hl'; cases hl')
              clear hR HRC
              go_wp2_with fail
              go_upto_region 14 with fail
              go_cut [14] (fun s12 wz => s12 = .bool false ∧ New wr wz)
              case first =>
                go_region_held3 (fun w' => (w'.cell? ⟨gX, j, none⟩ = some (.slice sh l.length ch) ∧ w'.cell? ⟨w.heap.size, 0, none⟩ = some (.int .i64 a) ∧ w'.cell? ⟨w.heap.size, 1, none⟩ = some (.int .i64 b) ∧ w'.cell? ⟨w.heap.size, 2, none⟩ = some (.int .i64 c))) (first | (with_reducible refine HSW.out _ ?_; (repeat (first | exact New.refl _ | apply New.alloc | apply New.aft | apply New.drew)); done))
                  (first | (go_at_call 40; refine (HC.out _ ?_).mono ?_; (focus (repeat (first | exact New.refl _ | apply New.alloc | apply New.aft | apply New.drew))); rintro e w4 ⟨rfl, pw, rfl⟩))
                all_goals (go_wp2_with fail; go_meet)
                all_goals exact ⟨rfl, by (repeat (first | exact New.refl _ | apply New.alloc | apply New.aft | apply New.drew))⟩
              case rest =>
                obtain ⟨rfl, hn4⟩ := hcut
                have HN4 := Lib.hid hn4
                clear hn4 hh HSW
                go_wp2_with fail
                go_roundw
                case rel => exact ⟨j + 1, by omega, fd, rfl, by go_num, by rw [HTK.out]; simpa using HST.out.new HN4.out, HMD.out.trans (Mod.of_new HN4.out)⟩
                case measure => simp [intOf]; omega
            | some r =>
              rw [hR] at HTK
              have HC := Lib.hid (show ∀ V, New wr V → Calls Try.prog 40 #[.slice (some ⟨tb, off, none⟩) m tc, .slice sh l.length ch, v3 ⟨a, b, c⟩] V fun e w' => ∃ qa qc, e = .returned (.tuple #[.agg #[.slice qa r.length qc], .bool true]) ∧ New V w' ∧ w'.ownsRow V.heap.size 64 2 (.slice qa r.length qc) r.length (partCells r) from fun V hV => (HRC.out V hV).mono fun e w' => by
                rintro ⟨sv, hn, ⟨hl', _⟩ | ⟨l', hl', he, ho⟩⟩
                · rw [hR] at hl'; cases hl'
                · rw [hR] at hl'; injection hl' with hl'; subst hl'; obtain ⟨qa, qc, rfl⟩ := own_slice ho; exact ⟨qa, qc, he, hn, ho⟩)
              have HRS := Lib.hid (HSK.out l r HLM.out hR)
              have hrl := rcp_lenR hR HLE.out
              clear hR HRC
              go_wp2_with fail
              go_upto_region 14 with fail
              go_cut [13, 14] (fun s11 s12 wz => ∃ G qa qc, s11 = .pointer (some ⟨G, 0, none⟩) ∧ s12 = .bool true ∧ New wr wz ∧ wz.heap[G]? = some (.cells #[.slice qa r.length qc] 25 (0, 0)) ∧ wz.ownsRow wr.heap.size 64 2 (.slice qa r.length qc) r.length (partCells r) ∧ wr.heap.size ≤ G)
              case first =>
                go_region_held3 (fun w' => (w'.cell? ⟨gX, j, none⟩ = some (.slice sh l.length ch) ∧ w'.cell? ⟨w.heap.size, 0, none⟩ = some (.int .i64 a) ∧ w'.cell? ⟨w.heap.size, 1, none⟩ = some (.int .i64 b) ∧ w'.cell? ⟨w.heap.size, 2, none⟩ = some (.int .i64 c))) (first | (with_reducible refine HSW.out _ ?_; (repeat (first | exact New.refl _ | apply New.alloc | apply New.aft | apply New.drew)); done))
                  (first | (go_at_call 40; refine (HC.out _ ?_).mono ?_; (focus (repeat (first | exact New.refl _ | apply New.alloc | apply New.aft | apply New.drew))); rintro e w4 ⟨qa, qc, rfl, ⟨pw, rfl⟩, hown⟩; have HOW := Lib.hid hown; clear hown))
                all_goals (go_wp2_with fail; go_meet)
                all_goals first
                  | exact ⟨_, qa, qc, rfl, rfl, (by (repeat (first | exact New.refl _ | apply New.alloc | apply New.aft | apply New.drew))), heap_aftA _ _ _ _, own_new HOW.out ((New.refl _).alloc _), by simp [Aft]; try omega⟩
                  | exact ⟨_, qa, qc, rfl, rfl, (by (repeat (first | exact New.refl _ | apply New.alloc | apply New.aft | apply New.drew))), heap_aftB _ _ _ _, own_base (own_keep HOW.out fun g hg => heap_aftQ _ _ _ _ _ (by have := (HOW.out.lt g hg).1; simp at this; omega)) (by simp), by simp [Aft]; try omega⟩
              case rest =>
                obtain ⟨G, qa, qc, rfl, rfl, hn4, hG, hown, hGl⟩ := hcut
                obtain ⟨g, rfl⟩ := own_some hown hrl
                have HMD4 := Lib.hid (HMD.out.trans (Mod.of_new hn4))
                have HS4 := Lib.hid (HST.out.new hn4)
                have HSUM := Lib.hid (fun V hV => HSU.out r HRS.out g qc V (HS4.out.1.trans hV) (prts_of_own rfl (own_new hown hV)))
                have HG := Lib.hid hG
                have HOW := Lib.hid hown
                have hB2 := Nat.lt_of_lt_of_le hB1 (Nat.le_trans hn3.size HMD.out.size)
                have hq1 : ¬ G = B := by omega
                have hq2 : ¬ G = B + 1 := by omega
                have c1 := (box_cell hG).1
                have hsG := (Array.getElem?_eq_some_iff.1 hG).1
                have hwb := HS4.out.1.size
                clear hn4 hG hown hGl hh HSW hB2
                go_wp2_with fail
                go_at_call 33
                refine (HSUM.out _ (New.refl _)).mono ?_
                rintro e w5 ⟨rfl, hn5⟩
                have HN5 := Lib.hid hn5
                clear hn5 c1
                go_wp2_with fail
                go_at_call 34
                refine (HRT.out r HRS.out _).mono ?_
                rintro e w6 ⟨rfl, hn6⟩
                have HN6 := Lib.hid ((HN5.out.alloc _).trans hn6)
                have HS6 := Lib.hid (HS4.out.new HN6.out)
                have HG6 := Lib.hid ((HN6.out.below.block _ (Array.getElem?_eq_some_iff.1 HG.out).1).trans HG.out)
                have HOW6 := Lib.hid (own_new HOW.out HN6.out)
                have HMD6 := Lib.hid (HMD4.out.trans (Mod.of_new HN6.out))
                clear hn6 hsG
                obtain ⟨_, _, _, sv0, px0, py0, j1, j2, jc⟩ := HS6.out
                have c1 := (box_cell HG6.out).1
                have c2 := box_cell j1
                obtain ⟨c3, c4⟩ := cell_fr j2
                have c5 := frozen_heap j2
                have c5a := c5 0
                have c5b := c5 1
                have hsG := (Array.getElem?_eq_some_iff.1 HG6.out).1
                have hsB := (Array.getElem?_eq_some_iff.1 j1).1
                have hsB2 := (Array.getElem?_eq_some_iff.1 j2).1
                have HPUT := Lib.hid (fun (V : World) (hV : New w6 V) (hb : bestTo T ((D ++ (X.take j).filterMap fun pl => rfR T pl ⟨a, b, c⟩) ++ [r]) = some r) => CfS.put (base := wr.heap.size) HBl.out (HS6.out.new hV) hb HRS.out (HST.out.1.size) (own_new HOW6.out hV))
                clear c5
                rcases jc with ⟨hd0, rfl⟩ | ⟨y, rfl, hy, hys, rfl, rfl, hyo⟩
                · have HP := Lib.hid (HPUT.out _ (New.refl w6) (by rw [hd0]; rfl))
                  clear HPUT j1 j2
                  go_wp2_with fail
                  go_roundw
                  case rel => exact ⟨j + 1, by omega, true, rfl, by go_num, by rw [HTK.out, ← List.append_assoc]; exact HP.out.1.new ((New.refl _).alloc _), (HMD6.out.trans HP.out.2).trans (Mod.of_new ((New.refl _).alloc _))⟩
                  case measure => simp [intOf]; omega
                · have HLSS := Lib.hid (HLS.out r y HRS.out hys)
                  have HBS := Lib.hid (show bestTo T ((D ++ (X.take j).filterMap fun pl => rfR T pl ⟨a, b, c⟩) ++ [r]) = if lessB (pxA T r).toNat (pxB T r).toNat (pxA T y).toNat (pxB T y).toNat = true then some r else some y by rw [bestTo_snoc, hy]; rfl)
                  have HBY := Lib.hid hy
                  generalize lessB (pxA T r).toNat (pxB T r).toNat (pxA T y).toNat (pxB T y).toNat = q at *
                  clear j1 j2 hy hys hyo
                  go_wp2_with fail
                  go_at_call 25
                  obtain ⟨W7, hW7⟩ : ∃ W7, W7 = w6.alloc (.cells #[.int .i64 (pxA T r), .int .i64 (pxB T r)] 29) := ⟨_, rfl⟩
                  have HN7 := Lib.hid (show New w6 W7 by rw [hW7]; exact (New.refl _).alloc _)
                  have HPB := Lib.hid (show W7.heap[w6.heap.size]? = some (.cells #[.int .i64 (pxA T r), .int .i64 (pxB T r)] 29 (0, 0)) by rw [hW7]; exact World.alloc_heap_new _ _)
                  rw [← hW7]
                  clear hW7
                  refine (HLSS.out _).mono ?_
                  rintro e w8 ⟨rfl, hn8⟩
                  have HN8 := Lib.hid (HN7.out.trans hn8)
                  have HS8 := Lib.hid (HS6.out.new HN8.out)
                  have HG8 := Lib.hid ((HN8.out.below.block _ (Array.getElem?_eq_some_iff.1 HG6.out).1).trans HG6.out)
                  have HPB8 := Lib.hid ((hn8.below.block _ (Array.getElem?_eq_some_iff.1 HPB.out).1).trans HPB.out)
                  clear hn8 c1 c2 c3 c4 c5a c5b hsG hsB hsB2
                  cases q
                  · have HST8 := Lib.hid (HS8.out.stay (r := r) (HBS.out.trans (by rw [HBY.out]; rfl)))
                    go_wp2_with fail
                    go_roundw
                    case rel => exact ⟨j + 1, by omega, true, rfl, by go_num, by rw [HTK.out, ← List.append_assoc]; exact HST8.out, HMD6.out.trans (Mod.of_new HN8.out)⟩
                    case measure => simp [intOf]; omega
                  · have HP := Lib.hid (HPUT.out _ HN8.out (HBS.out.trans rfl))
                    obtain ⟨_, _, _, sv1, px1, py1, j1, j2, _⟩ := HS8.out
                    have c1 := (box_cell HG8.out).1
                    have c2 := box_cell j1
                    obtain ⟨c3, c4⟩ := cell_fr j2
                    have c5 := frozen_heap j2
                    have c5a := c5 0
                    have c5b := c5 1
                    obtain ⟨c6, c7⟩ := cell_fr HPB8.out
                    have hsG := (Array.getElem?_eq_some_iff.1 HG8.out).1
                    have hsB := (Array.getElem?_eq_some_iff.1 j1).1
                    have hsB2 := (Array.getElem?_eq_some_iff.1 j2).1
                    have hsP := (Array.getElem?_eq_some_iff.1 HPB8.out).1
                    have hq3 : ¬ w6.heap.size = B := by have := (Array.getElem?_eq_some_iff.1 HS6.out.2.2.2.choose_spec.choose_spec.choose_spec.1).1; omega
                    have hq4 : ¬ w6.heap.size = B + 1 := by have := (Array.getElem?_eq_some_iff.1 HS6.out.2.2.2.choose_spec.choose_spec.choose_spec.2.1).1; omega
                    clear c5 j1 j2 HPUT
                    go_wp2_with fail
                    go_roundw
                    case rel => exact ⟨j + 1, by omega, true, rfl, by go_num, by rw [HTK.out, ← List.append_assoc]; exact HP.out.1, (HMD6.out).trans ((Mod.of_new HN8.out).trans (by exact HP.out.2))⟩
                    case measure => simp [intOf]; omega
          · obtain rfl : j = X.length := by omega
            clear hst hmd hll
            have HQ := Lib.hid (show rkTo T m ⟨a, b, c⟩ (k + 1) = D ++ (X.take X.length).filterMap fun pl => rfR T pl ⟨a, b, c⟩ by rw [HSU2.out, List.take_length])
            go_wp2_with fail
            go_roundw
            case rel => exact ⟨k + 1, by omega, by omega, fd, rfl, by go_num, by rw [HQ.out]; exact HST.out⟩
            case measure => simp [intOf]; omega
      · obtain rfl : k = 5 := by omega
        rw [rkTo_five] at HBX
        obtain ⟨h1, h2, h3, sv0, px0, py0, j1, j2, jc⟩ := HBX.out
        have c1 := box_cell j1
        have c2 := box_cell h3
        have hs3 := (Array.getElem?_eq_some_iff.1 h3).1
        have hsB := (Array.getElem?_eq_some_iff.1 j1).1
        have hq : ¬ B = w.heap.size + 1 := by have := HBl.out; omega
        have HR3 := Lib.hid h3
        rcases jc with ⟨hd0, rfl⟩ | ⟨y, rfl, hy, hys, rfl, rfl, hyo⟩
        · have HE := Lib.hid (show E' = 61 by rw [HCE.out, hd0]; rfl)
          have HY := Lib.hid (show Y' = [] by rw [HCO.out, hd0]; rfl)
          clear h1 h2 h3 j1 j2
          go_wp2_with fail
          refine bodyPost_ret (chf_results _ _ (w.heap.size + 1) (.slice none 0 0) 61 _ rfl rfl (heap_setCell_same _ _ 0 _ HR3.out)) rfl ⟨_, by rw [← HE.out], ?_, HBX.out.1.setCell (by show w.heap.size ≤ w.heap.size + 1; omega) _⟩
          rw [HY.out]
          exact RO.nil _
        · have hne : rcpL T m a b c ≠ [] := fun e => by rw [e] at hy; cases hy
          have hie : (rcpL T m a b c).isEmpty = false := by cases hq : rcpL T m a b c <;> simp_all
          have HE := Lib.hid (show E' = 0 by rw [HCE.out, hie]; rfl)
          have HY := Lib.hid (show Y' = y by rw [HCO.out, hy]; rfl)
          obtain ⟨sy, cy, rfl⟩ := own_slice hyo
          have HYO := Lib.hid hyo
          have hyl : 0 < y.length := by have := hys.1.1; omega
          clear h1 h2 h3 j1 j2 hyo hys hy hne hie
          go_wp2_with fail
          refine bodyPost_ret (chf_results _ _ (w.heap.size + 1) (.slice sy y.length cy) 0 _ rfl rfl (heap_setCell_same _ _ 0 _ HR3.out)) rfl ⟨_, by rw [← HE.out], ?_, HBX.out.1.setCell (by show w.heap.size ≤ w.heap.size + 1; omega) _⟩
          rw [HY.out]
          exact RO.own hyl (own_keep HYO.out fun g hg => heap_setCell_other _ _ _ _ _ fun e => own_ne HYO.out HR3.out (fun cur h => by cases h) (by rw [hg, e]))
  · rw [if_neg hz] at HCE HCO
    have HZ := Lib.hid hz
    have hz1 : (wntE T a b c m == 0) = false := by simpa using hz
    have hz2 : (wntE T a b c m = 0) = False := eq_false hz
    clear hT
    generalize ceOf T m a b c = E1 at *
    generalize cOf T m a b c = Y' at *
    generalize wntE T a b c m = E' at *
    go_enter Try.func22, Try.ntmps22
    go_wp2_with fail
    obtain ⟨W1, hW1⟩ : ∃ W1, W1 = (w.alloc (.cells (cV3 ⟨a, b, c⟩) 37)).alloc (.cells #[.slice none 0 0] 25) := ⟨_, rfl⟩
    have HB1 := Lib.hid (show RrB w W1 ⟨a, b, c⟩ by
      rw [hW1]; exact ⟨((New.refl _).alloc _).alloc _, by rw [Below.heap_alloc _ _ _ (by simp)]; exact World.alloc_heap_new _ _, alloc2_new rfl⟩)
    rw [← hW1]
    clear hW1
    go_at_call 38
    refine (HW.out _ HB1.out.1).mono ?_
    rintro e w2 ⟨rfl, hn2⟩
    have HB2 := Lib.hid (HB1.out.new hn2)
    have c2 := box_cell HB2.out.2.2
    have hs4 := (Array.getElem?_eq_some_iff.1 HB2.out.2.2).1
    clear hn2 HB1
    go_wp2_with fail
    refine bodyPost_ret (chf_results _ _ (w.heap.size + 1) (.slice none 0 0) E' _ rfl rfl (heap_setCell_same _ _ 0 _ HB2.out.2.2)) rfl ⟨_, by rw [HCE.out], ?_, HB2.out.1.setCell (by show w.heap.size ≤ w.heap.size + 1; omega) _⟩
    rw [HCO.out]
    exact RO.nil _

end Go.Proofs.Ytpjekinmcdglbaa

/- The law PigmentCheapest. -/
namespace Go.Proofs.Ytpjekinmcdglbaa
set_option linter.unusedSimpArgs false
set_option linter.unusedVariables false
set_option maxRecDepth 100000
open Go.RowKit

set_option maxHeartbeats 4000000 in
theorem equal_arr4 (D : Nat) (w : World) : (Op.equalIn (D + 2) 47 (.agg #[.int .i64 0, .int .i64 0, .int .i64 0, .int .i64 0]) (.agg #[.int .i64 0, .int .i64 0, .int .i64 0, .int .i64 0])).run Try.prog w = .ok true w := by
  have ht : Try.prog.underlying 47 = some (.array 4 3) := by kernel_rfl
  have hs : ∀ w, (sizeOf 3).run Try.prog w = .ok 1 w := fun w => rfl
  have p0 : ∀ w, (part 3 #[.int .i64 0, .int .i64 0, .int .i64 0, .int .i64 0] (0 * 1)).run Try.prog w = .ok (.int .i64 0) w := fun w => rfl
  have p1 : ∀ w, (part 3 #[.int .i64 0, .int .i64 0, .int .i64 0, .int .i64 0] (1 * 1)).run Try.prog w = .ok (.int .i64 0) w := fun w => rfl
  have p2 : ∀ w, (part 3 #[.int .i64 0, .int .i64 0, .int .i64 0, .int .i64 0] (2 * 1)).run Try.prog w = .ok (.int .i64 0) w := fun w => rfl
  have p3 : ∀ w, (part 3 #[.int .i64 0, .int .i64 0, .int .i64 0, .int .i64 0] (3 * 1)).run Try.prog w = .ok (.int .i64 0) w := fun w => rfl
  rw [show D + 2 = (D + 1) + 1 from rfl]
  conv => lhs; unfold Op.equalIn
  simp only [Sem.run_bind, run_underlying ht, Result.andThen_ok, hs, Std.Legacy.Range.forIn_eq_forIn_range', Std.Legacy.Range.size]
  simp [List.range', List.forIn_cons, List.forIn_nil, Sem.run_bind, Result.andThen_ok, p0, p1, p2, p3, int_eqs, Sem.run_pure]
theorem dual_zero_in (D : Nat) (w : World) : (Op.equalIn (D + 3) 49 (.agg #[.int .i64 0, .int .i64 0, .int .i64 0, .int .i64 0, .int .i64 0]) (.agg #[.int .i64 0, .int .i64 0, .int .i64 0, .int .i64 0, .int .i64 0])).run Try.prog w = .ok true w := by
  have hs : Try.prog.underlying 49 = some (.struct (Try.prog.fieldsOf 49)) := by kernel_rfl
  have hp : Try.prog.stoodInHeld 49 = false := by kernel_rfl
  have hf : ((Try.prog.fieldsOf 49).toList.map fun f => (f.type, f.offset, decide (f.name = "_"))) = [(47, 0, false), (3, 4, false)] := by kernel_rfl
  have p0 : ∀ w, (part 47 #[.int .i64 0, .int .i64 0, .int .i64 0, .int .i64 0, .int .i64 0] 0).run Try.prog w = .ok (.agg #[.int .i64 0, .int .i64 0, .int .i64 0, .int .i64 0]) w := fun w => rfl
  have p1 : ∀ w, (part 3 #[.int .i64 0, .int .i64 0, .int .i64 0, .int .i64 0, .int .i64 0] 4).run Try.prog w = .ok (.int .i64 0) w := fun w => rfl
  have q0 : ∀ w, (Op.equalIn (D + 2) 47 (.agg #[.int .i64 0, .int .i64 0, .int .i64 0, .int .i64 0]) (.agg #[.int .i64 0, .int .i64 0, .int .i64 0, .int .i64 0])).run Try.prog w = .ok true w := fun w => equal_arr4 D w
  rw [run_equalIn_agg _ _ _ _ _ hs hp]
  generalize (Try.prog.fieldsOf 49).toList = F at *
  rcases F with _ | ⟨f, _ | ⟨g, _ | ⟨x, F⟩⟩⟩
  · simp at hf
  · simp at hf
  · simp only [List.map_cons, List.map_nil, List.cons.injEq, Prod.mk.injEq, and_true, decide_eq_false_iff_not] at hf
    obtain ⟨⟨h1, h2, h3⟩, h4, h5, h6⟩ := hf
    simp [go_sem, Op.eqFields, h1, h2, h3, h4, h5, h6, p0, p1, q0, Try.underlying3]
  · simp at hf
theorem cOf_len {T : List T5} {m : Nat} {a b c : Int} (hTl : T.length = m) : (cOf T m a b c).length ≤ 4 := by
  unfold cOf
  split
  · rename_i hz
    obtain ⟨htn, ha, hb, hc⟩ := wntE_zero hTl hz
    by_cases hL : rcpL T m a b c = []
    · rw [hL]; simp [bestTo]
    · obtain ⟨y, hy, hm, _⟩ := (best_of (n := m) htn ha hb hc).2 hL
      rw [hy]; exact (rcp_small (tn_sh htn) ha hb hc hm).1.1.2
  · simp
theorem same_selfC (P : List (Int × Int)) (n : Nat) : sameB P P n n = true := by
  unfold sameB okS
  simp
/-- the law's boxes: the shade -/
def RkW (w W : World) (a b c : Int) : Prop := New w W ∧ W.heap[w.heap.size]? = some (.cells (#[.int .i64 a, .int .i64 b, .int .i64 c] : Array Value) 37 (0, 0))
theorem blk_kept {W V : World} {k : Nat} {o : Obj} (h : W.heap[k]? = some o) (hn : New W V) : V.heap[k]? = some o := (hn.below.block _ (Array.getElem?_eq_some_iff.1 h).1).trans h
theorem RkW.keep {w W V : World} {a b c : Int} (h : RkW w W a b c) (hn : New W V) : RkW w V a b c := ⟨h.1.trans hn, blk_kept h.2 hn⟩

set_option maxHeartbeats 16000000 in
theorem cheapest_law (tv : Option Addr) (m tc : Nat) (T : List T5) (a b c : Int) (w : World) (hm : m ≤ 9223372036854775807) (hTl : T.length = m) (hT : 0 < m → ∃ b off, tv = some ⟨b, off, none⟩ ∧ Tnts w b off m T) :
    Calls Try.prog 6 #[.slice tv m tc, vv a b c] w fun en w' => en = .returned (.bool true) ∧ New w w' := by
  have HFI := Lib.hid (fun (w1 : World) (h1 : New w w1) => fine_c tv m tc 14 T w1 hm (fun h => by obtain ⟨b, o, e, h2⟩ := hT h; exact ⟨b, o, e, h2.new h1⟩))
  have HA := Lib.hid (fun (h14 : m ≤ 14) (w1 : World) (h1 : New w w1) => cheapest_d tv m tc T a b c w1 (by omega) hTl (fun h => by obtain ⟨b, o, e, h2⟩ := hT h; exact ⟨b, o, e, h2.new h1⟩))
  have HB := Lib.hid (fun (h14 : m ≤ 14) (w1 : World) (h1 : New w w1) => rcheap_any tv m tc T a b c w1 (by omega) hTl (fun h => by obtain ⟨b, o, e, h2⟩ := hT h; exact ⟨b, o, e, h2.new h1⟩))
  have HC := Lib.hid (fun (h14 : m ≤ 14) (pv : Option Addr) (pc : Nat) (P : List (Int × Int)) (N : Nat → Int) (den : Int) (hl : P.length ≤ 4) (w1 : World) (h1 : New w w1) (hp : 0 < P.length → ∃ b off, pv = some ⟨b, off, none⟩ ∧ Prts w1 b off P.length P) => checkCheapest_c tv pv m tc P.length pc T P a b c N den w1 (by omega) (by omega) hTl (fun h => by obtain ⟨b, o, e, h2⟩ := hT h; exact ⟨b, o, e, h2.new h1⟩) rfl hp)
  have HD := Lib.hid (fun (h14 : m ≤ 14) (pv : Option Addr) (pc : Nat) (P : List (Int × Int)) (N : Nat → Int) (den : Int) (hl : P.length ≤ 4) (w1 : World) (h1 : New w w1) (hp : 0 < P.length → ∃ b off, pv = some ⟨b, off, none⟩ ∧ Prts w1 b off P.length P) => ref_checkCheapest tv pv m tc P.length pc T P a b c N den w1 (by omega) (by omega) hTl (fun h => by obtain ⟨b, o, e, h2⟩ := hT h; exact ⟨b, o, e, h2.new h1⟩) rfl hp)
  have HMX := Lib.hid (fun (w1 : World) => mixed_c w1)
  have HLX := Lib.hid (cOf_len (a := a) (b := b) (c := c) hTl)
  have HLE := Lib.hid (show fineB T m 14 = true → m ≤ 14 from fun h => by have := fine_le h; omega)
  clear hT hTl
  generalize fineB T m 14 = fb at *
  generalize ceOf T m a b c = E at *
  generalize cOf T m a b c = X at *
  go_enter Try.func6, Try.ntmps6
  go_wp2_with fail
  go_at_call 9
  refine (HFI.out _ ((New.refl w).alloc _)).mono ?_
  rintro e w1 ⟨rfl, hn1⟩
  have HW1 := Lib.hid (show RkW w w1 a b c from ⟨((New.refl w).alloc _).trans hn1, blk_kept (heap_alloc_new _ _) hn1⟩)
  clear hn1
  cases fb
  · go_wp2_with fail
    go_at_call 10
    refine (HMX.out _).mono ?_
    rintro e w2 ⟨rfl, hn2⟩
    have HN2 := Lib.hid (HW1.out.1.trans hn2)
    clear hn2
    go_wp2_with fail
    all_goals (go_ret; exact ⟨rfl, HN2.out⟩)
  · have h14 := HLE.out rfl
    by_cases hmid : (7 : Int) < (m : Int) ∧ (m : Int) ≤ 12
    · obtain ⟨hm7, hm12⟩ := hmid
      go_wp2_with fail
      go_at_call 10
      refine (HMX.out _).mono ?_
      rintro e w2 ⟨rfl, hn2⟩
      have HN2 := Lib.hid (HW1.out.1.trans hn2)
      clear hn2
      go_wp2_with fail
      all_goals (go_ret; exact ⟨rfl, HN2.out⟩)
    · have hmid' : ¬ (7 : Int) < (m : Int) ∨ ¬ (m : Int) ≤ 12 := by omega
      clear hmid
      rcases hmid' with hm7 | hm12
      · skip
        obtain ⟨k1, k2, k3⟩ := cell_v3 HW1.out.2
        go_wp2_with fail
        go_at_call 21
        refine (HA.out h14 _ HW1.out.1).mono ?_
        rintro e w2 ⟨v, N, den, rfl, ⟨sv, cv, rfl, hro⟩, hn2, hzz, hck⟩
        have HW2 := Lib.hid (HW1.out.keep hn2)
        have HR1 := Lib.hid hro
        have HZZ := Lib.hid hzz
        have HCK := Lib.hid hck
        clear hn2 hro k1 k2 k3 hzz hck
        obtain ⟨k1, k2, k3⟩ := cell_v3 HW2.out.2
        have hs2 := (Array.getElem?_eq_some_iff.1 HW2.out.2).1
        unfold arr5
        generalize hN0 : N 0 = n0 at *
        generalize hN1 : N 1 = n1 at *
        generalize hN2 : N 2 = n2 at *
        generalize hN3 : N 3 = n3 at *
        have HNN := Lib.hid (And.intro hN0 (And.intro hN1 (And.intro hN2 hN3)))
        clear hN0 hN1 hN2 hN3
        go_wp2_with fail
        go_at_call 22
        obtain ⟨W3, hW3⟩ : ∃ W3, W3 = (w2.alloc (.cells #[.slice sv X.length cv] 25)).alloc (.cells #[.int .i64 n0, .int .i64 n1, .int .i64 n2, .int .i64 n3, .int .i64 den] 49) := ⟨_, rfl⟩
        have HN3 := Lib.hid (show New w2 W3 by rw [hW3]; exact ((New.refl _).alloc _).alloc _)
        have HB3 := Lib.hid (show W3.heap[w2.heap.size]? = some (.cells #[.slice sv X.length cv] 25 (0, 0)) ∧ W3.heap[w2.heap.size + 1]? = some (.cells (arr5 n0 n1 n2 n3 den) 49 (0, 0)) by
          rw [hW3]; exact ⟨by rw [Below.heap_alloc _ _ _ (by simp)]; exact World.alloc_heap_new _ _, alloc2_new rfl⟩)
        rw [← hW3]
        clear hW3
        refine (HB.out h14 _ (HW2.out.1.trans HN3.out)).mono ?_
        rintro e w3 ⟨v', rfl, ⟨sq, cq, rfl, hro⟩, hn3⟩
        have HN3' := Lib.hid (HN3.out.trans hn3)
        have HW3 := Lib.hid (HW2.out.keep HN3'.out)
        have HB3' := Lib.hid (And.intro (blk_kept HB3.out.1 hn3) (blk_kept HB3.out.2 hn3))
        have HR2 := Lib.hid hro
        clear hn3 hro k1 k2 k3 hs2 HN3 HB3
        have HN4 := Lib.hid ((New.refl w3).alloc (.cells #[.slice sq X.length cq] 25))
        have b1 := (box_cell HB3'.out.1).1
        have z1 := (Array.getElem?_eq_some_iff.1 HB3'.out.1).1
        have z2 := (Array.getElem?_eq_some_iff.1 HB3'.out.2).1
        have hE1 : (E == E) = true := by simp
        have hE2 : (E != E) = false := by simp
        have hl := HLX.out
        have HSM := Lib.hid (fun (V : World) (hV : New w3 V) => sameRecipe_c sv sq X.length cv X.length cq X X V (by omega) (by omega) (fun h => by obtain ⟨g, o, e, h2⟩ := HR1.out h; exact ⟨g, o, e, h2.new (HN3'.out.trans hV)⟩) (fun h => by obtain ⟨g, o, e, h2⟩ := HR2.out h; exact ⟨g, o, e, h2.new hV⟩))
        simp only [same_selfC] at HSM
        go_wp2_with fail
        go_at_call 18
        refine (HSM.out _ HN4.out).mono ?_
        rintro e w5 ⟨rfl, hn5⟩
        have HN5 := Lib.hid (HN4.out.trans hn5)
        have HW5 := Lib.hid (HW3.out.keep HN5.out)
        have HB5 := Lib.hid (And.intro (blk_kept HB3'.out.1 HN5.out) (blk_kept HB3'.out.2 HN5.out))
        clear hn5 b1 z1 z2 HSM hE1 hE2
        by_cases hE : E = 0
        · subst hE
          have HCB := Lib.hid (HCK.out rfl)
          obtain ⟨k1, k2, k3⟩ := cell_v3 HW5.out.2
          have b1 := (box_cell HB5.out.1).1
          obtain ⟨⟨d0, d1, d2⟩, d3, d4⟩ := cell5 HB5.out.2
          have HCC := Lib.hid (fun (V : World) (hV : New w5 V) => HC.out h14 sv cv X N den hl V (HW5.out.1.trans hV) (fun h => by obtain ⟨g, o, e, h2⟩ := HR1.out h; exact ⟨g, o, e, h2.new (HN3'.out.trans (HN5.out.trans hV))⟩))
          have HDD := Lib.hid (fun (V : World) (hV : New w5 V) => HD.out h14 sv cv X N den hl V (HW5.out.1.trans hV) (fun h => by obtain ⟨g, o, e, h2⟩ := HR1.out h; exact ⟨g, o, e, h2.new (HN3'.out.trans (HN5.out.trans hV))⟩))
          simp only [HCB.out.1, HCB.out.2, decide_true, Bool.true_and, duV, HNN.out.1, HNN.out.2.1, HNN.out.2.2.1, HNN.out.2.2.2] at HCC HDD
          go_wp2_with fail
          go_at_call 23
          refine (HCC.out _ (New.refl _)).mono ?_
          rintro e w6 ⟨rfl, hn6⟩
          have HN6 := Lib.hid hn6
          have HW6 := Lib.hid (HW5.out.keep hn6)
          have HB6 := Lib.hid (And.intro (blk_kept HB5.out.1 hn6) (blk_kept HB5.out.2 hn6))
          clear hn6 k1 k2 k3 b1 d0 d1 d2 d3 d4
          obtain ⟨k1, k2, k3⟩ := cell_v3 HW6.out.2
          have b1 := (box_cell HB6.out.1).1
          obtain ⟨⟨d0, d1, d2⟩, d3, d4⟩ := cell5 HB6.out.2
          go_wp2_with fail
          go_at_call 24
          refine (HDD.out _ HN6.out).mono ?_
          rintro e w7 ⟨rfl, hn7⟩
          have HN7 := Lib.hid (HW6.out.1.trans hn7)
          clear hn7 k1 k2 k3 b1 d0 d1 d2 d3 d4
          go_wp2_with fail
          go_at_call 10
          refine (HMX.out _).mono ?_
          rintro e w8 ⟨rfl, hn8⟩
          have HN8 := Lib.hid (HN7.out.trans hn8)
          clear hn8
          go_wp2_with fail
          all_goals (go_ret; exact ⟨rfl, HN8.out⟩)
        · obtain ⟨⟨rfl, rfl, rfl, rfl⟩, rfl⟩ := HZZ.out hE
          have hE0 : (E = 0) = False := eq_false hE
          have hE1 : (E == 0) = false := by simpa using hE
          have hE2 : (E != 0) = true := by simpa using hE
          go_wp2_with fail
          go_at_call 10
          refine (HMX.out _).mono ?_
          rintro e w6 ⟨rfl, hn6⟩
          have HW6 := Lib.hid (HW5.out.keep hn6)
          have HB6 := Lib.hid (blk_kept HB5.out.2 hn6)
          clear hn6
          obtain ⟨⟨d0, d1, d2⟩, d3, d4⟩ := cell5 HB6.out
          have z7 := (Array.getElem?_eq_some_iff.1 HB6.out).1
          have heq := dual_zero_in 9997
          simp only [Nat.reduceAdd] at heq
          go_wp2_with fail
          all_goals (go_ret; exact ⟨rfl, HW6.out.1⟩)
      · have hm7 : (7 : Int) < (m : Int) := by omega
        obtain ⟨k1, k2, k3⟩ := cell_v3 HW1.out.2
        go_wp2_with fail
        go_at_call 21
        refine (HA.out h14 _ HW1.out.1).mono ?_
        rintro e w2 ⟨v, N, den, rfl, ⟨sv, cv, rfl, hro⟩, hn2, hzz, hck⟩
        have HW2 := Lib.hid (HW1.out.keep hn2)
        have HR1 := Lib.hid hro
        have HZZ := Lib.hid hzz
        have HCK := Lib.hid hck
        clear hn2 hro k1 k2 k3 hzz hck
        obtain ⟨k1, k2, k3⟩ := cell_v3 HW2.out.2
        have hs2 := (Array.getElem?_eq_some_iff.1 HW2.out.2).1
        unfold arr5
        generalize hN0 : N 0 = n0 at *
        generalize hN1 : N 1 = n1 at *
        generalize hN2 : N 2 = n2 at *
        generalize hN3 : N 3 = n3 at *
        have HNN := Lib.hid (And.intro hN0 (And.intro hN1 (And.intro hN2 hN3)))
        clear hN0 hN1 hN2 hN3
        go_wp2_with fail
        go_at_call 22
        obtain ⟨W3, hW3⟩ : ∃ W3, W3 = (w2.alloc (.cells #[.slice sv X.length cv] 25)).alloc (.cells #[.int .i64 n0, .int .i64 n1, .int .i64 n2, .int .i64 n3, .int .i64 den] 49) := ⟨_, rfl⟩
        have HN3 := Lib.hid (show New w2 W3 by rw [hW3]; exact ((New.refl _).alloc _).alloc _)
        have HB3 := Lib.hid (show W3.heap[w2.heap.size]? = some (.cells #[.slice sv X.length cv] 25 (0, 0)) ∧ W3.heap[w2.heap.size + 1]? = some (.cells (arr5 n0 n1 n2 n3 den) 49 (0, 0)) by
          rw [hW3]; exact ⟨by rw [Below.heap_alloc _ _ _ (by simp)]; exact World.alloc_heap_new _ _, alloc2_new rfl⟩)
        rw [← hW3]
        clear hW3
        refine (HB.out h14 _ (HW2.out.1.trans HN3.out)).mono ?_
        rintro e w3 ⟨v', rfl, ⟨sq, cq, rfl, hro⟩, hn3⟩
        have HN3' := Lib.hid (HN3.out.trans hn3)
        have HW3 := Lib.hid (HW2.out.keep HN3'.out)
        have HB3' := Lib.hid (And.intro (blk_kept HB3.out.1 hn3) (blk_kept HB3.out.2 hn3))
        have HR2 := Lib.hid hro
        clear hn3 hro k1 k2 k3 hs2 HN3 HB3
        have HN4 := Lib.hid ((New.refl w3).alloc (.cells #[.slice sq X.length cq] 25))
        have b1 := (box_cell HB3'.out.1).1
        have z1 := (Array.getElem?_eq_some_iff.1 HB3'.out.1).1
        have z2 := (Array.getElem?_eq_some_iff.1 HB3'.out.2).1
        have hE1 : (E == E) = true := by simp
        have hE2 : (E != E) = false := by simp
        have hl := HLX.out
        have HSM := Lib.hid (fun (V : World) (hV : New w3 V) => sameRecipe_c sv sq X.length cv X.length cq X X V (by omega) (by omega) (fun h => by obtain ⟨g, o, e, h2⟩ := HR1.out h; exact ⟨g, o, e, h2.new (HN3'.out.trans hV)⟩) (fun h => by obtain ⟨g, o, e, h2⟩ := HR2.out h; exact ⟨g, o, e, h2.new hV⟩))
        simp only [same_selfC] at HSM
        go_wp2_with fail
        go_at_call 18
        refine (HSM.out _ HN4.out).mono ?_
        rintro e w5 ⟨rfl, hn5⟩
        have HN5 := Lib.hid (HN4.out.trans hn5)
        have HW5 := Lib.hid (HW3.out.keep HN5.out)
        have HB5 := Lib.hid (And.intro (blk_kept HB3'.out.1 HN5.out) (blk_kept HB3'.out.2 HN5.out))
        clear hn5 b1 z1 z2 HSM hE1 hE2
        by_cases hE : E = 0
        · subst hE
          have HCB := Lib.hid (HCK.out rfl)
          obtain ⟨k1, k2, k3⟩ := cell_v3 HW5.out.2
          have b1 := (box_cell HB5.out.1).1
          obtain ⟨⟨d0, d1, d2⟩, d3, d4⟩ := cell5 HB5.out.2
          have HCC := Lib.hid (fun (V : World) (hV : New w5 V) => HC.out h14 sv cv X N den hl V (HW5.out.1.trans hV) (fun h => by obtain ⟨g, o, e, h2⟩ := HR1.out h; exact ⟨g, o, e, h2.new (HN3'.out.trans (HN5.out.trans hV))⟩))
          have HDD := Lib.hid (fun (V : World) (hV : New w5 V) => HD.out h14 sv cv X N den hl V (HW5.out.1.trans hV) (fun h => by obtain ⟨g, o, e, h2⟩ := HR1.out h; exact ⟨g, o, e, h2.new (HN3'.out.trans (HN5.out.trans hV))⟩))
          simp only [HCB.out.1, HCB.out.2, decide_true, Bool.true_and, duV, HNN.out.1, HNN.out.2.1, HNN.out.2.2.1, HNN.out.2.2.2] at HCC HDD
          go_wp2_with fail
          go_at_call 23
          refine (HCC.out _ (New.refl _)).mono ?_
          rintro e w6 ⟨rfl, hn6⟩
          have HN6 := Lib.hid hn6
          have HW6 := Lib.hid (HW5.out.keep hn6)
          have HB6 := Lib.hid (And.intro (blk_kept HB5.out.1 hn6) (blk_kept HB5.out.2 hn6))
          clear hn6 k1 k2 k3 b1 d0 d1 d2 d3 d4
          obtain ⟨k1, k2, k3⟩ := cell_v3 HW6.out.2
          have b1 := (box_cell HB6.out.1).1
          obtain ⟨⟨d0, d1, d2⟩, d3, d4⟩ := cell5 HB6.out.2
          go_wp2_with fail
          go_at_call 24
          refine (HDD.out _ HN6.out).mono ?_
          rintro e w7 ⟨rfl, hn7⟩
          have HN7 := Lib.hid (HW6.out.1.trans hn7)
          clear hn7 k1 k2 k3 b1 d0 d1 d2 d3 d4
          go_wp2_with fail
          go_at_call 10
          refine (HMX.out _).mono ?_
          rintro e w8 ⟨rfl, hn8⟩
          have HN8 := Lib.hid (HN7.out.trans hn8)
          clear hn8
          go_wp2_with fail
          all_goals (go_ret; exact ⟨rfl, HN8.out⟩)
        · obtain ⟨⟨rfl, rfl, rfl, rfl⟩, rfl⟩ := HZZ.out hE
          have hE0 : (E = 0) = False := eq_false hE
          have hE1 : (E == 0) = false := by simpa using hE
          have hE2 : (E != 0) = true := by simpa using hE
          go_wp2_with fail
          go_at_call 10
          refine (HMX.out _).mono ?_
          rintro e w6 ⟨rfl, hn6⟩
          have HW6 := Lib.hid (HW5.out.keep hn6)
          have HB6 := Lib.hid (blk_kept HB5.out.2 hn6)
          clear hn6
          obtain ⟨⟨d0, d1, d2⟩, d3, d4⟩ := cell5 HB6.out
          have z7 := (Array.getElem?_eq_some_iff.1 HB6.out).1
          have heq := dual_zero_in 9997
          simp only [Nat.reduceAdd] at heq
          go_wp2_with fail
          all_goals (go_ret; exact ⟨rfl, HW6.out.1⟩)

end Go.Proofs.Ytpjekinmcdglbaa
