/- What slices.Compact leaves of points in a slice that the call owns: the walk. At most 1000000 points. -/
import Derived.Test.YtpdfbboagaflhaaGreatM26
import Derived.RegionTactic
import Derived.Outline
import Derived.Deep.AppendLies

namespace Go.Proofs.YtpdfbboagaflhaaGreat
open Go.RowKit

set_option maxRecDepth 100000 in
set_option maxHeartbeats 8000000 in
theorem compactP_c (base g n cap : Nat) (l : List P2) (w : World) (hl : n ≤ 1000000) (hn : l.length = n) (ho : w.ownsRow base 23 2 (.slice (some ⟨g, 0, none⟩) n cap) n (ptCells l)) :
    Calls Tryz.prog 126 #[.slice (some ⟨g, 0, none⟩) n cap] w fun en w' => en = .returned (.slice (some ⟨g, 0, none⟩) (ddTo l n).length cap) ∧ w'.ownsRow base 23 2 (.slice (some ⟨g, 0, none⟩) (ddTo l n).length cap) (ddTo l n).length (ptCells (ddTo l n)) ∧ w.grownBy w' (some g) := by
  have HO := Lib.hid ho
  have HN := Lib.hid hn
  have hcap := own_cap ho
  have hcl := hcap.1
  clear hcap hn ho
  by_cases h2 : n < 2
  · have HA2 := Lib.hid (show ddTo l n = l by
      have hh := HN.out
      obtain h0 | h1 : n = 0 ∨ n = 1 := by omega
      · rw [h0] at hh ⊢; rw [List.length_eq_zero_iff.1 hh]; rfl
      · rw [h1] at hh ⊢; rw [ddTo_keep (.inl rfl), ← show l.take 0 = ddTo l 0 from rfl, ← take_ext l 0 (by omega), List.take_of_length_le (by omega)])
    go_enter Tryz.func126, Tryz.ntmps126
    go_wp2_with fail
    go_ret
    rw [HA2.out, HN.out]
    exact ⟨rfl, HO.out, grownBy_refl w _⟩
  · go_enter Tryz.func126, Tryz.ntmps126
    go_wp2_with fail
    go_loopg [3] n (fun gh s3 wr => ∃ k : Nat, 1 ≤ k ∧ k ≤ n ∧ n - k ≤ gh ∧ s3 = .int .i64 k ∧ New w wr ∧ ddTo l k = l.take k)
    case atStart => exact ⟨1, Nat.le_refl _, by omega, by omega, rfl, New.refl _, by rw [ddTo_keep (.inl rfl), take_ext l 0 (by rw [HN.out]; omega)]; rfl⟩
    case round =>
      obtain ⟨k, hk1, hk, hg, rfl, hnw, hall⟩ := hrel
      have HNW := Lib.hid hnw
      have HALL := Lib.hid hall
      clear hnw hall
      by_cases hlt : k < n
      · have hor : Hid (wr.ownsRow base 23 2 (.slice (some ⟨g, 0, none⟩) n cap) n (ptCells l)) := Lib.hid (own_new HO.out HNW.out)
        obtain ⟨⟨c1, c2⟩, c3, c4⟩ := own_pt hor.out HN.out hlt
        obtain ⟨⟨d1, d2⟩, d3, d4⟩ := own_pt hor.out HN.out (show k - 1 < n by omega)
        by_cases hs : px l k = px l (k - 1) ∧ py l k = py l (k - 1)
        · have HS := Lib.hid (same_yes hs.1 hs.2)
          rw [hs.1] at c1
          rw [hs.2] at c2
          clear hs
          have hck : (cap = k) = False := eq_false (by omega)
          have hck2 : (cap == k) = false := by simp; omega
          generalize px l (k - 1) = X at *
          generalize py l (k - 1) = Y at *
          go_wp2_with fail
          go_region
          go_wp2_with fail
          have HW1 := Lib.hid (show New w wr.drew from HNW.out.drew)
          go_loopg [3, 5] n (fun gh s3 s5 wx => ∃ (kk k2 : Nat) (m : List P2), s3 = .int .i64 kk ∧ s5 = .int .i64 k2 ∧ 1 ≤ k2 ∧ k + k2 ≤ n ∧ n - (k + k2) ≤ gh ∧ Mid l m kk (k + k2) ∧ wx.ownsRow base 23 2 (.slice (some ⟨g, 0, none⟩) n cap) n (ptCells m) ∧ w.grownBy wx (some g))
          case atStart => exact ⟨k, 1, l, rfl, rfl, Nat.le_refl _, by omega, by omega, Mid.start (by omega) (by rw [HN.out]; exact hlt) HALL.out HS.out, own_new HO.out HW1.out, grownBy_new (grownBy_refl w _) HW1.out⟩
          case round =>
            obtain ⟨kk, k2, m, rfl, rfl, h1, hle, hg2, hmid, hown, hgr⟩ := hrel
            have HM := Lib.hid hmid
            have HOX := Lib.hid hown
            have HG := Lib.hid hgr
            have hkk : kk < k + k2 := hmid.2.2.1
            have HML := Lib.hid (hmid.1.trans HN.out)
            clear hmid hown hgr
            by_cases hlt2 : k + k2 < n
            · obtain ⟨⟨e1, e2⟩, e3, e4⟩ := own_pt HOX.out HML.out hlt2
              obtain ⟨⟨f1, f2⟩, f3, f4⟩ := own_pt HOX.out HML.out (show k + k2 - 1 < n by omega)
              obtain ⟨⟨o1, o2⟩, o3, o4⟩ := own_pt HOX.out HML.out (show kk < n by omega)
              rw [(HM.out.2.2.2.2 (k + k2) (by omega)).1, show (k + k2) * 2 = k * 2 + k2 * 2 by omega] at e1
              rw [(HM.out.2.2.2.2 (k + k2) (by omega)).2, show (k + k2) * 2 = k * 2 + k2 * 2 by omega] at e2
              rw [(HM.out.2.2.2.2 (k + k2 - 1) (by omega)).1, show (k + k2 - 1) * 2 = k * 2 + (k2 - 1) * 2 by omega] at f1
              rw [(HM.out.2.2.2.2 (k + k2 - 1) (by omega)).2, show (k + k2 - 1) * 2 = k * 2 + (k2 - 1) * 2 by omega] at f2
              clear e3 e4 f3 f4
              by_cases hs2 : px l (k + k2) = px l (k + k2 - 1) ∧ py l (k + k2) = py l (k + k2 - 1)
              · have HS2 := Lib.hid (same_yes hs2.1 hs2.2)
                rw [hs2.1] at e1
                rw [hs2.2] at e2
                clear hs2
                generalize px l (k + k2 - 1) = X2 at *
                generalize py l (k + k2 - 1) = Y2 at *
                go_wp2_with fail
                go_region
                go_wp2_with fail
                go_roundg (n - (k + (k2 + 1)))
                case measure => omega
                case rel => exact ⟨kk, k2 + 1, m, rfl, by go_num, by omega, by omega, Nat.le_refl _, HM.out.skip (by omega) HS2.out, own_new HOX.out ((New.refl _).drew), grownBy_new HG.out ((New.refl _).drew)⟩
              · have HS2 := Lib.hid (same_no hs2)
                by_cases hx : px l (k + k2) = px l (k + k2 - 1)
                · have hy : ¬ py l (k + k2) = py l (k + k2 - 1) := fun h => hs2 ⟨hx, h⟩
                  have HX := Lib.hid hx
                  rw [hx] at e1
                  clear hs2 hx
                  generalize hX2 : px l (k + k2 - 1) = X2 at *
                  generalize hY1 : py l (k + k2) = Y1 at *
                  generalize py l (k + k2 - 1) = Y2 at *
                  generalize px m kk = OX at *
                  generalize py m kk = OY at *
                  have HX2 := Lib.hid hX2
                  have HY1 := Lib.hid hY1
                  clear hX2 hY1
                  go_wp2_with fail
                  go_region
                  go_wp2_with fail
                  go_roundg (n - (k + (k2 + 1)))
                  case measure => omega
                  case rel => exact ⟨kk + 1, k2 + 1, m.set kk (X2, Y1), by go_num, by go_num, by omega, by omega, Nat.le_refl _, by have := HM.out.keep (by rw [HN.out]; exact hlt2) HS2.out; rwa [HX.out, HY1.out] at this, own_setPt (own_new HOX.out ((New.refl _).drew)) _ _ _, grownBy_setCell (grownBy_setCell (grownBy_new HG.out ((New.refl _).drew)) _ _) _ _⟩
                · clear hs2
                  generalize hX2 : px l (k + k2 - 1) = X2 at *
                  generalize hX1 : px l (k + k2) = X1 at *
                  generalize hY1 : py l (k + k2) = Y1 at *
                  generalize py l (k + k2 - 1) = Y2 at *
                  generalize px m kk = OX at *
                  generalize py m kk = OY at *
                  have HX1 := Lib.hid hX1
                  have HY1 := Lib.hid hY1
                  clear hX2 hX1 hY1
                  go_wp2_with fail
                  go_region
                  go_wp2_with fail
                  go_roundg (n - (k + (k2 + 1)))
                  case measure => omega
                  case rel => exact ⟨kk + 1, k2 + 1, m.set kk (X1, Y1), by go_num, by go_num, by omega, by omega, Nat.le_refl _, by have := HM.out.keep (by rw [HN.out]; exact hlt2) HS2.out; rwa [HX1.out, HY1.out] at this, own_setPt (own_new HOX.out ((New.refl _).drew)) _ _ _, grownBy_setCell (grownBy_setCell (grownBy_new HG.out ((New.refl _).drew)) _ _) _ _⟩
            · have hkn : k + k2 = n := by omega
              have hkc : (cap = kk) = False := eq_false (by omega)
              have hkc2 : (cap == kk) = false := by simp; omega
              have HKN := Lib.hid hkn
              obtain ⟨vs, HVL, hclr⟩ := run_clear_k (P := Tryz.prog) wr 40 23 (.agg #[.int .i64 0, .int .i64 0]) 2 Tryz.underlying40 (fun _ => by kernel_rfl) rfl (by omega) (by intro u hu; simp [Value.cells] at hu; rcases hu with rfl | rfl <;> rfl) g (kk * 2) (n - kk) (cap - kk) (by omega) (fun j hj => (own_any HOX.out (j := kk * 2 + j) (by omega)).1) (fun j hj => (own_any HOX.out (j := kk * 2 + j) (by omega)).2)
              have HVL2 := Lib.hid HVL
              clear HVL hkn
              go_wp2_with fail
              go_ret
              have hM := HM.out
              rw [HKN.out] at hM
              obtain ⟨_, b2, _, b4, _⟩ := hM
              have o1 := own_prefix HOX.out kk (by omega)
              rw [ptCells_take, b2] at o1
              have o2 := own_setCells vs wr (kk * 2) o1 (Nat.le_refl _)
              refine ⟨by rw [← b4]; rfl, by rw [← b4]; exact o2.1, grownBy_trans HG.out o2.2⟩
        · have HS := Lib.hid (same_no hs)
          have HALL2 := Lib.hid (show ddTo l (k + 1) = l.take (k + 1) by rw [ddTo_keep (.inr HS.out), HALL.out, take_ext l k (by rw [HN.out]; exact hlt)])
          by_cases hx : px l k = px l (k - 1)
          · have hy : ¬ py l k = py l (k - 1) := fun h => hs ⟨hx, h⟩
            rw [hx] at c1
            clear hs hx
            generalize px l (k - 1) = X at *
            generalize py l (k - 1) = Y at *
            generalize py l k = Y1 at *
            go_wp2_with fail
            go_region
            go_wp2_with fail
            go_roundg (n - (k + 1))
            case measure => omega
            case rel => exact ⟨k + 1, by omega, by omega, Nat.le_refl _, by go_num, HNW.out.drew, HALL2.out⟩
          · clear hs
            generalize px l (k - 1) = X at *
            generalize py l (k - 1) = Y at *
            generalize px l k = X1 at *
            generalize py l k = Y1 at *
            go_wp2_with fail
            go_region
            go_wp2_with fail
            go_roundg (n - (k + 1))
            case measure => omega
            case rel => exact ⟨k + 1, by omega, by omega, Nat.le_refl _, by go_num, HNW.out.drew, HALL2.out⟩
      · have hkn : k = n := by omega
        have HA2 := Lib.hid (show ddTo l n = l by have := HALL.out; rw [hkn] at this; rw [this, List.take_of_length_le (by rw [HN.out]; exact Nat.le_refl _)])
        have HKN := Lib.hid hkn
        clear hkn
        go_wp2_with fail
        go_ret
        rw [HA2.out, HN.out]
        exact ⟨rfl, own_new HO.out HNW.out, grownBy_new (grownBy_refl w _) HNW.out⟩

end Go.Proofs.YtpdfbboagaflhaaGreat

/- What halfHull returns: the stack of corners that turn left. At most 1000000 points of coordinates from -40000 to 40000. -/
namespace Go.Proofs.YtpdfbboagaflhaaGreat
open Go.RowKit

/-- whether the last two of a stack and a point do not turn left -/
def badTop (o : List P2) (x y : Int) : Bool := decide (2 ≤ o.length) && !(turnI (px o (o.length - 2)) (py o (o.length - 2)) (px o (o.length - 1)) (py o (o.length - 1)) x y == 1)
def popTo (x y : Int) : Nat → List P2 → List P2
  | 0, o => o
  | f + 1, o => if badTop o x y then popTo x y f (o.take (o.length - 1)) else o
def popL (o : List P2) (x y : Int) : List P2 := popTo x y o.length o
theorem popL_no {o : List P2} {x y : Int} (h : badTop o x y = false) : popL o x y = o := by
  unfold popL
  cases hl : o.length with
  | zero => rfl
  | succ n => simp [popTo, h]
theorem badTop_len {o : List P2} {x y : Int} (h : badTop o x y = true) : 2 ≤ o.length := by simp [badTop] at h; exact h.1
theorem popL_yes {o : List P2} {x y : Int} (h : badTop o x y = true) : popL o x y = popL (o.take (o.length - 1)) x y := by
  have h2 := badTop_len h
  unfold popL
  obtain ⟨n, hn⟩ : ∃ n, o.length = n + 1 := ⟨o.length - 1, by omega⟩
  rw [hn]
  simp only [popTo, h, if_true, hn, List.length_take]
  congr 1
  omega
theorem bdL_take {o : List P2} (h : bdL o) (k : Nat) : bdL (o.take k) := by
  intro i
  have := h i
  by_cases hi : i < k
  · simpa [px, py, List.getD_eq_getElem?_getD, List.getElem?_take, hi] using this
  · simp [px, py, List.getD_eq_getElem?_getD, List.getElem?_take, hi]
theorem bdL_snoc {o : List P2} (h : bdL o) {x y : Int} (hx : -40000 ≤ x ∧ x ≤ 40000) (hy : -40000 ≤ y ∧ y ≤ 40000) : bdL (o ++ [(x, y)]) := by
  intro i
  have := h i
  by_cases hi : i < o.length
  · simpa [px, py, List.getD_eq_getElem?_getD, List.getElem?_append, hi] using this
  · by_cases hj : i = o.length
    · subst hj; simp [px, py, List.getD_eq_getElem?_getD]; omega
    · have : ¬ i < o.length + 1 := by omega
      simp [px, py, List.getD_eq_getElem?_getD, List.getElem?_append, hi, show i - o.length ≠ 0 by omega]
theorem popTo_bd {x y : Int} : ∀ (f : Nat) (o : List P2), bdL o → bdL (popTo x y f o)
  | 0, _, h => h
  | f + 1, o, h => by simp only [popTo]; split; exact popTo_bd f _ (bdL_take h _); exact h
theorem popTo_le {x y : Int} : ∀ (f : Nat) (o : List P2), (popTo x y f o).length ≤ o.length
  | 0, _ => Nat.le_refl _
  | f + 1, o => by
    simp only [popTo]; split
    · have := popTo_le (x := x) (y := y) f (o.take (o.length - 1)); rw [List.length_take] at this; omega
    · exact Nat.le_refl _
/-- the stack behind the first k points -/
def halfTo (l : List P2) : Nat → List P2
  | 0 => []
  | k + 1 => popL (halfTo l k) (px l k) (py l k) ++ [(px l k, py l k)]
theorem halfTo_bd {l : List P2} (h : bdL l) : ∀ k, bdL (halfTo l k)
  | 0 => by intro i; simp [halfTo, px, py]
  | k + 1 => bdL_snoc (popTo_bd _ _ (halfTo_bd h k)) (h k).1 (h k).2
theorem halfTo_le (l : List P2) : ∀ k, (halfTo l k).length ≤ k
  | 0 => by simp [halfTo]
  | k + 1 => by
    have := halfTo_le l k
    have h2 := popTo_le (x := px l k) (y := py l k) (halfTo l k).length (halfTo l k)
    simp only [halfTo, popL, List.length_append, List.length_singleton]; omega

end Go.Proofs.YtpdfbboagaflhaaGreat
