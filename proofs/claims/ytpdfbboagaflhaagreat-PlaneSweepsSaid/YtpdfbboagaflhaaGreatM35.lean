/- What slices.SortFunc leaves of segments under compareSegs: they are sorted. -/
import Derived.Test.YtpdfbboagaflhaaGreatM18
import Derived.Test.YtpdfbboagaflhaaGreatM27
import Derived.Test.YtpdfbboagaflhaaGreatM03
import Derived.Test.YtpdfbboagaflhaaGreatM33
import Derived.Test.YtpdfbboagaflhaaGreatM34
import Derived.Test.YtpdfbboagaflhaaGreatM19

namespace Go.Proofs.YtpdfbboagaflhaaGreat
open Go.RowKit Go.Shelf Go.Lib Go.Sort

set_option maxHeartbeats 2000000 in
theorem compareSegs_d (a b c d a' b' c' d' : Int) (w : World) : Calls Tryz.prog 139 #[sv a b c d, sv a' b' c' d'] w fun e w' => e = .returned (.int .i64 (cmpS a b c d a' b' c' d')) ∧ NewD w w' := by
  have HA := Lib.hid (comparePoints_d a b a' b')
  have HB := Lib.hid (comparePoints_d c d c' d')
  rw [show cmpS a b c d a' b' c' d' = orI (orI (cmpI a a') (cmpI b b')) (orI (cmpI c c') (cmpI d d')) from rfl]
  generalize orI (cmpI a a') (cmpI b b') = A at *
  generalize orI (cmpI c c') (cmpI d d') = B at *
  go_enter Tryz.func139, Tryz.ntmps139
  go_wp2_with fail
  go_region_held3 (fun w' => (w'.cell? ⟨w.heap.size, 0, none⟩ = some (.int .i64 a) ∧ w'.cell? ⟨w.heap.size, 1, none⟩ = some (.int .i64 b) ∧ w'.cell? ⟨w.heap.size, 2, none⟩ = some (.int .i64 c) ∧ w'.cell? ⟨w.heap.size, 3, none⟩ = some (.int .i64 d) ∧ w'.cell? ⟨w.heap.size + 1, 0, none⟩ = some (.int .i64 a') ∧ w'.cell? ⟨w.heap.size + 1, 1, none⟩ = some (.int .i64 b') ∧ w'.cell? ⟨w.heap.size + 1, 2, none⟩ = some (.int .i64 c') ∧ w'.cell? ⟨w.heap.size + 1, 3, none⟩ = some (.int .i64 d')) ∧ w.drawn ≤ w'.drawn) (refine ⟨by (first | (simp [go_sem]; done) | (simp [go_sem, *]; done) | (go_keep; done)), by (simp only [drawn_aft, drawn_alloc, drawn_drew] at *; omega)⟩)
    (first | (go_at_call 125; (first | (with_reducible refine (HA.out _).mono ?_) | (with_reducible refine (HB.out _).mono ?_)); rintro e w1 ⟨rfl, pw, rfl, hd⟩) | (go_at_call 173; refine (or_d A B _ _ ?_ ?_).mono ?_; simp [go_sem]; simp [go_sem]; rintro e w1 ⟨rfl, pw, rfl, hd⟩))
  all_goals (go_wp2_with fail)
  all_goals (go_ret; refine ⟨rfl, newD_of ?_ ?_⟩; (repeat (first | exact New.refl _ | apply New.alloc | apply New.aft | apply New.drew | refine New.setCell ?_ ?_ _)); all_goals (first | done | (simp [size_aft]; done) | (simp [size_aft]; omega) | (simp only [drawn_aft, drawn_alloc, drawn_drew] at *; omega)))


def encS (x : S4) : List Value := [.int .i64 x.1, .int .i64 x.2.1, .int .i64 x.2.2.1, .int .i64 x.2.2.2]
theorem encS_len (x : S4) : (encS x).length = 4 := rfl
theorem encS_one (x : S4) : ∀ v ∈ encS x, v.oneCell' = true := by intro v hv; simp [encS] at hv; rcases hv with rfl | rfl | rfl | rfl <;> rfl
def cfS (x y : S4) : Int := cmpS x.1 x.2.1 x.2.2.1 x.2.2.2 y.1 y.2.1 y.2.2.1 y.2.2.2
theorem orcmp_neg (a b c d : Int) : orI (cmpI a c) (cmpI b d) < 0 ↔ (a < c ∨ (a = c ∧ b < d)) := by
  have := cfP_lt (a, b) (c, d)
  simp only [ltOf, cfP, lessP] at this
  exact ⟨fun h => of_decide_eq_true (this ▸ decide_eq_true h), fun h => of_decide_eq_true (this.symm ▸ decide_eq_true h)⟩
theorem orcmp_zero (a b c d : Int) : orI (cmpI a c) (cmpI b d) = 0 ↔ (a = c ∧ b = d) := by
  unfold orI cmpI
  by_cases h1 : a < c
  · simp [h1]; omega
  · by_cases h2 : c < a
    · simp [h1, h2]; omega
    · have h3 : a = c := by omega
      by_cases h4 : b < d
      · simp [h3, h4]; omega
      · by_cases h5 : d < b
        · simp [h3, h4, h5]; omega
        · simp [h3, h4, h5]; omega
def lessS (x y : S4) : Bool := decide ((x.1 < y.1 ∨ (x.1 = y.1 ∧ x.2.1 < y.2.1)) ∨ ((x.1 = y.1 ∧ x.2.1 = y.2.1) ∧ (x.2.2.1 < y.2.2.1 ∨ (x.2.2.1 = y.2.2.1 ∧ x.2.2.2 < y.2.2.2))))
theorem cfS_lt (x y : S4) : ltOf cfS x y = lessS x y := by
  unfold ltOf lessS
  rw [decide_eq_decide]
  have e1 := orcmp_neg x.1 x.2.1 y.1 y.2.1
  have e2 := orcmp_zero x.1 x.2.1 y.1 y.2.1
  have e3 := orcmp_neg x.2.2.1 x.2.2.2 y.2.2.1 y.2.2.2
  show orI (orI (cmpI x.1 y.1) (cmpI x.2.1 y.2.1)) (orI (cmpI x.2.2.1 y.2.2.1) (cmpI x.2.2.2 y.2.2.2)) < 0 ↔ _
  rw [← e1, ← e2, ← e3]
  generalize orI (cmpI x.1 y.1) (cmpI x.2.1 y.2.1) = A
  generalize orI (cmpI x.2.2.1 y.2.2.1) (cmpI x.2.2.2 y.2.2.2) = B
  unfold orI
  by_cases h : A = 0
  · simp [h]
  · simp [h]
theorem ltOf_cfS_eq : ltOf cfS = lessS := by funext x y; exact cfS_lt x y
theorem swoS : SWO (ltOf cfS) := by
  rw [ltOf_cfS_eq]
  refine ⟨fun x => ?_, fun x y z h1 h2 => ?_, fun x y z h1 h2 => ?_⟩
  · simp [lessS]
  · simp only [lessS, decide_eq_true_eq] at *; omega
  · simp only [lessS, decide_eq_false_iff_not] at *; omega
theorem totS (x y : S4) (h1 : ltOf cfS x y = false) (h2 : ltOf cfS y x = false) : x = y := by
  rw [ltOf_cfS_eq] at h1 h2
  simp only [lessS, decide_eq_false_iff_not] at h1 h2
  exact Prod.ext (by omega) (Prod.ext (by omega) (Prod.ext (by omega) (by omega)))
def sortS (l : List S4) : List S4 := l.mergeSort fun x y => !(ltOf cfS) y x
theorem sortS_length (l : List S4) : (sortS l).length = l.length := List.length_mergeSort l

set_option maxHeartbeats 1000000 in
theorem sortS_c (base g n cap : Nat) (l : List S4) (w : World) (hl : n ≤ 1000000) (hn : l.length = n) (ho : w.ownsRow base 30 4 (.slice (some ⟨g, 0, none⟩) n cap) n (segCells l)) :
    Calls Tryz.prog 138 #[.slice (some ⟨g, 0, none⟩) n cap, .func (.func 139) #[] #[]] w fun en w' => en = .returned (.tuple #[]) ∧ w'.ownsRow base 30 4 (.slice (some ⟨g, 0, none⟩) n cap) n (segCells (sortS l)) ∧ w.grownBy w' (some g) := by
  have eg : ∀ args w, (callFunc 139 args).run Tryz.prog w = .ok (.enter 139 args) w := enters_of Tryz.func139 (by kernel_rfl) rfl
  have hcon := AnyQ.slices_SortFunc_total Tryz.sortSg 4 (fun _ => by kernel_rfl) (fun _ => by kernel_rfl) encS encS_len encS_one cfS swoS 139 #[] g 0 cap l.toArray w eg (fun _ _ _ _ x y => (compareSegs_d x.1 x.2.1 x.2.2.1 x.2.2.2 y.1 y.2.1 y.2.2.1 y.2.2.2 _).mono fun _ _ ⟨he, hd⟩ => ⟨he, hd.grow⟩) (own_holdsK encS_len (by omega) ho) (ho.lt g rfl).2 (by simp; omega) totS
  change Calls Tryz.prog 138 _ _ _ at hcon
  rw [List.size_toArray, hn] at hcon
  refine hcon.mono fun e w' ⟨he, m, os, hw⟩ => ⟨he, ?_⟩
  rw [hw]
  have := own_sorted (enc := encS) encS_len (by omega) ho (sortS l).toArray (by rw [List.size_toArray, sortS_length, hn]) m os
  exact this

end Go.Proofs.YtpdfbboagaflhaaGreat

/- What Split returns of segments that do not cross. From one to 400 segments of coordinates from -40000 to 40000, each of which has a part. -/
namespace Go.Proofs.YtpdfbboagaflhaaGreat
open Go.RowKit

/-- the ends of the first k segments -/
def endsTo (l : List S4) : Nat → List P2
  | 0 => []
  | k + 1 => endsTo l k ++ [(q1 l k, q2 l k), (q3 l k, q4 l k)]
theorem endsTo_length (l : List S4) : ∀ k, (endsTo l k).length = 2 * k
  | 0 => rfl
  | k + 1 => by simp [endsTo, endsTo_length l k]; omega
def partsTo (l : List S4) (e : List P2) : Nat → List S4
  | 0 => []
  | k + 1 => partsTo l e k ++ piecesL e (q1 l k) (q2 l k) (q3 l k) (q4 l k)
def bdS (l : List S4) : Prop := ∀ i, ((-40000 ≤ q1 l i ∧ q1 l i ≤ 40000) ∧ (-40000 ≤ q2 l i ∧ q2 l i ≤ 40000)) ∧ (-40000 ≤ q3 l i ∧ q3 l i ≤ 40000) ∧ (-40000 ≤ q4 l i ∧ q4 l i ≤ 40000)
theorem endsTo_bd {l : List S4} (h : bdS l) : ∀ k, bdL (endsTo l k)
  | 0 => by intro i; simp [endsTo, px, py]
  | k + 1 => by
    have h1 := bdL_snoc (bdL_snoc (endsTo_bd h k) (h k).1.1 (h k).1.2) (h k).2.1 (h k).2.2
    rw [List.append_assoc] at h1
    exact h1
theorem piecesL_len (l : List P2) (a b c d : Int) : (piecesL l a b c d).length ≤ l.length + 1 := by
  have := cutsL_le l a b c d
  unfold piecesL; rw [pairsTo_length]; omega
theorem partsTo_len (l : List S4) (e : List P2) : ∀ k, (partsTo l e k).length ≤ k * (e.length + 1)
  | 0 => by simp [partsTo]
  | k + 1 => by
    have h1 := partsTo_len l e k
    have h2 := piecesL_len e (q1 l k) (q2 l k) (q3 l k) (q4 l k)
    simp only [partsTo, List.length_append, Nat.add_mul]; omega
def splitL (l : List S4) : List S4 := ddS (sortS (partsTo l (endsTo l l.length) l.length)) (partsTo l (endsTo l l.length) l.length).length
theorem ptCells_two (o : List P2) (a b c d : Int) : ptCells (o ++ [(a, b), (c, d)]) = ptCells o ++ [.int .i64 a, .int .i64 b, .int .i64 c, .int .i64 d] := by simp [ptCells]

set_option maxRecDepth 100000 in
set_option maxHeartbeats 8000000 in
theorem split_yes (b off n cp : Nat) (l : List S4) (w : World) (h0 : 0 < n) (hl : n ≤ 400) (hw : Segs w b off n l) (hbd : bdS l) (hA : ∀ en, ApartIs l en → en = .returned (.int .i64 0)) (hpos : ∀ k, k < n → 0 < (piecesL (endsTo l n) (q1 l k) (q2 l k) (q3 l k) (q4 l k)).length) :
    Calls Tryz.prog 66 #[.slice (some ⟨b, off, none⟩) n cp] w fun en w' => ∃ g cap, en = .returned (.tuple #[.slice (some ⟨g, 0, none⟩) (splitL l).length cap, .int .i64 0]) ∧ w'.ownsRow w.heap.size 30 4 (.slice (some ⟨g, 0, none⟩) (splitL l).length cap) (splitL l).length (segCells (splitL l)) ∧ New w w' := by
  obtain ⟨i0, hi, hz0, hz1, hz2⟩ := info_parts info23
  obtain ⟨j0, ji, jz0, jz1, jz2⟩ := info_parts info30
  have HW := Lib.hid hw
  have HN := Lib.hid hw.1
  have HBD := Lib.hid hbd
  have HPOS := Lib.hid hpos
  have HCK := Lib.hid ((checkApart_c b off n cp l w (by omega) hw).mono fun e w' h => (⟨hA e h.1, h.2⟩ : e = .returned (.int .i64 0) ∧ New w w'))
  have hmk : ∀ w : World, (Instr.makeSlice 40 (.int .i64 0) (.int .i64 (2 * (n : Int)))).run Tryz.prog w = .ok (.slice (some ⟨w.heap.size, 0, none⟩) 0 (2 * n)) (w.alloc (.cells (madeCells (.agg #[.int .i64 0, .int .i64 0] : Value).cells (2 * n * 2)) 23)) := by
    intro w
    have := run_make (P := Tryz.prog) w 40 23 i0 _ Tryz.underlying40 hi hz0 .i64 .i64 0 (2 * n) (by omega) (by omega) (by rw [hz2]; omega) (by omega)
    rw [hz1, show ((2 * (n : Int)).toNat) = 2 * n by omega] at this
    simpa using this
  have hblt := hw.2.1
  clear hw hbd hpos hA
  go_enter Tryz.func66, Tryz.ntmps66
  go_wp2_with (first | (go_at_call 137; refine HCK.out.mono ?_; rintro e w1 ⟨rfl, hn1⟩; have HN1 := Lib.hid hn1; clear hn1))
  have HOUT := Lib.hid (show (w1.alloc (.cells (madeCells (.agg #[.int .i64 0, .int .i64 0] : Value).cells (2 * n * 2)) 23)).ownsRow w1.heap.size 23 2 (.slice (some ⟨w1.heap.size, 0, none⟩) 0 (2 * n)) 0 [] from World.ownsRow_made _ _ _ (Nat.le_refl _) (by unfold maxLen; omega) (by simp [size_madeCells]))
  go_loopw [5, 22] (fun v i wr => ∃ (k g c : Nat), k ≤ n ∧ i = .int .i64 k ∧ v = .slice (some ⟨g, 0, none⟩) (2 * k) c ∧ wr.ownsRow w1.heap.size 23 2 (.slice (some ⟨g, 0, none⟩) (2 * k) c) (2 * k) (ptCells (endsTo l k)) ∧ New w1 wr) (fun _ i _ => n - (intOf i).toNat)
  case atStart => exact ⟨0, w1.heap.size, 2 * n, Nat.zero_le _, rfl, rfl, HOUT.out, (New.refl _).alloc _⟩
  case round =>
    obtain ⟨k, g, c, hk, rfl, rfl, hown, hnew⟩ := hrel
    have HOWN := Lib.hid hown
    have HNEW := Lib.hid hnew
    clear hown hnew
    by_cases hlt : k < n
    · obtain ⟨c1, c2, c3, c4⟩ := ((HW.out.new (HN1.out.trans HNEW.out)).2.2) k hlt
      have HES := Lib.hid (show ptCells (endsTo l (k + 1)) = ptCells (endsTo l k) ++ [.int .i64 (q1 l k), .int .i64 (q2 l k), .int .i64 (q3 l k), .int .i64 (q4 l k)] by simp only [endsTo]; rw [ptCells_two])
      generalize q1 l k = A1 at *
      generalize q2 l k = A2 at *
      generalize q3 l k = B1 at *
      generalize q4 l k = B2 at *
      go_wp2_with (at_builtin; refine wpList_append_lies _ rfl (.tmp 26) (.tmp 31) 40 rfl w1.heap.size 23 i0 _ 2 16 Tryz.underlying40 hi hz0 hz1 hz2 rfl (by omega) (.slice (some ⟨g, 0, none⟩) (2 * k) c) (2 * k) (ptCells (endsTo l k)) rfl ?_ _ 2 2 [.int .i64 A1, .int .i64 A2, .int .i64 B1, .int .i64 B2] rfl rfl ?_ ?_ (by omega) ?_ ?_ ?_ _ rfl ?_; exact own_new HOWN.out (by (repeat (first | exact New.refl _ | apply New.alloc | apply New.aft | apply New.drew | refine New.setCell ?_ ?_ _)); all_goals (first | done | (simp [size_aft]; done) | (simp [size_aft]; omega))); (refine cells_new _ _ _ _ ?_); (simp [go_sem]); (intro u hu; simp at hu; rcases hu with rfl | rfl | rfl | rfl <;> rfl); (unfold maxLen; omega); omega; (have hz := HNEW.out.size; simp [go_sem]; omega); intro g4 cap4 w4 hown4 hgrow4 hor4 hlt4; have HNW4 := Lib.hid (show New w1 w4 from new_grown (HNEW.out.trans (by (repeat (first | exact New.refl _ | apply New.alloc | apply New.aft | apply New.drew | refine New.setCell ?_ ?_ _)); all_goals (first | done | (simp [size_aft]; done) | (simp [size_aft]; omega)))) hgrow4 HOWN.out); have HO4 := Lib.hid hown4; clear hown4 hgrow4 hor4 hlt4)
      go_roundw
      case rel => exact ⟨k + 1, g4, cap4, by omega, by go_num, by rw [show 2 * (k + 1) = 2 * k + 2 by omega], by rw [show 2 * (k + 1) = 2 * k + 2 by omega, HES.out]; exact HO4.out, HNW4.out⟩
      case measure => simp [intOf]; omega
    · have hkn : k = n := by omega
      have HKN := Lib.hid hkn
      have HEL := Lib.hid (show (endsTo l n).length = 2 * n from endsTo_length l n)
      have HEB := Lib.hid (endsTo_bd HBD.out n)
      have HOE := Lib.hid (show wr.ownsRow w1.heap.size 23 2 (.slice (some ⟨g, 0, none⟩) (2 * n) c) (2 * n) (ptCells (endsTo l n)) from by have := HOWN.out; rw [hkn] at this; exact this)
      have HPT := Lib.hid (pts_own HOE.out HEL.out)
      have hkn2 : (2 : Nat) * k = 2 * n := by omega
      have HSP := Lib.hid (show splitL l = ddS (sortS (partsTo l (endsTo l n) n)) (partsTo l (endsTo l n) n).length by unfold splitL; rw [HN.out])
      have HNEWT := Lib.hid (HN1.out.trans HNEW.out)
      obtain ⟨w2, rfl⟩ : ∃ w2 : World, w2 = wr := ⟨_, rfl⟩
      have hgl := (HOE.out.lt g rfl).2
      generalize hEN : endsTo l n = EN at *
      clear hEN
      have HPL := Lib.hid (fun i => piecesL_len EN (q1 l i) (q2 l i) (q3 l i) (q4 l i))
      subst hkn
      go_wp2_with fail
      go_loopw [8, 36] (fun v i wx => ∃ (k2 c8 : Nat) (a8 : Option Addr), k2 ≤ k ∧ i = .int .i64 k2 ∧ v = .slice a8 (partsTo l EN k2).length c8 ∧ wx.ownsRow w2.heap.size 30 4 (.slice a8 (partsTo l EN k2).length c8) (partsTo l EN k2).length (segCells (partsTo l EN k2)) ∧ New w2 wx) (fun _ i _ => k - (intOf i).toNat)
      case atStart => exact ⟨0, 0, none, Nat.zero_le _, rfl, rfl, World.ownsRow_nil _ _ _ _, New.refl _⟩
      case round =>
        obtain ⟨k2, c8, a8, hk2, rfl, rfl, ho8, hn8⟩ := hrel
        have HO8 := Lib.hid ho8
        have HN8 := Lib.hid hn8
        clear ho8 hn8
        have HQ := Lib.hid (show (partsTo l EN k2).length ≤ 400 * 801 from by
          have h1 := partsTo_len l EN k2
          rw [HEL.out] at h1
          exact Nat.le_trans h1 (Nat.mul_le_mul (by omega) (by omega)))
        by_cases hlt2 : k2 < k
        · obtain ⟨c1, c2, c3', c4⟩ := ((HW.out.new (HNEWT.out.trans HN8.out)).2.2) k2 hlt2
          obtain ⟨⟨b1, b2⟩, b3, b4⟩ := HBD.out k2
          have hpn := HPOS.out k2 hlt2
          have HPN := Lib.hid (HPL.out k2)
          have hblt3 := (HW.out.new (HNEWT.out.trans HN8.out)).2.1
          have HPI := Lib.hid (fun (w9 : World) (h9 : New wr w9) => pieces_c g 0 (2 * k) c EN (q1 l k2) (q2 l k2) (q3 l k2) (q4 l k2) w9 (by omega) (HPT.out.new (HN8.out.trans h9)) HEB.out b1 b2 b3 b4)
          have HPS := Lib.hid (show segCells (partsTo l EN (k2 + 1)) = segCells (partsTo l EN k2) ++ segCells (piecesL EN (q1 l k2) (q2 l k2) (q3 l k2) (q4 l k2)) by simp only [partsTo]; rw [segCells_append])
          have HPSL := Lib.hid (show (partsTo l EN (k2 + 1)).length = (partsTo l EN k2).length + (piecesL EN (q1 l k2) (q2 l k2) (q3 l k2) (q4 l k2)).length by simp only [partsTo]; rw [List.length_append])
          generalize piecesL EN (q1 l k2) (q2 l k2) (q3 l k2) (q4 l k2) = PC at *
          generalize q1 l k2 = A1 at *
          generalize q2 l k2 = A2 at *
          generalize q3 l k2 = B1 at *
          generalize q4 l k2 = B2 at *
          generalize hq : (partsTo l EN k2).length = q at *
          have HQQ := Lib.hid hq
          clear hq
          generalize hpnn : PC.length = pn at *
          have HPNN := Lib.hid hpnn
          clear hpnn
          have HPCL := Lib.hid (show (segCells PC).length = pn * 4 by rw [segCells_length, HPNN.out])
          have hq2 := HQ.out
          have hpn2 := HPN.out
          rw [HEL.out] at hpn2
          go_wp2_with (first | (go_at_call 119; refine (HPI.out _ ((New.refl _).alloc _)).mono ?_; rintro e w3 ⟨g3, c3, rfl, ho3, hn3⟩; have HO3 := Lib.hid ho3; have HN3 := Lib.hid hn3; have HPC3 := Lib.hid (ho3.cells (g := g3) rfl); clear ho3 hn3) | (at_builtin; refine wpList_append_lies _ rfl (.tmp 40) (.tmp 43) 58 rfl w2.heap.size 30 j0 _ 4 32 Tryz.underlying58 ji jz0 jz1 jz2 rfl (by omega) (.slice a8 q c8) q (segCells (partsTo l EN k2)) rfl ?_ ⟨g3, 0, none⟩ pn c3 (segCells PC) rfl ?_ ?_ ?_ ?_ ?_ ?_ ?_ _ rfl ?_; exact own_new HO8.out (((New.refl _).alloc _).trans HN3.out); exact HPCL.out; exact HPC3.out; exact segCells_one _; exact hpn; (unfold maxLen; omega); omega; (have hz := (HN8.out.trans (((New.refl _).alloc _).trans HN3.out)).size; exact hz); intro g4 cap4 w4 hown4 hgrow4 hor4 hlt4; have HNW4 := Lib.hid (show New w2 w4 from new_grown (HN8.out.trans (((New.refl _).alloc _).trans HN3.out)) hgrow4 HO8.out); have HO4 := Lib.hid hown4; clear hown4 hgrow4 hor4 hlt4))
          go_roundw
          case rel => exact ⟨k2 + 1, cap4, some ⟨g4, 0, none⟩, by omega, by go_num, by rw [HPSL.out], by rw [HPSL.out, HPS.out]; exact HO4.out, HNW4.out⟩
          case measure => simp [intOf]; omega
        · have hk2n : k2 = k := by omega
          subst hk2n
          have hq0 : 0 < (partsTo l EN k2).length := by
            obtain ⟨j, rfl⟩ : ∃ j, k2 = j + 1 := ⟨k2 - 1, by omega⟩
            have := HPOS.out j (by omega)
            simp only [partsTo, List.length_append]; omega
          obtain ⟨g8, cap8, hbe, hbb, hbl⟩ := HO8.out.form hq0
          injection hbe with hbe1 hbe2 hbe3
          subst hbe1
          subst hbe3
          have hq2 := HQ.out
          have hsz := HNEWT.out.size
          have HR := Lib.hid (ddS_le (sortS (partsTo l EN k2)) (partsTo l EN k2).length)
          generalize hPS : splitL l = PS at *
          have HPS := Lib.hid hPS
          have HS2 := Lib.hid (show ddS (sortS (partsTo l EN k2)) (partsTo l EN k2).length = PS from HSP.out.symm)
          clear hPS
          generalize hpt : partsTo l EN k2 = PT at *
          clear hpt
          generalize hq : PT.length = q at *
          have HQQ := Lib.hid hq
          clear hq
          go_wp2_with (first | (go_at_call 138; refine (sortS_c w2.heap.size g8 q c8 PT _ (by omega) HQQ.out HO8.out).mono ?_; rintro e w3 ⟨rfl, ho3, hg3⟩; have HO3 := Lib.hid ho3; have HG3 := Lib.hid hg3; clear ho3 hg3) | (go_at_call 140; refine (compactS_c w2.heap.size g8 q c8 (sortS PT) _ (by omega) (by rw [sortS_length]; exact HQQ.out) HO3.out).mono ?_; rw [HS2.out]; rintro e w4 ⟨rfl, ho4, hg4⟩; have HO4 := Lib.hid ho4; have HG4 := Lib.hid (grownBy_trans HG3.out hg4); clear ho4 hg4))
          go_ret2
          rw [HPS.out]
          exact ⟨g8, c8, rfl, own_base HO4.out hsz, HNEWT.out.trans (new_grownBy HN8.out HG4.out hbb)⟩
    
end Go.Proofs.YtpdfbboagaflhaaGreat
