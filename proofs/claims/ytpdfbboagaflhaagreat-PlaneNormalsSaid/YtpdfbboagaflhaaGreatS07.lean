/- PlaneNormals returns true for every input, and its arguments read afterwards as before: the given statement, without a condition. -/
import Derived.Test.YtpdfbboagaflhaaGreatS01
import Derived.Carry
import Derived.Test.YtpdfbboagaflhaaGreatS03
import Derived.Test.YtpdfbboagaflhaaGreatS06
import Derived.Test.YtpdfbboagaflhaaGreatM51
import Derived.Deep.RegionHeld3
import Derived.Deep.RegionWith
import Derived.BigRegion
import Derived.LoopTactic
import Derived.Deep.AppendLies
import Derived.Deep.RegionLaw
import Derived.Test.YtpdfbboagaflhaaGreatRows
import Derived.ProofKit
import Derived.OpenShut
import Derived.Lib.SmallJoins

set_option linter.unusedSimpArgs false
set_option linter.unusedVariables false
set_option linter.constructorNameAsVariable false
set_option maxRecDepth 100000
namespace Go.Proofs.YtpdfbboagaflhaaGreat
open Go.ChangeShapes Go.WideShapes Go.ChangeAt Go.RowKit Go.Joins Go.Deep
section
variable {H : Type} {enc : TypeId × Value → H} {W : World} {base b0 : Nat} {spare : Nat → Bool} {held : Bool} {v : Value} {d : DataW H} {p : List MemPlace}
theorem open_u8 (hv : Value.okWide Tryz.prog W .any b0 5 v) (h : DataW.Trod enc Tryz.prog W base spare held 5 v d p) : ∃ f : Nat, v = .int .u8 (f : Int) ∧ f ≤ 255 := by
  obtain ⟨fuel, hf⟩ := h
  obtain ⟨a, e0, _, wa⟩ := DataW.trod_int Tryz.underlying5 hf
  have hb : 0 ≤ a ∧ a ≤ 255 := by
    simp only [Lit.wf, Bool.and_eq_true, decide_eq_true_eq] at wa
    have e1 : IntKind.min .u8 = 0 := by decide +kernel
    have e2 : IntKind.max .u8 = 255 := by decide +kernel
    rw [e1, e2] at wa
    exact wa
  obtain ⟨f, rfl⟩ := Int.eq_ofNat_of_zero_le hb.1
  have hv' := hv
  simp only [Value.okWide, Tryz.underlying5, Cell.okWide] at hv'
  refine ⟨f, ?_, by omega⟩
  cases v <;> simp_all [Cell.ok, Value.cells]
theorem open_bool (hv : Value.okWide Tryz.prog W .any b0 4 v) (h : DataW.Trod enc Tryz.prog W base spare held 4 v d p) : ∃ b, v = .bool b := by
  obtain ⟨fuel, hf⟩ := h
  obtain ⟨a, e0, _⟩ := DataW.trod_bool Tryz.underlying4 hf
  have hv' := hv
  simp only [Value.okWide, Tryz.underlying4, Cell.okWide] at hv'
  refine ⟨a, ?_⟩
  cases v <;> simp_all [Cell.ok, Value.cells]
end
end Go.Proofs.YtpdfbboagaflhaaGreat

set_option linter.unusedSimpArgs false
set_option linter.unusedVariables false
set_option maxRecDepth 100000
namespace Go.Proofs.YtpdfbboagaflhaaGreat
open Go.RowKit

theorem norm_facts {l : List P2} (hp : polyI l = 0) : 0 < (normB l).length ∧ 0 < l.length ∧ l.length ≤ 200 ∧ (normL l).length = (normB l).length ∧ (normL l).length ≤ 200 ∧ 0 < (normL l).length ∧ polyI (normL l) = 0 ∧ normL (normL l) = normL l := by
  have h1 := (area_bends hp).2.1
  obtain ⟨s1, _, _, _, s5, s6, s7⟩ := Geo.norm_self hp
  obtain ⟨hck, h3, _, _⟩ := polyI_ok hp
  have := (ckPts_zero hck).1
  have h4 := normL_length l h1
  exact ⟨h1, by omega, by omega, h4, by omega, by omega, s6, s7⟩
theorem normal_any (b off n c : Nat) (l : List P2) (w : World) (hw : Pts w b off n l) (hp : polyI l = 0) :
    Calls Tryz.prog 50 #[.slice (some ⟨b, off, none⟩) n c] w fun en w' => ListR w w' en (normL l) := by
  obtain ⟨f1, f2, f3, f4, f5, f6, f7⟩ := norm_facts hp
  have e := hw.1
  refine (normal_yes b off n c l w (by omega) (by omega) hw hp f1).mono ?_
  rintro en w' ⟨g, cap, rfl, ho, hn⟩
  refine ⟨_, rfl, PtsR.own (B := w.heap.size) ?_, hn⟩
  rw [f4]; exact ho
theorem ref_normal_any (b off n c : Nat) (l : List P2) (w : World) (hw : Pts w b off n l) (hp : polyI l = 0) :
    Calls Tryz.prog 51 #[.slice (some ⟨b, off, none⟩) n c] w fun en w' => ListR w w' en (normL l) := by
  obtain ⟨f1, f2, f3, f4, f5, f6, f7⟩ := norm_facts hp
  have e := hw.1
  rw [← norm_eq hp]
  exact ref_normal_yes b off n c l w (by omega) hw hp
/-- a list as a result that has points -/
theorem listR_at {w w' : World} {en : Ending} {R : List P2} (h : ListR w w' en R) (h0 : 0 < R.length) : ∃ g cap, en = .returned (.tuple #[.slice (some ⟨g, 0, none⟩) R.length cap, .int .i64 0]) ∧ Pts w' g 0 R.length R ∧ New w w' := by
  obtain ⟨v, rfl, ⟨av, cap, rfl, hp⟩, hn⟩ := h
  obtain ⟨g, rfl, hg⟩ := hp h0
  exact ⟨g, cap, rfl, hg, hn⟩

set_option maxHeartbeats 4000000 in
theorem normals_long (v : Option Addr) (n c : Nat) (f : Nat) (bk : Bool) (w : World) (hn : 40 < n) : Calls Tryz.prog 9 #[.slice v n c, .int .u8 (f : Int), .bool bk] w fun e w' => e = .returned (.bool true) ∧ New w w' := by
  have HL := Lib.hid alive_c
  have k1 : (40 : Int) < (n : Int) := by omega
  clear hn
  go_enter Tryz.func9, Tryz.ntmps9
  go_wp2_with (go_at_call 31; refine (HL.out _).mono ?_; rintro e w1 ⟨rfl, hn⟩; have N1 := Lib.hid hn; clear hn)
  all_goals (go_ret; exact ⟨ret_bool (by simp), N1.out⟩)

set_option maxHeartbeats 4000000 in
theorem normals_err (v : Option Addr) (n c : Nat) (f : Nat) (bk : Bool) (E : Int) (w : World) (hn : n ≤ 40) (hE : E ≠ 0)
    (H1 : Hid (∀ w1 : World, New w w1 → Calls Tryz.prog 50 #[.slice v n c] w1 fun en w' => en = .returned (.tuple #[.slice none 0 0, .int .i64 E]) ∧ New w1 w'))
    (H2 : Hid (∀ w1 : World, New w w1 → Calls Tryz.prog 51 #[.slice v n c] w1 fun en w' => en = .returned (.tuple #[.slice none 0 0, .int .i64 E]) ∧ New w1 w')) :
    Calls Tryz.prog 9 #[.slice v n c, .int .u8 (f : Int), .bool bk] w fun e w' => e = .returned (.bool true) ∧ New w w' := by
  have HL := Lib.hid alive_c
  have HS := Lib.hid (fun w1 : World => samePoints_c (.slice none 0 0) (.slice none 0 0) [] w1 (by simp) (PtsR.nil _) (PtsR.nil _))
  have k1 : ¬ (40 : Int) < (n : Int) := by omega
  have e1 : (E == E) = true := by simp
  have e2 : (E != E) = false := by simp
  have e3 : (E == 0) = false := by simpa using hE
  have e4 : (E != 0) = true := by simpa using hE
  clear hn hE
  go_enter Tryz.func9, Tryz.ntmps9
  go_wp2_with (first | (go_at_call 50; refine (H1.out _ (New.refl _)).mono ?_; rintro e w1 ⟨rfl, hn⟩; have N1 := Lib.hid hn; clear hn) | (go_at_call 51; refine (H2.out _ N1.out).mono ?_; rintro e w2 ⟨rfl, hn⟩; have N2 := Lib.hid (N1.out.trans hn); clear hn) | (go_at_call 52; refine (HS.out _).mono ?_; rintro e w3 ⟨rfl, hn⟩; have N3 := Lib.hid (N2.out.trans hn); clear hn) | (go_at_call 31; refine (HL.out _).mono ?_; rintro e w4 ⟨rfl, hn⟩; have N4 := Lib.hid (N3.out.trans hn); clear hn))
  all_goals (go_ret; exact ⟨ret_bool (by simp), N4.out⟩)

theorem ptsR_mk {w : World} {g r cap : Nat} {R : List P2} (hr : R.length = r) (h : Pts w g 0 r R) : PtsR w (.slice (some ⟨g, 0, none⟩) r cap) R := by
  subst hr; exact ⟨_, cap, rfl, fun _ => ⟨g, rfl, h⟩⟩
/-- what the walk has of a call of Normal -/
def NormR (r : Nat) (R : List P2) (w : World) (en : Ending) (w' : World) : Prop := ∃ g cap, en = .returned (.tuple #[.slice (some ⟨g, 0, none⟩) r cap, .int .i64 0]) ∧ Pts w' g 0 r R ∧ New w w'
theorem normR_of {r : Nat} {R : List P2} (hr : R.length = r) (h0 : 0 < r) {w w' : World} {en : Ending} (h : ListR w w' en R) : NormR r R w en w' := by
  subst hr
  exact listR_at h h0

set_option maxHeartbeats 16000000 in
theorem normals_yes (b off n c : Nat) (l : List P2) (f : Nat) (bk : Bool) (w : World) (hf : f ≤ 255) (hn : n ≤ 40) (hw : Pts w b off n l) (hp : polyI l = 0) :
    Calls Tryz.prog 9 #[.slice (some ⟨b, off, none⟩) n c, .int .u8 (f : Int), .bool bk] w fun e w' => e = .returned (.bool true) ∧ New w w' := by
  obtain ⟨i0, hi, hz0, hz1, hz2⟩ := info_parts info23
  obtain ⟨f1, f2, f3, f4, f5, f6, f7, f8⟩ := norm_facts hp
  have HW := Lib.hid hw
  have hln := hw.1
  have HLN := Lib.hid hln
  have h0 : 0 < n := by omega
  obtain ⟨q1, q2⟩ := Geo.oth_norm hp f bk
  rw [hln] at q1 q2
  have HL := Lib.hid alive_c
  obtain ⟨r, hr⟩ : ∃ r, (normL l).length = r := ⟨_, rfl⟩
  have hr0 : 0 < r := by omega
  have hr2 : r ≤ 200 := by omega
  have H1 := Lib.hid (show ∀ w1 : World, New w w1 → Calls Tryz.prog 50 #[.slice (some ⟨b, off, none⟩) n c] w1 (NormR r (normL l) w1) from fun w1 h1 => (normal_any b off n c l w1 (hw.new h1) hp).mono fun _ _ h => normR_of hr hr0 h)
  have H2 := Lib.hid (show ∀ w1 : World, New w w1 → Calls Tryz.prog 51 #[.slice (some ⟨b, off, none⟩) n c] w1 (NormR r (normL l) w1) from fun w1 h1 => (ref_normal_any b off n c l w1 (hw.new h1) hp).mono fun _ _ h => normR_of hr hr0 h)
  have HOL := Lib.hid (Geo.othT_length l f bk)
  have H3 := Lib.hid (show ∀ (w1 : World) (g cap : Nat), Pts w1 g 0 n (Geo.othT l f bk n) → Calls Tryz.prog 50 #[.slice (some ⟨g, 0, none⟩) n cap] w1 (NormR r (normL l) w1) from fun w1 g cap h1 => (normal_any g 0 n cap _ w1 h1 q1).mono fun _ _ h => normR_of hr hr0 (q2 ▸ h))
  have H4 := Lib.hid (show ∀ (w1 : World) (g cap : Nat), Pts w1 g 0 r (normL l) → Calls Tryz.prog 50 #[.slice (some ⟨g, 0, none⟩) r cap] w1 (NormR r (normL l) w1) from fun w1 g cap h1 => (normal_any g 0 r cap _ w1 h1 f7).mono fun _ _ h => normR_of hr hr0 (f8 ▸ h))
  have H5 := Lib.hid (show ∀ (w1 : World) (g g' cap cap' : Nat), Pts w1 g 0 r (normL l) → Pts w1 g' 0 r (normL l) → Calls Tryz.prog 52 #[.slice (some ⟨g, 0, none⟩) r cap, .slice (some ⟨g', 0, none⟩) r cap'] w1 fun en w' => en = .returned (.bool true) ∧ New w1 w' from fun w1 g g' cap cap' h1 h2 => samePoints_c _ _ (normL l) w1 (by omega) (ptsR_mk hr h1) (ptsR_mk hr h2))
  have HNR := Lib.hid (show ∀ w1 en w2, NormR r (normL l) w1 en w2 → ∃ g cap, en = .returned (.tuple #[.slice (some ⟨g, 0, none⟩) r cap, .int .i64 0]) ∧ Pts w2 g 0 r (normL l) ∧ New w1 w2 from fun _ _ _ h => h)
  have HOS := Lib.hid (show ∀ t, Geo.othT l f bk (t + 1) = Geo.othT l f bk t ++ [(px l (if bk = true then n - 1 - (t + f) % n else (t + f) % n), py l (if bk = true then n - 1 - (t + f) % n else (t + f) % n))] from fun t => by rw [Geo.othT_succ]; unfold Geo.othI; rw [hln])
  have HO0 := Lib.hid (show Geo.othT l f bk 0 = [] from rfl)
  generalize Geo.othT l f bk = OT at *
  generalize normL l = R at *
  have k1 : ¬ (40 : Int) < (n : Int) := by omega
  have kf : (f : Int) ≤ 255 := by omega
  have kn : (n : Int) ≤ 40 := by omega
  have hnz : (n = 0) = False := eq_false (by omega)
  have hbd := HW.out.2.1
  clear hw hp hln f1 f2 f3 f4 f5 f6 f7 f8 q1 q2 hr hbd
  go_enter Tryz.func9, Tryz.ntmps9
  go_wp2_with fail
  refine (H1.out _ (New.refl _)).mono ?_
  rintro en w1 hh
  obtain ⟨g1, c1, rfl, p1, n1⟩ := HNR.out _ _ _ hh
  have P1 := Lib.hid p1; have N1 := Lib.hid n1; clear p1 n1 hh
  go_wp2_with fail
  refine (H2.out _ N1.out).mono ?_
  rintro en w2 hh
  obtain ⟨g2, c2, rfl, p2, n2⟩ := HNR.out _ _ _ hh
  have P2 := Lib.hid p2; have N2 := Lib.hid n2; clear p2 n2 hh
  go_wp2_with fail
  refine (H5.out _ _ _ _ _ (P1.out.new N2.out) P2.out).mono ?_
  rintro en w3 ⟨rfl, n3⟩
  have N3 := Lib.hid n3; clear n3
  go_wp2_with fail
  obtain ⟨wl, rfl⟩ : ∃ wl : World, wl = w3 := ⟨_, rfl⟩
  have NL := Lib.hid (N1.out.trans (N2.out.trans N3.out))
  have PL := Lib.hid (P1.out.new (N2.out.trans N3.out))
  go_loopw [11, 13, 46] (fun v kk i wr => ∃ t : Nat, t ≤ n ∧ i = .int .i64 t ∧ wr.ownsRow wl.heap.size 23 2 v t (ptCells (OT t)) ∧ New wl wr) (fun _ _ i _ => n - (intOf i).toNat)
  case atStart => exact ⟨0, Nat.zero_le _, rfl, by rw [HO0.out]; exact World.ownsRow_nil _ _ _ _, New.refl _⟩
  case round =>
    obtain ⟨wt, rfl⟩ : ∃ wt : World, wt = wr := ⟨_, rfl⟩
    obtain ⟨t, ht, rfl, hown, hnew⟩ := hrel
    have HNT := Lib.hid hnew
    have HOT := Lib.hid hown
    clear hown hnew
    by_cases htk : t < n
    · have htk2 : (t : Int) < (n : Int) := by omega
      obtain ⟨_, hb2, hcell⟩ := HW.out.new (NL.out.trans HNT.out)
      have j1 : (t + f) % n < n := Nat.mod_lt _ h0
      have m1 := tm_nat (t + f) n ((t : Int) + (f : Int)) (by omega)
      have w1' : IntKind.i64.wrap ((t : Int) + (f : Int)) = (t : Int) + (f : Int) := IntWalk.i64_in _ (by omega)
      have HBS := Lib.hid (HOS.out t)
      have hOl : (OT t).length = t := HOL.out t
      have HOl := Lib.hid hOl
      clear hOl
      generalize (t + f) % n = j at *
      cases bk
      · obtain ⟨c3, c4⟩ := hcell _ j1
        have HBE := Lib.hid (show OT (t + 1) = OT t ++ [(px l j, py l j)] by rw [HBS.out]; rfl)
        clear HBS hcell
        generalize px l j = X1 at *
        generalize py l j = Y1 at *
        go_wp2_with (at_builtin; refine wpList_append_lies _ rfl (.tmp 62) (.tmp 67) 40 rfl wl.heap.size 23 i0 _ 2 16 Tryz.underlying40 hi hz0 hz1 hz2 rfl (by omega) u11 t (ptCells (OT t)) rfl ?_ _ 1 1 [.int .i64 X1, .int .i64 Y1] rfl rfl ?_ ?_ (by omega) ?_ ?_ ?_ _ rfl ?_; exact own_new HOT.out (by (repeat (first | exact New.refl _ | apply New.alloc | apply New.aft | apply New.drew | refine New.setCell ?_ ?_ _)); all_goals (first | done | (simp [size_aft]; done) | (simp [size_aft]; omega))); (refine cells_new _ _ _ _ ?_); (simp [go_sem]); (intro u hu; simp at hu; rcases hu with rfl | rfl <;> rfl); (unfold maxLen; omega); omega; (have z1 := HNT.out.size; simp [go_sem, size_aft]; omega); intro g4 cap4 w4 hown4 hgrow4 hor4 hlt4; have HNW4 := Lib.hid (show New wl w4 from new_grown (by (repeat (first | exact HNT.out | exact New.refl _ | apply New.alloc | apply New.aft | apply New.drew | refine New.setCell ?_ ?_ _)); all_goals (first | done | (simp [size_aft]; done) | (simp [size_aft]; omega))) hgrow4 HOT.out); have HO4 := Lib.hid hown4; clear hown4 hgrow4 hor4 hlt4)
        go_roundw
        case rel => exact ⟨t + 1, by omega, by go_num, by rw [HBE.out, ptCells_snoc]; exact HO4.out, HNW4.out⟩
        case measure => simp [intOf]; omega
      · obtain ⟨c3, c4⟩ := hcell (n - 1 - j) (by omega)
        have HBE := Lib.hid (show OT (t + 1) = OT t ++ [(px l (n - 1 - j), py l (n - 1 - j))] by rw [HBS.out]; rfl)
        clear HBS hcell
        have hwA : IntKind.i64.wrap ((n : Int) - 1) = (n : Int) - 1 := IntWalk.i64_in _ (by omega)
        have hwB : IntKind.i64.wrap ((n : Int) - 1 - (j : Int)) = (n : Int) - 1 - (j : Int) := IntWalk.i64_in _ (by omega)
        have hq1 : ((n : Int) - 1 - (j : Int)).toNat = n - 1 - j := by omega
        have hq2 : (0 : Int) ≤ (n : Int) - 1 - (j : Int) := by omega
        have hq3 : (n : Int) - 1 - (j : Int) < (n : Int) := by omega
        generalize px l (n - 1 - j) = X1 at *
        generalize py l (n - 1 - j) = Y1 at *
        go_wp2_with (at_builtin; refine wpList_append_lies _ rfl (.tmp 62) (.tmp 67) 40 rfl wl.heap.size 23 i0 _ 2 16 Tryz.underlying40 hi hz0 hz1 hz2 rfl (by omega) u11 t (ptCells (OT t)) rfl ?_ _ 1 1 [.int .i64 X1, .int .i64 Y1] rfl rfl ?_ ?_ (by omega) ?_ ?_ ?_ _ rfl ?_; exact own_new HOT.out (by (repeat (first | exact New.refl _ | apply New.alloc | apply New.aft | apply New.drew | refine New.setCell ?_ ?_ _)); all_goals (first | done | (simp [size_aft]; done) | (simp [size_aft]; omega))); (refine cells_new _ _ _ _ ?_); (simp [go_sem]); (intro u hu; simp at hu; rcases hu with rfl | rfl <;> rfl); (unfold maxLen; omega); omega; (have z1 := HNT.out.size; simp [go_sem, size_aft]; omega); intro g4 cap4 w4 hown4 hgrow4 hor4 hlt4; have HNW4 := Lib.hid (show New wl w4 from new_grown (by (repeat (first | exact HNT.out | exact New.refl _ | apply New.alloc | apply New.aft | apply New.drew | refine New.setCell ?_ ?_ _)); all_goals (first | done | (simp [size_aft]; done) | (simp [size_aft]; omega))) hgrow4 HOT.out); have HO4 := Lib.hid hown4; clear hown4 hgrow4 hor4 hlt4)
        go_roundw
        case rel => exact ⟨t + 1, by omega, by go_num, by rw [HBE.out, ptCells_snoc]; exact HO4.out, HNW4.out⟩
        case measure => simp [intOf]; omega
    · have htk2 : ¬ (t : Int) < (n : Int) := by omega
      obtain rfl : t = n := by omega
      have ho3 := HOT.out
      rcases ho3.2 with ⟨_, hz⟩ | ⟨g3, cap3, cur3, rfl, hg3⟩
      · exact absurd hz (by omega)
      have HP3 := Lib.hid (pts_own ho3 (HOL.out t))
      clear hg3 ho3 HOS
      go_wp2_with fail
      refine (H3.out _ _ _ HP3.out).mono ?_
      rintro en w4 hh
      obtain ⟨g4, c4, rfl, p4, n4⟩ := HNR.out _ _ _ hh
      have P4 := Lib.hid p4; have N4 := Lib.hid n4; clear p4 n4 hh
      have PL2 := Lib.hid (PL.out.new (HNT.out.trans N4.out))
      go_wp2_with fail
      refine (H4.out _ _ _ PL2.out).mono ?_
      rintro en w5 hh
      obtain ⟨g5, c5, rfl, p5, n5⟩ := HNR.out _ _ _ hh
      have P5 := Lib.hid p5; have N5 := Lib.hid n5; clear p5 n5 hh
      go_wp2_with fail
      refine (HL.out _).mono ?_
      rintro en w6 ⟨rfl, n6⟩
      have N6 := Lib.hid n6; clear n6
      have PL3 := Lib.hid (PL2.out.new (N5.out.trans N6.out))
      have P43 := Lib.hid (P4.out.new (N5.out.trans N6.out))
      have P53 := Lib.hid (P5.out.new N6.out)
      go_wp2_with fail
      refine (H5.out _ _ _ _ _ P43.out PL3.out).mono ?_
      rintro en w7 ⟨rfl, n7⟩
      have N7 := Lib.hid n7; clear n7
      go_wp2_with fail
      refine (H5.out _ _ _ _ _ (P53.out.new N7.out) (PL3.out.new N7.out)).mono ?_
      rintro en w8 ⟨rfl, n8⟩
      have N8 := Lib.hid n8; clear n8
      go_wp2_with fail
      go_ret
      exact ⟨ret_bool (by simp), NL.out.trans (HNT.out.trans (N4.out.trans (N5.out.trans (N6.out.trans (N7.out.trans N8.out)))))⟩

theorem normal_nil (v : Option Addr) (c : Nat) (w1 : World) : Calls Tryz.prog 50 #[.slice v 0 c] w1 fun en w' => en = .returned (.tuple #[.slice none 0 0, .int .i64 1]) ∧ New w1 w' := by
  have HC := Lib.hid (fun w1 : World => checkPoly_nil v c w1)
  go_enter Tryz.func50, Tryz.ntmps50
  go_wp2_with (go_at_call 44; refine (HC.out _).mono ?_; rintro e w2 ⟨rfl, hn⟩; have HN1 := Lib.hid hn; clear hn)
  go_ret2; exact ⟨rfl, HN1.out⟩
theorem ref_normal_nil (v : Option Addr) (c : Nat) (w1 : World) : Calls Tryz.prog 51 #[.slice v 0 c] w1 fun en w' => en = .returned (.tuple #[.slice none 0 0, .int .i64 1]) ∧ New w1 w' := by
  have HC := Lib.hid (fun w1 : World => ref_checkPoly_nil v c w1)
  go_enter Tryz.func51, Tryz.ntmps51
  go_wp2_with (go_at_call 45; refine (HC.out _).mono ?_; rintro e w2 ⟨rfl, hn⟩; have HN1 := Lib.hid hn; clear hn)
  go_ret2; exact ⟨rfl, HN1.out⟩

theorem planeNormals_all (w : World) (av : Option Addr) (n c : Nat) (l : List P2) (hl : l.length = n) (hp : 0 < n → ∃ b off, av = some ⟨b, off, none⟩ ∧ Pts w b off n l) (f : Nat) (hf : f ≤ 255) (bk : Bool) : Calls Tryz.prog 9 #[.slice av n c, .int .u8 (f : Int), .bool bk] w fun e w' => e = .returned (.bool true) ∧ New w w' := by
  by_cases h : 40 < n
  · exact normals_long av n c f bk w h
  · by_cases h0 : 0 < n
    · obtain ⟨b, off, rfl, hw⟩ := hp h0
      by_cases hpo : polyI l = 0
      · exact normals_yes b off n c l f bk w hf (by omega) hw hpo
      · exact normals_err _ n c f bk (polyI l) w (by omega) hpo (Lib.hid fun w1 h1 => normal_no b off n c l w1 h0 (by omega) (hw.new h1) hpo) (Lib.hid fun w1 h1 => ref_normal_no b off n c l w1 h0 (by omega) (hw.new h1) hpo)
    · obtain rfl : n = 0 := by omega
      exact normals_err av 0 c f bk 1 w (by omega) (by decide) (Lib.hid fun w1 _ => normal_nil av c w1) (Lib.hid fun w1 _ => ref_normal_nil av c w1)

end Go.Proofs.YtpdfbboagaflhaaGreat

set_option linter.unusedSimpArgs false
set_option linter.unusedVariables false
set_option linter.constructorNameAsVariable false
namespace Go.Proofs.YtpdfbboagaflhaaGreat
open Go.ChangeShapes Go.WideShapes Go.ChangeAt Go.RowKit Go.Joins
set_option maxRecDepth 100000

theorem jNo_wf : Rows.planeNormalsRow.wf (OpenSpec.ofChange Rows.planeNormalsSpec) = true := by kernel_rfl
theorem jNo_par : Tryz.f9.params.all (Tryz.prog.readableRec ·) = true := by kernel_rfl
theorem jNo_tie : namedTie Tryz.prog Rows.planeNormalsRow.named Rows.planeNormalsSpec.vars = true := by kernel_rfl
theorem jNo_st : (Rows.planeNormalsRow.stops == []) = true := by kernel_rfl
theorem jNo_kn : (Rows.planeNormalsRow.knobs == []) = true := by kernel_rfl
theorem jNo_inp : (Rows.planeNormalsRow.inPlace == Tryz.prog.inPlace 9) = true := by kernel_rfl
theorem jNo_unf : (Rows.planeNormalsRow.unfollowed == Tryz.prog.unfollowed 9) = true := by kernel_rfl
theorem jNo_rec : (Rows.planeNormalsRow.recurses == Tryz.prog.recurses 9) = true := by kernel_rfl
theorem jNo_nam : (Rows.planeNormalsRow.named == Tryz.prog.varsNamed 9) = true := by kernel_rfl
theorem jNo_maps : (Rows.planeNormalsRow.maps == (Tryz.f9.params.toList ++ Rows.planeNormalsSpec.plain.varTypes Tryz.prog).any (Tryz.prog.mapsRec ·)) = true := by kernel_rfl
theorem jNo_ifs : (Rows.planeNormalsRow.ifaces == (Tryz.f9.params.toList ++ Rows.planeNormalsSpec.plain.varTypes Tryz.prog).any (Tryz.prog.ifacesRec ·)) = true := by kernel_rfl
theorem jNo_mout : (Rows.planeNormalsRow.mapsOut == Tryz.prog.mapsAmong Tryz.f9.resultTypes.toList) = true := by kernel_rfl
theorem jNo_loops : (Rows.planeNormalsRow.loops == (Tryz.f9.params.toList ++ Rows.planeNormalsSpec.plain.varTypes Tryz.prog).any (Tryz.prog.loopsFrom ·)) = true := by kernel_rfl
theorem jNo_wide : (Rows.planeNormalsRow.wideKeys == (Tryz.f9.params.toList ++ Rows.planeNormalsSpec.plain.varTypes Tryz.prog ++ Tryz.f9.resultTypes.toList).any (Tryz.prog.wideKeysFrom ·)) = true := by kernel_rfl
theorem jNo_vars : Rows.planeNormalsSpec.vars.all (Tryz.prog.varReadable ·) = true := by kernel_rfl
theorem jNo_res : Tryz.f9.resultTypes.all (fun t => Tryz.prog.readableRec t && decide (t < Tryz.prog.types.size)) = true := by kernel_rfl
theorem jNo_iout : (Rows.planeNormalsRow.ifacesOut == Tryz.f9.resultTypes.toList.any (Tryz.prog.ifacesRec ·)) = true := by kernel_rfl
theorem jNo_lout : (Rows.planeNormalsRow.loopsOut == Tryz.f9.resultTypes.toList.any (Tryz.prog.loopsFrom ·)) = true := by kernel_rfl
theorem jNo_plain : (Rows.planeNormalsRow.plainKeys == Tryz.prog.plainKeys) = true := by kernel_rfl
theorem jNo_short : Rows.planeNormalsRow.shortTexts.isNone = true := by kernel_rfl
theorem jNo_lift0 : (Rows.planeNormalsRow.lifted == false) = true := by kernel_rfl
theorem jNo_lift : (Rows.planeNormalsRow.lifted == Tryz.prog.liftsFinal) = true := (congrArg (fun b => (Rows.planeNormalsRow.lifted == b)) lift_is).trans jNo_lift0
theorem jNo_make0 : (some Make.cut == some Rows.planeNormalsRow.make) = true := by kernel_rfl
theorem jNo_make : (Tryz.prog.make == some Rows.planeNormalsRow.make) = true := (congrArg (fun b => (b == some Rows.planeNormalsRow.make)) make_is).trans jNo_make0
theorem jNo_kinds : (Rows.planeNormalsRow.kinds == (if Rows.planeNormalsRow.domain.isEmpty then [] else Tryz.f9.params.toList.map fun t => match Tryz.prog.underlying t with | some (.int k) => some k | _ => none)) = true := by kernel_rfl
theorem jNo_pin : (Rows.planeNormalsRow.pinned == Rows.planeNormalsRow.pinnedBy) = true := by kernel_rfl
theorem jNo_veil : (Rows.planeNormalsRow.veiled == (Tryz.f9.params.toList ++ Rows.planeNormalsSpec.plain.varTypes Tryz.prog ++ Tryz.f9.resultTypes.toList).any (Tryz.prog.veiledRec ·)) = true := by kernel_rfl
theorem jNo_vfit : Rows.planeNormalsRow.veiledFits Tryz.prog Tryz.f9.params.toList (Tryz.f9.params.toList ++ Rows.planeNormalsSpec.plain.varTypes Tryz.prog ++ Tryz.f9.resultTypes.toList) = true := by kernel_rfl
theorem jNo_closed : joinedFacts Tryz.prog 9 Tryz.f9 Rows.planeNormalsSpec Rows.planeNormalsRow = true := (b_and (b_and (b_and (b_and (b_and (b_and (b_and (b_and (b_and (b_and (b_and (b_and (b_and (b_and (b_and (b_and (b_and (b_and (b_and (b_and (b_and (b_and (b_and (b_and (b_and (b_and (b_and (b_and (b_and (b_and (b_and jNo_wf jp_laid) jp_rowed) jNo_par) jNo_tie) jNo_st) jp_stops) jNo_kn) jp_knobs) jNo_inp) jNo_unf) jNo_rec) jNo_nam) jNo_maps) jNo_ifs) jNo_mout) jNo_loops) jNo_wide) jNo_vars) jNo_res) jNo_iout) jNo_lout) jNo_plain) jNo_short) jp_heard) jp_enter) jNo_lift) jNo_make) jNo_kinds) jNo_pin) jNo_veil) jNo_vfit)
theorem jNo_name : Tryz.prog.funcNamed Rows.planeNormalsRow.func = some 9 := by kernel_rfl
theorem jNo_inst : Tryz.f9.isInstance Tryz.prog Rows.planeNormalsRow.origin Rows.planeNormalsRow.targs := of_decide_eq_true (by kernel_rfl)
theorem jNo_wrap : Tryz.f9.isWrapper Tryz.prog Rows.planeNormalsRow.wrapper Rows.planeNormalsRow.mainSum := by unfold Func.isWrapper; rw [if_neg (by decide +kernel)]; exact ⟨rfl, rfl⟩

set_option maxHeartbeats 2000000 in
theorem jNo_lifted (os : Os) (started : os.Started) (H : Type) (enc : TypeId × Value → H) :
    ReturnsInHanded {} Tryz.checked os 9 .any (Rows.planeNormalsSpec.pre6 enc Tryz.prog Tryz.f9 Rows.planeNormalsRow.domain false) (Rows.planeNormalsSpec.post enc Tryz.prog Tryz.f9 false true false false) := by
  refine returnsInHanded_of_change (C := Tryz.checked) own_knob started (by kernel_rfl) Tryz.func9
    (ChangeSpec.witness6 (enc := enc) (C := Tryz.checked) false ⟨#[], #[.slice none 0 0, .int .u8 0, .bool false], []⟩ 8 (by kernel_rfl) (by kernel_rfl) (by kernel_rfl) (by kernel_rfl)) ?_
  intro W base args ds gs before hval0 hW hcnd _
  have hval : ∀ (j : Nat) t v, Tryz.f9.params[j]? = some t → args[j]? = some v → Value.okWide Tryz.prog W .any base t v := hval0
  have hW' := hW
  obtain ⟨p, q, hA0, hV, rfl, hfz, hnd⟩ := hW
  have hA : DataW.TrodAll enc Tryz.prog W 0 (fun _ => true) true Tryz.f9.params.toList args.toList ds p := hA0
  rw [Tryz.params9] at hA hval
  obtain ⟨v0, vs0, d0, ds0, p0, q0, hargs, rfl, rfl, h0, r0⟩ := trodAll_cons hA
  obtain ⟨v1, vs1, d1, ds1, p1, q1, rfl, rfl, rfl, h1, r1⟩ := trodAll_cons r0
  obtain ⟨v2, vs2, d2, ds2, p2, q2, rfl, rfl, rfl, h2, r2⟩ := trodAll_cons r1
  obtain ⟨rfl, rfl, rfl⟩ := trodAll_nil r2
  obtain rfl : args = #[v0, v1, v2] := by cases args; simp_all
  obtain ⟨rfl, rfl⟩ := trodVars_none hV
  have hlt : ∀ x ∈ p0 ++ p1 ++ p2, x.block < W.heap.size := fun x hx => hW'.lt x (by simpa using hx)
  have g0 := h0
  obtain ⟨av0, n0, cap0, l0, rfl, hl0, hp0⟩ := open_pts (hval 0 40 v0 rfl rfl) h0
  have g1 := h1
  obtain ⟨x1, rfl, hx1⟩ := open_u8 (hval 1 5 v1 rfl rfl) h1
  have g2 := h2
  obtain ⟨x2, rfl⟩ := open_bool (hval 2 4 v2 rfl rfl) h2
  clear hA0 hval0 hval
  refine (planeNormals_all W av0 n0 cap0 l0 hl0 hp0 x1 hx1 x2).mono fun e W' ⟨he, hg⟩ => ?_
  subst he
  have t2 := Below.trod laidOut (by kernel_rfl) (of_decide_eq_true (by kernel_rfl)) g2 hg.below (fun x hx => hlt x (by simp [hx]))
  have t1 := Below.trod laidOut (by kernel_rfl) (of_decide_eq_true (by kernel_rfl)) g1 hg.below (fun x hx => hlt x (by simp [hx]))
  have t0 := Below.trod laidOut (by kernel_rfl) (of_decide_eq_true (by kernel_rfl)) g0 hg.below (fun x hx => hlt x (by simp [hx]))
  exact ⟨_, rfl, _, _, _, _, _, _, hW', trodAll_cons_mk (shut_bool Tryz.underlying4 _) trodAll_mk0, trodAll_cons_mk t0 (trodAll_cons_mk t1 (trodAll_cons_mk t2 trodAll_mk0)), rfl, hg.below.frame _, fun h => by cases h⟩

/-- PlaneNormals, as it is given -/
theorem planeNormals_proved : Rows.PlaneNormalsSaid :=
  OpenClaim.holds_of_wide 9 Tryz.f9 rfl rfl rfl rfl rfl rfl rfl ⟨rfl, rfl, rfl, rfl, rfl⟩ rfl rfl rfl rfl rfl jNo_name Tryz.func9 jNo_closed jNo_inst jNo_wrap
    (fun os started H enc _ => jNo_lifted os started H enc)

end Go.Proofs.YtpdfbboagaflhaaGreat
