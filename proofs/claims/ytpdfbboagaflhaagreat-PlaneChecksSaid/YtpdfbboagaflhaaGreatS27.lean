/- PlaneChecks returns true for every input, and its arguments read afterwards as before: the given statement, without a condition. -/
import Derived.Test.YtpdfbboagaflhaaGreatS24
import Derived.Test.YtpdfbboagaflhaaGreatS21
import Derived.Deep.RegionWith
import Derived.Test.YtpdfbboagaflhaaGreatM51
import Derived.Test.YtpdfbboagaflhaaGreatRows
import Derived.ProofKit
import Derived.OpenShut
import Derived.Lib.SmallJoins
import Derived.Carry

set_option linter.unusedSimpArgs false
set_option linter.unusedVariables false
set_option maxRecDepth 100000
namespace Go.Proofs.YtpdfbboagaflhaaGreat
open Go.RowKit Go.Maps

abbrev OR (w : World) (B m : Nat) (D : DataW Unit) : Prop := w.ownsMap Tryz.prog 129 (plainElem (H := Unit) Tryz.prog 3) B m D
def tri3 (x : T6) (k : Nat) : W2 := if k = 0 then (x.1, x.2.1) else if k = 1 then (x.2.1, x.2.2) else (x.2.2, x.1)
def SdAt (w : World) (g : Nat) (f : Nat → W2) : Prop := g < w.heap.size ∧ ∀ k, k < 3 → (w.cell? ⟨g, k * 4, none⟩ = some (.int .i64 (f k).1.1) ∧ w.cell? ⟨g, k * 4 + 1, none⟩ = some (.int .i64 (f k).1.2)) ∧ (w.cell? ⟨g, k * 4 + 2, none⟩ = some (.int .i64 (f k).2.1) ∧ w.cell? ⟨g, k * 4 + 3, none⟩ = some (.int .i64 (f k).2.2))
theorem SdAt.new {w w' : World} {g : Nat} {f : Nat → W2} (h : SdAt w g f) (hn : New w w') : SdAt w' g f :=
  ⟨Nat.lt_of_lt_of_le h.1 hn.size, fun k hk => ⟨⟨(hn.cell h.1).trans (h.2 k hk).1.1, (hn.cell h.1).trans (h.2 k hk).1.2⟩, (hn.cell h.1).trans (h.2 k hk).2.1, (hn.cell h.1).trans (h.2 k hk).2.2⟩⟩
theorem SdAt.gb {w w' : World} {g B : Nat} {f : Nat → W2} (h : SdAt w g f) (hg : w.grownBy w' (some B)) (hB : g ≠ B) : SdAt w' g f := by
  have L := fun o => hg.cell_far ⟨g, o, none⟩ h.1 (by simpa using hB)
  exact ⟨Nat.lt_of_lt_of_le h.1 hg.size, fun k hk => ⟨⟨(L _).trans (h.2 k hk).1.1, (L _).trans (h.2 k hk).1.2⟩, (L _).trans (h.2 k hk).2.1, (L _).trans (h.2 k hk).2.2⟩⟩
theorem triE_take (x : T6) : ∀ k, k < 3 → (Geo.triE x).take (k + 1) = (Geo.triE x).take k ++ [tri3 x k] := by
  intro k hk
  have : k = 0 ∨ k = 1 ∨ k = 2 := by omega
  rcases this with rfl | rfl | rfl <;> rfl
theorem surR_two {D : DataW Unit} {E : List W2} (h : SurR D E) (hD : IsMap D) {x : W2} (hx : okE x) (hn : x.1 ≠ x.2) {a : W2} (ha : a = x ∨ a = x.swap) :
    (D.put (sdLit a) (i64d (Geo.valE (E ++ [x]) a))).atKey (sdLit a.swap) (i64d 0) = i64d (Geo.valE E a.swap) ∧ SurR ((D.put (sdLit a) (i64d (Geo.valE (E ++ [x]) a))).put (sdLit a.swap) (i64d (Geo.valE (E ++ [x]) a.swap))) (E ++ [x]) := by
  have hxs : x.swap ≠ x := fun g => hn (congrArg Prod.snd g)
  have hao : okE a := by rcases ha with rfl | rfl; exact hx; exact okE_swap hx
  have has : a.swap ≠ a := by rcases ha with rfl | rfl; exact hxs; rw [Prod.swap_swap]; exact hxs.symm
  have hls : sdLit a.swap ≠ sdLit a := fun g => has (sdLit_inj (okE_swap hao) hao g)
  refine ⟨by rw [atKey_put_other hls, h.1 _ (okE_swap hao)], fun e he => ?_, fun kl hkl => ?_⟩
  · by_cases e1 : e = a.swap
    · subst e1; rw [atKey_put_same (hD.put _ _) (sd_key (okE_swap hao))]
    · rw [atKey_put_other (fun g => e1 (sdLit_inj he (okE_swap hao) g))]
      by_cases e2 : e = a
      · subst e2; rw [atKey_put_same hD (sd_key hao)]
      · rw [atKey_put_other (fun g => e2 (sdLit_inj he hao g)), h.1 e he, valE_snoc]
        have n1 : ¬ x = e := by rcases ha with rfl | rfl; exact fun g => e2 g.symm; exact fun g => e1 (by rw [Prod.swap_swap]; exact g.symm)
        have n2 : ¬ x = e.swap := by
          rcases ha with rfl | rfl
          · exact fun g => e1 (by rw [g, Prod.swap_swap])
          · exact fun g => e2 (by rw [g, Prod.swap_swap])
        rw [if_neg n1, if_neg n2]; congr 1; omega
  · by_cases e1 : kl = sdLit a.swap
    · exact ⟨_, okE_swap hao, e1⟩
    · rw [has_put_other e1] at hkl
      by_cases e2 : kl = sdLit a
      · exact ⟨_, hao, e2⟩
      · rw [has_put_other e2] at hkl; exact h.2 kl hkl
theorem val_two {E : List W2} {x : W2} (hn : x.1 ≠ x.2) : Geo.valE (E ++ [x]) x = Geo.valE E x + 1 ∧ Geo.valE (E ++ [x]) x.swap = Geo.valE E x.swap - 1 := by
  have hxs : x.swap ≠ x := fun g => hn (congrArg Prod.snd g)
  constructor
  · rw [valE_snoc, if_pos rfl, if_neg (fun g => hxs g.symm)]; omega
  · rw [valE_snoc, if_neg (fun g => hxs g.symm), if_pos (Prod.swap_swap x).symm]; omega

set_option maxHeartbeats 4000000 in
theorem ref_sides (A1 A2 B1 B2 C1 C2 : Int) (w : World) : Calls Tryz.prog 134 #[tv A1 A2 B1 B2 C1 C2] w fun en w' => ∃ g, en = .returned (.slice (some ⟨g, 0, none⟩) 3 3) ∧ SdAt w' g (tri3 ((A1, A2), (B1, B2), (C1, C2))) ∧ New w w' := by
  go_enter Tryz.func134, Tryz.ntmps134
  go_wp2_with fail
  go_ret
  refine ⟨_, rfl, ⟨by simp, fun k hk => ?_⟩, (by (repeat (first | exact New.refl _ | apply New.alloc | apply New.aft | apply New.drew | refine New.setCell ?_ ?_ _)); all_goals (first | done | (simp [size_aft]; done) | (simp [size_aft]; omega)))⟩
  have : k = 0 ∨ k = 1 ∨ k = 2 := by omega
  rcases this with rfl | rfl | rfl
  · exact ⟨⟨by simp [go_sem, tri3], by simp [go_sem, tri3]⟩, by simp [go_sem, tri3], by simp [go_sem, tri3]⟩
  · exact ⟨⟨by simp [go_sem, tri3], by simp [go_sem, tri3]⟩, by simp [go_sem, tri3], by simp [go_sem, tri3]⟩
  · exact ⟨⟨by simp [go_sem, tri3], by simp [go_sem, tri3]⟩, by simp [go_sem, tri3], by simp [go_sem, tri3]⟩
set_option maxHeartbeats 4000000 in
theorem rcheckTris_no (v : Value) (av : Option Addr) (m c : Nat) (E : Int) (w : World) (hE : E ≠ 0) (H : Hid (Calls Tryz.prog 51 #[v] w fun en w' => en = .returned (.tuple #[.slice none 0 0, .int .i64 E]) ∧ New w w')) :
    Calls Tryz.prog 63 #[v, .slice av m c] w fun en w' => en = .returned (.bool false) ∧ New w w' := by
  have q2 : (E != 0) = true := by simpa using hE
  go_enter Tryz.func63, Tryz.ntmps63
  go_wp2_with (go_at_call 51; refine H.out.mono ?_; rintro e w2 ⟨rfl, hn⟩; have HN1 := Lib.hid hn; clear hn)
  go_ret; exact ⟨rfl, HN1.out⟩
set_option maxHeartbeats 4000000 in
theorem rcheckTris_long (v : Value) (av : Option Addr) (m c : Nat) (w : World) (hm : 400 < m) (H : Hid (Calls Tryz.prog 51 #[v] w fun en w' => ∃ r, en = .returned (.tuple #[r, .int .i64 0]) ∧ New w w')) :
    Calls Tryz.prog 63 #[v, .slice av m c] w fun en w' => en = .returned (.bool false) ∧ New w w' := by
  have k1 : (400 : Int) < (m : Int) := by omega
  go_enter Tryz.func63, Tryz.ntmps63
  go_wp2_with (go_at_call 51; refine H.out.mono ?_; rintro e w2 ⟨r, rfl, hn⟩; have HN1 := Lib.hid hn; clear hn)
  go_ret; exact ⟨rfl, HN1.out⟩

end Go.Proofs.YtpdfbboagaflhaaGreat

set_option linter.unusedSimpArgs false
set_option linter.unusedVariables false
set_option maxRecDepth 100000
namespace Go.Proofs.YtpdfbboagaflhaaGreat
open Go.RowKit Go.Maps

set_option maxHeartbeats 16000000 in
theorem rcheckTris_go (b off n c : Nat) (av : Option Addr) (m cT : Nat) (l : List P2) (T : List T6) (w : World) (h0 : 0 < n) (hl : n ≤ 1000) (hw : Pts w b off n l) (hp : polyI l = 0) (hm : m ≤ 400) (hT : T.length = m) (hTw : 0 < m → ∃ tb tf, av = some ⟨tb, tf, none⟩ ∧ Tris w tb tf m T) :
    Calls Tryz.prog 63 #[.slice (some ⟨b, off, none⟩) n c, .slice av m cT] w fun en w' => en = .returned (.bool (T.all triOk && balB (Geo.chE (normL l) T))) ∧ New w w' := by
  obtain ⟨f1, f2, f3, f4, f5, f6, f7, f8⟩ := norm_facts hp
  obtain ⟨s1, _, _, s4, _, _, _⟩ := Geo.norm_self hp
  have HNB := Lib.hid (ref_normal_any b off n c l w hw hp)
  have HLA := Lib.hid (show ∀ (w1 w2 : World) (en : Ending), ListR w1 w2 en (normL l) → ∃ g cap, en = .returned (.tuple #[.slice (some ⟨g, 0, none⟩) (normL l).length cap, .int .i64 0]) ∧ Pts w2 g 0 (normL l).length (normL l) ∧ New w1 w2 from fun w1 w2 en h => by obtain ⟨g, cap, e, _, hp, hn⟩ := listR_at h f6; exact ⟨g, cap, e, hp, hn⟩)
  have HSI := Lib.hid (show ∀ k, k < (normL l).length → ptAt (normL l) k ≠ ptAt (normL l) ((k + 1) % (normL l).length) from fun k hk => Geo.simp_ne s1 (Geo.EE_mem.2 ⟨k, hk, rfl⟩))
  have HOK := Lib.hid s4
  have HTL := Lib.hid hT
  have HTR := Lib.hid (show ∀ k, k < m → ∃ tb tf, av = some ⟨tb, tf, none⟩ ∧ Tris w tb tf m T from fun k hk => hTw (by omega))
  have k1 : ¬ (400 : Int) < (m : Int) := by omega
  have hmm := @run_makeMap Tryz.prog
  clear hw hp hT hTw f1 f2 f3 f4 f7 f8 s1 s4
  generalize normL l = N at *
  go_enter Tryz.func63, Tryz.ntmps63
  go_wp2_with (go_at_call 51; refine HNB.out.mono ?_; rintro en w2 hh; obtain ⟨g, cap, rfl, hpn, hn2⟩ := HLA.out _ _ _ hh; have HPN := Lib.hid hpn; have HN2 := Lib.hid hn2; clear hh hpn hn2)
  go_loopw [8] (fun i wr => ∃ (k : Nat) (D : DataW Unit), k ≤ m ∧ i = .int .i64 k ∧ OR wr w2.heap.size (6 * k) D ∧ SurR D (Geo.trisE (T.take k)) ∧ (∀ j, j < k → triOk (t6 T j) = true) ∧ New w2 wr) (fun i _ => m - (intOf i).toNat)
  case atStart => exact ⟨0, .map [], Nat.zero_le _, rfl, World.ownsMap_made _ _ _ _, by simpa [Geo.trisE] using surR_nil, fun j hj => by omega, (New.refl _).alloc _⟩
  case round =>
    obtain ⟨wx, rfl⟩ : ∃ wx : World, wx = wr := ⟨_, rfl⟩
    obtain ⟨k, D, hk, rfl, ho, hsur, hall, hnw⟩ := hrel
    have HO := Lib.hid ho
    have HSU := Lib.hid hsur
    have HAL := Lib.hid hall
    have HNW := Lib.hid hnw
    clear ho hsur hall hnw
    by_cases hlt : k < m
    · obtain ⟨tb, tf, rfl, htr⟩ := HTR.out k hlt
      have htr2 := htr.new (HN2.out.trans HNW.out)
      obtain ⟨⟨c1, c2⟩, ⟨c3, c4⟩, c5, c6⟩ := htr2.2.2 k hlt
      have htb : tb < wx.heap.size := htr2.2.1
      have hTk : k < T.length := by rw [HTL.out]; exact hlt
      have HTK := Lib.hid (trisE_take T hTk)
      have HTM := Lib.hid (show (Geo.trisE (T.take k)).length ≤ 1200 by rw [trisE_len, List.length_take]; omega)
      have HXI := Lib.hid (triOk_iff (t6 T k))
      have HMEM := Lib.hid (show t6 T k ∈ T by simp [t6, List.getD_eq_getElem?_getD, hTk])
      have HX := Lib.hid (show triOk (t6 T k) = ((if okL (triL (t6 T k)) = true then turnI (t6 T k).1.1 (t6 T k).1.2 (t6 T k).2.1.1 (t6 T k).2.1.2 (t6 T k).2.2.1 (t6 T k).2.2.2 else 0) == 1) from rfl)
      have hBl : w2.heap.size < wx.heap.size := HO.out.lt
      clear htr htr2 hTk
      generalize hx : t6 T k = x at *
      have HXX := Lib.hid hx
      clear hx
      obtain ⟨⟨A1, A2⟩, ⟨B1, B2⟩, C1, C2⟩ := x
      simp only at c1 c2 c3 c4 c5 c6
      have hkn2 : (k : Int) < (m : Int) := by omega
      have HX' := Lib.hid (show triOk ((A1, A2), (B1, B2), (C1, C2)) = ((if okL (triL ((A1, A2), (B1, B2), (C1, C2))) = true then turnI A1 A2 B1 B2 C1 C2 else 0) == 1) from HX.out)
      clear HX
      have HV := Lib.hid (fun (w1 : World) (hp1 : Pts w1 wx.heap.size 0 3 (triL ((A1, A2), (B1, B2), (C1, C2)))) => ref_allValid wx.heap.size 0 3 3 (triL ((A1, A2), (B1, B2), (C1, C2))) w1 (by omega) hp1)
      go_upto_region 8 with fail
      go_cut [9] (fun s9 wz => s9 = .bool (okL (triL ((A1, A2), (B1, B2), (C1, C2)))) ∧ New wx wz)
      case first =>
        generalize okL (triL ((A1, A2), (B1, B2), (C1, C2))) = OKB at *
        go_region_held3 (fun w' => w'.cell? ⟨tb, tf + k * 6, none⟩ = some (.int .i64 A1) ∧ w'.cell? ⟨tb, tf + k * 6 + 1, none⟩ = some (.int .i64 A2) ∧ w'.cell? ⟨tb, tf + k * 6 + 2, none⟩ = some (.int .i64 B1) ∧ w'.cell? ⟨tb, tf + k * 6 + 3, none⟩ = some (.int .i64 B2) ∧ w'.cell? ⟨tb, tf + k * 6 + 4, none⟩ = some (.int .i64 C1) ∧ w'.cell? ⟨tb, tf + k * 6 + 5, none⟩ = some (.int .i64 C2)) (first | exact ⟨c1, c2, c3, c4, c5, c6⟩ | (simp [go_sem, c1, c2, c3, c4, c5, c6, htb]; done) | (go_keep; done)) (first | (go_at_call 104; refine (HV.out _ (ptsT3 (by simp) (by simp [go_sem]) (by simp [go_sem]) (by simp [go_sem]) (by simp [go_sem]) (by simp [go_sem]) (by simp [go_sem]))).mono ?_; rintro e w1 ⟨rfl, pw, rfl⟩))
        all_goals (go_wp2_with fail; go_meet)
        all_goals exact ⟨rfl, (by (repeat (first | exact New.refl _ | apply New.alloc | apply New.aft | apply New.drew | refine New.setCell ?_ ?_ _)); all_goals (first | done | (simp [size_aft]; done) | (simp [size_aft]; omega)))⟩
      case rest =>
        obtain ⟨rfl, hnz⟩ := hcut
        obtain ⟨W3, rfl⟩ : ∃ W3 : World, W3 = wc := ⟨_, rfl⟩
        have HN3 := Lib.hid hnz
        have d1 := (hnz.cell htb).trans c1
        have d2 := (hnz.cell htb).trans c2
        have d3 := (hnz.cell htb).trans c3
        have d4 := (hnz.cell htb).trans c4
        have d5 := (hnz.cell htb).trans c5
        have d6 := (hnz.cell htb).trans c6
        have htb3 : tb < W3.heap.size := Nat.lt_of_lt_of_le htb hnz.size
        clear hnz c1 c2 c3 c4 c5 c6 HV
        cases hOK : okL (triL ((A1, A2), (B1, B2), (C1, C2)))
        · have HR := Lib.hid (show (T.all triOk && balB (Geo.chE N T)) = false by
            have : T.all triOk = false := by
              rw [Bool.eq_false_iff]; intro g
              have h1 := List.all_eq_true.1 g _ HMEM.out
              rw [HX'.out, hOK] at h1
              simp at h1
            rw [this]; rfl)
          clear hOK
          go_upto_region 9 with fail
          refine wp_region_at (by kernel_rfl) (by kernel_rfl) ?_
          repeat (go_big_quiet_step (fail))
          refine wpQuiet_nil ?_
          rintro _ ⟨pq, rfl⟩
          go_wp2_with fail
          go_ret
          exact ⟨ret_bool HR.out.symm, HN2.out.trans (HNW.out.trans (HN3.out.aft _ _))⟩
        · have b0 := okL_bd hOK 0
          have b1 := okL_bd hOK 1
          have b2 := okL_bd hOK 2
          have e0 : px (triL ((A1, A2), (B1, B2), (C1, C2))) 0 = A1 ∧ py (triL ((A1, A2), (B1, B2), (C1, C2))) 0 = A2 ∧ px (triL ((A1, A2), (B1, B2), (C1, C2))) 1 = B1 ∧ py (triL ((A1, A2), (B1, B2), (C1, C2))) 1 = B2 ∧ px (triL ((A1, A2), (B1, B2), (C1, C2))) 2 = C1 ∧ py (triL ((A1, A2), (B1, B2), (C1, C2))) 2 = C2 := ⟨rfl, rfl, rfl, rfl, rfl, rfl⟩
          rw [e0.1, e0.2.1] at b0
          rw [e0.2.2.1, e0.2.2.2.1] at b1
          rw [e0.2.2.2.2.1, e0.2.2.2.2.2] at b2
          have HT := Lib.hid (fun w1 => ref_turn A1 A2 B1 B2 C1 C2 w1 (by omega) (by omega) (by omega) (by omega) (by omega) (by omega))
          have HX2 := Lib.hid (show triOk ((A1, A2), (B1, B2), (C1, C2)) = (turnI A1 A2 B1 B2 C1 C2 == 1) by rw [HX'.out, hOK]; rfl)
          have HOKX := Lib.hid hOK
          clear hOK e0 b0 b1 b2 HX'
          generalize turnI A1 A2 B1 B2 C1 C2 = TV at *
          by_cases htv : TV = 1
          · have q1 : (TV != 1) = false := by simp [htv]
            have HTO := Lib.hid (show triOk ((A1, A2), (B1, B2), (C1, C2)) = true by rw [HX2.out, htv]; rfl)
            have HPO := Lib.hid (HXI.out.1 HTO.out).2
            clear htv
            go_upto_region 9 with fail
            refine wp_region_at (by kernel_rfl) (by kernel_rfl) ?_
            repeat (go_big_quiet_step (first | (go_at_call 87; with_reducible exact calls_new (HT.out _))))
            refine wpQuiet_nil ?_
            rintro W4 hq4
            have HN4 := Lib.hid (show New W3 W4 from hq4)
            replace d1 := (HN4.out.cell htb3).trans d1
            replace d2 := (HN4.out.cell htb3).trans d2
            replace d3 := (HN4.out.cell htb3).trans d3
            replace d4 := (HN4.out.cell htb3).trans d4
            replace d5 := (HN4.out.cell htb3).trans d5
            replace d6 := (HN4.out.cell htb3).trans d6
            have htb4 : tb < W4.heap.size := Nat.lt_of_lt_of_le htb3 HN4.out.size
            clear hq4
            have HSD := Lib.hid (fun w1 => ref_sides A1 A2 B1 B2 C1 C2 w1)
            go_wp2_with (go_at_call 134; go_must (refine (HSD.out _).mono ?_; rintro en w5 ⟨gs, rfl, hsd, hn5⟩; have HS5 := Lib.hid hsd; have HN5 := Lib.hid hn5; clear hsd hn5))
            clear d1 d2 d3 d4 d5 d6
            have HNA := Lib.hid (show New w2 w5 from HNW.out.trans (HN3.out.trans (HN4.out.trans HN5.out)))
            have HOA := Lib.hid (HO.out.kept (new_gb (HN3.out.trans (HN4.out.trans HN5.out))) (by simp))
            go_loopg [11] 3 (fun gk s11 wy => ∃ (j : Nat) (D' : DataW Unit), j + gk = 3 ∧ s11 = .int .i64 j ∧ OR wy w2.heap.size (6 * k + 2 * j) D' ∧ SurR D' (Geo.trisE (T.take k) ++ (Geo.triE ((A1, A2), (B1, B2), (C1, C2))).take j) ∧ SdAt wy gs (tri3 ((A1, A2), (B1, B2), (C1, C2))) ∧ New w2 wy)
            case atStart => exact ⟨0, D, rfl, rfl, HOA.out, by simpa using HSU.out, HS5.out, HNA.out⟩
            case round =>
              obtain ⟨wy, rfl⟩ : ∃ wy : World, wy = wr := ⟨_, rfl⟩
              obtain ⟨j, D', hj, rfl, ho, hsu, hsd, hny⟩ := hrel
              have HOY := Lib.hid ho
              have HSY := Lib.hid hsu
              have HDY := Lib.hid hsd
              have HNY := Lib.hid hny
              clear ho hsu hsd hny
              cases gk with
              | zero =>
                obtain rfl : j = 3 := by omega
                clear hj
                go_wp2_with fail
                go_roundw
                case rel => exact ⟨k + 1, D', by omega, by go_num, by rw [show 6 * (k + 1) = 6 * k + 2 * 3 by omega]; exact HOY.out, by rw [HTK.out]; exact HSY.out, fun i hi => (by
                  by_cases e : i = k
                  · subst e; rw [HXX.out]; exact HTO.out
                  · exact HAL.out i (by omega)), HNY.out⟩
                case measure => simp [intOf]; omega
              | succ gl =>
                have hj3 : j < 3 := by omega
                have HJ := Lib.hid hj
                have HTJ := Lib.hid (triE_take ((A1, A2), (B1, B2), (C1, C2)) j hj3)
                obtain ⟨⟨s1, s2⟩, s3, s4⟩ := HDY.out.2 j hj3
                have hgs : gs < wy.heap.size := HDY.out.1
                have hgB : gs ≠ w2.heap.size := by rintro rfl; rw [mapOwn_cell HOY.out] at s1; cases s1
                have HEK := Lib.hid (show okE (tri3 ((A1, A2), (B1, B2), (C1, C2)) j) from tri_okE HOKX.out _ (by
                  have : j = 0 ∨ j = 1 ∨ j = 2 := by omega
                  rcases this with rfl | rfl | rfl <;> simp [tri3, Geo.triE]))
                have HEN := Lib.hid (show (tri3 ((A1, A2), (B1, B2), (C1, C2)) j).1 ≠ (tri3 ((A1, A2), (B1, B2), (C1, C2)) j).2 from by
                  have h3 := tri_ne (x := ((A1, A2), (B1, B2), (C1, C2))) HPO.out j hj3
                  have : j = 0 ∨ j = 1 ∨ j = 2 := by omega
                  rcases this with rfl | rfl | rfl <;> exact h3)
                have hjz : (j : Int) < 3 := by omega
                have HLE := Lib.hid (show (Geo.trisE (T.take k) ++ (Geo.triE ((A1, A2), (B1, B2), (C1, C2))).take j).length ≤ 1203 by rw [List.length_append, List.length_take]; have := HTM.out; omega)
                have HEE := Lib.hid (show Geo.trisE (T.take k) ++ (Geo.triE ((A1, A2), (B1, B2), (C1, C2))).take (j + 1) = (Geo.trisE (T.take k) ++ (Geo.triE ((A1, A2), (B1, B2), (C1, C2))).take j) ++ [tri3 ((A1, A2), (B1, B2), (C1, C2)) j] by rw [HTJ.out, List.append_assoc])
                clear hj HTJ
                generalize hE : Geo.trisE (T.take k) ++ (Geo.triE ((A1, A2), (B1, B2), (C1, C2))).take j = EJ at *
                clear hE
                generalize hV : tri3 ((A1, A2), (B1, B2), (C1, C2)) j = V at *
                clear hV
                obtain ⟨⟨E1, E2⟩, E3, E4⟩ := V
                simp only at s1 s2 s3 s4
                obtain ⟨va, vb⟩ := val_two (E := EJ) (x := ((E1, E2), (E3, E4))) HEN.out
                have tw := surR_two HSY.out (HOY.out.tidy keyed129).isMap HEK.out HEN.out (a := ((E1, E2), (E3, E4))) (.inl rfl)
                rw [va] at tw
                have vb1 := valE_bd EJ ((E1, E2), (E3, E4))
                have vb2 := valE_bd EJ (((E1, E2), (E3, E4)) : W2).swap
                rw [vb] at tw
                obtain ⟨cc, r1, hat, hwc⟩ := (HOY.out.drew).lookup_int keyed129 Tryz.underlying125 Tryz.underlying3 (zero3 _) (keyOf_129 HEK.out)
                have hc : cc = Geo.valE EJ ((E1, E2), (E3, E4)) := by
                  have h1 := HSY.out.1 _ HEK.out
                  rw [show i64d 0 = .lit (.int .i64 0) from rfl, hat] at h1; simpa [i64d] using h1
                have hle := HLE.out
                have c1 : -2000 ≤ cc := by omega
                have c2 : cc ≤ 2000 := by omega
                obtain ⟨X, r2, hoX, gX⟩ := (HOY.out.drew).update keyed129 Tryz.underlying125 (by unfold maxLen; omega) (keyOf_129 HEK.out) (plainElem_int (H := Unit) Tryz.underlying3 (show (Lit.int .i64 (cc + 1)).wf = true from WalkArith.wf_i64 (by omega)))
                rw [← hc] at tw
                have HTW := Lib.hid tw
                have HVB := Lib.hid (And.intro vb2 hle)
                have HOX := Lib.hid hoX
                have HGX := Lib.hid (show wy.grownBy X (some w2.heap.size) from ((new_gb ((New.refl wy).drew)).but _).trans gX)
                have HDX := Lib.hid (HDY.out.gb HGX.out hgB)
                simp only [sdV] at r1 r2
                clear tw vb1 vb2 va vb hc hle hat hwc hoX gX
                go_upto_region 15 with fail
                go_region
                have x1 := (HGX.out.cell_far ⟨gs, j * 4, none⟩ hgs (by simpa using hgB)).trans s1
                have x2 := (HGX.out.cell_far ⟨gs, j * 4 + 1, none⟩ hgs (by simpa using hgB)).trans s2
                have x3 := (HGX.out.cell_far ⟨gs, j * 4 + 2, none⟩ hgs (by simpa using hgB)).trans s3
                have x4 := (HGX.out.cell_far ⟨gs, j * 4 + 3, none⟩ hgs (by simpa using hgB)).trans s4
                have hgX : gs < X.heap.size := Nat.lt_of_lt_of_le hgs HGX.out.size
                clear s1 s2 s3 s4 r1 r2
                go_upto_region 16 with fail
                go_cut [12] (fun s12 wz => (∃ p : Nat, s12 = .pointer (some ⟨p, 0, none⟩) ∧ (wz.cell? ⟨p, 0, none⟩ = some (.int .i64 E3) ∧ wz.cell? ⟨p, 1, none⟩ = some (.int .i64 E4)) ∧ (wz.cell? ⟨p, 2, none⟩ = some (.int .i64 E1) ∧ wz.cell? ⟨p, 3, none⟩ = some (.int .i64 E2))) ∧ New X wz)
                case first =>
                  go_region
                  all_goals (go_wp2_with fail; go_meet)
                  all_goals exact ⟨⟨_, rfl, ⟨by simp [go_sem], by simp [go_sem]⟩, by simp [go_sem], by simp [go_sem]⟩, (by (repeat (first | exact New.refl _ | apply New.alloc | apply New.aft | apply New.drew | refine New.setCell ?_ ?_ _)); all_goals (first | done | (simp [size_aft]; done) | (simp [size_aft]; omega)))⟩
                case rest =>
                  obtain ⟨⟨pp, rfl, ⟨z1, z2⟩, z3, z4⟩, hnz⟩ := hcut
                  obtain ⟨Z, rfl⟩ : ∃ Z : World, Z = wc := ⟨_, rfl⟩
                  have HNZ := Lib.hid hnz
                  have HOZ := Lib.hid (HOX.out.kept (new_gb hnz) (by simp))
                  clear hnz x1 x2 x3 x4
                  have hks := keyOf_129 (okE_swap HEK.out)
                  obtain ⟨dd, r3, hat, hwc⟩ := (HOZ.out.drew).lookup_int keyed129 Tryz.underlying125 Tryz.underlying3 (zero3 _) hks
                  have hd : dd = Geo.valE EJ (((E1, E2), (E3, E4)) : W2).swap := by
                    have h1 := HTW.out.1
                    rw [show i64d 0 = .lit (.int .i64 0) from rfl] at h1
                    have h2 := hat
                    unfold i64d at h1
                    rw [h1] at h2; simpa using h2.symm
                  have vb := HVB.out
                  have d1 : -2000 ≤ dd := by omega
                  have d2 : dd ≤ 2000 := by omega
                  obtain ⟨Y, r4, hoY, gY⟩ := (HOZ.out.drew).update keyed129 Tryz.underlying125 (by unfold maxLen; omega) hks (plainElem_int (H := Unit) Tryz.underlying3 (show (Lit.int .i64 (dd - 1)).wf = true from WalkArith.wf_i64 (by omega)))
                  have hsn := HTW.out.2
                  rw [← hd] at hsn
                  have HSN := Lib.hid hsn
                  have HOW := Lib.hid hoY
                  have HGY := Lib.hid (show Z.grownBy Y (some w2.heap.size) from ((new_gb ((New.refl Z).drew)).but _).trans gY)
                  simp only [sdV, Prod.fst_swap, Prod.snd_swap] at r3 r4
                  clear hks hat hwc hd vb hoY gY hsn
                  go_upto_region 17 with fail
                  go_region
                  all_goals (go_wp2_with fail; go_roundg gl)
                  case rel => exact ⟨j + 1, _, by have := HJ.out; omega, by go_num, by rw [show 6 * k + 2 * (j + 1) = 6 * k + 2 * j + 1 + 1 by omega]; exact HOW.out, by rw [HEE.out]; exact HSN.out, (HDX.out.new HNZ.out).gb HGY.out hgB, new_of_gb ((new_of_gb HNY.out HGX.out (Nat.le_refl _)).trans HNZ.out) HGY.out (Nat.le_refl _)⟩
                  case measure => omega
          · have q1 : (TV != 1) = true := by simp [htv]
            have HR := Lib.hid (show (T.all triOk && balB (Geo.chE N T)) = false by
              have : T.all triOk = false := by
                rw [Bool.eq_false_iff]; intro g
                have h1 := List.all_eq_true.1 g _ HMEM.out
                rw [HX2.out] at h1
                exact htv (by simpa using h1)
              rw [this]; rfl)
            clear htv
            go_upto_region 9 with fail
            refine wp_region_at (by kernel_rfl) (by kernel_rfl) ?_
            repeat (go_big_quiet_step (first | (go_at_call 87; with_reducible exact calls_new (HT.out _))))
            refine wpQuiet_nil ?_
            rintro _ ⟨pq, rfl⟩
            go_wp2_with fail
            go_ret
            exact ⟨ret_bool HR.out.symm, HN2.out.trans (HNW.out.trans (HN3.out.aft _ _))⟩
    · obtain rfl : k = m := by omega
      have hkn : ¬ ((k : Int) < (k : Int)) := by omega
      have HALL := Lib.hid (show T.all triOk = true by
        rw [List.all_eq_true]; intro x hx
        obtain ⟨i, hi, rfl⟩ := List.getElem_of_mem hx
        have := HAL.out i (by rw [← HTL.out]; exact hi)
        rwa [show t6 T i = T[i] by simp [t6, List.getD_eq_getElem?_getD, hi]] at this)
      have HSU' := Lib.hid (show SurR D (Geo.trisE T) by have := HSU.out; rwa [List.take_of_length_le (by rw [HTL.out]; exact Nat.le_refl _)] at this)
      have HTM := Lib.hid (show (Geo.trisE T).length ≤ 1200 by rw [trisE_len]; have := HTL.out; omega)
      have HNG := Lib.hid (sgTo_neg N)
      have HEOK := Lib.hid (show ∀ e ∈ Geo.chE N T, okE e from chE_okE HOK.out fun x hx => ((triOk_iff x).1 (List.all_eq_true.1 HALL.out x hx)).1)
      have HNB2 := Lib.hid (okL_bd HOK.out)
      go_wp2_with fail
      go_loopw [13] (fun i wy => ∃ (j : Nat) (D' : DataW Unit), j ≤ N.length ∧ i = .int .i64 j ∧ OR wy w2.heap.size (6 * k + 2 * j) D' ∧ SurR D' (Geo.trisE T ++ sgTo (-1) N j) ∧ New w2 wy) (fun i _ => N.length - (intOf i).toNat)
      case atStart => exact ⟨0, D, Nat.zero_le _, rfl, HO.out, by simpa [sgTo] using HSU'.out, HNW.out⟩
      case round =>
        obtain ⟨wy, rfl⟩ : ∃ wy : World, wy = wr := ⟨_, rfl⟩
        obtain ⟨j, D', hj, rfl, ho, hsu, hny⟩ := hrel
        have HOY := Lib.hid ho
        have HSY := Lib.hid hsu
        have HNY := Lib.hid hny
        clear ho hsu hny
        by_cases hjn : j < N.length
        · have HED := Lib.hid (ref_edge g 0 N.length cap j N wy hjn (by omega) (HPN.out.new HNY.out))
          have HEE := Lib.hid (show Geo.trisE T ++ sgTo (-1) N (j + 1) = (Geo.trisE T ++ sgTo (-1) N j) ++ [(((px N j, py N j), (px N ((j + 1) % N.length), py N ((j + 1) % N.length))) : W2).swap] by rw [sgTo_succ, ← List.append_assoc]; rfl)
          have HEK := Lib.hid (show okE ((px N j, py N j), (px N ((j + 1) % N.length), py N ((j + 1) % N.length))) from ⟨okP_iff.2 (HNB2.out j), okP_iff.2 (HNB2.out _)⟩)
          have HEN := Lib.hid (show ((px N j, py N j) : P2) ≠ (px N ((j + 1) % N.length), py N ((j + 1) % N.length)) from HSI.out j hjn)
          have HLE := Lib.hid (show (Geo.trisE T ++ sgTo (-1) N j).length ≤ 1600 by rw [List.length_append, sgTo_len]; have := HTM.out; omega)
          have hBy : w2.heap.size < wy.heap.size := HOY.out.lt
          have hjz : (j : Int) < (N.length : Int) := by omega
          generalize hE : Geo.trisE T ++ sgTo (-1) N j = EJ at *
          clear hE
          generalize px N j = E1 at *
          generalize py N j = E2 at *
          generalize px N ((j + 1) % N.length) = E3 at *
          generalize py N ((j + 1) % N.length) = E4 at *
          go_upto_region 24 with (go_at_call 110; go_must (refine HED.out.mono ?_; rintro en w5 ⟨rfl, hn5⟩; have HN5 := Lib.hid hn5; clear hn5))
          have HN6 := Lib.hid (show New wy (((w5.alloc (.cells #[.int .i64 E1, .int .i64 E2, .int .i64 E3, .int .i64 E4] 30)).alloc (.cells #[.int .i64 E1, .int .i64 E2, .int .i64 E3, .int .i64 E4] 129)).alloc (.cells #[.int .i64 E3, .int .i64 E4, .int .i64 E1, .int .i64 E2] 129)) from ((HN5.out.alloc _).alloc _).alloc _)
          have y1 : (((w5.alloc (.cells #[.int .i64 E1, .int .i64 E2, .int .i64 E3, .int .i64 E4] 30)).alloc (.cells #[.int .i64 E1, .int .i64 E2, .int .i64 E3, .int .i64 E4] 129)).alloc (.cells #[.int .i64 E3, .int .i64 E4, .int .i64 E1, .int .i64 E2] 129)).cell? ⟨w5.heap.size + 1, 0, none⟩ = some (.int .i64 E1) := by simp [go_sem]
          have y2 : (((w5.alloc (.cells #[.int .i64 E1, .int .i64 E2, .int .i64 E3, .int .i64 E4] 30)).alloc (.cells #[.int .i64 E1, .int .i64 E2, .int .i64 E3, .int .i64 E4] 129)).alloc (.cells #[.int .i64 E3, .int .i64 E4, .int .i64 E1, .int .i64 E2] 129)).cell? ⟨w5.heap.size + 1, 1, none⟩ = some (.int .i64 E2) := by simp [go_sem]
          have y3 : (((w5.alloc (.cells #[.int .i64 E1, .int .i64 E2, .int .i64 E3, .int .i64 E4] 30)).alloc (.cells #[.int .i64 E1, .int .i64 E2, .int .i64 E3, .int .i64 E4] 129)).alloc (.cells #[.int .i64 E3, .int .i64 E4, .int .i64 E1, .int .i64 E2] 129)).cell? ⟨w5.heap.size + 1, 2, none⟩ = some (.int .i64 E3) := by simp [go_sem]
          have y4 : (((w5.alloc (.cells #[.int .i64 E1, .int .i64 E2, .int .i64 E3, .int .i64 E4] 30)).alloc (.cells #[.int .i64 E1, .int .i64 E2, .int .i64 E3, .int .i64 E4] 129)).alloc (.cells #[.int .i64 E3, .int .i64 E4, .int .i64 E1, .int .i64 E2] 129)).cell? ⟨w5.heap.size + 1, 3, none⟩ = some (.int .i64 E4) := by simp [go_sem]
          have u1 : (((w5.alloc (.cells #[.int .i64 E1, .int .i64 E2, .int .i64 E3, .int .i64 E4] 30)).alloc (.cells #[.int .i64 E1, .int .i64 E2, .int .i64 E3, .int .i64 E4] 129)).alloc (.cells #[.int .i64 E3, .int .i64 E4, .int .i64 E1, .int .i64 E2] 129)).cell? ⟨w5.heap.size + 2, 0, none⟩ = some (.int .i64 E3) := by simp [go_sem]
          have u2 : (((w5.alloc (.cells #[.int .i64 E1, .int .i64 E2, .int .i64 E3, .int .i64 E4] 30)).alloc (.cells #[.int .i64 E1, .int .i64 E2, .int .i64 E3, .int .i64 E4] 129)).alloc (.cells #[.int .i64 E3, .int .i64 E4, .int .i64 E1, .int .i64 E2] 129)).cell? ⟨w5.heap.size + 2, 1, none⟩ = some (.int .i64 E4) := by simp [go_sem]
          have u3 : (((w5.alloc (.cells #[.int .i64 E1, .int .i64 E2, .int .i64 E3, .int .i64 E4] 30)).alloc (.cells #[.int .i64 E1, .int .i64 E2, .int .i64 E3, .int .i64 E4] 129)).alloc (.cells #[.int .i64 E3, .int .i64 E4, .int .i64 E1, .int .i64 E2] 129)).cell? ⟨w5.heap.size + 2, 2, none⟩ = some (.int .i64 E1) := by simp [go_sem]
          have u4 : (((w5.alloc (.cells #[.int .i64 E1, .int .i64 E2, .int .i64 E3, .int .i64 E4] 30)).alloc (.cells #[.int .i64 E1, .int .i64 E2, .int .i64 E3, .int .i64 E4] 129)).alloc (.cells #[.int .i64 E3, .int .i64 E4, .int .i64 E1, .int .i64 E2] 129)).cell? ⟨w5.heap.size + 2, 3, none⟩ = some (.int .i64 E2) := by simp [go_sem]
          generalize ((w5.alloc (.cells #[.int .i64 E1, .int .i64 E2, .int .i64 E3, .int .i64 E4] 30)).alloc (.cells #[.int .i64 E1, .int .i64 E2, .int .i64 E3, .int .i64 E4] 129)).alloc (.cells #[.int .i64 E3, .int .i64 E4, .int .i64 E1, .int .i64 E2] 129) = W6 at *
          have HO6 := Lib.hid (HOY.out.kept (new_gb HN6.out) (by simp))
          have hB5 : w2.heap.size < w5.heap.size := Nat.lt_of_lt_of_le hBy HN5.out.size
          have l6 := cell_lt u1
          -- the program's order: first the way, one less, then turned round, one more
          have hxn : ((((E1, E2), (E3, E4)) : W2).swap).1 ≠ ((((E1, E2), (E3, E4)) : W2).swap).2 := fun e => HEN.out e.symm
          obtain ⟨va, vb⟩ := val_two (E := EJ) (x := (((E1, E2), (E3, E4)) : W2).swap) hxn
          rw [Prod.swap_swap] at vb
          have tw := surR_two HSY.out (HOY.out.tidy keyed129).isMap (okE_swap HEK.out) hxn (a := ((E1, E2), (E3, E4))) (.inr (Prod.swap_swap _).symm)
          rw [va, vb] at tw
          have vb1 := valE_bd EJ ((E1, E2), (E3, E4))
          have vb2 := valE_bd EJ (((E1, E2), (E3, E4)) : W2).swap
          obtain ⟨cc, r1, hat, hwc⟩ := (HO6.out.drew).lookup_int keyed129 Tryz.underlying125 Tryz.underlying3 (zero3 _) (keyOf_129 HEK.out)
          have hc : cc = Geo.valE EJ ((E1, E2), (E3, E4)) := by
            have h1 := HSY.out.1 _ HEK.out
            rw [show i64d 0 = .lit (.int .i64 0) from rfl, hat] at h1; simpa [i64d] using h1
          have hle := HLE.out
          have c1 : -2000 ≤ cc := by omega
          have c2 : cc ≤ 2000 := by omega
          obtain ⟨X, r2, hoX, gX⟩ := (HO6.out.drew).update keyed129 Tryz.underlying125 (by unfold maxLen; omega) (keyOf_129 HEK.out) (plainElem_int (H := Unit) Tryz.underlying3 (show (Lit.int .i64 (cc - 1)).wf = true from WalkArith.wf_i64 (by omega)))
          rw [← hc] at tw
          have HTW := Lib.hid tw
          have HVB := Lib.hid (And.intro vb2 hle)
          have HOX := Lib.hid hoX
          have HGX := Lib.hid (show W6.grownBy X (some w2.heap.size) from ((new_gb ((New.refl W6).drew)).but _).trans gX)
          simp only [sdV] at r1 r2
          clear tw vb1 vb2 va vb hc hle hat hwc hoX gX hxn
          go_region
          have x1 := (HGX.out.cell_far ⟨w5.heap.size + 2, 0, none⟩ l6 (by simp; omega)).trans u1
          have x2 := (HGX.out.cell_far ⟨w5.heap.size + 2, 1, none⟩ l6 (by simp; omega)).trans u2
          have x3 := (HGX.out.cell_far ⟨w5.heap.size + 2, 2, none⟩ l6 (by simp; omega)).trans u3
          have x4 := (HGX.out.cell_far ⟨w5.heap.size + 2, 3, none⟩ l6 (by simp; omega)).trans u4
          clear u1 u2 u3 u4 y1 y2 y3 y4 r1 r2
          have hks := keyOf_129 (okE_swap HEK.out)
          obtain ⟨dd, r3, hat, hwc⟩ := (HOX.out.drew).lookup_int keyed129 Tryz.underlying125 Tryz.underlying3 (zero3 _) hks
          have hd : dd = Geo.valE EJ (((E1, E2), (E3, E4)) : W2).swap := by
            have h1 := HTW.out.1
            rw [show i64d 0 = .lit (.int .i64 0) from rfl] at h1
            have h2 := hat
            unfold i64d at h1
            rw [h1] at h2; simpa using h2.symm
          have vb := HVB.out
          have d1 : -2000 ≤ dd := by omega
          have d2 : dd ≤ 2000 := by omega
          obtain ⟨Y, r4, hoY, gY⟩ := (HOX.out.drew).update keyed129 Tryz.underlying125 (by unfold maxLen; omega) hks (plainElem_int (H := Unit) Tryz.underlying3 (show (Lit.int .i64 (dd + 1)).wf = true from WalkArith.wf_i64 (by omega)))
          have hsn := HTW.out.2
          rw [← hd] at hsn
          have HSN := Lib.hid hsn
          have HOW := Lib.hid hoY
          have HGY := Lib.hid (show X.grownBy Y (some w2.heap.size) from ((new_gb ((New.refl X).drew)).but _).trans gY)
          simp only [sdV, Prod.fst_swap, Prod.snd_swap] at r3 r4
          clear hks hat hwc hd vb hoY gY hsn
          go_upto_region 25 with fail
          go_region
          all_goals (go_wp2_with fail; go_roundw)
          case rel => exact ⟨j + 1, _, by omega, by go_num, by rw [show 6 * k + 2 * (j + 1) = 6 * k + 2 * j + 1 + 1 by omega]; exact HOW.out, by rw [HEE.out]; exact HSN.out, new_of_gb (new_of_gb (HNY.out.trans HN6.out) HGX.out (Nat.le_refl _)) HGY.out (Nat.le_refl _)⟩
          case measure => simp [intOf]; omega
        · obtain rfl : j = N.length := by omega
          have hjz : ¬ ((N.length : Int) < (N.length : Int)) := by omega
          have HS5 := Lib.hid (show SurR D' (Geo.chE N T) by have := HSY.out; rw [HNG.out] at this; exact this)
          go_wp2_with (at_range; refine wpList_range_own _ rfl _ 125 rfl 129 3 keyed129 Tryz.underlying125 _ w2.heap.size (6 * k + 2 * N.length) _ rfl HOY.out ?_; intro w6 hrg6 hg6 hs6)
          try go_frame
          have HRG6 := Lib.hid hrg6
          have HN6 := Lib.hid (show New w2 w6 from HNY.out.trans (.of_below ⟨hg6.os, hg6.tape, hg6.output, hg6.size, fun i hi => hg6.block i hi (by simp)⟩))
          clear hrg6 hg6
          have HR7 := Lib.hid (show w2.heap.size ≤ wy.heap.size from HNY.out.size)
          generalize hr6 : wy.heap.size = R at *
          clear hr6
          go_loopw [18] (fun _ wx => ∃ (left : Lit → Bool) (cnt : Nat), wx.ranges Tryz.prog 129 (plainElem (H := Unit) Tryz.prog 3) w2.heap.size R (6 * k + 2 * N.length) D' left cnt ∧ (∀ kl, Maps.has D' kl = true → left kl = false → D'.atKey kl (i64d 0) = i64d 0) ∧ New w2 wx) (fun _ wx => wx.rangeLeft w2.heap.size R)
          case atStart => exact ⟨_, _, HRG6.out, fun kl h1 h2 => (by rw [h1] at h2; cases h2), HN6.out⟩
          case round =>
            obtain ⟨left, cnt, hrg, hz, hnx⟩ := hrel
            have HZ := Lib.hid hz
            have HNX := Lib.hid hnx
            clear hz hnx
            go_wp2_with (first | (at_next; refine wpList_next_ranges _ rfl _ rfl 129 keyed129 _ (fun v : Value => v) (Value.int .i64) (fun key kl _ => ⟨key, rfl⟩) (fun v y hv => by obtain ⟨c, rfl, _⟩ := plainElem_int_inv Tryz.underlying3 hv; exact ⟨c, rfl⟩) w2.heap.size R (6 * k + 2 * N.length) D' left cnt rfl hrg ?_ ?_) | go_in)
            · intro _ hl0
              have HBB := Lib.hid (show (T.all triOk && balB (Geo.chE N T)) = true by
                rw [HALL.out, Bool.true_and, balB_iff, surR_bal HS5.out HEOK.out]
                exact fun kl hkl => HZ.out kl hkl (hl0 kl))
              go_wp2_with fail
              go_ret
              exact ⟨ret_bool HBB.out.symm, HN2.out.trans HNX.out⟩
            · intro x cc kl y y2 w7 cnt1 hkey hlk hR hat hrg1 hlt1 hg1 hs1 hen
              have HN7 := Lib.hid (show New w2 w7 from HNX.out.trans' hg1 HR7.out)
              have HH := Lib.hid (show Maps.has D' kl = true from has_true_of_atKey hat)
              have HAT := Lib.hid (show ∀ zd, D'.atKey kl zd = .lit (.int .i64 cc) from fun zd => by rw [hat zd]; obtain ⟨c', e1, e2, _⟩ := plainElem_int_inv Tryz.underlying3 hR; cases e1; exact congrArg Prod.fst e2)
              clear hat hR hkey
              by_cases hc0 : cc = 0
              · subst hc0
                have q1 : ((0 : Int) != 0) = false := by decide
                go_wp2_with fail
                go_roundw
                case rel => exact ⟨_, cnt1, hrg1, fun kl' h1 h2 => (by
                  by_cases e : kl' = kl
                  · subst e; exact HAT.out _
                  · refine HZ.out kl' h1 ?_
                    rw [sameKey_ne e] at h2
                    simpa using h2), HN7.out⟩
                case measure => rw [hrg1.left_eq, hrg.left_eq]; exact hlt1
              · have q1 : (cc != 0) = true := by simpa using hc0
                have HBB := Lib.hid (show (T.all triOk && balB (Geo.chE N T)) = false by
                  have : balB (Geo.chE N T) = false := by
                    rw [Bool.eq_false_iff]; intro g
                    rw [balB_iff, surR_bal HS5.out HEOK.out] at g
                    have := g kl HH.out
                    rw [HAT.out] at this
                    exact hc0 (by simpa [i64d] using this)
                  rw [this, Bool.and_false])
                clear hc0
                go_wp2_with fail
                go_ret
                exact ⟨ret_bool HBB.out.symm, HN2.out.trans HN7.out⟩
end Go.Proofs.YtpdfbboagaflhaaGreat

set_option linter.unusedSimpArgs false
set_option linter.unusedVariables false
set_option maxRecDepth 100000
namespace Go.Proofs.YtpdfbboagaflhaaGreat
open Go.RowKit

theorem rcheckTris_all (w : World) (av : Option Addr) (n c : Nat) (l : List P2) (hl : l.length = n) (hn : n ≤ 1000) (hp : 0 < n → ∃ b off, av = some ⟨b, off, none⟩ ∧ Pts w b off n l)
    (av2 : Option Addr) (m c2 : Nat) (T : List T6) (hT : T.length = m) (hTp : 0 < m → ∃ b off, av2 = some ⟨b, off, none⟩ ∧ Tris w b off m T) :
    Calls Tryz.prog 63 #[.slice av n c, .slice av2 m c2] w fun en w' => en = .returned (.bool (ckT l T)) ∧ New w w' := by
  by_cases h0 : 0 < n
  · obtain ⟨b, off, rfl, hw⟩ := hp h0
    by_cases hpo : polyI l = 0
    · by_cases hm : m ≤ 400
      · have e : ckT l T = (T.all triOk && balB (Geo.chE (normL l) T)) := by unfold ckT; rw [decide_eq_true hpo, decide_eq_true (show T.length ≤ 400 by omega)]; rfl
        rw [e]
        exact rcheckTris_go b off n c av2 m c2 l T w h0 hn hw hpo hm hT hTp
      · have e : ckT l T = false := by unfold ckT; rw [decide_eq_false (show ¬ T.length ≤ 400 by omega)]; simp
        rw [e]
        exact rcheckTris_long _ av2 m c2 w (by omega) (Lib.hid ((ref_normal_any b off n c l w hw hpo).mono (by rintro en w' ⟨v, e, _, hn⟩; exact ⟨v, e, hn⟩)))
    · have e : ckT l T = false := by unfold ckT; rw [decide_eq_false hpo]; rfl
      rw [e]
      exact rcheckTris_no _ av2 m c2 (polyI l) w hpo (Lib.hid (ref_normal_no b off n c l w h0 (by omega) hw hpo))
  · obtain rfl : n = 0 := by omega
    have hl0 : l = [] := List.eq_nil_of_length_eq_zero hl
    subst hl0
    have e : ckT [] T = false := by unfold ckT; rw [decide_eq_false (by decide)]; rfl
    rw [e]
    exact rcheckTris_no _ av2 m c2 1 w (by decide) (Lib.hid (ref_normal_nil av c w))

set_option maxHeartbeats 4000000 in
theorem planeChecks_all (w : World) (av : Option Addr) (n c : Nat) (l : List P2) (hl : l.length = n) (hp : 0 < n → ∃ b off, av = some ⟨b, off, none⟩ ∧ Pts w b off n l)
    (av2 : Option Addr) (m c2 : Nat) (T : List T6) (hT : T.length = m) (hTp : 0 < m → ∃ b off, av2 = some ⟨b, off, none⟩ ∧ Tris w b off m T) :
    Calls Tryz.prog 14 #[.slice av n c, .slice av2 m c2] w fun e w' => e = .returned (.bool true) ∧ New w w' := by
  have HL := Lib.hid alive_c
  by_cases h1 : 30 < n
  · have k1 : (30 : Int) < (n : Int) := by omega
    clear hp hTp
    go_enter Tryz.func14, Tryz.ntmps14
    go_wp2_with (go_at_call 31; refine (HL.out _).mono ?_; rintro e w2 ⟨rfl, hn⟩; have HN1 := Lib.hid hn; clear hn)
    go_ret; exact ⟨rfl, HN1.out⟩
  · by_cases h2 : 500 < m
    · have k1 : ¬ (30 : Int) < (n : Int) := by omega
      have k2 : (500 : Int) < (m : Int) := by omega
      clear hp hTp
      go_enter Tryz.func14, Tryz.ntmps14
      go_wp2_with (go_at_call 31; refine (HL.out _).mono ?_; rintro e w2 ⟨rfl, hn⟩; have HN1 := Lib.hid hn; clear hn)
      go_ret; exact ⟨rfl, HN1.out⟩
    · have k1 : ¬ (30 : Int) < (n : Int) := by omega
      have k2 : ¬ (500 : Int) < (m : Int) := by omega
      have HA := Lib.hid (fun (w1 : World) (h1 : New w w1) => checkTris_all w1 av n c l hl (by omega) (fun h0 => by obtain ⟨b, off, e, hw⟩ := hp h0; exact ⟨b, off, e, hw.new h1⟩) av2 m c2 T hT (fun h0 => by obtain ⟨b, off, e, hw⟩ := hTp h0; exact ⟨b, off, e, hw.new h1⟩))
      have HB := Lib.hid (fun (w1 : World) (h1 : New w w1) => rcheckTris_all w1 av n c l hl (by omega) (fun h0 => by obtain ⟨b, off, e, hw⟩ := hp h0; exact ⟨b, off, e, hw.new h1⟩) av2 m c2 T hT (fun h0 => by obtain ⟨b, off, e, hw⟩ := hTp h0; exact ⟨b, off, e, hw.new h1⟩))
      clear hp hTp
      generalize ckT l T = CK at *
      have q1 : (CK == CK) = true := by simp
      cases CK
      all_goals
        go_enter Tryz.func14, Tryz.ntmps14
        go_wp2_with (first | (go_at_call 31; refine (HL.out _).mono ?_; rintro e w2 ⟨rfl, hn⟩; have HN1 := Lib.hid hn; clear hn) | (go_at_call 62; refine (HA.out _ HN1.out).mono ?_; rintro e w3 ⟨rfl, hn⟩; have HN2 := Lib.hid hn; clear hn) | (go_at_call 63; refine (HB.out _ (HN1.out.trans HN2.out)).mono ?_; rintro e w4 ⟨rfl, hn⟩; have HN3 := Lib.hid hn; clear hn))
        go_ret; exact ⟨rfl, HN1.out.trans (HN2.out.trans HN3.out)⟩
end Go.Proofs.YtpdfbboagaflhaaGreat

set_option linter.unusedSimpArgs false
set_option linter.unusedVariables false
set_option linter.constructorNameAsVariable false
namespace Go.Proofs.YtpdfbboagaflhaaGreat
open Go.ChangeShapes Go.WideShapes Go.ChangeAt Go.RowKit Go.Joins
set_option maxRecDepth 100000

theorem jCk_wf : Rows.planeChecksRow.wf (OpenSpec.ofChange Rows.planeChecksSpec) = true := by kernel_rfl
theorem jCk_par : Tryz.f14.params.all (Tryz.prog.readableRec ·) = true := by kernel_rfl
theorem jCk_tie : namedTie Tryz.prog Rows.planeChecksRow.named Rows.planeChecksSpec.vars = true := by kernel_rfl
theorem jCk_st : (Rows.planeChecksRow.stops == []) = true := by kernel_rfl
theorem jCk_kn : (Rows.planeChecksRow.knobs == []) = true := by kernel_rfl
theorem jCk_inp : (Rows.planeChecksRow.inPlace == Tryz.prog.inPlace 14) = true := by kernel_rfl
theorem jCk_unf : (Rows.planeChecksRow.unfollowed == Tryz.prog.unfollowed 14) = true := by kernel_rfl
theorem jCk_rec : (Rows.planeChecksRow.recurses == Tryz.prog.recurses 14) = true := by kernel_rfl
theorem jCk_nam : (Rows.planeChecksRow.named == Tryz.prog.varsNamed 14) = true := by kernel_rfl
theorem jCk_maps : (Rows.planeChecksRow.maps == (Tryz.f14.params.toList ++ Rows.planeChecksSpec.plain.varTypes Tryz.prog).any (Tryz.prog.mapsRec ·)) = true := by kernel_rfl
theorem jCk_ifs : (Rows.planeChecksRow.ifaces == (Tryz.f14.params.toList ++ Rows.planeChecksSpec.plain.varTypes Tryz.prog).any (Tryz.prog.ifacesRec ·)) = true := by kernel_rfl
theorem jCk_mout : (Rows.planeChecksRow.mapsOut == Tryz.prog.mapsAmong Tryz.f14.resultTypes.toList) = true := by kernel_rfl
theorem jCk_loops : (Rows.planeChecksRow.loops == (Tryz.f14.params.toList ++ Rows.planeChecksSpec.plain.varTypes Tryz.prog).any (Tryz.prog.loopsFrom ·)) = true := by kernel_rfl
theorem jCk_wide : (Rows.planeChecksRow.wideKeys == (Tryz.f14.params.toList ++ Rows.planeChecksSpec.plain.varTypes Tryz.prog ++ Tryz.f14.resultTypes.toList).any (Tryz.prog.wideKeysFrom ·)) = true := by kernel_rfl
theorem jCk_vars : Rows.planeChecksSpec.vars.all (Tryz.prog.varReadable ·) = true := by kernel_rfl
theorem jCk_res : Tryz.f14.resultTypes.all (fun t => Tryz.prog.readableRec t && decide (t < Tryz.prog.types.size)) = true := by kernel_rfl
theorem jCk_iout : (Rows.planeChecksRow.ifacesOut == Tryz.f14.resultTypes.toList.any (Tryz.prog.ifacesRec ·)) = true := by kernel_rfl
theorem jCk_lout : (Rows.planeChecksRow.loopsOut == Tryz.f14.resultTypes.toList.any (Tryz.prog.loopsFrom ·)) = true := by kernel_rfl
theorem jCk_plain : (Rows.planeChecksRow.plainKeys == Tryz.prog.plainKeys) = true := by kernel_rfl
theorem jCk_short : Rows.planeChecksRow.shortTexts.isNone = true := by kernel_rfl
theorem jCk_lift0 : (Rows.planeChecksRow.lifted == false) = true := by kernel_rfl
theorem jCk_lift : (Rows.planeChecksRow.lifted == Tryz.prog.liftsFinal) = true := (congrArg (fun b => (Rows.planeChecksRow.lifted == b)) lift_is).trans jCk_lift0
theorem jCk_make0 : (some Make.cut == some Rows.planeChecksRow.make) = true := by kernel_rfl
theorem jCk_make : (Tryz.prog.make == some Rows.planeChecksRow.make) = true := (congrArg (fun b => (b == some Rows.planeChecksRow.make)) make_is).trans jCk_make0
theorem jCk_kinds : (Rows.planeChecksRow.kinds == (if Rows.planeChecksRow.domain.isEmpty then [] else Tryz.f14.params.toList.map fun t => match Tryz.prog.underlying t with | some (.int k) => some k | _ => none)) = true := by kernel_rfl
theorem jCk_pin : (Rows.planeChecksRow.pinned == Rows.planeChecksRow.pinnedBy) = true := by kernel_rfl
theorem jCk_veil : (Rows.planeChecksRow.veiled == (Tryz.f14.params.toList ++ Rows.planeChecksSpec.plain.varTypes Tryz.prog ++ Tryz.f14.resultTypes.toList).any (Tryz.prog.veiledRec ·)) = true := by kernel_rfl
theorem jCk_vfit : Rows.planeChecksRow.veiledFits Tryz.prog Tryz.f14.params.toList (Tryz.f14.params.toList ++ Rows.planeChecksSpec.plain.varTypes Tryz.prog ++ Tryz.f14.resultTypes.toList) = true := by kernel_rfl
theorem jCk_closed : joinedFacts Tryz.prog 14 Tryz.f14 Rows.planeChecksSpec Rows.planeChecksRow = true := (b_and (b_and (b_and (b_and (b_and (b_and (b_and (b_and (b_and (b_and (b_and (b_and (b_and (b_and (b_and (b_and (b_and (b_and (b_and (b_and (b_and (b_and (b_and (b_and (b_and (b_and (b_and (b_and (b_and (b_and (b_and jCk_wf jp_laid) jp_rowed) jCk_par) jCk_tie) jCk_st) jp_stops) jCk_kn) jp_knobs) jCk_inp) jCk_unf) jCk_rec) jCk_nam) jCk_maps) jCk_ifs) jCk_mout) jCk_loops) jCk_wide) jCk_vars) jCk_res) jCk_iout) jCk_lout) jCk_plain) jCk_short) jp_heard) jp_enter) jCk_lift) jCk_make) jCk_kinds) jCk_pin) jCk_veil) jCk_vfit)
theorem jCk_name : Tryz.prog.funcNamed Rows.planeChecksRow.func = some 14 := by kernel_rfl
theorem jCk_inst : Tryz.f14.isInstance Tryz.prog Rows.planeChecksRow.origin Rows.planeChecksRow.targs := of_decide_eq_true (by kernel_rfl)
theorem jCk_wrap : Tryz.f14.isWrapper Tryz.prog Rows.planeChecksRow.wrapper Rows.planeChecksRow.mainSum := by unfold Func.isWrapper; rw [if_neg (by decide +kernel)]; exact ⟨rfl, rfl⟩

set_option maxHeartbeats 2000000 in
theorem jCk_lifted (os : Os) (started : os.Started) (H : Type) (enc : TypeId × Value → H) :
    ReturnsInHanded {} Tryz.checked os 14 .any (Rows.planeChecksSpec.pre6 enc Tryz.prog Tryz.f14 Rows.planeChecksRow.domain false) (Rows.planeChecksSpec.post enc Tryz.prog Tryz.f14 false true false false) := by
  refine returnsInHanded_of_change (C := Tryz.checked) own_knob started (by kernel_rfl) Tryz.func14
    (ChangeSpec.witness6 (enc := enc) (C := Tryz.checked) false ⟨#[], #[.slice none 0 0, .slice none 0 0], []⟩ 8 (by kernel_rfl) (by kernel_rfl) (by kernel_rfl) (by kernel_rfl)) ?_
  intro W base args ds gs before hval0 hW hcnd _
  have hval : ∀ (j : Nat) t v, Tryz.f14.params[j]? = some t → args[j]? = some v → Value.okWide Tryz.prog W .any base t v := hval0
  have hW' := hW
  obtain ⟨p, q, hA0, hV, rfl, hfz, hnd⟩ := hW
  have hA : DataW.TrodAll enc Tryz.prog W 0 (fun _ => true) true Tryz.f14.params.toList args.toList ds p := hA0
  rw [Tryz.params14] at hA hval
  obtain ⟨v0, vs0, d0, ds0, p0, q0, hargs, rfl, rfl, h0, r0⟩ := trodAll_cons hA
  obtain ⟨v1, vs1, d1, ds1, p1, q1, rfl, rfl, rfl, h1, r1⟩ := trodAll_cons r0
  obtain ⟨rfl, rfl, rfl⟩ := trodAll_nil r1
  obtain rfl : args = #[v0, v1] := by cases args; simp_all
  obtain ⟨rfl, rfl⟩ := trodVars_none hV
  have hlt : ∀ x ∈ p0 ++ p1, x.block < W.heap.size := fun x hx => hW'.lt x (by simpa using hx)
  have g0 := h0
  obtain ⟨av0, n0, cap0, l0, rfl, hl0, hp0⟩ := open_pts (hval 0 40 v0 rfl rfl) h0
  have g1 := h1
  obtain ⟨av1, n1, cap1, l1, rfl, hl1, hp1⟩ := open_tris (hval 1 53 v1 rfl rfl) h1
  clear hA0 hval0 hval
  refine (planeChecks_all W av0 n0 cap0 l0 hl0 hp0 av1 n1 cap1 l1 hl1 hp1).mono fun e W' ⟨he, hg⟩ => ?_
  subst he
  have t1 := Below.trod laidOut (by kernel_rfl) (of_decide_eq_true (by kernel_rfl)) g1 hg.below (fun x hx => hlt x (by simp [hx]))
  have t0 := Below.trod laidOut (by kernel_rfl) (of_decide_eq_true (by kernel_rfl)) g0 hg.below (fun x hx => hlt x (by simp [hx]))
  exact ⟨_, rfl, _, _, _, _, _, _, hW', trodAll_cons_mk (shut_bool Tryz.underlying4 _) trodAll_mk0, trodAll_cons_mk t0 (trodAll_cons_mk t1 trodAll_mk0), rfl, hg.below.frame _, fun h => by cases h⟩

/-- PlaneChecks, as it is given -/
theorem planeChecks_proved : Rows.PlaneChecksSaid :=
  OpenClaim.holds_of_wide 14 Tryz.f14 rfl rfl rfl rfl rfl rfl rfl ⟨rfl, rfl, rfl, rfl, rfl⟩ rfl rfl rfl rfl rfl jCk_name Tryz.func14 jCk_closed jCk_inst jCk_wrap
    (fun os started H enc _ => jCk_lifted os started H enc)

end Go.Proofs.YtpdfbboagaflhaaGreat
