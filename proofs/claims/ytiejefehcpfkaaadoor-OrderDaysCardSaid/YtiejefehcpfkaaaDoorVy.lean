/- CheckDays of the reference, at any problem, number and list: it says what the program says. -/
import Derived.Test.YtiejefehcpfkaaaDoorVw
import Derived.Test.YtiejefehcpfkaaaDoorVx
set_option linter.unusedSimpArgs false
set_option linter.unusedVariables false
set_option maxRecDepth 100000
namespace Go.Proofs.YtiejefehcpfkaaaDoor
open Go.RowKit Go.Shelf

attribute [local go_sem] Oper.semAt_some

/-- what forbids the days x and y of two patches, as the reference reckons it -/
def prB (ne ar we : Bool) (dry x y : Int) : Bool := ((ne && (x == y)) || (ar && decide (x ≥ y))) || (we && decide (max (IntKind.i64.wrap (x - y)) (IntKind.i64.wrap (y - x)) ≤ dry))
def badP (o : Prb) (dry : Int) (l : List Int) (a b : Nat) : Bool := prB ((a : Int) != (b : Int)) (arcR o (a : Int) (b : Int)) (neR o (a : Int) (b : Int)) dry (nI l a) (nI l b)
def inD (l : List Int) (a : Nat) : Bool := decide (0 ≤ nI l a) && decide (nI l a ≤ 2000)
def rowP (o : Prb) (n : Nat) (dry : Int) (l : List Int) (a : Nat) : Bool := (List.range n).any (badP o dry l a)
def rowD (o : Prb) (n : Nat) (dry : Int) (l : List Int) (a : Nat) : Bool := inD l a && !rowP o n dry l a
def rckB (o : Prb) (n : Nat) (dry : Int) (l : List Int) : Bool := decide ((l.length : Int) = (n : Int)) && (List.range n).all (rowD o n dry l)
theorem any_false {f : Nat → Bool} {n : Nat} (h : (List.range n).any f = false) {k : Nat} (hk : k < n) : f k = false := by
  have := (List.any_eq_false.1 h) k (List.mem_range.2 hk); simpa using this
/-- BOTH SIDES' CHECKS OF DAYS -/
theorem rck_eq {o : Prb} (av nv : Value) (hc : chkI o = 0) {dry : Int} {l : List Int} : rckB o (opG o av nv).n dry l = kpB o (opG o av nv).n dry l := by
  obtain ⟨⟨c0, c00⟩, c1, c2, c3⟩ := chkI_zero hc
  have hgn : ((opG o av nv).n : Int) = o.n := by show ((o.n.toNat : Nat) : Int) = o.n; omega
  generalize (opG o av nv).n = n at *
  unfold rckB kpB
  by_cases hlen : (l.length : Int) = (n : Int)
  · have hln : l.length = n := by omega
    rw [decide_eq_true hlen, Bool.true_and, Bool.true_and, hln]
    by_cases hall : ∀ k, k < n → 0 ≤ nI l k ∧ nI l k ≤ 2000
    · have hw : ∀ a b, a < n → b < n → IntKind.i64.wrap (nI l a - nI l b) = nI l a - nI l b := fun a b ha hb => IntWalk.i64_in _ (by have := hall a ha; have := hall b hb; omega)
      rw [Bool.eq_iff_iff, Bool.and_eq_true, Bool.and_eq_true, Bool.not_eq_true', Bool.not_eq_true', List.all_eq_true, List.all_eq_true]
      constructor
      · intro h
        have hbad : ∀ a b, a < n → b < n → badP o dry l a b = false := fun a b ha hb => by
          have := h a (List.mem_range.2 ha)
          unfold rowD at this
          rw [Bool.and_eq_true, Bool.not_eq_true'] at this
          exact any_false this.2 hb
        refine ⟨⟨fun k hk => ?_, ?_⟩, ?_⟩
        · have hk := List.mem_range.1 hk
          unfold dayB
          rw [decide_eq_true (hall k hk).1, decide_eq_true (hall k hk).2, Bool.true_and, Bool.true_and, Bool.not_eq_true', ← Bool.not_eq_true, hasR_iff]
          rintro ⟨j, hj, e⟩
          rw [List.length_take] at hj
          rw [nI_take (by omega)] at e
          have := hbad j k (by omega) hk
          unfold badP prB at this
          rw [e] at this
          have hne : ((j : Int) != (k : Int)) = true := by simp; omega
          rw [hne] at this
          simp at this
        · rw [List.any_eq_false]
          intro i hi
          have hi := List.mem_range.1 hi
          have h1 := arB_in c1 i hi
          have := hbad (pA o.A i).toNat (pB o.A i).toNat (by omega) (by omega)
          unfold badP prB at this
          rw [Bool.or_eq_false_iff, Bool.or_eq_false_iff] at this
          have har : arcR o (((pA o.A i).toNat : Nat) : Int) (((pB o.A i).toNat : Nat) : Int) = true := by
            unfold arcR
            refine List.any_eq_true.2 ⟨i, List.mem_range.2 hi, ?_⟩
            simp only [Bool.and_eq_true, decide_eq_true_eq]; omega
          rw [har, Bool.true_and] at this
          unfold earB
          simpa using this.1.2
        · rw [List.any_eq_false]
          intro i hi
          have hi := List.mem_range.1 hi
          have h1 := arB_in c2 i hi
          have hf := (List.any_eq_false.1 c3) i (List.mem_range.2 hi)
          unfold fal at hf
          simp only [decide_eq_true_eq] at hf
          have := hbad (pA o.B i).toNat (pB o.B i).toNat (by omega) (by omega)
          unfold badP prB at this
          rw [Bool.or_eq_false_iff, hw _ _ (by omega) (by omega), hw _ _ (by omega) (by omega)] at this
          have hnr : neR o (((pA o.B i).toNat : Nat) : Int) (((pB o.B i).toNat : Nat) : Int) = true := by
            unfold neR
            refine List.any_eq_true.2 ⟨i, List.mem_range.2 hi, ?_⟩
            simp only [Bool.and_eq_true, decide_eq_true_eq]; omega
          rw [hnr, Bool.true_and] at this
          unfold weaB
          simpa using this.2
      · rintro ⟨⟨h1, h2⟩, h3⟩ a ha
        have ha := List.mem_range.1 ha
        unfold rowD inD
        rw [decide_eq_true (hall a ha).1, decide_eq_true (hall a ha).2, Bool.true_and, Bool.true_and, Bool.not_eq_true']
        unfold rowP
        rw [List.any_eq_false]
        intro b hb
        have hb := List.mem_range.1 hb
        rw [Bool.not_eq_true]
        unfold badP prB
        rw [hw _ _ ha hb, hw _ _ hb ha, Bool.or_eq_false_iff, Bool.or_eq_false_iff]
        have key : ∀ j k, j < k → k < n → nI l j ≠ nI l k := fun j k hj hk e => by
          have := h1 k (List.mem_range.2 hk)
          unfold dayB at this
          rw [Bool.and_eq_true, Bool.not_eq_true', ← Bool.not_eq_true, hasR_iff] at this
          exact this.2 ⟨j, by rw [List.length_take]; omega, by rw [nI_take hj]; exact e⟩
        refine ⟨⟨?_, ?_⟩, ?_⟩
        · rw [Bool.and_eq_false_iff]
          by_cases e : a = b
          · left; simp [e]
          · right
            rw [beq_eq_false_iff_ne]
            rcases Nat.lt_or_ge a b with h | h
            · exact key a b h hb
            · exact fun e' => key b a (by omega) ha e'.symm
        · rw [Bool.and_eq_false_iff]
          cases har : arcR o (a : Int) (b : Int)
          · exact .inl rfl
          · right
            unfold arcR at har
            obtain ⟨i, hi, h⟩ := List.any_eq_true.1 har
            simp only [Bool.and_eq_true, decide_eq_true_eq] at h
            have := any_false h2 (List.mem_range.1 hi)
            unfold earB at this
            rw [h.1, h.2, Int.toNat_natCast, Int.toNat_natCast] at this
            exact this
        · rw [Bool.and_eq_false_iff]
          cases hnr : neR o (a : Int) (b : Int)
          · exact .inl rfl
          · right
            unfold neR at hnr
            obtain ⟨i, hi, h⟩ := List.any_eq_true.1 hnr
            simp only [Bool.and_eq_true, decide_eq_true_eq] at h
            have := any_false h3 (List.mem_range.1 hi)
            unfold weaB at this
            rw [h.1, h.2] at this
            simp only [decide_eq_false_iff_not] at this ⊢
            rcases Nat.le_total a b with hab | hab
            · rw [show min (a : Int) (b : Int) = (a : Int) by omega, show max (a : Int) (b : Int) = (b : Int) by omega, Int.toNat_natCast, Int.toNat_natCast] at this; exact this
            · rw [show min (a : Int) (b : Int) = (b : Int) by omega, show max (a : Int) (b : Int) = (a : Int) by omega, Int.toNat_natCast, Int.toNat_natCast] at this
              omega
    · have : ∃ k, k < n ∧ ¬ (0 ≤ nI l k ∧ nI l k ≤ 2000) := by
        apply Classical.byContradiction
        intro hno
        exact hall fun k hk => Classical.byContradiction fun h => hno ⟨k, hk, h⟩
      obtain ⟨k, hk, hb⟩ := this
      have hin : (decide (0 ≤ nI l k) && decide (nI l k ≤ 2000)) = false := by
        rw [Bool.and_eq_false_iff, decide_eq_false_iff_not, decide_eq_false_iff_not]; omega
      rw [all_miss hk (show rowD o n dry l k = false by unfold rowD inD; rw [hin]; rfl), all_miss hk (show dayB l k = false by unfold dayB; rw [hin]; rfl)]
      rfl
  · rw [decide_eq_false hlen]; rfl

set_option maxHeartbeats 16000000 in
theorem rCheckDays_c {w : World} {v : Value} {o : Prb} {av nv : Value} (h : PrbA w v o av nv) (dry : Int) (lv : Option Addr) (lc : Nat) (l : List Int) (hl : l.length ≤ 17592186044415) (hP : Ins w lv l) :
    Calls Tryd.prog 58 #[v, .int .i64 dry, .slice lv l.length lc] w fun en w' => en = .returned (.tuple #[.bool (decide (dryI o dry = 0) && rckB o (opG o av nv).n dry l), .int .i64 (dryI o dry)]) ∧ New w w' := by
  have HCK := Lib.hid (fun (w1 : World) (hn : New w w1) => rcheck_c v o w1 (h.pv.new hn))
  rw [rchk_eq] at HCK
  have HAR := Lib.hid (fun (w1 : World) (hn : New w w1) (a b : Int) => rarc_c (h.pv.new hn) a b)
  have HNR := Lib.hid (fun (w1 : World) (hn : New w w1) (a b : Int) => rnear_c (h.pv.new hn) a b)
  by_cases hc : chkI o = 0
  · obtain ⟨n, hn⟩ : ∃ n, (opG o av nv).n = n := ⟨_, rfl⟩
    have hon : o.n = (n : Int) := by have := (chkI_zero hc).1; have e : (opG o av nv).n = o.n.toNat := rfl; omega
    have h24 : n ≤ 24 := by have := (chkI_zero hc).1; omega
    rw [hn]
    rw [hc] at HCK
    by_cases hd : dry < 0 ∨ 30 < dry
    · have hdI : dryI o dry = 1 := by unfold dryI; rw [if_neg (by rw [hc]; simp), if_pos hd]
      rw [hdI]
      obtain ⟨⟨⟨a1, ac, n1, nc, rfl, h1, h2⟩, h3, h4⟩, h5, h6⟩ := h
      clear h1 h2 h3 h4 h5 h6 hP hdI hn hc HAR HNR hon
      generalize l.length = N at *
      by_cases hd0 : dry < 0
      · go_enter Tryd.func58, Tryd.ntmps58
        go_wp2_with (go_at_call 24; (with_reducible refine (HCK.out _ ?_).mono ?_); (· exact (New.refl w).alloc _); rintro e w6 ⟨rfl, n6⟩; have N6 := Lib.hid (((New.refl w).alloc _).trans n6); clear n6)
        go_ret2
        exact ⟨rfl, N6.out⟩
      · have hd30 : dry > 30 := by omega
        go_enter Tryd.func58, Tryd.ntmps58
        go_wp2_with (go_at_call 24; (with_reducible refine (HCK.out _ ?_).mono ?_); (· exact (New.refl w).alloc _); rintro e w6 ⟨rfl, n6⟩; have N6 := Lib.hid (((New.refl w).alloc _).trans n6); clear n6)
        go_ret2
        exact ⟨rfl, N6.out⟩
    · have hdI : dryI o dry = 0 := by unfold dryI; rw [if_neg (by rw [hc]; simp), if_neg hd]
      rw [hdI, decide_eq_true rfl, Bool.true_and]
      have hd0 : ¬ dry < 0 := by omega
      have hd1 : ¬ dry > 30 := by omega
      obtain ⟨R, hR⟩ : ∃ R, rckB o n dry l = R := ⟨_, rfl⟩
      rw [hR]
      have HR := Lib.hid (show (decide ((l.length : Int) = (n : Int)) && (List.range n).all (rowD o n dry l)) = R from hR)
      have HRD := Lib.hid (show ∀ a, rowD o n dry l a = (inD l a && !rowP o n dry l a) from fun _ => rfl)
      have HRP := Lib.hid (show ∀ a, rowP o n dry l a = (List.range n).any (badP o dry l a) from fun _ => rfl)
      have HIN := Lib.hid (show ∀ a, inD l a = (decide (0 ≤ nI l a) && decide (nI l a ≤ 2000)) from fun _ => rfl)
      have HBA := Lib.hid (show ∀ a b : Nat, badP o dry l a b = prB ((a : Int) != (b : Int)) (arcR o (a : Int) (b : Int)) (neR o (a : Int) (b : Int)) dry (nI l a) (nI l b) from fun _ _ => rfl)
      obtain ⟨⟨⟨a1, ac, n1, nc, rfl, h1, h2⟩, h3, h4⟩, h5, h6⟩ := h
      have HP := Lib.hid hP
      clear h1 h2 h3 h4 h5 h6 hP hdI hn hc hR hd
      rw [hon] at HCK HAR HNR ⊢
      clear hon
      generalize o.A.length = LA at *
      generalize o.B.length = LB at *
      generalize rowD o n dry l = rd at *
      generalize rowP o n dry l = rp at *
      generalize inD l = ind at *
      obtain ⟨H, hH⟩ : ∃ H, w.heap.size = H := ⟨_, rfl⟩
      have HH := Lib.hid hH
      have HB0 := Lib.hid (show (w.alloc (.cells #[.int .i64 (n : Int), .slice a1 LA ac, .slice n1 LB nc] 24)).heap[H]? = some (.cells #[.int .i64 (n : Int), .slice a1 LA ac, .slice n1 LB nc] 24 (0, 0)) from by rw [← hH]; exact World.alloc_heap_new w _)
      generalize hN : l.length = N at *
      have HNL := Lib.hid hN
      clear hN
      by_cases hlen : (N : Int) = (n : Int)
      · have hl1 : ((N : Int) != (n : Int)) = false := by simpa using hlen
        rw [decide_eq_true hlen, Bool.true_and] at HR
        have HLEN := Lib.hid (show N = n by omega)
        clear hlen
        go_enter Tryd.func58, Tryd.ntmps58
        go_wp2_with (go_at_call 24; (with_reducible refine (HCK.out _ ?_).mono ?_); (· exact (New.refl w).alloc _); rintro e w6 ⟨rfl, n6⟩; have N6 := Lib.hid (((New.refl w).alloc _).trans n6); have HB6 := Lib.hid (row_new HB0.out n6); have c0 : w6.cell? ⟨H, 0, none⟩ = some (.int .i64 (n : Int)) := (cell_of_row w6 H 0 _ _ _ HB6.out).trans rfl; have hHl : H < w6.heap.size := World.block_lt_of_cell? _ _ c0; clear n6)
        clear c0 hHl
        go_loopw [9] (fun v9 wr => ∃ a : Nat, a ≤ n ∧ v9 = .int .i64 a ∧ (List.range a).all rd = true ∧ New w wr ∧ wr.heap[H]? = some (.cells #[.int .i64 (n : Int), .slice a1 LA ac, .slice n1 LB nc] 24 (0, 0))) (fun v9 _ => n - (intOf v9).toNat)
        case atStart => exact ⟨0, Nat.zero_le _, rfl, rfl, N6.out, HB6.out⟩
        case round =>
          obtain ⟨a, ha, rfl, hall, hnew, hbx⟩ := hrel
          obtain ⟨U1, rfl⟩ : ∃ U1 : World, U1 = wr := ⟨_, rfl⟩
          have HALL := Lib.hid hall
          have N1 := Lib.hid hnew
          have HB1 := Lib.hid hbx
          have c0 : U1.cell? ⟨H, 0, none⟩ = some (.int .i64 (n : Int)) := (cell_of_row U1 H 0 _ _ _ hbx).trans rfl
          have hHl : H < U1.heap.size := World.block_lt_of_cell? _ _ c0
          clear hall hnew hbx
          by_cases hlt : a < n
          · have hk1 : (a : Int) < (n : Int) := by omega
            have hk2 : (a : Int) < (N : Int) := by have := HLEN.out; omega
            obtain ⟨bl, ol, rfl, hgl, hcc⟩ := HP.out (by rw [HNL.out, HLEN.out]; omega)
            have HGL := Lib.hid hgl
            have HCC := Lib.hid (fun k (hk : k < n) => hcc k (by rw [HNL.out, HLEN.out]; exact hk))
            clear hcc hgl
            have c1 : U1.cell? ⟨bl, ol + a, none⟩ = some (.int .i64 (nI l a)) := (N1.out.cell HGL.out).trans (HCC.out a hlt)
            have HSA := Lib.hid (all_snoc rd a)
            have HDa := Lib.hid (HRD.out a)
            have HPa := Lib.hid (HRP.out a)
            have HIa := Lib.hid (HIN.out a)
            have HMS := Lib.hid (fun (e : rd a = false) => (by rw [← HR.out, all_miss hlt e] : R = false))
            have HBab := Lib.hid (HBA.out a)
            have HWA := Lib.hid (show -9223372036854775808 ≤ nI l a ∧ nI l a ≤ 9223372036854775807 → True from fun _ => trivial)
            obtain ⟨x, hx⟩ : ∃ x, nI l a = x := ⟨_, rfl⟩
            rw [hx] at c1 HIa HBab
            have HXA := Lib.hid (by have := HCC.out a hlt; rw [hx] at this; exact this : w.cell? ⟨bl, ol + a, none⟩ = some (.int .i64 x))
            clear hx HWA
            by_cases u1 : x < 0
            · have HF := Lib.hid (show R = false from HMS.out (by rw [HDa.out, HIa.out, decide_eq_false (show ¬ 0 ≤ x by omega)]; rfl))
              go_wp2_with fail
              go_ret2
              exact ⟨congrArg (fun z => Ending.returned (Value.tuple #[.bool z, .int .i64 0])) HF.out.symm, N1.out⟩
            · by_cases u2 : x > 2000
              · have HF := Lib.hid (show R = false from HMS.out (by rw [HDa.out, HIa.out, decide_eq_false (show ¬ x ≤ 2000 by omega), Bool.and_false]; rfl))
                go_wp2_with fail
                go_ret2
                exact ⟨congrArg (fun z => Ending.returned (Value.tuple #[.bool z, .int .i64 0])) HF.out.symm, N1.out⟩
              · rw [decide_eq_true (show 0 ≤ x by omega), decide_eq_true (show x ≤ 2000 by omega)] at HIa
                rw [HIa.out, Bool.true_and, Bool.true_and] at HDa
                have HTR := Lib.hid (fun (b : Nat) (hb : b < n) (e : badP o dry l a b = true) => (HMS.out (by rw [HDa.out, HPa.out, any_hit hb e]; rfl) : R = false))
                go_wp2_with fail
                clear c0 c1 hHl
                go_loopw [10] (fun v10 w2 => ∃ b : Nat, b ≤ n ∧ v10 = .int .i64 b ∧ (List.range b).any (badP o dry l a) = false ∧ New w w2 ∧ w2.heap[H]? = some (.cells #[.int .i64 (n : Int), .slice a1 LA ac, .slice n1 LB nc] 24 (0, 0))) (fun v10 _ => n - (intOf v10).toNat)
                case atStart => exact ⟨0, Nat.zero_le _, rfl, rfl, N1.out, HB1.out⟩
                case round =>
                  obtain ⟨b, hb, rfl, halb, hnew2, hbx2⟩ := hrel
                  obtain ⟨U2, rfl⟩ : ∃ U2 : World, U2 = wr := ⟨_, rfl⟩
                  have HALB := Lib.hid halb
                  have N2 := Lib.hid hnew2
                  have HB2 := Lib.hid hbx2
                  have c0 : U2.cell? ⟨H, 0, none⟩ = some (.int .i64 (n : Int)) := (cell_of_row U2 H 0 _ _ _ hbx2).trans rfl
                  have hHl : H < U2.heap.size := World.block_lt_of_cell? _ _ c0
                  clear halb hnew2 hbx2 N1 HB1
                  by_cases hbt : b < n
                  · have hb1 : (b : Int) < (n : Int) := by omega
                    have hb2 : (b : Int) < (N : Int) := by have := HLEN.out; omega
                    have HTR := Lib.hid (fun (e : badP o dry l a b = true) => HTR.out b hbt e)
                    have HSN := Lib.hid (any_snoc (badP o dry l a) b)
                    have HBK := Lib.hid (HBab.out b)
                    have c1 : U2.cell? ⟨H, 1, none⟩ = some (.slice a1 LA ac) := (cell_of_row U2 H 1 _ _ _ HB2.out).trans rfl
                    have c2 : U2.cell? ⟨H, 2, none⟩ = some (.slice n1 LB nc) := (cell_of_row U2 H 2 _ _ _ HB2.out).trans rfl
                    have HAB := Lib.hid (fun (w1 : World) (hn : New w w1) => HAR.out w1 hn (a : Int) (b : Int))
                    have HNB := Lib.hid (fun (w1 : World) (hn : New w w1) => HNR.out w1 hn (a : Int) (b : Int))
                    obtain ⟨ar, har⟩ : ∃ ar, arcR o (a : Int) (b : Int) = ar := ⟨_, rfl⟩
                    obtain ⟨we, hwe⟩ : ∃ we, neR o (a : Int) (b : Int) = we := ⟨_, rfl⟩
                    obtain ⟨y, hy⟩ : ∃ y, nI l b = y := ⟨_, rfl⟩
                    have HY := Lib.hid hy
                    rw [har] at HAB HBK
                    rw [hwe] at HNB HBK
                    rw [hy] at HBK
                    unfold prB at HBK
                    obtain ⟨z1, hz1⟩ : ∃ z1, IntKind.i64.wrap (x - y) = z1 := ⟨_, rfl⟩
                    obtain ⟨z2, hz2⟩ : ∃ z2, IntKind.i64.wrap (y - x) = z2 := ⟨_, rfl⟩
                    rw [hz1, hz2] at HBK
                    have HZ1 := Lib.hid hz1
                    have HZ2 := Lib.hid hz2
                    clear har hwe hy hz1 hz2 c0
                    have c0 : U2.cell? ⟨H, 0, none⟩ = some (.int .i64 (n : Int)) := (cell_of_row U2 H 0 _ _ _ HB2.out).trans rfl
                    go_upto_region 18 with (first | (go_at_call 83; (with_reducible refine (HAB.out _ ?_).mono ?_); (· exact N2.out); rintro e w7 ⟨rfl, n7⟩; have N7 := Lib.hid (N2.out.trans n7); have HB7 := Lib.hid (row_new HB2.out n7); clear c0 c1 c2 hHl; have c0 : w7.cell? ⟨H, 0, none⟩ = some (.int .i64 (n : Int)) := (cell_of_row w7 H 0 _ _ _ HB7.out).trans rfl; have c1 : w7.cell? ⟨H, 1, none⟩ = some (.slice a1 LA ac) := (cell_of_row w7 H 1 _ _ _ HB7.out).trans rfl; have c2 : w7.cell? ⟨H, 2, none⟩ = some (.slice n1 LB nc) := (cell_of_row w7 H 2 _ _ _ HB7.out).trans rfl; have hHl : H < w7.heap.size := World.block_lt_of_cell? _ _ c0; clear n7) | (go_at_call 124; (with_reducible refine (HNB.out _ ?_).mono ?_); (· exact N7.out); rintro e U3 ⟨rfl, n8⟩; have N3 := Lib.hid (N7.out.trans n8); have HB3 := Lib.hid (row_new HB7.out n8); clear c0 c1 c2 hHl n8))
                    have c1 : U3.cell? ⟨bl, ol + a, none⟩ = some (.int .i64 x) := (N3.out.cell HGL.out).trans HXA.out
                    have c2 : U3.cell? ⟨bl, ol + b, none⟩ = some (.int .i64 y) := (N3.out.cell HGL.out).trans (by rw [← HY.out]; exact HCC.out b hbt)
                    have hg1 : bl < U3.heap.size := Nat.lt_of_lt_of_le HGL.out N3.out.size
                    have hw1 : IntKind.i64.wrap (x - y) = z1 := HZ1.out
                    have hw2 : IntKind.i64.wrap (y - x) = z2 := HZ2.out
                    cases hne : ((a : Int) != (b : Int))
                    · rw [hne, Bool.false_and, Bool.false_or] at HBK
                      cases ar
                      · rw [Bool.false_and, Bool.false_or] at HBK
                        cases we
                        · have HBP := Lib.hid (show badP o dry l a b = false by rw [HBK.out]; rfl)
                          go_upto_region 18 with fail
                          first | refine wp_region_at2 (by kernel_rfl) (by kernel_rfl) ?_ | refine wp_region_at (by kernel_rfl) (by kernel_rfl) ?_
                          repeat (go_big_quiet_step (fail))
                          refine wpQuiet_nil ?_
                          rintro U4 hq4
                          have HN4 := Lib.hid (show New U3 U4 from hq4)
                          clear hq4
                          go_wp2_with fail
                          go_roundw
                          case rel => exact ⟨b + 1, by omega, by go_num, by rw [HSN.out, HALB.out, HBP.out]; rfl, N3.out.trans HN4.out, row_new HB3.out HN4.out⟩
                          case measure => simp [intOf]; omega
                        · cases hle : decide (max z1 z2 ≤ dry)
                          · have HBP := Lib.hid (show badP o dry l a b = false by rw [HBK.out, hle]; rfl)
                            go_upto_region 18 with fail
                            first | refine wp_region_at2 (by kernel_rfl) (by kernel_rfl) ?_ | refine wp_region_at (by kernel_rfl) (by kernel_rfl) ?_
                            repeat (go_big_quiet_step (fail))
                            refine wpQuiet_nil ?_
                            rintro U4 hq4
                            have HN4 := Lib.hid (show New U3 U4 from hq4)
                            clear hq4
                            go_wp2_with fail
                            go_roundw
                            case rel => exact ⟨b + 1, by omega, by go_num, by rw [HSN.out, HALB.out, HBP.out]; rfl, N3.out.trans HN4.out, row_new HB3.out HN4.out⟩
                            case measure => simp [intOf]; omega
                          · have HBP := Lib.hid (show badP o dry l a b = true by rw [HBK.out, hle]; rfl)
                            go_upto_region 18 with fail
                            first | refine wp_region_at2 (by kernel_rfl) (by kernel_rfl) ?_ | refine wp_region_at (by kernel_rfl) (by kernel_rfl) ?_
                            repeat (go_big_quiet_step (fail))
                            refine wpQuiet_nil ?_
                            rintro U4 hq4
                            have HN4 := Lib.hid (show New U3 U4 from hq4)
                            clear hq4
                            go_wp2_with fail
                            go_ret2
                            exact ⟨congrArg (fun z => Ending.returned (Value.tuple #[.bool z, .int .i64 0])) (HTR.out HBP.out).symm, N3.out.trans HN4.out⟩
                      · cases hge : decide (x ≥ y)
                        · rw [hge, Bool.true_and, Bool.false_or] at HBK
                          cases we
                          · have HBP := Lib.hid (show badP o dry l a b = false by rw [HBK.out]; rfl)
                            go_upto_region 18 with fail
                            first | refine wp_region_at2 (by kernel_rfl) (by kernel_rfl) ?_ | refine wp_region_at (by kernel_rfl) (by kernel_rfl) ?_
                            repeat (go_big_quiet_step (fail))
                            refine wpQuiet_nil ?_
                            rintro U4 hq4
                            have HN4 := Lib.hid (show New U3 U4 from hq4)
                            clear hq4
                            go_wp2_with fail
                            go_roundw
                            case rel => exact ⟨b + 1, by omega, by go_num, by rw [HSN.out, HALB.out, HBP.out]; rfl, N3.out.trans HN4.out, row_new HB3.out HN4.out⟩
                            case measure => simp [intOf]; omega
                          · cases hle : decide (max z1 z2 ≤ dry)
                            · have HBP := Lib.hid (show badP o dry l a b = false by rw [HBK.out, hle]; rfl)
                              go_upto_region 18 with fail
                              first | refine wp_region_at2 (by kernel_rfl) (by kernel_rfl) ?_ | refine wp_region_at (by kernel_rfl) (by kernel_rfl) ?_
                              repeat (go_big_quiet_step (fail))
                              refine wpQuiet_nil ?_
                              rintro U4 hq4
                              have HN4 := Lib.hid (show New U3 U4 from hq4)
                              clear hq4
                              go_wp2_with fail
                              go_roundw
                              case rel => exact ⟨b + 1, by omega, by go_num, by rw [HSN.out, HALB.out, HBP.out]; rfl, N3.out.trans HN4.out, row_new HB3.out HN4.out⟩
                              case measure => simp [intOf]; omega
                            · have HBP := Lib.hid (show badP o dry l a b = true by rw [HBK.out, hle]; rfl)
                              go_upto_region 18 with fail
                              first | refine wp_region_at2 (by kernel_rfl) (by kernel_rfl) ?_ | refine wp_region_at (by kernel_rfl) (by kernel_rfl) ?_
                              repeat (go_big_quiet_step (fail))
                              refine wpQuiet_nil ?_
                              rintro U4 hq4
                              have HN4 := Lib.hid (show New U3 U4 from hq4)
                              clear hq4
                              go_wp2_with fail
                              go_ret2
                              exact ⟨congrArg (fun z => Ending.returned (Value.tuple #[.bool z, .int .i64 0])) (HTR.out HBP.out).symm, N3.out.trans HN4.out⟩
                        · have HBP := Lib.hid (show badP o dry l a b = true by rw [HBK.out, hge]; rfl)
                          go_upto_region 18 with fail
                          first | refine wp_region_at2 (by kernel_rfl) (by kernel_rfl) ?_ | refine wp_region_at (by kernel_rfl) (by kernel_rfl) ?_
                          repeat (go_big_quiet_step (fail))
                          refine wpQuiet_nil ?_
                          rintro U4 hq4
                          have HN4 := Lib.hid (show New U3 U4 from hq4)
                          clear hq4
                          go_wp2_with fail
                          go_ret2
                          exact ⟨congrArg (fun z => Ending.returned (Value.tuple #[.bool z, .int .i64 0])) (HTR.out HBP.out).symm, N3.out.trans HN4.out⟩
                    · rw [hne, Bool.true_and] at HBK
                      cases hxy : (x == y)
                      · rw [hxy, Bool.false_or] at HBK
                        cases ar
                        · rw [Bool.false_and, Bool.false_or] at HBK
                          cases we
                          · have HBP := Lib.hid (show badP o dry l a b = false by rw [HBK.out]; rfl)
                            go_upto_region 18 with fail
                            first | refine wp_region_at2 (by kernel_rfl) (by kernel_rfl) ?_ | refine wp_region_at (by kernel_rfl) (by kernel_rfl) ?_
                            repeat (go_big_quiet_step (fail))
                            refine wpQuiet_nil ?_
                            rintro U4 hq4
                            have HN4 := Lib.hid (show New U3 U4 from hq4)
                            clear hq4
                            go_wp2_with fail
                            go_roundw
                            case rel => exact ⟨b + 1, by omega, by go_num, by rw [HSN.out, HALB.out, HBP.out]; rfl, N3.out.trans HN4.out, row_new HB3.out HN4.out⟩
                            case measure => simp [intOf]; omega
                          · cases hle : decide (max z1 z2 ≤ dry)
                            · have HBP := Lib.hid (show badP o dry l a b = false by rw [HBK.out, hle]; rfl)
                              go_upto_region 18 with fail
                              first | refine wp_region_at2 (by kernel_rfl) (by kernel_rfl) ?_ | refine wp_region_at (by kernel_rfl) (by kernel_rfl) ?_
                              repeat (go_big_quiet_step (fail))
                              refine wpQuiet_nil ?_
                              rintro U4 hq4
                              have HN4 := Lib.hid (show New U3 U4 from hq4)
                              clear hq4
                              go_wp2_with fail
                              go_roundw
                              case rel => exact ⟨b + 1, by omega, by go_num, by rw [HSN.out, HALB.out, HBP.out]; rfl, N3.out.trans HN4.out, row_new HB3.out HN4.out⟩
                              case measure => simp [intOf]; omega
                            · have HBP := Lib.hid (show badP o dry l a b = true by rw [HBK.out, hle]; rfl)
                              go_upto_region 18 with fail
                              first | refine wp_region_at2 (by kernel_rfl) (by kernel_rfl) ?_ | refine wp_region_at (by kernel_rfl) (by kernel_rfl) ?_
                              repeat (go_big_quiet_step (fail))
                              refine wpQuiet_nil ?_
                              rintro U4 hq4
                              have HN4 := Lib.hid (show New U3 U4 from hq4)
                              clear hq4
                              go_wp2_with fail
                              go_ret2
                              exact ⟨congrArg (fun z => Ending.returned (Value.tuple #[.bool z, .int .i64 0])) (HTR.out HBP.out).symm, N3.out.trans HN4.out⟩
                        · cases hge : decide (x ≥ y)
                          · rw [hge, Bool.true_and, Bool.false_or] at HBK
                            cases we
                            · have HBP := Lib.hid (show badP o dry l a b = false by rw [HBK.out]; rfl)
                              go_upto_region 18 with fail
                              first | refine wp_region_at2 (by kernel_rfl) (by kernel_rfl) ?_ | refine wp_region_at (by kernel_rfl) (by kernel_rfl) ?_
                              repeat (go_big_quiet_step (fail))
                              refine wpQuiet_nil ?_
                              rintro U4 hq4
                              have HN4 := Lib.hid (show New U3 U4 from hq4)
                              clear hq4
                              go_wp2_with fail
                              go_roundw
                              case rel => exact ⟨b + 1, by omega, by go_num, by rw [HSN.out, HALB.out, HBP.out]; rfl, N3.out.trans HN4.out, row_new HB3.out HN4.out⟩
                              case measure => simp [intOf]; omega
                            · cases hle : decide (max z1 z2 ≤ dry)
                              · have HBP := Lib.hid (show badP o dry l a b = false by rw [HBK.out, hle]; rfl)
                                go_upto_region 18 with fail
                                first | refine wp_region_at2 (by kernel_rfl) (by kernel_rfl) ?_ | refine wp_region_at (by kernel_rfl) (by kernel_rfl) ?_
                                repeat (go_big_quiet_step (fail))
                                refine wpQuiet_nil ?_
                                rintro U4 hq4
                                have HN4 := Lib.hid (show New U3 U4 from hq4)
                                clear hq4
                                go_wp2_with fail
                                go_roundw
                                case rel => exact ⟨b + 1, by omega, by go_num, by rw [HSN.out, HALB.out, HBP.out]; rfl, N3.out.trans HN4.out, row_new HB3.out HN4.out⟩
                                case measure => simp [intOf]; omega
                              · have HBP := Lib.hid (show badP o dry l a b = true by rw [HBK.out, hle]; rfl)
                                go_upto_region 18 with fail
                                first | refine wp_region_at2 (by kernel_rfl) (by kernel_rfl) ?_ | refine wp_region_at (by kernel_rfl) (by kernel_rfl) ?_
                                repeat (go_big_quiet_step (fail))
                                refine wpQuiet_nil ?_
                                rintro U4 hq4
                                have HN4 := Lib.hid (show New U3 U4 from hq4)
                                clear hq4
                                go_wp2_with fail
                                go_ret2
                                exact ⟨congrArg (fun z => Ending.returned (Value.tuple #[.bool z, .int .i64 0])) (HTR.out HBP.out).symm, N3.out.trans HN4.out⟩
                          · have HBP := Lib.hid (show badP o dry l a b = true by rw [HBK.out, hge]; rfl)
                            go_upto_region 18 with fail
                            first | refine wp_region_at2 (by kernel_rfl) (by kernel_rfl) ?_ | refine wp_region_at (by kernel_rfl) (by kernel_rfl) ?_
                            repeat (go_big_quiet_step (fail))
                            refine wpQuiet_nil ?_
                            rintro U4 hq4
                            have HN4 := Lib.hid (show New U3 U4 from hq4)
                            clear hq4
                            go_wp2_with fail
                            go_ret2
                            exact ⟨congrArg (fun z => Ending.returned (Value.tuple #[.bool z, .int .i64 0])) (HTR.out HBP.out).symm, N3.out.trans HN4.out⟩
                      · have HBP := Lib.hid (show badP o dry l a b = true by rw [HBK.out, hxy]; rfl)
                        go_upto_region 18 with fail
                        first | refine wp_region_at2 (by kernel_rfl) (by kernel_rfl) ?_ | refine wp_region_at (by kernel_rfl) (by kernel_rfl) ?_
                        repeat (go_big_quiet_step (fail))
                        refine wpQuiet_nil ?_
                        rintro U4 hq4
                        have HN4 := Lib.hid (show New U3 U4 from hq4)
                        clear hq4
                        go_wp2_with fail
                        go_ret2
                        exact ⟨congrArg (fun z => Ending.returned (Value.tuple #[.bool z, .int .i64 0])) (HTR.out HBP.out).symm, N3.out.trans HN4.out⟩
                  · obtain rfl : b = n := by omega
                    have hb1 : ¬ (b : Int) < (b : Int) := by omega
                    have HV := Lib.hid (show rd a = true by rw [HDa.out, HPa.out, HALB.out]; rfl)
                    go_wp2_with fail
                    go_roundw
                    case rel => exact ⟨a + 1, by omega, by go_num, by rw [HSA.out, HALL.out, HV.out]; rfl, N2.out, HB2.out⟩
                    case measure => simp [intOf]; omega
          · obtain rfl : a = n := by omega
            have hk1 : ¬ (a : Int) < (a : Int) := by omega
            have HF := Lib.hid (show R = true by rw [← HR.out, HALL.out])
            go_wp2_with fail
            go_ret2
            exact ⟨congrArg (fun z => Ending.returned (Value.tuple #[.bool z, .int .i64 0])) HF.out.symm, N1.out⟩
      · have hl1 : ((N : Int) != (n : Int)) = true := by simpa using hlen
        have HF := Lib.hid (show R = false by rw [← HR.out, decide_eq_false hlen]; rfl)
        clear hlen
        go_enter Tryd.func58, Tryd.ntmps58
        go_wp2_with (go_at_call 24; (with_reducible refine (HCK.out _ ?_).mono ?_); (· exact (New.refl w).alloc _); rintro e w6 ⟨rfl, n6⟩; have N6 := Lib.hid (((New.refl w).alloc _).trans n6); have HB6 := Lib.hid (row_new HB0.out n6); have c0 : w6.cell? ⟨H, 0, none⟩ = some (.int .i64 (n : Int)) := (cell_of_row w6 H 0 _ _ _ HB6.out).trans rfl; have hHl : H < w6.heap.size := World.block_lt_of_cell? _ _ c0; clear n6)
        go_ret2
        exact ⟨congrArg (fun z => Ending.returned (Value.tuple #[.bool z, .int .i64 0])) HF.out.symm, N6.out⟩
  · have hdI : dryI o dry = chkI o := by unfold dryI; rw [if_pos hc]
    rw [hdI, decide_eq_false hc, Bool.false_and]
    have he : (chkI o != 0) = true := by simpa using hc
    obtain ⟨⟨⟨a1, ac, n1, nc, rfl, h1, h2⟩, h3, h4⟩, h5, h6⟩ := h
    clear h1 h2 h3 h4 h5 h6 hP hdI hc HAR HNR
    generalize chkI o = E at *
    generalize l.length = N at *
    go_enter Tryd.func58, Tryd.ntmps58
    go_wp2_with (go_at_call 24; (with_reducible refine (HCK.out _ ?_).mono ?_); (· exact (New.refl w).alloc _); rintro e w6 ⟨rfl, n6⟩; have N6 := Lib.hid (((New.refl w).alloc _).trans n6); clear n6)
    go_ret2
    exact ⟨rfl, N6.out⟩
end Go.Proofs.YtiejefehcpfkaaaDoor
