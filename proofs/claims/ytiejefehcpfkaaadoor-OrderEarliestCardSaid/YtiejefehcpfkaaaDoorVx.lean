/- CheckDays of the program, at any problem, number and list. -/
import Derived.Test.YtiejefehcpfkaaaDoorVe
import Derived.Test.YtiejefehcpfkaaaDoorSy
import Derived.Test.YtiejefehcpfkaaaDoorTr
import Derived.Test.YtiejefehcpfkaaaDoorSp
import Derived.Maps.Own
import Derived.Maps.OwnSet
import Derived.Maps.Views
import Derived.BigRegion
set_option linter.unusedSimpArgs false
set_option linter.unusedVariables false
set_option maxRecDepth 100000
namespace Go.Proofs.YtiejefehcpfkaaaDoor
open Go.RowKit Go.Shelf

attribute [local go_sem] Oper.semAt_some

/-- the days at the places a and b: both are there -/
structure DaC (w : World) (g : Nat) (l : List Int) (a b : Int) : Prop where
  bx : ∃ lv lc, w.heap[g]? = some (.cells #[.slice lv l.length lc] 31 (0, 0)) ∧ Ins w lv l
  ha : 0 ≤ a ∧ a < (l.length : Int)
  hb : 0 ≤ b ∧ b < (l.length : Int)
  sm : ∀ k, k < l.length → 0 ≤ nI l k ∧ nI l k ≤ 2000
def earB (l : List Int) (a b : Int) : Bool := decide (nI l a.toNat ≥ nI l b.toNat)
def weaB (dry : Int) (l : List Int) (a b : Int) : Bool := decide (max (nI l a.toNat - nI l b.toNat) (nI l b.toNat - nI l a.toNat) ≤ dry)
set_option maxHeartbeats 4000000 in
theorem early_c {w : World} {g : Nat} {l : List Int} {a b : Int} (h : DaC w g l a b) :
    Calls Tryd.prog 147 #[prv a b, .pointer (some ⟨g, 0, none⟩)] w fun en w' => en = .returned (.bool (earB l a b)) ∧ New w w' := by
  obtain ⟨⟨lv, lc, hbx, hI⟩, ha, hb, hs⟩ := h
  obtain ⟨p, rfl⟩ : ∃ p : Nat, a = p := ⟨a.toNat, by omega⟩
  obtain ⟨q, rfl⟩ : ∃ q : Nat, b = q := ⟨b.toNat, by omega⟩
  obtain ⟨bl, ol, rfl, gl, hcc⟩ := hI (by omega)
  have c1 := hcc p (by omega)
  have c2 := hcc q (by omega)
  have c3 := (box_cell hbx).1
  have hg : g < w.heap.size := World.block_lt_of_cell? _ _ c3
  have hp := ha.2
  have hq := hb.2
  obtain ⟨R, hR⟩ : ∃ R, earB l (p : Int) (q : Int) = R := ⟨_, rfl⟩
  rw [hR]
  have HR0 : decide (nI l p ≥ nI l q) = R := by rw [← hR]; rfl
  clear hR
  clear hcc hs hbx ha hb hI
  obtain ⟨x, hx⟩ : ∃ x, nI l p = x := ⟨_, rfl⟩
  obtain ⟨y, hy⟩ : ∃ y, nI l q = y := ⟨_, rfl⟩
  rw [hx] at c1 HR0
  rw [hy] at c2 HR0
  have HR := Lib.hid HR0
  clear hx hy HR0
  generalize l.length = N at *
  go_enter Tryd.func147, Tryd.ntmps147
  go_upto_region 1 with fail
  first | refine wp_region_at2 (by kernel_rfl) (by kernel_rfl) ?_ | refine wp_region_at (by kernel_rfl) (by kernel_rfl) ?_
  repeat (go_big_quiet_step (fail))
  refine wpQuiet_nil ?_
  rintro U3 hq3
  have HN3 := Lib.hid (show New (w.alloc (.cells #[.int .i64 (p : Int), .int .i64 (q : Int)] 67)) U3 from hq3)
  clear hq3
  go_wp2_with fail
  go_ret
  exact ⟨ret_bool HR.out, ((New.refl w).alloc _).trans HN3.out⟩
set_option maxHeartbeats 4000000 in
theorem wet_c {w : World} {g g2 : Nat} {l : List Int} {a b dry : Int} (h : DaC w g l a b) (hd : w.heap[g2]? = some (.cells #[.int .i64 dry] 3 (0, 0))) :
    Calls Tryd.prog 148 #[prv a b, .pointer (some ⟨g, 0, none⟩), .pointer (some ⟨g2, 0, none⟩)] w fun en w' => en = .returned (.bool (weaB dry l a b)) ∧ New w w' := by
  obtain ⟨⟨lv, lc, hbx, hI⟩, ha, hb, hs⟩ := h
  obtain ⟨p, rfl⟩ : ∃ p : Nat, a = p := ⟨a.toNat, by omega⟩
  obtain ⟨q, rfl⟩ : ∃ q : Nat, b = q := ⟨b.toNat, by omega⟩
  obtain ⟨bl, ol, rfl, gl, hcc⟩ := hI (by omega)
  have c1 := hcc p (by omega)
  have c2 := hcc q (by omega)
  have c3 := (box_cell hbx).1
  have c4 := (box_cell hd).1
  have hg : g < w.heap.size := World.block_lt_of_cell? _ _ c3
  have hg2 : g2 < w.heap.size := World.block_lt_of_cell? _ _ c4
  have hp := ha.2
  have hq := hb.2
  have hb1 := hs p (by omega)
  have hb2 := hs q (by omega)
  obtain ⟨R, hR⟩ : ∃ R, weaB dry l (p : Int) (q : Int) = R := ⟨_, rfl⟩
  rw [hR]
  have HR0 : decide (max (nI l p - nI l q) (nI l q - nI l p) ≤ dry) = R := by rw [← hR]; rfl
  clear hR
  clear hcc hs hbx ha hb hd hI
  obtain ⟨x, hx⟩ : ∃ x, nI l p = x := ⟨_, rfl⟩
  obtain ⟨y, hy⟩ : ∃ y, nI l q = y := ⟨_, rfl⟩
  rw [hx] at c1 hb1 HR0
  rw [hy] at c2 hb2 HR0
  have HR := Lib.hid HR0
  clear hx hy HR0
  generalize l.length = N at *
  have hw1 : IntKind.i64.wrap (x - y) = x - y := IntWalk.i64_in _ (by omega)
  have hw2 : IntKind.i64.wrap (y - x) = y - x := IntWalk.i64_in _ (by omega)
  go_enter Tryd.func148, Tryd.ntmps148
  go_upto_region 1 with fail
  first | refine wp_region_at2 (by kernel_rfl) (by kernel_rfl) ?_ | refine wp_region_at (by kernel_rfl) (by kernel_rfl) ?_
  repeat (go_big_quiet_step (fail))
  refine wpQuiet_nil ?_
  rintro U3 hq3
  have HN3 := Lib.hid (show New (w.alloc (.cells #[.int .i64 (p : Int), .int .i64 (q : Int)] 67)) U3 from hq3)
  clear hq3
  go_wp2_with fail
  go_ret
  exact ⟨ret_bool HR.out, ((New.refl w).alloc _).trans HN3.out⟩
/- IndexFunc at the closures of areKept -/
set_option maxHeartbeats 8000000 in
theorem index1_c (ok : Nat → Bool) (g : Nat) (av : Option Addr) (cap : Nat) (L : List (Int × Int)) (w : World) (hl : L.length ≤ 17592186044415) (hP : Prs w av L)
    (hF : ∀ w1, New w w1 → ∀ k, k < L.length → Calls Tryd.prog 147 #[prv (pA L k) (pB L k), .pointer (some ⟨g, 0, none⟩)] w1 fun en w' => en = .returned (.bool (ok k)) ∧ New w1 w') :
    Calls Tryd.prog 133 #[.slice av L.length cap, .func (.func 147) #[] #[.pointer (some ⟨g, 0, none⟩)]] w fun en w' => (∃ i : Int, en = .returned (.int .i64 i) ∧ decide (i ≥ 0) = (List.range L.length).any ok) ∧ New w w' := by
  obtain ⟨N, hN⟩ : ∃ N, N = L.length := ⟨_, rfl⟩
  have HP := Lib.hid hP
  have HF0 := Lib.hid hF
  obtain ⟨R, hR⟩ : ∃ R, (List.range L.length).any ok = R := ⟨_, rfl⟩
  rw [hR]
  have HR := Lib.hid (show R = (List.range N).any ok by rw [hN, hR])
  have HNL := Lib.hid hN
  rw [← hN] at hl ⊢
  clear hP hN hF hR
  go_enter Tryd.func133, Tryd.ntmps133
  go_wp2_with fail
  go_loopw [8] (fun i wr => ∃ k : Nat, k ≤ N ∧ i = .int .i64 k ∧ (List.range k).any ok = false ∧ New w wr) (fun i _ => N - (intOf i).toNat)
  case atStart => exact ⟨0, Nat.zero_le _, rfl, rfl, New.refl _⟩
  case round =>
    obtain ⟨k, hk, rfl, hall, hnew⟩ := hrel
    have HALL := Lib.hid hall
    have HNEW := Lib.hid hnew
    clear hall hnew
    by_cases hlt : k < N
    · obtain ⟨b, off, rfl, gl, hcc⟩ := HP.out.new HNEW.out (by rw [← HNL.out]; omega)
      obtain ⟨c1, c2⟩ := hcc k (by rw [← HNL.out]; omega)
      have hk1 : (k : Int) < (N : Int) := by omega
      have HSN := Lib.hid (any_snoc ok k)
      have HMS := Lib.hid (fun (e : ok k = true) => (by rw [HR.out, any_hit hlt e] : R = true))
      have HFA := Lib.hid (fun (w1 : World) (hn : New wr w1) => HF0.out w1 (HNEW.out.trans hn) k (by rw [← HNL.out]; omega))
      clear hcc
      generalize pA L k = x at *
      generalize pB L k = y at *
      cases hd : ok k
      · rw [hd] at HFA
        have HD := Lib.hid hd
        clear hd
        go_wp2_with (go_at_call 147; (with_reducible refine (HFA.out _ ?_).mono ?_); (· repeat (first | exact New.refl _ | apply New.alloc)); rintro e w6 ⟨rfl, n6⟩; have N6 := Lib.hid (show New wr w6 from (by have := n6; first | exact this | exact ((New.refl wr).alloc _).trans this)); clear n6)
        go_roundw
        case rel => exact ⟨k + 1, by omega, by go_num, by rw [HSN.out, HALL.out, HD.out]; rfl, HNEW.out.trans N6.out⟩
        case measure => simp [intOf]; omega
      · rw [hd] at HFA
        have HD := Lib.hid hd
        clear hd
        go_wp2_with (go_at_call 147; (with_reducible refine (HFA.out _ ?_).mono ?_); (· repeat (first | exact New.refl _ | apply New.alloc)); rintro e w6 ⟨rfl, n6⟩; have N6 := Lib.hid (show New wr w6 from (by have := n6; first | exact this | exact ((New.refl wr).alloc _).trans this)); clear n6)
        go_ret
        exact ⟨⟨_, rfl, by rw [HMS.out HD.out]; exact decide_eq_true (by omega)⟩, HNEW.out.trans N6.out⟩
    · obtain rfl : N = k := by omega
      have HF := Lib.hid (show R = false by rw [HR.out, HALL.out])
      go_wp2_with fail
      go_ret
      exact ⟨⟨_, rfl, by rw [HF.out]; rfl⟩, HNEW.out⟩
set_option maxHeartbeats 4000000 in
theorem contains1_c (ok : Nat → Bool) (g : Nat) (av : Option Addr) (cap : Nat) (L : List (Int × Int)) (w : World) (hl : L.length ≤ 17592186044415) (hP : Prs w av L)
    (hF : ∀ w1, New w w1 → ∀ k, k < L.length → Calls Tryd.prog 147 #[prv (pA L k) (pB L k), .pointer (some ⟨g, 0, none⟩)] w1 fun en w' => en = .returned (.bool (ok k)) ∧ New w1 w') :
    Calls Tryd.prog 72 #[.slice av L.length cap, .func (.func 147) #[] #[.pointer (some ⟨g, 0, none⟩)]] w fun en w' => en = .returned (.bool ((List.range L.length).any ok)) ∧ New w w' := by
  have HI := Lib.hid (index1_c ok g av cap L w hl hP hF)
  clear hl hP hF
  generalize (List.range L.length).any ok = R at *
  generalize L.length = N at *
  go_enter Tryd.func72, Tryd.ntmps72
  go_wp2_with (go_at_call 133; refine HI.out.mono ?_; rintro e w6 ⟨⟨i, rfl, hi⟩, n6⟩; have HI6 := Lib.hid hi; clear hi)
  go_ret
  exact ⟨ret_bool HI6.out, n6⟩
set_option maxHeartbeats 8000000 in
theorem index2_c (ok : Nat → Bool) (g g2 : Nat) (av : Option Addr) (cap : Nat) (L : List (Int × Int)) (w : World) (hl : L.length ≤ 17592186044415) (hP : Prs w av L)
    (hF : ∀ w1, New w w1 → ∀ k, k < L.length → Calls Tryd.prog 148 #[prv (pA L k) (pB L k), .pointer (some ⟨g, 0, none⟩), .pointer (some ⟨g2, 0, none⟩)] w1 fun en w' => en = .returned (.bool (ok k)) ∧ New w1 w') :
    Calls Tryd.prog 133 #[.slice av L.length cap, .func (.func 148) #[] #[.pointer (some ⟨g, 0, none⟩), .pointer (some ⟨g2, 0, none⟩)]] w fun en w' => (∃ i : Int, en = .returned (.int .i64 i) ∧ decide (i ≥ 0) = (List.range L.length).any ok) ∧ New w w' := by
  obtain ⟨N, hN⟩ : ∃ N, N = L.length := ⟨_, rfl⟩
  have HP := Lib.hid hP
  have HF0 := Lib.hid hF
  obtain ⟨R, hR⟩ : ∃ R, (List.range L.length).any ok = R := ⟨_, rfl⟩
  rw [hR]
  have HR := Lib.hid (show R = (List.range N).any ok by rw [hN, hR])
  have HNL := Lib.hid hN
  rw [← hN] at hl ⊢
  clear hP hN hF hR
  go_enter Tryd.func133, Tryd.ntmps133
  go_wp2_with fail
  go_loopw [8] (fun i wr => ∃ k : Nat, k ≤ N ∧ i = .int .i64 k ∧ (List.range k).any ok = false ∧ New w wr) (fun i _ => N - (intOf i).toNat)
  case atStart => exact ⟨0, Nat.zero_le _, rfl, rfl, New.refl _⟩
  case round =>
    obtain ⟨k, hk, rfl, hall, hnew⟩ := hrel
    have HALL := Lib.hid hall
    have HNEW := Lib.hid hnew
    clear hall hnew
    by_cases hlt : k < N
    · obtain ⟨b, off, rfl, gl, hcc⟩ := HP.out.new HNEW.out (by rw [← HNL.out]; omega)
      obtain ⟨c1, c2⟩ := hcc k (by rw [← HNL.out]; omega)
      have hk1 : (k : Int) < (N : Int) := by omega
      have HSN := Lib.hid (any_snoc ok k)
      have HMS := Lib.hid (fun (e : ok k = true) => (by rw [HR.out, any_hit hlt e] : R = true))
      have HFA := Lib.hid (fun (w1 : World) (hn : New wr w1) => HF0.out w1 (HNEW.out.trans hn) k (by rw [← HNL.out]; omega))
      clear hcc
      generalize pA L k = x at *
      generalize pB L k = y at *
      cases hd : ok k
      · rw [hd] at HFA
        have HD := Lib.hid hd
        clear hd
        go_wp2_with (go_at_call 148; (with_reducible refine (HFA.out _ ?_).mono ?_); (· repeat (first | exact New.refl _ | apply New.alloc)); rintro e w6 ⟨rfl, n6⟩; have N6 := Lib.hid (show New wr w6 from (by have := n6; first | exact this | exact ((New.refl wr).alloc _).trans this)); clear n6)
        go_roundw
        case rel => exact ⟨k + 1, by omega, by go_num, by rw [HSN.out, HALL.out, HD.out]; rfl, HNEW.out.trans N6.out⟩
        case measure => simp [intOf]; omega
      · rw [hd] at HFA
        have HD := Lib.hid hd
        clear hd
        go_wp2_with (go_at_call 148; (with_reducible refine (HFA.out _ ?_).mono ?_); (· repeat (first | exact New.refl _ | apply New.alloc)); rintro e w6 ⟨rfl, n6⟩; have N6 := Lib.hid (show New wr w6 from (by have := n6; first | exact this | exact ((New.refl wr).alloc _).trans this)); clear n6)
        go_ret
        exact ⟨⟨_, rfl, by rw [HMS.out HD.out]; exact decide_eq_true (by omega)⟩, HNEW.out.trans N6.out⟩
    · obtain rfl : N = k := by omega
      have HF := Lib.hid (show R = false by rw [HR.out, HALL.out])
      go_wp2_with fail
      go_ret
      exact ⟨⟨_, rfl, by rw [HF.out]; rfl⟩, HNEW.out⟩
set_option maxHeartbeats 4000000 in
theorem contains2_c (ok : Nat → Bool) (g g2 : Nat) (av : Option Addr) (cap : Nat) (L : List (Int × Int)) (w : World) (hl : L.length ≤ 17592186044415) (hP : Prs w av L)
    (hF : ∀ w1, New w w1 → ∀ k, k < L.length → Calls Tryd.prog 148 #[prv (pA L k) (pB L k), .pointer (some ⟨g, 0, none⟩), .pointer (some ⟨g2, 0, none⟩)] w1 fun en w' => en = .returned (.bool (ok k)) ∧ New w1 w') :
    Calls Tryd.prog 72 #[.slice av L.length cap, .func (.func 148) #[] #[.pointer (some ⟨g, 0, none⟩), .pointer (some ⟨g2, 0, none⟩)]] w fun en w' => en = .returned (.bool ((List.range L.length).any ok)) ∧ New w w' := by
  have HI := Lib.hid (index2_c ok g g2 av cap L w hl hP hF)
  clear hl hP hF
  generalize (List.range L.length).any ok = R at *
  generalize L.length = N at *
  go_enter Tryd.func72, Tryd.ntmps72
  go_wp2_with (go_at_call 133; refine HI.out.mono ?_; rintro e w6 ⟨⟨i, rfl, hi⟩, n6⟩; have HI6 := Lib.hid hi; clear hi)
  go_ret
  exact ⟨ret_bool HI6.out, n6⟩

open Go.Maps
theorem keyed_int : Keyed Tryd.prog 3 := int_keyed Tryd.underlying3
theorem zero_bool (w : World) : (zeroValue 4).run Tryd.prog w = .ok (.bool false) w := by kernel_rfl
theorem pe_bool_inv {H : Type} {P : Program} {e : TypeId} (he : P.underlying e = some .bool) {v : Value} {z : DataW H × List MemPlace} (h : plainElem P e v = some z) : ∃ x, v = .bool x ∧ z = (.lit (.bool x), []) := by
  unfold plainElem at h
  rw [he] at h
  cases v <;> simp at h
  exact ⟨_, rfl, h.symm⟩
/-- the map holds the days of the first k places -/
structure TkM (l : List Int) (k : Nat) (m : Nat) (w : World) (D : DataW Unit) : Prop where
  ow : w.ownsMap Tryd.prog 3 (plainElem (H := Unit) Tryd.prog 4) m k D
  im : IsMap D
  at' : ∀ y : Int, D.atKey (.int .i64 y) (.lit (.bool false)) = .lit (.bool (hasR (l.take k) y))
theorem has_snoc {l : List Int} {k : Nat} (hk : k < l.length) (y : Int) : hasR (l.take (k + 1)) y = (hasR (l.take k) y || decide (nI l k = y)) := by
  rw [Bool.eq_iff_iff, Bool.or_eq_true, hasR_iff, hasR_iff, decide_eq_true_eq]
  simp only [List.length_take, Nat.min_eq_left (show k + 1 ≤ l.length by omega), Nat.min_eq_left (show k ≤ l.length by omega)]
  constructor
  · rintro ⟨j, hj, e⟩
    rw [nI_take hj] at e
    by_cases h : j = k
    · subst h; exact .inr e
    · exact .inl ⟨j, by omega, by rw [nI_take (by omega)]; exact e⟩
  · rintro (⟨j, hj, e⟩ | e)
    · rw [nI_take hj] at e
      exact ⟨j, by omega, by rw [nI_take (by omega)]; exact e⟩
    · exact ⟨k, by omega, by rw [nI_take (by omega)]; exact e⟩
theorem TkM.put {l : List Int} {k m : Nat} {w w2 : World} {D : DataW Unit} (h : TkM l k m w D) (hk : k < l.length) (hy : (Lit.int .i64 (nI l k)).wf = true) (ho : w2.ownsMap Tryd.prog 3 (plainElem (H := Unit) Tryd.prog 4) m (k + 1) (D.put (.int .i64 (nI l k)) (.lit (.bool true)))) : TkM l (k + 1) m w2 (D.put (.int .i64 (nI l k)) (.lit (.bool true))) := by
  have hkl : WideAt.IsKeyLit (.int .i64 (nI l k)) := keyed_int.key (keyOf_int_mk Tryd.underlying3 hy)
  refine ⟨ho, h.im.put _ _, fun y => ?_⟩
  rw [has_snoc hk]
  by_cases e : nI l k = y
  · subst e
    rw [atKey_put_same h.im hkl, decide_eq_true rfl, Bool.or_true]
  · rw [atKey_put_other (fun h' => e (by injection h' with _ h'; exact h'.symm)), h.at', decide_eq_false e, Bool.or_false]
def dayB (l : List Int) (k : Nat) : Bool := (decide (0 ≤ nI l k) && decide (nI l k ≤ 2000)) && !(hasR (l.take k) (nI l k))
/-- whether days are kept -/
def kpB (o : Prb) (n : Nat) (dry : Int) (l : List Int) : Bool := ((decide ((l.length : Int) = (n : Int)) && (List.range l.length).all (dayB l)) && !((List.range o.A.length).any fun i => earB l (pA o.A i) (pB o.A i))) && !((List.range o.B.length).any fun i => weaB dry l (pA o.B i) (pB o.B i))
structure AkL (w wr : World) (H : Nat) (G : Gph) (dry : Int) (lv : Option Addr) (lc : Nat) (l : List Int) : Prop where
  nw : New w wr
  gr : Gr wr H G
  db : wr.heap[H + 1]? = some (.cells #[.int .i64 dry] 3 (0, 0))
  sb : wr.heap[H + 2]? = some (.cells #[.slice lv l.length lc] 31 (0, 0))
theorem AkL.new {w wr W : World} {H : Nat} {G : Gph} {dry : Int} {lv : Option Addr} {lc : Nat} {l : List Int} (h : AkL w wr H G dry lv lc l) (hn : New wr W) : AkL w W H G dry lv lc l :=
  ⟨h.nw.trans hn, h.gr.new hn, row_new h.db hn, row_new h.sb hn⟩
theorem AkL.grown {w wr W : World} {H m : Nat} {G : Gph} {dry : Int} {lv : Option Addr} {lc : Nat} {l : List Int} (h : AkL w wr H G dry lv lc l) (hH : w.heap.size = H) (hn : wr.grownBy W (some m)) (hm : H + 3 ≤ m) : AkL w W H G dry lv lc l := by
  have key : ∀ k o, k ≠ m → wr.heap[k]? = some o → W.heap[k]? = some o := fun k o hk e => (hn.block k (Array.getElem?_eq_some_iff.1 e).1 (fun h => hk (by injection h))).trans e
  exact ⟨new_grownBy h.nw hn (by omega), key _ _ (by omega) h.gr, key _ _ (by omega) h.db, key _ _ (by omega) h.sb⟩

set_option maxHeartbeats 16000000 in
theorem areKept_c {w : World} {v : Value} {o : Prb} {av nv : Value} (h : PrbA w v o av nv) (hc : chkI o = 0) (dry : Int) (lv : Option Addr) (lc : Nat) (l : List Int) (hl : l.length ≤ 17592186044415) (hP : Ins w lv l) :
    Calls Tryd.prog 123 #[.agg (opG o av nv).cells.toArray, .int .i64 dry, .slice lv l.length lc] w fun en w' => en = .returned (.bool (kpB o (opG o av nv).n dry l)) ∧ New w w' := by
  have hOK := opG_ok hc h.sh
  have hin := chkI_zero hc
  have hgn : ((opG o av nv).n : Int) = o.n := by have := hin.1; show ((o.n.toNat : Nat) : Int) = o.n; omega
  obtain ⟨R, hR⟩ : ∃ R, kpB o (opG o av nv).n dry l = R := ⟨_, rfl⟩
  rw [hR]
  have HR := Lib.hid (show (((decide ((l.length : Int) = ((opG o av nv).n : Int)) && (List.range l.length).all (dayB l)) && !((List.range o.A.length).any fun i => earB l (pA o.A i) (pB o.A i))) && !((List.range o.B.length).any fun i => weaB dry l (pA o.B i) (pB o.B i))) = R from hR)
  clear hR
  have HIA := Lib.hid (fun i (hi : i < o.A.length) => arB_in hin.2.1 i hi)
  have HIB := Lib.hid (fun i (hi : i < o.B.length) => arB_in hin.2.2.1 i hi)
  obtain ⟨⟨⟨a1, ac, n1, nc, hv, hPA, hPB⟩, hla, hlb⟩, ⟨a2, ac2, n2, nc2, e1, e2⟩, heq⟩ := h
  rw [hv] at heq
  rw [e1, e2] at heq
  injection heq with heq
  injection heq with heq
  simp only [List.cons.injEq, Value.slice.injEq, and_true, true_and] at heq
  obtain ⟨⟨rfl, rfl⟩, rfl, rfl⟩ := heq
  have HPA := Lib.hid hPA
  have HPB := Lib.hid hPB
  have HLI := Lib.hid (And.intro hla hlb)
  have HP := Lib.hid hP
  have HDY := Lib.hid (show ∀ k, dayB l k = ((decide (0 ≤ nI l k) && decide (nI l k ≤ 2000)) && !(hasR (l.take k) (nI l k))) from fun _ => rfl)
  clear hPA hPB hP hla hlb hv hin
  have hAV : (opG o av nv).av = .slice a1 o.A.length ac := e1
  have hNV : (opG o av nv).nv = .slice n1 o.B.length nc := e2
  have HOK := Lib.hid hOK
  have HGN := Lib.hid hgn
  have h24 := hOK.n24
  generalize opG o av nv = G at *
  clear hOK hgn e1 e2
  obtain ⟨H, hH⟩ : ∃ H, w.heap.size = H := ⟨_, rfl⟩
  have HH := Lib.hid hH
  have HG0 := Lib.hid (Gr.box w G)
  have c0 := HG0.out.n
  rw [hH] at c0
  obtain ⟨GC, hGC⟩ : ∃ GC, GC = G.cells.toArray := ⟨_, rfl⟩
  rw [← hGC] at HG0 c0 ⊢
  have HGC := Lib.hid hGC
  clear hGC
  generalize hN : l.length = N at *
  have HNL := Lib.hid hN
  clear hN
  by_cases hlen : (N : Int) = (G.n : Int)
  · have hl1 : ((N : Int) != (G.n : Int)) = false := by simpa using hlen
    rw [decide_eq_true hlen, Bool.true_and] at HR
    have HLEN := Lib.hid hlen
    clear hlen
    have hmm := @run_makeMap Tryd.prog
    have HL0 := Lib.hid (show AkL w ((((w.alloc (.cells GC 83)).alloc (.cells #[.int .i64 dry] 3)).alloc (.cells #[.slice lv N lc] 31)).alloc (.map #[] 0)) H G dry lv lc l from by
      obtain ⟨q1, q2, q3, q4, q5⟩ := alloc4_heap w (.cells GC 83) (.cells #[.int .i64 dry] 3) (.cells #[.slice lv N lc] 31) (.map #[] 0) H HH.out
      exact ⟨((((New.refl w).alloc _).alloc _).alloc _).alloc _, by rw [HGC.out] at q1 ⊢; exact q1, q2, by rw [HNL.out]; exact q3⟩)
    have HM0 := Lib.hid (show TkM l 0 (H + 3) ((((w.alloc (.cells GC 83)).alloc (.cells #[.int .i64 dry] 3)).alloc (.cells #[.slice lv N lc] 31)).alloc (.map #[] 0)) (.map []) from by
      have := World.ownsMap_made (((w.alloc (.cells GC 83)).alloc (.cells #[.int .i64 dry] 3)).alloc (.cells #[.slice lv N lc] 31)) Tryd.prog 3 (plainElem (H := Unit) Tryd.prog 4)
      simp only [World.size_alloc, HH.out] at this
      exact ⟨this, isMap_empty, fun y => by simp [hasR]; rfl⟩)
    go_enter Tryd.func123, Tryd.ntmps123
    go_wp2_with fail
    clear hmm c0
    go_loopw [21] (fun i wr => ∃ (k : Nat) (D : DataW Unit), k ≤ N ∧ i = .int .i64 k ∧ (List.range k).all (dayB l) = true ∧ AkL w wr H G dry lv lc l ∧ TkM l k (H + 3) wr D) (fun i _ => N - (intOf i).toNat)
    case atStart => exact ⟨0, .map [], Nat.zero_le _, rfl, rfl, HL0.out, HM0.out⟩
    case round =>
      obtain ⟨k, D, hk, rfl, hall, hL, hM⟩ := hrel
      have HALL := Lib.hid hall
      have HL := Lib.hid hL
      have HM := Lib.hid hM
      clear hall hL hM HL0 HM0
      by_cases hlt : k < N
      · obtain ⟨b, off, rfl, gl, hcc⟩ := HP.out.new HL.out.nw (by rw [HNL.out]; omega)
        have c1 := hcc k (by rw [HNL.out]; omega)
        have hk1 : (k : Int) < (N : Int) := by omega
        have HSN := Lib.hid (all_snoc (dayB l) k)
        have HDk := Lib.hid (HDY.out k)
        have HMS := Lib.hid (fun (e : dayB l k = false) => (by rw [← HR.out, all_miss hlt e]; rfl : R = false))
        clear hcc
        obtain ⟨y, hy⟩ : ∃ y, nI l k = y := ⟨_, rfl⟩
        have HY := Lib.hid hy
        rw [hy] at c1 HDk
        clear hy
        by_cases u1 : y < 0
        · have HF := Lib.hid (show R = false from HMS.out (by rw [HDk.out, decide_eq_false (show ¬ 0 ≤ y by omega)]; rfl))
          go_wp2_with fail
          go_ret
          exact ⟨ret_bool HF.out.symm, HL.out.nw⟩
        · by_cases u2 : y > 2000
          · have HF := Lib.hid (show R = false from HMS.out (by rw [HDk.out, decide_eq_false (show ¬ y ≤ 2000 by omega), Bool.and_false]; rfl))
            go_wp2_with fail
            go_ret
            exact ⟨ret_bool HF.out.symm, HL.out.nw⟩
          · rw [decide_eq_true (show 0 ≤ y by omega), decide_eq_true (show y ≤ 2000 by omega)] at HDk
            have hwf : (Lit.int .i64 y).wf = true := WalkArith.wf_i64 (by omega)
            obtain ⟨v0, ps0, hrun, hv0⟩ := HM.out.ow.lookup keyed_int Tryd.underlying150 (zero_bool wr) (plainElem_bool Tryd.underlying4 false) (keyOf_int_mk Tryd.underlying3 hwf)
            rw [HM.out.at' y] at hv0
            obtain ⟨x0, rfl, hx0⟩ := pe_bool_inv Tryd.underlying4 hv0
            have hx0' : hasR (l.take k) y = x0 := by
              injection hx0 with hx0 _
              injection hx0 with hx0
              injection hx0
            rw [hx0'] at HDk
            clear hx0 hx0' hv0
            cases x0
            · have HV := Lib.hid (show dayB l k = true from HDk.out)
              have HPUT := Lib.hid (fun (w2 : World) (ho : w2.ownsMap Tryd.prog 3 (plainElem (H := Unit) Tryd.prog 4) (H + 3) (k + 1) (D.put (.int .i64 y) (.lit (.bool true)))) => (by
                have := HM.out.put (w2 := w2) (by rw [HNL.out]; exact hlt) (by rw [HY.out]; exact hwf)
                rw [HY.out] at this
                exact this ho : TkM l (k + 1) (H + 3) w2 (D.put (.int .i64 y) (.lit (.bool true)))))
              go_wp2_with (at_mapUpdate; refine wpList_mapUpdate_own _ rfl _ _ _ 150 rfl 3 4 keyed_int Tryd.underlying150 _ (H + 3) k D rfl HM.out.ow (by unfold maxLen; omega) _ _ _ rfl rfl (keyOf_int_mk Tryd.underlying3 hwf) _ [] (plainElem_bool Tryd.underlying4 true) ?_; intro w2 hown2 hgrow2; have HO2 := Lib.hid (HPUT.out w2 hown2); have HL2 := Lib.hid (HL.out.grown HH.out hgrow2 (Nat.le_refl _)); clear hown2 hgrow2)
              go_roundw
              case rel => exact ⟨k + 1, _, by omega, by go_num, by rw [HSN.out, HALL.out, HV.out]; rfl, HL2.out, HO2.out⟩
              case measure => simp [intOf]; omega
            · have HF := Lib.hid (show R = false from HMS.out (by rw [HDk.out]; rfl))
              go_wp2_with fail
              go_ret
              exact ⟨ret_bool HF.out.symm, HL.out.nw⟩
      · have ht : ¬ ((k : Int) < (N : Int)) := by omega
        obtain rfl : N = k := by omega
        rw [HALL.out, Bool.true_and] at HR
        have HSM := Lib.hid (show ∀ j, j < l.length → 0 ≤ nI l j ∧ nI l j ≤ 2000 from fun j hj => by
          have := List.all_eq_true.1 HALL.out j (List.mem_range.2 (by rw [HNL.out] at hj; exact hj))
          unfold dayB at this
          simp only [Bool.and_eq_true, decide_eq_true_eq] at this
          exact this.1)
        have HDC := Lib.hid (fun (w1 : World) (hn : New wr w1) (a b : Int) (ha : 0 ≤ a ∧ a < o.n) (hb : 0 ≤ b ∧ b < o.n) => (by
          have hw := HL.out.new hn
          have hln : (l.length : Int) = o.n := by rw [HNL.out, HLEN.out, HGN.out]
          exact ⟨⟨lv, lc, hw.sb, HP.out.new hw.nw⟩, by omega, by omega, HSM.out⟩ : DaC w1 (H + 2) l a b))
        have HC1 := Lib.hid (fun (w1 : World) (hn : New wr w1) => contains1_c (fun i => earB l (pA o.A i) (pB o.A i)) (H + 2) a1 ac o.A w1 HLI.out.1 (HPA.out.new (HL.out.nw.trans hn)) (fun w2 hn2 i hi => early_c (HDC.out w2 (hn.trans hn2) _ _ (HIA.out i hi).1 (HIA.out i hi).2.1)))
        have HC2 := Lib.hid (fun (w1 : World) (hn : New wr w1) => contains2_c (fun i => weaB dry l (pA o.B i) (pB o.B i)) (H + 2) (H + 1) n1 nc o.B w1 HLI.out.2 (HPB.out.new (HL.out.nw.trans hn)) (fun w2 hn2 i hi => wet_c (HDC.out w2 (hn.trans hn2) _ _ (HIB.out i hi).1 (HIB.out i hi).2.1) (row_new HL.out.db (hn.trans hn2))))
        have c1 : wr.cell? ⟨H, 1, none⟩ = some (.slice a1 o.A.length ac) := by rw [HL.out.gr.av, hAV]
        have c2 : wr.cell? ⟨H, 2, none⟩ = some (.slice n1 o.B.length nc) := by rw [HL.out.gr.nv, hNV]
        have hHl := HL.out.gr.lt
        generalize ((List.range o.A.length).any fun i => earB l (pA o.A i) (pB o.A i)) = q1 at *
        generalize ((List.range o.B.length).any fun i => weaB dry l (pA o.B i) (pB o.B i)) = q2 at *
        generalize o.A.length = LA at *
        generalize o.B.length = LB at *
        cases q1
        · rw [Bool.not_false, Bool.true_and] at HR
          go_wp2_with (first | (go_at_call 72; (with_reducible refine (HC1.out _ ?_).mono ?_); (· exact New.refl _); rintro e w6 ⟨rfl, n6⟩; have N6 := Lib.hid n6; have c3 : w6.cell? ⟨H, 2, none⟩ = some (.slice n1 LB nc) := (n6.cell hHl).trans c2; clear n6) | (go_at_call 72; (with_reducible refine (HC2.out _ ?_).mono ?_); (· exact N6.out); rintro e w7 ⟨rfl, n7⟩; have N7 := Lib.hid (N6.out.trans n7); clear n7))
          go_ret
          exact ⟨ret_bool HR.out, HL.out.nw.trans N7.out⟩
        · have HF := Lib.hid (show R = false from by rw [← HR.out]; rfl)
          go_wp2_with (go_at_call 72; (with_reducible refine (HC1.out _ ?_).mono ?_); (· exact New.refl _); rintro e w6 ⟨rfl, n6⟩; have N6 := Lib.hid n6; clear n6)
          go_ret
          exact ⟨ret_bool HF.out.symm, HL.out.nw.trans N6.out⟩
  · have hl1 : ((N : Int) != (G.n : Int)) = true := by simpa using hlen
    have HF := Lib.hid (show R = false by rw [← HR.out, decide_eq_false hlen]; rfl)
    clear hlen
    go_enter Tryd.func123, Tryd.ntmps123
    go_wp2_with fail
    go_ret
    exact ⟨ret_bool HF.out.symm, ((((New.refl _).alloc _).alloc _).alloc _)⟩
set_option maxHeartbeats 8000000 in
theorem CheckDays_c {w : World} {v : Value} {o : Prb} {av nv : Value} (h : PrbA w v o av nv) (d : Int) (lv : Option Addr) (lc : Nat) (l : List Int) (hl : l.length ≤ 17592186044415) (hP : Ins w lv l) :
    Calls Tryd.prog 57 #[v, .int .i64 d, .slice lv l.length lc] w fun en w' => en = .returned (.tuple #[.bool (decide (dryI o d = 0) && kpB o (opG o av nv).n d l), .int .i64 (dryI o d)]) ∧ New w w' := by
  have HO := Lib.hid (fun (w1 : World) (hn : New w w1) => openDry_c (h.new hn) d)
  have H0 := h
  have hv := h.eq
  obtain ⟨x1, x2, x3, x4, e1, e2⟩ := h.sh
  by_cases hc : dryI o d = 0
  · obtain ⟨hk, hd0, hd1⟩ := dryI_chk hc
    rw [hc, ofG_good hk] at HO
    have HOK := Lib.hid (opG_ok hk H0.sh)
    have HIS := Lib.hid (fun (w1 : World) (hn : New w w1) => areKept_c (H0.new hn) hk d lv lc l hl (hP.new hn))
    rw [decide_eq_true hc, Bool.true_and, hc]
    clear hP hc H0 h hk
    generalize kpB o (opG o av nv).n d l = b at *
    generalize opG o av nv = RG at *
    subst hv
    subst e1 e2
    go_enter Tryd.func57, Tryd.ntmps57
    go_wp2_with (first | (go_at_call 122; (with_reducible refine (HO.out _ ?_).mono ?_); (repeat (first | exact New.refl _ | apply New.alloc)); rintro e w6 ⟨rfl, n6⟩; have HN := Lib.hid (((New.refl w).alloc _).trans n6); clear n6) | (refine wpList_store_graph rfl (.tmp 8) (.tmp 14) rfl rfl rfl HOK.out ?_; intro w7 n7 g7; obtain ⟨g, hg⟩ : ∃ g, w6.heap.size = g := ⟨_, rfl⟩; simp only [hg] at g7 ⊢; have N7 := Lib.hid (HN.out.trans n7); have G7 := Lib.hid g7; clear n7 g7) | (refine wpList_want_graph (.tmp 8) rfl rfl g rfl G7.out ?_) | (go_at_call 123; (with_reducible refine (HIS.out _ ?_).mono ?_); (· exact N7.out); rintro e w8 ⟨rfl, n8⟩; have N8 := Lib.hid (N7.out.trans n8); clear n8))
    go_ret2
    exact ⟨rfl, N8.out⟩
  · have he : (dryI o d == 0) = false := by simpa using hc
    have HOK := Lib.hid G0_ok
    rw [ofG_bad hc] at HO
    rw [decide_eq_false hc, Bool.false_and]
    clear hP hc H0 h
    generalize dryI o d = E at *
    subst hv
    subst e1 e2
    go_enter Tryd.func57, Tryd.ntmps57
    go_wp2_with (first | (go_at_call 122; (with_reducible refine (HO.out _ ?_).mono ?_); (repeat (first | exact New.refl _ | apply New.alloc)); rintro e w6 ⟨rfl, n6⟩; have HN := Lib.hid (((New.refl w).alloc _).trans n6); clear n6) | (refine wpList_store_graph rfl (.tmp 8) (.tmp 14) rfl rfl rfl HOK.out ?_; intro w7 n7 g7; obtain ⟨g, hg⟩ : ∃ g, w6.heap.size = g := ⟨_, rfl⟩; simp only [hg] at g7 ⊢; have N7 := Lib.hid (HN.out.trans n7); have G7 := Lib.hid g7; clear n7 g7))
    go_ret2
    exact ⟨rfl, N7.out⟩
end Go.Proofs.YtiejefehcpfkaaaDoor
