/- The law OrderEarliest: the days of an order are the least, and Wait ends no later. Any problem, number and list of days. -/
import Derived.Test.YtiejefehcpfkaaaDoorWg
import Derived.Test.YtiejefehcpfkaaaDoorTc
import Derived.Test.YtiejefehcpfkaaaDoorUk
set_option linter.unusedSimpArgs false
set_option linter.unusedVariables false
set_option maxRecDepth 100000
namespace Go.Proofs.YtiejefehcpfkaaaDoor
open Go.RowKit Go.Shelf

attribute [local go_sem] Oper.semAt_some

theorem box3z {w : World} {H : Nat} {a b c : Value} {T : TypeId} (h : w.heap[H]? = some (.cells #[a, b, c] T (0, 0))) : w.cell? ⟨H, 0, none⟩ = some a ∧ w.cell? ⟨H, 1, none⟩ = some b ∧ w.cell? ⟨H, 2, none⟩ = some c ∧ H < w.heap.size :=
  ⟨(cell_of_row w H 0 _ _ _ h).trans rfl, (cell_of_row w H 1 _ _ _ h).trans rfl, (cell_of_row w H 2 _ _ _ h).trans rfl, (Array.getElem?_eq_some_iff.1 h).1⟩
def lenZ : Value → Nat
  | .slice _ n _ => n
  | _ => 0
theorem Kept.congr {o : Prb} {av nv : Value} (hc : chkI o = 0) {dry : Int} {D D' : Nat → Int} (h : Kept o (opG o av nv).n dry D) (e : ∀ k, k < (opG o av nv).n → D' k = D k) : Kept o (opG o av nv).n dry D' := by
  obtain ⟨c1, c2, c3, c4⟩ := chkI_zero hc
  have hon : ((opG o av nv).n : Int) = o.n := by show ((o.n.toNat : Nat) : Int) = o.n; omega
  refine ⟨fun k hk => by rw [e k hk]; exact h.rg k hk, fun j k hj hk => by rw [e j (by omega), e k hk]; exact h.ne j k hj hk, fun i hi => ?_, fun i hi => ?_⟩
  · have := arB_in c2 i hi
    rw [e _ (by omega), e _ (by omega)]; exact h.ar i hi
  · have := arB_in c3 i hi
    rw [e _ (by omega), e _ (by omega)]; exact h.we i hi
/-- the days of an order, as a list, are kept -/
theorem er_kp {o : Prb} {av nv : Value} (hc : chkI o = 0) {dry : Nat} (hd : dry ≤ 30) {l : List Int} (h : ioB (opG o av nv) l = true) : kpB o (opG o av nv).n dry ((List.range (opG o av nv).n).map (erF (opG o av nv) dry l (opG o av nv).n)) = true := by
  refine kp_iff.2 ⟨by simp, Kept.congr hc (er_kept hc hd h) fun k hk => ?_⟩
  rw [(ioB_facts h).1]
  simp [nI, List.getD_eq_getElem?_getD, hk]
set_option maxHeartbeats 4000000 in
theorem lastz_c {w : World} {n : Nat} {d : Nat → Int} (b c : Nat) (hI : Iv w b n d) (hn : n ≤ 1000) (hd : ∀ k, k < n → -1 ≤ d k ∧ d k ≤ 4611686018427387904) :
    Calls Tryd.prog 66 #[.slice (some ⟨b, 0, none⟩) n c] w fun en w' => en = .returned (.int .i64 (lastM d n)) ∧ New w w' := by
  have HI := Lib.hid hI
  have HD := Lib.hid hd
  have H0 := Lib.hid (show lastM d 0 = -1 from rfl)
  have HS := Lib.hid (show ∀ k, lastM d (k + 1) = max (lastM d k) (d k) from fun _ => rfl)
  have HBD := Lib.hid (fun k (hk : k ≤ n) => (⟨(lastM_ge (d := d) k).2, lastM_le (d := d) (M := 4611686018427387904) k (by omega) (fun i hi => (hd i (by omega)).2)⟩ : -1 ≤ lastM d k ∧ lastM d k ≤ 4611686018427387904))
  clear hI hd
  generalize lastM d = la at *
  go_enter Tryd.func66, Tryd.ntmps66
  go_wp2_with fail
  go_loopw [3, 8] (fun m i wr => ∃ k : Nat, k ≤ n ∧ i = .int .i64 k ∧ m = .int .i64 (la k) ∧ New w wr) (fun _ i _ => n - (intOf i).toNat)
  case atStart => exact ⟨0, Nat.zero_le _, rfl, by rw [H0.out], New.refl _⟩
  case round =>
    obtain ⟨k, hk, rfl, rfl, hnew⟩ := hrel
    have HNEW := Lib.hid hnew
    clear hnew
    by_cases hlt : k < n
    · have hk1 : (k : Int) < (n : Int) := by omega
      have c1 : wr.cell? ⟨b, k, none⟩ = some (.int .i64 (d k)) := (HNEW.out.cell HI.out.lt).trans (HI.out.at k hlt)
      have hb1 := HBD.out k hk
      have hb2 := HD.out k hlt
      have HSk := Lib.hid (HS.out k)
      generalize la k = x at *
      generalize d k = y at *
      by_cases hxy : x < y
      · have HMX := Lib.hid (show max x y = y by omega)
        go_wp2_with fail
        go_roundw
        case rel => exact ⟨k + 1, by omega, by go_num, by rw [HSk.out, HMX.out], HNEW.out⟩
        case measure => simp [intOf]; omega
      · have HMX := Lib.hid (show max x y = x by omega)
        go_wp2_with fail
        go_roundw
        case rel => exact ⟨k + 1, by omega, by go_num, by rw [HSk.out, HMX.out], HNEW.out⟩
        case measure => simp [intOf]; omega
    · have ht : ¬ ((k : Int) < (n : Int)) := by omega
      obtain rfl : n = k := by omega
      go_wp2_with fail
      go_ret
      exact ⟨rfl, HNEW.out⟩

set_option maxHeartbeats 16000000 in
theorem OrderEarliest_c {w : World} {v : Value} {o : Prb} {av nv : Value} (h : PrbA w v o av nv) (hT : Tab w) (d : Int) (mv : Option Addr) (mc : Nat) (m : List Int) (hmcap : m.length ≤ mc) (hP : Ins w mv m) :
    Calls Tryd.prog 16 #[v, .int .i64 d, .slice mv m.length mc] w fun en w' => en = .returned (.bool true) ∧ New w w' := by
  have HSL := Lib.hid (fun (w1 : World) (hn : New w w1) => slim_c (h.pv.new hn))
  have HAL := Lib.hid (fun (w1 : World) (hn : New w w1) => alive_c w1 (hT.new hn))
  have hv := h.eq
  obtain ⟨x1, x2, x3, x4, e1, e2⟩ := h.sh
  have H0 := h
  rw [e1, e2] at hv
  subst hv
  obtain ⟨H, hH⟩ : ∃ H, w.heap.size = H := ⟨_, rfl⟩
  have HB := Lib.hid (show (w.alloc (.cells #[.int .i64 o.n, .slice x1 o.A.length x2, .slice x3 o.B.length x4] 24)).heap[H]? = some (.cells #[.int .i64 o.n, .slice x1 o.A.length x2, .slice x3 o.B.length x4] 24 (0, 0)) from by rw [← hH]; exact World.alloc_heap_new w _)
  have hcs : (decide ((o.A.length : Int) ≤ 600) && decide ((o.B.length : Int) ≤ 300)) = false ∨ (decide ((o.A.length : Int) ≤ 600) && decide ((o.B.length : Int) ≤ 300)) = true ∧ ((m.length : Int) > 24 ∨ ¬ (m.length : Int) > 24) := by
    cases (decide ((o.A.length : Int) ≤ 600) && decide ((o.B.length : Int) ≤ 300))
    · exact .inl rfl
    · exact .inr ⟨rfl, Classical.em _⟩
  rcases hcs with hsl | ⟨hsl, h24 | h24⟩
  all_goals rw [hsl] at HSL
  all_goals clear hsl
  iterate 2
    · clear H0 h hP hT e1 e2 hmcap
      generalize m.length = M at *
      go_enter Tryd.func16, Tryd.ntmps16
      go_wp2_with (first | (go_at_call 20; (with_reducible refine (HSL.out _ ?_).mono ?_); (· exact (New.refl w).alloc _); rintro e w6 ⟨rfl, n6⟩; have N6 := Lib.hid (((New.refl w).alloc _).trans n6); clear n6) | (go_at_call 21; (with_reducible refine (HAL.out _ ?_).mono ?_); (· exact N6.out); rintro e w9 ⟨rfl, n9⟩; have N9 := Lib.hid (N6.out.trans n9); clear n9))
      go_ret
      exact ⟨rfl, N9.out⟩
  have hm : m.length ≤ 17592186044415 := by omega
  have HCD := Lib.hid (fun (w1 : World) (hn : New w w1) => CheckDays_c (H0.new hn) d mv mc m hm (hP.new hn))
  by_cases hec : dryI o d = 0
  case neg =>
    rw [decide_eq_false hec, Bool.false_and] at HCD
    have he : (dryI o d != 0) = true := by simpa using hec
    have he2 : (dryI o d == 0) = false := by simpa using hec
    clear H0 h hP hT e1 e2 hmcap hm hec
    generalize dryI o d = EC at *
    generalize m.length = M at *
    go_enter Tryd.func16, Tryd.ntmps16
    go_wp2_with (first | (go_at_call 20; (with_reducible refine (HSL.out _ ?_).mono ?_); (· exact (New.refl w).alloc _); rintro e w6 ⟨rfl, n6⟩; have N6 := Lib.hid (((New.refl w).alloc _).trans n6); have HB6 := Lib.hid (row_new HB.out n6); obtain ⟨c0, c1, c2, hHl⟩ := box3z HB6.out; clear n6) | (go_at_call 57; (with_reducible refine (HCD.out _ ?_).mono ?_); (· exact N6.out); rintro e w7 ⟨rfl, n7⟩; have N7 := Lib.hid (N6.out.trans n7); have HB7 := Lib.hid (row_new HB6.out n7); clear c0 c1 c2 hHl; obtain ⟨c0, c1, c2, hHl⟩ := box3z HB7.out; clear n7) | (go_at_call 21; (with_reducible refine (HAL.out _ ?_).mono ?_); (· exact N7.out); rintro e w9 ⟨rfl, n9⟩; have N9 := Lib.hid (N7.out.trans n9); clear n9))
    go_ret
    exact ⟨rfl, N9.out⟩
  cases hkp : kpB o (opG o av nv).n d m
  · rw [hec, decide_eq_true rfl, hkp] at HCD
    clear H0 h hP hT e1 e2 hmcap hm hec hkp
    generalize m.length = M at *
    go_enter Tryd.func16, Tryd.ntmps16
    go_wp2_with (first | (go_at_call 20; (with_reducible refine (HSL.out _ ?_).mono ?_); (· exact (New.refl w).alloc _); rintro e w6 ⟨rfl, n6⟩; have N6 := Lib.hid (((New.refl w).alloc _).trans n6); have HB6 := Lib.hid (row_new HB.out n6); obtain ⟨c0, c1, c2, hHl⟩ := box3z HB6.out; clear n6) | (go_at_call 57; (with_reducible refine (HCD.out _ ?_).mono ?_); (· exact N6.out); rintro e w7 ⟨rfl, n7⟩; have N7 := Lib.hid (N6.out.trans n7); have HB7 := Lib.hid (row_new HB6.out n7); clear c0 c1 c2 hHl; obtain ⟨c0, c1, c2, hHl⟩ := box3z HB7.out; clear n7) | (go_at_call 21; (with_reducible refine (HAL.out _ ?_).mono ?_); (· exact N7.out); rintro e w9 ⟨rfl, n9⟩; have N9 := Lib.hid (N7.out.trans n9); clear n9))
    go_ret
    exact ⟨rfl, N9.out⟩
  rw [hec, decide_eq_true rfl, hkp] at HCD
  obtain ⟨hk, hd0, hd1⟩ := dryI_chk hec
  obtain ⟨dn, rfl⟩ : ∃ dn : Nat, d = dn := ⟨d.toNat, by omega⟩
  obtain ⟨hmn, hkept⟩ := kp_iff.1 hkp
  have hon : ((opG o av nv).n : Int) = o.n := by have := (chkI_zero hk).1; show ((o.n.toNat : Nat) : Int) = o.n; omega
  have hdn : dn ≤ 30 := by omega
  have hN := opG_ne (o := o) av nv hk
  have hsh := H0.sh
  have HSTEP := Lib.hid (fun (x : List Nat) (h1 : Srt (opG o av nv).n (nI m) x) (h2 : x.length < (opG o av nv).n) => srt_step hkept.ne h1 h2)
  have HIO := Lib.hid (fun (x : List Nat) (h1 : Srt (opG o av nv).n (nI m) x) (h2 : x.length = (opG o av nv).n) => srt_io hk hkept h1 h2)
  have HLE := Lib.hid (fun (x : List Nat) (h1 : Srt (opG o av nv).n (nI m) x) (h2 : ioB (opG o av nv) (ints x) = true) (k : Nat) (hk : k < (opG o av nv).n) => (by
    obtain ⟨j, hj, e⟩ := io_onto h2 hk
    have hf := (ioB_facts h2).1
    have := er_least (dry := dn) h2 hN hkept (fun a b hab hb => h1.so a b hab (by rw [ints_len] at hb; exact hb)) (j + 1) j (by omega) hj
    rw [e, hf] at this
    simpa using this : erF (opG o av nv) dn (ints x) (opG o av nv).n k ≤ nI m k))
  have HDY := Lib.hid (fun (w1 : World) (hn : New w w1) (lv : Option Addr) (lc : Nat) (x : List Nat) (h1 : Ins w1 lv (ints x)) (h2 : ioB (opG o av nv) (ints x) = true) (h3 : x.length = (opG o av nv).n) => (by
    have := days_good (H0.new hn) dn lv lc (ints x) (by rw [ints_len]; omega) h1 (hT.new hn) (by unfold dryO; rw [hec, h2]; rfl)
    rw [ints_len, h3] at this
    exact this : Calls Tryd.prog 55 #[.agg #[.int .i64 o.n, .slice x1 o.A.length x2, .slice x3 o.B.length x4], .int .i64 (dn : Int), .slice lv (opG o av nv).n lc] w1 fun en w' => ∃ b c, en = .returned (.tuple #[.slice (some ⟨b, 0, none⟩) (opG o av nv).n c, .int .i64 0]) ∧ New w1 w' ∧ w1.heap.size ≤ b ∧ Iv w' b (opG o av nv).n (erF (opG o av nv) dn (ints x) (opG o av nv).n)))
  have HKD := Lib.hid (fun (w1 : World) (hn : New w w1) (b lc : Nat) (x : List Nat) (h1 : Iv w1 b (opG o av nv).n (erF (opG o av nv) dn (ints x) (opG o av nv).n)) (h2 : ioB (opG o av nv) (ints x) = true) => (by
    have h24 := n24z (o := o) av nv hk
    obtain ⟨a9, c9, e9, i9⟩ := SlI.of_iv (c := lc) h1
    have := CheckDays_c (H0.new hn) dn (some ⟨b, 0, none⟩) lc ((List.range (opG o av nv).n).map (erF (opG o av nv) dn (ints x) (opG o av nv).n)) (by simp; omega) (by injection e9 with e9 _ _; rw [e9]; exact i9)
    rw [hec, er_kp hk hdn h2, List.length_map, List.length_range] at this
    exact this : Calls Tryd.prog 57 #[.agg #[.int .i64 o.n, .slice x1 o.A.length x2, .slice x3 o.B.length x4], .int .i64 (dn : Int), .slice (some ⟨b, 0, none⟩) (opG o av nv).n lc] w1 fun en w' => en = .returned (.tuple #[.bool true, .int .i64 0]) ∧ New w1 w'))
  have HBD := Lib.hid (fun (x : List Nat) (h2 : ioB (opG o av nv) (ints x) = true) (k : Nat) => (by
    have h24 := n24z (o := o) av nv hk
    have hf := (ioB_facts h2).1
    have := erF_bd hdn h2 (opG o av nv).n (by omega) k
    omega : -1 ≤ erF (opG o av nv) dn (ints x) (opG o av nv).n k ∧ erF (opG o av nv) dn (ints x) (opG o av nv).n k ≤ 4611686018427387904))
  have HSO := Lib.hid (fun (y : List Nat) (h2 : ioB (opG o av nv) (ints y) = true) => soon_ok hk hsh hdn h2)
  have HWB := Lib.hid (fun (w1 : World) (hn : New w w1) (h8 : 8 < o.n) => (by
    have e8 : waitI o av nv dn = 2 := by unfold waitI; rw [if_neg (by rw [hec]; simp), if_pos h8]
    have := Wait_bad (H0.new hn) dn (by rw [e8]; decide)
    rw [e8] at this
    exact this : Calls Tryd.prog 62 #[.agg #[.int .i64 o.n, .slice x1 o.A.length x2, .slice x3 o.B.length x4], .int .i64 (dn : Int)] w1 fun en w' => en = .returned (.tuple #[.agg #[.slice none 0 0, .slice none 0 0], .int .i64 2]) ∧ New w1 w'))
  have HWG := Lib.hid (fun (w1 : World) (hn : New w w1) (h8 : ¬ 8 < o.n) (y : List Nat) (h2 : ioB (opG o av nv) (ints y) = true) => (by
    have e8 : waitI o av nv dn = 0 := by unfold waitI; rw [if_neg (by rw [hec]; simp), if_neg h8, io_no av nv hk h2]; rfl
    obtain ⟨x, ex, hx1, hx2⟩ := soon_ok hk hsh hdn h2
    refine (Wait_good (H0.new hn) (hT.new hn) dn e8).mono ?_
    rintro e w' ⟨sO, sD, rfl, hn2, hb⟩
    rw [ex] at hb
    obtain ⟨⟨ho, _⟩, b, c, rfl, _, _, hiv⟩ := hb
    obtain ⟨oa, oc, rfl⟩ := own_slice ho
    exact ⟨oa, x.length, oc, b, c, x, rfl, hn2, hiv, hx1, hx2⟩ : Calls Tryd.prog 62 #[.agg #[.int .i64 o.n, .slice x1 o.A.length x2, .slice x3 o.B.length x4], .int .i64 (dn : Int)] w1 fun en w' => ∃ oa ol oc b c, ∃ x : List Nat, en = .returned (.tuple #[.agg #[.slice oa ol oc, .slice (some ⟨b, 0, none⟩) (opG o av nv).n c], .int .i64 0]) ∧ New w1 w' ∧ Iv w' b (opG o av nv).n (erF (opG o av nv) dn (ints x) (opG o av nv).n) ∧ ioB (opG o av nv) (ints x) = true ∧ lastM (erF (opG o av nv) dn (ints x) (opG o av nv).n) (opG o av nv).n ≤ lastM (erF (opG o av nv) dn (ints y) (opG o av nv).n) (opG o av nv).n))
  have hn24 := n24z (o := o) av nv hk
  have HLS := Lib.hid (fun (w1 : World) (b c : Nat) (x : List Nat) (h1 : Iv w1 b (opG o av nv).n (erF (opG o av nv) dn (ints x) (opG o av nv).n)) (h2 : ioB (opG o av nv) (ints x) = true) => lastz_c b c h1 (by omega) (fun k _ => HBD.out x h2 k))
  have HPM := Lib.hid hP
  have HMN := Lib.hid hmn
  have HPS := Lib.hid (show ∀ (l : List Int) k, pkF (nI m) l (k + 1) = if !hasR l (k : Int) && (decide (pkF (nI m) l k < 0) || decide (nI m k < nI m (pkF (nI m) l k).toNat)) then (k : Int) else pkF (nI m) l k from fun _ _ => rfl)
  have HP0 := Lib.hid (show ∀ (l : List Int), pkF (nI m) l 0 = -1 from fun _ => rfl)
  have HPB := Lib.hid (fun (l : List Int) (k : Nat) => (by
    rcases pk_spec (D := nI m) (l := l) k with h | ⟨a, h1, h2, _⟩
    · exact .inl h.1
    · exact .inr ⟨a, h1, h2⟩ : pkF (nI m) l k = -1 ∨ ∃ a : Nat, pkF (nI m) l k = a ∧ a < k))
  have HNIL := Lib.hid (Srt.nil (opG o av nv).n (nI m))
  clear H0 h hP hT e1 e2 hmcap hm hec hkp hk hd0 hd1 hkept hN hsh
  rw [hmn] at h24 HCD ⊢
  generalize pkF (nI m) = pk at *
  generalize hE : (fun x : List Nat => erF (opG o av nv) (dn : Int) (ints x) (opG o av nv).n) = E at *
  have hE' : ∀ x : List Nat, erF (opG o av nv) (dn : Int) (ints x) (opG o av nv).n = E x := fun x => by rw [← hE]
  simp only [hE'] at HLE HDY HKD HBD HSO HWG HLS
  clear hE hE' HSO HBD hmn
  generalize ioB (opG o av nv) = io at *
  generalize (opG o av nv).n = n at *
  have HON := Lib.hid hon
  clear hon
  go_enter Tryd.func16, Tryd.ntmps16
  go_wp2_with (first | (go_at_call 20; (with_reducible refine (HSL.out _ ?_).mono ?_); (· exact (New.refl w).alloc _); rintro e w6 ⟨rfl, n6⟩; have N6 := Lib.hid (((New.refl w).alloc _).trans n6); have HB6 := Lib.hid (row_new HB.out n6); obtain ⟨c0, c1, c2, hHl⟩ := box3z HB6.out; clear n6) | (go_at_call 57; (with_reducible refine (HCD.out _ ?_).mono ?_); (· exact N6.out); rintro e w7 ⟨rfl, n7⟩; have N7 := Lib.hid (N6.out.trans n7); have HB7 := Lib.hid (row_new HB6.out n7); clear c0 c1 c2 hHl; obtain ⟨c0, c1, c2, hHl⟩ := box3z HB7.out; clear n7))
  obtain ⟨i0, hi, hz0, hz1, hz2⟩ : ∃ i0, Tryd.prog.info? 3 = some i0 ∧ i0.zero = some (.int .i64 0) ∧ i0.size = 1 ∧ i0.bytes = 8 := by
    have h := int_infoO
    cases hi : Tryd.prog.info? 3 with
    | none => rw [hi] at h; cases h
    | some i => rw [hi] at h; simp only [Option.map_some, Option.some.injEq, Prod.mk.injEq] at h; exact ⟨i, rfl, h.1, h.2.1, h.2.2⟩
  have HHL := Lib.hid (show H < w7.heap.size from hHl)
  clear c0 c1 c2 hHl
  go_loopw [9] (fun v9 wr => ∃ x : List Nat, wr.ownsRow (H + 1) 3 1 v9 x.length (natCells x) ∧ x.length ≤ n ∧ Srt n (nI m) x ∧ New w wr ∧ wr.heap[H]? = some (.cells #[.int .i64 o.n, .slice x1 o.A.length x2, .slice x3 o.B.length x4] 24 (0, 0))) (fun v9 _ => n - lenZ v9)
  case atStart => exact ⟨[], World.ownsRow_nil _ _ _ _, Nat.zero_le _, HNIL.out, N7.out, HB7.out⟩
  case round =>
    obtain ⟨x, hown, hxn, hsrt, hnew, hbx⟩ := hrel
    obtain ⟨U1, rfl⟩ : ∃ U1 : World, U1 = wr := ⟨_, rfl⟩
    obtain ⟨sa, sc, rfl⟩ := own_slice hown
    have HOW := Lib.hid hown
    have HSR := Lib.hid hsrt
    have N1 := Lib.hid hnew
    have HB1 := Lib.hid hbx
    obtain ⟨c0, c1, c2, hHl⟩ := box3z hbx
    have HI := Lib.hid (show Ins U1 sa (ints x) from by
      obtain ⟨a9, c9, e9, i9⟩ := SlI.of_own hown
      injection e9 with e9 _ _
      rw [e9]; exact i9)
    clear hown hsrt hnew hbx
    by_cases hlt : x.length < n
    · have hk1 : (x.length : Int) < o.n := by have := HON.out; omega
      obtain ⟨mb, mo, rfl, hgm, hcm⟩ := HPM.out (by rw [HMN.out]; omega)
      have HGM := Lib.hid hgm
      have HCM := Lib.hid (fun k (hk : k < n) => hcm k (by rw [HMN.out]; exact hk))
      clear hgm hcm
      obtain ⟨a, hpa, han, hsn⟩ := HSTEP.out x HSR.out hlt
      have HPA := Lib.hid hpa
      have HSN := Lib.hid hsn
      have HPSx := Lib.hid (HPS.out (ints x))
      have HP0x := Lib.hid (HP0.out (ints x))
      have HPBx := Lib.hid (HPB.out (ints x))
      have HHR := Lib.hid (show ∀ p : Int, hasR (ints x) p = (List.range x.length).any fun i => decide (nI (ints x) i = p) from fun p => by unfold hasR; rw [ints_len])
      clear hpa hsn
      generalize pk (ints x) = pkx at *
      go_wp2_with fail
      clear c0 c1 c2 hHl hk1
      go_loopw [10, 63] (fun v10 v63 w2 => ∃ k : Nat, k ≤ n ∧ v63 = .int .i64 (k : Int) ∧ v10 = .int .i64 (pkx k) ∧ New U1 w2) (fun _ v63 _ => n - (intOf v63).toNat)
      case atStart => exact ⟨0, Nat.zero_le _, rfl, by rw [HP0x.out], New.refl _⟩
      case round =>
        obtain ⟨k, hkn, rfl, rfl, hnew2⟩ := hrel
        obtain ⟨U2, rfl⟩ : ∃ U2 : World, U2 = wr := ⟨_, rfl⟩
        have N2 := Lib.hid hnew2
        clear hnew2
        by_cases hlk : k < n
        · have hk1 : (k : Int) < (n : Int) := by omega
          have d1 : U2.cell? ⟨mb, mo + k, none⟩ = some (.int .i64 (nI m k)) := (N1.out.trans N2.out).cell HGM.out |>.trans (HCM.out k hlk)
          go_wp2_with fail
          clear d1
          go_loopw [13, 70] (fun v13 v70 w3 => ∃ j : Nat, j ≤ x.length ∧ v70 = .int .i64 (j : Int) ∧ v13 = .bool ((List.range j).any fun i => decide (nI (ints x) i = (k : Int))) ∧ New U2 w3) (fun _ v70 _ => x.length - (intOf v70).toNat)
          case atStart => exact ⟨0, Nat.zero_le _, rfl, rfl, New.refl _⟩
          case round =>
            obtain ⟨j, hj, rfl, rfl, hnew3⟩ := hrel
            obtain ⟨U3, rfl⟩ : ∃ U3 : World, U3 = wr := ⟨_, rfl⟩
            have N3 := Lib.hid hnew3
            clear hnew3
            have HAN := Lib.hid (any_snoc (fun i => decide (nI (ints x) i = (k : Int))) j)
            by_cases hjl : j < x.length
            · have hj1 : (j : Int) < (x.length : Int) := by omega
              obtain ⟨b, off, rfl, hgl, hcc⟩ := HI.out (by rw [ints_len]; omega)
              have d1 : U3.cell? ⟨b, off + j, none⟩ = some (.int .i64 (nI (ints x) j)) := ((N2.out.trans N3.out).cell hgl).trans (hcc j (by rw [ints_len]; exact hjl))
              clear hgl hcc
              generalize nI (ints x) j = y at *
              cases hkn : (List.range j).any fun i => decide (nI (ints x) i = (k : Int))
              · rw [hkn, Bool.false_or] at HAN
                cases hq : ((k : Int) == y)
                · have hz : decide (y = (k : Int)) = false := by
                    rw [beq_eq_false_iff_ne] at hq
                    exact decide_eq_false fun e => hq e.symm
                  rw [hz] at HAN
                  clear hz
                  go_wp2_with fail
                  go_roundw
                  case rel => exact ⟨j + 1, by omega, by go_num, by rw [HAN.out], N3.out⟩
                  case measure => simp [intOf]; omega
                · have hz : decide (y = (k : Int)) = true := by
                    rw [beq_iff_eq] at hq
                    exact decide_eq_true hq.symm
                  rw [hz] at HAN
                  clear hz
                  go_wp2_with fail
                  go_roundw
                  case rel => exact ⟨j + 1, by omega, by go_num, by rw [HAN.out], N3.out⟩
                  case measure => simp [intOf]; omega
              · rw [hkn, Bool.true_or] at HAN
                go_wp2_with fail
                go_roundw
                case rel => exact ⟨j + 1, by omega, by go_num, by rw [HAN.out], N3.out⟩
                case measure => simp [intOf]; omega
            · obtain rfl : j = x.length := by omega
              have hj1 : ¬ (x.length : Int) < (x.length : Int) := by omega
              have HPk := Lib.hid (HPSx.out k)
              rw [HHR.out] at HPk
              cases hkn : (List.range x.length).any fun i => decide (nI (ints x) i = (k : Int))
              · rw [hkn, Bool.not_false, Bool.true_and] at HPk
                rcases HPBx.out k with e | ⟨a', e, ha'⟩
                · rw [e, decide_eq_true (show (-1 : Int) < 0 by omega), Bool.true_or, if_pos rfl] at HPk
                  rw [e]
                  clear e
                  go_wp2_with fail
                  go_roundw
                  case rel => exact ⟨k + 1, by omega, by go_num, by rw [HPk.out], N2.out.trans N3.out⟩
                  case measure => simp [intOf]; omega
                · rw [e, decide_eq_false (show ¬ ((a' : Int) < 0) by omega), Bool.false_or, Int.toNat_natCast] at HPk
                  rw [e]
                  have ha0 : ¬ ((a' : Int) < 0) := by omega
                  have han' : (a' : Int) < (n : Int) := by omega
                  have d2 : U3.cell? ⟨mb, mo + a', none⟩ = some (.int .i64 (nI m a')) := ((N1.out.trans N2.out).trans N3.out).cell HGM.out |>.trans (HCM.out a' (by omega))
                  clear e
                  by_cases hdd : nI m k < nI m a'
                  · rw [decide_eq_true hdd, if_pos rfl] at HPk
                    go_wp2_with fail
                    go_roundw
                    case rel => exact ⟨k + 1, by omega, by go_num, by rw [HPk.out], N2.out.trans N3.out⟩
                    case measure => simp [intOf]; omega
                  · rw [decide_eq_false hdd, if_neg (by simp)] at HPk
                    go_wp2_with fail
                    go_roundw
                    case rel => exact ⟨k + 1, by omega, by go_num, by rw [HPk.out], N2.out.trans N3.out⟩
                    case measure => simp [intOf]; omega
              · rw [hkn, Bool.not_true, Bool.false_and, if_neg (by simp)] at HPk
                go_wp2_with fail
                go_roundw
                case rel => exact ⟨k + 1, by omega, by go_num, by rw [HPk.out], N2.out.trans N3.out⟩
                case measure => simp [intOf]; omega
        · obtain rfl : k = n := by omega
          have hk1 : ¬ (k : Int) < (k : Int) := by omega
          rw [HPA.out]
          have ha0 : ¬ ((a : Int) < 0) := by omega
          go_upto_region 23 with fail
          go_wp2_with (at_builtin; refine wpList_append_own _ rfl _ _ 31 rfl (H + 1) 3 i0 (.int .i64 0) 1 8 Tryd.underlying31 hi hz0 hz1 hz2 rfl (by decide) (.slice sa x.length sc) x.length (natCells x) rfl ?qa0 ⟨U2.heap.size, 0, none⟩ 1 1 [.int .i64 (a : Int)] rfl rfl ?qa2 ?qa3 ?qa4 ?qa5 ?qa6 ?_)
          case qa0 => exact own_new HOW.out ((N2.out).alloc _)
          case qa3 => first | (exact ⟨rfl, rfl⟩) | (exact rfl) | (intro u hu; simp at hu; rcases hu with rfl <;> rfl)
          case qa4 => unfold maxLen; omega
          case qa5 => omega
          case qa6 => have h1 := (Array.getElem?_eq_some_iff.1 HB1.out).1; have h2 := (N2.out).size; simp; omega
          intro v' w11 hown hgrow hnil
          have h1 := (Array.getElem?_eq_some_iff.1 HB1.out).1
          have h2 := (N2.out).size
          have HB11 := Lib.hid (show w11.heap[H]? = some (.cells #[.int .i64 o.n, .slice x1 o.A.length x2, .slice x3 o.B.length x4] 24 (0, 0)) from (hgrow.block H (by simp; omega) (fun e => by have := (HOW.out.lt H e.symm).1; omega)).trans (row_new HB1.out (N2.out.alloc _)))
          have hn11 : New w w11 := Mod.new ((N1.out.trans N2.out).alloc _) (Mod.grown (O := fun q => H + 1 ≤ q) hgrow (fun g hg => (HOW.out.lt g hg).1)) (fun q hq => by have : H + 1 ≤ q := hq; omega)
          have HN11 := Lib.hid hn11
          have HOW11 := Lib.hid hown
          obtain ⟨av', cv', rfl⟩ := own_slice hown
          clear hown hgrow hnil hn11 h1 h2 hk1 ha0
          go_wp2_with fail
          go_roundw
          case rel => exact ⟨x ++ [a], by rw [natCells_snoc, List.length_append]; exact HOW11.out, by simp; omega, HSN.out, HN11.out, HB11.out⟩
          case measure => simp [lenZ]; omega
    · obtain rfl : n = x.length := by omega
      have hk1 : ¬ (x.length : Int) < o.n := by have := HON.out; omega
      have hnn : ((x.length : Int) != (x.length : Int)) = false := by simp
      have HIOX := Lib.hid (HIO.out x HSR.out rfl)
      have HDX := Lib.hid (fun (w1 : World) (hn : New U1 w1) => HDY.out w1 (N1.out.trans hn) sa sc x (HI.out.new hn) HIOX.out rfl)
      have HLX := Lib.hid (fun (k : Nat) (hk : k < x.length) => HLE.out x HSR.out HIOX.out k hk)
      have HWX := Lib.hid (fun (w1 : World) (hn : New w w1) (h8 : o.n ≤ 8) => HWG.out w1 hn (by omega) x HIOX.out)
      go_upto_region 29 with (first | (go_at_call 55; (with_reducible refine (HDX.out _ ?_).mono ?_); (· exact New.refl _); rintro e w8 ⟨b8, c8, rfl, n8, _, iv8⟩; have N8 := Lib.hid (N1.out.trans n8); have HB8 := Lib.hid (row_new HB1.out n8); have I8 := Lib.hid iv8; clear c0 c1 c2 hHl; obtain ⟨c0, c1, c2, hHl⟩ := box3z HB8.out; clear n8 iv8) | (go_at_call 57; (with_reducible refine (HKD.out _ N8.out b8 c8 x I8.out HIOX.out).mono ?_); rintro e w9 ⟨rfl, n9⟩; have N9 := Lib.hid (N8.out.trans n9); have HB9 := Lib.hid (row_new HB8.out n9); have I9 := Lib.hid (show Iv w9 b8 x.length (E x) from row_new I8.out n9); clear c0 c1 c2 hHl; obtain ⟨c0, c1, c2, hHl⟩ := box3z HB9.out; clear n9))
      clear c0 c1 c2 hHl hnn hk1
      go_loopw [136] (fun v136 wr => ∃ k : Nat, k ≤ x.length ∧ v136 = .int .i64 (k : Int) ∧ New w9 wr) (fun v136 _ => x.length - (intOf v136).toNat)
      case atStart => exact ⟨0, Nat.zero_le _, rfl, New.refl _⟩
      case round =>
        obtain ⟨k, hkn, rfl, hnew2⟩ := hrel
        obtain ⟨U2, rfl⟩ : ∃ U2 : World, U2 = wr := ⟨_, rfl⟩
        have N2 := Lib.hid hnew2
        clear hnew2
        have NU := Lib.hid (N9.out.trans N2.out)
        have HBU := Lib.hid (row_new HB9.out N2.out)
        have IU := Lib.hid (show Iv U2 b8 x.length (E x) from row_new I9.out N2.out)
        by_cases hlk : k < x.length
        · have hk1 : (k : Int) < (x.length : Int) := by omega
          obtain ⟨mb, mo, rfl, hgm, hcm⟩ := HPM.out (by rw [HMN.out]; omega)
          have d1 : U2.cell? ⟨mb, mo + k, none⟩ = some (.int .i64 (nI m k)) := (NU.out.cell hgm).trans (hcm k (by rw [HMN.out]; exact hlk))
          have d2 : U2.cell? ⟨b8, k, none⟩ = some (.int .i64 (E x k)) := IU.out.at k hlk
          have hg1 : mb < U2.heap.size := Nat.lt_of_lt_of_le hgm NU.out.size
          have hg2 : b8 < U2.heap.size := IU.out.lt
          have hgt : ¬ (E x k > nI m k) := by have := HLX.out k hlk; omega
          clear hgm hcm
          go_upto_region 31 with fail
          first | refine wp_region_at2 (by kernel_rfl) (by kernel_rfl) ?_ | refine wp_region_at (by kernel_rfl) (by kernel_rfl) ?_
          repeat (go_big_quiet_step (fail))
          refine wpQuiet_nil ?_
          rintro U4 hq4
          have HN4 := Lib.hid (show New U2 U4 from hq4)
          clear hq4 d1 d2 hg1 hg2
          go_wp2_with fail
          go_roundw
          case rel => exact ⟨k + 1, by omega, by go_num, N2.out.trans HN4.out⟩
          case measure => simp [intOf]; omega
        · have hk1 : ¬ (k : Int) < (x.length : Int) := by omega
          obtain ⟨c0, c1, c2, hHl⟩ := box3z HBU.out
          by_cases h8 : 8 < o.n
          · have h8' : o.n > 8 := h8
            have HWZ := Lib.hid (fun (w1 : World) (hn : New w w1) => HWB.out w1 hn h8)
            go_upto_region 35 with (go_at_call 62; (with_reducible refine (HWZ.out _ ?_).mono ?_); (· exact NU.out); rintro e w10 ⟨rfl, n10⟩; have N10 := Lib.hid (NU.out.trans n10); have HB10 := Lib.hid (row_new HBU.out n10); clear n10 c0 c1 c2 hHl)
            obtain ⟨c0, c1, c2, hHl⟩ := box3z (row_new HB10.out ((New.refl w10).alloc (.cells #[.slice none 0 0, .slice none 0 0] 61)))
            go_wp2_with (go_at_call 21; (with_reducible refine (HAL.out _ ?_).mono ?_); (· exact N10.out.alloc _); rintro e w11 ⟨rfl, n11⟩; have N11 := Lib.hid ((N10.out.alloc _).trans n11); clear n11)
            go_ret
            exact ⟨rfl, N11.out⟩
          · have h8' : ¬ (o.n > 8) := h8
            have HWZ := Lib.hid (fun (w1 : World) (hn : New w w1) => HWX.out w1 hn (by omega))
            go_upto_region 35 with (go_at_call 62; (with_reducible refine (HWZ.out _ ?_).mono ?_); (· exact NU.out); rintro e w10 ⟨oa, ol, oc, bw, cw, y, rfl, n10, iv10, hy1, hy2⟩; have N10 := Lib.hid (NU.out.trans n10); have HB10 := Lib.hid (row_new HBU.out n10); have IE10 := Lib.hid (show Iv w10 b8 x.length (E x) from row_new IU.out n10); have I10 := Lib.hid iv10; have HY1 := Lib.hid hy1; clear n10 iv10 hy1 c0 c1 c2 hHl)
            obtain ⟨B, hB⟩ : ∃ B, w10.heap.size = B := ⟨_, rfl⟩
            obtain ⟨W1, hW1⟩ : ∃ W1 : World, Hid (W1 = w10.alloc (.cells #[.slice oa ol oc, .slice (some ⟨bw, 0, none⟩) x.length cw] 61)) := ⟨_, Lib.hid rfl⟩
            have HX1 := Lib.hid (show W1.heap[B]? = some (.cells #[.slice oa ol oc, .slice (some ⟨bw, 0, none⟩) x.length cw] 61 (0, 0)) from by rw [hW1.out, ← hB]; exact World.alloc_heap_new w10 _)
            have HNW1 := Lib.hid (show New w10 W1 from by rw [hW1.out]; exact (New.refl w10).alloc _)
            have NW1 := Lib.hid (N10.out.trans HNW1.out)
            obtain ⟨c0, c1, c2, hHl⟩ := box3z (row_new HB10.out HNW1.out)
            have d1 : W1.cell? ⟨B, 1, none⟩ = some (.slice (some ⟨bw, 0, none⟩) x.length cw) := (cell_of_row W1 B 1 _ _ _ HX1.out).trans rfl
            have I1 := Lib.hid (show Iv W1 bw x.length (E y) from row_new I10.out HNW1.out)
            have IE1 := Lib.hid (show Iv W1 b8 x.length (E x) from row_new IE10.out HNW1.out)
            (try simp only [hB])
            rw [← hW1.out]
            generalize hly : lastM (E y) x.length = ly at *
            generalize hlx : lastM (E x) x.length = lx at *
            have HLY := Lib.hid (fun (w1 : World) (h1 : Iv w1 bw x.length (E y)) => (by have := HLS.out w1 bw cw y h1 HY1.out; rw [hly] at this; exact this : Calls Tryd.prog 66 #[.slice (some ⟨bw, 0, none⟩) x.length cw] w1 fun en w' => en = .returned (.int .i64 ly) ∧ New w1 w'))
            have HLXX := Lib.hid (fun (w1 : World) (h1 : Iv w1 b8 x.length (E x)) => (by have := HLS.out w1 b8 c8 x h1 HIOX.out; rw [hlx] at this; exact this : Calls Tryd.prog 66 #[.slice (some ⟨b8, 0, none⟩) x.length c8] w1 fun en w' => en = .returned (.int .i64 lx) ∧ New w1 w'))
            clear hly hlx hB
            go_wp2_with (first | (go_at_call 57; (with_reducible refine (HKD.out _ NW1.out bw cw y I1.out HY1.out).mono ?_); rintro e w12 ⟨rfl, n12⟩; have N12 := Lib.hid (NW1.out.trans n12); have I12 := Lib.hid (show Iv w12 bw x.length (E y) from row_new I1.out n12); have IE12 := Lib.hid (show Iv w12 b8 x.length (E x) from row_new IE1.out n12); have HX12 := Lib.hid (row_new HX1.out n12); clear n12 d1 c0 c1 c2 hHl) | (go_at_call 21; (with_reducible refine (HAL.out _ ?_).mono ?_); (· exact N12.out); rintro e w13 ⟨rfl, n13⟩; have N13 := Lib.hid (N12.out.trans n13); have I13 := Lib.hid (show Iv w13 bw x.length (E y) from row_new I12.out n13); have IE13 := Lib.hid (show Iv w13 b8 x.length (E x) from row_new IE12.out n13); have d1 : w13.cell? ⟨B, 1, none⟩ = some (.slice (some ⟨bw, 0, none⟩) x.length cw) := (cell_of_row w13 B 1 _ _ _ (row_new HX12.out n13)).trans rfl; clear n13) | (go_at_call 66; (with_reducible refine (HLY.out _ I13.out).mono ?_); rintro e w14 ⟨rfl, n14⟩; have N14 := Lib.hid (N13.out.trans n14); have IE14 := Lib.hid (show Iv w14 b8 x.length (E x) from row_new IE13.out n14); clear n14 d1) | (go_at_call 66; (with_reducible refine (HLXX.out _ IE14.out).mono ?_); rintro e w15 ⟨rfl, n15⟩; have N15 := Lib.hid (N14.out.trans n15); clear n15))
            go_ret
            exact ⟨rfl, N15.out⟩
end Go.Proofs.YtiejefehcpfkaaaDoor
