/- The reference's near, days, dried and Days, at any problem. -/
import Derived.Test.YtiejefehcpfkaaaDoorVe
import Derived.Test.YtiejefehcpfkaaaDoorTr
import Derived.Test.YtiejefehcpfkaaaDoorUj
import Derived.Test.YtiejefehcpfkaaaDoorSy
import Derived.Test.YtiejefehcpfkaaaDoorSo
set_option linter.unusedSimpArgs false
set_option linter.unusedVariables false
set_option maxRecDepth 100000
namespace Go.Proofs.YtiejefehcpfkaaaDoor
open Go.RowKit Go.Shelf

attribute [local go_sem] Oper.semAt_some

set_option maxHeartbeats 8000000 in
theorem rnear_c {w : World} {v : Value} {o : Prb} (h : PrbV w v o) (a b : Int) :
    Calls Tryd.prog 124 #[v, .int .i64 a, .int .i64 b] w fun en w' => en = .returned (.bool (neR o a b)) ∧ New w w' := by
  obtain ⟨⟨av, ac, nv, nc, rfl, h1, h2⟩, h3, h4⟩ := h
  have HP := Lib.hid h2
  clear h1 h2 h3
  obtain ⟨R, hR⟩ : ∃ R, neR o a b = R := ⟨_, rfl⟩
  rw [hR]
  have HR := Lib.hid (show (List.range o.B.length).any (fun i => decide (pA o.B i = min a b) && decide (pB o.B i = max a b)) = R from hR)
  clear hR
  generalize hN : o.B.length = N at *
  have HN := Lib.hid hN
  clear hN
  generalize o.A.length = M at *
  generalize o.n = n at *
  obtain ⟨m1, hm1⟩ : ∃ m1, min a b = m1 := ⟨_, rfl⟩
  obtain ⟨m2, hm2⟩ : ∃ m2, max a b = m2 := ⟨_, rfl⟩
  rw [hm1, hm2] at HR
  have HM := Lib.hid (And.intro hm1 hm2)
  obtain ⟨H, hH⟩ : ∃ H, w.heap.size = H := ⟨_, rfl⟩
  have HH := Lib.hid hH
  have HB0 := Lib.hid (show (w.alloc (.cells #[.int .i64 n, .slice av M ac, .slice nv N nc] 24)).heap[H]? = some (.cells #[.int .i64 n, .slice av M ac, .slice nv N nc] 24 (0, 0)) from by rw [← hH]; exact World.alloc_heap_new w _)
  by_cases hab : a ≤ b
  · have hx1 : min a b = a := by omega
    have hx2 : max a b = b := by omega
    have e1 : a = m1 := by omega
    have e2 : b = m2 := by omega
    subst e1
    subst e2
    clear hm1 hm2 HM
    go_enter Tryd.func124, Tryd.ntmps124
    go_wp2_with fail
    go_loopw [7] (fun i wr => ∃ k : Nat, k ≤ N ∧ i = .int .i64 k ∧ New w wr ∧ wr.heap[H]? = some (.cells #[.int .i64 n, .slice av M ac, .slice nv N nc] 24 (0, 0)) ∧ (List.range k).any (fun i => decide (pA o.B i = a) && decide (pB o.B i = b)) = false) (fun i _ => N - (intOf i).toNat)
    case atStart => exact ⟨0, Nat.zero_le _, rfl, (New.refl _).alloc _, HB0.out, rfl⟩
    case round =>
      obtain ⟨k, hk, rfl, hnew, hbx, hall⟩ := hrel
      have HNEW := Lib.hid hnew
      have HALL := Lib.hid hall
      have HBX := Lib.hid hbx
      have c0 : wr.cell? ⟨H, 2, none⟩ = some (.slice nv N nc) := (cell_of_row wr H 2 _ _ _ hbx).trans rfl
      clear hnew hall hbx
      by_cases hlt : k < N
      · obtain ⟨bb, off, rfl, gl, hcc⟩ := HP.out.new HNEW.out (by rw [HN.out]; omega)
        obtain ⟨c1, c2⟩ := hcc k (by rw [HN.out]; omega)
        have hk1 : (k : Int) < (N : Int) := by omega
        have HSN := Lib.hid (any_snocR (fun i => decide (pA o.B i = a) && decide (pB o.B i = b)) k)
        have HHT := Lib.hid (fun (e : pA o.B k = a ∧ pB o.B k = b) => (by rw [← HR.out]; exact any_hit hlt (by simp [e.1, e.2]) : R = true))
        clear hcc
        obtain ⟨x, hx⟩ : ∃ x, pA o.B k = x := ⟨_, rfl⟩
        obtain ⟨y, hy⟩ : ∃ y, pB o.B k = y := ⟨_, rfl⟩
        rw [hx, hy] at HHT
        rw [hx] at c1
        rw [hy] at c2
        have HXY := Lib.hid (And.intro hx hy)
        clear hx hy
        by_cases he : x = a ∧ y = b
        · have hxa : (x == a) = true := by simpa using he.1
          have hyb : (y == b) = true := by simpa using he.2
          have HT := Lib.hid (HHT.out he)
          clear he
          go_wp2_with fail
          go_ret
          exact ⟨by rw [HT.out]; rfl, HNEW.out⟩
        · have HF := Lib.hid (show (List.range (k + 1)).any (fun i => decide (pA o.B i = a) && decide (pB o.B i = b)) = false from by
            rw [HSN.out, HALL.out, HXY.out.1, HXY.out.2]
            simp only [Bool.false_or, Bool.and_eq_false_iff, decide_eq_false_iff_not]
            exact (Decidable.not_and_iff_or_not.1 he))
          rcases Decidable.not_and_iff_or_not.1 he with h5 | h5
          · have hxa : (x == a) = false := by simpa using h5
            clear he h5
            go_wp2_with fail
            go_roundw
            case rel => exact ⟨k + 1, by omega, by go_num, HNEW.out, HBX.out, HF.out⟩
            case measure => simp [intOf]; omega
          · have hyb : (y == b) = false := by simpa using h5
            clear he h5
            go_wp2_with fail
            go_roundw
            case rel => exact ⟨k + 1, by omega, by go_num, HNEW.out, HBX.out, HF.out⟩
            case measure => simp [intOf]; omega
      · obtain rfl : k = N := by omega
        have hk1 : ¬ (k : Int) < (k : Int) := by omega
        have HF := Lib.hid (show R = false from by rw [← HR.out]; exact HALL.out)
        go_wp2_with fail
        go_ret
        exact ⟨by rw [HF.out]; rfl, HNEW.out⟩
  · have hx1 : min a b = b := by omega
    have hx2 : max a b = a := by omega
    have e1 : b = m1 := by omega
    have e2 : a = m2 := by omega
    subst e1
    subst e2
    clear hm1 hm2 HM
    go_enter Tryd.func124, Tryd.ntmps124
    go_wp2_with fail
    go_loopw [7] (fun i wr => ∃ k : Nat, k ≤ N ∧ i = .int .i64 k ∧ New w wr ∧ wr.heap[H]? = some (.cells #[.int .i64 n, .slice av M ac, .slice nv N nc] 24 (0, 0)) ∧ (List.range k).any (fun i => decide (pA o.B i = b) && decide (pB o.B i = a)) = false) (fun i _ => N - (intOf i).toNat)
    case atStart => exact ⟨0, Nat.zero_le _, rfl, (New.refl _).alloc _, HB0.out, rfl⟩
    case round =>
      obtain ⟨k, hk, rfl, hnew, hbx, hall⟩ := hrel
      have HNEW := Lib.hid hnew
      have HALL := Lib.hid hall
      have HBX := Lib.hid hbx
      have c0 : wr.cell? ⟨H, 2, none⟩ = some (.slice nv N nc) := (cell_of_row wr H 2 _ _ _ hbx).trans rfl
      clear hnew hall hbx
      by_cases hlt : k < N
      · obtain ⟨bb, off, rfl, gl, hcc⟩ := HP.out.new HNEW.out (by rw [HN.out]; omega)
        obtain ⟨c1, c2⟩ := hcc k (by rw [HN.out]; omega)
        have hk1 : (k : Int) < (N : Int) := by omega
        have HSN := Lib.hid (any_snocR (fun i => decide (pA o.B i = b) && decide (pB o.B i = a)) k)
        have HHT := Lib.hid (fun (e : pA o.B k = b ∧ pB o.B k = a) => (by rw [← HR.out]; exact any_hit hlt (by simp [e.1, e.2]) : R = true))
        clear hcc
        obtain ⟨x, hx⟩ : ∃ x, pA o.B k = x := ⟨_, rfl⟩
        obtain ⟨y, hy⟩ : ∃ y, pB o.B k = y := ⟨_, rfl⟩
        rw [hx, hy] at HHT
        rw [hx] at c1
        rw [hy] at c2
        have HXY := Lib.hid (And.intro hx hy)
        clear hx hy
        by_cases he : x = b ∧ y = a
        · have hxa : (x == b) = true := by simpa using he.1
          have hyb : (y == a) = true := by simpa using he.2
          have HT := Lib.hid (HHT.out he)
          clear he
          go_wp2_with fail
          go_ret
          exact ⟨by rw [HT.out]; rfl, HNEW.out⟩
        · have HF := Lib.hid (show (List.range (k + 1)).any (fun i => decide (pA o.B i = b) && decide (pB o.B i = a)) = false from by
            rw [HSN.out, HALL.out, HXY.out.1, HXY.out.2]
            simp only [Bool.false_or, Bool.and_eq_false_iff, decide_eq_false_iff_not]
            exact (Decidable.not_and_iff_or_not.1 he))
          rcases Decidable.not_and_iff_or_not.1 he with h5 | h5
          · have hxa : (x == b) = false := by simpa using h5
            clear he h5
            go_wp2_with fail
            go_roundw
            case rel => exact ⟨k + 1, by omega, by go_num, HNEW.out, HBX.out, HF.out⟩
            case measure => simp [intOf]; omega
          · have hyb : (y == a) = false := by simpa using h5
            clear he h5
            go_wp2_with fail
            go_roundw
            case rel => exact ⟨k + 1, by omega, by go_num, HNEW.out, HBX.out, HF.out⟩
            case measure => simp [intOf]; omega
      · obtain rfl : k = N := by omega
        have hk1 : ¬ (k : Int) < (k : Int) := by omega
        have HF := Lib.hid (show R = false from by rw [← HR.out]; exact HALL.out)
        go_wp2_with fail
        go_ret
        exact ⟨by rw [HF.out]; rfl, HNEW.out⟩
/-- the values of both sides of near -/
theorem updI_other {d : Nat → Int} {p q : Nat} {x : Int} (h : q ≠ p) : updI d p x q = d q := by unfold updI; rw [if_neg h]
theorem rdIn_other {o : Prb} {dry : Int} {l : List Int} {i q : Nat} {d : Nat → Int} (hq : q ≠ (nI l i).toNat) (k : Nat) : rdIn o dry l i d k q = d q := by
  rw [rdIn_fold, fold_other hq]
structure RdL (w wr : World) (H b n : Nat) (BX : Obj) (d : Nat → Int) : Prop where
  nw : New w wr
  bx : wr.heap[H]? = some BX
  iv : Iv wr b n d
  hb : w.heap.size ≤ H ∧ H < b
theorem RdL.new {w wr W : World} {H b n : Nat} {BX : Obj} {d : Nat → Int} (h : RdL w wr H b n BX d) (hn : New wr W) : RdL w W H b n BX d :=
  ⟨h.nw.trans hn, row_new h.bx hn, row_new h.iv hn, h.hb⟩
theorem RdL.put {w wr : World} {H b n : Nat} {BX : Obj} {d : Nat → Int} (h : RdL w wr H b n BX d) (p : Nat) (x : Int) : RdL w (wr.setCell ⟨b, p, none⟩ (.int .i64 x)) H b n BX (updI d p x) := by
  have hb := h.hb
  exact ⟨h.nw.setCell (by show w.heap.size ≤ b; omega) _, (heap_setCell_other _ _ _ _ _ (show H ≠ b by omega)).trans h.bx, h.iv.put p x, hb⟩

set_option maxHeartbeats 16000000 in
theorem rdays_c {w : World} {v : Value} {o : Prb} {av nv : Value} (h : PrbA w v o av nv) (hc : chkI o = 0) (dry : Nat) (hdry : dry ≤ 30) (lv : Option Addr) (lc : Nat) (l : List Int) (hP : Ins w lv l) (hio : ioB (opG o av nv) l = true) :
    Calls Tryd.prog 121 #[v, .int .i64 (dry : Int), .slice lv l.length lc] w fun en w' => ∃ b, en = .returned (.slice (some ⟨b, 0, none⟩) (opG o av nv).n (opG o av nv).n) ∧ New w w' ∧ w.heap.size ≤ b ∧ Iv w' b (opG o av nv).n (erF (opG o av nv) dry l (opG o av nv).n) := by
  have HAR := Lib.hid (fun (w1 : World) (hn : New w w1) (a b : Int) => rnear_c (h.pv.new hn) a b)
  have hf := ioB_facts hio
  have HRE := Lib.hid (rdD_eq (dry := (dry : Int)) hc hio l.length (Nat.le_refl _))
  obtain ⟨n, hn⟩ : ∃ n, (opG o av nv).n = n := ⟨_, rfl⟩
  have h24 : n ≤ 24 := by have := (chkI_zero hc).1; have e : (opG o av nv).n = o.n.toNat := rfl; omega
  have hon : o.n = (n : Int) := by have := (chkI_zero hc).1; have e : (opG o av nv).n = o.n.toNat := rfl; omega
  have HIN := Lib.hid (fun (k : Nat) (hk : k < n) => (by have := hf.2 k (by omega); rw [hn] at this; exact this : 0 ≤ nI l k ∧ nI l k < (n : Int)))
  have HNE := Lib.hid (fun (j k : Nat) (hj : j < k) (hk : k < n) => io_ne hio hj (by omega))
  have HBD := Lib.hid (fun (k : Nat) (hk : k ≤ n) => (by
    have e := rdD_eq (dry := (dry : Int)) hc hio k (by omega)
    rw [e]; exact erF_bd hdry hio k (by omega) : ∀ q, 0 ≤ rdD o dry l k q ∧ rdD o dry l k q ≤ 31 * k))
  have HL0 := Lib.hid (show rdD o dry l 0 = fun _ => 0 from rfl)
  have HLS := Lib.hid (show ∀ i, rdD o dry l (i + 1) = rdIn o dry l i (if i = 0 then rdD o dry l i else updI (rdD o dry l i) (nI l i).toNat (rdD o dry l i (nI l (i - 1)).toNat + 1)) i from fun _ => rfl)
  have HI0 := Lib.hid (show ∀ i d, rdIn o dry l i d 0 = d from fun _ _ => rfl)
  have HIS := Lib.hid (show ∀ i d k, rdIn o dry l i d (k + 1) = if neR o (nI l k) (nI l i) then stepQ dry (nI l i).toNat (rdIn o dry l i d k) (nI l k).toNat else rdIn o dry l i d k from fun _ _ _ => rfl)
  have HIO := Lib.hid (fun (i q : Nat) (d : Nat → Int) (hq : q ≠ (nI l i).toNat) (k : Nat) => rdIn_other (o := o) (dry := (dry : Int)) hq k (d := d))
  have hln : l.length = n := by rw [hf.1, hn]
  rw [hln, ← hn] at HRE
  rw [hn] at HRE
  obtain ⟨⟨⟨a1, ac, n1, nc, rfl, h1, h2⟩, h3, h4⟩, h5, h6⟩ := h
  clear h1 h2 h3 h4 h5 h6 hc hio hf
  rw [hn, ← HRE.out]
  clear HRE hn
  have HP := Lib.hid hP
  have HLN := Lib.hid hln
  rw [hln]
  clear hP hln
  rw [hon] at HAR ⊢
  clear hon
  generalize o.A.length = LA at *
  generalize o.B.length = LB at *
  generalize rdIn o (dry : Int) l = rin at *
  generalize rdD o (dry : Int) l = rf at *
  obtain ⟨H, hH⟩ : ∃ H, w.heap.size = H := ⟨_, rfl⟩
  have HH := Lib.hid hH
  have HB0 := Lib.hid (show (w.alloc (.cells #[.int .i64 (n : Int), .slice a1 LA ac, .slice n1 LB nc] 24)).heap[H]? = some (.cells #[.int .i64 (n : Int), .slice a1 LA ac, .slice n1 LB nc] 24 (0, 0)) from by rw [← hH]; exact World.alloc_heap_new w _)
  have hmk := make_iv n (by omega)
  have HR0 := Lib.hid (show RdL w ((w.alloc (.cells #[.int .i64 (n : Int), .slice a1 LA ac, .slice n1 LB nc] 24)).alloc (.cells (iv n fun _ => 0).toArray 3)) H (H + 1) n (.cells #[.int .i64 (n : Int), .slice a1 LA ac, .slice n1 LB nc] 24 (0, 0)) (rf 0) from by
    have q := alloc3_heap2 w (.cells #[.int .i64 (n : Int), .slice a1 LA ac, .slice n1 LB nc] 24) (.cells (iv n fun _ => 0).toArray 3)
    rw [hH] at q
    refine ⟨((New.refl w).alloc _).alloc _, q.1, by rw [HL0.out]; exact q.2, by omega, by omega⟩)
  go_enter Tryd.func121, Tryd.ntmps121
  go_wp2_with fail
  clear hmk
  obtain ⟨b, hb⟩ : ∃ b, H + 1 = b := ⟨_, rfl⟩
  rw [hb] at HR0
  simp only [hb]
  have HBH := Lib.hid hb
  clear hb
  go_loopw [8] (fun v8 wr => ∃ i : Nat, i ≤ n ∧ v8 = .int .i64 i ∧ RdL w wr H b n (.cells #[.int .i64 (n : Int), .slice a1 LA ac, .slice n1 LB nc] 24 (0, 0)) (rf i)) (fun v8 _ => n - (intOf v8).toNat)
  case atStart => exact ⟨0, Nat.zero_le _, rfl, HR0.out⟩
  case round =>
    clear HR0
    obtain ⟨i, hi, rfl, hR⟩ := hrel
    have HR := Lib.hid hR
    clear hR
    obtain ⟨U1, rfl⟩ : ∃ U1 : World, U1 = wr := ⟨_, rfl⟩
    by_cases hlt : i < n
    · have hi1 : (i : Int) < (n : Int) := by omega
      obtain ⟨bl, ol, rfl, hgl, hcc⟩ := HP.out (by rw [HLN.out]; omega)
      have HGL := Lib.hid hgl
      have HCC := Lib.hid (fun k (hk : k < n) => hcc k (by rw [HLN.out]; exact hk))
      clear hcc hgl
      have hbd := HBD.out i (by omega)
      have HIi := Lib.hid (HIN.out i hlt)
      obtain ⟨p, hp⟩ : ∃ p : Nat, nI l i = p := ⟨(nI l i).toNat, by have := HIi.out; omega⟩
      have HPI := Lib.hid hp
      have hpn : p < n := by have := HIi.out; omega
      have hpn' : (p : Int) < (n : Int) := by omega
      have HCI := Lib.hid (by have := HCC.out i hlt; rw [hp] at this; exact this : w.cell? ⟨bl, ol + i, none⟩ = some (.int .i64 (p : Int)))
      have HSi := Lib.hid (HLS.out i)
      rw [hp, Int.toNat_natCast] at HSi
      obtain ⟨d0, hd0⟩ : ∃ d0, rf i = d0 := ⟨_, rfl⟩
      rw [hd0] at hbd HSi HR
      clear hp hd0
      by_cases hi0 : i = 0
      · rw [if_pos hi0] at HSi
        have hgk : ¬ (0 : Int) < (i : Int) := by omega
        have hgk2 : ¬ (i : Int) > 0 := by omega
        have HR1 := HR
        obtain ⟨d1, hd1⟩ : ∃ d1, d0 = d1 := ⟨_, rfl⟩
        have hbd1 : ∀ q, q ≠ p → 0 ≤ d0 q ∧ d0 q ≤ 31 * (i : Int) := fun q _ => hbd q
        rw [hd1] at HSi HR1 hbd1
        clear hd1 hbd hi0 HR
        go_wp2_with fail
        clear hgk hgk2
        go_loopw [9] (fun v9 w2 => ∃ k : Nat, k ≤ i ∧ v9 = .int .i64 k ∧ RdL w w2 H b n (.cells #[.int .i64 (n : Int), .slice a1 LA ac, .slice n1 LB nc] 24 (0, 0)) (rin i d1 k)) (fun v9 _ => i - (intOf v9).toNat)
        case atStart => exact ⟨0, Nat.zero_le _, rfl, by rw [HI0.out]; exact HR1.out⟩
        case round =>
          obtain ⟨k, hk, rfl, hR2⟩ := hrel
          obtain ⟨U2, rfl⟩ : ∃ U2 : World, U2 = wr := ⟨_, rfl⟩
          have HR2 := Lib.hid hR2
          clear hR2 HR1
          by_cases hki : k < i
          · have hk1 : (k : Int) < (i : Int) := by omega
            have hk2 : (k : Int) < (n : Int) := by omega
            have c1 : U2.cell? ⟨bl, ol + i, none⟩ = some (.int .i64 (p : Int)) := (HR2.out.nw.cell HGL.out).trans HCI.out
            have c2 : U2.cell? ⟨bl, ol + k, none⟩ = some (.int .i64 (nI l k)) := (HR2.out.nw.cell HGL.out).trans (HCC.out k (by omega))
            have HIk := Lib.hid (HIN.out k (by omega))
            obtain ⟨q, hq⟩ : ∃ q : Nat, nI l k = q := ⟨(nI l k).toNat, by have := HIk.out; omega⟩
            have hqn : q < n := by have := HIk.out; omega
            have hqn' : (q : Int) < (n : Int) := by omega
            have HSk := Lib.hid (HIS.out i d1 k)
            have hqp : q ≠ p := fun e => by have := HNE.out k i hki hlt; rw [HPI.out, hq, e] at this; exact this rfl
            have hdq : rin i d1 k q = d1 q := HIO.out i q d1 (by rw [HPI.out, Int.toNat_natCast]; exact hqp) k
            have hbq := hbd1 q hqp
            rw [HPI.out, hq] at HSk
            rw [hq] at c2
            simp only [Int.toNat_natCast] at HSk
            have hBX := HR2.out.bx
            have e0 : U2.cell? ⟨H, 0, none⟩ = some (.int .i64 (n : Int)) := (cell_of_row U2 H 0 _ _ _ hBX).trans rfl
            have e1 : U2.cell? ⟨H, 1, none⟩ = some (.slice a1 LA ac) := (cell_of_row U2 H 1 _ _ _ hBX).trans rfl
            have e2 : U2.cell? ⟨H, 2, none⟩ = some (.slice n1 LB nc) := (cell_of_row U2 H 2 _ _ _ hBX).trans rfl
            have hHl : H < U2.heap.size := World.block_lt_of_cell? _ _ e0
            have hfl : bl < U2.heap.size := World.block_lt_of_cell? _ _ c1
            have HARC := Lib.hid (fun (w1 : World) (hn : New U2 w1) => HAR.out w1 (HR2.out.nw.trans hn) (q : Int) (p : Int))
            clear hq hBX
            cases ha : neR o (q : Int) (p : Int)
            · rw [ha] at HARC HSk
              simp only [Bool.false_eq_true, if_false] at HSk
              clear ha
              go_upto_region 10 with fail
              first | refine wp_region_at2 (by kernel_rfl) (by kernel_rfl) ?_ | refine wp_region_at (by kernel_rfl) (by kernel_rfl) ?_
              repeat (go_big_quiet_step (first | (go_at_call 124; (with_reducible exact calls_new (HARC.out _ (by (repeat (first | exact New.refl _ | apply New.alloc | apply New.aft | apply New.drew))))))))
              refine wpQuiet_nil ?_
              rintro U3 hq3
              have HN3 := Lib.hid (show New U2 U3 from hq3)
              clear hq3
              go_wp2_with fail
              go_roundw
              case rel => exact ⟨k + 1, by omega, by go_num, by rw [HSk.out]; exact HR2.out.new HN3.out⟩
              case measure => simp [intOf]; omega
            · rw [ha] at HARC HSk
              simp only [if_true] at HSk
              clear ha
              go_upto_region 10 with fail
              first | refine wp_region_at2 (by kernel_rfl) (by kernel_rfl) ?_ | refine wp_region_at (by kernel_rfl) (by kernel_rfl) ?_
              repeat (go_big_quiet_step (first | (go_at_call 124; (with_reducible exact calls_new (HARC.out _ (by (repeat (first | exact New.refl _ | apply New.alloc | apply New.aft | apply New.drew))))))))
              refine wpQuiet_nil ?_
              rintro U3 hq3
              have HN3 := Lib.hid (show New U2 U3 from hq3)
              have HR3 := Lib.hid (HR2.out.new HN3.out)
              have g1 : U3.cell? ⟨bl, ol + i, none⟩ = some (.int .i64 (p : Int)) := (HN3.out.cell hfl).trans c1
              have g2 : U3.cell? ⟨bl, ol + k, none⟩ = some (.int .i64 (q : Int)) := (HN3.out.cell hfl).trans c2
              clear hq3 c1 c2 e0 e1 e2 hHl hfl
              obtain ⟨d, hd⟩ : ∃ d, rin i d1 k = d := ⟨_, rfl⟩
              rw [hd] at HSk HR3 hdq
              rw [← hdq] at hbq
              have hw1 : IntKind.i64.wrap (d q + (dry : Int)) = d q + (dry : Int) := IntWalk.i64_in _ (by omega)
              have hw2 : IntKind.i64.wrap (d q + (dry : Int) + 1) = d q + (dry : Int) + 1 := IntWalk.i64_in _ (by omega)
              have HFX := Lib.hid (show stepQ (dry : Int) p d q = updI d p (max (d p) (d q + (dry : Int) + 1)) from rfl)
              have hS : U3.cell? ⟨bl, ol + i, none⟩ = some (.int .i64 (p : Int)) ∧ U3.cell? ⟨bl, ol + k, none⟩ = some (.int .i64 (q : Int)) ∧ U3.cell? ⟨b, p, none⟩ = some (.int .i64 (d p)) ∧ U3.cell? ⟨b, q, none⟩ = some (.int .i64 (d q)) ∧ U3.frozen? ⟨b, p, none⟩ = false := ⟨g1, g2, HR3.out.iv.at p hpn, HR3.out.iv.at q hqn, HR3.out.iv.froz p⟩
              clear g1 g2 hd hdq
              go_upto_region 12 with fail
              apply wp_region_lastP 24 (fun w' => w'.cell? ⟨bl, ol + i, none⟩ = some (.int .i64 (p : Int)) ∧ w'.cell? ⟨bl, ol + k, none⟩ = some (.int .i64 (q : Int)) ∧ w'.cell? ⟨b, p, none⟩ = some (.int .i64 (d p)) ∧ w'.cell? ⟨b, q, none⟩ = some (.int .i64 (d q)) ∧ w'.frozen? ⟨b, p, none⟩ = false) (fun w' => w' = U3.drew.setCell ⟨b, p, none⟩ (.int .i64 (max (d p) (d q + (dry : Int) + 1)))) (by kernel_rfl)
              case h =>
                have hHeld := (show _ from hS)
                refine G_take (i := 0) (x := { dst := some 53, op := _, type := _, pos := _, after := _, guard := _ }) (v := ?_) rfl (by kernel_rfl) (by kernel_rfl) (by kernel_rfl) (by kernel_rfl) (fun _ _ _ h => h) (Or.inl ⟨by rfl, (by intro w hSw; (try dsimp only at hSw); obtain ⟨s1, s2, s3, s4, s5⟩ := hSw; go_simp; try with_reducible rfl)⟩) hHeld ?_
                (try simp only [Act.put, List.setIfInBounds_toArray, List.set_cons_zero, List.set_cons_succ])
                refine G_take (i := 1) (x := { dst := some 54, op := _, type := _, pos := _, after := _, guard := _ }) (v := ?_) rfl (by kernel_rfl) (by kernel_rfl) (by kernel_rfl) (by kernel_rfl) (fun _ _ _ h => h) (Or.inl ⟨by rfl, (by intro w hSw; (try dsimp only at hSw); obtain ⟨s1, s2, s3, s4, s5⟩ := hSw; go_simp; try with_reducible rfl)⟩) hHeld ?_
                (try simp only [Act.put, List.setIfInBounds_toArray, List.set_cons_zero, List.set_cons_succ])
                refine G_take (i := 2) (x := { dst := some 55, op := _, type := _, pos := _, after := _, guard := _ }) (v := ?_) rfl (by kernel_rfl) (by kernel_rfl) (by kernel_rfl) (by kernel_rfl) (fun _ _ _ h => h) (Or.inl ⟨by rfl, (by intro w hSw; (try dsimp only at hSw); obtain ⟨s1, s2, s3, s4, s5⟩ := hSw; go_simp; try with_reducible rfl)⟩) hHeld ?_
                (try simp only [Act.put, List.setIfInBounds_toArray, List.set_cons_zero, List.set_cons_succ])
                refine G_take (i := 3) (x := { dst := some 56, op := _, type := _, pos := _, after := _, guard := _ }) (v := ?_) rfl (by kernel_rfl) (by kernel_rfl) (by kernel_rfl) (by kernel_rfl) (fun _ _ _ h => h) (Or.inl ⟨by rfl, (by intro w hSw; (try dsimp only at hSw); obtain ⟨s1, s2, s3, s4, s5⟩ := hSw; go_simp; try with_reducible rfl)⟩) hHeld ?_
                (try simp only [Act.put, List.setIfInBounds_toArray, List.set_cons_zero, List.set_cons_succ])
                refine G_take (i := 4) (x := { dst := some 57, op := _, type := _, pos := _, after := _, guard := _ }) (v := ?_) rfl (by kernel_rfl) (by kernel_rfl) (by kernel_rfl) (by kernel_rfl) (fun _ _ _ h => h) (Or.inl ⟨by rfl, (by intro w hSw; (try dsimp only at hSw); obtain ⟨s1, s2, s3, s4, s5⟩ := hSw; go_simp; try with_reducible rfl)⟩) hHeld ?_
                (try simp only [Act.put, List.setIfInBounds_toArray, List.set_cons_zero, List.set_cons_succ])
                refine G_take (i := 5) (x := { dst := some 58, op := _, type := _, pos := _, after := _, guard := _ }) (v := ?_) rfl (by kernel_rfl) (by kernel_rfl) (by kernel_rfl) (by kernel_rfl) (fun _ _ _ h => h) (Or.inl ⟨by rfl, (by intro w hSw; (try dsimp only at hSw); obtain ⟨s1, s2, s3, s4, s5⟩ := hSw; go_simp; try with_reducible rfl)⟩) hHeld ?_
                (try simp only [Act.put, List.setIfInBounds_toArray, List.set_cons_zero, List.set_cons_succ])
                refine G_take (i := 6) (x := { dst := some 59, op := _, type := _, pos := _, after := _, guard := _ }) (v := ?_) rfl (by kernel_rfl) (by kernel_rfl) (by kernel_rfl) (by kernel_rfl) (fun _ _ _ h => h) (Or.inl ⟨by rfl, (by intro w hSw; (try dsimp only at hSw); obtain ⟨s1, s2, s3, s4, s5⟩ := hSw; go_simp; try with_reducible rfl)⟩) hHeld ?_
                (try simp only [Act.put, List.setIfInBounds_toArray, List.set_cons_zero, List.set_cons_succ])
                refine G_take (i := 7) (x := { dst := some 60, op := _, type := _, pos := _, after := _, guard := _ }) (v := ?_) rfl (by kernel_rfl) (by kernel_rfl) (by kernel_rfl) (by kernel_rfl) (fun _ _ _ h => h) (Or.inl ⟨by rfl, (by intro w hSw; (try dsimp only at hSw); obtain ⟨s1, s2, s3, s4, s5⟩ := hSw; go_simp; try with_reducible rfl)⟩) hHeld ?_
                (try simp only [Act.put, List.setIfInBounds_toArray, List.set_cons_zero, List.set_cons_succ])
                refine G_take (i := 8) (x := { dst := some 61, op := _, type := _, pos := _, after := _, guard := _ }) (v := ?_) rfl (by kernel_rfl) (by kernel_rfl) (by kernel_rfl) (by kernel_rfl) (fun _ _ _ h => h) (Or.inl ⟨by rfl, (by intro w hSw; (try dsimp only at hSw); obtain ⟨s1, s2, s3, s4, s5⟩ := hSw; go_simp; try with_reducible rfl)⟩) hHeld ?_
                (try simp only [Act.put, List.setIfInBounds_toArray, List.set_cons_zero, List.set_cons_succ])
                refine G_take (i := 9) (x := { dst := some 62, op := _, type := _, pos := _, after := _, guard := _ }) (v := ?_) rfl (by kernel_rfl) (by kernel_rfl) (by kernel_rfl) (by kernel_rfl) (fun _ _ _ h => h) (Or.inl ⟨by rfl, (by intro w hSw; (try dsimp only at hSw); obtain ⟨s1, s2, s3, s4, s5⟩ := hSw; go_simp; try with_reducible rfl)⟩) hHeld ?_
                (try simp only [Act.put, List.setIfInBounds_toArray, List.set_cons_zero, List.set_cons_succ])
                refine G_take (i := 10) (x := { dst := some 63, op := _, type := _, pos := _, after := _, guard := _ }) (v := ?_) rfl (by kernel_rfl) (by kernel_rfl) (by kernel_rfl) (by kernel_rfl) (fun _ _ _ h => h) (Or.inl ⟨by rfl, (by intro w hSw; (try dsimp only at hSw); obtain ⟨s1, s2, s3, s4, s5⟩ := hSw; go_simp; try with_reducible rfl)⟩) hHeld ?_
                (try simp only [Act.put, List.setIfInBounds_toArray, List.set_cons_zero, List.set_cons_succ])
                refine G_take (i := 11) (x := { dst := some 64, op := _, type := _, pos := _, after := _, guard := _ }) (v := ?_) rfl (by kernel_rfl) (by kernel_rfl) (by kernel_rfl) (by kernel_rfl) (fun _ _ _ h => h) (Or.inl ⟨by rfl, (by intro w hSw; (try dsimp only at hSw); obtain ⟨s1, s2, s3, s4, s5⟩ := hSw; go_simp; try with_reducible rfl)⟩) hHeld ?_
                (try simp only [Act.put, List.setIfInBounds_toArray, List.set_cons_zero, List.set_cons_succ])
                refine G_take (i := 12) (x := { dst := some 65, op := _, type := _, pos := _, after := _, guard := _ }) (v := ?_) rfl (by kernel_rfl) (by kernel_rfl) (by kernel_rfl) (by kernel_rfl) (fun _ _ _ h => h) (Or.inl ⟨by rfl, (by intro w hSw; (try dsimp only at hSw); obtain ⟨s1, s2, s3, s4, s5⟩ := hSw; go_simp; try with_reducible rfl)⟩) hHeld ?_
                (try simp only [Act.put, List.setIfInBounds_toArray, List.set_cons_zero, List.set_cons_succ])
                refine G_take (i := 13) (x := { dst := some 66, op := _, type := _, pos := _, after := _, guard := _ }) (v := ?_) rfl (by kernel_rfl) (by kernel_rfl) (by kernel_rfl) (by kernel_rfl) (fun _ _ _ h => h) (Or.inl ⟨by rfl, (by intro w hSw; (try dsimp only at hSw); obtain ⟨s1, s2, s3, s4, s5⟩ := hSw; go_simp; try with_reducible rfl)⟩) hHeld ?_
                (try simp only [Act.put, List.setIfInBounds_toArray, List.set_cons_zero, List.set_cons_succ])
                refine G_take (i := 14) (x := { dst := some 67, op := _, type := _, pos := _, after := _, guard := _ }) (v := ?_) rfl (by kernel_rfl) (by kernel_rfl) (by kernel_rfl) (by kernel_rfl) (fun _ _ _ h => h) (Or.inl ⟨by rfl, (by intro w hSw; (try dsimp only at hSw); obtain ⟨s1, s2, s3, s4, s5⟩ := hSw; go_simp; try with_reducible rfl)⟩) hHeld ?_
                (try simp only [Act.put, List.setIfInBounds_toArray, List.set_cons_zero, List.set_cons_succ])
                refine G_take (i := 15) (x := { dst := some 68, op := _, type := _, pos := _, after := _, guard := _ }) (v := ?_) rfl (by kernel_rfl) (by kernel_rfl) (by kernel_rfl) (by kernel_rfl) (fun _ _ _ h => h) (Or.inl ⟨by rfl, (by intro w hSw; (try dsimp only at hSw); obtain ⟨s1, s2, s3, s4, s5⟩ := hSw; go_simp; try with_reducible rfl)⟩) hHeld ?_
                (try simp only [Act.put, List.setIfInBounds_toArray, List.set_cons_zero, List.set_cons_succ])
                refine G_take (i := 16) (x := { dst := some 69, op := _, type := _, pos := _, after := _, guard := _ }) (v := ?_) rfl (by kernel_rfl) (by kernel_rfl) (by kernel_rfl) (by kernel_rfl) (fun _ _ _ h => h) (Or.inl ⟨by rfl, (by intro w hSw; (try dsimp only at hSw); obtain ⟨s1, s2, s3, s4, s5⟩ := hSw; go_simp; try with_reducible rfl)⟩) hHeld ?_
                (try simp only [Act.put, List.setIfInBounds_toArray, List.set_cons_zero, List.set_cons_succ])
                refine G_take (i := 17) (x := { dst := some 70, op := _, type := _, pos := _, after := _, guard := _ }) (v := ?_) rfl (by kernel_rfl) (by kernel_rfl) (by kernel_rfl) (by kernel_rfl) (fun _ _ _ h => h) (Or.inl ⟨by rfl, (by intro w hSw; (try dsimp only at hSw); obtain ⟨s1, s2, s3, s4, s5⟩ := hSw; go_simp; try with_reducible rfl)⟩) hHeld ?_
                (try simp only [Act.put, List.setIfInBounds_toArray, List.set_cons_zero, List.set_cons_succ])
                refine G_take (i := 18) (x := { dst := some 71, op := _, type := _, pos := _, after := _, guard := _ }) (v := ?_) rfl (by kernel_rfl) (by kernel_rfl) (by kernel_rfl) (by kernel_rfl) (fun _ _ _ h => h) (Or.inl ⟨by rfl, (by intro w hSw; (try dsimp only at hSw); obtain ⟨s1, s2, s3, s4, s5⟩ := hSw; go_simp; try with_reducible rfl)⟩) hHeld ?_
                (try simp only [Act.put, List.setIfInBounds_toArray, List.set_cons_zero, List.set_cons_succ])
                refine G_take (i := 19) (x := { dst := some 72, op := _, type := _, pos := _, after := _, guard := _ }) (v := ?_) rfl (by kernel_rfl) (by kernel_rfl) (by kernel_rfl) (by kernel_rfl) (fun _ _ _ h => h) (Or.inl ⟨by rfl, (by intro w hSw; (try dsimp only at hSw); obtain ⟨s1, s2, s3, s4, s5⟩ := hSw; go_simp; try with_reducible rfl)⟩) hHeld ?_
                (try simp only [Act.put, List.setIfInBounds_toArray, List.set_cons_zero, List.set_cons_succ])
                refine G_take (i := 20) (x := { dst := some 73, op := _, type := _, pos := _, after := _, guard := _ }) (v := ?_) rfl (by kernel_rfl) (by kernel_rfl) (by kernel_rfl) (by kernel_rfl) (fun _ _ _ h => h) (Or.inl ⟨by rfl, (by intro w hSw; (try dsimp only at hSw); obtain ⟨s1, s2, s3, s4, s5⟩ := hSw; go_simp; try with_reducible rfl)⟩) hHeld ?_
                (try simp only [Act.put, List.setIfInBounds_toArray, List.set_cons_zero, List.set_cons_succ])
                refine G_take (i := 21) (x := { dst := some 74, op := _, type := _, pos := _, after := _, guard := _ }) (v := ?_) rfl (by kernel_rfl) (by kernel_rfl) (by kernel_rfl) (by kernel_rfl) (fun _ _ _ h => h) (Or.inl ⟨by rfl, (by intro w hSw; (try dsimp only at hSw); obtain ⟨s1, s2, s3, s4, s5⟩ := hSw; go_simp; try with_reducible rfl)⟩) hHeld ?_
                (try simp only [Act.put, List.setIfInBounds_toArray, List.set_cons_zero, List.set_cons_succ])
                refine G_take (i := 22) (x := { dst := some 75, op := _, type := _, pos := _, after := _, guard := _ }) (v := ?_) rfl (by kernel_rfl) (by kernel_rfl) (by kernel_rfl) (by kernel_rfl) (fun _ _ _ h => h) (Or.inl ⟨by rfl, (by intro w hSw; (try dsimp only at hSw); obtain ⟨s1, s2, s3, s4, s5⟩ := hSw; go_simp; try with_reducible rfl)⟩) hHeld ?_
                (try simp only [Act.put, List.setIfInBounds_toArray, List.set_cons_zero, List.set_cons_succ])
                refine G_take (i := 23) (x := { dst := some 76, op := _, type := _, pos := _, after := _, guard := _ }) (v := ?_) rfl (by kernel_rfl) (by kernel_rfl) (by kernel_rfl) (by kernel_rfl) (fun _ _ _ h => h) (Or.inl ⟨by rfl, (by intro w hSw; (try dsimp only at hSw); obtain ⟨s1, s2, s3, s4, s5⟩ := hSw; go_simp; try with_reducible rfl)⟩) hHeld ?_
                (try simp only [Act.put, List.setIfInBounds_toArray, List.set_cons_zero, List.set_cons_succ])
                refine G_one (i := 24) (x := { dst := none, op := _, type := _, pos := _, after := _, guard := _ }) (by kernel_rfl) rfl (by rfl) (fun K hK => ?_)
                go_simp
                refine hK _ _ (.inl rfl) ?_
                clear hK K
                (try simp only [Act.put, List.setIfInBounds_toArray, List.set_cons_zero, List.set_cons_succ])
                refine G_done (by kernel_rfl) ?_ _
                exact ⟨rfl, rfl⟩
              case hq =>
                rintro _ rfl
                clear hS
                go_wp2_with fail
                go_roundw
                case rel => exact ⟨k + 1, by omega, by go_num, by rw [HSk.out, HFX.out]; exact (HR3.out.new (New.refl U3).drew).put p _⟩
                case measure => simp [intOf]; omega
          · obtain rfl : k = i := by omega
            have hk1 : ¬ (k : Int) < (k : Int) := by omega
            go_wp2_with fail
            go_roundw
            case rel => exact ⟨k + 1, by omega, by go_num, by rw [HSi.out]; exact HR2.out⟩
            case measure => simp [intOf]; omega
      · rw [if_neg hi0] at HSi
        have hgk : (0 : Int) < (i : Int) := by omega
        have hgk2 : (i : Int) > 0 := by omega
        have HIq := Lib.hid (HIN.out (i - 1) (by omega))
        obtain ⟨q, hq⟩ : ∃ q : Nat, nI l (i - 1) = q := ⟨(nI l (i - 1)).toNat, by have := HIq.out; omega⟩
        have hqn : q < n := by have := HIq.out; omega
        have hqn' : (q : Int) < (n : Int) := by omega
        rw [hq, Int.toNat_natCast] at HSi
        have hbq := hbd q
        have hw1 : IntKind.i64.wrap (d0 q + 1) = d0 q + 1 := IntWalk.i64_in _ (by omega)
        have hkn : (i : Int) - 1 = ((i - 1 : Nat) : Int) := by omega
        have hkn2 : ((i - 1 : Nat) : Int) < (n : Int) := by omega
        have hwk : IntKind.i64.wrap ((i - 1 : Nat) : Int) = ((i - 1 : Nat) : Int) := IntWalk.i64_in _ (by omega)
        have hS : U1.cell? ⟨bl, ol + i, none⟩ = some (.int .i64 (p : Int)) ∧ U1.cell? ⟨bl, ol + (i - 1), none⟩ = some (.int .i64 (q : Int)) ∧ U1.cell? ⟨b, p, none⟩ = some (.int .i64 (d0 p)) ∧ U1.cell? ⟨b, q, none⟩ = some (.int .i64 (d0 q)) ∧ U1.frozen? ⟨b, p, none⟩ = false := ⟨(HR.out.nw.cell HGL.out).trans HCI.out, by rw [← hq]; exact (HR.out.nw.cell HGL.out).trans (HCC.out (i - 1) (by omega)), HR.out.iv.at p hpn, HR.out.iv.at q hqn, HR.out.iv.froz p⟩
        clear hq
        go_upto_region 6 with fail
        apply wp_region_lastP 15 (fun w' => w'.cell? ⟨bl, ol + i, none⟩ = some (.int .i64 (p : Int)) ∧ w'.cell? ⟨bl, ol + (i - 1), none⟩ = some (.int .i64 (q : Int)) ∧ w'.cell? ⟨b, p, none⟩ = some (.int .i64 (d0 p)) ∧ w'.cell? ⟨b, q, none⟩ = some (.int .i64 (d0 q)) ∧ w'.frozen? ⟨b, p, none⟩ = false) (fun w' => w' = U1.drew.setCell ⟨b, p, none⟩ (.int .i64 (d0 q + 1))) (by kernel_rfl)
        case h =>
          have hHeld := (show _ from hS)
          refine G_take (i := 0) (x := { dst := some 22, op := _, type := _, pos := _, after := _, guard := _ }) (v := ?_) rfl (by kernel_rfl) (by kernel_rfl) (by kernel_rfl) (by kernel_rfl) (fun _ _ _ h => h) (Or.inl ⟨by rfl, (by intro w hSw; (try dsimp only at hSw); obtain ⟨s1, s2, s3, s4, s5⟩ := hSw; go_simp; try with_reducible rfl)⟩) hHeld ?_
          (try simp only [Act.put, List.setIfInBounds_toArray, List.set_cons_zero, List.set_cons_succ])
          refine G_take (i := 1) (x := { dst := some 23, op := _, type := _, pos := _, after := _, guard := _ }) (v := ?_) rfl (by kernel_rfl) (by kernel_rfl) (by kernel_rfl) (by kernel_rfl) (fun _ _ _ h => h) (Or.inl ⟨by rfl, (by intro w hSw; (try dsimp only at hSw); obtain ⟨s1, s2, s3, s4, s5⟩ := hSw; go_simp; try with_reducible rfl)⟩) hHeld ?_
          (try simp only [Act.put, List.setIfInBounds_toArray, List.set_cons_zero, List.set_cons_succ])
          refine G_take (i := 2) (x := { dst := some 24, op := _, type := _, pos := _, after := _, guard := _ }) (v := ?_) rfl (by kernel_rfl) (by kernel_rfl) (by kernel_rfl) (by kernel_rfl) (fun _ _ _ h => h) (Or.inl ⟨by rfl, (by intro w hSw; (try dsimp only at hSw); obtain ⟨s1, s2, s3, s4, s5⟩ := hSw; go_simp; try with_reducible rfl)⟩) hHeld ?_
          (try simp only [Act.put, List.setIfInBounds_toArray, List.set_cons_zero, List.set_cons_succ])
          refine G_take (i := 3) (x := { dst := some 25, op := _, type := _, pos := _, after := _, guard := _ }) (v := ?_) rfl (by kernel_rfl) (by kernel_rfl) (by kernel_rfl) (by kernel_rfl) (fun _ _ _ h => h) (Or.inl ⟨by rfl, (by intro w hSw; (try dsimp only at hSw); obtain ⟨s1, s2, s3, s4, s5⟩ := hSw; go_simp; try with_reducible rfl)⟩) hHeld ?_
          (try simp only [Act.put, List.setIfInBounds_toArray, List.set_cons_zero, List.set_cons_succ])
          refine G_take (i := 4) (x := { dst := some 26, op := _, type := _, pos := _, after := _, guard := _ }) (v := ?_) rfl (by kernel_rfl) (by kernel_rfl) (by kernel_rfl) (by kernel_rfl) (fun _ _ _ h => h) (Or.inl ⟨by rfl, (by intro w hSw; (try dsimp only at hSw); obtain ⟨s1, s2, s3, s4, s5⟩ := hSw; go_simp; try with_reducible rfl)⟩) hHeld ?_
          (try simp only [Act.put, List.setIfInBounds_toArray, List.set_cons_zero, List.set_cons_succ])
          refine G_take (i := 5) (x := { dst := some 27, op := _, type := _, pos := _, after := _, guard := _ }) (v := ?_) rfl (by kernel_rfl) (by kernel_rfl) (by kernel_rfl) (by kernel_rfl) (fun _ _ _ h => h) (Or.inl ⟨by rfl, (by intro w hSw; (try dsimp only at hSw); obtain ⟨s1, s2, s3, s4, s5⟩ := hSw; go_simp; try with_reducible rfl)⟩) hHeld ?_
          (try simp only [Act.put, List.setIfInBounds_toArray, List.set_cons_zero, List.set_cons_succ])
          refine G_take (i := 6) (x := { dst := some 28, op := _, type := _, pos := _, after := _, guard := _ }) (v := ?_) rfl (by kernel_rfl) (by kernel_rfl) (by kernel_rfl) (by kernel_rfl) (fun _ _ _ h => h) (Or.inl ⟨by rfl, (by intro w hSw; (try dsimp only at hSw); obtain ⟨s1, s2, s3, s4, s5⟩ := hSw; go_simp; try with_reducible rfl)⟩) hHeld ?_
          (try simp only [Act.put, List.setIfInBounds_toArray, List.set_cons_zero, List.set_cons_succ])
          refine G_take (i := 7) (x := { dst := some 29, op := _, type := _, pos := _, after := _, guard := _ }) (v := ?_) rfl (by kernel_rfl) (by kernel_rfl) (by kernel_rfl) (by kernel_rfl) (fun _ _ _ h => h) (Or.inl ⟨by rfl, (by intro w hSw; (try dsimp only at hSw); obtain ⟨s1, s2, s3, s4, s5⟩ := hSw; go_simp; try with_reducible rfl)⟩) hHeld ?_
          (try simp only [Act.put, List.setIfInBounds_toArray, List.set_cons_zero, List.set_cons_succ])
          refine G_take (i := 8) (x := { dst := some 30, op := _, type := _, pos := _, after := _, guard := _ }) (v := ?_) rfl (by kernel_rfl) (by kernel_rfl) (by kernel_rfl) (by kernel_rfl) (fun _ _ _ h => h) (Or.inl ⟨by rfl, (by intro w hSw; (try dsimp only at hSw); obtain ⟨s1, s2, s3, s4, s5⟩ := hSw; go_simp; try with_reducible rfl)⟩) hHeld ?_
          (try simp only [Act.put, List.setIfInBounds_toArray, List.set_cons_zero, List.set_cons_succ])
          refine G_take (i := 9) (x := { dst := some 31, op := _, type := _, pos := _, after := _, guard := _ }) (v := ?_) rfl (by kernel_rfl) (by kernel_rfl) (by kernel_rfl) (by kernel_rfl) (fun _ _ _ h => h) (Or.inl ⟨by rfl, (by intro w hSw; (try dsimp only at hSw); obtain ⟨s1, s2, s3, s4, s5⟩ := hSw; go_simp; try with_reducible rfl)⟩) hHeld ?_
          (try simp only [Act.put, List.setIfInBounds_toArray, List.set_cons_zero, List.set_cons_succ])
          refine G_take (i := 10) (x := { dst := some 32, op := _, type := _, pos := _, after := _, guard := _ }) (v := ?_) rfl (by kernel_rfl) (by kernel_rfl) (by kernel_rfl) (by kernel_rfl) (fun _ _ _ h => h) (Or.inl ⟨by rfl, (by intro w hSw; (try dsimp only at hSw); obtain ⟨s1, s2, s3, s4, s5⟩ := hSw; go_simp; try with_reducible rfl)⟩) hHeld ?_
          (try simp only [Act.put, List.setIfInBounds_toArray, List.set_cons_zero, List.set_cons_succ])
          refine G_take (i := 11) (x := { dst := some 33, op := _, type := _, pos := _, after := _, guard := _ }) (v := ?_) rfl (by kernel_rfl) (by kernel_rfl) (by kernel_rfl) (by kernel_rfl) (fun _ _ _ h => h) (Or.inl ⟨by rfl, (by intro w hSw; (try dsimp only at hSw); obtain ⟨s1, s2, s3, s4, s5⟩ := hSw; go_simp; try with_reducible rfl)⟩) hHeld ?_
          (try simp only [Act.put, List.setIfInBounds_toArray, List.set_cons_zero, List.set_cons_succ])
          refine G_take (i := 12) (x := { dst := some 34, op := _, type := _, pos := _, after := _, guard := _ }) (v := ?_) rfl (by kernel_rfl) (by kernel_rfl) (by kernel_rfl) (by kernel_rfl) (fun _ _ _ h => h) (Or.inl ⟨by rfl, (by intro w hSw; (try dsimp only at hSw); obtain ⟨s1, s2, s3, s4, s5⟩ := hSw; go_simp; try with_reducible rfl)⟩) hHeld ?_
          (try simp only [Act.put, List.setIfInBounds_toArray, List.set_cons_zero, List.set_cons_succ])
          refine G_take (i := 13) (x := { dst := some 35, op := _, type := _, pos := _, after := _, guard := _ }) (v := ?_) rfl (by kernel_rfl) (by kernel_rfl) (by kernel_rfl) (by kernel_rfl) (fun _ _ _ h => h) (Or.inl ⟨by rfl, (by intro w hSw; (try dsimp only at hSw); obtain ⟨s1, s2, s3, s4, s5⟩ := hSw; go_simp; try with_reducible rfl)⟩) hHeld ?_
          (try simp only [Act.put, List.setIfInBounds_toArray, List.set_cons_zero, List.set_cons_succ])
          refine G_take (i := 14) (x := { dst := some 36, op := _, type := _, pos := _, after := _, guard := _ }) (v := ?_) rfl (by kernel_rfl) (by kernel_rfl) (by kernel_rfl) (by kernel_rfl) (fun _ _ _ h => h) (Or.inl ⟨by rfl, (by intro w hSw; (try dsimp only at hSw); obtain ⟨s1, s2, s3, s4, s5⟩ := hSw; go_simp; try with_reducible rfl)⟩) hHeld ?_
          (try simp only [Act.put, List.setIfInBounds_toArray, List.set_cons_zero, List.set_cons_succ])
          refine G_one (i := 15) (x := { dst := none, op := _, type := _, pos := _, after := _, guard := _ }) (by kernel_rfl) rfl (by rfl) (fun K hK => ?_)
          go_simp
          refine hK _ _ (.inl rfl) ?_
          clear hK K
          (try simp only [Act.put, List.setIfInBounds_toArray, List.set_cons_zero, List.set_cons_succ])
          refine G_done (by kernel_rfl) ?_ _
          exact ⟨rfl, rfl⟩
        case hq =>
        rintro _ rfl
        clear hS hkn hwk
        have HR1 := Lib.hid ((HR.out.new (New.refl U1).drew).put p (d0 q + 1))
        have hbd1 : ∀ x, x ≠ p → 0 ≤ updI d0 p (d0 q + 1) x ∧ updI d0 p (d0 q + 1) x ≤ 31 * (i : Int) := fun x hx => by rw [updI_other hx]; exact hbd x
        obtain ⟨d1, hd1⟩ : ∃ d1, updI d0 p (d0 q + 1) = d1 := ⟨_, rfl⟩
        rw [hd1] at HSi HR1 hbd1
        obtain ⟨W1, hW1⟩ : ∃ W1, U1.drew.setCell ⟨b, p, none⟩ (.int .i64 (d0 q + 1)) = W1 := ⟨_, rfl⟩
        rw [hW1] at HR1 ⊢
        clear hd1 hbd hi0 HR hbq hw1 hW1 hqn hqn' hkn2
        go_wp2_with fail
        clear hgk hgk2
        go_loopw [9] (fun v9 w2 => ∃ k : Nat, k ≤ i ∧ v9 = .int .i64 k ∧ RdL w w2 H b n (.cells #[.int .i64 (n : Int), .slice a1 LA ac, .slice n1 LB nc] 24 (0, 0)) (rin i d1 k)) (fun v9 _ => i - (intOf v9).toNat)
        case atStart => exact ⟨0, Nat.zero_le _, rfl, by rw [HI0.out]; exact HR1.out⟩
        case round =>
          obtain ⟨k, hk, rfl, hR2⟩ := hrel
          obtain ⟨U2, rfl⟩ : ∃ U2 : World, U2 = wr := ⟨_, rfl⟩
          have HR2 := Lib.hid hR2
          clear hR2 HR1
          by_cases hki : k < i
          · have hk1 : (k : Int) < (i : Int) := by omega
            have hk2 : (k : Int) < (n : Int) := by omega
            have c1 : U2.cell? ⟨bl, ol + i, none⟩ = some (.int .i64 (p : Int)) := (HR2.out.nw.cell HGL.out).trans HCI.out
            have c2 : U2.cell? ⟨bl, ol + k, none⟩ = some (.int .i64 (nI l k)) := (HR2.out.nw.cell HGL.out).trans (HCC.out k (by omega))
            have HIk := Lib.hid (HIN.out k (by omega))
            obtain ⟨q, hq⟩ : ∃ q : Nat, nI l k = q := ⟨(nI l k).toNat, by have := HIk.out; omega⟩
            have hqn : q < n := by have := HIk.out; omega
            have hqn' : (q : Int) < (n : Int) := by omega
            have HSk := Lib.hid (HIS.out i d1 k)
            have hqp : q ≠ p := fun e => by have := HNE.out k i hki hlt; rw [HPI.out, hq, e] at this; exact this rfl
            have hdq : rin i d1 k q = d1 q := HIO.out i q d1 (by rw [HPI.out, Int.toNat_natCast]; exact hqp) k
            have hbq := hbd1 q hqp
            rw [HPI.out, hq] at HSk
            rw [hq] at c2
            simp only [Int.toNat_natCast] at HSk
            have hBX := HR2.out.bx
            have e0 : U2.cell? ⟨H, 0, none⟩ = some (.int .i64 (n : Int)) := (cell_of_row U2 H 0 _ _ _ hBX).trans rfl
            have e1 : U2.cell? ⟨H, 1, none⟩ = some (.slice a1 LA ac) := (cell_of_row U2 H 1 _ _ _ hBX).trans rfl
            have e2 : U2.cell? ⟨H, 2, none⟩ = some (.slice n1 LB nc) := (cell_of_row U2 H 2 _ _ _ hBX).trans rfl
            have hHl : H < U2.heap.size := World.block_lt_of_cell? _ _ e0
            have hfl : bl < U2.heap.size := World.block_lt_of_cell? _ _ c1
            have HARC := Lib.hid (fun (w1 : World) (hn : New U2 w1) => HAR.out w1 (HR2.out.nw.trans hn) (q : Int) (p : Int))
            clear hq hBX
            cases ha : neR o (q : Int) (p : Int)
            · rw [ha] at HARC HSk
              simp only [Bool.false_eq_true, if_false] at HSk
              clear ha
              go_upto_region 10 with fail
              first | refine wp_region_at2 (by kernel_rfl) (by kernel_rfl) ?_ | refine wp_region_at (by kernel_rfl) (by kernel_rfl) ?_
              repeat (go_big_quiet_step (first | (go_at_call 124; (with_reducible exact calls_new (HARC.out _ (by (repeat (first | exact New.refl _ | apply New.alloc | apply New.aft | apply New.drew))))))))
              refine wpQuiet_nil ?_
              rintro U3 hq3
              have HN3 := Lib.hid (show New U2 U3 from hq3)
              clear hq3
              go_wp2_with fail
              go_roundw
              case rel => exact ⟨k + 1, by omega, by go_num, by rw [HSk.out]; exact HR2.out.new HN3.out⟩
              case measure => simp [intOf]; omega
            · rw [ha] at HARC HSk
              simp only [if_true] at HSk
              clear ha
              go_upto_region 10 with fail
              first | refine wp_region_at2 (by kernel_rfl) (by kernel_rfl) ?_ | refine wp_region_at (by kernel_rfl) (by kernel_rfl) ?_
              repeat (go_big_quiet_step (first | (go_at_call 124; (with_reducible exact calls_new (HARC.out _ (by (repeat (first | exact New.refl _ | apply New.alloc | apply New.aft | apply New.drew))))))))
              refine wpQuiet_nil ?_
              rintro U3 hq3
              have HN3 := Lib.hid (show New U2 U3 from hq3)
              have HR3 := Lib.hid (HR2.out.new HN3.out)
              have g1 : U3.cell? ⟨bl, ol + i, none⟩ = some (.int .i64 (p : Int)) := (HN3.out.cell hfl).trans c1
              have g2 : U3.cell? ⟨bl, ol + k, none⟩ = some (.int .i64 (q : Int)) := (HN3.out.cell hfl).trans c2
              clear hq3 c1 c2 e0 e1 e2 hHl hfl
              obtain ⟨d, hd⟩ : ∃ d, rin i d1 k = d := ⟨_, rfl⟩
              rw [hd] at HSk HR3 hdq
              rw [← hdq] at hbq
              have hw1 : IntKind.i64.wrap (d q + (dry : Int)) = d q + (dry : Int) := IntWalk.i64_in _ (by omega)
              have hw2 : IntKind.i64.wrap (d q + (dry : Int) + 1) = d q + (dry : Int) + 1 := IntWalk.i64_in _ (by omega)
              have HFX := Lib.hid (show stepQ (dry : Int) p d q = updI d p (max (d p) (d q + (dry : Int) + 1)) from rfl)
              have hS : U3.cell? ⟨bl, ol + i, none⟩ = some (.int .i64 (p : Int)) ∧ U3.cell? ⟨bl, ol + k, none⟩ = some (.int .i64 (q : Int)) ∧ U3.cell? ⟨b, p, none⟩ = some (.int .i64 (d p)) ∧ U3.cell? ⟨b, q, none⟩ = some (.int .i64 (d q)) ∧ U3.frozen? ⟨b, p, none⟩ = false := ⟨g1, g2, HR3.out.iv.at p hpn, HR3.out.iv.at q hqn, HR3.out.iv.froz p⟩
              clear g1 g2 hd hdq
              go_upto_region 12 with fail
              apply wp_region_lastP 24 (fun w' => w'.cell? ⟨bl, ol + i, none⟩ = some (.int .i64 (p : Int)) ∧ w'.cell? ⟨bl, ol + k, none⟩ = some (.int .i64 (q : Int)) ∧ w'.cell? ⟨b, p, none⟩ = some (.int .i64 (d p)) ∧ w'.cell? ⟨b, q, none⟩ = some (.int .i64 (d q)) ∧ w'.frozen? ⟨b, p, none⟩ = false) (fun w' => w' = U3.drew.setCell ⟨b, p, none⟩ (.int .i64 (max (d p) (d q + (dry : Int) + 1)))) (by kernel_rfl)
              case h =>
                have hHeld := (show _ from hS)
                refine G_take (i := 0) (x := { dst := some 53, op := _, type := _, pos := _, after := _, guard := _ }) (v := ?_) rfl (by kernel_rfl) (by kernel_rfl) (by kernel_rfl) (by kernel_rfl) (fun _ _ _ h => h) (Or.inl ⟨by rfl, (by intro w hSw; (try dsimp only at hSw); obtain ⟨s1, s2, s3, s4, s5⟩ := hSw; go_simp; try with_reducible rfl)⟩) hHeld ?_
                (try simp only [Act.put, List.setIfInBounds_toArray, List.set_cons_zero, List.set_cons_succ])
                refine G_take (i := 1) (x := { dst := some 54, op := _, type := _, pos := _, after := _, guard := _ }) (v := ?_) rfl (by kernel_rfl) (by kernel_rfl) (by kernel_rfl) (by kernel_rfl) (fun _ _ _ h => h) (Or.inl ⟨by rfl, (by intro w hSw; (try dsimp only at hSw); obtain ⟨s1, s2, s3, s4, s5⟩ := hSw; go_simp; try with_reducible rfl)⟩) hHeld ?_
                (try simp only [Act.put, List.setIfInBounds_toArray, List.set_cons_zero, List.set_cons_succ])
                refine G_take (i := 2) (x := { dst := some 55, op := _, type := _, pos := _, after := _, guard := _ }) (v := ?_) rfl (by kernel_rfl) (by kernel_rfl) (by kernel_rfl) (by kernel_rfl) (fun _ _ _ h => h) (Or.inl ⟨by rfl, (by intro w hSw; (try dsimp only at hSw); obtain ⟨s1, s2, s3, s4, s5⟩ := hSw; go_simp; try with_reducible rfl)⟩) hHeld ?_
                (try simp only [Act.put, List.setIfInBounds_toArray, List.set_cons_zero, List.set_cons_succ])
                refine G_take (i := 3) (x := { dst := some 56, op := _, type := _, pos := _, after := _, guard := _ }) (v := ?_) rfl (by kernel_rfl) (by kernel_rfl) (by kernel_rfl) (by kernel_rfl) (fun _ _ _ h => h) (Or.inl ⟨by rfl, (by intro w hSw; (try dsimp only at hSw); obtain ⟨s1, s2, s3, s4, s5⟩ := hSw; go_simp; try with_reducible rfl)⟩) hHeld ?_
                (try simp only [Act.put, List.setIfInBounds_toArray, List.set_cons_zero, List.set_cons_succ])
                refine G_take (i := 4) (x := { dst := some 57, op := _, type := _, pos := _, after := _, guard := _ }) (v := ?_) rfl (by kernel_rfl) (by kernel_rfl) (by kernel_rfl) (by kernel_rfl) (fun _ _ _ h => h) (Or.inl ⟨by rfl, (by intro w hSw; (try dsimp only at hSw); obtain ⟨s1, s2, s3, s4, s5⟩ := hSw; go_simp; try with_reducible rfl)⟩) hHeld ?_
                (try simp only [Act.put, List.setIfInBounds_toArray, List.set_cons_zero, List.set_cons_succ])
                refine G_take (i := 5) (x := { dst := some 58, op := _, type := _, pos := _, after := _, guard := _ }) (v := ?_) rfl (by kernel_rfl) (by kernel_rfl) (by kernel_rfl) (by kernel_rfl) (fun _ _ _ h => h) (Or.inl ⟨by rfl, (by intro w hSw; (try dsimp only at hSw); obtain ⟨s1, s2, s3, s4, s5⟩ := hSw; go_simp; try with_reducible rfl)⟩) hHeld ?_
                (try simp only [Act.put, List.setIfInBounds_toArray, List.set_cons_zero, List.set_cons_succ])
                refine G_take (i := 6) (x := { dst := some 59, op := _, type := _, pos := _, after := _, guard := _ }) (v := ?_) rfl (by kernel_rfl) (by kernel_rfl) (by kernel_rfl) (by kernel_rfl) (fun _ _ _ h => h) (Or.inl ⟨by rfl, (by intro w hSw; (try dsimp only at hSw); obtain ⟨s1, s2, s3, s4, s5⟩ := hSw; go_simp; try with_reducible rfl)⟩) hHeld ?_
                (try simp only [Act.put, List.setIfInBounds_toArray, List.set_cons_zero, List.set_cons_succ])
                refine G_take (i := 7) (x := { dst := some 60, op := _, type := _, pos := _, after := _, guard := _ }) (v := ?_) rfl (by kernel_rfl) (by kernel_rfl) (by kernel_rfl) (by kernel_rfl) (fun _ _ _ h => h) (Or.inl ⟨by rfl, (by intro w hSw; (try dsimp only at hSw); obtain ⟨s1, s2, s3, s4, s5⟩ := hSw; go_simp; try with_reducible rfl)⟩) hHeld ?_
                (try simp only [Act.put, List.setIfInBounds_toArray, List.set_cons_zero, List.set_cons_succ])
                refine G_take (i := 8) (x := { dst := some 61, op := _, type := _, pos := _, after := _, guard := _ }) (v := ?_) rfl (by kernel_rfl) (by kernel_rfl) (by kernel_rfl) (by kernel_rfl) (fun _ _ _ h => h) (Or.inl ⟨by rfl, (by intro w hSw; (try dsimp only at hSw); obtain ⟨s1, s2, s3, s4, s5⟩ := hSw; go_simp; try with_reducible rfl)⟩) hHeld ?_
                (try simp only [Act.put, List.setIfInBounds_toArray, List.set_cons_zero, List.set_cons_succ])
                refine G_take (i := 9) (x := { dst := some 62, op := _, type := _, pos := _, after := _, guard := _ }) (v := ?_) rfl (by kernel_rfl) (by kernel_rfl) (by kernel_rfl) (by kernel_rfl) (fun _ _ _ h => h) (Or.inl ⟨by rfl, (by intro w hSw; (try dsimp only at hSw); obtain ⟨s1, s2, s3, s4, s5⟩ := hSw; go_simp; try with_reducible rfl)⟩) hHeld ?_
                (try simp only [Act.put, List.setIfInBounds_toArray, List.set_cons_zero, List.set_cons_succ])
                refine G_take (i := 10) (x := { dst := some 63, op := _, type := _, pos := _, after := _, guard := _ }) (v := ?_) rfl (by kernel_rfl) (by kernel_rfl) (by kernel_rfl) (by kernel_rfl) (fun _ _ _ h => h) (Or.inl ⟨by rfl, (by intro w hSw; (try dsimp only at hSw); obtain ⟨s1, s2, s3, s4, s5⟩ := hSw; go_simp; try with_reducible rfl)⟩) hHeld ?_
                (try simp only [Act.put, List.setIfInBounds_toArray, List.set_cons_zero, List.set_cons_succ])
                refine G_take (i := 11) (x := { dst := some 64, op := _, type := _, pos := _, after := _, guard := _ }) (v := ?_) rfl (by kernel_rfl) (by kernel_rfl) (by kernel_rfl) (by kernel_rfl) (fun _ _ _ h => h) (Or.inl ⟨by rfl, (by intro w hSw; (try dsimp only at hSw); obtain ⟨s1, s2, s3, s4, s5⟩ := hSw; go_simp; try with_reducible rfl)⟩) hHeld ?_
                (try simp only [Act.put, List.setIfInBounds_toArray, List.set_cons_zero, List.set_cons_succ])
                refine G_take (i := 12) (x := { dst := some 65, op := _, type := _, pos := _, after := _, guard := _ }) (v := ?_) rfl (by kernel_rfl) (by kernel_rfl) (by kernel_rfl) (by kernel_rfl) (fun _ _ _ h => h) (Or.inl ⟨by rfl, (by intro w hSw; (try dsimp only at hSw); obtain ⟨s1, s2, s3, s4, s5⟩ := hSw; go_simp; try with_reducible rfl)⟩) hHeld ?_
                (try simp only [Act.put, List.setIfInBounds_toArray, List.set_cons_zero, List.set_cons_succ])
                refine G_take (i := 13) (x := { dst := some 66, op := _, type := _, pos := _, after := _, guard := _ }) (v := ?_) rfl (by kernel_rfl) (by kernel_rfl) (by kernel_rfl) (by kernel_rfl) (fun _ _ _ h => h) (Or.inl ⟨by rfl, (by intro w hSw; (try dsimp only at hSw); obtain ⟨s1, s2, s3, s4, s5⟩ := hSw; go_simp; try with_reducible rfl)⟩) hHeld ?_
                (try simp only [Act.put, List.setIfInBounds_toArray, List.set_cons_zero, List.set_cons_succ])
                refine G_take (i := 14) (x := { dst := some 67, op := _, type := _, pos := _, after := _, guard := _ }) (v := ?_) rfl (by kernel_rfl) (by kernel_rfl) (by kernel_rfl) (by kernel_rfl) (fun _ _ _ h => h) (Or.inl ⟨by rfl, (by intro w hSw; (try dsimp only at hSw); obtain ⟨s1, s2, s3, s4, s5⟩ := hSw; go_simp; try with_reducible rfl)⟩) hHeld ?_
                (try simp only [Act.put, List.setIfInBounds_toArray, List.set_cons_zero, List.set_cons_succ])
                refine G_take (i := 15) (x := { dst := some 68, op := _, type := _, pos := _, after := _, guard := _ }) (v := ?_) rfl (by kernel_rfl) (by kernel_rfl) (by kernel_rfl) (by kernel_rfl) (fun _ _ _ h => h) (Or.inl ⟨by rfl, (by intro w hSw; (try dsimp only at hSw); obtain ⟨s1, s2, s3, s4, s5⟩ := hSw; go_simp; try with_reducible rfl)⟩) hHeld ?_
                (try simp only [Act.put, List.setIfInBounds_toArray, List.set_cons_zero, List.set_cons_succ])
                refine G_take (i := 16) (x := { dst := some 69, op := _, type := _, pos := _, after := _, guard := _ }) (v := ?_) rfl (by kernel_rfl) (by kernel_rfl) (by kernel_rfl) (by kernel_rfl) (fun _ _ _ h => h) (Or.inl ⟨by rfl, (by intro w hSw; (try dsimp only at hSw); obtain ⟨s1, s2, s3, s4, s5⟩ := hSw; go_simp; try with_reducible rfl)⟩) hHeld ?_
                (try simp only [Act.put, List.setIfInBounds_toArray, List.set_cons_zero, List.set_cons_succ])
                refine G_take (i := 17) (x := { dst := some 70, op := _, type := _, pos := _, after := _, guard := _ }) (v := ?_) rfl (by kernel_rfl) (by kernel_rfl) (by kernel_rfl) (by kernel_rfl) (fun _ _ _ h => h) (Or.inl ⟨by rfl, (by intro w hSw; (try dsimp only at hSw); obtain ⟨s1, s2, s3, s4, s5⟩ := hSw; go_simp; try with_reducible rfl)⟩) hHeld ?_
                (try simp only [Act.put, List.setIfInBounds_toArray, List.set_cons_zero, List.set_cons_succ])
                refine G_take (i := 18) (x := { dst := some 71, op := _, type := _, pos := _, after := _, guard := _ }) (v := ?_) rfl (by kernel_rfl) (by kernel_rfl) (by kernel_rfl) (by kernel_rfl) (fun _ _ _ h => h) (Or.inl ⟨by rfl, (by intro w hSw; (try dsimp only at hSw); obtain ⟨s1, s2, s3, s4, s5⟩ := hSw; go_simp; try with_reducible rfl)⟩) hHeld ?_
                (try simp only [Act.put, List.setIfInBounds_toArray, List.set_cons_zero, List.set_cons_succ])
                refine G_take (i := 19) (x := { dst := some 72, op := _, type := _, pos := _, after := _, guard := _ }) (v := ?_) rfl (by kernel_rfl) (by kernel_rfl) (by kernel_rfl) (by kernel_rfl) (fun _ _ _ h => h) (Or.inl ⟨by rfl, (by intro w hSw; (try dsimp only at hSw); obtain ⟨s1, s2, s3, s4, s5⟩ := hSw; go_simp; try with_reducible rfl)⟩) hHeld ?_
                (try simp only [Act.put, List.setIfInBounds_toArray, List.set_cons_zero, List.set_cons_succ])
                refine G_take (i := 20) (x := { dst := some 73, op := _, type := _, pos := _, after := _, guard := _ }) (v := ?_) rfl (by kernel_rfl) (by kernel_rfl) (by kernel_rfl) (by kernel_rfl) (fun _ _ _ h => h) (Or.inl ⟨by rfl, (by intro w hSw; (try dsimp only at hSw); obtain ⟨s1, s2, s3, s4, s5⟩ := hSw; go_simp; try with_reducible rfl)⟩) hHeld ?_
                (try simp only [Act.put, List.setIfInBounds_toArray, List.set_cons_zero, List.set_cons_succ])
                refine G_take (i := 21) (x := { dst := some 74, op := _, type := _, pos := _, after := _, guard := _ }) (v := ?_) rfl (by kernel_rfl) (by kernel_rfl) (by kernel_rfl) (by kernel_rfl) (fun _ _ _ h => h) (Or.inl ⟨by rfl, (by intro w hSw; (try dsimp only at hSw); obtain ⟨s1, s2, s3, s4, s5⟩ := hSw; go_simp; try with_reducible rfl)⟩) hHeld ?_
                (try simp only [Act.put, List.setIfInBounds_toArray, List.set_cons_zero, List.set_cons_succ])
                refine G_take (i := 22) (x := { dst := some 75, op := _, type := _, pos := _, after := _, guard := _ }) (v := ?_) rfl (by kernel_rfl) (by kernel_rfl) (by kernel_rfl) (by kernel_rfl) (fun _ _ _ h => h) (Or.inl ⟨by rfl, (by intro w hSw; (try dsimp only at hSw); obtain ⟨s1, s2, s3, s4, s5⟩ := hSw; go_simp; try with_reducible rfl)⟩) hHeld ?_
                (try simp only [Act.put, List.setIfInBounds_toArray, List.set_cons_zero, List.set_cons_succ])
                refine G_take (i := 23) (x := { dst := some 76, op := _, type := _, pos := _, after := _, guard := _ }) (v := ?_) rfl (by kernel_rfl) (by kernel_rfl) (by kernel_rfl) (by kernel_rfl) (fun _ _ _ h => h) (Or.inl ⟨by rfl, (by intro w hSw; (try dsimp only at hSw); obtain ⟨s1, s2, s3, s4, s5⟩ := hSw; go_simp; try with_reducible rfl)⟩) hHeld ?_
                (try simp only [Act.put, List.setIfInBounds_toArray, List.set_cons_zero, List.set_cons_succ])
                refine G_one (i := 24) (x := { dst := none, op := _, type := _, pos := _, after := _, guard := _ }) (by kernel_rfl) rfl (by rfl) (fun K hK => ?_)
                go_simp
                refine hK _ _ (.inl rfl) ?_
                clear hK K
                (try simp only [Act.put, List.setIfInBounds_toArray, List.set_cons_zero, List.set_cons_succ])
                refine G_done (by kernel_rfl) ?_ _
                exact ⟨rfl, rfl⟩
              case hq =>
                rintro _ rfl
                clear hS
                go_wp2_with fail
                go_roundw
                case rel => exact ⟨k + 1, by omega, by go_num, by rw [HSk.out, HFX.out]; exact (HR3.out.new (New.refl U3).drew).put p _⟩
                case measure => simp [intOf]; omega
          · obtain rfl : k = i := by omega
            have hk1 : ¬ (k : Int) < (k : Int) := by omega
            go_wp2_with fail
            go_roundw
            case rel => exact ⟨k + 1, by omega, by go_num, by rw [HSi.out]; exact HR2.out⟩
            case measure => simp [intOf]; omega
    · obtain rfl : i = n := by omega
      have hi1 : ¬ (i : Int) < (i : Int) := by omega
      go_wp2_with fail
      go_ret
      exact ⟨b, rfl, HR.out.nw, by have := HR.out.hb; omega, HR.out.iv⟩
end Go.Proofs.YtiejefehcpfkaaaDoor
