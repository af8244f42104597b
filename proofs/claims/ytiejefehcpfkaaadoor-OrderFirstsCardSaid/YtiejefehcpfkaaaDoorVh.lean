/- The reference's First: it takes the least patch that is ready. Any problem. -/
import Derived.Test.YtiejefehcpfkaaaDoorVf
import Derived.Test.YtiejefehcpfkaaaDoorTr
import Derived.Test.YtiejefehcpfkaaaDoorSy
set_option linter.unusedSimpArgs false
set_option linter.unusedVariables false
set_option maxRecDepth 100000
namespace Go.Proofs.YtiejefehcpfkaaaDoor
open Go.RowKit Go.Shelf

attribute [local go_sem] Oper.semAt_some

theorem own_nil (w : World) (base : Nat) (e : TypeId) (size : Nat) : w.ownsRow base e size (.slice none 0 0) 0 [] := ⟨by simp, .inl ⟨rfl, rfl⟩⟩
def lenOf : Value → Nat
  | .slice _ n _ => n
  | _ => 0
set_option maxHeartbeats 16000000 in
theorem rFirst_c {w : World} {v : Value} {o : Prb} {av nv : Value} (h : PrbA w v o av nv) (hc : chkI o = 0) :
    Calls Tryd.prog 32 #[v] w fun en w' => ∃ u E, en = .returned (.tuple #[u, .int .i64 E]) ∧ New w w' ∧
      (((gF o av nv).length = (opG o av nv).n ∧ E = 0 ∧ w'.ownsRow w.heap.size 3 1 u (gF o av nv).length (natCells (gF o av nv))) ∨ ((gF o av nv).length ≠ (opG o av nv).n ∧ E = 50 ∧ u = .slice none 0 0)) := by
  have HC := Lib.hid (fun (w1 : World) (hn : New w w1) => rcheck_c v o w1 (h.pv.new hn))
  rw [rchk_eq, hc] at HC
  have HRD := Lib.hid (fun (w1 : World) (hn : New w w1) (u : Value) (x : List Nat) (hu : SlI w1 u (ints x)) (hx : x.length ≤ 24) (p : Int) => rready_c (h.pv.new hn) hu (by rw [ints_len]; omega) p)
  obtain ⟨n, hn⟩ : ∃ n, (opG o av nv).n = n := ⟨_, rfl⟩
  have h24 : n ≤ 24 := by have := (chkI_zero hc).1; have e : (opG o av nv).n = o.n.toNat := rfl; omega
  have hon : o.n = (n : Int) := by have := (chkI_zero hc).1; have e : (opG o av nv).n = o.n.toNat := rfl; omega
  have HNX := Lib.hid (fun (x : List Nat) (s : Nat) (hl : LeftS o av nv x s) => rfA_next hc hl)
  have HLN := Lib.hid (fun (x : List Nat) (s p : Nat) (hl : LeftS o av nv x s) (hp : p < 32) => LeftS.next hc hl hp)
  have HL0 := Lib.hid (LeftS.none (o := o) av nv hc)
  have HBD := Lib.hid (fun (s p : Nat) (ps : List Nat) (x : List Nat) (hl : LeftS o av nv x s) (hb : bitsOf (rdN (opG o av nv).be s) = p :: ps) => (by
    obtain ⟨h1, h2, _⟩ := bits_head hb
    exact ⟨((hl.bit p).1 (bitsOf_mem.1 (rdN_sub h2)).2).1, h1⟩ : p < (opG o av nv).n ∧ p < 32))
  have HA0 := Lib.hid (show ∀ l n, rfA o l n 0 = -1 from fun _ _ => rfl)
  have HAS := Lib.hid (show ∀ l n d, rfA o l n (d + 1) = if rdyR o l ((n - (d + 1) : Nat) : Int) then ((n - (d + 1) : Nat) : Int) else rfA o l n d from fun _ _ _ => rfl)
  have HGF := Lib.hid (show gF o av nv = gS (opG o av nv).be (opG o av nv).n (fst (opG o av nv).n) from rfl)
  rw [hn] at HNX HL0 HBD HGF ⊢
  generalize gF o av nv = GF at *
  obtain ⟨be, hbe⟩ : ∃ be, (opG o av nv).be = be := ⟨_, rfl⟩
  rw [hbe] at HNX HBD HGF
  obtain ⟨⟨⟨a1, ac, n1, nc, rfl, h1, h2⟩, h3, h4⟩, h5, h6⟩ := h
  clear h1 h2 h3 h4 h5 h6 hbe hc hn
  generalize o.A.length = LA at *
  generalize o.B.length = LB at *
  rw [hon] at HC HRD ⊢
  clear hon
  obtain ⟨H, hH⟩ : ∃ H, w.heap.size = H := ⟨_, rfl⟩
  have HH := Lib.hid hH
  have HB0 := Lib.hid (show (w.alloc (.cells #[.int .i64 (n : Int), .slice a1 LA ac, .slice n1 LB nc] 24)).heap[H]? = some (.cells #[.int .i64 (n : Int), .slice a1 LA ac, .slice n1 LB nc] 24 (0, 0)) from by rw [← hH]; exact World.alloc_heap_new w _)
  obtain ⟨i0, hi, hz0, hz1, hz2⟩ : ∃ i0, Tryd.prog.info? 3 = some i0 ∧ i0.zero = some (.int .i64 0) ∧ i0.size = 1 ∧ i0.bytes = 8 := by
    have h := int_infoO
    cases hi : Tryd.prog.info? 3 with
    | none => rw [hi] at h; cases h
    | some i => rw [hi] at h; simp only [Option.map_some, Option.some.injEq, Prod.mk.injEq] at h; exact ⟨i, rfl, h.1, h.2.1, h.2.2⟩
  have hn24 : (n : Int) ≤ 24 := by omega
  go_enter Tryd.func32, Tryd.ntmps32
  go_wp2_with (go_at_call 24; (with_reducible refine (HC.out _ ?_).mono ?_); (· exact (New.refl w).alloc _); rintro e w6 ⟨rfl, n6⟩; have N6 := Lib.hid (((New.refl w).alloc _).trans n6); have HB6 := Lib.hid (row_new HB0.out n6); clear n6)
  go_loopw [5] (fun v5 wr => ∃ (x : List Nat) (s : Nat), wr.ownsRow (H + 1) 3 1 v5 x.length (natCells x) ∧ x.length ≤ n ∧ LeftS o av nv x s ∧ GF = x ++ gS be (n - x.length) s ∧ New w wr ∧ wr.heap[H]? = some (.cells #[.int .i64 (n : Int), .slice a1 LA ac, .slice n1 LB nc] 24 (0, 0))) (fun v5 _ => n - lenOf v5)
  case atStart => exact ⟨[], fst n, own_nil _ _ _ _, Nat.zero_le _, HL0.out, by rw [HGF.out]; rfl, N6.out, HB6.out⟩
  case round =>
    obtain ⟨x, s, hown, hxl, hls, hgf, hnew, hbx⟩ := hrel
    obtain ⟨U1, rfl⟩ : ∃ U1 : World, U1 = wr := ⟨_, rfl⟩
    have HNEW := Lib.hid hnew
    have HBX := Lib.hid hbx
    have HOW := Lib.hid hown
    have HLS := Lib.hid hls
    have HG := Lib.hid hgf
    obtain ⟨sa, sc, rfl⟩ := own_slice hown
    have c0 : U1.cell? ⟨H, 0, none⟩ = some (.int .i64 (n : Int)) := (cell_of_row U1 H 0 _ _ _ hbx).trans rfl
    have hHl : H < U1.heap.size := World.block_lt_of_cell? _ _ c0
    clear hnew hbx hown hls hgf
    by_cases hlt : x.length < n
    · have hk1 : (x.length : Int) < (n : Int) := by omega
      go_wp2_with fail
      clear c0
      go_loopw [6, 7] (fun v6 v7 w2 => ∃ d : Nat, d ≤ n ∧ v6 = .int .i64 (rfA o (ints x) n d) ∧ v7 = .int .i64 ((n : Int) - 1 - d) ∧ New U1 w2) (fun _ v7 _ => (intOf v7 + 1).toNat)
      case atStart => exact ⟨0, Nat.zero_le _, by rw [HA0.out], by simp, New.refl _⟩
      case round =>
        obtain ⟨d, hd, rfl, rfl, hn2⟩ := hrel
        obtain ⟨U2, rfl⟩ : ∃ U2 : World, U2 = wr := ⟨_, rfl⟩
        have HN2 := Lib.hid hn2
        have HBX2 := Lib.hid (row_new HBX.out hn2)
        have HOW2 := Lib.hid (own_new HOW.out hn2)
        have c0 : U2.cell? ⟨H, 0, none⟩ = some (.int .i64 (n : Int)) := (cell_of_row U2 H 0 _ _ _ HBX2.out).trans rfl
        have c1 : U2.cell? ⟨H, 1, none⟩ = some (.slice a1 LA ac) := (cell_of_row U2 H 1 _ _ _ HBX2.out).trans rfl
        have c2 : U2.cell? ⟨H, 2, none⟩ = some (.slice n1 LB nc) := (cell_of_row U2 H 2 _ _ _ HBX2.out).trans rfl
        have hHl2 : H < U2.heap.size := World.block_lt_of_cell? _ _ c0
        clear hn2 hHl hlt
        by_cases hdn : d < n
        · obtain ⟨p, hp⟩ : ∃ p : Nat, (n : Int) - 1 - d = (p : Int) := ⟨n - (d + 1), by omega⟩
          have HPN := Lib.hid (show n - (d + 1) = p by omega)
          have HPM := Lib.hid (show (p : Int) - 1 = (n : Int) - 1 - ((d + 1 : Nat) : Int) by omega)
          have HRR := Lib.hid (fun (w1 : World) (hn : New U2 w1) => HRD.out w1 ((HNEW.out.trans HN2.out).trans hn) _ x (SlI.of_own (own_new HOW2.out hn)) (by omega) p)
          have HAD := Lib.hid (HAS.out (ints x) n d)
          rw [HPN.out] at HAD
          rw [hp]
          have hp0 : (p : Int) ≥ 0 := by omega
          have hp1 : ((p : Int) + 1).toNat = p + 1 := by omega
          have hwp : wrap64 ((p : Int) - 1) = (p : Int) - 1 := by unfold wrap64; omega
          clear hp
          cases hr : rdyR o (ints x) (p : Int)
          · rw [hr] at HRR HAD
            simp only [Bool.false_eq_true, if_false] at HAD
            clear hr
            go_wp2_with (go_at_call 86; (with_reducible refine (HRR.out _ ?_).mono ?_); (· exact New.refl _); rintro e w7 ⟨rfl, n7⟩; have N7 := Lib.hid (HN2.out.trans n7); clear n7)
            go_roundw
            case rel => exact ⟨d + 1, by omega, by rw [HAD.out], by rw [← HPM.out, hwp], N7.out⟩
            case measure => simp only [intOf]; rw [hwp]; omega
          · rw [hr] at HRR HAD
            simp only [if_true] at HAD
            clear hr
            go_wp2_with (go_at_call 86; (with_reducible refine (HRR.out _ ?_).mono ?_); (· exact New.refl _); rintro e w7 ⟨rfl, n7⟩; have N7 := Lib.hid (HN2.out.trans n7); clear n7)
            go_roundw
            case rel => exact ⟨d + 1, by omega, by rw [HAD.out], by rw [← HPM.out, hwp], N7.out⟩
            case measure => simp only [intOf]; rw [hwp]; omega
        · obtain rfl : d = n := by omega
          have hp0 : ¬ ((d : Int) - 1 - d ≥ 0) := by omega
          have HRF := Lib.hid (HNX.out x s HLS.out)
          cases hb : bitsOf (rdN be s) with
          | nil =>
            have hat : rfA o (ints x) d d = -1 := by rw [HRF.out, hb]
            rw [hat]
            have HGS := Lib.hid (show GF = x by
              have h1 := HG.out
              rw [show d - x.length = (d - x.length - 1) + 1 by omega] at h1
              simp only [gS] at h1
              rw [hb] at h1
              simpa using h1)
            clear HRF hat hb
            go_wp2_with fail
            go_ret2
            exact ⟨_, _, rfl, HNEW.out.trans HN2.out, .inr ⟨by rw [HGS.out]; omega, rfl, rfl⟩⟩
          | cons p ps =>
            have hat : rfA o (ints x) d d = p := by rw [HRF.out, hb]
            rw [hat]
            have hpn := HBD.out s p ps x HLS.out hb
            have hp32 := hpn.2
            have hp0' : ¬ ((p : Int) < 0) := by omega
            have HGS := Lib.hid (show GF = (x ++ [p]) ++ gS be (d - (x.length + 1)) (wo s (2 ^ p)) by
              have h1 := HG.out
              rw [show d - x.length = (d - (x.length + 1)) + 1 by omega] at h1
              simp only [gS] at h1
              rw [hb] at h1
              simpa using h1)
            have HLS2 := Lib.hid (HLN.out x s p HLS.out hp32)
            have hsz := HNEW.out.size
            have hszH := (show H + 1 ≤ U2.heap.size by omega)
            have HOn := Lib.hid (fun X (hX : New U2 X) => own_new HOW2.out hX)
            have HZ := Lib.hid (show ∀ X Y, New U2 X → X.grownBy Y (Value.slice sa x.length sc).ownBlock → New w Y from fun X Y hX hY => new_grown ((HNEW.out.trans HN2.out).trans hX) hY (by rw [HH.out]; exact own_base HOW2.out (by omega)))
            have HBY := Lib.hid (show ∀ X Y, New U2 X → X.grownBy Y (Value.slice sa x.length sc).ownBlock → Y.heap[H]? = some (.cells #[.int .i64 (d : Int), .slice a1 LA ac, .slice n1 LB nc] 24 (0, 0)) from fun X Y hX hY => (hY.block H (Nat.lt_of_lt_of_le (World.block_lt_of_cell? _ _ c0) hX.size) (fun e => by have := (HOW2.out.lt H e.symm).1; omega)).trans (row_new HBX2.out hX))
            clear HRF hat hb hpn
            go_wp2_with (at_builtin; refine wpList_append_lies _ rfl (.tmp 34) (.tmp 36) 31 rfl (H + 1) 3 i0 _ 1 8 Tryd.underlying31 hi hz0 hz1 hz2 rfl (by omega) (.slice sa x.length sc) x.length (natCells x) rfl ?_ _ 1 1 [.int .i64 (p : Int)] rfl rfl ?_ ?_ (by omega) ?_ ?_ ?_ _ rfl ?_; exact HOn.out _ (by (repeat (first | exact New.refl _ | apply New.alloc | apply New.aft | apply New.drew | refine New.setCell ?_ ?_ _)); all_goals (first | done | (simp [size_aft]; done) | (simp [size_aft]; omega))); (refine cells_new _ _ _ _ ?_); (simp [go_sem]); (intro u hu; simp at hu; rcases hu with rfl <;> rfl); (unfold maxLen; omega); omega; (simp [go_sem]; omega); intro g4 cap4 w4 hown4 hgrow4 hor4 hlt4; have HNN := Lib.hid (HZ.out _ _ (by (repeat (first | exact New.refl _ | apply New.alloc | apply New.aft | apply New.drew | refine New.setCell ?_ ?_ _)); all_goals (first | done | (simp [size_aft]; done) | (simp [size_aft]; omega))) hgrow4); have HBN := Lib.hid (HBY.out _ _ (by (repeat (first | exact New.refl _ | apply New.alloc | apply New.aft | apply New.drew | refine New.setCell ?_ ?_ _)); all_goals (first | done | (simp [size_aft]; done) | (simp [size_aft]; omega))) hgrow4); have HO4 := Lib.hid hown4; clear hown4 hgrow4 hor4 hlt4)
            go_roundw
            case rel => exact ⟨x ++ [p], wo s (2 ^ p), by rw [natCells_snoc, List.length_append]; exact HO4.out, by simp; omega, HLS2.out, by rw [HGS.out]; simp, HNN.out, HBN.out⟩
            case measure => simp [lenOf]; omega
    · have HE := Lib.hid (show GF = x by
        have h1 := HG.out
        rw [show n - x.length = 0 by omega] at h1
        simpa [gS] using h1)
      have hk1 : ¬ (x.length : Int) < (n : Int) := by omega
      go_wp2_with fail
      go_ret2
      exact ⟨_, _, rfl, HNEW.out, .inl ⟨by rw [HE.out]; omega, rfl, by rw [HE.out]; first | exact own_base HOW.out (by omega) | (rw [HH.out]; exact own_base HOW.out (by omega))⟩⟩
end Go.Proofs.YtiejefehcpfkaaaDoor
