/- Wait of the reference where it answers. Any problem and number. -/
import Derived.Test.YtiejefehcpfkaaaDoorWo
set_option linter.unusedSimpArgs false
set_option linter.unusedVariables false
set_option maxRecDepth 100000
namespace Go.Proofs.YtiejefehcpfkaaaDoor
open Go.RowKit Go.Shelf

attribute [local go_sem] Oper.semAt_some

/-- all blocks but B stand -/
def Off (B : Nat) (w w' : World) : Prop := ∀ q, q ≠ B → w'.heap[q]? = w.heap[q]?
theorem Off.row {B : Nat} {w : World} (cs : Array Value) : Off B w (w.setRow B cs) := fun q hq => setRow_other _ _ _ _ hq
theorem off_ne {w : World} {B g : Nat} {c1 c2 : Array Value} {t1 t2 : TypeId} (h1 : w.heap[B]? = some (.cells c1 t1 (0, 0))) (h2 : w.heap[g]? = some (.cells c2 t2 (0, 0))) (hne : t1 ≠ t2) : g ≠ B := fun e => by
  subst e
  rw [h1] at h2
  injection h2 with h2
  injection h2 with _ h3 _
  exact hne h3
theorem RowN.off {w w' : World} {e : Value} {x : List Nat} {B : Nat} {c1 : Array Value} (h : RowN w e x) (hB : w.heap[B]? = some (.cells c1 61 (0, 0))) (ho : Off B w w') : RowN w' e x := by
  rcases h with h | ⟨g, c, cur, h1, h2, h3⟩
  · exact .inl h
  · exact .inr ⟨g, c, cur, h1, (ho g (off_ne hB h2 (by decide))).trans h2, h3⟩
theorem iv_off {w w' : World} {b n : Nat} {d : Nat → Int} {B : Nat} {c1 : Array Value} (h : Iv w b n d) (hB : w.heap[B]? = some (.cells c1 61 (0, 0))) (ho : Off B w w') : Iv w' b n d := (ho b (off_ne hB h (by decide))).trans h
theorem SlS.off {w w' : World} {base : Nat} {v : Value} {L : List (List Nat)} {B : Nat} {c1 : Array Value} (h : SlS w base v L) (hB : w.heap[B]? = some (.cells c1 61 (0, 0))) (ho : Off B w w') : SlS w' base v L := by
  obtain ⟨es, h1, h2, h3⟩ := h
  refine ⟨es, h1, ⟨h2.1, ?_⟩, fun i e x a b => (h3 i e x a b).off hB ho⟩
  rcases h2.2 with h | ⟨g, cap, cur, k1, k2, k3, k4⟩
  · exact .inl h
  · exact .inr ⟨g, cap, cur, k1, k2, (ho g (off_ne hB k3 (by decide))).trans k3, k4⟩
theorem SlS.len {w : World} {base : Nat} {v : Value} {L : List (List Nat)} (h : SlS w base v L) : L.length ≤ maxLen := by
  obtain ⟨es, h1, h2, h3⟩ := h
  rcases h2.2 with ⟨_, h⟩ | ⟨g, cap, cur, _, _, _, k1, k2, _⟩
  · rw [h]; exact Nat.zero_le _
  · omega
/-- what the best so far lies in -/
def BestR (w : World) (n : Nat) (E : List Nat → Nat → Int) (b : Option (List Nat)) (sO sD : Value) : Prop := match b with
  | none => sO = .slice none 0 0 ∧ sD = .slice none 0 0
  | some y => RowN w sO y ∧ ∃ bb, sD = .slice (some ⟨bb, 0, none⟩) n n ∧ Iv w bb n (E y)
theorem BestR.new {w w' : World} {n : Nat} {E : List Nat → Nat → Int} {b : Option (List Nat)} {sO sD : Value} (h : BestR w n E b sO sD) (hn : New w w') : BestR w' n E b sO sD := by
  cases b with
  | none => exact h
  | some y => obtain ⟨h1, bb, h2, h3⟩ := h; exact ⟨h1.new hn, bb, h2, row_new h3 hn⟩
theorem BestR.form {w : World} {n : Nat} {E : List Nat → Nat → Int} {b : Option (List Nat)} {sO sD : Value} (h : BestR w n E b sO sD) : (∃ a l c, sO = .slice a l c) ∧ ∃ a l c, sD = .slice a l c := by
  cases b with
  | none => exact ⟨⟨_, _, _, h.1⟩, _, _, _, h.2⟩
  | some y =>
    obtain ⟨h1, bb, h2, h3⟩ := h
    obtain ⟨a, c, e⟩ := h1.form
    exact ⟨⟨_, _, _, e⟩, _, _, _, h2⟩

theorem rb_some {lo : List Nat → Int} : ∀ (xs : List (List Nat)) (b : Option (List Nat)), (b ≠ none ∨ xs ≠ []) → xs.foldl (rbS lo) b ≠ none
  | [], b, h => by rcases h with h | h; exact h; exact absurd rfl h
  | x :: xs, b, _ => by
    rw [List.foldl_cons]
    refine rb_some xs _ (.inl ?_)
    cases b with
    | none => simp [rbS]
    | some y => simp only [rbS]; split <;> simp
set_option maxHeartbeats 16000000 in
theorem rWait_good {w : World} {v : Value} {o : Prb} {av nv : Value} (h : PrbA w v o av nv) (dn : Nat) (hw : waitI o av nv dn = 0) (best : List Nat) (hbest : (ordG (opG o av nv)).foldl (rbS (lastO (opG o av nv) dn)) none = some best) :
    Calls Tryd.prog 63 #[v, .int .i64 (dn : Int)] w fun en w' => ∃ sO sD, en = .returned (.tuple #[.agg #[sO, sD], .int .i64 0]) ∧ New w w' ∧ SlI w' sO (ints best) ∧ SlI w' sD ((List.range (opG o av nv).n).map (erF (opG o av nv) dn (ints best) (opG o av nv).n)) := by
  have HCK := Lib.hid (fun (w1 : World) (hn : New w w1) => rcheck_c v o w1 (h.pv.new hn))
  rw [rchk_eq] at HCK
  have hdI : dryI o dn = 0 := by
    by_cases hc : dryI o dn = 0
    · exact hc
    · unfold waitI at hw; rw [if_pos hc] at hw; exact hw
  obtain ⟨hk, hd0, hd1⟩ := dryI_chk hdI
  have h8 : ¬ 8 < o.n := by
    intro h8
    unfold waitI at hw
    rw [if_neg (by simpa using hdI), if_pos h8] at hw; cases hw
  have hcir : cirB (opG o av nv).re (opG o av nv).n = false := by
    unfold waitI at hw
    rw [if_neg (by simpa using hdI), if_neg h8] at hw
    cases hb : cirB (opG o av nv).re (opG o av nv).n
    · rfl
    · rw [hb] at hw; cases hw
  have hon : ((opG o av nv).n : Int) = o.n := by have := (chkI_zero hk).1; show ((o.n.toNat : Nat) : Int) = o.n; omega
  have h8n : (opG o av nv).n ≤ 8 := by omega
  have HCI := Lib.hid (fun (w1 : World) (hn : New w w1) => rcircular_c (h.new hn) hk)
  rw [hcir] at HCI
  rw [hk] at HCK
  have HAL := Lib.hid (fun (w1 : World) (hn : New w w1) => rall_c (h.new hn) hk hcir h8n)
  have hio : ∀ x ∈ ordG (opG o av nv), ioB (opG o av nv) (ints x) = true := fun x hx => ordG_io (opG_ok hk h.sh) (opG_low av nv hk) hx
  have HDY := Lib.hid (fun (w1 : World) (hn : New w w1) (x : List Nat) (hx : x ∈ ordG (opG o av nv)) (la : Option Addr) (lc : Nat) (hi : Ins w1 la (ints x)) => (by
    have := rdays_c (h.new hn) hk dn (by omega) la lc (ints x) hi (hio x hx)
    exact this : Calls Tryd.prog 121 #[v, .int .i64 (dn : Int), .slice la (ints x).length lc] w1 fun en w' => ∃ b, en = .returned (.slice (some ⟨b, 0, none⟩) (opG o av nv).n (opG o av nv).n) ∧ New w1 w' ∧ w1.heap.size ≤ b ∧ Iv w' b (opG o av nv).n (erF (opG o av nv) dn (ints x) (opG o av nv).n)))
  have HXL := Lib.hid (fun (x : List Nat) (hx : x ∈ ordG (opG o av nv)) => (by have := (ioB_facts (hio x hx)).1; rw [ints_len] at this; exact this : x.length = (opG o av nv).n))
  have HLA := Lib.hid (fun (x : List Nat) (hx : x ∈ ordG (opG o av nv)) (w1 : World) (b c : Nat) (h1 : Iv w1 b (opG o av nv).n (erF (opG o av nv) dn (ints x) (opG o av nv).n)) => (by
    have hf := (ioB_facts (hio x hx)).1
    have := rlast_c b c h1 (by omega) (fun k _ => by
      have := erF_bd (show dn ≤ 30 by omega) (hio x hx) (opG o av nv).n (by omega) k
      omega)
    rw [← lastO_eqw (hio x hx)] at this
    exact this : Calls Tryd.prog 130 #[.slice (some ⟨b, 0, none⟩) (opG o av nv).n c] w1 fun en w' => en = .returned (.int .i64 (lastO (opG o av nv) dn x)) ∧ New w1 w'))
  obtain ⟨⟨⟨a1, ac, n1, nc, rfl, h1, h2⟩, h3, h4⟩, h5, h6⟩ := h
  clear h1 h2 h3 h4 h5 h6 hw hdI hk hcir hio
  have HBE := Lib.hid hbest
  clear hbest
  generalize hE : (fun x : List Nat => erF (opG o av nv) (dn : Int) (ints x) (opG o av nv).n) = E at *
  have hE' : ∀ x : List Nat, erF (opG o av nv) (dn : Int) (ints x) (opG o av nv).n = E x := fun x => by rw [← hE]
  simp only [hE'] at HDY HLA ⊢
  clear hE hE'
  generalize lastO (opG o av nv) dn = lo at *
  generalize ordG (opG o av nv) = L at *
  generalize (opG o av nv).n = n at *
  generalize o.A.length = LA at *
  generalize o.B.length = LB at *
  obtain ⟨H, hH⟩ : ∃ H, w.heap.size = H := ⟨_, rfl⟩
  have HH := Lib.hid hH
  have hd0' : ¬ ((dn : Int) < 0) := by omega
  have hd1' : ¬ ((dn : Int) > 30) := by omega
  have h8' : ¬ o.n > 8 := h8
  clear hd0 hd1 h8
  go_enter Tryd.func63, Tryd.ntmps63
  go_upto_region 12 with (first | (go_at_call 24; (with_reducible refine (HCK.out _ ?_).mono ?_); (· exact ((New.refl w).alloc _).alloc _); rintro e w6 ⟨rfl, n6⟩; have N6 := Lib.hid ((((New.refl w).alloc _).alloc _).trans n6); have R6 := Lib.hid (two_heap HH.out n6); have HB6 := Lib.hid (row_new (two_one HH.out) n6); obtain ⟨c0, c1, c2, hHl⟩ := box3w HB6.out; clear n6) | (go_at_call 95; (with_reducible refine (HCI.out _ ?_).mono ?_); (· exact N6.out); rintro e w7 ⟨rfl, n7⟩; have N7 := Lib.hid (N6.out.trans n7); have R7 := Lib.hid (row_new R6.out n7); have HB7 := Lib.hid (row_new HB6.out n7); clear c0 c1 c2 hHl; obtain ⟨c0, c1, c2, hHl⟩ := box3w HB7.out; clear n7))
  obtain ⟨B, hBq⟩ : ∃ B, w7.heap.size = B := ⟨_, rfl⟩
  obtain ⟨W8, hW8⟩ : ∃ W8 : World, Hid (W8 = w7.alloc (.cells #[.slice none 0 0, .slice none 0 0] 61)) := ⟨_, Lib.hid rfl⟩
  have HNW := Lib.hid (show New w7 W8 from by rw [hW8.out]; exact (New.refl w7).alloc _)
  have HBR := Lib.hid (show W8.heap[B]? = some (.cells #[.slice none 0 0, .slice none 0 0] 61 (0, 0)) from by rw [hW8.out, ← hBq]; exact World.alloc_heap_new w7 _)
  have N8 := Lib.hid (N7.out.trans HNW.out)
  have R8 := Lib.hid (row_new R7.out HNW.out)
  have HB8 := Lib.hid (row_new HB7.out HNW.out)
  have HLT := Lib.hid (show H + 1 < B from by rw [← hBq]; exact (Array.getElem?_eq_some_iff.1 R7.out).1)
  (try simp only [hBq])
  rw [← hW8.out]
  clear hBq c0 c1 c2 hHl hd0' hd1' h8'
  obtain ⟨c0, c1, c2, hHl⟩ := box3w HB8.out
  go_wp2_with (go_at_call 129; (with_reducible refine (HAL.out _ ?_).mono ?_); (· exact N8.out); rintro e w9 ⟨r, rfl, n9, sl9⟩; have N9 := Lib.hid (N8.out.trans n9); have S9 := Lib.hid sl9; have R9 := Lib.hid (row_new R8.out n9); have HB9 := Lib.hid (row_new HB8.out n9); have HBR9 := Lib.hid (row_new HBR.out n9); clear n9 sl9 c0 c1 c2 hHl)
  obtain ⟨ra, rc, rfl⟩ := S9.out.sl
  have hNLb := S9.out.len
  unfold maxLen at hNLb
  generalize hK : W8.heap.size = K at *
  clear hK
  generalize hNL : L.length = NL at *
  have HNL := Lib.hid hNL
  clear hNL
  go_loopw [10] (fun v10 wr => ∃ i : Nat, i ≤ NL ∧ v10 = .int .i64 (i : Int) ∧ New w wr ∧ wr.heap[H + 1]? = some (.cells #[.slice none 0 0, .slice none 0 0] 61 (0, 0)) ∧ wr.heap[H]? = some (.cells #[.int .i64 o.n, .slice a1 LA ac, .slice n1 LB nc] 24 (0, 0)) ∧ SlS wr K (.slice ra NL rc) L ∧ ∃ sO sD, wr.heap[B]? = some (.cells #[sO, sD] 61 (0, 0)) ∧ BestR wr n E ((L.take i).foldl (rbS lo) none) sO sD ∧ ∀ y, (L.take i).foldl (rbS lo) none = some y → y ∈ L) (fun v10 _ => NL - (intOf v10).toNat)
  case atStart => exact ⟨0, Nat.zero_le _, rfl, N9.out, R9.out, HB9.out, S9.out, _, _, HBR9.out, ⟨rfl, rfl⟩, fun y hy => by simp at hy⟩
  case round =>
    obtain ⟨i, hi, rfl, hnew, hr1, hbx, hsl, sO, sD, hbb, hbe, hmem⟩ := hrel
    obtain ⟨U1, rfl⟩ : ∃ U1 : World, U1 = wr := ⟨_, rfl⟩
    have N1 := Lib.hid hnew
    have R1 := Lib.hid hr1
    have HB1 := Lib.hid hbx
    have S1 := Lib.hid hsl
    have HBB := Lib.hid hbb
    have HBS := Lib.hid hbe
    have HME := Lib.hid hmem
    clear hnew hr1 hbx hsl hbb hmem
    by_cases hlt : i < NL
    · have hk1 : (i : Int) < (NL : Int) := by omega
      obtain ⟨es, m1, m2, m3⟩ := S1.out
      rw [HNL.out] at m1 m2
      obtain ⟨g, rc', hre, _, _⟩ := m2.form (by omega)
      injection hre with hre _ hrc
      subst hre
      subst hrc
      have hiL : i < L.length := by rw [HNL.out]; exact hlt
      obtain ⟨x, hx⟩ : ∃ x, L[i] = x := ⟨_, rfl⟩
      have hxL : x ∈ L := by rw [← hx]; exact List.getElem_mem hiL
      obtain ⟨e, he⟩ : ∃ e, es[i]? = some e := ⟨es[i], List.getElem?_eq_getElem (by omega)⟩
      have hrow := m3 i e x he (by rw [List.getElem?_eq_getElem hiL, hx])
      have HXR := Lib.hid hrow
      have hce : U1.cell? ⟨g, i, none⟩ = some e := (own_cell m2 he).1
      obtain ⟨ea, ec, rfl⟩ := hrow.form
      have HIN := Lib.hid (show Ins U1 ea (ints x) from by
        obtain ⟨a9, c9, e9, i9⟩ := hrow.sl
        injection e9 with e9 _ _
        rw [e9]; exact i9)
      have HFO := Lib.hid (show (L.take (i + 1)).foldl (rbS lo) none = rbS lo ((L.take i).foldl (rbS lo) none) x from by
        rw [List.take_succ_eq_append_getElem hiL, List.foldl_append, hx]; rfl)
      have HXM := Lib.hid hxL
      have hxn := HXL.out x hxL
      rw [hxn] at hce
      have HDX := Lib.hid (fun (w1 : World) (hn : New U1 w1) => (by
        have := HDY.out w1 (N1.out.trans hn) x hxL ea ec (HIN.out.new hn)
        rw [ints_len, hxn] at this
        exact this : Calls Tryd.prog 121 #[.agg #[.int .i64 o.n, .slice a1 LA ac, .slice n1 LB nc], .int .i64 (dn : Int), .slice ea n ec] w1 fun en w' => ∃ b, en = .returned (.slice (some ⟨b, 0, none⟩) n n) ∧ New w1 w' ∧ w1.heap.size ≤ b ∧ Iv w' b n (E x)))
      have hgl : g < U1.heap.size := (m2.lt g rfl).2
      clear m1 m2 m3 hx he hrow hxL
      obtain ⟨c0, c1, c2, hHl⟩ := box3w HB1.out
      have hS : H < U1.heap.size ∧ U1.cell? ⟨H, 0, none⟩ = some (.int .i64 o.n) ∧ U1.cell? ⟨H, 1, none⟩ = some (.slice a1 LA ac) ∧ U1.cell? ⟨H, 2, none⟩ = some (.slice n1 LB nc) ∧ U1.cell? ⟨g, i, none⟩ = some (.slice ea n ec) := ⟨hHl, c0, c1, c2, hce⟩
      go_upto_region 16 with fail
      refine wp_region_held_drew (S := fun w' => H < w'.heap.size ∧ w'.cell? ⟨H, 0, none⟩ = some (.int .i64 o.n) ∧ w'.cell? ⟨H, 1, none⟩ = some (.slice a1 LA ac) ∧ w'.cell? ⟨H, 2, none⟩ = some (.slice n1 LB nc) ∧ w'.cell? ⟨g, i, none⟩ = some (.slice ea n ec)) (by kernel_rfl) (by exact hS) (fun hHeld => ?_)
      refine wpAnyH_take (i := 0) (oi := { dst := some 41, op := _, type := _, pos := _, after := _, guard := _ }) (v := ?_) rfl (by kernel_rfl) (by kernel_rfl) (by kernel_rfl) (fun _ _ _ h => h) (Or.inl ⟨by rfl, (by intro w hSw; (try dsimp only at hSw); obtain ⟨s0, s1, s2, s3, s4⟩ := hSw; go_simp; try with_reducible rfl)⟩) (by assumption) ?_
      (try simp only [Act.put, List.setIfInBounds_toArray, List.set_cons_zero, List.set_cons_succ])
      refine wpAnyH_take (i := 1) (oi := { dst := some 42, op := _, type := _, pos := _, after := _, guard := _ }) (v := ?_) rfl (by kernel_rfl) (by kernel_rfl) (by kernel_rfl) (fun _ _ _ h => h) (Or.inl ⟨by rfl, (by intro w hSw; (try dsimp only at hSw); obtain ⟨s0, s1, s2, s3, s4⟩ := hSw; go_simp; try with_reducible rfl)⟩) (by assumption) ?_
      (try simp only [Act.put, List.setIfInBounds_toArray, List.set_cons_zero, List.set_cons_succ])
      refine wpAnyH_take (i := 2) (oi := { dst := some 43, op := _, type := _, pos := _, after := _, guard := _ }) (v := ?_) rfl (by kernel_rfl) (by kernel_rfl) (by kernel_rfl) (fun _ _ _ h => h) (Or.inl ⟨by rfl, (by intro w hSw; (try dsimp only at hSw); obtain ⟨s0, s1, s2, s3, s4⟩ := hSw; go_simp; try with_reducible rfl)⟩) (by assumption) ?_
      (try simp only [Act.put, List.setIfInBounds_toArray, List.set_cons_zero, List.set_cons_succ])
      refine wpAnyH_take (i := 3) (oi := { dst := some 44, op := _, type := _, pos := _, after := _, guard := _ }) (v := ?_) rfl (by kernel_rfl) (by kernel_rfl) (by kernel_rfl) (fun _ _ _ h => h) (Or.inl ⟨by rfl, (by intro w hSw; (try dsimp only at hSw); obtain ⟨s0, s1, s2, s3, s4⟩ := hSw; go_simp; try with_reducible rfl)⟩) (by assumption) ?_
      (try simp only [Act.put, List.setIfInBounds_toArray, List.set_cons_zero, List.set_cons_succ])
      refine wpAnyH_take (i := 4) (oi := { dst := some 45, op := _, type := _, pos := _, after := _, guard := _ }) (v := ?_) rfl (by kernel_rfl) (by kernel_rfl) (by kernel_rfl) (fun _ _ _ h => h) (Or.inl ⟨by rfl, (by intro w hSw; (try dsimp only at hSw); obtain ⟨s0, s1, s2, s3, s4⟩ := hSw; go_simp; try with_reducible rfl)⟩) (by assumption) ?_
      (try simp only [Act.put, List.setIfInBounds_toArray, List.set_cons_zero, List.set_cons_succ])
      refine wpAnyH_take (i := 5) (oi := { dst := some 46, op := _, type := _, pos := _, after := _, guard := _ }) (v := ?_) rfl (by kernel_rfl) (by kernel_rfl) (by kernel_rfl) (fun _ _ _ h => h) (Or.inl ⟨by rfl, (by intro w hSw; (try dsimp only at hSw); obtain ⟨s0, s1, s2, s3, s4⟩ := hSw; go_simp; try with_reducible rfl)⟩) (by assumption) ?_
      (try simp only [Act.put, List.setIfInBounds_toArray, List.set_cons_zero, List.set_cons_succ])
      refine wpAnyH_ready (rs := [6]) (by kernel_rfl) (by simp) ?_
      refine AllReadyH.cons rfl (fun K9 hK9 => ?_) AllReadyH.nil
      go_simp
      go_at_call 121
      refine (HDX.out _ (New.refl U1).drew).mono ?_
      rintro e U2 ⟨b2, rfl, n2, z2, iv2⟩
      have N2 := Lib.hid (show New U1 U2 from (New.refl U1).drew.trans n2)
      have I2 := Lib.hid iv2
      clear n2 z2 iv2
      refine hK9.out _ _ ⟨Nat.lt_of_lt_of_le hHl N2.out.size, (N2.out.cell hHl).trans c0, (N2.out.cell hHl).trans c1, (N2.out.cell hHl).trans c2, (N2.out.cell hgl).trans hce⟩ (fun hHeld => ?_)
      clear hK9 K9
      (try simp only [Act.put, List.setIfInBounds_toArray, List.set_cons_zero, List.set_cons_succ])
      refine wpAnyH_take (i := 7) (oi := { dst := some 11, op := _, type := _, pos := _, after := _, guard := _ }) (v := ?_) rfl (by kernel_rfl) (by kernel_rfl) (by kernel_rfl) (fun _ _ _ h => h) (Or.inl ⟨by rfl, (by intro w hSw; (try dsimp only at hSw); obtain ⟨s0, s1, s2, s3, s4⟩ := hSw; go_simp; try with_reducible rfl)⟩) (by assumption) ?_
      (try simp only [Act.put, List.setIfInBounds_toArray, List.set_cons_zero, List.set_cons_succ])
      refine wpAnyH_done (by kernel_rfl) ?_ _
      clear c0 c1 c2 hS hHl hHeld
      by_cases hi0 : i = 0
      · have hq : ((i : Int) == 0) = true := by rw [hi0]; rfl
        have hn0 : (L.take i).foldl (rbS lo) none = none := by rw [hi0]; rfl
        rw [hn0] at HFO HBS hbe
        obtain ⟨rfl, rfl⟩ := hbe
        clear hn0 hi0
        go_upto_region 17 with fail
        first | refine wp_region_at2 (by kernel_rfl) (by kernel_rfl) ?_ | refine wp_region_at (by kernel_rfl) (by kernel_rfl) ?_
        repeat (go_big_quiet_step (fail))
        refine wpQuiet_nil ?_
        rintro U3 hq3
        have HN3 := Lib.hid (show New U2 U3 from hq3)
        have N3 := Lib.hid (N2.out.trans HN3.out)
        have HBB3 := Lib.hid (row_new HBB.out N3.out)
        have d2 : U3.cell? ⟨g, i, none⟩ = some (.slice ea n ec) := (N3.out.cell hgl).trans hce
        clear hq3
        clear hq
        go_wp2_with (refine wpList_store_row rfl 61 (.tmp 8) (.tmp 63) rfl B #[_, _] rfl rfl _ #[_, _] HBB3.out sched_size rfl (slices_one _ _ _ _ _ _) ?_)
        go_roundw
        case rel =>
          have hof := Off.row (B := B) (w := U3) #[.slice ea n ec, .slice (some ⟨b2, 0, none⟩) n n]
          exact ⟨i + 1, by omega, by go_num, (N1.out.trans N3.out).setRow (by have := HLT.out; rw [HH.out]; omega) _, (hof _ (by have := HLT.out; omega)).trans (row_new R1.out N3.out), (hof _ (by have := HLT.out; omega)).trans (row_new HB1.out N3.out), (S1.out.new N3.out).off HBB3.out hof, _, _, setRow_heap _ _ _ _ _ _ HBB3.out, by
            rw [HFO.out]
            refine ⟨?_, b2, rfl, iv_off (show Iv U3 b2 n (E x) from row_new I2.out HN3.out) HBB3.out hof⟩
            have := (HXR.out.new N3.out).off HBB3.out hof
            rw [hxn] at this; exact this, fun y' hy' => by
            rw [HFO.out] at hy'
            injection hy' with hy'; rw [← hy']; exact HXM.out⟩
        case measure => simp [intOf]; omega
      · have hq : ((i : Int) == 0) = false := by simp; omega
        obtain ⟨y, hy⟩ : ∃ y, (L.take i).foldl (rbS lo) none = some y := by
          have := rb_some (lo := lo) (L.take i) none (.inr (by
            intro e
            have := congrArg List.length e
            rw [List.length_take, HNL.out] at this
            simp at this; omega))
          exact Option.ne_none_iff_exists'.1 this
        rw [hy] at HFO HBS hbe
        have hyL := HME.out y hy
        obtain ⟨hyr, bb, rfl, hyi⟩ := hbe
        have HYI := Lib.hid hyi
        have HYR := Lib.hid hyr
        obtain ⟨ya, yc, rfl⟩ := hyr.form
        have HYM := Lib.hid hyL
        have HLX := Lib.hid (fun (w1 : World) (hn : New U2 w1) => HLA.out x HXM.out w1 b2 n (row_new I2.out hn))
        have HLY := Lib.hid (fun (w1 : World) (hn : New U2 w1) => HLA.out y hyL w1 bb n (row_new hyi (N2.out.trans hn)))
        have hbl : B < U2.heap.size := Nat.lt_of_lt_of_le (Array.getElem?_eq_some_iff.1 HBB.out).1 N2.out.size
        have d1 : U2.cell? ⟨B, 1, none⟩ = some (.slice (some ⟨bb, 0, none⟩) n n) := (cell_of_row U2 B 1 _ _ _ (row_new HBB.out N2.out)).trans rfl
        have HRX := Lib.hid (show rbS lo (some y) x = if lo x < lo y then some x else some y from rfl)
        rw [HRX.out] at HFO
        generalize lo x = lx at *
        generalize lo y = ly at *
        clear hyr hyi hyL hy hi0 HRX
        by_cases hll : lx < ly
        · rw [if_pos hll] at HFO
          go_upto_region 17 with fail
          first | refine wp_region_at2 (by kernel_rfl) (by kernel_rfl) ?_ | refine wp_region_at (by kernel_rfl) (by kernel_rfl) ?_
          repeat (go_big_quiet_step (first | (go_at_call 130; (with_reducible exact calls_new (HLX.out _ (by (repeat (first | exact New.refl _ | apply New.alloc | apply New.aft | apply New.drew)))))) | (go_at_call 130; (with_reducible exact calls_new (HLY.out _ (by (repeat (first | exact New.refl _ | apply New.alloc | apply New.aft | apply New.drew))))))))
          refine wpQuiet_nil ?_
          rintro U3 hq3
          have HN3 := Lib.hid (show New U2 U3 from hq3)
          have N3 := Lib.hid (N2.out.trans HN3.out)
          have HBB3 := Lib.hid (row_new HBB.out N3.out)
          have d2 : U3.cell? ⟨g, i, none⟩ = some (.slice ea n ec) := (N3.out.cell hgl).trans hce
          clear hq3
          clear hq d1 hbl
          go_wp2_with (refine wpList_store_row rfl 61 (.tmp 8) (.tmp 63) rfl B #[_, _] rfl rfl _ #[_, _] HBB3.out sched_size rfl (slices_one _ _ _ _ _ _) ?_)
          go_roundw
          case rel =>
            have hof := Off.row (B := B) (w := U3) #[.slice ea n ec, .slice (some ⟨b2, 0, none⟩) n n]
            exact ⟨i + 1, by omega, by go_num, (N1.out.trans N3.out).setRow (by have := HLT.out; rw [HH.out]; omega) _, (hof _ (by have := HLT.out; omega)).trans (row_new R1.out N3.out), (hof _ (by have := HLT.out; omega)).trans (row_new HB1.out N3.out), (S1.out.new N3.out).off HBB3.out hof, _, _, setRow_heap _ _ _ _ _ _ HBB3.out, by
              rw [HFO.out]
              refine ⟨?_, b2, rfl, iv_off (show Iv U3 b2 n (E x) from row_new I2.out HN3.out) HBB3.out hof⟩
              have := (HXR.out.new N3.out).off HBB3.out hof
              rw [hxn] at this; exact this, fun y' hy' => by
              rw [HFO.out] at hy'
              injection hy' with hy'; rw [← hy']; exact HXM.out⟩
          case measure => simp [intOf]; omega
        · rw [if_neg hll] at HFO
          go_upto_region 17 with fail
          first | refine wp_region_at2 (by kernel_rfl) (by kernel_rfl) ?_ | refine wp_region_at (by kernel_rfl) (by kernel_rfl) ?_
          repeat (go_big_quiet_step (first | (go_at_call 130; (with_reducible exact calls_new (HLX.out _ (by (repeat (first | exact New.refl _ | apply New.alloc | apply New.aft | apply New.drew)))))) | (go_at_call 130; (with_reducible exact calls_new (HLY.out _ (by (repeat (first | exact New.refl _ | apply New.alloc | apply New.aft | apply New.drew))))))))
          refine wpQuiet_nil ?_
          rintro U3 hq3
          have HN3 := Lib.hid (show New U2 U3 from hq3)
          have N3 := Lib.hid (N2.out.trans HN3.out)
          have HBB3 := Lib.hid (row_new HBB.out N3.out)
          have d2 : U3.cell? ⟨g, i, none⟩ = some (.slice ea n ec) := (N3.out.cell hgl).trans hce
          clear hq3
          clear hq d1 hbl
          go_wp2_with fail
          go_roundw
          case rel => exact ⟨i + 1, by omega, by go_num, N1.out.trans N3.out, row_new R1.out N3.out, row_new HB1.out N3.out, S1.out.new N3.out, _, _, HBB3.out, by rw [HFO.out]; exact ⟨HYR.out.new N3.out, bb, rfl, row_new HYI.out N3.out⟩, fun y' hy' => by rw [HFO.out] at hy'; injection hy' with hy'; rw [← hy']; exact HYM.out⟩
          case measure => simp [intOf]; omega
    · obtain rfl : i = NL := by omega
      have hk1 : ¬ (i : Int) < (i : Int) := by omega
      have hfin : (L.take i).foldl (rbS lo) none = some best := by rw [List.take_of_length_le (by rw [HNL.out]; exact Nat.le_refl _)]; exact HBE.out
      rw [hfin] at hbe
      obtain ⟨hyr, bb, rfl, hyi⟩ := hbe
      obtain ⟨ya, yc, rfl⟩ := hyr.form
      have HYI := Lib.hid hyi
      have HYR := Lib.hid hyr
      clear hyr hyi hfin
      go_wp2_with (first | (refine wpList_load_row rfl 61 (.tmp 8) rfl B rfl 61 #[_, _] (0, 0) _ HBB.out Tryd.underlying61 rfl sched_size ?_) | (refine wpList_store_row rfl 61 (.tmp 4) (.tmp 64) rfl (H + 1) #[_, _] rfl rfl _ #[_, _] R1.out sched_size rfl (slices_one _ _ _ _ _ _) ?_))
      refine bodyPost_ret (results_row_tmp rfl _ _ (H + 1) _ #[_, _] _ _ rfl (setRow_heap _ _ _ _ _ _ R1.out) Tryd.underlying61 rfl sched_size) rfl ?_
      have hof := Off.row (B := H + 1) (w := U1) #[.slice ya best.length yc, .slice (some ⟨bb, 0, none⟩) n n]
      exact ⟨_, _, rfl, N1.out.setRow (by rw [HH.out]; omega) _, (HYR.out.off R1.out hof).sl, SlI.of_iv (iv_off HYI.out R1.out hof)⟩
end Go.Proofs.YtiejefehcpfkaaaDoor
