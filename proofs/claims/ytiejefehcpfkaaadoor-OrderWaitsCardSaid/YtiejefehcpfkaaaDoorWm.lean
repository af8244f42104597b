/- What OrderWaits needs of the search for the best order, and small words. Plain lemmas. · The reference's circular and Last. · The mathematics of OrderWaits: the reference's list of all orders is the program's, and both find the same best. Plain lemmas. -/
import Derived.Test.YtiejefehcpfkaaaDoorVa
import Derived.Test.YtiejefehcpfkaaaDoorVb
import Derived.Test.YtiejefehcpfkaaaDoorVw
import Derived.Test.YtiejefehcpfkaaaDoorTa
import Derived.Test.YtiejefehcpfkaaaDoorTc
import Derived.Test.YtiejefehcpfkaaaDoorUk
import Derived.Test.YtiejefehcpfkaaaDoorUi
import Derived.Test.YtiejefehcpfkaaaDoorVf

section
set_option linter.unusedSimpArgs false
set_option linter.unusedVariables false
set_option maxRecDepth 100000
namespace Go.Proofs.YtiejefehcpfkaaaDoor
open Go.RowKit Go.Shelf

theorem n24w {o : Prb} (av nv : Value) (hc : chkI o = 0) : (opG o av nv).n ≤ 24 := by have := (chkI_zero hc).1; show o.n.toNat ≤ 24; omega
theorem sl_nilw (w : World) : SlI w (.slice none 0 0) [] := ⟨none, 0, rfl, fun h => absurd h (by simp)⟩
theorem box3w {w : World} {H : Nat} {a b c : Value} {T : TypeId} (h : w.heap[H]? = some (.cells #[a, b, c] T (0, 0))) : w.cell? ⟨H, 0, none⟩ = some a ∧ w.cell? ⟨H, 1, none⟩ = some b ∧ w.cell? ⟨H, 2, none⟩ = some c ∧ H < w.heap.size :=
  ⟨(cell_of_row w H 0 _ _ _ h).trans rfl, (cell_of_row w H 1 _ _ _ h).trans rfl, (cell_of_row w H 2 _ _ _ h).trans rfl, (Array.getElem?_eq_some_iff.1 h).1⟩
theorem so_specw {G : Gph} {dry : Nat} : ∀ (xs : List (List Nat)) (st : Option (List Nat) × Int), (∀ x ∈ xs, (G.n : Int) - 1 ≤ lastO G dry x) → (soRun G dry st xs).2 ≤ st.2 ∧ (∀ x ∈ xs, (soRun G dry st xs).2 ≤ lastO G dry x) ∧ (soRun G dry st xs = st ∨ ∃ x ∈ xs, soRun G dry st xs = (some x, lastO G dry x))
  | [], st, _ => ⟨Int.le_refl _, ⟨fun x hx => absurd hx (by simp), .inl rfl⟩⟩
  | x :: xs, st, h => by
    have ih := so_specw xs (soStep G dry st x) (fun y hy => h y (List.mem_cons_of_mem _ hy))
    have h1 : (soStep G dry st x).2 ≤ st.2 ∧ (soStep G dry st x).2 ≤ lastO G dry x ∧ (soStep G dry st x = st ∨ soStep G dry st x = (some x, lastO G dry x)) := by
      unfold soStep; split
      · exact ⟨by dsimp only; omega, Int.le_refl _, .inr rfl⟩
      · exact ⟨Int.le_refl _, by omega, .inl rfl⟩
    simp only [soRun]
    split
    · rename_i e
      refine ⟨h1.1, fun y hy => ?_, ?_⟩
      · rw [e]; exact h y hy
      · rcases h1.2.2 with e | e
        · exact .inl e
        · exact .inr ⟨x, by simp, e⟩
    · refine ⟨Int.le_trans ih.1 h1.1, fun y hy => ?_, ?_⟩
      · rcases List.mem_cons.1 hy with rfl | hy
        · exact Int.le_trans ih.1 h1.2.1
        · exact ih.2.1 y hy
      · rcases ih.2.2 with e | ⟨y, hy, e⟩
        · rw [e]
          rcases h1.2.2 with e | e
          · exact .inl e
          · exact .inr ⟨x, by simp, e⟩
        · exact .inr ⟨y, List.mem_cons_of_mem _ hy, e⟩
theorem er_atleastw {G : Gph} {dry : Int} {l : List Int} (h : ioB G l = true) : ∀ k, k < l.length → (k : Int) ≤ erF G dry l l.length (nI l k).toNat
  | 0, hk => by rw [er_first h hk]; simp
  | k + 1, hk => by
    have := er_atleastw (dry := dry) h k (by omega)
    have := er_step (dry := dry) h hk
    omega
/-- the last day of an order, as both say it -/
theorem lastO_eqw {G : Gph} {dry : Nat} {l : List Int} (h : ioB G l = true) : lastI l (erF G dry l G.n) = lastM (erF G dry l G.n) G.n := by
  have hf := (ioB_facts h).1
  rw [← hf]
  unfold lastI
  by_cases h0 : l.length = 0
  · rw [if_pos h0, h0]; rfl
  · rw [if_neg h0]
    have := last_er (dry := dry) h (by omega)
    rw [← hf] at this
    exact this.symm
theorem lastO_gew {G : Gph} {dry : Nat} {x : List Nat} (h : ioB G (ints x) = true) : (G.n : Int) - 1 ≤ lastO G dry x := by
  have hf := (ioB_facts h).1
  unfold lastO lastI
  rw [← hf]
  by_cases h0 : (ints x).length = 0
  · rw [if_pos h0, h0]; simp
  · rw [if_neg h0]
    have := er_atleastw (dry := (dry : Int)) h ((ints x).length - 1) (by omega)
    omega
end Go.Proofs.YtiejefehcpfkaaaDoor
end

section
set_option linter.unusedSimpArgs false
set_option linter.unusedVariables false
set_option maxRecDepth 100000
namespace Go.Proofs.YtiejefehcpfkaaaDoor
open Go.RowKit Go.Shelf

attribute [local go_sem] Oper.semAt_some

set_option maxHeartbeats 4000000 in
theorem rlast_c {w : World} {n : Nat} {d : Nat → Int} (b c : Nat) (hI : Iv w b n d) (hn : n ≤ 1000) (hd : ∀ k, k < n → -1 ≤ d k ∧ d k ≤ 4611686018427387904) :
    Calls Tryd.prog 130 #[.slice (some ⟨b, 0, none⟩) n c] w fun en w' => en = .returned (.int .i64 (lastM d n)) ∧ New w w' := by
  have HI := Lib.hid hI
  have HD := Lib.hid hd
  have H0 := Lib.hid (show lastM d 0 = -1 from rfl)
  have HS := Lib.hid (show ∀ k, lastM d (k + 1) = max (lastM d k) (d k) from fun _ => rfl)
  have HBD := Lib.hid (fun k (hk : k ≤ n) => (⟨(lastM_ge (d := d) k).2, lastM_le (d := d) (M := 4611686018427387904) k (by omega) (fun i hi => (hd i (by omega)).2)⟩ : -1 ≤ lastM d k ∧ lastM d k ≤ 4611686018427387904))
  clear hI hd
  generalize lastM d = la at *
  go_enter Tryd.func130, Tryd.ntmps130
  go_wp2_with fail
  go_loopw [3, 4] (fun m i wr => ∃ k : Nat, k ≤ n ∧ i = .int .i64 k ∧ m = .int .i64 (la k) ∧ New w wr) (fun _ i _ => n - (intOf i).toNat)
  case atStart => exact ⟨0, Nat.zero_le _, rfl, by rw [H0.out], New.refl _⟩
  case round =>
    obtain ⟨k, hk, rfl, rfl, hnew⟩ := hrel
    have HNEW := Lib.hid hnew
    clear hnew
    by_cases hlt : k < n
    · have hk1 : (k : Int) < (n : Int) := by omega
      have c1 : wr.cell? ⟨b, k, none⟩ = some (.int .i64 (d k)) := (HNEW.out.cell HI.out.lt).trans (HI.out.at k hlt)
      have hb1 := HBD.out k hk
      have hb2 := HD.out k hlt
      have HSk := Lib.hid (HS.out k)
      generalize la k = x at *
      generalize d k = y at *
      by_cases hxy : x < y
      · have HMX := Lib.hid (show max x y = y by omega)
        go_wp2_with fail
        go_roundw
        case rel => exact ⟨k + 1, by omega, by go_num, by rw [HSk.out, HMX.out], HNEW.out⟩
        case measure => simp [intOf]; omega
      · have HMX := Lib.hid (show max x y = x by omega)
        go_wp2_with fail
        go_roundw
        case rel => exact ⟨k + 1, by omega, by go_num, by rw [HSk.out, HMX.out], HNEW.out⟩
        case measure => simp [intOf]; omega
    · have ht : ¬ ((k : Int) < (n : Int)) := by omega
      obtain rfl : n = k := by omega
      go_wp2_with fail
      go_ret
      exact ⟨rfl, HNEW.out⟩
set_option maxHeartbeats 8000000 in
theorem rcircular_c {w : World} {v : Value} {o : Prb} {av nv : Value} (h : PrbA w v o av nv) (hc : chkI o = 0) :
    Calls Tryd.prog 95 #[v] w fun en w' => en = .returned (.bool (cirB (opG o av nv).re (opG o av nv).n)) ∧ New w w' := by
  have HCH := Lib.hid (fun (w1 : World) (hn : New w w1) => rchained_c (h.pv.new hn) hc)
  have hon : o.n = ((o.n.toNat : Nat) : Int) := by have := (chkI_zero hc).1; omega
  have h24 : o.n.toNat ≤ 24 := by have := (chkI_zero hc).1; omega
  obtain ⟨R, hR⟩ : ∃ R, cirB (opG o av nv).re (opG o av nv).n = R := ⟨_, rfl⟩
  rw [hR]
  obtain ⟨bt, hbt⟩ : ∃ bt : Nat → Bool, bt = fun a => ((opG o av nv).re a).testBit a := ⟨_, rfl⟩
  have HBT := Lib.hid (show ∀ a, a < o.n.toNat → wsN o.n.toNat (rA o.A o.A.length) o.n.toNat a a = bt a from fun a ha => by rw [hbt]; exact (chain_eq o.A o.A.length o.n.toNat ha ha).symm)
  have HR := Lib.hid (show (List.range o.n.toNat).any bt = R from by rw [hbt]; exact hR)
  clear hbt
  clear hR
  obtain ⟨⟨⟨a1, ac, n1, nc, rfl, h1, h2⟩, h3, h4⟩, h5, h6⟩ := h
  clear h1 h2 h3 h4 h5 h6 hc
  rw [hon] at HCH ⊢
  simp only [Int.toNat_natCast] at HCH
  generalize o.n.toNat = n at *
  clear hon
  generalize wsN n (rA o.A o.A.length) n = ws at *
  generalize o.A.length = LA at *
  generalize o.B.length = LB at *
  obtain ⟨H, hH⟩ : ∃ H, w.heap.size = H := ⟨_, rfl⟩
  have HB := Lib.hid (show (w.alloc (.cells #[.int .i64 (n : Int), .slice a1 LA ac, .slice n1 LB nc] 24)).heap[H]? = some (.cells #[.int .i64 (n : Int), .slice a1 LA ac, .slice n1 LB nc] 24 (0, 0)) from by rw [← hH]; exact World.alloc_heap_new w _)
  go_enter Tryd.func95, Tryd.ntmps95
  go_wp2_with (go_at_call 75; (with_reducible refine (HCH.out _ ?_).mono ?_); (· exact (New.refl w).alloc _); rintro e w6 ⟨tb, rb, rfl, mt⟩; have MT := Lib.hid mt; have N6 := Lib.hid (((New.refl w).alloc _).trans mt.nw); have HB6 := Lib.hid (row_new HB.out mt.nw); clear mt)
  go_loopw [4] (fun v4 wr => ∃ a : Nat, a ≤ n ∧ v4 = .int .i64 (a : Int) ∧ (List.range a).any bt = false ∧ New w6 wr) (fun v4 _ => n - (intOf v4).toNat)
  case atStart => exact ⟨0, Nat.zero_le _, rfl, rfl, New.refl _⟩
  case round =>
    obtain ⟨a, ha, rfl, hall, hnew⟩ := hrel
    obtain ⟨U2, rfl⟩ : ∃ U2 : World, U2 = wr := ⟨_, rfl⟩
    have N2 := Lib.hid hnew
    have HALL := Lib.hid hall
    clear hnew hall
    obtain ⟨c0, c1, c2, hHl⟩ := box3w (row_new HB6.out N2.out)
    by_cases hlt : a < n
    · have hk1 : (a : Int) < (n : Int) := by omega
      have r1 : U2.cell? ⟨tb, a, none⟩ = some (.slice (some ⟨rb a, 0, none⟩) n n) := (N2.out.cell (Array.getElem?_eq_some_iff.1 MT.out.tp).1).trans (MT.out.row hlt hlt)
      have r2 : U2.cell? ⟨rb a, a, none⟩ = some (.bool (bt a)) := (N2.out.cell (Array.getElem?_eq_some_iff.1 (MT.out.rs a hlt).1).1).trans (by rw [← HBT.out a hlt]; exact (MT.out.bit hlt hlt).1)
      have HAN := Lib.hid (any_snoc bt a)
      have HIT := Lib.hid (fun (e : bt a = true) => (by rw [← HR.out]; exact any_hit hlt e : R = true))
      generalize rb a = ra at *
      generalize bt a = x at *
      cases x
      · rw [HALL.out] at HAN
        go_wp2_with fail
        go_roundw
        case rel => exact ⟨a + 1, by omega, by go_num, by rw [HAN.out]; rfl, N2.out⟩
        case measure => simp [intOf]; omega
      · have HT := Lib.hid (HIT.out rfl)
        go_wp2_with fail
        go_ret
        exact ⟨congrArg (fun z => Ending.returned (Value.bool z)) HT.out.symm, N6.out.trans N2.out⟩
    · obtain rfl : a = n := by omega
      have hk1 : ¬ (a : Int) < (a : Int) := by omega
      have HF := Lib.hid (show R = false from by rw [← HR.out]; exact HALL.out)
      go_wp2_with fail
      go_ret
      exact ⟨congrArg (fun z => Ending.returned (Value.bool z)) HF.out.symm, N6.out.trans N2.out⟩
end Go.Proofs.YtiejefehcpfkaaaDoor
end

section
set_option linter.unusedSimpArgs false
set_option linter.unusedVariables false
set_option maxRecDepth 100000
namespace Go.Proofs.YtiejefehcpfkaaaDoor
open Go.RowKit Go.Shelf

/-- all orders that go on from a list, as the reference lists them -/
def frmL (o : Prb) (n : Nat) : Nat → List Nat → List (List Nat)
  | 0, x => [x]
  | k + 1, x => (List.range n).flatMap fun (a : Nat) => if rdyR o (ints x) (a : Int) then frmL o n k (x ++ [a]) else []
theorem flat_if {f : Nat → List (List Nat)} {P : Nat → Bool} : ∀ l : List Nat, (l.flatMap fun a => if P a then f a else []) = (l.filter P).flatMap f
  | [] => rfl
  | a :: l => by
    rw [List.flatMap_cons, flat_if l, List.filter_cons]
    cases h : P a
    · simp
    · simp
theorem bits_ready {o : Prb} {av nv : Value} (hc : chkI o = 0) {x : List Nat} {s : Nat} (h : LeftS o av nv x s) : bitsOf (rdN (opG o av nv).be s) = (List.range (opG o av nv).n).filter fun (a : Nat) => rdyR o (ints x) (a : Int) := by
  have h24 := n24w (o := o) av nv hc
  unfold bitsOf
  obtain ⟨m, hm⟩ : ∃ m, 32 = (opG o av nv).n + m := ⟨32 - (opG o av nv).n, by omega⟩
  rw [hm, List.range_add, List.filter_append]
  have e1 : ((List.range m).map fun i => (opG o av nv).n + i).filter (fun i => (rdN (opG o av nv).be s).testBit i) = [] := by
    rw [List.filter_eq_nil_iff]
    intro a ha hb
    obtain ⟨i, hi, rfl⟩ := List.mem_map.1 ha
    have := bitsOf_mem.1 (rdN_bit.1 hb).1
    have := ((h.bit _).1 this.2).1
    omega
  rw [e1, List.append_nil]
  refine List.filter_congr fun a ha => ?_
  rw [rdy_bit hc h (List.mem_range.1 ha)]
theorem frm_eq {o : Prb} {av nv : Value} (hc : chkI o = 0) : ∀ (k : Nat) (x : List Nat) (s : Nat), LeftS o av nv x s → frmL o (opG o av nv).n k x = ordP (opG o av nv).be k s x
  | 0, x, s, h => by rw [ordP_zero]; rfl
  | k + 1, x, s, h => by
    have h24 := n24w (o := o) av nv hc
    rw [ordP_succ, bits_ready hc h]
    simp only [frmL]
    rw [flat_if]
    unfold ordTo
    have : ∀ a ∈ (List.range (opG o av nv).n).filter (fun (a : Nat) => rdyR o (ints x) (a : Int)), frmL o (opG o av nv).n k (x ++ [a]) = ordP (opG o av nv).be k (wo s (2 ^ a)) (x ++ [a]) := fun a ha => by
      have := List.mem_range.1 (List.mem_filter.1 ha).1
      exact frm_eq hc k (x ++ [a]) _ (h.next hc (by omega))
    rw [List.flatMap_def, List.flatMap_def, List.map_congr_left this]
theorem frm_all {o : Prb} {av nv : Value} (hc : chkI o = 0) : frmL o (opG o av nv).n (opG o av nv).n [] = ordG (opG o av nv) := by
  rw [frm_eq hc _ _ _ (LeftS.none av nv hc)]
  unfold ordP ordG
  simp
/-- what is left has as many places as are wanted -/
theorem left_len {o : Prb} {av nv : Value} (hc : chkI o = 0) {x : List Nat} {s p : Nat} {k : Nat} (h : LeftS o av nv x s) (hl : (bitsOf s).length = k + 1) (hp : p < (opG o av nv).n) (hr : rdyR o (ints x) (p : Int) = true) : (bitsOf (wo s (2 ^ p))).length = k := by
  rw [rdy_bit hc h hp] at hr
  have := wo_bits h.lt (rdN_bit.1 hr).1
  omega
theorem frm_some {o : Prb} {av nv : Value} (hc : chkI o = 0) (hn : cirB (opG o av nv).re (opG o av nv).n = false) {k : Nat} {x : List Nat} {s : Nat} (h : LeftS o av nv x s) (hl : (bitsOf s).length = k) : frmL o (opG o av nv).n k x ≠ [] := by
  rw [frm_eq hc k x s h]
  unfold ordP
  intro e
  exact ordS_some av nv hc hn k s h.lt hl (fun i hi => ((h.bit i).1 hi).1) (List.map_eq_nil_iff.1 e)
/-- the reference's search: the first of the least -/
def rbS (lo : List Nat → Int) (b : Option (List Nat)) (x : List Nat) : Option (List Nat) := match b with
  | none => some x
  | some y => if lo x < lo y then some x else some y
theorem rb_low {lo : List Nat → Int} {m : Int} : ∀ (xs : List (List Nat)) (y : List Nat), (∀ x ∈ xs, m ≤ lo x) → lo y = m → xs.foldl (rbS lo) (some y) = some y
  | [], _, _, _ => rfl
  | x :: xs, y, h, hy => by
    have := h x (List.mem_cons_self ..)
    rw [List.foldl_cons]
    have e : rbS lo (some y) x = some y := by simp only [rbS]; rw [if_neg (by omega)]
    rw [e]
    exact rb_low xs y (fun z hz => h z (List.mem_cons_of_mem _ hz)) hy
theorem so_rb {G : Gph} {dry : Nat} : ∀ (xs : List (List Nat)) (y : List Nat), (∀ x ∈ xs, (G.n : Int) - 1 ≤ lastO G dry x) → (soRun G dry (some y, lastO G dry y) xs).1 = xs.foldl (rbS (lastO G dry)) (some y)
  | [], y, _ => rfl
  | x :: xs, y, h => by
    have hx := h x (List.mem_cons_self ..)
    have hs : soStep G dry (some y, lastO G dry y) x = if lastO G dry x < lastO G dry y then (some x, lastO G dry x) else (some y, lastO G dry y) := rfl
    have h' : ∀ z ∈ xs, (G.n : Int) - 1 ≤ lastO G dry z := fun z hz => h z (List.mem_cons_of_mem _ hz)
    simp only [soRun]
    rw [List.foldl_cons, hs]
    by_cases hlt : lastO G dry x < lastO G dry y
    · have e : rbS (lastO G dry) (some y) x = some x := by simp only [rbS]; rw [if_pos hlt]
      rw [if_pos hlt, e]
      by_cases he : lastO G dry x = (G.n : Int) - 1
      · rw [if_pos he, rb_low xs x h' he]
      · rw [if_neg he]
        exact so_rb xs x h'
    · have e : rbS (lastO G dry) (some y) x = some y := by simp only [rbS]; rw [if_neg hlt]
      rw [if_neg hlt, e]
      by_cases he : lastO G dry y = (G.n : Int) - 1
      · rw [if_pos he, rb_low xs y h' he]
      · rw [if_neg he]
        exact so_rb xs y h'
theorem so_all {G : Gph} {dry : Nat} (xs : List (List Nat)) (h : ∀ x ∈ xs, (G.n : Int) - 1 ≤ lastO G dry x ∧ lastO G dry x ≤ 2000) : (soRun G dry (none, 2001) xs).1 = xs.foldl (rbS (lastO G dry)) none := by
  cases xs with
  | nil => rfl
  | cons x xs =>
    have hx := h x (List.mem_cons_self ..)
    have h' : ∀ z ∈ xs, (G.n : Int) - 1 ≤ lastO G dry z := fun z hz => (h z (List.mem_cons_of_mem _ hz)).1
    have hs : soStep G dry (none, 2001) x = (some x, lastO G dry x) := by unfold soStep; rw [if_pos (by show lastO G dry x < 2001; omega)]
    simp only [soRun]
    rw [hs, List.foldl_cons]
    have e : rbS (lastO G dry) none x = some x := rfl
    rw [e]
    by_cases he : lastO G dry x = (G.n : Int) - 1
    · rw [if_pos he, rb_low xs x h' he]
    · rw [if_neg he]; exact so_rb xs x h'
end Go.Proofs.YtiejefehcpfkaaaDoor
end
