/- The reference's from and All: rows of lists in memory. Problems of at most eight patches, without a circle. -/
import Derived.Test.YtiejefehcpfkaaaDoorWm
import Derived.Laws.AppendOwnNone
set_option linter.unusedSimpArgs false
set_option linter.unusedVariables false
set_option maxRecDepth 100000
namespace Go.Proofs.YtiejefehcpfkaaaDoor
open Go.RowKit Go.Shelf

attribute [local go_sem] Oper.semAt_some

theorem sl_infoZ : (Tryd.prog.info? 31).map (fun i => (i.zero, i.size, i.bytes)) = some (some (.slice none 0 0), 1, 24) := by kernel_rfl
/-- a value holds the list x -/
def RowN (w : World) (e : Value) (x : List Nat) : Prop := (x = [] ∧ e = .slice none 0 0) ∨ ∃ g c cur, e = .slice (some ⟨g, 0, none⟩) x.length c ∧ w.heap[g]? = some (.cells cur 3 (0, 0)) ∧ cur.toList.take x.length = natCells x
theorem RowN.new {w w' : World} {e : Value} {x : List Nat} (h : RowN w e x) (hn : New w w') : RowN w' e x := by
  rcases h with h | ⟨g, c, cur, h1, h2, h3⟩
  · exact .inl h
  · exact .inr ⟨g, c, cur, h1, row_new h2 hn, h3⟩
theorem RowN.of_own {w : World} {base : Nat} {v : Value} {x : List Nat} (h : w.ownsRow base 3 1 v x.length (natCells x)) : RowN w v x := by
  rcases h.2 with ⟨rfl, h0⟩ | ⟨g, cap, cur, rfl, hb, hg, h1, h2, h3, h4⟩
  · exact .inl ⟨List.length_eq_zero_iff.1 h0, rfl⟩
  · exact .inr ⟨g, cap, cur, rfl, hg, by rw [Nat.mul_one] at h4; exact h4⟩
theorem RowN.cells {w : World} {g c : Nat} {cur : Array Value} {x : List Nat} (h2 : w.heap[g]? = some (.cells cur 3 (0, 0))) (h3 : cur.toList.take x.length = natCells x) : ∀ j u, (natCells x)[j]? = some u → w.cell? ⟨g, j, none⟩ = some u := fun j u hj => by
  rw [cell_of_row w g j cur _ (0, 0) h2]
  rw [← h3, List.getElem?_take] at hj
  split at hj
  · simpa using hj
  · cases hj
theorem RowN.sl {w : World} {e : Value} {x : List Nat} (h : RowN w e x) : SlI w e (ints x) := by
  rcases h with ⟨rfl, rfl⟩ | ⟨g, c, cur, rfl, h2, h3⟩
  · exact sl_nilw w
  · refine ⟨_, c, by rw [ints_len], fun _ => ⟨g, 0, rfl, (Array.getElem?_eq_some_iff.1 h2).1, fun i hi => ?_⟩⟩
    rw [ints_len] at hi
    rw [nI_ints, Nat.zero_add]
    exact RowN.cells (c := c) h2 h3 i _ (natCells_at x i hi)
theorem RowN.one {w : World} {e : Value} {x : List Nat} (h : RowN w e x) : e.oneCell' = true := by
  rcases h with ⟨rfl, rfl⟩ | ⟨g, c, cur, rfl, h2, h3⟩
  · rfl
  · rfl
theorem RowN.grown {w w' : World} {e : Value} {x : List Nat} {row : Option Nat} (h : RowN w e x) (hg : w.grownBy w' row) (hb : ∀ g, row = some g → ∃ cur, w.heap[g]? = some (.cells cur 31 (0, 0))) : RowN w' e x := by
  rcases h with h | ⟨g, c, cur, h1, h2, h3⟩
  · exact .inl h
  · refine .inr ⟨g, c, cur, h1, (hg.block g (Array.getElem?_eq_some_iff.1 h2).1 (fun e => ?_)).trans h2, h3⟩
    obtain ⟨cur2, h4⟩ := hb g e.symm
    rw [h2] at h4
    injection h4 with h4
    injection h4 with _ h5 _
    exact absurd h5 (by decide)
theorem RowN.form {w : World} {e : Value} {x : List Nat} (h : RowN w e x) : ∃ a c, e = .slice a x.length c := by
  rcases h with ⟨rfl, rfl⟩ | ⟨g, c, cur, rfl, _, _⟩
  · exact ⟨none, 0, rfl⟩
  · exact ⟨_, c, rfl⟩
/-- append of a list, nil or not, to an empty row of the call's own -/
theorem wpList_append_rowN {w : World} {ops : Array Oper} {rest : List Oper} {o : Oper} {a : Act} {Q : Exit → Act → World → Prop} (hgd : o.guard = none) (s x : Operand)
    (ho : o.op = .call { callee := .builtin .append, args := #[s, x], argTypes := #[31, 31] }) (base : Nat) (v u : Value) (y : List Nat) (hs : a.eval s = v) (hown : w.ownsRow base 3 1 v 0 []) (hx : a.eval x = u) (hu : RowN w u y) (hl : y.length ≤ 1000) (hb : base ≤ w.heap.size)
    (h : ∀ v' w', w'.ownsRow base 3 1 v' y.length (natCells y) → w.grownBy w' v.ownBlock → wpList Tryd.prog ops Q rest (a.put o.dst v') w') : wpList Tryd.prog ops Q (o :: rest) a w := by
  obtain ⟨j0, hj, hy0, hy1, hy2⟩ : ∃ i0, Tryd.prog.info? 3 = some i0 ∧ i0.zero = some (.int .i64 0) ∧ i0.size = 1 ∧ i0.bytes = 8 := by
    have h := int_infoO
    cases hi : Tryd.prog.info? 3 with
    | none => rw [hi] at h; cases h
    | some i => rw [hi] at h; simp only [Option.map_some, Option.some.injEq, Prod.mk.injEq] at h; exact ⟨i, rfl, h.1, h.2.1, h.2.2⟩
  rcases hu with ⟨rfl, rfl⟩ | ⟨g, c, cur, rfl, h2, h3⟩
  · exact wpList_append_own_none hgd s x _ ho base 3 j0 1 Tryd.underlying31 hj v 0 [] hs hown hx (h v w hown (grownBy_refl w _))
  · refine wpList_append_own w hgd s x _ ho base 3 j0 (.int .i64 0) 1 8 Tryd.underlying31 hj hy0 hy1 hy2 rfl (by decide) v 0 [] hs hown ⟨g, 0, none⟩ y.length c (natCells y) hx (by rw [natCells_len, Nat.mul_one]) (fun j z hz => ?_) (fun z hz => ?_) (by unfold maxLen; omega) (by omega) hb (fun v' w' k1 k2 _ => ?_)
    · rw [Addr.add_lit, Nat.zero_add]; exact RowN.cells (c := c) h2 h3 j z hz
    · unfold natCells at hz; obtain ⟨q, _, rfl⟩ := List.mem_map.1 hz; rfl
    · exact h v' w' (by simpa using k1) k2
/-- a row of lists -/
def SlS (w : World) (base : Nat) (v : Value) (L : List (List Nat)) : Prop := ∃ es : List Value, es.length = L.length ∧ w.ownsRow base 31 1 v L.length es ∧ ∀ (i : Nat) (e : Value) (x : List Nat), es[i]? = some e → L[i]? = some x → RowN w e x
theorem SlS.new {w w' : World} {base : Nat} {v : Value} {L : List (List Nat)} (h : SlS w base v L) (hn : New w w') : SlS w' base v L := by
  obtain ⟨es, h1, h2, h3⟩ := h
  exact ⟨es, h1, own_new h2 hn, fun i e x a b => (h3 i e x a b).new hn⟩
theorem SlS.base {w : World} {base base' : Nat} {v : Value} {L : List (List Nat)} (h : SlS w base v L) (hb : base' ≤ base) : SlS w base' v L := by
  obtain ⟨es, h1, h2, h3⟩ := h
  exact ⟨es, h1, own_base h2 hb, h3⟩
theorem SlS.sl {w : World} {base : Nat} {v : Value} {L : List (List Nat)} (h : SlS w base v L) : ∃ a c, v = .slice a L.length c := by
  obtain ⟨es, h1, h2, h3⟩ := h
  exact own_slice h2
theorem SlS.nil (w : World) (base : Nat) : SlS w base (.slice none 0 0) [] := ⟨[], rfl, World.ownsRow_nil _ _ _ _, fun i e x a => by simp at a⟩
theorem SlS.one {w : World} {base : Nat} {u : Value} {x : List Nat} (h : RowN w u x) (hb : base ≤ w.heap.size) : SlS (w.alloc (.cells #[u] 31)) base (.slice (some ⟨w.heap.size, 0, none⟩) 1 1) [x] := by
  refine ⟨[u], rfl, ⟨rfl, .inr ⟨w.heap.size, 1, #[u], rfl, hb, World.alloc_heap_new w _, Nat.le_refl _, by decide, rfl, rfl⟩⟩, fun i e y a b => ?_⟩
  cases i with
  | zero => simp at a b; subst a b; exact h.new ((New.refl w).alloc _)
  | succ i => simp at a
theorem SlS.app {w w' : World} {base : Nat} {v v' : Value} {L L2 : List (List Nat)} {es es2 : List Value} (h1 : es.length = L.length) (h2 : w.ownsRow base 31 1 v L.length es) (h3 : ∀ (i : Nat) (e : Value) (x : List Nat), es[i]? = some e → L[i]? = some x → RowN w e x)
    (k1 : es2.length = L2.length) (k3 : ∀ (i : Nat) (e : Value) (x : List Nat), es2[i]? = some e → L2[i]? = some x → RowN w e x) (hg : w.grownBy w' v.ownBlock) (ho : w'.ownsRow base 31 1 v' (L.length + L2.length) (es ++ es2)) : SlS w' base v' (L ++ L2) := by
  have hb : ∀ g, v.ownBlock = some g → ∃ cur, w.heap[g]? = some (.cells cur 31 (0, 0)) := fun g e => by
    rcases h2.2 with ⟨rfl, _⟩ | ⟨g', cap, cur, rfl, _, hg', _⟩
    · cases e
    · have : g' = g := by simpa [Value.ownBlock] using e
      rw [← this]; exact ⟨cur, hg'⟩
  refine ⟨es ++ es2, by simp [h1, k1], by rw [List.length_append]; exact ho, fun i e x a b => ?_⟩
  refine RowN.grown ?_ hg hb
  by_cases hi : i < es.length
  · rw [List.getElem?_append_left hi] at a
    rw [List.getElem?_append_left (by omega)] at b
    exact h3 i e x a b
  · rw [List.getElem?_append_right (by omega)] at a
    rw [List.getElem?_append_right (by omega), ← h1] at b
    exact k3 _ e x a b
theorem frm_len {o : Prb} {n : Nat} : ∀ k x, (frmL o n k x).length ≤ n ^ k
  | 0, x => by simp [frmL]
  | k + 1, x => by
    simp only [frmL]
    have key : ∀ l : List Nat, (l.flatMap fun (a : Nat) => if rdyR o (ints x) (a : Int) then frmL o n k (x ++ [a]) else []).length ≤ l.length * n ^ k := fun l => by
      induction l with
      | nil => simp
      | cons a l ih =>
        rw [List.flatMap_cons, List.length_append, List.length_cons, Nat.succ_mul]
        have h1 := frm_len (o := o) (n := n) k (x ++ [a])
        have h2 : (if rdyR o (ints x) (a : Int) then frmL o n k (x ++ [a]) else []).length ≤ n ^ k := by
          split
          · exact h1
          · simp
        omega
    have := key (List.range n)
    rw [List.length_range] at this
    rw [Nat.pow_succ, Nat.mul_comm]; exact this
theorem frm_part {o : Prb} {n k : Nat} {x : List Nat} {a : Nat} (hn : n ≤ 8) (hk : k ≤ 8) (ha : a ≤ n) : ((List.range a).flatMap fun (a : Nat) => if rdyR o (ints x) (a : Int) then frmL o n k (x ++ [a]) else []).length ≤ 134217728 := by
  have hp : n ^ k ≤ 16777216 := by
    have h1 := Nat.pow_le_pow_left hn k
    have h2 := Nat.pow_le_pow_right (show 0 < 8 by omega) hk
    omega
  have key : ∀ l : List Nat, (l.flatMap fun (a : Nat) => if rdyR o (ints x) (a : Int) then frmL o n k (x ++ [a]) else []).length ≤ l.length * 16777216 := fun l => by
    induction l with
    | nil => simp
    | cons a l ih =>
      rw [List.flatMap_cons, List.length_append, List.length_cons]
      have h1 := frm_len (o := o) (n := n) k (x ++ [a])
      have h2 : (if rdyR o (ints x) (a : Int) then frmL o n k (x ++ [a]) else []).length ≤ 16777216 := by
        split
        · omega
        · simp
      omega
  have := key (List.range a)
  rw [List.length_range] at this
  omega

set_option maxHeartbeats 16000000 in
theorem rfrom_c {w0 : World} {v : Value} {o : Prb} {av nv : Value} (h : PrbA w0 v o av nv) (hc : chkI o = 0) (hcir : cirB (opG o av nv).re (opG o av nv).n = false) (h8 : (opG o av nv).n ≤ 8) :
    ∀ (k : Nat) (x : List Nat) (s : Nat) (w : World) (u : Value), New w0 w → LeftS o av nv x s → (bitsOf s).length = k → x.length + k = (opG o av nv).n → RowN w u x →
    Calls Tryd.prog 150 #[v, u] w fun en w' => ∃ r, en = .returned r ∧ New w w' ∧ SlS w' w.heap.size r (frmL o (opG o av nv).n k x)
  | 0, x, s, w, u, hn, hls, hlb, hlen, hu => by
    have hon : o.n = ((opG o av nv).n : Int) := by have := (chkI_zero hc).1; show o.n = ((o.n.toNat : Nat) : Int); omega
    have hq : ((x.length : Int) == ((opG o av nv).n : Int)) = true := by simp; omega
    have HU := Lib.hid hu
    obtain ⟨ua, uc, hue⟩ : ∃ ua uc, u = .slice ua x.length uc := by
      rcases hu with ⟨rfl, rfl⟩ | ⟨g, c, cur, rfl, _, _⟩
      · exact ⟨none, 0, rfl⟩
      · exact ⟨_, c, rfl⟩
    subst hue
    obtain ⟨⟨⟨a1, ac, n1, nc, rfl, h1, h2⟩, h3, h4⟩, h5, h6⟩ := h
    clear h1 h2 h3 h4 h5 h6 hc hcir hls hlb hlen hn hu
    show Calls _ _ _ _ fun en w' => ∃ r, en = .returned r ∧ New w w' ∧ SlS w' w.heap.size r [x]
    rw [hon]
    clear hon
    generalize (opG o av nv).n = n at *
    generalize o.A.length = LA at *
    generalize o.B.length = LB at *
    generalize hL : x.length = L at *
    have HL := Lib.hid hL
    clear hL
    obtain ⟨H, hH⟩ : ∃ H, w.heap.size = H := ⟨_, rfl⟩
    go_enter Tryd.func150, Tryd.ntmps150
    go_wp2_with fail
    go_ret
    refine ⟨_, rfl, ((New.refl w).alloc _).alloc _, ?_⟩
    have e := SlS.one (w := w.alloc (.cells #[.int .i64 (n : Int), .slice a1 LA ac, .slice n1 LB nc] 24)) (base := w.heap.size) (HU.out.new ((New.refl w).alloc _)) (by simp)
    simpa [hH] using e
  | k + 1, x, s, w, u, hn, hls, hlb, hlen, hu => by
    have IH := Lib.hid (rfrom_c h hc hcir h8 k)
    have hon : o.n = ((opG o av nv).n : Int) := by have := (chkI_zero hc).1; show o.n = ((o.n.toNat : Nat) : Int); omega
    have hq : ((x.length : Int) == ((opG o av nv).n : Int)) = false := by simp; omega
    have HLN := Lib.hid (fun (a : Nat) (ha : a < (opG o av nv).n) (hr : rdyR o (ints x) (a : Int) = true) => (⟨hls.next hc (by omega), left_len hc hls hlb ha hr, frm_some hc hcir (hls.next hc (by omega)) (left_len hc hls hlb ha hr)⟩ : LeftS o av nv (x ++ [a]) (wo s (2 ^ a)) ∧ (bitsOf (wo s (2 ^ a))).length = k ∧ frmL o (opG o av nv).n k (x ++ [a]) ≠ []))
    have HPT := Lib.hid (fun (a : Nat) (ha : a ≤ (opG o av nv).n) => frm_part (o := o) (x := x) (k := k) h8 (by omega) ha)
    have HRD := Lib.hid (fun (w1 : World) (hw : New w w1) (a : Int) => rready_c (h.pv.new (hn.trans hw)) (hu.new hw).sl (by rw [ints_len]; omega) a)
    have HFR := Lib.hid (show frmL o (opG o av nv).n (k + 1) x = (List.range (opG o av nv).n).flatMap fun (a : Nat) => if rdyR o (ints x) (a : Int) then frmL o (opG o av nv).n k (x ++ [a]) else [] from rfl)
    have HPV := Lib.hid hn
    have hxl : x.length + k + 1 = (opG o av nv).n := by omega
    obtain ⟨⟨⟨a1, ac, n1, nc, rfl, h1, h2⟩, h3, h4⟩, h5, h6⟩ := h
    clear h1 h2 h3 h4 h5 h6 hc hcir hls hlb hlen hn
    rw [HFR.out]
    clear HFR
    rw [hon] at HRD IH ⊢
    clear hon
    obtain ⟨FK, hFK⟩ : ∃ FK : Nat → List (List Nat), FK = fun (a : Nat) => if rdyR o (ints x) (a : Int) then frmL o (opG o av nv).n k (x ++ [a]) else [] := ⟨_, rfl⟩
    have HF0 := Lib.hid (fun (a : Nat) (e : rdyR o (ints x) (a : Int) = false) => (by rw [hFK]; simp only [e]; rfl : FK a = []))
    have HF1 := Lib.hid (fun (a : Nat) (e : rdyR o (ints x) (a : Int) = true) => (by rw [hFK]; simp only [e, if_true] : FK a = frmL o (opG o av nv).n k (x ++ [a])))
    have HPT' := Lib.hid (fun (a : Nat) (ha : a ≤ (opG o av nv).n) => (by rw [hFK]; exact HPT.out a ha : ((List.range a).flatMap FK).length ≤ 134217728))
    rw [← hFK]
    clear hFK HPT
    generalize (opG o av nv).n = n at *
    generalize o.A.length = LA at *
    generalize o.B.length = LB at *
    obtain ⟨H, hH⟩ : ∃ H, w.heap.size = H := ⟨_, rfl⟩
    have HB0 := Lib.hid (show (w.alloc (.cells #[.int .i64 (n : Int), .slice a1 LA ac, .slice n1 LB nc] 24)).heap[H]? = some (.cells #[.int .i64 (n : Int), .slice a1 LA ac, .slice n1 LB nc] 24 (0, 0)) from by rw [← hH]; exact World.alloc_heap_new w _)
    obtain ⟨i0, hi, hz0, hz1, hz2⟩ := info_parts sl_infoZ
    obtain ⟨j0, hj, hy0, hy1, hy2⟩ : ∃ i0, Tryd.prog.info? 3 = some i0 ∧ i0.zero = some (.int .i64 0) ∧ i0.size = 1 ∧ i0.bytes = 8 := by
      have h := int_infoO
      cases hi : Tryd.prog.info? 3 with
      | none => rw [hi] at h; cases h
      | some i => rw [hi] at h; simp only [Option.map_some, Option.some.injEq, Prod.mk.injEq] at h; exact ⟨i, rfl, h.1, h.2.1, h.2.2⟩
    have HFS := Lib.hid (fun (a : Nat) => (by rw [List.range_succ, List.flatMap_append]; simp : (List.range (a + 1)).flatMap FK = (List.range a).flatMap FK ++ FK a))
    obtain ⟨ua, uc, rfl⟩ := hu.form
    have HU := Lib.hid hu
    have HXL := Lib.hid hxl
    clear hu hxl
    generalize hL : x.length = L at *
    have HL := Lib.hid hL
    clear hL
    · skip
      go_enter Tryd.func150, Tryd.ntmps150
      go_wp2_with fail
      clear hq
      go_loopw [5, 6] (fun v5 v6 wr => ∃ a : Nat, a ≤ n ∧ v6 = .int .i64 (a : Int) ∧ SlS wr (H + 1) v5 ((List.range a).flatMap FK) ∧ New w wr ∧ wr.heap[H]? = some (.cells #[.int .i64 (n : Int), .slice a1 LA ac, .slice n1 LB nc] 24 (0, 0))) (fun _ v6 _ => n - (intOf v6).toNat)
      case atStart => exact ⟨0, Nat.zero_le _, rfl, SlS.nil _ _, (New.refl w).alloc _, HB0.out⟩
      case round =>
        obtain ⟨a, ha, rfl, hsl, hnew, hbx⟩ := hrel
        obtain ⟨U1, rfl⟩ : ∃ U1 : World, U1 = wr := ⟨_, rfl⟩
        obtain ⟨sa, sc, rfl⟩ := hsl.sl
        have HS1 := Lib.hid hsl
        generalize hLn : ((List.range a).flatMap FK).length = Ln at *
        have HLn := Lib.hid hLn
        clear hLn
        have N1 := Lib.hid hnew
        have HB1 := Lib.hid hbx
        obtain ⟨c0, c1, c2, hHl⟩ := box3w hbx
        clear hsl hnew hbx
        by_cases hlt : a < n
        · have hk1 : (a : Int) < (n : Int) := by omega
          have HRDa := Lib.hid (fun (w1 : World) (hw : New w w1) => HRD.out w1 hw (a : Int))
          cases hr : rdyR o (ints x) (a : Int)
          · rw [hr] at HRDa
            have HFA := Lib.hid (HF0.out a hr)
            clear hr
            go_wp2_with (go_at_call 86; (with_reducible refine (HRDa.out _ ?_).mono ?_); (· exact N1.out); rintro e w7 ⟨rfl, n7⟩; have N7 := Lib.hid n7; clear n7)
            go_roundw
            case rel => exact ⟨a + 1, by omega, by go_num, by rw [HFS.out, HFA.out, List.append_nil]; exact HS1.out.new N7.out, N1.out.trans N7.out, row_new HB1.out N7.out⟩
            case measure => simp [intOf]; omega
          · rw [hr] at HRDa
            have HFA := Lib.hid (HF1.out a hr)
            obtain ⟨l1, l2, l3⟩ := HLN.out a hlt hr
            have HL1 := Lib.hid l1
            have HL2 := Lib.hid l2
            have HL3 := Lib.hid l3
            clear hr l1 l2 l3
            go_upto_region 9 with (go_at_call 86; (with_reducible refine (HRDa.out _ ?_).mono ?_); (· exact N1.out); rintro e w7 ⟨rfl, n7⟩; have N7 := Lib.hid n7; clear n7)
            have HB7 := Lib.hid (row_new HB1.out N7.out)
            have HS7 := Lib.hid (HS1.out.new N7.out)
            have NW7 := Lib.hid (N1.out.trans N7.out)
            clear c0 c1 c2 hHl
            have hx1 : x.length ≤ 1000 := by have := HXL.out; have := HL.out; omega
            have HU7 := Lib.hid (HU.out.new NW7.out)
            go_wp2_with (at_builtin; refine wpList_append_rowN rfl _ _ rfl w7.heap.size (.slice (some ⟨w7.heap.size, 0, none⟩) 0 0) (.slice ua L uc) x rfl ?qa1 rfl ?qa2 hx1 ?qa4 ?_)
            case qa1 => exact World.ownsRow_made w7 #[] 0 (Nat.le_refl _) (Nat.zero_le _) rfl
            case qa2 => exact HU7.out.new ((New.refl w7).alloc _)
            case qa4 => simp
            intro v8 w8 hown8 hgrow8
            have N8 := Lib.hid (show New w7 w8 from New.of_below (((Below.refl _ w7).alloc (Nat.le_refl _) _).grown hgrow8 (by simp) (by intro k hk; simp [Value.ownBlock] at hk; omega)))
            obtain ⟨va, vc, rfl⟩ := own_slice hown8
            have O8 := Lib.hid hown8
            clear hown8 hgrow8
            go_wp2_with (at_builtin; refine wpList_append_own _ rfl _ _ 31 rfl w7.heap.size 3 j0 (.int .i64 0) 1 8 Tryd.underlying31 hj hy0 hy1 hy2 rfl (by decide) (.slice va x.length vc) x.length (natCells x) rfl ?qb0 ⟨w8.heap.size, 0, none⟩ 1 1 [.int .i64 (a : Int)] rfl rfl ?qb2 ?qb3 ?qb4 ?qb5 ?qb6 ?_)
            case qb0 => exact own_new O8.out ((New.refl w8).alloc _)
            case qb2 => first | (refine cells_new _ _ _ _ ?_; simp [go_sem]; done) | (intro j u hj; cases j with
              | zero => simp at hj; subst hj; simp [go_sem]
              | succ j => simp at hj)
            case qb3 => first | (exact ⟨rfl, rfl⟩) | (exact rfl) | (intro u hu; simp at hu; rcases hu with rfl <;> rfl)
            case qb4 => unfold maxLen; omega
            case qb5 => omega
            case qb6 => have h2 := N8.out.size; simp; omega
            intro v9 w9 hown9 hgrow9 hnil9
            have N9 := Lib.hid (show New w7 w9 from Mod.new (N8.out.alloc _) (Mod.grown (O := fun q => w7.heap.size ≤ q) hgrow9 (fun g hg => (O8.out.lt g hg).1)) (fun q hq => hq))
            have R9 := Lib.hid (show RowN w9 v9 (x ++ [a]) from RowN.of_own (base := w7.heap.size) (by rw [natCells_snoc, List.length_append]; exact hown9))
            have HC9 := Lib.hid (IH.out (x ++ [a]) (wo s (2 ^ a)) w9 v9 (HPV.out.trans (NW7.out.trans N9.out)) HL1.out HL2.out (by rw [List.length_append, List.length_singleton]; have := HXL.out; have := HL.out; omega) R9.out)
            have HB9 := Lib.hid (row_new HB7.out N9.out)
            have HS9 := Lib.hid (HS7.out.new N9.out)
            have NW9 := Lib.hid (NW7.out.trans N9.out)
            obtain ⟨c0, c1, c2, hHl⟩ := box3w HB9.out
            obtain ⟨va9, vc9, rfl⟩ := own_slice hown9
            clear hown9 hgrow9 hnil9
            have hlp : 0 < (frmL o n k (x ++ [a])).length := by
              have := HL3.out
              cases hh : frmL o n k (x ++ [a]) with
              | nil => exact absurd hh this
              | cons y ys => simp
            have hbnd := HPT'.out (a + 1) (by omega)
            rw [HFS.out, HFA.out, List.length_append, HLn.out] at hbnd
            have HAP := Lib.hid (show (List.range (a + 1)).flatMap FK = (List.range a).flatMap FK ++ frmL o n k (x ++ [a]) from by rw [HFS.out, HFA.out])
            generalize frmL o n k (x ++ [a]) = L2 at *
            go_upto_region 11 with (go_at_call 150; (with_reducible refine HC9.out.mono ?_); rintro e w10 ⟨r, rfl, n10, sl10⟩; have N10 := Lib.hid n10; have S10 := Lib.hid sl10; clear n10 sl10 c0 c1 c2 hHl)
            obtain ⟨es1, m1, m2, m3⟩ := HS9.out.new N10.out
            obtain ⟨es2, k1, k2, k3⟩ := S10.out
            obtain ⟨g2, q2, rfl, _, _⟩ := k2.form hlp
            rw [HLn.out] at m1 m2
            generalize hM : L2.length = M2 at *
            have HM := Lib.hid hM
            have hone : ∀ u ∈ es2, u.oneCell' = true := fun u hu => by
              obtain ⟨j, hj, e⟩ := List.getElem_of_mem hu
              have hj2 : j < L2.length := by omega
              exact (k3 j u L2[j] (by rw [List.getElem?_eq_getElem hj, e]) (List.getElem?_eq_getElem hj2)).one
            have hcel : ∀ j u, es2[j]? = some u → w10.cell? ⟨g2, j, none⟩ = some u := fun j u hj => (own_cell k2 hj).1
            go_wp2_with (at_builtin; refine wpList_append_own _ rfl _ _ 48 rfl (H + 1) 31 i0 (.slice none 0 0) 1 24 Tryd.underlying48 hi hz0 hz1 hz2 rfl (by decide) (.slice sa Ln sc) Ln es1 rfl ?qc0 ⟨g2, 0, none⟩ M2 q2 es2 rfl ?qc1 ?qc2 ?qc3 ?qc4 ?qc5 ?qc6 ?_)
            case qc0 => exact m2
            case qc1 => omega
            case qc2 => intro j u hj; rw [Addr.add_lit, Nat.zero_add]; exact hcel j u hj
            case qc3 => exact hone
            case qc4 => unfold maxLen; omega
            case qc5 => omega
            case qc6 => have h1 := (Array.getElem?_eq_some_iff.1 HB9.out).1; have h2 := N10.out.size; omega
            intro v11 w11 hown11 hgrow11 hnil11
            have S11 := Lib.hid (show SlS w11 (H + 1) v11 ((List.range a).flatMap FK ++ L2) from SlS.app (by rw [HLn.out]; exact m1) (by rw [HLn.out]; exact m2) m3 (by rw [HM.out]; exact k1) k3 hgrow11 (by rw [HLn.out, HM.out]; exact hown11))
            have hn11 : New w w11 := Mod.new (NW9.out.trans N10.out) (Mod.grown (O := fun q => H + 1 ≤ q) hgrow11 (fun g hg => (m2.lt g hg).1)) (fun q hq => by have : H + 1 ≤ q := hq; omega)
            have HN11 := Lib.hid hn11
            have HB11 := Lib.hid (show w11.heap[H]? = some (.cells #[.int .i64 (n : Int), .slice a1 LA ac, .slice n1 LB nc] 24 (0, 0)) from (hgrow11.block H (Array.getElem?_eq_some_iff.1 (row_new HB9.out N10.out)).1 (fun e => by have := (m2.lt H e.symm).1; omega)).trans (row_new HB9.out N10.out))
            obtain ⟨av', cv', rfl⟩ := own_slice hown11
            clear hown11 hgrow11 hnil11 hn11 m1 m2 m3 k1 k2 k3 hone hcel hlp hbnd hM
            go_wp2_with fail
            go_roundw
            case rel => exact ⟨a + 1, by omega, by go_num, by rw [HAP.out]; exact S11.out, HN11.out, HB11.out⟩
            case measure => simp [intOf]; omega
        · obtain rfl : a = n := by omega
          have hk1 : ¬ (a : Int) < (a : Int) := by omega
          go_wp2_with fail
          go_ret
          exact ⟨_, rfl, N1.out, HS1.out.base (by omega)⟩
set_option maxHeartbeats 8000000 in
theorem rall_c {w : World} {v : Value} {o : Prb} {av nv : Value} (h : PrbA w v o av nv) (hc : chkI o = 0) (hcir : cirB (opG o av nv).re (opG o av nv).n = false) (h8 : (opG o av nv).n ≤ 8) :
    Calls Tryd.prog 129 #[v] w fun en w' => ∃ r, en = .returned r ∧ New w w' ∧ SlS w' w.heap.size r (ordG (opG o av nv)) := by
  have HF := Lib.hid (fun (w1 : World) (hn : New w w1) => (by
    have := rfrom_c h hc hcir h8 (opG o av nv).n [] (fst (opG o av nv).n) w1 (.slice none 0 0) hn (LeftS.none av nv hc) (fst_ok av nv hc).2.1 (by simp) (.inl ⟨rfl, rfl⟩)
    rw [frm_all hc] at this
    exact this : Calls Tryd.prog 150 #[v, .slice none 0 0] w1 fun en w' => ∃ r, en = .returned r ∧ New w1 w' ∧ SlS w' w1.heap.size r (ordG (opG o av nv))))
  obtain ⟨⟨⟨a1, ac, n1, nc, rfl, h1, h2⟩, h3, h4⟩, h5, h6⟩ := h
  clear h1 h2 h3 h4 h5 h6 hc hcir h8
  generalize ordG (opG o av nv) = L at *
  generalize o.A.length = LA at *
  generalize o.B.length = LB at *
  generalize o.n = n at *
  have HB := Lib.hid (show w.heap.size ≤ (w.alloc (.cells #[.int .i64 n, .slice a1 LA ac, .slice n1 LB nc] 24)).heap.size from ((New.refl w).alloc _).size)
  go_enter Tryd.func129, Tryd.ntmps129
  go_wp2_with (go_at_call 150; (with_reducible refine (HF.out _ ?_).mono ?_); (· exact (New.refl w).alloc _); rintro e w6 ⟨r, rfl, n6, sl6⟩; have N6 := Lib.hid (((New.refl w).alloc _).trans n6); have S6 := Lib.hid (sl6.base HB.out); clear n6 sl6)
  go_ret
  exact ⟨_, rfl, N6.out, S6.out⟩
end Go.Proofs.YtiejefehcpfkaaaDoor
