/- The graphs that the other openers return; Standing. Lists of any length that memory takes. · The graphs that the other openers return: of a problem without circles, of few places, for plaster that dries. Lists of any length that memory takes. -/
import Derived.Test.YtiejefehcpfkaaaDoorSg

section
set_option linter.unusedSimpArgs false
set_option linter.unusedVariables false
set_option maxRecDepth 100000
namespace Go.Proofs.YtiejefehcpfkaaaDoor
open Go.RowKit

/-- v is the problem o, with the slices av and nv -/
structure PrbA (w : World) (v : Value) (o : Prb) (av nv : Value) : Prop where
  pv : PrbV w v o
  sh : ∃ a ac b bc, av = .slice a o.A.length ac ∧ nv = .slice b o.B.length bc
  eq : v = .agg #[.int .i64 o.n, av, nv]
theorem PrbA.new {w w' : World} {v : Value} {o : Prb} {av nv : Value} (h : PrbA w v o av nv) (hn : New w w') : PrbA w' v o av nv := ⟨h.pv.new hn, h.sh, h.eq⟩
theorem opG_ok {o : Prb} {av nv : Value} (hc : chkI o = 0) (ha : ∃ a ac b bc, av = .slice a o.A.length ac ∧ nv = .slice b o.B.length bc) : (opG o av nv).ok := by
  obtain ⟨a, ac, b, bc, rfl, rfl⟩ := ha
  have h5 := (chkI_zero hc).1
  obtain ⟨h1, h2⟩ := chk_in hc
  exact ⟨by show o.n.toNat ≤ 24; omega, rfl, rfl, afF_lt h1 _ (Nat.le_refl _), chM_lt (afF_lt h1 _ (Nat.le_refl _)) _ _, beF_lt h1 _ (Nat.le_refl _), neF_lt h2 _ (Nat.le_refl _)⟩
theorem opR_ok {o : Prb} {av nv : Value} (ha : ∃ a ac b bc, av = .slice a o.A.length ac ∧ nv = .slice b o.B.length bc) : (opR o av nv).ok := by
  unfold opR; split
  · rename_i h; exact opG_ok h ha
  · exact G0_ok
theorem open_c {w : World} {v : Value} {o : Prb} {av nv : Value} (h : PrbA w v o av nv) : Calls Tryd.prog 68 #[v] w fun en w' => en = .returned (.tuple #[.agg (opR o av nv).cells.toArray, .int .i64 (chkI o)]) ∧ New w w' := by
  by_cases hc : chkI o = 0
  · obtain ⟨a, ac, b, bc, rfl, rfl⟩ := h.sh
    have := open_good v o w a b ac bc h.pv h.eq hc
    unfold opR
    rw [if_pos hc]
    rw [hc]
    exact this
  · unfold opR
    rw [if_neg hc]
    exact open_bad v o w h.pv hc
/-- a result that is a graph and an error: the graph where there is none -/
def grR (G : Gph) (e : Int) : Gph := if e = 0 then G else G0
theorem grR_zero (G : Gph) : grR G 0 = G := if_pos rfl
theorem grR_no (G : Gph) {e : Int} (h : e ≠ 0) : grR G e = G0 := if_neg h
theorem opR_grR (o : Prb) (av nv : Value) : opR o av nv = grR (opG o av nv) (chkI o) := rfl

def st4 : Bool → Bool → Int
  | true, true => 3
  | true, false => 1
  | false, true => 2
  | false, false => 0
def stI (o : Prb) (av nv : Value) (a b : Int) : Int :=
  if chkI o ≠ 0 then 0 else if !(decide (0 ≤ a) && decide (a < o.n)) || !(decide (0 ≤ b) && decide (b < o.n)) || decide (a = b) then 0
  else st4 (((opG o av nv).re a.toNat).testBit b.toNat) (((opG o av nv).re b.toNat).testBit a.toNat)

section
variable {ops : Array Oper} {rest : List Oper} {o : Oper} {a : Act} {w : World} {Q : Exit → Act → World → Prop}
/-- a graph goes into a block that was just made for it -/
theorem wpList_store_graph (hgd : o.guard = none) (x y : Operand) (ho : o.op = .store 83 x y) {G : Gph} (hx : a.eval x = .pointer (some ⟨w.heap.size, 0, none⟩)) (hy : a.eval y = .agg G.cells.toArray) (hok : G.ok)
    (h : ∀ w', New w w' → Gr w' w.heap.size G → wpList Tryd.prog ops Q rest (a.put o.dst undef) w') : wpList Tryd.prog ops Q (o :: rest) a (w.alloc (.cells Tryd.zeroCells83 83)) := by
  obtain ⟨h1, h2⟩ := made_graph (w := w) G.cells.toArray G Tryd.zeroCells83 rfl
  exact wpList_store_row hgd _ x y ho w.heap.size _ hx hy _ _ (World.alloc_heap_new w _) (graph_sizeG _) (by rw [zc_graph]; simp [Gph.len]) (Gph.all hok) (h _ h1 h2)
/-- a graph goes into the block of a result -/
theorem wpList_put_graph (hgd : o.guard = none) (x y : Operand) (ho : o.op = .store 83 x y) {G : Gph} (g : Nat) (hx : a.eval x = .pointer (some ⟨g, 0, none⟩)) (hy : a.eval y = .agg G.cells.toArray) (hok : G.ok)
    (hg : w.heap[g]? = some (.cells Tryd.zeroCells83 83 (0, 0)))
    (h : wpList Tryd.prog ops Q rest (a.put o.dst undef) (w.setRow g G.cells.toArray)) : wpList Tryd.prog ops Q (o :: rest) a w :=
  wpList_store_row hgd _ x y ho g _ hx hy _ _ hg (graph_sizeG _) (by rw [zc_graph]; simp [Gph.len]) (Gph.all hok) h
/-- a whole graph is read -/
theorem wpList_get_graph (hgd : o.guard = none) (x : Operand) (ho : o.op = .load 83 x) {G : Gph} (g : Nat) (hx : a.eval x = .pointer (some ⟨g, 0, none⟩)) (hg : Gr w g G)
    (h : wpList Tryd.prog ops Q rest (a.put o.dst (.agg G.cells.toArray)) w) : wpList Tryd.prog ops Q (o :: rest) a w :=
  wpList_load_row hgd _ x ho g hx _ _ (0, 0) _ hg Tryd.underlying83 rfl (graph_sizeG _) h
end
theorem wp_get_graph {op : Oper} {a : Act} {w : World} {K : Act → World → Prop} {Q : Exit → Act → World → Prop} (x : Operand) (ho : op.op = .load 83 x) {G : Gph} (g : Nat) (hx : a.eval x = .pointer (some ⟨g, 0, none⟩)) (hg : Gr w g G)
    (h : K (a.put op.dst (.agg G.cells.toArray)) w) : op.wp Tryd.prog a w K Q :=
  wp_load_row _ x ho g hx _ _ (0, 0) _ hg Tryd.underlying83 rfl (graph_sizeG _) h
theorem wpList_want_graph {ops : Array Oper} {rest : List Oper} {o : Oper} {a : Act} {w : World} {Q : Exit → Act → World → Prop} (x : Operand) (ho : o.op = .load 83 x) (hw : Region.wanted o (yielded ops a.tmps) = true) {G : Gph} (g : Nat) (hx : a.eval x = .pointer (some ⟨g, 0, none⟩)) (hg : Gr w g G)
    (h : wpList Tryd.prog ops Q rest (a.put o.dst (.agg G.cells.toArray)) w) : wpList Tryd.prog ops Q (o :: rest) a w := by
  unfold wpList
  rw [if_pos hw]
  exact .inl (wp_get_graph x ho g hx hg h)
theorem Gr.get {w : World} {g : Nat} {G : Gph} (h : Gr w g G) : (Instr.loadAt 83 (.pointer (some ⟨g, 0, none⟩))).run Tryd.prog w = .ok (.agg G.cells.toArray) w := by
  simp only [Instr.loadAt, Instr.sureAddr, Sem.run_bind, Sem.run_pure, Result.andThen_ok, run_loadVar_row w g _ _ _ _ _ h Tryd.underlying83 rfl (graph_sizeG _)]

set_option maxHeartbeats 8000000 in
theorem standing_c {w : World} {v : Value} {o : Prb} {av nv : Value} (h : PrbA w v o av nv) (a b : Int) : Calls Tryd.prog 22 #[v, .int .i64 a, .int .i64 b] w fun en w' => en = .returned (.int .u8 (stI o av nv a b)) ∧ New w w' := by
  have HO := Lib.hid (fun (w1 : World) (hn : New w w1) => open_c (h.new hn))
  have HOK := Lib.hid (opR_ok h.sh)
  have HE := Lib.hid h.eq
  have hR : stI o av nv a b = if chkI o ≠ 0 then 0 else if !(decide (0 ≤ a) && decide (a < o.n)) || !(decide (0 ≤ b) && decide (b < o.n)) || decide (a = b) then 0
    else st4 (((opG o av nv).re a.toNat).testBit b.toNat) (((opG o av nv).re b.toNat).testBit a.toNat) := rfl
  have HR := Lib.hid hR
  have hv := h.eq
  obtain ⟨x1, x2, x3, x4, e1, e2⟩ := h.sh
  clear h hR
  generalize stI o av nv a b = R at *
  obtain ⟨H, hH⟩ : ∃ H, w.heap.size = H := ⟨_, rfl⟩
  have HH := Lib.hid hH
  by_cases hc : chkI o = 0
  · rw [if_neg (by simpa using hc)] at HR
    have hn := (chkI_zero hc).1
    have hG : opR o av nv = opG o av nv := by unfold opR; rw [if_pos hc]
    have hGn : ((opG o av nv).n : Int) = o.n := by show ((o.n.toNat : Nat) : Int) = o.n; omega
    rw [hc] at HO
    rw [hG] at HO HOK
    clear hc HE hG
    generalize opG o av nv = RG at *
    rw [← hGn] at hv hn HR
    have HIA := Lib.hid (fun w1 : World => isPatch_c RG a w1)
    have HIB := Lib.hid (fun w1 : World => isPatch_c RG b w1)
    subst hv
    subst e1 e2
    by_cases u1 : 0 ≤ a ∧ a < RG.n
    · obtain ⟨A, rfl⟩ : ∃ A : Nat, a = A := ⟨a.toNat, by omega⟩
      rw [decide_eq_true u1.1, decide_eq_true u1.2] at HIA HR
      by_cases u2 : 0 ≤ b ∧ b < RG.n
      · obtain ⟨B, rfl⟩ : ∃ B : Nat, b = B := ⟨b.toNat, by omega⟩
        rw [decide_eq_true u2.1, decide_eq_true u2.2] at HIB HR
        by_cases u3 : (A : Int) = B
        · have HF := Lib.hid (show (0 : Int) = R by rw [HR.out, decide_eq_true u3]; simp)
          have u3' : ((A : Int) == (B : Int)) = true := by simpa using u3
          have h1 : (true && true) = true := rfl
          rw [h1] at HIA HIB
          clear u1 u2 u3 hGn
          go_enter Tryd.func22, Tryd.ntmps22
          go_wp2_with (first | (go_at_call 68; (with_reducible refine (HO.out _ ?_).mono ?_); (repeat (first | exact New.refl _ | apply New.alloc)); rintro e w6 ⟨rfl, n6⟩; have HN := Lib.hid (((New.refl w).alloc _).trans n6); clear n6) | (refine wpList_store_graph rfl (.tmp 7) (.tmp 14) rfl rfl rfl HOK.out ?_; intro w7 n7 g7; obtain ⟨g, hg⟩ : ∃ g, w6.heap.size = g := ⟨_, rfl⟩; simp only [hg] at g7 ⊢; have N7 := Lib.hid n7; have G7 := Lib.hid g7; clear n7 g7) | (refine wpList_want_graph (.tmp 7) rfl (by rfl) g rfl G7.out ?_) | (go_at_call 69; (with_reducible refine (HIA.out _).mono ?_); rintro e w8 ⟨rfl, n8⟩; have N8 := Lib.hid n8; clear n8) | (refine wpList_want_graph (.tmp 7) rfl (by rfl) g rfl (G7.out.new N8.out) ?_) | (go_at_call 69; (with_reducible refine (HIB.out _).mono ?_); rintro e w9 ⟨rfl, n9⟩; have N9 := Lib.hid n9; clear n9))
          go_ret
          exact ⟨by rw [← HF.out]; rfl, HN.out.trans (N7.out.trans (N8.out.trans N9.out))⟩
        · have u3' : ((A : Int) == (B : Int)) = false := by simpa using u3
          have h1 : (true && true) = true := rfl
          rw [decide_eq_false u3] at HR
          rw [h1] at HIA HIB HR
          simp only [Int.toNat_natCast] at HR
          have a24 : A < 24 := by have := HOK.out.n24; omega
          have b24 : B < 24 := by have := HOK.out.n24; omega
          have a24' : (A : Int) < 24 := by omega
          have b24' : (B : Int) < 24 := by omega
          have HHA := Lib.hid (fun w1 : World => has_c (RG.re A) B w1 (HOK.out.re A) (by omega))
          have HHB := Lib.hid (fun w1 : World => has_c (RG.re B) A w1 (HOK.out.re B) (by omega))
          clear u1 u2 u3 hGn
          generalize (RG.re A).testBit B = ta at *
          generalize (RG.re B).testBit A = tb at *
          go_enter Tryd.func22, Tryd.ntmps22
          go_upto_region 4 with (first | (go_at_call 68; (with_reducible refine (HO.out _ ?_).mono ?_); (repeat (first | exact New.refl _ | apply New.alloc)); rintro e w6 ⟨rfl, n6⟩; have HN := Lib.hid (((New.refl w).alloc _).trans n6); clear n6) | (refine wpList_store_graph rfl (.tmp 7) (.tmp 14) rfl rfl rfl HOK.out ?_; intro w7 n7 g7; obtain ⟨g, hg⟩ : ∃ g, w6.heap.size = g := ⟨_, rfl⟩; simp only [hg] at g7 ⊢; have N7 := Lib.hid n7; have G7 := Lib.hid g7; clear n7 g7) | (refine wpList_want_graph (.tmp 7) rfl (by rfl) g rfl G7.out ?_) | (go_at_call 69; (with_reducible refine (HIA.out _).mono ?_); rintro e w8 ⟨rfl, n8⟩; have N8 := Lib.hid n8; clear n8) | (refine wpList_want_graph (.tmp 7) rfl (by rfl) g rfl (G7.out.new N8.out) ?_) | (go_at_call 69; (with_reducible refine (HIB.out _).mono ?_); rintro e w9 ⟨rfl, n9⟩; have N9 := Lib.hid n9; clear n9))
          have HG9 := Lib.hid ((G7.out.new N8.out).new N9.out)
          have e1 : w9.cell? ⟨g, 27 + A, none⟩ = some (sv (RG.re A)) := by rw [HG9.out.cell]; exact Gph.at_re _ A a24
          have e2 : w9.cell? ⟨g, 27 + B, none⟩ = some (sv (RG.re B)) := by rw [HG9.out.cell]; exact Gph.at_re _ B b24
          have g9 : g < w9.heap.size := HG9.out.lt
          generalize RG.re A = xa at *
          generalize RG.re B = xb at *
          first | refine wp_region_at2 (by kernel_rfl) (by kernel_rfl) ?_ | refine wp_region_at (by kernel_rfl) (by kernel_rfl) ?_
          repeat (go_big_quiet_step (first | (go_at_call 70; (with_reducible exact calls_new (HHA.out _))) | (go_at_call 70; (with_reducible exact calls_new (HHB.out _)))))
          refine wpQuiet_nil ?_
          rintro U3 hq3
          have HN3 := Lib.hid (show New w9 U3 from hq3)
          clear hq3 e1 e2 g9
          cases ta <;> cases tb
          all_goals
            go_wp2_with fail
            go_ret
            exact ⟨by rw [HR.out]; rfl, HN.out.trans (N7.out.trans (N8.out.trans (N9.out.trans HN3.out)))⟩
      · have hb : (decide (0 ≤ b) && decide (b < (RG.n : Int))) = false := by rw [Bool.and_eq_false_iff, decide_eq_false_iff_not, decide_eq_false_iff_not]; omega
        rw [hb] at HIB HR
        have HF := Lib.hid (show (0 : Int) = R by rw [HR.out]; rfl)
        have h1 : (true && true) = true := rfl
        rw [h1] at HIA
        clear hb u1 u2 hGn
        go_enter Tryd.func22, Tryd.ntmps22
        go_wp2_with (first | (go_at_call 68; (with_reducible refine (HO.out _ ?_).mono ?_); (repeat (first | exact New.refl _ | apply New.alloc)); rintro e w6 ⟨rfl, n6⟩; have HN := Lib.hid (((New.refl w).alloc _).trans n6); clear n6) | (refine wpList_store_graph rfl (.tmp 7) (.tmp 14) rfl rfl rfl HOK.out ?_; intro w7 n7 g7; obtain ⟨g, hg⟩ : ∃ g, w6.heap.size = g := ⟨_, rfl⟩; simp only [hg] at g7 ⊢; have N7 := Lib.hid n7; have G7 := Lib.hid g7; clear n7 g7) | (refine wpList_want_graph (.tmp 7) rfl (by rfl) g rfl G7.out ?_) | (go_at_call 69; (with_reducible refine (HIA.out _).mono ?_); rintro e w8 ⟨rfl, n8⟩; have N8 := Lib.hid n8; clear n8) | (refine wpList_want_graph (.tmp 7) rfl (by rfl) g rfl (G7.out.new N8.out) ?_) | (go_at_call 69; (with_reducible refine (HIB.out _).mono ?_); rintro e w9 ⟨rfl, n9⟩; have N9 := Lib.hid n9; clear n9))
        go_ret
        exact ⟨by rw [← HF.out]; rfl, HN.out.trans (N7.out.trans (N8.out.trans N9.out))⟩
    · have HF := Lib.hid (show (0 : Int) = R by
        rw [HR.out]
        have : (decide (0 ≤ a) && decide (a < (RG.n : Int))) = false := by rw [Bool.and_eq_false_iff, decide_eq_false_iff_not, decide_eq_false_iff_not]; omega
        rw [this]; rfl)
      have hb : (decide (0 ≤ a) && decide (a < (RG.n : Int))) = false := by rw [Bool.and_eq_false_iff, decide_eq_false_iff_not, decide_eq_false_iff_not]; omega
      rw [hb] at HIA
      clear hb u1 hGn
      go_enter Tryd.func22, Tryd.ntmps22
      go_wp2_with (first | (go_at_call 68; (with_reducible refine (HO.out _ ?_).mono ?_); (repeat (first | exact New.refl _ | apply New.alloc)); rintro e w6 ⟨rfl, n6⟩; have HN := Lib.hid (((New.refl w).alloc _).trans n6); clear n6) | (refine wpList_store_graph rfl (.tmp 7) (.tmp 14) rfl rfl rfl HOK.out ?_; intro w7 n7 g7; obtain ⟨g, hg⟩ : ∃ g, w6.heap.size = g := ⟨_, rfl⟩; simp only [hg] at g7 ⊢; have N7 := Lib.hid n7; have G7 := Lib.hid g7; clear n7 g7) | (refine wpList_want_graph (.tmp 7) rfl (by rfl) g rfl G7.out ?_) | (go_at_call 69; (with_reducible refine (HIA.out _).mono ?_); rintro e w8 ⟨rfl, n8⟩; have N8 := Lib.hid n8; clear n8))
      go_ret
      exact ⟨by rw [← HF.out]; rfl, HN.out.trans (N7.out.trans N8.out)⟩
  · rw [if_pos hc] at HR
    have he : (chkI o != 0) = true := by simpa using hc
    clear hc HE
    generalize chkI o = E at *
    generalize opR o av nv = RG at *
    subst hv
    subst e1 e2
    go_enter Tryd.func22, Tryd.ntmps22
    go_wp2_with (first | (go_at_call 68; (with_reducible refine (HO.out _ ?_).mono ?_); (repeat (first | exact New.refl _ | apply New.alloc)); rintro e w6 ⟨rfl, n6⟩; have HN := Lib.hid (((New.refl w).alloc _).trans n6); clear n6) | (refine wpList_store_graph rfl (.tmp 7) (.tmp 14) rfl rfl rfl HOK.out ?_; intro w7 n7 g7; have N7 := Lib.hid n7; clear n7 g7))
    go_ret
    exact ⟨by rw [HR.out]; rfl, HN.out.trans N7.out⟩
end Go.Proofs.YtiejefehcpfkaaaDoor
end

section
set_option linter.unusedSimpArgs false
set_option linter.unusedVariables false
set_option maxRecDepth 100000
namespace Go.Proofs.YtiejefehcpfkaaaDoor
open Go.RowKit

theorem two_heap {w w' : World} {A B : Obj} {H : Nat} (hH : w.heap.size = H) (hn : New ((w.alloc A).alloc B) w') : w'.heap[H + 1]? = some B := row_new (two_new w A B H hH) hn
theorem two_cell {w w' : World} {A : Array Value} {t : TypeId} {B : Obj} {H : Nat} (hH : w.heap.size = H) (hn : New ((w.alloc (.cells A t)).alloc B) w') (i : Nat) : w'.cell? ⟨H, i, none⟩ = A[i]? := by
  subst hH
  rw [hn.cell (by simp; omega), World.cell?_alloc_lt _ _ _ (by simp)]
  rw [cell_of_row _ _ i A t (0, 0) (World.alloc_heap_new w _)]
def ofG (o : Prb) (av nv : Value) (e : Int) : Gph := if chkI o = 0 then (if e = 0 then opG o av nv else G0) else G0
/-- the error of openFew -/
def fewI (o : Prb) : Int := if chkI o ≠ 0 then chkI o else if 12 < o.n then 2 else 0
/-- the error of openDry -/
def dryI (o : Prb) (d : Int) : Int := if chkI o ≠ 0 then chkI o else if d < 0 ∨ 30 < d then 1 else 0
/-- the error of openOrdered, and its graph -/
def ordI (o : Prb) (av nv : Value) : Int := if chkI o ≠ 0 then chkI o else if cirB (opG o av nv).re (opG o av nv).n then 50 else 0
section
variable {ops : Array Oper} {rest : List Oper} {o : Oper} {a : Act} {w : World} {Q : Exit → Act → World → Prop}
/-- the empty graph goes into the block of a result -/
theorem wpList_put_zero (hgd : o.guard = none) (x y : Operand) (ho : o.op = .store 83 x y) (g : Nat) (hx : a.eval x = .pointer (some ⟨g, 0, none⟩)) (hy : a.eval y = .agg Tryd.zeroCells83)
    (hg : w.heap[g]? = some (.cells Tryd.zeroCells83 83 (0, 0)))
    (h : wpList Tryd.prog ops Q rest (a.put o.dst undef) w) : wpList Tryd.prog ops Q (o :: rest) a w := by
  refine wpList_put_graph (G := G0) hgd x y ho g hx (by rw [hy, zc_graph]) G0_ok hg ?_
  have e : w.setRow g G0.cells.toArray = w := setRow_self w g _ _ (0, 0) (by rw [← zc_graph]; exact hg)
  rw [e]; exact h
end
theorem ret_zero {fn : Func} {p u : Tmp} (h : fn.results = #[.cell p 83, .tmp u]) (tmps : Array Value) (w : World) (g : Nat) (hp : tmps.getD p undef = .pointer (some ⟨g, 0, none⟩))
    (hg : w.heap[g]? = some (.cells Tryd.zeroCells83 83 (0, 0))) : (results fn tmps).run Tryd.prog w = .ok (.tuple #[.agg G0.cells.toArray, tmps.getD u undef]) w := by
  rw [zc_graph] at hg
  exact results_row_tmp h tmps w g _ _ _ _ hp hg Tryd.underlying83 rfl (graph_sizeG _)

set_option maxHeartbeats 8000000 in
theorem openFew_c {w : World} {v : Value} {o : Prb} {av nv : Value} (h : PrbA w v o av nv) : Calls Tryd.prog 96 #[v] w fun en w' => en = .returned (.tuple #[.agg (ofG o av nv (fewI o)).cells.toArray, .int .i64 (fewI o)]) ∧ New w w' := by
  have HO := Lib.hid (fun (w1 : World) (hn : New w w1) => open_c (h.new hn))
  have HOK := Lib.hid (opR_ok h.sh)
  have HZ1 := Lib.hid built_zero
  rw [← zc_graph] at HZ1
  have hv := h.eq
  obtain ⟨x1, x2, x3, x4, e1, e2⟩ := h.sh
  clear h
  obtain ⟨H, hH⟩ : ∃ H, w.heap.size = H := ⟨_, rfl⟩
  have HH := Lib.hid hH
  by_cases hc : chkI o = 0
  · have hG : opR o av nv = opG o av nv := by unfold opR; rw [if_pos hc]
    rw [hc, hG] at HO
    rw [hG] at HOK
    by_cases u1 : 12 < o.n
    · have hF : fewI o = 2 := by unfold fewI; rw [if_neg (by simpa using hc)]; rw [if_pos u1]
      have hR : ofG o av nv 2 = G0 := by unfold ofG; rw [if_pos hc]; rfl
      rw [hF, hR]
      clear hF hR hc hG
      generalize opG o av nv = RG at *
      subst hv
      subst e1 e2
      have u1' : o.n > 12 := u1
      go_enter Tryd.func96, Tryd.ntmps96
      go_wp2_with (first | (go_at_call 68; (with_reducible refine (HO.out _ ?_).mono ?_); (repeat (first | exact New.refl _ | apply New.alloc)); rintro e w6 ⟨rfl, n6⟩; have HN := Lib.hid ((((New.refl w).alloc _).alloc _).trans n6); have R6 := Lib.hid (two_heap HH.out n6); have c6 := two_cell HH.out n6 0; simp at c6; clear n6) | (refine wpList_store_graph rfl (.tmp 4) (.tmp 9) rfl rfl rfl HOK.out ?_; intro w7 n7 g7; obtain ⟨g, hg⟩ : ∃ g, w6.heap.size = g := ⟨_, rfl⟩; simp only [hg] at g7 ⊢; have N7 := Lib.hid n7; have G7 := Lib.hid g7; have R7 := Lib.hid (row_new R6.out n7); have c7 := (n7.cell (World.block_lt_of_cell? _ _ c6)).trans c6; clear c6 n7 g7) | (refine wpList_built rfl 83 _ rfl _ HZ1.out ?_) | (refine wpList_put_zero rfl (.tmp 2) (.tmp 18) rfl (H + 1) rfl rfl R7.out ?_))
      refine bodyPost_ret (ret_zero rfl _ _ (H + 1) rfl R7.out) rfl ?_
      exact ⟨rfl, HN.out.trans N7.out⟩
    · skip
      have hF : fewI o = 0 := by unfold fewI; rw [if_neg (by simpa using hc)]; rw [if_neg u1]
      have hR : ofG o av nv 0 = opG o av nv := by unfold ofG; rw [if_pos hc]; rfl
      rw [hF, hR]
      clear hF hR hc hG
      generalize opG o av nv = RG at *
      subst hv
      subst e1 e2
      have u1' : ¬ o.n > 12 := u1
      go_enter Tryd.func96, Tryd.ntmps96
      go_wp2_with (first | (go_at_call 68; (with_reducible refine (HO.out _ ?_).mono ?_); (repeat (first | exact New.refl _ | apply New.alloc)); rintro e w6 ⟨rfl, n6⟩; have HN := Lib.hid ((((New.refl w).alloc _).alloc _).trans n6); have R6 := Lib.hid (two_heap HH.out n6); have c6 := two_cell HH.out n6 0; simp at c6; clear n6) | (refine wpList_store_graph rfl (.tmp 4) (.tmp 9) rfl rfl rfl HOK.out ?_; intro w7 n7 g7; obtain ⟨g, hg⟩ : ∃ g, w6.heap.size = g := ⟨_, rfl⟩; simp only [hg] at g7 ⊢; have N7 := Lib.hid n7; have G7 := Lib.hid g7; have R7 := Lib.hid (row_new R6.out n7); have c7 := (n7.cell (World.block_lt_of_cell? _ _ c6)).trans c6; clear c6 n7 g7) | (refine wpList_get_graph rfl (.tmp 4) rfl g rfl G7.out ?_) | (refine wpList_put_graph rfl (.tmp 2) (.tmp 19) rfl (H + 1) rfl rfl HOK.out R7.out ?_))
      refine bodyPost_ret (results_row_tmp rfl _ _ (H + 1) _ _ _ _ rfl (setRow_heap _ _ _ _ _ _ R7.out) Tryd.underlying83 rfl (graph_sizeG _)) rfl ?_
      exact ⟨rfl, (HN.out.trans N7.out).setRow (by rw [HH.out]; omega) _⟩
  · have hG : opR o av nv = G0 := by unfold opR; rw [if_neg hc]
    rw [hG] at HO HOK
    have hF : fewI o = chkI o := by unfold fewI; rw [if_pos hc]
    have hR : ofG o av nv (chkI o) = G0 := by unfold ofG; rw [if_neg hc]
    have he : (chkI o != 0) = true := by simpa using hc
    rw [hF, hR]
    clear hF hR hc hG
    generalize chkI o = E at *
    subst hv
    subst e1 e2
    go_enter Tryd.func96, Tryd.ntmps96
    go_wp2_with (first | (go_at_call 68; (with_reducible refine (HO.out _ ?_).mono ?_); (repeat (first | exact New.refl _ | apply New.alloc)); rintro e w6 ⟨rfl, n6⟩; have HN := Lib.hid ((((New.refl w).alloc _).alloc _).trans n6); have R6 := Lib.hid (two_heap HH.out n6); have c6 := two_cell HH.out n6 0; simp at c6; clear n6) | (refine wpList_store_graph rfl (.tmp 4) (.tmp 9) rfl rfl rfl HOK.out ?_; intro w7 n7 g7; obtain ⟨g, hg⟩ : ∃ g, w6.heap.size = g := ⟨_, rfl⟩; simp only [hg] at g7 ⊢; have N7 := Lib.hid n7; have G7 := Lib.hid g7; have R7 := Lib.hid (row_new R6.out n7); have c7 := (n7.cell (World.block_lt_of_cell? _ _ c6)).trans c6; clear c6 n7 g7) | (refine wpList_built rfl 83 _ rfl _ HZ1.out ?_) | (refine wpList_put_zero rfl (.tmp 2) (.tmp 13) rfl (H + 1) rfl rfl R7.out ?_))
    refine bodyPost_ret (ret_zero rfl _ _ (H + 1) rfl R7.out) rfl ?_
    exact ⟨rfl, HN.out.trans N7.out⟩

set_option maxHeartbeats 8000000 in
theorem openDry_c {w : World} {v : Value} {o : Prb} {av nv : Value} (h : PrbA w v o av nv) (d : Int) : Calls Tryd.prog 122 #[v, .int .i64 d] w fun en w' => en = .returned (.tuple #[.agg (ofG o av nv (dryI o d)).cells.toArray, .int .i64 (dryI o d)]) ∧ New w w' := by
  have HO := Lib.hid (fun (w1 : World) (hn : New w w1) => open_c (h.new hn))
  have HOK := Lib.hid (opR_ok h.sh)
  have HZ1 := Lib.hid built_zero
  rw [← zc_graph] at HZ1
  have hv := h.eq
  obtain ⟨x1, x2, x3, x4, e1, e2⟩ := h.sh
  clear h
  obtain ⟨H, hH⟩ : ∃ H, w.heap.size = H := ⟨_, rfl⟩
  have HH := Lib.hid hH
  by_cases hc : chkI o = 0
  · have hG : opR o av nv = opG o av nv := by unfold opR; rw [if_pos hc]
    rw [hc, hG] at HO
    rw [hG] at HOK
    by_cases u1 : d < 0 ∨ 30 < d
    · have hF : dryI o d = 1 := by unfold dryI; rw [if_neg (by simpa using hc)]; rw [if_pos u1]
      have hR : ofG o av nv 1 = G0 := by unfold ofG; rw [if_pos hc]; rfl
      rw [hF, hR]
      clear hF hR hc hG
      generalize opG o av nv = RG at *
      subst hv
      subst e1 e2
      rcases (show (d < 0) ∨ (¬ d < 0 ∧ d > 30) by omega) with d0 | ⟨d0, d3⟩
      all_goals go_enter Tryd.func122, Tryd.ntmps122
      all_goals go_wp2_with (first | (go_at_call 68; (with_reducible refine (HO.out _ ?_).mono ?_); (repeat (first | exact New.refl _ | apply New.alloc)); rintro e w6 ⟨rfl, n6⟩; have HN := Lib.hid ((((New.refl w).alloc _).alloc _).trans n6); have R6 := Lib.hid (two_heap HH.out n6); have c6 := two_cell HH.out n6 0; simp at c6; clear n6) | (refine wpList_store_graph rfl (.tmp 6) (.tmp 11) rfl rfl rfl HOK.out ?_; intro w7 n7 g7; obtain ⟨g, hg⟩ : ∃ g, w6.heap.size = g := ⟨_, rfl⟩; simp only [hg] at g7 ⊢; have N7 := Lib.hid n7; have G7 := Lib.hid g7; have R7 := Lib.hid (row_new R6.out n7); have c7 := (n7.cell (World.block_lt_of_cell? _ _ c6)).trans c6; clear c6 n7 g7) | (refine wpList_built rfl 83 _ rfl _ HZ1.out ?_) | (refine wpList_put_zero rfl (.tmp 4) (.tmp 23) rfl (H + 1) rfl rfl R7.out ?_))
      all_goals refine bodyPost_ret (ret_zero rfl _ _ (H + 1) rfl R7.out) rfl ?_
      all_goals exact ⟨rfl, HN.out.trans N7.out⟩
    · skip
      have hF : dryI o d = 0 := by unfold dryI; rw [if_neg (by simpa using hc)]; rw [if_neg u1]
      have hR : ofG o av nv 0 = opG o av nv := by unfold ofG; rw [if_pos hc]; rfl
      rw [hF, hR]
      clear hF hR hc hG
      generalize opG o av nv = RG at *
      subst hv
      subst e1 e2
      have d0 : ¬ d < 0 := by omega
      have d3 : ¬ d > 30 := by omega
      go_enter Tryd.func122, Tryd.ntmps122
      go_wp2_with (first | (go_at_call 68; (with_reducible refine (HO.out _ ?_).mono ?_); (repeat (first | exact New.refl _ | apply New.alloc)); rintro e w6 ⟨rfl, n6⟩; have HN := Lib.hid ((((New.refl w).alloc _).alloc _).trans n6); have R6 := Lib.hid (two_heap HH.out n6); have c6 := two_cell HH.out n6 0; simp at c6; clear n6) | (refine wpList_store_graph rfl (.tmp 6) (.tmp 11) rfl rfl rfl HOK.out ?_; intro w7 n7 g7; obtain ⟨g, hg⟩ : ∃ g, w6.heap.size = g := ⟨_, rfl⟩; simp only [hg] at g7 ⊢; have N7 := Lib.hid n7; have G7 := Lib.hid g7; have R7 := Lib.hid (row_new R6.out n7); have c7 := (n7.cell (World.block_lt_of_cell? _ _ c6)).trans c6; clear c6 n7 g7) | (refine wpList_get_graph rfl (.tmp 6) rfl g rfl G7.out ?_) | (refine wpList_put_graph rfl (.tmp 4) (.tmp 24) rfl (H + 1) rfl rfl HOK.out R7.out ?_))
      refine bodyPost_ret (results_row_tmp rfl _ _ (H + 1) _ _ _ _ rfl (setRow_heap _ _ _ _ _ _ R7.out) Tryd.underlying83 rfl (graph_sizeG _)) rfl ?_
      exact ⟨rfl, (HN.out.trans N7.out).setRow (by rw [HH.out]; omega) _⟩
  · have hG : opR o av nv = G0 := by unfold opR; rw [if_neg hc]
    rw [hG] at HO HOK
    have hF : dryI o d = chkI o := by unfold dryI; rw [if_pos hc]
    have hR : ofG o av nv (chkI o) = G0 := by unfold ofG; rw [if_neg hc]
    have he : (chkI o != 0) = true := by simpa using hc
    rw [hF, hR]
    clear hF hR hc hG
    generalize chkI o = E at *
    subst hv
    subst e1 e2
    go_enter Tryd.func122, Tryd.ntmps122
    go_wp2_with (first | (go_at_call 68; (with_reducible refine (HO.out _ ?_).mono ?_); (repeat (first | exact New.refl _ | apply New.alloc)); rintro e w6 ⟨rfl, n6⟩; have HN := Lib.hid ((((New.refl w).alloc _).alloc _).trans n6); have R6 := Lib.hid (two_heap HH.out n6); have c6 := two_cell HH.out n6 0; simp at c6; clear n6) | (refine wpList_store_graph rfl (.tmp 6) (.tmp 11) rfl rfl rfl HOK.out ?_; intro w7 n7 g7; obtain ⟨g, hg⟩ : ∃ g, w6.heap.size = g := ⟨_, rfl⟩; simp only [hg] at g7 ⊢; have N7 := Lib.hid n7; have G7 := Lib.hid g7; have R7 := Lib.hid (row_new R6.out n7); have c7 := (n7.cell (World.block_lt_of_cell? _ _ c6)).trans c6; clear c6 n7 g7) | (refine wpList_built rfl 83 _ rfl _ HZ1.out ?_) | (refine wpList_put_zero rfl (.tmp 4) (.tmp 15) rfl (H + 1) rfl rfl R7.out ?_))
    refine bodyPost_ret (ret_zero rfl _ _ (H + 1) rfl R7.out) rfl ?_
    exact ⟨rfl, HN.out.trans N7.out⟩
end Go.Proofs.YtiejefehcpfkaaaDoor
end
