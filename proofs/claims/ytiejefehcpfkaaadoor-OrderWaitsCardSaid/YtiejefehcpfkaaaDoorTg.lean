/- The patches that no chain connects with another one, as unconnected returns them. Graphs of at most 24 places. · How many places a set has. · The reasons of an order go back: each reason's patch was laid before. Plain lemmas. -/
import Derived.Test.YtiejefehcpfkaaaDoorTd

section
set_option linter.unusedSimpArgs false
set_option linter.unusedVariables false
set_option maxRecDepth 100000
namespace Go.Proofs.YtiejefehcpfkaaaDoor
open Go.RowKit Go.Shelf

attribute [local go_sem] Oper.semAt_some

def unStep (re : Nat → Nat) (p acc q : Nat) : Nat := if (re q).testBit p then wo acc (2 ^ q) else acc
def unTo (re : Nat → Nat) (p s : Nat) (done : List Nat) : Nat := done.foldl (unStep re p) (wo s (re p))
/-- those of s that no chain connects with p -/
def uncN (re : Nat → Nat) (p s : Nat) : Nat := unTo re p s (bitsOf s)
theorem unTo_snoc (re : Nat → Nat) (p s : Nat) (done : List Nat) (q : Nat) : unTo re p s (done ++ [q]) = unStep re p (unTo re p s done) q := by simp [unTo]
theorem unF_le (re : Nat → Nat) (p : Nat) : ∀ (done : List Nat) (acc : Nat), done.foldl (unStep re p) acc ≤ acc
  | [], _ => Nat.le_refl _
  | q :: qs, acc => by
    refine Nat.le_trans (unF_le re p qs _) ?_
    unfold unStep; split
    · exact wo_le _ _
    · exact Nat.le_refl _
theorem unTo_le (re : Nat → Nat) (p s : Nat) (done : List Nat) : unTo re p s done ≤ s := Nat.le_trans (unF_le re p done _) (wo_le _ _)
structure UnI (w : World) (H B : Nat) (G : Gph) (p s : Nat) (done : List Nat) (pc : Option Code) (W : World) : Prop where
  pn : pc = none
  nw : New w W
  gr : Gr W H G
  pb : W.heap[H + 1]? = some (.cells #[.int .i64 (p : Int)] 3 (0, 0))
  fr : W.heap[B]? = some (.cells #[sv (unTo G.re p s done)] 79 (0, 0))

set_option maxHeartbeats 8000000 in
theorem unconnected_c (G : Gph) (p s : Nat) (w : World) (hG : G.ok) (hp : p < 24) (hs : s < 2 ^ 24) (hT : Tab w) : Calls Tryd.prog 104 #[.agg G.cells.toArray, .int .i64 (p : Int), sv s] w fun e w' => e = .returned (sv (uncN G.re p s)) ∧ New w w' := by
  have hs32 : s < 4294967296 := by omega
  have HOK := Lib.hid hG
  have HT := Lib.hid hT
  have HL24 := Lib.hid (fun x (h : x ∈ bitsOf s) => low24 hs h)
  obtain ⟨H, hH⟩ : ∃ H, w.heap.size = H := ⟨_, rfl⟩
  have HH := Lib.hid hH
  obtain ⟨GC, hGC⟩ : ∃ GC, GC = G.cells.toArray := ⟨_, rfl⟩
  rw [← hGC]
  have HGC := Lib.hid hGC
  have HWO := Lib.hid (fun (w1 : World) => (callsIn_wide (n := 4)).2 (without_c s (G.re p) w1 hs32 (hG.re p)))
  have HPC := Lib.hid (fun (w1 : World) => (callsIn_wide (n := 4)).2 (patches_c s w1))
  have p24 : (p : Int) < 24 := by omega
  have e1 : ((w.alloc (.cells GC 83)).alloc (.cells #[.int .i64 (p : Int)] 3)).cell? ⟨H, 27 + p, none⟩ = some (sv (G.re p)) := by
    have hg : Gr ((w.alloc (.cells GC 83)).alloc (.cells #[.int .i64 (p : Int)] 3)) H G := by
      rw [hGC, ← hH]; exact (Gr.box w G).new ((New.refl _).alloc _)
    rw [hg.cell]; exact Gph.at_re _ p hp
  obtain ⟨q1, q2⟩ := alloc3_heap2 w (.cells GC 83) (.cells #[.int .i64 (p : Int)] 3)
  rw [hH] at q1 q2
  have HQ1 := Lib.hid q1
  have HQ2 := Lib.hid q2
  have HN2 := Lib.hid (show New w ((w.alloc (.cells GC 83)).alloc (.cells #[.int .i64 (p : Int)] 3)) from ((New.refl _).alloc _).alloc _)
  clear hG hT hGC q1 q2
  refine (callsIn_wide (n := 5)).1 ?_
  refine callsIn_of_wp_marks Tryd.func104 rfl trivial ?_ rfl
  simp only [Tryd.ntmps104, List.size_toArray, List.length_cons, List.length_nil, Nat.reduceAdd, Nat.reduceSub, Array.replicate_succ, Array.replicate_zero, List.push_toArray, List.append_toArray, List.nil_append, List.cons_append]
  gi_wp2
  refine ⟨trivial, ?_⟩
  gi_at_call 90
  refine (HWO.out _).mono ?_
  rintro e w2 ⟨rfl, n2⟩
  have N2 := Lib.hid n2
  clear n2 e1
  gi_wp2
  refine ⟨trivial, ?_⟩
  gi_at_call 89
  refine (HPC.out _).mono ?_
  rintro e w3 ⟨rfl, rfl⟩
  gi_wp2
  obtain ⟨B, hB⟩ : ∃ B, w2.heap.size = B := ⟨_, rfl⟩
  simp only [hB]
  obtain ⟨WQ, HWQ⟩ : ∃ WQ : World, Hid (WQ = (w2.alloc (.cells #[sv (wo s (G.re p))] 79)).alloc (.cells #[sv s] 79)) := ⟨_, Lib.hid rfl⟩
  rw [← HWQ.out]
  obtain ⟨q3, q4⟩ := alloc3_heap2 w2 (.cells #[sv (wo s (G.re p))] 79) (.cells #[sv s] 79)
  rw [← HWQ.out, hB] at q3 q4
  have hnQ : New w2 WQ := by rw [HWQ.out]; exact ((New.refl _).alloc _).alloc _
  have hzQ : WQ.heap.size = B + 2 := by rw [HWQ.out, ← hB]; simp
  have hHB : H + 2 ≤ B := by have := N2.out.size; simp at this; omega
  have HHB := Lib.hid hHB
  have HI0 := Lib.hid (show UnI w H B G p s [] none WQ from ⟨rfl, HN2.out.trans (N2.out.trans hnQ), by have := row_new (row_new HQ1.out N2.out) hnQ; rw [HGC.out] at this; exact this, row_new (row_new HQ2.out N2.out) hnQ, q3⟩)
  have HTQ := Lib.hid (HT.out.new HI0.out.nw)
  have HTL := Lib.hid (show 0 < H from by have := HT.out.1; rw [HH.out] at this; exact this)
  clear q3 hnQ
  refine range_set (n := 5) (by omega) s (B + 1) hs32 rfl q4 HTQ.out rfl (fun k => k = B) (fun k hk => ⟨by omega, by have := HTL.out; omega⟩) (UnI w H B G p s) ?hI HI0.out ?hbody ?hdone ?hstop
  case hI =>
    rintro done pc W W' ⟨i1, i2, i3, i4, i5⟩ hl
    rw [hzQ] at hl
    exact ⟨i1, i2.low hl (by omega), hl.at (by omega) i3, hl.at (by omega) i4, hl.at (by omega) i5⟩
  case hbody =>
    intro m done x rest W hdd hi hT _ hsz _
    have hx24 := HL24.out x (by rw [← hdd]; simp)
    have hx24' : (x : Int) < 24 := by omega
    have HTo := Lib.hid (unTo_snoc G.re p s done x)
    have hal : unTo G.re p s done < 4294967296 := Nat.lt_of_le_of_lt (unTo_le _ _ _ _) hs32
    clear hdd hi hT hsz
    rw [hzQ]
    gi_wp2
    refine ⟨trivial, ?_⟩
    intro W2 hl2 hs2 hT2 hi2
    have HI2 := Lib.hid hi2
    have e1 : W2.cell? ⟨H, 27 + x, none⟩ = some (sv (G.re x)) := by rw [hi2.gr.cell]; exact Gph.at_re _ x hx24
    have e2 : W2.cell? ⟨H + 1, 0, none⟩ = some (.int .i64 (p : Int)) := (box_cell hi2.pb).1
    have e3 := (box_cell hi2.fr).1
    have hS := And.intro e1 e2
    have HLT := Lib.hid (show H < W2.heap.size ∧ H + 1 < W2.heap.size from ⟨World.block_lt_of_cell? _ _ e1, World.block_lt_of_cell? _ _ e2⟩)
    have HHA := Lib.hid (fun (w1 : World) => has_c (G.re x) p w1 (HOK.out.re x) (by omega))
    clear hl2 hs2 hT2 hi2
    obtain ⟨acc, hacc⟩ : ∃ acc, unTo G.re p s done = acc := ⟨_, rfl⟩
    rw [hacc] at hal e3 HTo
    have HAC := Lib.hid hacc
    clear hacc
    gi_wp2
    apply region_act (fun w' => w'.cell? ⟨H, 27 + x, none⟩ = some (sv (G.re x)) ∧ w'.cell? ⟨H + 1, 0, none⟩ = some (.int .i64 (p : Int))) (fun w' => New W2 w') (by kernel_rfl) (by kernel_rfl) hS
    case h =>
      intro hHeld
      refine wpAnyH_take (i := 0) (oi := { dst := some 18, op := _, type := _, pos := _, after := _, guard := _ }) (v := ?_) rfl (by kernel_rfl) (by kernel_rfl) (by kernel_rfl) (fun _ _ _ h => h) (Or.inl ⟨by rfl, (by intro w hSw; (try dsimp only at hSw); go_simp; try with_reducible rfl)⟩) (by assumption) ?_
      (try simp only [Act.put, List.setIfInBounds_toArray, List.set_cons_zero, List.set_cons_succ])
      refine wpAnyH_take (i := 1) (oi := { dst := some 19, op := _, type := _, pos := _, after := _, guard := _ }) (v := ?_) rfl (by kernel_rfl) (by kernel_rfl) (by kernel_rfl) (fun _ _ _ h => h) (Or.inl ⟨by rfl, (by intro w hSw; (try dsimp only at hSw); go_simp; try with_reducible rfl)⟩) (by assumption) ?_
      (try simp only [Act.put, List.setIfInBounds_toArray, List.set_cons_zero, List.set_cons_succ])
      refine wpAnyH_take (i := 2) (oi := { dst := some 20, op := _, type := _, pos := _, after := _, guard := _ }) (v := ?_) rfl (by kernel_rfl) (by kernel_rfl) (by kernel_rfl) (fun _ _ _ h => h) (Or.inl ⟨by rfl, (by intro w hSw; (try dsimp only at hSw); go_simp; try with_reducible rfl)⟩) (by assumption) ?_
      (try simp only [Act.put, List.setIfInBounds_toArray, List.set_cons_zero, List.set_cons_succ])
      refine wpAnyH_take (i := 3) (oi := { dst := some 21, op := _, type := _, pos := _, after := _, guard := _ }) (v := ?_) rfl (by kernel_rfl) (by kernel_rfl) (by kernel_rfl) (fun _ _ _ h => h) (Or.inl ⟨by rfl, (by intro w hSw; (try dsimp only at hSw); go_simp; try with_reducible rfl)⟩) (by assumption) ?_
      (try simp only [Act.put, List.setIfInBounds_toArray, List.set_cons_zero, List.set_cons_succ])
      refine wpAnyH_take (i := 4) (oi := { dst := some 22, op := _, type := _, pos := _, after := _, guard := _ }) (v := ?_) rfl (by kernel_rfl) (by kernel_rfl) (by kernel_rfl) (fun _ _ _ h => h) (Or.inl ⟨by rfl, (by intro w hSw; (try dsimp only at hSw); go_simp; try with_reducible rfl)⟩) (by assumption) ?_
      (try simp only [Act.put, List.setIfInBounds_toArray, List.set_cons_zero, List.set_cons_succ])
      refine wpAnyH_ready (rs := [5]) (by kernel_rfl) (by simp) ?_
      refine AllReadyH.cons rfl (fun K hK => ?_) AllReadyH.nil
      go_simp
      go_at_call 70
      refine (HHA.out _).mono ?_
      rintro e w6 ⟨rfl, n6⟩
      have N6 := Lib.hid (show New W2 w6 from (New.refl W2).drew.trans n6)
      clear n6
      refine hK.out _ _ ?_ (fun hHeld => ?_)
      · exact ⟨(N6.out.cell HLT.out.1).trans hS.1, (N6.out.cell HLT.out.2).trans hS.2⟩
      clear hK K
      (try simp only [Act.put, List.setIfInBounds_toArray, List.set_cons_zero, List.set_cons_succ])
      refine wpAnyH_done (by kernel_rfl) ?_ _
      exact ⟨rfl, N6.out⟩
    case hq =>
      rintro W3 hn3
      have N3 := Lib.hid hn3
      clear hn3 e1 e2 e3 hS
      cases hb : (G.re x).testBit p
      · have HE := Lib.hid (show unTo G.re p s (done ++ [x]) = acc from by rw [HTo.out]; unfold unStep; rw [hb]; rfl)
        clear hb
        gi_wp2
        refine RoundS.on (Mod.of_new N3.out) ?_
        exact ⟨rfl, HI2.out.nw.trans N3.out, HI2.out.gr.new N3.out, row_new HI2.out.pb N3.out, by rw [HE.out, ← HAC.out]; exact row_new HI2.out.fr N3.out⟩
      · have HE := Lib.hid (show unTo G.re p s (done ++ [x]) = wo acc (2 ^ x) from by rw [HTo.out]; unfold unStep; rw [hb]; rfl)
        obtain ⟨X, hX⟩ : ∃ X, 2 ^ x = X := ⟨_, rfl⟩
        have hX32 : X < 4294967296 := by rw [← hX]; exact pow_lt x (by omega)
        have HSI := Lib.hid (fun (w1 : World) => single_c x w1 (by omega))
        have HWX := Lib.hid (fun (w1 : World) => without_c acc X w1 hal hX32)
        rw [hX] at HE HSI
        have HF3 := Lib.hid (row_new HI2.out.fr N3.out)
        have hS : W3.cell? ⟨B, 0, none⟩ = some (sv acc) := by have := (box_cell HF3.out).1; rw [HAC.out] at this; exact this
        have hBl : B < W3.heap.size := World.block_lt_of_cell? _ _ hS
        clear hb hX
        gi_wp2
        apply region_last 4 (fun w' => w'.cell? ⟨B, 0, none⟩ = some (sv acc)) (fun w' => ∃ W5, New W3 W5 ∧ w' = W5.setCell ⟨B, 0, none⟩ (sv (wo acc X))) (by kernel_rfl) (by kernel_rfl)
        case h =>
          have hHeld := (show W3.drew.cell? ⟨B, 0, none⟩ = some (sv acc) from hS)
          refine G_take (i := 0) (x := { dst := some 24, op := _, type := _, pos := _, after := _, guard := _ }) (v := ?_) rfl (by kernel_rfl) (by kernel_rfl) (by kernel_rfl) (by kernel_rfl) (fun _ _ _ h => h) (Or.inl ⟨by rfl, (by intro w hSw; (try dsimp only at hSw); go_simp; try with_reducible rfl)⟩) hHeld ?_
          (try simp only [Act.put, List.setIfInBounds_toArray, List.set_cons_zero, List.set_cons_succ])
          refine G_take (i := 1) (x := { dst := some 25, op := _, type := _, pos := _, after := _, guard := _ }) (v := ?_) rfl (by kernel_rfl) (by kernel_rfl) (by kernel_rfl) (by kernel_rfl) (fun _ _ _ h => h) (Or.inl ⟨by rfl, (by intro w hSw; (try dsimp only at hSw); go_simp; try with_reducible rfl)⟩) hHeld ?_
          (try simp only [Act.put, List.setIfInBounds_toArray, List.set_cons_zero, List.set_cons_succ])
          refine G_one (i := 2) (x := { dst := some 26, op := _, type := _, pos := _, after := _, guard := _ }) (by kernel_rfl) rfl (by rfl) (fun K hK => ?_)
          go_simp
          go_at_call 91
          refine (HSI.out _).mono ?_
          rintro e w5 ⟨rfl, n5⟩
          have N5 := Lib.hid (show New W3 w5 from (New.refl W3).drew.trans n5)
          clear n5
          have hHeld := (N5.out.cell hBl).trans hS
          refine hK _ _ (.inr hHeld) ?_
          clear hK K
          (try simp only [Act.put, List.setIfInBounds_toArray, List.set_cons_zero, List.set_cons_succ])
          refine G_one (i := 3) (x := { dst := some 27, op := _, type := _, pos := _, after := _, guard := _ }) (by kernel_rfl) rfl (by rfl) (fun K hK => ?_)
          go_simp
          go_at_call 90
          refine (HWX.out _).mono ?_
          rintro e w6 ⟨rfl, n6⟩
          have N6 := Lib.hid (show New W3 w6 from N5.out.trans n6)
          clear n6
          have c6 := (N6.out.cell hBl).trans hS
          have f6 : w6.frozen? ⟨B, 0, none⟩ = false := (box_cell (row_new HF3.out N6.out)).2
          have hHeld := (N6.out.cell hBl).trans hS
          refine hK _ _ (.inr hHeld) ?_
          clear hK K
          (try simp only [Act.put, List.setIfInBounds_toArray, List.set_cons_zero, List.set_cons_succ])
          refine G_one (i := 4) (x := { dst := none, op := _, type := _, pos := _, after := _, guard := _ }) (by kernel_rfl) rfl (by rfl) (fun K hK => ?_)
          go_simp
          refine hK _ _ (.inl rfl) ?_
          clear hK K
          (try simp only [Act.put, List.setIfInBounds_toArray, List.set_cons_zero, List.set_cons_succ])
          refine G_done (by kernel_rfl) ?_ _
          exact ⟨rfl, w6, N6.out, rfl⟩
        case hq =>
          rintro _ ⟨W5, hn5, rfl⟩
          have H5 := Lib.hid hn5
          clear hn5 hS hBl
          gi_wp2
          have hn := N3.out.trans H5.out
          refine RoundS.on ((Mod.of_new hn).trans (Mod.setCell (O := fun k => k = B) _ _ _ _ rfl)) ?_
          have hHB := HHB.out
          refine ⟨rfl, (HI2.out.nw.trans hn).setCell (by rw [HH.out]; show H ≤ B; omega) _, ?_, ?_, ?_⟩
          · exact (heap_setCell_other _ _ _ _ _ (by omega)).trans (HI2.out.gr.new hn)
          · exact (heap_setCell_other _ _ _ _ _ (by omega)).trans (row_new HI2.out.pb hn)
          · rw [HE.out]; exact heap_setCell_same _ _ 0 _ (row_new HI2.out.fr hn)
  case hdone =>
    rw [hzQ]
    rintro W i1 hT hd
    have HN := Lib.hid i1.nw
    have HD := Lib.hid hd
    have e1 : W.cell? ⟨B, 0, none⟩ = some (sv (uncN G.re p s)) := (box_cell i1.fr).1
    clear i1 hT hd
    gi_wp2
    refine leaves_marks [B + 2] W (by simp) (fun D hD => by simp at hD; rw [hD]; exact HD.out) (fun W9 hm => ?_)
    exact ⟨_, results_tmp rfl _ _ _, rfl, Mod.new HN.out hm (fun k hk => by simp at hk; rw [hk, HH.out]; have := HHB.out; omega)⟩
  case hstop =>
    rintro done c W ⟨i1, _⟩
    cases i1
end Go.Proofs.YtiejefehcpfkaaaDoor
end

section
set_option linter.unusedSimpArgs false
set_option linter.unusedVariables false
set_option maxRecDepth 100000
namespace Go.Proofs.YtiejefehcpfkaaaDoor
open Go.RowKit Go.Shelf

attribute [local go_sem] Oper.semAt_some

/-- the ones of a byte -/
def pc8 (i : Nat) : Nat := ((List.range 8).filter fun j => i.testBit j).length
theorem pc8_le (i : Nat) : pc8 i ≤ 8 := by
  have := List.length_filter_le (fun j => i.testBit j) (List.range 8)
  rw [List.length_range] at this; exact this
def popOk (B : ByteArray) : Bool := B.size == 256 && (List.range 256).all fun i => match B.data[i]? with
  | some b => b.toNat == pc8 i
  | none => false
theorem yields_pop {ops : Array Oper} {S : World → Prop} {op : Oper} {a : Act} (B : ByteArray) (hB : popOk B = true) (hw : Region.wanted op (yielded ops a.tmps) = true) (x : Operand) (ho : op.op = .index 9 (.const (.string B)) x) (i : Nat) (hi : i < 256) (hx : a.eval x = .int .u32 (i : Int)) :
    YieldsIf Tryd.prog ops S op (.int .u8 ((pc8 i : Nat) : Int)) a := by
  refine .inl ⟨hw, fun w _ => ?_⟩
  unfold popOk at hB
  rw [Bool.and_eq_true, beq_iff_eq] at hB
  have h1 := List.all_eq_true.1 hB.2 i (List.mem_range.2 hi)
  have hsz : B.data.size = 256 := hB.1
  rw [Array.getElem?_eq_getElem (by omega)] at h1
  have h2 : (B.data[i]'(by omega)).toNat = pc8 i := by simpa using h1
  unfold execOp
  have hr := run_index_string (P := Tryd.prog) w 9 B .u32 (i : Int) Tryd.underlying9
  rw [dif_pos ⟨by omega, by have := hB.1; omega⟩] at hr
  have h3 : (B[(i : Int).toNat]'(by have := hB.1; simp; omega)).toNat = pc8 i := h2
  simp only [ho, hx, show a.eval (.const (.string B)) = Value.string B from rfl, Sem.run_bind, hr, Result.andThen_ok, Sem.run_pure, h3]
theorem filter_shift (s k : Nat) : (((List.range 8).map (· + k)).filter fun j => s.testBit j).length = pc8 (s / 2 ^ k % 256) := by
  rw [List.filter_map, List.length_map]
  unfold pc8
  congr 1
  refine List.filter_congr fun j hj => ?_
  have := List.mem_range.1 hj
  rw [show 256 = 2 ^ 8 from rfl, Nat.testBit_mod_two_pow, Nat.testBit_div_two_pow]
  simp [this]
theorem ones_eq (s : Nat) (hs : s < 4294967296) : (bitsOf s).length = pc8 (s / 16777216) + pc8 (s / 65536 % 256) + pc8 (s / 256 % 256) + pc8 (s % 256) := by
  unfold bitsOf
  have e : List.range 32 = (List.range 8).map (· + 0) ++ (List.range 8).map (· + 8) ++ (List.range 8).map (· + 16) ++ (List.range 8).map (· + 24) := by decide
  rw [e, List.filter_append, List.filter_append, List.filter_append, List.length_append, List.length_append, List.length_append, filter_shift, filter_shift, filter_shift, filter_shift]
  have h1 : s / 2 ^ 24 % 256 = s / 16777216 := by omega
  have h2 : s / 2 ^ 16 % 256 = s / 65536 % 256 := by omega
  have h3 : s / 2 ^ 8 % 256 = s / 256 % 256 := by omega
  have h4 : s / 2 ^ 0 % 256 = s % 256 := by omega
  rw [h1, h2, h3, h4]; omega
theorem and255 (a : Nat) (h : a < 4294967296) : bits BinOp.and IntKind.u32 (a : Int) 255 = ((a % 256 : Nat) : Int) := by
  have := and32 a 255 h (by omega)
  rw [show a &&& 255 = a % 256 from Nat.and_two_pow_sub_one_eq_mod a 8] at this
  exact this

set_option maxHeartbeats 8000000 in
theorem ones_c (s : Nat) (w : World) (hs : s < 4294967296) : Calls Tryd.prog 145 #[sv s] w fun e w' => e = .returned (.int .i64 ((bitsOf s).length : Int)) ∧ New w w' := by
  have HO := Lib.hid (ones_eq s hs)
  have i0 : s / 16777216 < 256 := by omega
  have i1 : s / 65536 % 256 < 256 := by omega
  have i2 : s / 256 % 256 < 256 := by omega
  have i3 : s % 256 < 256 := by omega
  have a1 : bits BinOp.and IntKind.u32 ((s : Int) / 65536) 255 = ((s / 65536 % 256 : Nat) : Int) := and255 (s / 65536) (by omega)
  have a2 : bits BinOp.and IntKind.u32 ((s : Int) / 256) 255 = ((s / 256 % 256 : Nat) : Int) := and255 (s / 256) (by omega)
  have a3 : bits BinOp.and IntKind.u32 (s : Int) 255 = ((s % 256 : Nat) : Int) := and255 s hs
  have b0 := pc8_le (s / 16777216)
  have b1 := pc8_le (s / 65536 % 256)
  have b2 := pc8_le (s / 256 % 256)
  have b3 := pc8_le (s % 256)
  have w1 : IntKind.u8.wrap (((pc8 (s / 16777216) : Nat) : Int) + ((pc8 (s / 65536 % 256) : Nat) : Int)) = ((pc8 (s / 16777216) : Nat) : Int) + ((pc8 (s / 65536 % 256) : Nat) : Int) := IntWalk.u8_in _ (by omega)
  have w2 : IntKind.u8.wrap (((pc8 (s / 16777216) : Nat) : Int) + ((pc8 (s / 65536 % 256) : Nat) : Int) + ((pc8 (s / 256 % 256) : Nat) : Int)) = ((pc8 (s / 16777216) : Nat) : Int) + ((pc8 (s / 65536 % 256) : Nat) : Int) + ((pc8 (s / 256 % 256) : Nat) : Int) := IntWalk.u8_in _ (by omega)
  have w3 : IntKind.u8.wrap (((pc8 (s / 16777216) : Nat) : Int) + ((pc8 (s / 65536 % 256) : Nat) : Int) + ((pc8 (s / 256 % 256) : Nat) : Int) + ((pc8 (s % 256) : Nat) : Int)) = ((pc8 (s / 16777216) : Nat) : Int) + ((pc8 (s / 65536 % 256) : Nat) : Int) + ((pc8 (s / 256 % 256) : Nat) : Int) + ((pc8 (s % 256) : Nat) : Int) := IntWalk.u8_in _ (by omega)
  go_enter Tryd.func145, Tryd.ntmps145
  go_upto_region 1 with fail
  refine wp_region_held_drew (S := fun w' => True) (by kernel_rfl) trivial (fun hHeld => ?_)
  refine wpAnyH_take (i := 0) (oi := { dst := some 3, op := _, type := _, pos := _, after := _, guard := _ }) (v := ?_) rfl (by kernel_rfl) (by kernel_rfl) (by kernel_rfl) (fun _ _ _ h => h) (Or.inl ⟨by rfl, (by intro w hSw; (try dsimp only at hSw); go_simp; try with_reducible rfl)⟩) (by assumption) ?_
  (try simp only [Act.put, List.setIfInBounds_toArray, List.set_cons_zero, List.set_cons_succ])
  refine wpAnyH_take (i := 1) (oi := { dst := some 4, op := _, type := _, pos := _, after := _, guard := _ }) (v := ?_) rfl (by kernel_rfl) (by kernel_rfl) (by kernel_rfl) (fun _ _ _ h => h) (Or.inl ⟨by rfl, (by intro w hSw; (try dsimp only at hSw); go_simp; try with_reducible rfl)⟩) (by assumption) ?_
  (try simp only [Act.put, List.setIfInBounds_toArray, List.set_cons_zero, List.set_cons_succ])
  refine wpAnyH_take (i := 2) (oi := { dst := some 5, op := _, type := _, pos := _, after := _, guard := _ }) (v := .int .u8 ((pc8 (s / 16777216) : Nat) : Int)) rfl (by kernel_rfl) (by kernel_rfl) (by kernel_rfl) (fun _ _ _ h => h) (by exact yields_pop _ (by kernel_rfl) (by rfl) _ rfl (s / 16777216) i0 rfl) (by assumption) ?_
  (try simp only [Act.put, List.setIfInBounds_toArray, List.set_cons_zero, List.set_cons_succ])
  refine wpAnyH_take (i := 3) (oi := { dst := some 6, op := _, type := _, pos := _, after := _, guard := _ }) (v := ?_) rfl (by kernel_rfl) (by kernel_rfl) (by kernel_rfl) (fun _ _ _ h => h) (Or.inl ⟨by rfl, (by intro w hSw; (try dsimp only at hSw); go_simp; try with_reducible rfl)⟩) (by assumption) ?_
  (try simp only [Act.put, List.setIfInBounds_toArray, List.set_cons_zero, List.set_cons_succ])
  refine wpAnyH_take (i := 4) (oi := { dst := some 7, op := _, type := _, pos := _, after := _, guard := _ }) (v := ?_) rfl (by kernel_rfl) (by kernel_rfl) (by kernel_rfl) (fun _ _ _ h => h) (Or.inl ⟨by rfl, (by intro w hSw; (try dsimp only at hSw); go_simp; try with_reducible rfl)⟩) (by assumption) ?_
  (try simp only [Act.put, List.setIfInBounds_toArray, List.set_cons_zero, List.set_cons_succ])
  refine wpAnyH_take (i := 5) (oi := { dst := some 8, op := _, type := _, pos := _, after := _, guard := _ }) (v := ?_) rfl (by kernel_rfl) (by kernel_rfl) (by kernel_rfl) (fun _ _ _ h => h) (Or.inl ⟨by rfl, (by intro w hSw; (try dsimp only at hSw); go_simp; try with_reducible rfl)⟩) (by assumption) ?_
  (try simp only [Act.put, List.setIfInBounds_toArray, List.set_cons_zero, List.set_cons_succ])
  refine wpAnyH_take (i := 6) (oi := { dst := some 9, op := _, type := _, pos := _, after := _, guard := _ }) (v := .int .u8 ((pc8 (s / 65536 % 256) : Nat) : Int)) rfl (by kernel_rfl) (by kernel_rfl) (by kernel_rfl) (fun _ _ _ h => h) (by exact yields_pop _ (by kernel_rfl) (by rfl) _ rfl (s / 65536 % 256) i1 rfl) (by assumption) ?_
  (try simp only [Act.put, List.setIfInBounds_toArray, List.set_cons_zero, List.set_cons_succ])
  refine wpAnyH_take (i := 7) (oi := { dst := some 10, op := _, type := _, pos := _, after := _, guard := _ }) (v := ?_) rfl (by kernel_rfl) (by kernel_rfl) (by kernel_rfl) (fun _ _ _ h => h) (Or.inl ⟨by rfl, (by intro w hSw; (try dsimp only at hSw); go_simp; try with_reducible rfl)⟩) (by assumption) ?_
  (try simp only [Act.put, List.setIfInBounds_toArray, List.set_cons_zero, List.set_cons_succ])
  refine wpAnyH_take (i := 8) (oi := { dst := some 11, op := _, type := _, pos := _, after := _, guard := _ }) (v := ?_) rfl (by kernel_rfl) (by kernel_rfl) (by kernel_rfl) (fun _ _ _ h => h) (Or.inl ⟨by rfl, (by intro w hSw; (try dsimp only at hSw); go_simp; try with_reducible rfl)⟩) (by assumption) ?_
  (try simp only [Act.put, List.setIfInBounds_toArray, List.set_cons_zero, List.set_cons_succ])
  refine wpAnyH_take (i := 9) (oi := { dst := some 12, op := _, type := _, pos := _, after := _, guard := _ }) (v := ?_) rfl (by kernel_rfl) (by kernel_rfl) (by kernel_rfl) (fun _ _ _ h => h) (Or.inl ⟨by rfl, (by intro w hSw; (try dsimp only at hSw); go_simp; try with_reducible rfl)⟩) (by assumption) ?_
  (try simp only [Act.put, List.setIfInBounds_toArray, List.set_cons_zero, List.set_cons_succ])
  refine wpAnyH_take (i := 10) (oi := { dst := some 13, op := _, type := _, pos := _, after := _, guard := _ }) (v := ?_) rfl (by kernel_rfl) (by kernel_rfl) (by kernel_rfl) (fun _ _ _ h => h) (Or.inl ⟨by rfl, (by intro w hSw; (try dsimp only at hSw); go_simp; try with_reducible rfl)⟩) (by assumption) ?_
  (try simp only [Act.put, List.setIfInBounds_toArray, List.set_cons_zero, List.set_cons_succ])
  refine wpAnyH_take (i := 11) (oi := { dst := some 14, op := _, type := _, pos := _, after := _, guard := _ }) (v := .int .u8 ((pc8 (s / 256 % 256) : Nat) : Int)) rfl (by kernel_rfl) (by kernel_rfl) (by kernel_rfl) (fun _ _ _ h => h) (by exact yields_pop _ (by kernel_rfl) (by rfl) _ rfl (s / 256 % 256) i2 rfl) (by assumption) ?_
  (try simp only [Act.put, List.setIfInBounds_toArray, List.set_cons_zero, List.set_cons_succ])
  refine wpAnyH_take (i := 12) (oi := { dst := some 15, op := _, type := _, pos := _, after := _, guard := _ }) (v := ?_) rfl (by kernel_rfl) (by kernel_rfl) (by kernel_rfl) (fun _ _ _ h => h) (Or.inl ⟨by rfl, (by intro w hSw; (try dsimp only at hSw); go_simp; try with_reducible rfl)⟩) (by assumption) ?_
  (try simp only [Act.put, List.setIfInBounds_toArray, List.set_cons_zero, List.set_cons_succ])
  refine wpAnyH_take (i := 13) (oi := { dst := some 16, op := _, type := _, pos := _, after := _, guard := _ }) (v := ?_) rfl (by kernel_rfl) (by kernel_rfl) (by kernel_rfl) (fun _ _ _ h => h) (Or.inl ⟨by rfl, (by intro w hSw; (try dsimp only at hSw); go_simp; try with_reducible rfl)⟩) (by assumption) ?_
  (try simp only [Act.put, List.setIfInBounds_toArray, List.set_cons_zero, List.set_cons_succ])
  refine wpAnyH_take (i := 14) (oi := { dst := some 17, op := _, type := _, pos := _, after := _, guard := _ }) (v := ?_) rfl (by kernel_rfl) (by kernel_rfl) (by kernel_rfl) (fun _ _ _ h => h) (Or.inl ⟨by rfl, (by intro w hSw; (try dsimp only at hSw); go_simp; try with_reducible rfl)⟩) (by assumption) ?_
  (try simp only [Act.put, List.setIfInBounds_toArray, List.set_cons_zero, List.set_cons_succ])
  refine wpAnyH_take (i := 15) (oi := { dst := some 18, op := _, type := _, pos := _, after := _, guard := _ }) (v := .int .u8 ((pc8 (s % 256) : Nat) : Int)) rfl (by kernel_rfl) (by kernel_rfl) (by kernel_rfl) (fun _ _ _ h => h) (by exact yields_pop _ (by kernel_rfl) (by rfl) _ rfl (s % 256) i3 rfl) (by assumption) ?_
  (try simp only [Act.put, List.setIfInBounds_toArray, List.set_cons_zero, List.set_cons_succ])
  refine wpAnyH_take (i := 16) (oi := { dst := some 19, op := _, type := _, pos := _, after := _, guard := _ }) (v := ?_) rfl (by kernel_rfl) (by kernel_rfl) (by kernel_rfl) (fun _ _ _ h => h) (Or.inl ⟨by rfl, (by intro w hSw; (try dsimp only at hSw); go_simp; try with_reducible rfl)⟩) (by assumption) ?_
  (try simp only [Act.put, List.setIfInBounds_toArray, List.set_cons_zero, List.set_cons_succ])
  refine wpAnyH_take (i := 17) (oi := { dst := some 20, op := _, type := _, pos := _, after := _, guard := _ }) (v := ?_) rfl (by kernel_rfl) (by kernel_rfl) (by kernel_rfl) (fun _ _ _ h => h) (Or.inl ⟨by rfl, (by intro w hSw; (try dsimp only at hSw); go_simp; try with_reducible rfl)⟩) (by assumption) ?_
  (try simp only [Act.put, List.setIfInBounds_toArray, List.set_cons_zero, List.set_cons_succ])
  refine wpAnyH_take (i := 18) (oi := { dst := some 2, op := _, type := _, pos := _, after := _, guard := _ }) (v := ?_) rfl (by kernel_rfl) (by kernel_rfl) (by kernel_rfl) (fun _ _ _ h => h) (Or.inl ⟨by rfl, (by intro w hSw; (try dsimp only at hSw); go_simp; try with_reducible rfl)⟩) (by assumption) ?_
  (try simp only [Act.put, List.setIfInBounds_toArray, List.set_cons_zero, List.set_cons_succ])
  refine wpAnyH_done (by kernel_rfl) ?_ _
  have hfin : IntKind.i64.wrap (((pc8 (s / 16777216) : Nat) : Int) + ((pc8 (s / 65536 % 256) : Nat) : Int) + ((pc8 (s / 256 % 256) : Nat) : Int) + ((pc8 (s % 256) : Nat) : Int)) = ((bitsOf s).length : Int) := by
    rw [HO.out]
    have : (((pc8 (s / 16777216) : Nat) : Int) + ((pc8 (s / 65536 % 256) : Nat) : Int) + ((pc8 (s / 256 % 256) : Nat) : Int) + ((pc8 (s % 256) : Nat) : Int)) = ((pc8 (s / 16777216) + pc8 (s / 65536 % 256) + pc8 (s / 256 % 256) + pc8 (s % 256) : Nat) : Int) := by omega
    rw [this]; exact IntWalk.i64_in _ (by omega)
  rw [hfin]
  clear hfin w1 w2 w3 a1 a2 a3
  go_wp2_with fail
  go_ret
  exact ⟨rfl, (New.refl w).drew⟩
theorem size_c (s : Nat) (w : World) (hs : s < 4294967296) : Calls Tryd.prog 111 #[sv s] w fun e w' => e = .returned (.int .i64 ((bitsOf s).length : Int)) ∧ New w w' := by
  have HC := Lib.hid (fun (w1 : World) => ones_c s w1 hs)
  go_enter Tryd.func111, Tryd.ntmps111
  go_wp2_with (go_at_call 145; refine (HC.out _).mono ?_; rintro e w2 ⟨rfl, n2⟩)
  go_ret
  exact ⟨rfl, n2⟩
end Go.Proofs.YtiejefehcpfkaaaDoor
end

section
set_option linter.unusedSimpArgs false
set_option linter.unusedVariables false
set_option maxRecDepth 100000
namespace Go.Proofs.YtiejefehcpfkaaaDoor
open Go.RowKit Go.Shelf

theorem fold_other {dry : Int} {p q : Nat} (hq : q ≠ p) : ∀ (qs : List Nat) (d : Nat → Int), (qs.foldl (stepQ dry p) d) q = d q
  | [], _ => rfl
  | x :: qs, d => by
    show (qs.foldl (stepQ dry p) (stepQ dry p d x)) q = d q
    rw [fold_other hq qs]
    unfold stepQ updI
    rw [if_neg hq]
theorem fold_ge {dry : Int} {p : Nat} : ∀ (qs : List Nat) (d : Nat → Int), d p ≤ (qs.foldl (stepQ dry p) d) p
  | [], _ => Int.le_refl _
  | x :: qs, d => by
    show d p ≤ (qs.foldl (stepQ dry p) (stepQ dry p d x)) p
    refine Int.le_trans ?_ (fold_ge qs _)
    unfold stepQ updI
    rw [if_pos rfl]; omega
theorem er_other {G : Gph} {dry : Int} {l : List Int} {k q : Nat} (hq : q ≠ (nI l k).toNat) : erF G dry l (k + 1) q = erF G dry l k q := by
  simp only [erF]
  rw [fold_other hq]
  split
  · rfl
  · unfold updI; rw [if_neg hq]
theorem er_ge {G : Gph} {dry : Int} {l : List Int} {k : Nat} (hk : k ≠ 0) : erF G dry l k (nI l (k - 1)).toNat + 1 ≤ erF G dry l (k + 1) (nI l k).toNat := by
  simp only [erF]
  rw [if_neg hk]
  refine Int.le_trans ?_ (fold_ge _ _)
  unfold updI; rw [if_pos rfl]; omega
theorem er_zero {G : Gph} {dry : Int} {l : List Int} (q : Nat) : erF G dry l 1 q = 0 := by
  simp only [erF, laidF]
  rw [Nat.and_zero]
  rfl
theorem laid_has {l : List Int} {j : Nat} : ∀ {k : Nat}, j < k → (laidF l k).testBit (nI l j).toNat = true
  | k + 1, h => by
    simp only [laidF, Nat.testBit_or, Bool.or_eq_true]
    by_cases e : j = k
    · subst e; right; rw [Nat.testBit_two_pow]; simp
    · left; exact laid_has (by omega)
theorem io_ne {G : Gph} {l : List Int} (h : ioB G l = true) {j k : Nat} (hj : j < k) (hk : k < l.length) : (nI l j).toNat ≠ (nI l k).toNat := fun e => by
  have hall := ioB_all h (k := k + 1) (by omega)
  rw [all_snoc, Bool.and_eq_true] at hall
  have h2 := hall.2
  unfold okO at h2
  simp only [Bool.and_eq_true, Bool.not_eq_true'] at h2
  have := laid_has (l := l) hj
  rw [e, h2.1.2] at this; cases this
theorem er_keep {G : Gph} {dry : Int} {l : List Int} (h : ioB G l = true) {j : Nat} : ∀ {k : Nat}, j < k → k ≤ l.length → erF G dry l k (nI l j).toNat = erF G dry l (j + 1) (nI l j).toNat
  | k + 1, hj, hk => by
    by_cases e : j = k
    · subst e; rfl
    · rw [er_other (io_ne h (show j < k by omega) (by omega)), er_keep h (by omega) (by omega)]
theorem er_step {G : Gph} {dry : Int} {l : List Int} (h : ioB G l = true) {k : Nat} (hk : k + 1 < l.length) : erF G dry l l.length (nI l k).toNat + 1 ≤ erF G dry l l.length (nI l (k + 1)).toNat := by
  rw [er_keep h (show k < l.length by omega) (Nat.le_refl _), er_keep h hk (Nat.le_refl _)]
  exact er_ge (k := k + 1) (by omega)
theorem er_mono {G : Gph} {dry : Int} {l : List Int} (h : ioB G l = true) {i : Nat} : ∀ {j : Nat}, i < j → j < l.length → erF G dry l l.length (nI l i).toNat < erF G dry l l.length (nI l j).toNat
  | j + 1, hi, hj => by
    have hs := er_step (dry := dry) h hj
    by_cases e : i = j
    · subst e; omega
    · have := er_mono (dry := dry) h (show i < j by omega) (by omega); omega
theorem er_first {G : Gph} {dry : Int} {l : List Int} (h : ioB G l = true) (h0 : 0 < l.length) : erF G dry l l.length (nI l 0).toNat = 0 := by
  rw [er_keep h h0 (Nat.le_refl _)]; exact er_zero _
theorem idx_spec (l : List Int) (x : Int) : ∀ f k, idxG l x f k = -1 ∨ ∃ j : Nat, idxG l x f k = j ∧ k ≤ j ∧ j < k + f ∧ nI l j = x ∧ ∀ i, k ≤ i → i < j → nI l i ≠ x
  | 0, k => .inl rfl
  | f + 1, k => by
    unfold idxG
    split
    · rename_i e; exact .inr ⟨k, rfl, Nat.le_refl _, by omega, e, fun i h1 h2 => by omega⟩
    · rename_i e
      rcases idx_spec l x f (k + 1) with h | ⟨j, h1, h2, h3, h4, h5⟩
      · exact .inl h
      · exact .inr ⟨j, h1, by omega, by omega, h4, fun i h6 h7 => by
          by_cases e2 : i = k
          · rw [e2]; exact e
          · exact h5 i (by omega) h7⟩
theorem nI_take {l : List Int} {i j : Nat} (h : j < i) : nI (l.take i) j = nI l j := by
  unfold nI
  rw [List.getD_eq_getElem?_getD, List.getD_eq_getElem?_getD, List.getElem?_take_of_lt h]
/-- the place at which the search goes on lies before -/
theorem rea_back {G : Gph} {dry : Nat} {l : List Int} (h : ioB G l = true) {i : Nat} (hi : i < l.length) (hd : 0 ≤ (dry : Int)) :
    -1 ≤ idxF l (reaI G dry (l.take (i + 1)) (erF G dry l l.length)).2.1 ∧ idxF l (reaI G dry (l.take (i + 1)) (erF G dry l l.length)).2.1 < i := by
  have hf := ioB_facts h
  have hlen : (l.take (i + 1)).length = i + 1 := by rw [List.length_take]; omega
  have e1 : nI (l.take (i + 1)) ((l.take (i + 1)).length - 1) = nI l i := by rw [hlen]; exact nI_take (by omega)
  obtain ⟨p, hp⟩ : ∃ p : Nat, nI l i = p := ⟨(nI l i).toNat, by have := hf.2 i hi; omega⟩
  have hx : ∀ x, (∀ j : Nat, j < l.length → nI l j = x → (∀ i, i < j → nI l i ≠ x) → j < i) → -1 ≤ idxF l x ∧ idxF l x < i := fun x hx => by
    rcases idx_spec l x l.length 0 with h | ⟨j, h1, h2, h3, h4, h5⟩
    · unfold idxF; rw [h]; omega
    · have := hx j (by omega) h4 (fun i hi => h5 i (by omega) hi)
      unfold idxF; rw [h1]; omega
  unfold reaI
  simp only [e1, hp, Int.toNat_natCast]
  split
  · refine hx _ fun j hj e _ => ?_
    have := hf.2 j hj
    dsimp only at e
    omega
  · rename_i hne
    split
    · rename_i q hq
      have hqq := List.find?_some hq
      simp only [decide_eq_true_eq] at hqq
      refine hx _ fun j hj e _ => ?_
      rcases Nat.lt_or_ge j i with h' | h'
      · exact h'
      · exfalso
        have hj2 : (nI l j).toNat = q := by rw [e]; simp
        have hi2 : (nI l i).toNat = p := by rw [hp]; simp
        rcases Nat.lt_or_ge i j with h'' | h''
        · have := er_mono (dry := (dry : Int)) h h'' hj
          rw [hj2, hi2] at this; omega
        · obtain rfl : j = i := by omega
          have : q = p := by rw [← hj2, hi2]
          rw [this] at hqq; omega
    · have hi0 : i ≠ 0 := fun e => by
        subst e
        apply hne
        have := er_first (dry := (dry : Int)) h hi
        rw [hp] at this; simpa using this
      rw [hlen, nI_take (by omega)]
      refine hx _ fun j hj e hmin => ?_
      rcases Nat.lt_or_ge (i + 1 - 2) j with h' | h'
      · exact absurd rfl (hmin (i + 1 - 2) h')
      · omega
end Go.Proofs.YtiejefehcpfkaaaDoor
end
