/- The fewest lists of a set's places, as match finds them: maN. Sets below 2^24. · How many lists a set's places make. Sets below 2^24. -/
import Derived.Test.YtiejefehcpfkaaaDoorTt

section
set_option linter.unusedSimpArgs false
set_option linter.unusedVariables false
set_option maxRecDepth 100000
namespace Go.Proofs.YtiejefehcpfkaaaDoor
open Go.RowKit Go.Shelf

attribute [local go_sem] Oper.semAt_some

/-- the places next to nothing: the first k are done -/
def mi (k : Nat) : Nat → Int := fun p => if p < k then -1 else 0
theorem mi_step (k : Nat) : updI (mi k) k (-1) = mi (k + 1) := by
  funext p
  unfold updI mi
  by_cases h : p = k
  · subst h; simp
  · rw [if_neg h]
    by_cases h2 : p < k
    · rw [if_pos h2, if_pos (by omega)]
    · rw [if_neg h2, if_neg (by omega)]
theorem iv_all (n : Nat) (d : Nat → Int) : (iv n d).toArray.all (·.oneCell') = true := all_oneCell_toArray fun v hv => by
  simp only [iv, List.mem_map] at hv
  obtain ⟨i, _, rfl⟩ := hv; rfl
theorem iv_congr {n : Nat} {d e : Nat → Int} (h : ∀ p, p < n → d p = e p) : iv n d = iv n e := List.map_congr_left fun p hp => by rw [h p (List.mem_range.1 hp)]
theorem match_size : (Tryd.prog.info? 145).map (·.size) = some 24 := by kernel_rfl
theorem match_sizeV (d : Nat → Int) : (Tryd.prog.info? 145).map (·.size) = some (iv 24 d).toArray.size := by rw [List.size_toArray, iv_len]; exact match_size
theorem Mx.whole {w : World} {b : Nat} {d : Nat → Int} (h : Mx w b d) : w.rangeAt b 0 (iv 24 d) := fun j v hv => by
  have hj : j < 24 := by have := (List.getElem?_eq_some_iff.1 hv).1; rwa [iv_len] at this
  rw [iv_at _ _ _ hj] at hv
  rw [Nat.zero_add, h.at j hj, hv]
/-- what stands in memory while the next places are laid -/
structure MaL (w : World) (H : Nat) (G : Gph) (s k : Nat) (V : World) : Prop where
  nw : New w V
  gr : Gr V H G
  sb : V.heap[H + 1]? = some (.cells #[sv s] 79 (0, 0))
  rs : Mx V (H + 2) (fun _ => 0)
  nx : Mx V (H + 3) (mi k)
  sz : V.heap.size = H + 4
/-- .. between two rounds of match's loop -/
structure MaI (w : World) (c : JB) (H : Nat) (done : List Nat) (pc : Option Code) (V : World) : Prop where
  pn : pc = none
  nw : New w V
  sz : H + 8 ≤ V.heap.size
  js : ∃ se, JSt c ⟨se, (maTo c.G.re c.s done).1⟩ V
  st : V.heap[H + 5]? = some (.cells #[sv (maTo c.G.re c.s done).2] 79 (0, 0))
  rs : Mx V (H + 2) (fun _ => 0)
theorem results_match {fn : Func} {p q : Tmp} (h : fn.results = #[.cell p 145, .tmp q]) (tmps : Array Value) (w : World) (g : Nat) (t : TypeId) (cs : Array Value) (fr : Nat × Nat)
    (hp : tmps.getD p undef = .pointer (some ⟨g, 0, none⟩)) (hg : w.heap[g]? = some (.cells cs t fr)) (hi : (Tryd.prog.info? 145).map (·.size) = some cs.size) :
    (results fn tmps).run Tryd.prog w = .ok (.tuple #[.agg cs, tmps.getD q undef]) w := by
  have hp' : tmps[p]?.getD undef = .pointer (some ⟨g, 0, none⟩) := by simpa using hp
  have hr := run_loadVar_row w g t 145 cs fr _ hg Tryd.underlying145 rfl hi
  simp [results, h, hp', asAddr, hr, Result.andThen]

/-- a drawn region outside of rounds, behind loops over functions -/
theorem region_act0 {P : Program} {n : Nat} {ops : Array Oper} {id : Nat} {a : Act} {w : World} {Q : Exit → Act → World → Prop} (S : World → Prop) {A : Act} (Wp : World → Prop) (hm : P.follows .mixedOrders = true) (hS : S w.drew)
    (h : S w.drew → wpAnyH P .any ops (QN fun a' w' => a' = A ∧ Wp w') S ops.size (Array.replicate ops.size false) a w.drew) (hq : ∀ w', Wp w' → Q .normal A w') : (Code.region id ops true).wpIn Fence.wide n P Q a w :=
  wpIn_mono (wpIn_wide.2 (wp_region_any hm (wpAny_of_held _ _ _ _ (h hS)))) (fun e a' w' h => by
    cases e with
    | normal => obtain ⟨e, hw⟩ := h; rw [e]; exact hq _ hw
    | _ => exact h.elim)
set_option maxHeartbeats 16000000 in
theorem match_c (G : Gph) (s : Nat) (w : World) (hG : G.ok) (hs : s < 2 ^ 24) (hT : Tab w) : Calls Tryd.prog 143 #[.agg G.cells.toArray, sv s] w fun e w' => e = .returned (.tuple #[.agg (iv 24 (maN G.re s).1).toArray, sv (maN G.re s).2]) ∧ New w w' := by
  have hs32 : s < 4294967296 := by omega
  obtain ⟨H, hH⟩ : ∃ H, w.heap.size = H := ⟨_, rfl⟩
  obtain ⟨GC, hGC⟩ : ∃ GC, GC = G.cells.toArray := ⟨_, rfl⟩
  rw [← hGC]
  have HGC := Lib.hid hGC
  have HH := Lib.hid hH
  have HG := Lib.hid hG
  have HT := Lib.hid hT
  have HS24 := Lib.hid hs
  have HTB := Lib.hid (show 0 < H from by rw [← hH]; exact hT.1)
  have HPC := Lib.hid (fun (w1 : World) => (callsIn_wide (n := 4)).2 (patches_c s w1))
  clear hG hT hs hGC
  refine (callsIn_wide (n := 5)).1 ?_
  refine callsIn_of_wp_marks Tryd.func143 rfl trivial ?_ rfl
  simp only [Tryd.ntmps143, List.size_toArray, List.length_cons, List.length_nil, Nat.reduceAdd, Nat.reduceSub, Array.replicate_succ, Array.replicate_zero, List.push_toArray, List.append_toArray, List.nil_append, List.cons_append]
  gi_wp2
  gi_loopw [12] (fun v wr => ∃ k : Nat, v = .int .i64 (k : Int) ∧ k ≤ 24 ∧ MaL w H G s k wr) (fun v _ => (24 - intOf v).toNat)
  case atStart =>
    obtain ⟨a1, a2, a3, a4, a5⟩ := alloc4_heap w (.cells GC 83) (.cells #[sv s] 79) (.cells (iv 24 fun _ => 0).toArray 145) (.cells (iv 24 fun _ => 0).toArray 145) H HH.out
    have e0 : iv 24 (mi 0) = iv 24 (fun _ => 0) := iv_congr fun p _ => by unfold mi; rw [if_neg (by omega)]
    rw [HGC.out] at a1
    exact ⟨0, rfl, by omega, (((New.refl _).alloc _).alloc _).alloc _ |>.alloc _, by rw [HGC.out]; exact a1, a2, a3, by unfold Mx; rw [e0]; exact a4, a5⟩
  case round =>
    obtain ⟨k, rfl, hk, hl⟩ := hrel
    have HL := Lib.hid hl
    by_cases hk2 : k < 24
    · have e1 := hl.nx.at k hk2
      have e2 := hl.nx.froz k
      have ht : (k : Int) < 24 := by omega
      clear hl
      gi_wp2
      go_roundw
      case rel =>
        have h := HL.out
        have hz : ∀ v, (wr.setCell ⟨H + 3, k, none⟩ v).heap.size = wr.heap.size := fun v => by simp [go_sem]
        refine ⟨k + 1, by go_num, by omega, h.nw.setCell (by rw [HH.out]; show H ≤ H + 3; omega) _, (heap_setCell_other _ _ _ _ _ (by omega)).trans h.gr, (heap_setCell_other _ _ _ _ _ (by omega)).trans h.sb, (heap_setCell_other _ _ _ _ _ (by omega)).trans h.rs, ?_, by rw [hz]; exact h.sz⟩
        have := h.nx.put k (-1)
        rw [mi_step] at this
        exact this
      case measure => simp [intOf]; omega
    · have ht : ¬ ((k : Int) < 24) := by omega
      obtain rfl : k = 24 := by omega
      have hz := hl.sz
      have hn4 : New wr (((wr.alloc (.cells #[.int .u32 0] 79)).alloc (.cells #[.int .u32 0] 79)).alloc (.cells #[.func (.func 156) #[] #[.pointer (some ⟨H + 1, 0, none⟩), .pointer (some ⟨H + 4, 0, none⟩), .pointer (some ⟨H, 0, none⟩), .pointer (some ⟨H + 3, 0, none⟩), .pointer (some ⟨H + 6, 0, none⟩)]] 86)) := (((New.refl _).alloc _).alloc _).alloc _
      have e0 := (box_cell (row_new hl.sb hn4)).1
      clear hl hn4 hk hk2
      gi_wp2
      obtain ⟨WS, HWS⟩ : ∃ WS : World, Hid (WS = ((wr.alloc (.cells #[.int .u32 0] 79)).alloc (.cells #[.int .u32 0] 79)).alloc (.cells #[.func (.func 156) #[] #[.pointer (some ⟨H + 1, 0, none⟩), .pointer (some ⟨H + 4, 0, none⟩), .pointer (some ⟨H, 0, none⟩), .pointer (some ⟨H + 3, 0, none⟩), .pointer (some ⟨H + 6, 0, none⟩)]] 86)) := ⟨_, Lib.hid rfl⟩
      refine ⟨trivial, ?_⟩
      gi_at_call 89
      refine (HPC.out _).mono ?_
      rintro e w3 ⟨rfl, rfl⟩
      clear e0
      gi_wp2
      obtain ⟨WQ, HWQ⟩ : ∃ WQ : World, Hid (WQ = WS.alloc (.cells #[sv s] 79)) := ⟨_, Lib.hid rfl⟩
      rw [HWS.out] at HWQ
      rw [← HWQ.out]
      rw [← HWS.out] at HWQ
      obtain ⟨p1, p2, p3, p4, p5⟩ : WQ.heap[H + 4]? = some (.cells #[.int .u32 0] 79 (0, 0)) ∧ WQ.heap[H + 5]? = some (.cells #[.int .u32 0] 79 (0, 0)) ∧ WQ.heap[H + 6]? = some (.cells #[.func (.func 156) #[] #[.pointer (some ⟨H + 1, 0, none⟩), .pointer (some ⟨H + 4, 0, none⟩), .pointer (some ⟨H, 0, none⟩), .pointer (some ⟨H + 3, 0, none⟩), .pointer (some ⟨H + 6, 0, none⟩)]] 86 (0, 0)) ∧ WQ.heap[H + 7]? = some (.cells #[sv s] 79 (0, 0)) ∧ WQ.heap.size = H + 8 := by
        rw [HWQ.out, HWS.out]
        exact alloc4_heap wr _ _ _ _ (H + 4) hz
      have hnQ : New wr WQ := by rw [HWQ.out, HWS.out]; exact ((((New.refl _).alloc _).alloc _).alloc _).alloc _
      obtain ⟨c, hc⟩ : ∃ c : JB, c = ⟨H + 1, H + 4, H, H + 3, H + 6, s, G⟩ := ⟨_, rfl⟩
      have HCo := Lib.hid (show c.ok from by
        have h2 := HTB.out
        rw [hc]
        exact ⟨HS24.out, HG.out, by dsimp only; omega, by dsimp only; omega, by dsimp only; omega, by dsimp only; omega⟩)
      have HI0 := Lib.hid (show MaI w c H [] none WQ from by
        refine ⟨rfl, HL.out.nw.trans hnQ, by omega, ⟨0, ?_⟩, p2, row_new HL.out.rs hnQ⟩
        rw [hc]
        refine ⟨row_new HL.out.sb hnQ, HL.out.gr.new hnQ, p1, ?_, p3, HT.out.new (HL.out.nw.trans hnQ)⟩
        have h := row_new HL.out.nx hnQ
        have e0 : iv 24 (mi 24) = iv 24 (fun _ => -1) := iv_congr fun p hp => by unfold mi; rw [if_pos hp]
        rw [e0] at h
        exact h)
      have HCE := Lib.hid hc
      have HTQ := Lib.hid (HT.out.new HI0.out.nw)
      clear p1 p2 p3 hnQ hz hc
      refine range_set (n := 5) (by omega) s (H + 7) hs32 rfl p4 HTQ.out rfl (fun k => k = H + 3 ∨ k = H + 4 ∨ k = H + 5) (fun k hk => ⟨by omega, by have := HTB.out; omega⟩) (MaI w c H) ?hI HI0.out ?hbody ?hdone ?hstop
      case hI =>
        rintro done pc V V' ⟨i1, i2, i3, ⟨se, i4⟩, i5, i6⟩ hl
        rw [p5] at hl
        have h2 := HTB.out
        refine ⟨i1, i2.low hl (by omega), Nat.le_trans i3 hl.bl.size, ⟨se, i4.low hl ?_ (by omega)⟩, hl.at (by omega) i5, hl.at (by omega) i6⟩
        rw [HCE.out]; dsimp only; omega
      case hbody =>
        intro m done x rest V hdd hi hT _ hsz _
        have hx24 := low24 HS24.out (show x ∈ bitsOf s by rw [← hdd]; simp)
        have HTo := Lib.hid (maTo_snoc c.G.re c.s done x)
        have hmok := maTo_ok (re := c.G.re) HCo.out.s24 done (x :: rest) (by rw [HCE.out]; exact hdd)
        obtain ⟨⟨D, st⟩, hD⟩ : ∃ r, maTo c.G.re c.s done = r := ⟨_, rfl⟩
        rw [hD] at hmok HTo
        have HDD := Lib.hid hD
        have HMOK := Lib.hid hmok
        clear hdd hi hT hsz hD hmok
        rw [p5]
        gi_wp2
        (try refine ⟨trivial, ?_⟩)
        intro V2 hl2 hs2 hT2 hi2
        obtain ⟨_, i2, i3, ⟨se, i4⟩, i5, i6⟩ := hi2
        rw [HDD.out] at i4 i5
        dsimp only at i4 i5
        have HN2 := Lib.hid i2
        have HJ2 := Lib.hid i4
        have HST2 := Lib.hid i5
        have HRS2 := Lib.hid i6
        have HZ2 := Lib.hid i3
        have c4 := (box_cell i4.se)
        clear hl2 hs2 hT2 i2 i3 i4 i5 i6
        rw [HCE.out] at c4
        obtain ⟨V3, hV3⟩ : ∃ V3, V3 = V2.setCell ⟨H + 4, 0, none⟩ (.int .u32 0) := ⟨_, rfl⟩
        have hj3 : JSt c ⟨0, D⟩ V3 := by
          have := HJ2.out.see HCo.out 0
          rw [show c.sn = H + 4 from by rw [HCE.out]] at this
          rw [hV3]; exact this
        have hm3 : Mod (fun k => k = H + 4) V2 V3 := by rw [hV3]; exact Mod.setCell _ _ _ _ rfl
        have h6 : V3.cell? ⟨H + 6, 0, none⟩ = some c.fv := by have := (box_cell hj3.js).1; rw [show c.jb = H + 6 from by rw [HCE.out]] at this; exact this
        unfold JB.fv at h6
        rw [HCE.out] at h6
        rw [hV3] at h6
        obtain ⟨⟨b, R⟩, hbR⟩ : ∃ r, joN c.G.re c.s 25 x ⟨0, D⟩ = r := ⟨_, rfl⟩
        have HCALL := Lib.hid (show CallsIn (Fence.wide.inRound (H + 8 + 1)) (m - 1) Tryd.prog 156 #[.int .i64 (x : Int), .pointer (some ⟨H + 1, 0, none⟩), .pointer (some ⟨H + 4, 0, none⟩), .pointer (some ⟨H, 0, none⟩), .pointer (some ⟨H + 3, 0, none⟩), .pointer (some ⟨H + 6, 0, none⟩)] V3 (fun e W' => e = .returned (.bool b) ∧ Mod (jm c) V3 W' ∧ JSt c R W') from by
          have h := join_in c HCo.out 25 x ⟨0, D⟩ V3 hx24 ⟨by show 0 < 2 ^ 24; omega, HMOK.out.1⟩ (by have := nf_le (s := c.s) (a := 0) HCo.out.s24 (by omega); show nf c.s 0 < 25; omega) hj3
          unfold JoR at h
          rw [hbR] at h
          refine CallsIn.inRound (H + 8 + 1) ((callsIn_wide (n := m - 1)).2 ?_)
          have e : ∀ k, k = c → (JB.mk (H + 1) (H + 4) H (H + 3) (H + 6) s G).sb = H + 1 := fun _ _ => rfl
          have h' := h
          rw [show c.sb = H + 1 from by rw [HCE.out], show c.sn = H + 4 from by rw [HCE.out], show c.gb = H from by rw [HCE.out], show c.nb = H + 3 from by rw [HCE.out], show c.jb = H + 6 from by rw [HCE.out]] at h'
          exact h')
        have HST3 := Lib.hid (show V3.heap[H + 5]? = some (.cells #[sv st] 79 (0, 0)) from by rw [hV3]; exact (heap_setCell_other _ _ _ _ _ (by omega)).trans HST2.out)
        have HRS3 := Lib.hid (show Mx V3 (H + 2) (fun _ => 0) from by rw [hV3]; exact (heap_setCell_other _ _ _ _ _ (by omega)).trans HRS2.out)
        have HM3 := Lib.hid hm3
        rw [hV3] at HCALL
        have HV3 := Lib.hid hV3
        have HTo2 := Lib.hid (show maTo c.G.re c.s (done ++ [x]) = (R.next, if b then st else st ||| 2 ^ x) from by rw [HTo.out]; unfold maStep; dsimp only; rw [hbR])
        clear hV3 hj3 hm3 hbR
        gi_wp2
        refine ⟨trivial, fun h => by simp [Fence.wide] at h, ?_⟩
        refine HCALL.out.mono ?_
        rintro e w7 ⟨rfl, m7, j7⟩
        rw [← HV3.out] at m7
        have m27 : Mod (fun k => k = H + 3 ∨ k = H + 4) V2 w7 := (HM3.out.mono fun k hk => .inr hk).trans (m7.mono fun k hk => by unfold jm at hk; rw [HCE.out] at hk; dsimp only at hk; omega)
        have M7 := Lib.hid m27
        have J7 := Lib.hid j7
        have HS7 := Lib.hid (show w7.heap[H + 5]? = some (.cells #[sv st] 79 (0, 0)) from (m27.2 (H + 5) (by have := HZ2.out; omega) (by omega)).trans HST2.out)
        have HR7 := Lib.hid (show Mx w7 (H + 2) (fun _ => 0) from (m27.2 (H + 2) (by have := HZ2.out; omega) (by omega)).trans HRS2.out)
        have HN7 := Lib.hid (Mod.new HN2.out m27 (fun k hk => by rw [HH.out]; omega))
        clear m7 m27 j7 c4 h6
        cases b
        case true =>
          simp only [if_true] at HTo2
          gi_wp2
          refine RoundS.on (M7.out.mono fun k hk => hk.elim .inl (fun h => .inr (.inl h))) ?_
          exact ⟨rfl, HN7.out, Nat.le_trans HZ2.out M7.out.size, ⟨R.seen, by rw [HTo2.out]; exact J7.out⟩, by rw [HTo2.out]; exact HS7.out, HR7.out⟩
        case false =>
          simp only [Bool.false_eq_true, if_false] at HTo2
          obtain ⟨X, hX⟩ : ∃ X, 2 ^ x = X := ⟨_, rfl⟩
          have hX32 : X < 4294967296 := by rw [← hX]; exact pow_lt x (by omega)
          have HSI := Lib.hid (fun (w1 : World) => single_c x w1 (by omega))
          rw [hX] at HSI HTo2
          have HORR := Lib.hid (or32 st X (by have h9 := HMOK.out.2; (try dsimp only at h9); omega) hX32)
          have hS : w7.cell? ⟨H + 5, 0, none⟩ = some (sv st) := (box_cell HS7.out).1
          have hBl : H + 5 < w7.heap.size := World.block_lt_of_cell? _ _ hS
          clear hX
          gi_wp2
          apply region_last 4 (fun w' => w'.cell? ⟨H + 5, 0, none⟩ = some (sv st)) (fun w' => ∃ W5, New w7 W5 ∧ w' = W5.setCell ⟨H + 5, 0, none⟩ (sv (st ||| X))) (by kernel_rfl) (by kernel_rfl)
          case h =>
            have hHeld := (show w7.drew.cell? ⟨H + 5, 0, none⟩ = some (sv st) from hS)
            refine G_take (i := 0) (x := { dst := some 26, op := _, type := _, pos := _, after := _, guard := _ }) (v := ?_) rfl (by kernel_rfl) (by kernel_rfl) (by kernel_rfl) (by kernel_rfl) (fun _ _ _ h => h) (Or.inl ⟨by rfl, (by intro w hSw; (try dsimp only at hSw); go_simp; try with_reducible rfl)⟩) hHeld ?_
            (try simp only [Act.put, List.setIfInBounds_toArray, List.set_cons_zero, List.set_cons_succ])
            refine G_take (i := 1) (x := { dst := some 27, op := _, type := _, pos := _, after := _, guard := _ }) (v := ?_) rfl (by kernel_rfl) (by kernel_rfl) (by kernel_rfl) (by kernel_rfl) (fun _ _ _ h => h) (Or.inl ⟨by rfl, (by intro w hSw; (try dsimp only at hSw); go_simp; try with_reducible rfl)⟩) hHeld ?_
            (try simp only [Act.put, List.setIfInBounds_toArray, List.set_cons_zero, List.set_cons_succ])
            refine G_one (i := 2) (x := { dst := some 28, op := _, type := _, pos := _, after := _, guard := _ }) (by kernel_rfl) rfl (by rfl) (fun K hK => ?_)
            go_simp
            go_at_call 91
            refine (HSI.out _).mono ?_
            rintro e w5 ⟨rfl, n5⟩
            have N5 := Lib.hid (show New w7 w5 from (New.refl w7).drew.trans n5)
            clear n5
            have f6 : w5.frozen? ⟨H + 5, 0, none⟩ = false := (box_cell (row_new HS7.out N5.out)).2
            have c6 := (N5.out.cell hBl).trans hS
            have hHeld := (N5.out.cell hBl).trans hS
            refine hK _ _ (.inr hHeld) ?_
            clear hK K
            (try simp only [Act.put, List.setIfInBounds_toArray, List.set_cons_zero, List.set_cons_succ])
            refine G_take (i := 3) (x := { dst := some 29, op := _, type := _, pos := _, after := _, guard := _ }) (v := ?_) rfl (by kernel_rfl) (by kernel_rfl) (by kernel_rfl) (by kernel_rfl) (fun _ _ _ h => h) (Or.inl ⟨by rfl, (by intro w hSw; (try dsimp only at hSw); go_simp; try with_reducible rfl)⟩) hHeld ?_
            (try simp only [Act.put, List.setIfInBounds_toArray, List.set_cons_zero, List.set_cons_succ])
            refine G_one (i := 4) (x := { dst := none, op := _, type := _, pos := _, after := _, guard := _ }) (by kernel_rfl) rfl (by rfl) (fun K hK => ?_)
            go_simp
            refine hK _ _ (.inl rfl) ?_
            clear hK K
            (try simp only [Act.put, List.setIfInBounds_toArray, List.set_cons_zero, List.set_cons_succ])
            refine G_done (by kernel_rfl) ?_ _
            exact ⟨rfl, w5, N5.out, congrArg (fun v => World.setCell w5 ⟨H + 5, 0, none⟩ (Value.int .u32 v)) HORR.out⟩
          case hq =>
            rintro _ ⟨W5, hn5, rfl⟩
            have H5 := Lib.hid hn5
            clear hn5 hS hBl
            gi_wp2
            have h2 := HTB.out
            refine RoundS.on (((M7.out.trans (Mod.of_new H5.out)).mono fun k hk => hk.elim .inl (fun h => .inr (.inl h))).trans (Mod.setCell _ _ _ _ (.inr (.inr rfl)))) ?_
            have hz5 : ∀ v, (W5.setCell ⟨H + 5, 0, none⟩ v).heap.size = W5.heap.size := fun v => by simp [go_sem]
            refine ⟨rfl, (HN7.out.trans H5.out).setCell (by rw [HH.out]; show H ≤ H + 5; omega) _, by rw [hz5]; exact Nat.le_trans HZ2.out (Nat.le_trans M7.out.size H5.out.size), ⟨R.seen, ?_⟩, ?_, (heap_setCell_other _ _ _ _ _ (by omega)).trans (row_new HR7.out H5.out)⟩
            · rw [HTo2.out]
              exact (J7.out.new H5.out).other (H + 5) 0 _ (by rw [HCE.out]; dsimp only; omega) (by omega)
            · rw [HTo2.out]
              exact heap_setCell_same _ _ 0 _ (row_new HS7.out H5.out)
      case hdone =>
        rw [p5]
        rintro V hi hT hd
        obtain ⟨_, i2, i3, ⟨se, i4⟩, i5, i6⟩ := hi
        obtain ⟨⟨D, st⟩, hD⟩ : ∃ r, maTo c.G.re c.s (bitsOf s) = r := ⟨_, rfl⟩
        rw [hD] at i4 i5
        dsimp only at i4 i5
        have HMA := Lib.hid (show maN G.re s = (D, st) from by rw [maN_to, ← hD, HCE.out])
        have HN2 := Lib.hid i2
        have HDD := Lib.hid hd
        have HRS := Lib.hid i6
        have h3 : Mx V (H + 3) D := by have := i4.ne; rw [show c.nb = H + 3 from by rw [HCE.out]] at this; exact this
        have h5 := (box_cell i5).1
        have HZ := Lib.hid i3
        have HNX := Lib.hid h3
        have hS : Mx V.drew (H + 3) D ∧ V.drew.cell? ⟨H + 5, 0, none⟩ = some (sv st) := ⟨h3, h5⟩
        have HSS := Lib.hid hS
        clear hT hd i2 i3 i4 i5 i6 hD h3 h5 hS
        gi_wp2
        have hS := HSS.out
        apply region_act0 (fun w' => Mx w' (H + 3) D ∧ w'.cell? ⟨H + 5, 0, none⟩ = some (sv st)) (fun w' => w' = V.drew.setRow (H + 2) (iv 24 D).toArray) (by kernel_rfl) hS
        case h =>
          intro hHeld
          refine wpAnyH_take (i := 0) rfl (by kernel_rfl) (by kernel_rfl) (by kernel_rfl) (fun _ _ _ h => h) (yieldsIf_load_mid (by rfl) 145 (.tmp 6) rfl (H + 3) 0 rfl (iv 24 D) _ (fun w hw => hw.1.whole) Tryd.underlying145 rfl (by rw [iv_len]; exact match_size)) (by assumption) ?_
          (try simp only [Act.put, List.setIfInBounds_toArray, List.set_cons_zero, List.set_cons_succ])
          refine wpAnyH_take (i := 1) (oi := { dst := some 31, op := _, type := _, pos := _, after := _, guard := _ }) (v := ?_) rfl (by kernel_rfl) (by kernel_rfl) (by kernel_rfl) (fun _ _ _ h => h) (Or.inl ⟨by rfl, (by intro w hSw; (try dsimp only at hSw); obtain ⟨hSa, hSb⟩ := hSw; go_simp; try with_reducible rfl)⟩) (by assumption) ?_
          (try simp only [Act.put, List.setIfInBounds_toArray, List.set_cons_zero, List.set_cons_succ])
          refine wpAnyH_ready (rs := [2]) (by kernel_rfl) (by simp) ?_
          refine AllReadyH.cons rfl (fun K hK => ?_) AllReadyH.nil
          refine wp_store_row 145 (.tmp 4) (.tmp 30) rfl (H + 2) (iv 24 D).toArray rfl rfl 145 _ (show V.drew.heap[H + 2]? = _ from HRS.out) (match_sizeV _) (by simp [iv_len]) (iv_all _ _) ?_
          have hMR := Mod.setRow V.drew (H + 2) (iv 24 D).toArray
          refine hK.out _ _ ?_ (fun hHeld => ?_)
          · have h3 := (hMR.2 (H + 3) (show H + 3 < V.heap.size by have := HZ.out; omega) (by omega)).trans (show V.drew.heap[H + 3]? = _ from HNX.out)
            have h5 := HSS.out.2
            refine ⟨h3, ?_⟩
            have e5 := hMR.2 (H + 5) (show H + 5 < V.heap.size by have := HZ.out; omega) (by omega)
            simp only [World.cell?] at h5 ⊢
            rw [e5]; exact h5
          clear hK K
          (try simp only [Act.put, List.setIfInBounds_toArray, List.set_cons_zero, List.set_cons_succ])
          refine wpAnyH_take (i := 3) (oi := { dst := some 5, op := _, type := _, pos := _, after := _, guard := _ }) (v := ?_) rfl (by kernel_rfl) (by kernel_rfl) (by kernel_rfl) (fun _ _ _ h => h) (Or.inl ⟨by rfl, (by intro w hSw; (try dsimp only at hSw); obtain ⟨hSa, hSb⟩ := hSw; go_simp; try with_reducible rfl)⟩) (by assumption) ?_
          (try simp only [Act.put, List.setIfInBounds_toArray, List.set_cons_zero, List.set_cons_succ])
          refine wpAnyH_done (by kernel_rfl) ?_ _
          exact ⟨rfl, rfl⟩
        case hq =>
        rintro V9 hV9
        have hMR := Mod.setRow V.drew (H + 2) (iv 24 D).toArray
        have HR9 := Lib.hid (show Mx V9 (H + 2) D from by rw [hV9]; exact setRow_heap _ _ _ _ _ _ (show V.drew.heap[H + 2]? = _ from HRS.out))
        have HM9 := Lib.hid (show Mod (fun q => q = H + 2) V V9 from by rw [hV9]; exact (Mod.of_new (New.refl V).drew).trans hMR)
        clear hV9 hMR hS
        gi_wp2
        refine leaves_marks [H + 8] _ (by simp) (fun q hq => ?_) (fun W9 hm => ?_)
        · simp at hq; rw [hq]; exact (HM9.out.2 (H + 8) (Array.getElem?_eq_some_iff.1 HDD.out).1 (by omega)).trans HDD.out
        · have h2 := HTB.out
          have hX : Mod (fun k => k = H + 2 ∨ k = H + 8) V W9 := (HM9.out.mono fun k hk => .inl hk).trans (hm.mono fun q hq => .inr (by simpa using hq))
          have hr9 : Mx W9 (H + 2) D := (hm.2 (H + 2) (Array.getElem?_eq_some_iff.1 HR9.out).1 (fun h => by simp at h)).trans HR9.out
          refine ⟨_, results_match rfl _ _ (H + 2) _ _ _ rfl hr9 (match_sizeV _), ?_⟩
          exact ⟨by rw [HMA.out]; rfl, Mod.new HN2.out hX (fun k hk => by rw [HH.out]; omega)⟩
      case hstop =>
        rintro done pc V hi _ _ _
        have := hi.pn
        cases this
end Go.Proofs.YtiejefehcpfkaaaDoor
end

section
set_option linter.unusedSimpArgs false
set_option linter.unusedVariables false
set_option maxRecDepth 100000
namespace Go.Proofs.YtiejefehcpfkaaaDoor
open Go.RowKit Go.Shelf

attribute [local go_sem] Oper.semAt_some

section
variable {ops : Array Oper} {rest : List Oper} {o : Oper} {a : Act} {w : World} {Q : Exit → Act → World → Prop}
/-- a matching goes into a block that was just made for it -/
theorem wpList_store_match (hgd : o.guard = none) (x y : Operand) (ho : o.op = .store 145 x y) {d : Nat → Int} (hx : a.eval x = .pointer (some ⟨w.heap.size, 0, none⟩)) (hy : a.eval y = .agg (iv 24 d).toArray)
    (h : ∀ w', New w w' → wpList Tryd.prog ops Q rest (a.put o.dst undef) w') : wpList Tryd.prog ops Q (o :: rest) a (w.alloc (.cells (iv 24 fun _ => 0).toArray 145)) := by
  refine wpList_store_row hgd _ x y ho w.heap.size _ hx hy _ _ (World.alloc_heap_new w _) (match_sizeV _) (by simp [iv_len]) (iv_all _ _) (h _ ?_)
  exact ((New.refl w).alloc _).setRow (Nat.le_refl _) _
end
set_option maxHeartbeats 8000000 in
theorem width_c (G : Gph) (s : Nat) (w : World) (hG : G.ok) (hs : s < 2 ^ 24) (hT : Tab w) : Calls Tryd.prog 103 #[.agg G.cells.toArray, sv s] w fun e w' => e = .returned (.int .i64 (widN G.re s : Int)) ∧ New w w' := by
  obtain ⟨H, hH⟩ : ∃ H, w.heap.size = H := ⟨_, rfl⟩
  have HG1 := Lib.hid (show Gr (w.alloc (.cells G.cells.toArray 83)) H G from by rw [← hH]; exact Gr.box w G)
  have HMA := Lib.hid (fun (w1 : World) (hn : New w w1) => match_c G s w1 hG hs (hT.new hn))
  have hst := (maTo_ok (re := G.re) hs (bitsOf s) [] (by simp)).2
  rw [← maN_to] at hst
  have HW := Lib.hid (show widN G.re s = (bitsOf (maN G.re s).2).length from rfl)
  obtain ⟨⟨D, st⟩, hD⟩ : ∃ r, maN G.re s = r := ⟨_, rfl⟩
  rw [hD] at HMA HW hst
  dsimp only at HMA HW hst
  have HSZ := Lib.hid (fun (w1 : World) => size_c st w1 (by omega))
  obtain ⟨wd, hwd⟩ : ∃ wd, widN G.re s = wd := ⟨_, rfl⟩
  rw [hwd] at HW ⊢
  rw [← HW.out] at HSZ
  clear hG hs hT hst hD hwd
  go_enter Tryd.func103, Tryd.ntmps103
  go_wp2_with (first | (refine wpList_get_graph rfl (.tmp 2) rfl H rfl HG1.out ?_) | (go_at_call 143; (with_reducible refine (HMA.out _ ?_).mono ?_); (repeat (first | exact New.refl _ | apply New.alloc)); rintro e w6 ⟨rfl, n6⟩; have HN := Lib.hid (((New.refl w).alloc _).trans n6); clear n6) | (refine wpList_store_match rfl (.tmp 5) (.tmp 11) rfl rfl rfl ?_; intro w7 n7; have N7 := Lib.hid (HN.out.trans n7); clear n7) | (go_at_call 111; refine (HSZ.out _).mono ?_; rintro e w8 ⟨rfl, n8⟩; have N8 := Lib.hid (N7.out.trans n8); clear n8))
  go_ret
  exact ⟨rfl, N8.out⟩
end Go.Proofs.YtiejefehcpfkaaaDoor
end
