/- Why the last patch of the beginning of an order is laid no earlier, as reason returns it. Graphs of at most 24 places. -/
import Derived.Test.YtiejefehcpfkaaaDoorTc
set_option linter.unusedSimpArgs false
set_option linter.unusedVariables false
set_option maxRecDepth 100000
namespace Go.Proofs.YtiejefehcpfkaaaDoor
open Go.RowKit Go.Shelf

attribute [local go_sem] Oper.semAt_some

/-- the reason's three numbers -/
def reaI (G : Gph) (dry : Int) (l : List Int) (d : Nat → Int) : Int × Int × Int :=
  let p := (nI l (l.length - 1)).toNat
  if d p = 0 then (p, -1, 0) else match (bitsOf (G.ne p)).find? fun q => decide (d q + dry + 1 = d p) with
    | some q => (p, q, 2)
    | none => (p, nI l (l.length - 2), 1)
structure ReI (G : Gph) (dry : Nat) (w : World) (H p bD cD : Nat) (d : Nat → Int) (s : Nat) (done : List Nat) (pc : Option Code) (W : World) : Prop where
  nw : New w W
  gr : Gr W H G
  dr : W.heap[H + 1]? = some (.cells #[.int .i64 (dry : Int)] 3 (0, 0))
  db : W.heap[H + 2]? = some (.cells #[.slice (some ⟨bD, 0, none⟩) G.n cD] 31 (0, 0))
  pb : W.heap[H + 4]? = some (.cells #[.int .i64 (p : Int)] 3 (0, 0))
  st : (pc = none ∧ W.heap[H + 3]? = some (.cells #[.int .i64 0, .int .i64 0, .int .u8 0] 75 (0, 0)) ∧ ∀ q ∈ done, d q + (dry : Int) + 1 ≠ d p) ∨
    (pc = some .ret ∧ ∃ q : Nat, W.heap[H + 3]? = some (.cells #[.int .i64 (p : Int), .int .i64 (q : Int), .int .u8 2] 75 (0, 0)) ∧ (bitsOf s).find? (fun q => decide (d q + (dry : Int) + 1 = d p)) = some q)
theorem ReI.low {G : Gph} {dry : Nat} {w : World} {H p bD cD : Nat} {d : Nat → Int} {s : Nat} {done : List Nat} {pc : Option Code} {W W' : World} {D : Nat} (hH : w.heap.size = H) (h : ReI G dry w H p bD cD d s done pc W) (hl : Low D W W') (hD : H + 5 ≤ D) : ReI G dry w H p bD cD d s done pc W' := by
  obtain ⟨h1, h2, h3, h4, h5, h6⟩ := h
  refine ⟨h1.low hl (by omega), hl.at (by omega) h2, hl.at (by omega) h3, hl.at (by omega) h4, hl.at (by omega) h5, ?_⟩
  rcases h6 with ⟨e, h6, h7⟩ | ⟨e, q, h6, h7⟩
  · exact .inl ⟨e, hl.at (by omega) h6, h7⟩
  · exact .inr ⟨e, q, hl.at (by omega) h6, h7⟩
theorem rea_size : (Tryd.prog.info? 75).map (·.size) = some 3 := by kernel_rfl
/-- the value of a reason -/
def reaV (r : Int × Int × Int) : Value := .agg #[.int .i64 r.1, .int .i64 r.2.1, .int .u8 r.2.2]
theorem three_cells {w : World} {A : Nat} {u0 u1 u2 : Value} {T : TypeId} (x y z : Value) (hA : w.heap[A]? = some (.cells #[u0, u1, u2] T (0, 0))) :
    (((w.setCell ⟨A, 0, none⟩ x).setCell ⟨A, 1, none⟩ y).setCell ⟨A, 2, none⟩ z).heap[A]? = some (.cells #[x, y, z] T (0, 0)) ∧ Mod (fun q => q = A) w (((w.setCell ⟨A, 0, none⟩ x).setCell ⟨A, 1, none⟩ y).setCell ⟨A, 2, none⟩ z) :=
  ⟨heap_setCell_same _ _ 2 _ (heap_setCell_same _ _ 1 _ (heap_setCell_same _ _ 0 _ hA)), ((Mod.setCell (O := fun q => q = A) _ _ _ _ rfl).trans (Mod.setCell (O := fun q => q = A) _ _ _ _ rfl)).trans (Mod.setCell (O := fun q => q = A) _ _ _ _ rfl)⟩

set_option maxHeartbeats 8000000 in
theorem reason_c (G : Gph) (dry : Nat) (w : World) (av : Option Addr) (cap : Nat) (l : List Int) (bD cD : Nat) (d : Nat → Int) (hG : G.ok) (hN : ∀ p i, (G.ne p).testBit i = true → i < G.n) (hdry : dry ≤ 30) (hT : Tab w)
    (hl0 : 0 < l.length) (hl : l.length ≤ 1000) (hP : Ins w av l) (hin : ∀ k, k < l.length → 0 ≤ nI l k ∧ nI l k < (G.n : Int)) (hI : Iv w bD G.n d) (hd : ∀ q, 0 ≤ d q ∧ d q ≤ 100000) (h2 : d (nI l (l.length - 1)).toNat ≠ 0 → 2 ≤ l.length) :
    Calls Tryd.prog 125 #[.agg G.cells.toArray, .int .i64 (dry : Int), .slice av l.length cap, .slice (some ⟨bD, 0, none⟩) G.n cD] w fun en w' => en = .returned (reaV (reaI G dry l d)) ∧ New w w' := by
  obtain ⟨H, hH⟩ : ∃ H, w.heap.size = H := ⟨_, rfl⟩
  obtain ⟨GC, hGC⟩ : ∃ GC, GC = G.cells.toArray := ⟨_, rfl⟩
  rw [← hGC]
  have HGC := Lib.hid hGC
  obtain ⟨b0, off, rfl, gl, hcc⟩ := hP hl0
  have c1 := hcc (l.length - 1) (by omega)
  have hpr := hin (l.length - 1) (by omega)
  have HCC := Lib.hid hcc
  have HIN := Lib.hid hin
  obtain ⟨p, hp⟩ : ∃ p : Nat, nI l (l.length - 1) = p := ⟨(nI l (l.length - 1)).toNat, by omega⟩
  have hR : reaI G dry l d = if d p = 0 then ((p : Int), (-1 : Int), (0 : Int)) else match (bitsOf (G.ne p)).find? fun q => decide (d q + (dry : Int) + 1 = d p) with
    | some q => ((p : Int), (q : Int), (2 : Int))
    | none => ((p : Int), nI l (l.length - 2), (1 : Int)) := by unfold reaI; rw [hp]; rfl
  have HR := Lib.hid hR
  rw [hp] at c1 hpr h2
  simp only [Int.toNat_natCast] at h2
  have hpn : p < G.n := by omega
  have hpn' : (p : Int) < (G.n : Int) := hpr.2
  have hn24 := hG.n24
  have p24 : p < 24 := by omega
  have p24' : (p : Int) < 24 := by omega
  have hbl := hI.lt
  have c2 := hI.at p hpn
  have hw1 : IntKind.i64.wrap ((l.length : Int) - 1) = ((l.length - 1 : Nat) : Int) := by rw [show (l.length : Int) - 1 = ((l.length - 1 : Nat) : Int) by omega]; exact IntWalk.i64_in _ (by omega)
  have hlt1 : ((l.length - 1 : Nat) : Int) < (l.length : Int) := by omega
  have HG := Lib.hid hG
  have HT := Lib.hid hT
  have HI := Lib.hid hI
  have HD := Lib.hid hd
  have HH := Lib.hid hH
  have HNL := Lib.hid (hN p)
  have H2 := Lib.hid h2
  have HL := Lib.hid hl
  have HL0 := Lib.hid hl0
  have HPC := Lib.hid (fun (w1 : World) => (callsIn_wide (n := 4)).2 (patches_c (G.ne p) w1))
  clear hG hT hP hcc hin hpr hp hR hI hd hN h2 hGC
  refine (callsIn_wide (n := 5)).1 ?_
  refine callsIn_of_wp_marks Tryd.func125 rfl trivial ?_ rfl
  simp only [Tryd.ntmps125, List.size_toArray, List.length_cons, List.length_nil, Nat.reduceAdd, Nat.reduceSub, Array.replicate_succ, Array.replicate_zero, List.push_toArray, List.append_toArray, List.nil_append, List.cons_append]
  have c1 := ((((((New.refl w).alloc (.cells GC 83)).alloc (.cells #[.int .i64 (dry : Int)] 3)).alloc (.cells #[.slice (some ⟨bD, 0, none⟩) G.n cD] 31)).alloc (.cells #[.int .i64 0, .int .i64 0, .int .u8 0] 75)).cell gl).trans c1
  have c2 := (((((((New.refl w).alloc (.cells GC 83)).alloc (.cells #[.int .i64 (dry : Int)] 3)).alloc (.cells #[.slice (some ⟨bD, 0, none⟩) G.n cD] 31)).alloc (.cells #[.int .i64 0, .int .i64 0, .int .u8 0] 75)).alloc (.cells #[.int .i64 (p : Int)] 3)).cell hbl).trans c2
  have HNW := Lib.hid (show New w (((((w.alloc (.cells GC 83)).alloc (.cells #[.int .i64 (dry : Int)] 3)).alloc (.cells #[.slice (some ⟨bD, 0, none⟩) G.n cD] 31)).alloc (.cells #[.int .i64 0, .int .i64 0, .int .u8 0] 75)).alloc (.cells #[.int .i64 (p : Int)] 3)) from (((((New.refl w).alloc _).alloc _).alloc _).alloc _).alloc _)
  have HQ := Lib.hid (alloc5_heap w (.cells GC 83) (.cells #[.int .i64 (dry : Int)] 3) (.cells #[.slice (some ⟨bD, 0, none⟩) G.n cD] 31) (.cells #[.int .i64 0, .int .i64 0, .int .u8 0] 75) (.cells #[.int .i64 (p : Int)] 3) H HH.out)
  have e1 : (((((w.alloc (.cells GC 83)).alloc (.cells #[.int .i64 (dry : Int)] 3)).alloc (.cells #[.slice (some ⟨bD, 0, none⟩) G.n cD] 31)).alloc (.cells #[.int .i64 0, .int .i64 0, .int .u8 0] 75)).alloc (.cells #[.int .i64 (p : Int)] 3)).cell? ⟨H, 75 + p, none⟩ = some (sv (G.ne p)) := by
    have hg : Gr (((((w.alloc (.cells GC 83)).alloc (.cells #[.int .i64 (dry : Int)] 3)).alloc (.cells #[.slice (some ⟨bD, 0, none⟩) G.n cD] 31)).alloc (.cells #[.int .i64 0, .int .i64 0, .int .u8 0] 75)).alloc (.cells #[.int .i64 (p : Int)] 3)) H G := by have := HQ.out.1; rw [HGC.out] at this ⊢; exact this
    rw [hg.cell]; exact Gph.at_ne _ p p24
  by_cases h0 : d p = 0
  · have h0' : (d p == 0) = true := by simpa using h0
    rw [if_pos h0] at HR
    rw [HR.out]
    clear h0
    gi_wp2
    obtain ⟨_, _, _, q4, _, _⟩ := alloc5_heap w (.cells GC 83) (.cells #[.int .i64 (dry : Int)] 3) (.cells #[.slice (some ⟨bD, 0, none⟩) G.n cD] 31) (.cells #[.int .i64 (p : Int), .int .i64 (-1), .int .u8 0] 75) (.cells #[.int .i64 (p : Int)] 3) H HH.out
    refine leaves_marks [] _ List.nodup_nil (fun q hq => by cases hq) (fun W9 hm => ?_)
    have a2 := (hm.2 (H + 3) (Array.getElem?_eq_some_iff.1 q4).1 (fun h => by cases h)).trans q4
    refine ⟨_, results_cell_row rfl _ _ (H + 3) _ #[_, _, _] _ _ rfl a2 Tryd.underlying75 rfl rea_size, ?_⟩
    exact ⟨rfl, Mod.new ((((((New.refl w).alloc _).alloc _).alloc _).alloc _).alloc _) hm (fun k hk => by cases hk)⟩
  · have h0' : (d p == 0) = false := by simpa using h0
    rw [if_neg h0] at HR
    have HLL := Lib.hid (H2.out h0)
    clear h0
    gi_wp2
    refine ⟨trivial, ?_⟩
    gi_at_call 89
    obtain ⟨U, HUE⟩ : ∃ U : World, Hid (U = (((((w.alloc (.cells GC 83)).alloc (.cells #[.int .i64 (dry : Int)] 3)).alloc (.cells #[.slice (some ⟨bD, 0, none⟩) G.n cD] 31)).alloc (.cells #[.int .i64 0, .int .i64 0, .int .u8 0] 75)).alloc (.cells #[.int .i64 (p : Int)] 3))) := ⟨_, Lib.hid rfl⟩
    rw [← HUE.out]
    rw [← HUE.out] at HNW HQ
    refine (HPC.out _).mono ?_
    rintro e w2 ⟨rfl, rfl⟩
    clear e1
    gi_wp2
    obtain ⟨WQ, HWQ⟩ : ∃ WQ : World, Hid (WQ = U.alloc (.cells #[sv (G.ne p)] 79)) := ⟨_, Lib.hid rfl⟩
    rw [← HWQ.out]
    obtain ⟨q1, q2, q3, q4, q5, q6⟩ := HQ.out
    obtain ⟨qs, qz⟩ : WQ.heap[U.heap.size]? = some (.cells #[sv (G.ne p)] 79 (0, 0)) ∧ WQ.heap.size = U.heap.size + 1 := by rw [HWQ.out]; exact ⟨World.alloc_heap_new U _, by simp⟩
    have hQn : New U WQ := by rw [HWQ.out]; exact (New.refl U).alloc _
    have HI0 := Lib.hid (show ReI G dry w H p bD cD d (G.ne p) [] none WQ from ⟨HNW.out.trans hQn, by have := row_new q1 hQn; rw [HGC.out] at this; exact this, row_new q2 hQn, row_new q3 hQn, row_new q5 hQn, .inl ⟨rfl, row_new q4 hQn, fun q hq => by cases hq⟩⟩)
    have HTQ := Lib.hid (HT.out.new HI0.out.nw)
    have HTL := Lib.hid (show 0 < H from by have := HT.out.1; rw [HH.out] at this; exact this)
    rw [q6] at qz
    clear hQn q1 q2 q3 q4 q5
    refine range_set (n := 5) (by omega) (G.ne p) U.heap.size (HG.out.ne p) rfl qs HTQ.out rfl (fun k => k = H + 3) (fun k hk => ⟨by omega, by have := HTL.out; omega⟩) (ReI G dry w H p bD cD d (G.ne p)) ?hI HI0.out ?hbody ?hdone ?hstop
    case hI =>
      rintro done pc W W' hi hl
      rw [qz] at hl
      exact hi.low HH.out hl (by omega)
    case hbody =>
      intro m done x rest W hdd hi hT _ hsz _
      rw [qz] at hsz
      have hxn := HNL.out x (bitsOf_mem.1 (show x ∈ bitsOf (G.ne p) by rw [← hdd]; simp)).2
      have hxn' : (x : Int) < (G.n : Int) := by omega
      have HSZ := Lib.hid hsz
      have HDD := Lib.hid hdd
      clear hdd hi hT hsz
      rw [qz]
      gi_wp2
      refine ⟨trivial, ?_⟩
      intro W2 hl2 hs2 hT2 hi2
      have HI2 := Lib.hid hi2
      clear hl2 hs2 hT2 hi2
      rcases HI2.out.st with ⟨_, r4, r5⟩ | ⟨e, _⟩
      case inr => cases e
      have hb1 := HD.out x
      have hb2 := HD.out p
      have hw3 : IntKind.i64.wrap (d x + (dry : Int)) = d x + (dry : Int) := IntWalk.i64_in _ (by omega)
      have hw4 : IntKind.i64.wrap (d x + (dry : Int) + 1) = d x + (dry : Int) + 1 := IntWalk.i64_in _ (by omega)
      have hIV : Iv W2 bD G.n d := row_new HI.out HI2.out.nw
      have hS : W2.cell? ⟨H + 1 + 1, 0, none⟩ = some (.slice (some ⟨bD, 0, none⟩) G.n cD) ∧ W2.cell? ⟨bD, x, none⟩ = some (.int .i64 (d x)) ∧ W2.cell? ⟨H + 1, 0, none⟩ = some (.int .i64 (dry : Int)) ∧ W2.cell? ⟨H + 1 + 1 + 1 + 1, 0, none⟩ = some (.int .i64 (p : Int)) ∧ W2.cell? ⟨bD, p, none⟩ = some (.int .i64 (d p)) :=
        ⟨(box_cell HI2.out.db).1, hIV.at x hxn, (box_cell HI2.out.dr).1, (box_cell HI2.out.pb).1, hIV.at p hpn⟩
      have HR4 := Lib.hid r4
      have HR5 := Lib.hid r5
      clear r4 r5 hIV hb1 hb2 c1 c2
      by_cases heq : d x + (dry : Int) + 1 = d p
      · have heq' : (d x + (dry : Int) + 1 == d p) = true := by simpa using heq
        have HFD := Lib.hid (show (bitsOf (G.ne p)).find? (fun q => decide (d q + (dry : Int) + 1 = d p)) = some x from by
          rw [← HDD.out, List.find?_append, List.find?_eq_none.2 (fun q hq => by simpa using HR5.out q hq)]
          simp [heq])
        clear heq
        gi_wp2
        apply region_act (fun w' => w'.cell? ⟨H + 1 + 1, 0, none⟩ = some (.slice (some ⟨bD, 0, none⟩) G.n cD) ∧ w'.cell? ⟨bD, x, none⟩ = some (.int .i64 (d x)) ∧ w'.cell? ⟨H + 1, 0, none⟩ = some (.int .i64 (dry : Int)) ∧ w'.cell? ⟨H + 1 + 1 + 1 + 1, 0, none⟩ = some (.int .i64 (p : Int)) ∧ w'.cell? ⟨bD, p, none⟩ = some (.int .i64 (d p))) (fun w' => w' = W2.drew) (by kernel_rfl) (by kernel_rfl) hS
        case h =>
          intro hHeld
          refine wpAnyH_take (i := 0) (oi := { dst := some 30, op := _, type := _, pos := _, after := _, guard := _ }) (v := ?_) rfl (by kernel_rfl) (by kernel_rfl) (by kernel_rfl) (fun _ _ _ h => h) (Or.inl ⟨by rfl, (by intro w hSw; (try dsimp only at hSw); go_simp; try with_reducible rfl)⟩) (by assumption) ?_
          (try simp only [Act.put, List.setIfInBounds_toArray, List.set_cons_zero, List.set_cons_succ])
          refine wpAnyH_take (i := 1) (oi := { dst := some 31, op := _, type := _, pos := _, after := _, guard := _ }) (v := ?_) rfl (by kernel_rfl) (by kernel_rfl) (by kernel_rfl) (fun _ _ _ h => h) (Or.inl ⟨by rfl, (by intro w hSw; (try dsimp only at hSw); go_simp; try with_reducible rfl)⟩) (by assumption) ?_
          (try simp only [Act.put, List.setIfInBounds_toArray, List.set_cons_zero, List.set_cons_succ])
          refine wpAnyH_take (i := 2) (oi := { dst := some 32, op := _, type := _, pos := _, after := _, guard := _ }) (v := ?_) rfl (by kernel_rfl) (by kernel_rfl) (by kernel_rfl) (fun _ _ _ h => h) (Or.inl ⟨by rfl, (by intro w hSw; (try dsimp only at hSw); go_simp; try with_reducible rfl)⟩) (by assumption) ?_
          (try simp only [Act.put, List.setIfInBounds_toArray, List.set_cons_zero, List.set_cons_succ])
          refine wpAnyH_take (i := 3) (oi := { dst := some 33, op := _, type := _, pos := _, after := _, guard := _ }) (v := ?_) rfl (by kernel_rfl) (by kernel_rfl) (by kernel_rfl) (fun _ _ _ h => h) (Or.inl ⟨by rfl, (by intro w hSw; (try dsimp only at hSw); go_simp; try with_reducible rfl)⟩) (by assumption) ?_
          (try simp only [Act.put, List.setIfInBounds_toArray, List.set_cons_zero, List.set_cons_succ])
          refine wpAnyH_take (i := 4) (oi := { dst := some 34, op := _, type := _, pos := _, after := _, guard := _ }) (v := ?_) rfl (by kernel_rfl) (by kernel_rfl) (by kernel_rfl) (fun _ _ _ h => h) (Or.inl ⟨by rfl, (by intro w hSw; (try dsimp only at hSw); go_simp; try with_reducible rfl)⟩) (by assumption) ?_
          (try simp only [Act.put, List.setIfInBounds_toArray, List.set_cons_zero, List.set_cons_succ])
          refine wpAnyH_take (i := 5) (oi := { dst := some 35, op := _, type := _, pos := _, after := _, guard := _ }) (v := ?_) rfl (by kernel_rfl) (by kernel_rfl) (by kernel_rfl) (fun _ _ _ h => h) (Or.inl ⟨by rfl, (by intro w hSw; (try dsimp only at hSw); go_simp; try with_reducible rfl)⟩) (by assumption) ?_
          (try simp only [Act.put, List.setIfInBounds_toArray, List.set_cons_zero, List.set_cons_succ])
          refine wpAnyH_take (i := 6) (oi := { dst := some 36, op := _, type := _, pos := _, after := _, guard := _ }) (v := ?_) rfl (by kernel_rfl) (by kernel_rfl) (by kernel_rfl) (fun _ _ _ h => h) (Or.inl ⟨by rfl, (by intro w hSw; (try dsimp only at hSw); go_simp; try with_reducible rfl)⟩) (by assumption) ?_
          (try simp only [Act.put, List.setIfInBounds_toArray, List.set_cons_zero, List.set_cons_succ])
          refine wpAnyH_take (i := 7) (oi := { dst := some 37, op := _, type := _, pos := _, after := _, guard := _ }) (v := ?_) rfl (by kernel_rfl) (by kernel_rfl) (by kernel_rfl) (fun _ _ _ h => h) (Or.inl ⟨by rfl, (by intro w hSw; (try dsimp only at hSw); go_simp; try with_reducible rfl)⟩) (by assumption) ?_
          (try simp only [Act.put, List.setIfInBounds_toArray, List.set_cons_zero, List.set_cons_succ])
          refine wpAnyH_take (i := 8) (oi := { dst := some 38, op := _, type := _, pos := _, after := _, guard := _ }) (v := ?_) rfl (by kernel_rfl) (by kernel_rfl) (by kernel_rfl) (fun _ _ _ h => h) (Or.inl ⟨by rfl, (by intro w hSw; (try dsimp only at hSw); go_simp; try with_reducible rfl)⟩) (by assumption) ?_
          (try simp only [Act.put, List.setIfInBounds_toArray, List.set_cons_zero, List.set_cons_succ])
          refine wpAnyH_take (i := 9) (oi := { dst := some 39, op := _, type := _, pos := _, after := _, guard := _ }) (v := ?_) rfl (by kernel_rfl) (by kernel_rfl) (by kernel_rfl) (fun _ _ _ h => h) (Or.inl ⟨by rfl, (by intro w hSw; (try dsimp only at hSw); go_simp; try with_reducible rfl)⟩) (by assumption) ?_
          (try simp only [Act.put, List.setIfInBounds_toArray, List.set_cons_zero, List.set_cons_succ])
          refine wpAnyH_take (i := 10) (oi := { dst := some 40, op := _, type := _, pos := _, after := _, guard := _ }) (v := ?_) rfl (by kernel_rfl) (by kernel_rfl) (by kernel_rfl) (fun _ _ _ h => h) (Or.inl ⟨by rfl, (by intro w hSw; (try dsimp only at hSw); go_simp; try with_reducible rfl)⟩) (by assumption) ?_
          (try simp only [Act.put, List.setIfInBounds_toArray, List.set_cons_zero, List.set_cons_succ])
          refine wpAnyH_take (i := 11) (oi := { dst := some 41, op := _, type := _, pos := _, after := _, guard := _ }) (v := ?_) rfl (by kernel_rfl) (by kernel_rfl) (by kernel_rfl) (fun _ _ _ h => h) (Or.inl ⟨by rfl, (by intro w hSw; (try dsimp only at hSw); go_simp; try with_reducible rfl)⟩) (by assumption) ?_
          (try simp only [Act.put, List.setIfInBounds_toArray, List.set_cons_zero, List.set_cons_succ])
          refine wpAnyH_done (by kernel_rfl) ?_ _
          exact ⟨rfl, rfl⟩
        case hq =>
        rintro _ rfl
        have c6 : W2.cell? ⟨H + 1 + 1 + 1, 0, none⟩ = some (.int .i64 0) := (cell_of_row W2 (H + 3) 0 _ _ _ HR4.out).trans rfl
        have c7 : W2.cell? ⟨H + 1 + 1 + 1, 1, none⟩ = some (.int .i64 0) := (cell_of_row W2 (H + 3) 1 _ _ _ HR4.out).trans rfl
        have c8 : W2.cell? ⟨H + 1 + 1 + 1, 2, none⟩ = some (.int .u8 0) := (cell_of_row W2 (H + 3) 2 _ _ _ HR4.out).trans rfl
        have f6 : W2.frozen? ⟨H + 1 + 1 + 1, 0, none⟩ = false := by
          have h : W2.heap[H + 1 + 1 + 1]? = _ := HR4.out
          simp [World.frozen?, h]
        have f7 : W2.frozen? ⟨H + 1 + 1 + 1, 1, none⟩ = false := by
          have h : W2.heap[H + 1 + 1 + 1]? = _ := HR4.out
          simp [World.frozen?, h]
        have f8 : W2.frozen? ⟨H + 1 + 1 + 1, 2, none⟩ = false := by
          have h : W2.heap[H + 1 + 1 + 1]? = _ := HR4.out
          simp [World.frozen?, h]
        have c9 : W2.cell? ⟨H + 1 + 1 + 1 + 1, 0, none⟩ = some (.int .i64 (p : Int)) := hS.2.2.2.1
        clear hS
        gi_wp2
        obtain ⟨a1, a2⟩ := three_cells (w := W2.drew) (A := H + 3) (.int .i64 (p : Int)) (.int .i64 (x : Int)) (.int .u8 2) HR4.out
        have hlow : ∀ q o, q ≠ H + 3 → W2.heap[q]? = some o → ((((W2.drew.setCell ⟨H + 3, 0, none⟩ (.int .i64 (p : Int))).setCell ⟨H + 3, 1, none⟩ (.int .i64 (x : Int))).setCell ⟨H + 3, 2, none⟩ (.int .u8 2))).heap[q]? = some o := fun q o hq hv => (a2.2 q (Array.getElem?_eq_some_iff.1 hv).1 (fun h => hq h)).trans hv
        refine RoundS.ret ((Mod.of_new (New.refl W2).drew).trans a2) ?_
        exact ⟨Mod.new HI2.out.nw.drew a2 (fun k hk => by rw [HH.out]; omega), hlow _ _ (by omega) HI2.out.gr, hlow _ _ (by omega) HI2.out.dr, hlow _ _ (by omega) HI2.out.db, hlow _ _ (by omega) HI2.out.pb, .inr ⟨rfl, x, a1, HFD.out⟩⟩
      · have heq' : (d x + (dry : Int) + 1 == d p) = false := by simpa using heq
        have HNE := Lib.hid heq
        clear heq
        gi_wp2
        apply region_act (fun w' => w'.cell? ⟨H + 1 + 1, 0, none⟩ = some (.slice (some ⟨bD, 0, none⟩) G.n cD) ∧ w'.cell? ⟨bD, x, none⟩ = some (.int .i64 (d x)) ∧ w'.cell? ⟨H + 1, 0, none⟩ = some (.int .i64 (dry : Int)) ∧ w'.cell? ⟨H + 1 + 1 + 1 + 1, 0, none⟩ = some (.int .i64 (p : Int)) ∧ w'.cell? ⟨bD, p, none⟩ = some (.int .i64 (d p))) (fun w' => w' = W2.drew) (by kernel_rfl) (by kernel_rfl) hS
        case h =>
          intro hHeld
          refine wpAnyH_take (i := 0) (oi := { dst := some 30, op := _, type := _, pos := _, after := _, guard := _ }) (v := ?_) rfl (by kernel_rfl) (by kernel_rfl) (by kernel_rfl) (fun _ _ _ h => h) (Or.inl ⟨by rfl, (by intro w hSw; (try dsimp only at hSw); go_simp; try with_reducible rfl)⟩) (by assumption) ?_
          (try simp only [Act.put, List.setIfInBounds_toArray, List.set_cons_zero, List.set_cons_succ])
          refine wpAnyH_take (i := 1) (oi := { dst := some 31, op := _, type := _, pos := _, after := _, guard := _ }) (v := ?_) rfl (by kernel_rfl) (by kernel_rfl) (by kernel_rfl) (fun _ _ _ h => h) (Or.inl ⟨by rfl, (by intro w hSw; (try dsimp only at hSw); go_simp; try with_reducible rfl)⟩) (by assumption) ?_
          (try simp only [Act.put, List.setIfInBounds_toArray, List.set_cons_zero, List.set_cons_succ])
          refine wpAnyH_take (i := 2) (oi := { dst := some 32, op := _, type := _, pos := _, after := _, guard := _ }) (v := ?_) rfl (by kernel_rfl) (by kernel_rfl) (by kernel_rfl) (fun _ _ _ h => h) (Or.inl ⟨by rfl, (by intro w hSw; (try dsimp only at hSw); go_simp; try with_reducible rfl)⟩) (by assumption) ?_
          (try simp only [Act.put, List.setIfInBounds_toArray, List.set_cons_zero, List.set_cons_succ])
          refine wpAnyH_take (i := 3) (oi := { dst := some 33, op := _, type := _, pos := _, after := _, guard := _ }) (v := ?_) rfl (by kernel_rfl) (by kernel_rfl) (by kernel_rfl) (fun _ _ _ h => h) (Or.inl ⟨by rfl, (by intro w hSw; (try dsimp only at hSw); go_simp; try with_reducible rfl)⟩) (by assumption) ?_
          (try simp only [Act.put, List.setIfInBounds_toArray, List.set_cons_zero, List.set_cons_succ])
          refine wpAnyH_take (i := 4) (oi := { dst := some 34, op := _, type := _, pos := _, after := _, guard := _ }) (v := ?_) rfl (by kernel_rfl) (by kernel_rfl) (by kernel_rfl) (fun _ _ _ h => h) (Or.inl ⟨by rfl, (by intro w hSw; (try dsimp only at hSw); go_simp; try with_reducible rfl)⟩) (by assumption) ?_
          (try simp only [Act.put, List.setIfInBounds_toArray, List.set_cons_zero, List.set_cons_succ])
          refine wpAnyH_take (i := 5) (oi := { dst := some 35, op := _, type := _, pos := _, after := _, guard := _ }) (v := ?_) rfl (by kernel_rfl) (by kernel_rfl) (by kernel_rfl) (fun _ _ _ h => h) (Or.inl ⟨by rfl, (by intro w hSw; (try dsimp only at hSw); go_simp; try with_reducible rfl)⟩) (by assumption) ?_
          (try simp only [Act.put, List.setIfInBounds_toArray, List.set_cons_zero, List.set_cons_succ])
          refine wpAnyH_take (i := 6) (oi := { dst := some 36, op := _, type := _, pos := _, after := _, guard := _ }) (v := ?_) rfl (by kernel_rfl) (by kernel_rfl) (by kernel_rfl) (fun _ _ _ h => h) (Or.inl ⟨by rfl, (by intro w hSw; (try dsimp only at hSw); go_simp; try with_reducible rfl)⟩) (by assumption) ?_
          (try simp only [Act.put, List.setIfInBounds_toArray, List.set_cons_zero, List.set_cons_succ])
          refine wpAnyH_take (i := 7) (oi := { dst := some 37, op := _, type := _, pos := _, after := _, guard := _ }) (v := ?_) rfl (by kernel_rfl) (by kernel_rfl) (by kernel_rfl) (fun _ _ _ h => h) (Or.inl ⟨by rfl, (by intro w hSw; (try dsimp only at hSw); go_simp; try with_reducible rfl)⟩) (by assumption) ?_
          (try simp only [Act.put, List.setIfInBounds_toArray, List.set_cons_zero, List.set_cons_succ])
          refine wpAnyH_take (i := 8) (oi := { dst := some 38, op := _, type := _, pos := _, after := _, guard := _ }) (v := ?_) rfl (by kernel_rfl) (by kernel_rfl) (by kernel_rfl) (fun _ _ _ h => h) (Or.inl ⟨by rfl, (by intro w hSw; (try dsimp only at hSw); go_simp; try with_reducible rfl)⟩) (by assumption) ?_
          (try simp only [Act.put, List.setIfInBounds_toArray, List.set_cons_zero, List.set_cons_succ])
          refine wpAnyH_take (i := 9) (oi := { dst := some 39, op := _, type := _, pos := _, after := _, guard := _ }) (v := ?_) rfl (by kernel_rfl) (by kernel_rfl) (by kernel_rfl) (fun _ _ _ h => h) (Or.inl ⟨by rfl, (by intro w hSw; (try dsimp only at hSw); go_simp; try with_reducible rfl)⟩) (by assumption) ?_
          (try simp only [Act.put, List.setIfInBounds_toArray, List.set_cons_zero, List.set_cons_succ])
          refine wpAnyH_take (i := 10) (oi := { dst := some 40, op := _, type := _, pos := _, after := _, guard := _ }) (v := ?_) rfl (by kernel_rfl) (by kernel_rfl) (by kernel_rfl) (fun _ _ _ h => h) (Or.inl ⟨by rfl, (by intro w hSw; (try dsimp only at hSw); go_simp; try with_reducible rfl)⟩) (by assumption) ?_
          (try simp only [Act.put, List.setIfInBounds_toArray, List.set_cons_zero, List.set_cons_succ])
          refine wpAnyH_take (i := 11) (oi := { dst := some 41, op := _, type := _, pos := _, after := _, guard := _ }) (v := ?_) rfl (by kernel_rfl) (by kernel_rfl) (by kernel_rfl) (fun _ _ _ h => h) (Or.inl ⟨by rfl, (by intro w hSw; (try dsimp only at hSw); go_simp; try with_reducible rfl)⟩) (by assumption) ?_
          (try simp only [Act.put, List.setIfInBounds_toArray, List.set_cons_zero, List.set_cons_succ])
          refine wpAnyH_done (by kernel_rfl) ?_ _
          exact ⟨rfl, rfl⟩
        case hq =>
        rintro _ rfl
        clear hS
        gi_wp2
        refine RoundS.on (Mod.of_new (New.refl W2).drew) ?_
        refine ⟨HI2.out.nw.drew, HI2.out.gr, HI2.out.dr, HI2.out.db, HI2.out.pb, .inl ⟨rfl, HR4.out, fun q hq => ?_⟩⟩
        rcases List.mem_append.1 hq with hq | hq
        · exact HR5.out q hq
        · have : q = x := by simpa using hq
          rw [this]; exact HNE.out
    case hdone =>
      rw [qz]
      rintro W hi hT hmk
      rcases hi.st with ⟨_, r4, r5⟩ | ⟨e, _⟩
      case inr => cases e
      have HIW := Lib.hid hi
      have HR4 := Lib.hid r4
      have HMK := Lib.hid hmk
      rw [List.find?_eq_none.2 (fun q hq => by simpa using r5 q hq)] at HR
      have h2l := HLL.out
      have c3 : W.cell? ⟨b0, off + (l.length - 2), none⟩ = some (.int .i64 (nI l (l.length - 2))) := (hi.nw.cell gl).trans (HCC.out (l.length - 2) (by omega))
      have hw2 : IntKind.i64.wrap ((l.length : Int) - 2) = ((l.length - 2 : Nat) : Int) := by rw [show (l.length : Int) - 2 = ((l.length - 2 : Nat) : Int) by omega]; exact IntWalk.i64_in _ (by omega)
      have hlt2 : ((l.length - 2 : Nat) : Int) < (l.length : Int) := by omega
      have c9 : W.cell? ⟨H + 1 + 1 + 1 + 1, 0, none⟩ = some (.int .i64 (p : Int)) := (box_cell hi.pb).1
      obtain ⟨y, hy⟩ : ∃ y, nI l (l.length - 2) = y := ⟨_, rfl⟩
      rw [hy] at c3 HR
      have hS := And.intro c9 c3
      have c6 : W.cell? ⟨H + 1 + 1 + 1, 0, none⟩ = some (.int .i64 0) := (cell_of_row W (H + 3) 0 _ _ _ HR4.out).trans rfl
      have c7 : W.cell? ⟨H + 1 + 1 + 1, 1, none⟩ = some (.int .i64 0) := (cell_of_row W (H + 3) 1 _ _ _ HR4.out).trans rfl
      have c8 : W.cell? ⟨H + 1 + 1 + 1, 2, none⟩ = some (.int .u8 0) := (cell_of_row W (H + 3) 2 _ _ _ HR4.out).trans rfl
      have f6 : W.frozen? ⟨H + 1 + 1 + 1, 0, none⟩ = false := by
        have h : W.heap[H + 1 + 1 + 1]? = _ := HR4.out
        simp [World.frozen?, h]
      have f7 : W.frozen? ⟨H + 1 + 1 + 1, 1, none⟩ = false := by
        have h : W.heap[H + 1 + 1 + 1]? = _ := HR4.out
        simp [World.frozen?, h]
      have f8 : W.frozen? ⟨H + 1 + 1 + 1, 2, none⟩ = false := by
        have h : W.heap[H + 1 + 1 + 1]? = _ := HR4.out
        simp [World.frozen?, h]
      clear hi r4 r5 hmk hT c1 c2 c3 c9 hy
      gi_wp2
      apply region_last0 8 (fun w' => w'.cell? ⟨H + 1 + 1 + 1 + 1, 0, none⟩ = some (.int .i64 (p : Int)) ∧ w'.cell? ⟨b0, off + (l.length - 2), none⟩ = some (.int .i64 y)) (fun w' => w' = ((W.drew.setCell ⟨H + 1 + 1 + 1, 0, none⟩ (.int .i64 (p : Int))).setCell ⟨H + 1 + 1 + 1, 1, none⟩ (.int .i64 y)).setCell ⟨H + 1 + 1 + 1, 2, none⟩ (.int .u8 1)) (by kernel_rfl)
      case h =>
        have hHeld := (show _ from hS)
        refine G_take (i := 0) (x := { dst := some 45, op := _, type := _, pos := _, after := _, guard := _ }) (v := ?_) rfl (by kernel_rfl) (by kernel_rfl) (by kernel_rfl) (by kernel_rfl) (fun _ _ _ h => h) (Or.inl ⟨by rfl, (by intro w hSw; (try dsimp only at hSw); go_simp; try with_reducible rfl)⟩) hHeld ?_
        (try simp only [Act.put, List.setIfInBounds_toArray, List.set_cons_zero, List.set_cons_succ])
        refine G_take (i := 1) (x := { dst := some 46, op := _, type := _, pos := _, after := _, guard := _ }) (v := ?_) rfl (by kernel_rfl) (by kernel_rfl) (by kernel_rfl) (by kernel_rfl) (fun _ _ _ h => h) (Or.inl ⟨by rfl, (by intro w hSw; (try dsimp only at hSw); go_simp; try with_reducible rfl)⟩) hHeld ?_
        (try simp only [Act.put, List.setIfInBounds_toArray, List.set_cons_zero, List.set_cons_succ])
        refine G_take (i := 2) (x := { dst := some 47, op := _, type := _, pos := _, after := _, guard := _ }) (v := ?_) rfl (by kernel_rfl) (by kernel_rfl) (by kernel_rfl) (by kernel_rfl) (fun _ _ _ h => h) (Or.inl ⟨by rfl, (by intro w hSw; (try dsimp only at hSw); go_simp; try with_reducible rfl)⟩) hHeld ?_
        (try simp only [Act.put, List.setIfInBounds_toArray, List.set_cons_zero, List.set_cons_succ])
        refine G_take (i := 3) (x := { dst := some 48, op := _, type := _, pos := _, after := _, guard := _ }) (v := ?_) rfl (by kernel_rfl) (by kernel_rfl) (by kernel_rfl) (by kernel_rfl) (fun _ _ _ h => h) (Or.inl ⟨by rfl, (by intro w hSw; (try dsimp only at hSw); go_simp; try with_reducible rfl)⟩) hHeld ?_
        (try simp only [Act.put, List.setIfInBounds_toArray, List.set_cons_zero, List.set_cons_succ])
        refine G_take (i := 4) (x := { dst := some 49, op := _, type := _, pos := _, after := _, guard := _ }) (v := ?_) rfl (by kernel_rfl) (by kernel_rfl) (by kernel_rfl) (by kernel_rfl) (fun _ _ _ h => h) (Or.inl ⟨by rfl, (by intro w hSw; (try dsimp only at hSw); go_simp; try with_reducible rfl)⟩) hHeld ?_
        (try simp only [Act.put, List.setIfInBounds_toArray, List.set_cons_zero, List.set_cons_succ])
        refine G_take (i := 5) (x := { dst := some 50, op := _, type := _, pos := _, after := _, guard := _ }) (v := ?_) rfl (by kernel_rfl) (by kernel_rfl) (by kernel_rfl) (by kernel_rfl) (fun _ _ _ h => h) (Or.inl ⟨by rfl, (by intro w hSw; (try dsimp only at hSw); go_simp; try with_reducible rfl)⟩) hHeld ?_
        (try simp only [Act.put, List.setIfInBounds_toArray, List.set_cons_zero, List.set_cons_succ])
        refine G_take (i := 6) (x := { dst := some 51, op := _, type := _, pos := _, after := _, guard := _ }) (v := ?_) rfl (by kernel_rfl) (by kernel_rfl) (by kernel_rfl) (by kernel_rfl) (fun _ _ _ h => h) (Or.inl ⟨by rfl, (by intro w hSw; (try dsimp only at hSw); go_simp; try with_reducible rfl)⟩) hHeld ?_
        (try simp only [Act.put, List.setIfInBounds_toArray, List.set_cons_zero, List.set_cons_succ])
        refine G_take (i := 7) (x := { dst := some 52, op := _, type := _, pos := _, after := _, guard := _ }) (v := ?_) rfl (by kernel_rfl) (by kernel_rfl) (by kernel_rfl) (by kernel_rfl) (fun _ _ _ h => h) (Or.inl ⟨by rfl, (by intro w hSw; (try dsimp only at hSw); go_simp; try with_reducible rfl)⟩) hHeld ?_
        (try simp only [Act.put, List.setIfInBounds_toArray, List.set_cons_zero, List.set_cons_succ])
        refine G_one (i := 8) (x := { dst := none, op := _, type := _, pos := _, after := _, guard := _ }) (by kernel_rfl) rfl (by rfl) (fun K hK => ?_)
        go_simp
        refine hK _ _ (.inl rfl) ?_
        clear hK K
        (try simp only [Act.put, List.setIfInBounds_toArray, List.set_cons_zero, List.set_cons_succ])
        refine G_done (by kernel_rfl) ?_ _
        exact ⟨rfl, rfl⟩
      case hq =>
      rintro _ rfl
      gi_wp2
      obtain ⟨a1, a2⟩ := three_cells (w := W.drew) (A := H + 3) (.int .i64 (p : Int)) (.int .i64 y) (.int .u8 1) HR4.out
      refine leaves_marks [H + 5 + 1] _ (by simp) (fun q hq => ?_) (fun W9 hm => ?_)
      · simp at hq; subst hq
        exact (a2.2 _ (Array.getElem?_eq_some_iff.1 (show W.drew.heap[H + 5 + 1]? = _ from HMK.out)).1 (fun h => by omega)).trans HMK.out
      · have a3 := (hm.2 (H + 3) (Array.getElem?_eq_some_iff.1 a1).1 (fun h => by simp at h)).trans a1
        refine ⟨_, results_cell_row rfl _ _ (H + 3) _ #[_, _, _] _ _ rfl a3 Tryd.underlying75 rfl rea_size, ?_⟩
        exact ⟨by rw [HR.out]; rfl, Mod.new HIW.out.nw.drew ((a2.mono fun q hq => .inl hq).trans (hm.mono fun q hq => .inr (by simpa using hq))) (O := fun q => q = H + 3 ∨ q = H + 5 + 1) (fun k hk => by rw [HH.out]; omega)⟩
    case hstop =>
      rw [qz]
      rintro done cc W hi hpx hT hmk
      rcases hi.st with ⟨e, _⟩ | ⟨e, q, r4, r5⟩
      case inl => cases e
      obtain rfl : cc = .ret := by simpa using e
      have HIW := Lib.hid hi
      have HR4 := Lib.hid r4
      have HMK := Lib.hid hmk
      rw [r5] at HR
      clear hi r4 r5 hmk hT hpx e
      gi_wp2
      refine leaves_marks [H + 5 + 1] _ (by simp) (fun q hq => ?_) (fun W9 hm => ?_)
      · simp at hq; subst hq; exact HMK.out
      · have a2 := (hm.2 (H + 3) (Array.getElem?_eq_some_iff.1 HR4.out).1 (fun h => by simp at h)).trans HR4.out
        refine ⟨_, results_cell_row rfl _ _ (H + 3) _ #[_, _, _] _ _ rfl a2 Tryd.underlying75 rfl rea_size, ?_⟩
        exact ⟨by rw [HR.out]; rfl, Mod.new HIW.out.nw hm (fun k hk => by simp at hk; rw [hk, HH.out]; omega)⟩
end Go.Proofs.YtiejefehcpfkaaaDoor
