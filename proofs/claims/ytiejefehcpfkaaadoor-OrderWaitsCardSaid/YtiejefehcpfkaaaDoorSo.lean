/- The earliest days of an order, as earliest returns them. -/
import Derived.Test.YtiejefehcpfkaaaDoorSn
import Derived.Deep.OwnRows
set_option linter.unusedSimpArgs false
set_option linter.unusedVariables false
set_option maxRecDepth 100000
namespace Go.Proofs.YtiejefehcpfkaaaDoor
open Go.RowKit Go.Shelf

attribute [local go_sem] Oper.semAt_some

/-- the cells of n numbers -/
def iv (n : Nat) (d : Nat → Int) : List Value := (List.range n).map fun p => .int .i64 (d p)
theorem iv_len (n : Nat) (d : Nat → Int) : (iv n d).length = n := by simp [iv]
theorem iv_at (n : Nat) (d : Nat → Int) (p : Nat) (h : p < n) : (iv n d)[p]? = some (.int .i64 (d p)) := by simp [iv, h]
def updI (d : Nat → Int) (p : Nat) (x : Int) : Nat → Int := fun q => if q = p then x else d q
theorem iv_set (n : Nat) (d : Nat → Int) (p : Nat) (x : Int) : (iv n d).set p (.int .i64 x) = iv n (updI d p x) := by
  apply List.ext_getElem?
  intro i
  rw [List.getElem?_set]
  by_cases hi : i < n
  · rw [iv_at _ _ _ hi, iv_len]
    by_cases e : p = i
    · subst e; rw [iv_at _ _ _ hi]; simp [hi, updI]
    · simp [e, iv_at _ _ _ hi, updI, Ne.symm e]
  · rw [List.getElem?_eq_none (by rw [iv_len]; omega)]
    by_cases e : p = i
    · subst e; simp [iv_len, hi]
    · rw [if_neg e, List.getElem?_eq_none (by rw [iv_len]; omega)]
/-- the block b holds n numbers -/
def Iv (w : World) (b n : Nat) (d : Nat → Int) : Prop := w.heap[b]? = some (.cells (iv n d).toArray 3 (0, 0))
theorem Iv.lt {w : World} {b n : Nat} {d : Nat → Int} (h : Iv w b n d) : b < w.heap.size := (Array.getElem?_eq_some_iff.1 h).1
theorem Iv.at {w : World} {b n : Nat} {d : Nat → Int} (h : Iv w b n d) (p : Nat) (hp : p < n) : w.cell? ⟨b, p, none⟩ = some (.int .i64 (d p)) := by
  rw [cell_of_row w b p _ _ _ h]; simp [iv, hp]
theorem Iv.froz {w : World} {b n : Nat} {d : Nat → Int} (h : Iv w b n d) (p : Nat) : w.frozen? ⟨b, p, none⟩ = false := by
  have h' : w.heap[b]? = _ := h
  simp [World.frozen?, h']
theorem Iv.put {w : World} {b n : Nat} {d : Nat → Int} (h : Iv w b n d) (p : Nat) (x : Int) : Iv (w.setCell ⟨b, p, none⟩ (.int .i64 x)) b n (updI d p x) := by
  unfold Iv; rw [heap_setCell_same _ _ _ _ h]; simp [iv_set]

theorem int_info : (Tryd.prog.info? 3).map (fun i => (i.zero, i.size, i.bytes)) = some (some (.int .i64 0), 1, 8) := by kernel_rfl
theorem made_iv (n : Nat) : madeCells #[Value.int .i64 0] n = (iv n fun _ => 0).toArray := by
  apply Array.ext'
  simp [madeCells, iv]
  intro a _
  rw [Nat.mod_one]; rfl
theorem make_iv (n : Nat) (hn : n ≤ 1000) (W : World) : (Instr.makeSlice 31 (.int .i64 (n : Int)) (.int .i64 (n : Int))).run Tryd.prog W = .ok (.slice (some ⟨W.heap.size, 0, none⟩) n n) (W.alloc (.cells (iv n fun _ => 0).toArray 3)) := by
  have := run_make_row' (P := Tryd.prog) 31 3 (.int .i64 0) 8 Tryd.underlying31 int_info rfl .i64 .i64 n (by omega) (by omega) W
  rw [made_iv] at this
  exact this
def stepQ (dry : Int) (p : Nat) (d : Nat → Int) (q : Nat) : Nat → Int := updI d p (max (d p) (d q + dry + 1))
def erF (G : Gph) (dry : Int) (l : List Int) : Nat → (Nat → Int)
  | 0 => fun _ => 0
  | k + 1 => (bitsOf (G.ne (nI l k).toNat &&& laidF l k)).foldl (stepQ dry (nI l k).toNat) (if k = 0 then erF G dry l k else updI (erF G dry l k) (nI l k).toNat (erF G dry l k (nI l (k - 1)).toNat + 1))
theorem updI_bd {d : Nat → Int} {M x : Int} (h : ∀ p, 0 ≤ d p ∧ d p ≤ M) (hx : 0 ≤ x ∧ x ≤ M) (p q : Nat) : 0 ≤ updI d p x q ∧ updI d p x q ≤ M := by
  unfold updI; split
  · exact hx
  · exact h q

theorem laid_bit {l : List Int} : ∀ {k i : Nat}, (laidF l k).testBit i = true → ∃ j, j < k ∧ (nI l j).toNat = i
  | 0, i, h => by simp [laidF] at h
  | k + 1, i, h => by
    simp only [laidF, Nat.testBit_or, Bool.or_eq_true, Nat.testBit_two_pow, decide_eq_true_eq] at h
    rcases h with h | h
    · obtain ⟨j, hj, e⟩ := laid_bit h; exact ⟨j, by omega, e⟩
    · exact ⟨k, by omega, h⟩
theorem ioB_facts {G : Gph} {l : List Int} (h : ioB G l = true) : l.length = G.n ∧ ∀ k, k < l.length → 0 ≤ nI l k ∧ nI l k < (G.n : Int) := by
  unfold ioB at h
  simp only [Bool.and_eq_true, decide_eq_true_eq] at h
  refine ⟨by omega, fun k hk => ?_⟩
  have := List.all_eq_true.1 h.2 k (List.mem_range.2 hk)
  unfold okO at this
  simp only [Bool.and_eq_true, decide_eq_true_eq] at this
  exact this.1.1
theorem ioB_all {G : Gph} {l : List Int} (h : ioB G l = true) {k : Nat} (hk : k ≤ l.length) : (List.range k).all (okO G l) = true := by
  unfold ioB at h
  simp only [Bool.and_eq_true] at h
  exact List.all_eq_true.2 fun x hx => List.all_eq_true.1 h.2 x (List.mem_range.2 (by have := List.mem_range.1 hx; omega))
theorem stepQ_bd {dry : Int} {p : Nat} {M : Int} (hd : 0 ≤ dry ∧ dry ≤ 30) : ∀ (qs : List Nat) (d : Nat → Int), (∀ q, 0 ≤ d q ∧ (q ≠ p → d q ≤ M)) → d p ≤ M + 31 → p ∉ qs → ∀ q, 0 ≤ (qs.foldl (stepQ dry p) d) q ∧ (q ≠ p → (qs.foldl (stepQ dry p) d) q ≤ M) ∧ (qs.foldl (stepQ dry p) d) p ≤ M + 31
  | [], d, h, hp, _, q => ⟨(h q).1, (h q).2, hp⟩
  | x :: qs, d, h, hp, hm, q => by
    simp only [List.mem_cons, not_or] at hm
    have hx := h x
    have hxM := hx.2 (fun e => hm.1 e.symm)
    refine stepQ_bd hd qs (stepQ dry p d x) (fun q => ?_) ?_ hm.2 q
    · unfold stepQ updI
      split
      · rename_i e; subst e
        have := (h q).1
        exact ⟨by omega, fun h => absurd rfl h⟩
      · exact h q
    · unfold stepQ updI
      simp only [if_true]
      omega
theorem erF_bd {G : Gph} {l : List Int} {dry : Nat} (hd : dry ≤ 30) (hio : ioB G l = true) : ∀ k, k ≤ l.length → ∀ q, 0 ≤ erF G dry l k q ∧ erF G dry l k q ≤ 31 * k
  | 0, _, q => by simp [erF]
  | k + 1, hk, q => by
    have ih := erF_bd hd hio k (by omega)
    have hlen := ioB_facts hio
    have hp0 := hlen.2 k (by omega)
    have hnot : (nI l k).toNat ∉ bitsOf (G.ne (nI l k).toNat &&& laidF l k) := by
      intro hm
      have hb := (bitsOf_mem.1 hm).2
      rw [Nat.testBit_and, Bool.and_eq_true] at hb
      have hall := ioB_all hio (k := k + 1) hk
      rw [all_snoc, Bool.and_eq_true] at hall
      have h2 := hall.2
      unfold okO at h2
      simp only [Bool.and_eq_true, Bool.not_eq_true'] at h2
      rw [h2.1.2] at hb; cases hb.2
    have hM : ((31 * (k + 1) : Nat) : Int) = 31 * (k : Int) + 31 := by omega
    simp only [erF]
    have key := stepQ_bd (dry := (dry : Int)) (p := (nI l k).toNat) (M := 31 * (k : Int)) ⟨by omega, by omega⟩ (bitsOf (G.ne (nI l k).toNat &&& laidF l k)) (if k = 0 then erF G dry l k else updI (erF G dry l k) (nI l k).toNat (erF G dry l k (nI l (k - 1)).toNat + 1)) (fun q => by
      split
      · exact ⟨(ih q).1, fun _ => (ih q).2⟩
      · unfold updI
        split
        · rename_i e; have := ih (nI l (k - 1)).toNat; exact ⟨by omega, fun h => absurd e h⟩
        · exact ⟨(ih q).1, fun _ => (ih q).2⟩) (by
      split
      · have := ih (nI l k).toNat; omega
      · unfold updI; simp only [if_true]; have := ih (nI l (k - 1)).toNat; omega) hnot q
    refine ⟨key.1, ?_⟩
    by_cases e : q = (nI l k).toNat
    · rw [e]; have := key.2.2; omega
    · have := key.2.1 e; omega

def marks (Ds : List Nat) : List Deferred := Ds.map fun D => { target := .collected D, args := #[] }
/-- what stands in memory between two rounds -/
structure EaL (w wr : World) (H : Nat) (G : Gph) (dry : Nat) (d : Nat → Int) (Ds : List Nat) : Prop where
  nw : New w wr
  gr : Gr wr H G
  dr : wr.heap[H + 1]? = some (.cells #[.int .i64 (dry : Int)] 3 (0, 0))
  iv : Iv wr (H + 2) G.n d
  sl : wr.heap[H + 3]? = some (.cells #[.slice (some ⟨H + 2, 0, none⟩) G.n G.n] 31 (0, 0))
  tb : Tab wr
  nd : Ds.Nodup
  mks : ∀ D ∈ Ds, wr.heap[D]? = some (.deferred (some [])) ∧ H + 4 ≤ D
theorem EaL.new {w wr W : World} {H : Nat} {G : Gph} {dry : Nat} {d : Nat → Int} {Ds : List Nat} (h : EaL w wr H G dry d Ds) (hn : New wr W) : EaL w W H G dry d Ds :=
  ⟨h.nw.trans hn, h.gr.new hn, row_new h.dr hn, row_new h.iv hn, row_new h.sl hn, h.tb.new hn, h.nd, fun D hD => ⟨row_new (h.mks D hD).1 hn, (h.mks D hD).2⟩⟩
theorem EaL.put {w wr : World} {H : Nat} {G : Gph} {dry : Nat} {d : Nat → Int} {Ds : List Nat} (h : EaL w wr H G dry d Ds) (hH : w.heap.size = H) (hT : 0 < w.heap.size) (p : Nat) (x : Int) : EaL w (wr.setCell ⟨H + 2, p, none⟩ (.int .i64 x)) H G dry (updI d p x) Ds := by
  have ho : ∀ k o, k ≠ H + 2 → wr.heap[k]? = some o → (wr.setCell ⟨H + 2, p, none⟩ (.int .i64 x)).heap[k]? = some o := fun k o hk h => (heap_setCell_other _ _ _ _ _ hk).trans h
  refine ⟨h.nw.setCell (by rw [hH]; show H ≤ H + 2; omega) _, ho _ _ (by omega) h.gr, ho _ _ (by omega) h.dr, h.iv.put p x, ho _ _ (by omega) h.sl, ?_, h.nd, fun D hD => ⟨ho _ _ (by have := (h.mks D hD).2; omega) (h.mks D hD).1, (h.mks D hD).2⟩⟩
  refine ⟨by have := h.tb.1; show _ < (wr.heap.modify _ _).size; simpa using this, fun j hj => ?_⟩
  have := h.tb.2 j hj
  simp only [World.cell?] at this ⊢
  rw [heap_setCell_other _ _ _ _ _ (show 0 ≠ H + 2 by omega)]; exact this
theorem EaL.low {w W W' : World} {H : Nat} {G : Gph} {dry : Nat} {d : Nat → Int} {Ds : List Nat} {D : Nat} (h : EaL w W H G dry d Ds) (hH : w.heap.size = H) (hT : 0 < w.heap.size) (hl : Low D W W') (hD : H + 4 ≤ D) (hDs : ∀ q ∈ Ds, q < D) : EaL w W' H G dry d Ds :=
  ⟨h.nw.low hl (by omega), hl.at (by omega) h.gr, hl.at (by omega) h.dr, hl.at (by omega) h.iv, hl.at (by omega) h.sl, h.tb.low hl (by omega), h.nd, fun q hq => ⟨hl.at (hDs q hq) (h.mks q hq).1, (h.mks q hq).2⟩⟩
/-- in a loop over neighbours -/
def EaI (w : World) (H : Nat) (G : Gph) (dry : Nat) (d1 : Nat → Int) (p P : Nat) (Ds : List Nat) (done : List Nat) (pc : Option Code) (W : World) : Prop :=
  pc = none ∧ EaL w W H G dry (done.foldl (stepQ dry p) d1) Ds ∧ W.heap[P]? = some (.cells #[.int .i64 (p : Int)] 3 (0, 0))

set_option maxHeartbeats 16000000 in
theorem earliest_c (G : Gph) (dry : Nat) (av : Option Addr) (cap : Nat) (l : List Int) (w : World) (hG : G.ok) (hio : ioB G l = true) (hd : dry ≤ 30) (hP : Ins w av l) (hT : Tab w) :
    Calls Tryd.prog 119 #[.agg G.cells.toArray, .int .i64 (dry : Int), .slice av l.length cap] w fun en w' => ∃ b c, en = .returned (.slice (some ⟨b, 0, none⟩) G.n c) ∧ New w w' ∧ w.heap.size ≤ b ∧ Iv w' b G.n (erF G dry l G.n) := by
  have HOK := Lib.hid hG
  have HT := Lib.hid hT
  have HP := Lib.hid hP
  have HIO := Lib.hid hio
  obtain ⟨hlen, hin⟩ := ioB_facts hio
  have HIN := Lib.hid hin
  have HBD := Lib.hid (fun k (hk : k ≤ l.length) => erF_bd hd hio k hk)
  have HLT := Lib.hid (fun k (hk : k ≤ l.length) => laidF_lt (G := G) (l := l) hG.n24 (ioB_all hio hk))
  have HL0 := Lib.hid (show laidF l 0 = 0 from rfl)
  have HLS := Lib.hid (show ∀ k, laidF l (k + 1) = laidF l k ||| 2 ^ (nI l k).toNat from fun _ => rfl)
  have HLB := Lib.hid (show ∀ k i, (laidF l k).testBit i = true → ∃ j, j < k ∧ (nI l j).toNat = i from fun _ _ => laid_bit)
  have HNT0 := Lib.hid (show ∀ k, k < l.length → (laidF l k).testBit (nI l k).toNat = false from by
    intro k hk
    have hall := ioB_all hio (k := k + 1) (by omega)
    rw [all_snoc, Bool.and_eq_true] at hall
    have h2 := hall.2
    unfold okO at h2
    simp only [Bool.and_eq_true, Bool.not_eq_true'] at h2
    exact h2.1.2)
  have HE0 := Lib.hid (show erF G dry l 0 = fun _ => 0 from rfl)
  have HES := Lib.hid (show ∀ k, erF G dry l (k + 1) = (bitsOf (G.ne (nI l k).toNat &&& laidF l k)).foldl (stepQ dry (nI l k).toNat) (if k = 0 then erF G dry l k else updI (erF G dry l k) (nI l k).toNat (erF G dry l k (nI l (k - 1)).toNat + 1)) from fun _ => rfl)
  obtain ⟨H, hH⟩ : ∃ H, w.heap.size = H := ⟨_, rfl⟩
  have HH := Lib.hid hH
  have c0 := (Gr.box w G).n
  rw [hH] at c0
  have HG0 := Lib.hid (Gr.box w G)
  obtain ⟨GC, hGC⟩ : ∃ GC, GC = G.cells.toArray := ⟨_, rfl⟩
  rw [← hGC] at c0 HG0 ⊢
  have HGC := Lib.hid hGC
  have hn24 := hG.n24
  clear hG hT hGC hP hio hin
  generalize hN : l.length = N at *
  have HNL := Lib.hid hN
  clear hN
  have HLEN := Lib.hid hlen
  clear hlen
  generalize erF G dry l = er at *
  generalize laidF l = la at *
  refine (callsIn_wide (n := 5)).1 ?_
  refine callsIn_of_wp_marks Tryd.func119 rfl trivial ?_ rfl
  simp only [Tryd.ntmps119, List.size_toArray, List.length_cons, List.length_nil, Nat.reduceAdd, Nat.reduceSub, Array.replicate_succ, Array.replicate_zero, List.push_toArray, List.append_toArray, List.nil_append, List.cons_append]
  have hmk := make_iv G.n (by omega)
  gi_wp2
  obtain ⟨WS, HWS⟩ : ∃ WS : World, Hid (WS = (((w.alloc (.cells GC 83)).alloc (.cells #[.int .i64 (dry : Int)] 3)).alloc (.cells (iv G.n fun _ => 0).toArray 3)).alloc (.cells #[.slice (some ⟨H + 2, 0, none⟩) G.n G.n] 31)) := ⟨_, Lib.hid rfl⟩
  have HL0' := Lib.hid (show EaL w WS H G dry (er 0) [] by
    obtain ⟨q1, q2, q3, q4, q5⟩ := alloc4_heap w (.cells GC 83) (.cells #[.int .i64 (dry : Int)] 3) (.cells (iv G.n fun _ => 0).toArray 3) (.cells #[.slice (some ⟨H + 2, 0, none⟩) G.n G.n] 31) H HH.out
    rw [← HWS.out] at q1 q2 q3 q4 q5
    have hn : New w WS := by rw [HWS.out]; exact ((((New.refl _).alloc _).alloc _).alloc _).alloc _
    exact ⟨hn, by rw [HGC.out] at q1; exact q1, q2, by rw [HE0.out]; exact q3, q4, HT.out.new hn, List.nodup_nil, fun D hD => by cases hD⟩)
  have hWS' : ((((w.alloc (.cells GC 83)).alloc (.cells #[.int .i64 (dry : Int)] 3)).alloc (.cells (iv G.n fun _ => 0).toArray 3)).alloc (.cells #[.slice (some ⟨H + 1 + 1, 0, none⟩) G.n G.n] 31)) = WS := by rw [HWS.out]
  rw [hWS']
  clear hWS' c0 hH hmk
  refine wpIn_loop (fun a' w' => ∃ (k : Nat) (Ds : List Nat) (u9 u10 u11 u19 u20 u21 u22 u23 u24 u25 u26 u27 u28 u29 u30 u31 u32 u33 u34 u35 u36 u37 u38 u39 u40 u41 u42 u43 u44 u45 u46 u47 u48 u49 u50 u51 u52 u53 u54 u55 u56 u57 u58 u59 u60 u61 u62 u63 u64 u65 : Value), k ≤ N ∧ EaL w w' H G dry (er k) Ds ∧ a' = { tmps := #[.agg GC, .int .i64 (dry : Int), .slice av N cap, .pointer (some ⟨H, 0, none⟩), .pointer (some ⟨H + 1, 0, none⟩), undef, .slice none 0 0, .pointer (some ⟨H + 1 + 1 + 1, 0, none⟩), sv (la k), u9, u10, u11, .pointer (some ⟨H, 0, none⟩), .pointer (some ⟨H, 0, none⟩), .int .i64 (G.n : Int), .slice (some ⟨H + 1 + 1, 0, none⟩) G.n G.n, .slice av N cap, .int .i64 (N : Int), .int .i64 (k : Int), u19, u20, u21, u22, u23, u24, u25, u26, u27, u28, u29, u30, u31, u32, u33, u34, u35, u36, u37, u38, u39, u40, u41, u42, u43, u44, u45, u46, u47, u48, u49, u50, u51, u52, u53, u54, u55, u56, u57, u58, u59, u60, u61, u62, u63, u64, u65], defers := marks Ds }) (fun a' _ => N - (intOf (a'.tmps.getD 18 undef)).toNat) ?_ ?_
  · exact ⟨0, [], _, _, _, _, _, _, _, _, _, _, _, _, _, _, _, _, _, _, _, _, _, _, _, _, _, _, _, _, _, _, _, _, _, _, _, _, _, _, _, _, _, _, _, _, _, _, _, _, _, _, Nat.zero_le _, HL0'.out, by rw [HL0.out]; rfl⟩
  · rintro a' wr ⟨k, Ds, u9, u10, u11, u19, u20, u21, u22, u23, u24, u25, u26, u27, u28, u29, u30, u31, u32, u33, u34, u35, u36, u37, u38, u39, u40, u41, u42, u43, u44, u45, u46, u47, u48, u49, u50, u51, u52, u53, u54, u55, u56, u57, u58, u59, u60, u61, u62, u63, u64, u65, hkN, hL, rfl⟩
    have HL := Lib.hid hL
    clear hL
    have hN24 : N ≤ 24 := by rw [HLEN.out]; exact hn24
    by_cases hlt : k < N
    · obtain ⟨b0, off, rfl, gl, hcc⟩ := HP.out.new HL.out.nw (by rw [HNL.out]; omega)
      have c1 := hcc k (by rw [HNL.out]; omega)
      have hk1 : (k : Int) < (N : Int) := by omega
      have hin := HIN.out k hlt
      have HPR := Lib.hid (fun (h : 0 < k) => hcc (k - 1) (by rw [HNL.out]; omega))
      have HINP := Lib.hid (fun (h : 0 < k) => HIN.out (k - 1) (by omega))
      have HESk := Lib.hid (HES.out k)
      have HLSk := Lib.hid (HLS.out k)
      have hlk := HLT.out k (by omega)
      have HNT := Lib.hid (HNT0.out k hlt)
      clear hcc
      obtain ⟨p, hp⟩ : ∃ p : Nat, nI l k = p := ⟨(nI l k).toNat, by omega⟩
      rw [hp] at c1 hin HESk HLSk HNT
      simp only [Int.toNat_natCast] at HESk HLSk HNT
      have hpn : p < G.n := by omega
      have p24 : p < 24 := by omega
      have p24' : (p : Int) < 24 := by omega
      have pn' : (p : Int) < (G.n : Int) := hin.2
      clear hp hin
      dsimp only
      obtain ⟨s, hs⟩ : ∃ s, G.ne p &&& la k = s := ⟨_, rfl⟩
      have hs32 : s < 4294967296 := by rw [← hs]; exact Nat.lt_of_le_of_lt Nat.and_le_right hlk
      have HAND := Lib.hid (and32 (G.ne p) (la k) (HOK.out.ne p) hlk)
      rw [hs] at HESk HAND
      have HSB := Lib.hid (show ∀ x, x ∈ bitsOf s → x < G.n ∧ x ≠ p ∧ x < 24 from by
        intro x hx
        have hb := (bitsOf_mem.1 hx).2
        rw [← hs, Nat.testBit_and, Bool.and_eq_true] at hb
        obtain ⟨j, hj, e⟩ := HLB.out k x hb.2
        have hj2 := HIN.out j (by omega)
        refine ⟨by omega, fun e2 => ?_, by omega⟩
        rw [e2] at hb
        have := HNT.out
        rw [hb.2] at this; cases this)
      have HS32 := Lib.hid hs32
      have HPC := Lib.hid (fun (w1 : World) => (callsIn_wide (n := 4)).2 (patches_c s w1))
      clear hs hs32
      obtain ⟨P, hP⟩ : ∃ P, wr.heap.size = P := ⟨_, rfl⟩
      have HP0 := Lib.hid hP
      have HPH := Lib.hid (show H + 4 ≤ P from by
        rw [← hP]; have := (Array.getElem?_eq_some_iff.1 HL.out.sl).1; omega)
      have hBD := HBD.out k (by omega)
      have HDS := Lib.hid (show ∀ D ∈ Ds, D < P from fun D hD => by rw [← hP]; exact (Array.getElem?_eq_some_iff.1 (HL.out.mks D hD).1).1)
      rcases Nat.eq_zero_or_pos k with hk0 | hk0
      · have hgk : ¬ (0 : Int) < (k : Int) := by omega
        rw [if_pos hk0] at HESk
        have e1 : (wr.alloc (.cells #[.int .i64 (p : Int)] 3)).cell? ⟨H, 75 + p, none⟩ = some (sv (G.ne p)) := by rw [(HL.out.gr.new ((New.refl wr).alloc _)).cell]; exact Gph.at_ne _ p p24
        generalize hD1 : er k = D1 at *
        have HB1 := Lib.hid (show (∀ q, 0 ≤ D1 q ∧ (q ≠ p → D1 q ≤ 31 * (k : Int))) ∧ D1 p ≤ 31 * (k : Int) + 31 from ⟨fun q => ⟨(hBD q).1, fun _ => (hBD q).2⟩, by have := (hBD p).2; omega⟩)
        clear hk0 hBD hD1
        gi_wp2
        rw [HAND.out]
        refine ⟨trivial, ?_⟩
        gi_at_call 89
        refine (HPC.out _).mono ?_
        rintro e w2 ⟨rfl, rfl⟩
        obtain ⟨U, HUE⟩ : ∃ U : World, Hid (U = wr.alloc (.cells #[.int .i64 (p : Int)] 3)) := ⟨_, Lib.hid rfl⟩
        rw [← HUE.out]
        have HPB := Lib.hid (show U.heap[P]? = some (.cells #[.int .i64 (p : Int)] 3 (0, 0)) by rw [HUE.out, ← HP0.out]; exact World.alloc_heap_new wr _)
        have HLU := Lib.hid (show EaL w U H G dry D1 Ds by rw [HUE.out]; exact HL.out.new ((New.refl _).alloc _))
        clear hP e1 HUE
        gi_wp2
        obtain ⟨WQ, HWQ⟩ : ∃ WQ : World, Hid (WQ = U.alloc (.cells #[sv s] 79)) := ⟨_, Lib.hid rfl⟩
        rw [← HWQ.out]
        obtain ⟨q4, q5⟩ : WQ.heap[U.heap.size]? = some (.cells #[sv s] 79 (0, 0)) ∧ WQ.heap.size = U.heap.size + 1 := by rw [HWQ.out]; exact ⟨World.alloc_heap_new U _, by simp⟩
        have hQn : New U WQ := by rw [HWQ.out]; exact (New.refl U).alloc _
        have hUP : P < U.heap.size := (Array.getElem?_eq_some_iff.1 HPB.out).1
        obtain ⟨D, hD⟩ : ∃ D, WQ.heap.size = D := ⟨_, rfl⟩
        have HPD := Lib.hid (show P < D from by omega)
        have HI0 := Lib.hid (show EaI w H G dry D1 p P Ds [] none WQ from ⟨rfl, HLU.out.new hQn, row_new HPB.out hQn⟩)
        have HDD := Lib.hid hD
        clear hQn hUP q5
        refine range_set (n := 5) (by omega) s U.heap.size HS32.out rfl q4 HI0.out.2.1.tb rfl (fun k => k = H + 2) (fun k hk => ⟨by have := HPD.out; have := HPH.out; rw [hk, hD]; omega, by have := HT.out.1; rw [HH.out] at this; omega⟩) (EaI w H G dry D1 p P Ds) ?hI HI0.out ?hbody ?hdone ?hstop
        case hI =>
          rintro done pc W W' ⟨i1, i2, i3⟩ hl
          rw [hD] at hl
          exact ⟨i1, i2.low HH.out HT.out.1 hl (by have := HPD.out; have := HPH.out; omega) (fun x hx => by have := HDS.out x hx; have := HPD.out; omega), hl.at HPD.out i3⟩
        case hbody =>
          intro m done x rest W hdd hi hT _ hsz _
          rw [hD] at hsz
          have HSZ := Lib.hid hsz
          have hx := HSB.out x (by rw [← hdd]; simp)
          have hxn := hx.1
          have hxn' : (x : Int) < (G.n : Int) := by omega
          have hpd : p ∉ done := fun h => (HSB.out p (by rw [← hdd]; simp [h])).2.1 rfl
          have HFB := Lib.hid (stepQ_bd (dry := (dry : Int)) (p := p) (M := 31 * (k : Int)) ⟨by omega, by omega⟩ done D1 HB1.out.1 HB1.out.2 hpd)
          have HFX := Lib.hid (show (done ++ [x]).foldl (stepQ (dry : Int) p) D1 = updI (done.foldl (stepQ (dry : Int) p) D1) p (max ((done.foldl (stepQ (dry : Int) p) D1) p) ((done.foldl (stepQ (dry : Int) p) D1) x + dry + 1)) by rw [List.foldl_append]; rfl)
          have hb1 := HFB.out x
          have hb2 := HFB.out p
          have hxp := hx.2.1
          clear hdd hi hT hsz hx hpd
          rw [hD]
          gi_wp2
          refine ⟨trivial, ?_⟩
          intro W2 hl2 hs2 hT2 hi2
          have HI2 := Lib.hid hi2
          clear hl2 hs2 hT2 hi2
          obtain ⟨d, hd'⟩ : ∃ d, done.foldl (stepQ (dry : Int) p) D1 = d := ⟨_, rfl⟩
          rw [hd'] at hb1 hb2 HFX
          have hM1 := hb1.2.1 hxp
          have hx0 := hb1.1
          have hp0 := hb2.1
          have hp1 := hb2.2.2
          have hw1 : IntKind.i64.wrap (d x + (dry : Int)) = d x + (dry : Int) := IntWalk.i64_in _ (by omega)
          have hw2 : IntKind.i64.wrap (d x + (dry : Int) + 1) = d x + (dry : Int) + 1 := IntWalk.i64_in _ (by omega)
          have hEL : EaL w W2 H G dry d Ds := hd' ▸ HI2.out.2.1
          have hS : W2.cell? ⟨H + 1 + 1 + 1, 0, none⟩ = some (.slice (some ⟨H + 1 + 1, 0, none⟩) G.n G.n) ∧ W2.cell? ⟨P, 0, none⟩ = some (.int .i64 (p : Int)) ∧ W2.cell? ⟨H + 1 + 1, p, none⟩ = some (.int .i64 (d p)) ∧ W2.cell? ⟨H + 1 + 1, x, none⟩ = some (.int .i64 (d x)) ∧ W2.cell? ⟨H + 1, 0, none⟩ = some (.int .i64 (dry : Int)) ∧ W2.frozen? ⟨H + 1 + 1, p, none⟩ = false :=
            ⟨(box_cell hEL.sl).1, (box_cell HI2.out.2.2).1, hEL.iv.at p hpn, hEL.iv.at x hxn, (box_cell hEL.dr).1, hEL.iv.froz p⟩
          have HEL := Lib.hid hEL
          clear hEL hd' hb1 hb2 HI0 HB1
          gi_wp2
          apply region_last 15 (fun w' => w'.cell? ⟨H + 1 + 1 + 1, 0, none⟩ = some (.slice (some ⟨H + 1 + 1, 0, none⟩) G.n G.n) ∧ w'.cell? ⟨P, 0, none⟩ = some (.int .i64 (p : Int)) ∧ w'.cell? ⟨H + 1 + 1, p, none⟩ = some (.int .i64 (d p)) ∧ w'.cell? ⟨H + 1 + 1, x, none⟩ = some (.int .i64 (d x)) ∧ w'.cell? ⟨H + 1, 0, none⟩ = some (.int .i64 (dry : Int)) ∧ w'.frozen? ⟨H + 1 + 1, p, none⟩ = false) (fun w' => w' = W2.drew.setCell ⟨H + 1 + 1, p, none⟩ (.int .i64 (max (d p) (d x + (dry : Int) + 1)))) (by kernel_rfl) (by kernel_rfl)
          case h =>
            have hHeld := (show _ from hS)
            refine G_take (i := 0) (x := { dst := some 45, op := _, type := _, pos := _, after := _, guard := _ }) (v := ?_) rfl (by kernel_rfl) (by kernel_rfl) (by kernel_rfl) (by kernel_rfl) (fun _ _ _ h => h) (Or.inl ⟨by rfl, (by intro w hSw; (try dsimp only at hSw); go_simp; try with_reducible rfl)⟩) hHeld ?_
            (try simp only [Act.put, List.setIfInBounds_toArray, List.set_cons_zero, List.set_cons_succ])
            refine G_take (i := 1) (x := { dst := some 46, op := _, type := _, pos := _, after := _, guard := _ }) (v := ?_) rfl (by kernel_rfl) (by kernel_rfl) (by kernel_rfl) (by kernel_rfl) (fun _ _ _ h => h) (Or.inl ⟨by rfl, (by intro w hSw; (try dsimp only at hSw); go_simp; try with_reducible rfl)⟩) hHeld ?_
            (try simp only [Act.put, List.setIfInBounds_toArray, List.set_cons_zero, List.set_cons_succ])
            refine G_take (i := 2) (x := { dst := some 47, op := _, type := _, pos := _, after := _, guard := _ }) (v := ?_) rfl (by kernel_rfl) (by kernel_rfl) (by kernel_rfl) (by kernel_rfl) (fun _ _ _ h => h) (Or.inl ⟨by rfl, (by intro w hSw; (try dsimp only at hSw); go_simp; try with_reducible rfl)⟩) hHeld ?_
            (try simp only [Act.put, List.setIfInBounds_toArray, List.set_cons_zero, List.set_cons_succ])
            refine G_take (i := 3) (x := { dst := some 48, op := _, type := _, pos := _, after := _, guard := _ }) (v := ?_) rfl (by kernel_rfl) (by kernel_rfl) (by kernel_rfl) (by kernel_rfl) (fun _ _ _ h => h) (Or.inl ⟨by rfl, (by intro w hSw; (try dsimp only at hSw); go_simp; try with_reducible rfl)⟩) hHeld ?_
            (try simp only [Act.put, List.setIfInBounds_toArray, List.set_cons_zero, List.set_cons_succ])
            refine G_take (i := 4) (x := { dst := some 49, op := _, type := _, pos := _, after := _, guard := _ }) (v := ?_) rfl (by kernel_rfl) (by kernel_rfl) (by kernel_rfl) (by kernel_rfl) (fun _ _ _ h => h) (Or.inl ⟨by rfl, (by intro w hSw; (try dsimp only at hSw); go_simp; try with_reducible rfl)⟩) hHeld ?_
            (try simp only [Act.put, List.setIfInBounds_toArray, List.set_cons_zero, List.set_cons_succ])
            refine G_take (i := 5) (x := { dst := some 50, op := _, type := _, pos := _, after := _, guard := _ }) (v := ?_) rfl (by kernel_rfl) (by kernel_rfl) (by kernel_rfl) (by kernel_rfl) (fun _ _ _ h => h) (Or.inl ⟨by rfl, (by intro w hSw; (try dsimp only at hSw); go_simp; try with_reducible rfl)⟩) hHeld ?_
            (try simp only [Act.put, List.setIfInBounds_toArray, List.set_cons_zero, List.set_cons_succ])
            refine G_take (i := 6) (x := { dst := some 51, op := _, type := _, pos := _, after := _, guard := _ }) (v := ?_) rfl (by kernel_rfl) (by kernel_rfl) (by kernel_rfl) (by kernel_rfl) (fun _ _ _ h => h) (Or.inl ⟨by rfl, (by intro w hSw; (try dsimp only at hSw); go_simp; try with_reducible rfl)⟩) hHeld ?_
            (try simp only [Act.put, List.setIfInBounds_toArray, List.set_cons_zero, List.set_cons_succ])
            refine G_take (i := 7) (x := { dst := some 52, op := _, type := _, pos := _, after := _, guard := _ }) (v := ?_) rfl (by kernel_rfl) (by kernel_rfl) (by kernel_rfl) (by kernel_rfl) (fun _ _ _ h => h) (Or.inl ⟨by rfl, (by intro w hSw; (try dsimp only at hSw); go_simp; try with_reducible rfl)⟩) hHeld ?_
            (try simp only [Act.put, List.setIfInBounds_toArray, List.set_cons_zero, List.set_cons_succ])
            refine G_take (i := 8) (x := { dst := some 53, op := _, type := _, pos := _, after := _, guard := _ }) (v := ?_) rfl (by kernel_rfl) (by kernel_rfl) (by kernel_rfl) (by kernel_rfl) (fun _ _ _ h => h) (Or.inl ⟨by rfl, (by intro w hSw; (try dsimp only at hSw); go_simp; try with_reducible rfl)⟩) hHeld ?_
            (try simp only [Act.put, List.setIfInBounds_toArray, List.set_cons_zero, List.set_cons_succ])
            refine G_take (i := 9) (x := { dst := some 54, op := _, type := _, pos := _, after := _, guard := _ }) (v := ?_) rfl (by kernel_rfl) (by kernel_rfl) (by kernel_rfl) (by kernel_rfl) (fun _ _ _ h => h) (Or.inl ⟨by rfl, (by intro w hSw; (try dsimp only at hSw); go_simp; try with_reducible rfl)⟩) hHeld ?_
            (try simp only [Act.put, List.setIfInBounds_toArray, List.set_cons_zero, List.set_cons_succ])
            refine G_take (i := 10) (x := { dst := some 55, op := _, type := _, pos := _, after := _, guard := _ }) (v := ?_) rfl (by kernel_rfl) (by kernel_rfl) (by kernel_rfl) (by kernel_rfl) (fun _ _ _ h => h) (Or.inl ⟨by rfl, (by intro w hSw; (try dsimp only at hSw); go_simp; try with_reducible rfl)⟩) hHeld ?_
            (try simp only [Act.put, List.setIfInBounds_toArray, List.set_cons_zero, List.set_cons_succ])
            refine G_take (i := 11) (x := { dst := some 56, op := _, type := _, pos := _, after := _, guard := _ }) (v := ?_) rfl (by kernel_rfl) (by kernel_rfl) (by kernel_rfl) (by kernel_rfl) (fun _ _ _ h => h) (Or.inl ⟨by rfl, (by intro w hSw; (try dsimp only at hSw); go_simp; try with_reducible rfl)⟩) hHeld ?_
            (try simp only [Act.put, List.setIfInBounds_toArray, List.set_cons_zero, List.set_cons_succ])
            refine G_take (i := 12) (x := { dst := some 57, op := _, type := _, pos := _, after := _, guard := _ }) (v := ?_) rfl (by kernel_rfl) (by kernel_rfl) (by kernel_rfl) (by kernel_rfl) (fun _ _ _ h => h) (Or.inl ⟨by rfl, (by intro w hSw; (try dsimp only at hSw); go_simp; try with_reducible rfl)⟩) hHeld ?_
            (try simp only [Act.put, List.setIfInBounds_toArray, List.set_cons_zero, List.set_cons_succ])
            refine G_take (i := 13) (x := { dst := some 58, op := _, type := _, pos := _, after := _, guard := _ }) (v := ?_) rfl (by kernel_rfl) (by kernel_rfl) (by kernel_rfl) (by kernel_rfl) (fun _ _ _ h => h) (Or.inl ⟨by rfl, (by intro w hSw; (try dsimp only at hSw); go_simp; try with_reducible rfl)⟩) hHeld ?_
            (try simp only [Act.put, List.setIfInBounds_toArray, List.set_cons_zero, List.set_cons_succ])
            refine G_take (i := 14) (x := { dst := some 59, op := _, type := _, pos := _, after := _, guard := _ }) (v := ?_) rfl (by kernel_rfl) (by kernel_rfl) (by kernel_rfl) (by kernel_rfl) (fun _ _ _ h => h) (Or.inl ⟨by rfl, (by intro w hSw; (try dsimp only at hSw); go_simp; try with_reducible rfl)⟩) hHeld ?_
            (try simp only [Act.put, List.setIfInBounds_toArray, List.set_cons_zero, List.set_cons_succ])
            refine G_one (i := 15) (x := { dst := none, op := _, type := _, pos := _, after := _, guard := _ }) (by kernel_rfl) rfl (by rfl) (fun K hK => ?_)
            go_simp
            refine hK _ _ (.inl rfl) ?_
            clear hK K
            (try simp only [Act.put, List.setIfInBounds_toArray, List.set_cons_zero, List.set_cons_succ])
            refine G_done (by kernel_rfl) ?_ _
            exact ⟨rfl, rfl⟩
          case hq =>
          rintro _ rfl
          gi_wp2
          refine RoundS.on ((Mod.of_new (New.refl W2).drew).trans (Mod.setCell _ _ _ _ rfl)) ⟨rfl, ?_, ?_⟩
          · rw [HFX.out]; exact (HEL.out.new (New.refl W2).drew).put HH.out HT.out.1 p _
          · exact (heap_setCell_other _ _ _ _ _ (show P ≠ H + 2 by have := HPH.out; omega)).trans HI2.out.2.2
        case hdone =>
          rintro W ⟨_, i2, i3⟩ hT hmk
          rw [hD] at hmk
          rw [← HESk.out] at i2
          have HEW := Lib.hid i2
          have HMK := Lib.hid hmk
          have e2 : W.cell? ⟨P, 0, none⟩ = some (.int .i64 (p : Int)) := (box_cell i3).1
          have HORR := Lib.hid (or32 (la k) (2 ^ p) hlk (pow_lt p (by omega)))
          have HSI := Lib.hid (fun (w1 : World) => (callsIn_wide (n := 4)).2 (single_c p w1 (by omega)))
          generalize 2 ^ p = X at *
          clear i2 i3 hT hmk HI0 HB1 HLU
          rw [hD]
          gi_wp2
          refine ⟨trivial, ?_⟩
          gi_at_call 91
          refine (HSI.out _).mono ?_
          rintro e w5 ⟨rfl, n5⟩
          have HE5 := Lib.hid (HEW.out.new n5)
          have HM5 := Lib.hid (row_new HMK.out n5)
          have hwk1 : IntKind.i64.wrap ((k : Int) + 1) = (k : Int) + 1 := IntWalk.i64_in _ (by omega)
          clear n5 e2
          gi_wp2
          rw [HORR.out]
          refine ⟨⟨k + 1, D :: Ds, _, _, _, _, _, _, _, _, _, _, _, _, _, _, _, _, _, _, _, _, _, _, _, _, _, _, _, _, _, _, _, _, _, _, _, _, _, _, _, _, _, _, _, _, _, _, _, _, _, _, by omega, ⟨HE5.out.nw, HE5.out.gr, HE5.out.dr, HE5.out.iv, HE5.out.sl, HE5.out.tb, List.nodup_cons.2 ⟨fun h => by have := HDS.out D h; have := HPD.out; omega, HE5.out.nd⟩, fun x hx => ?_⟩, by rw [HLSk.out]; rfl⟩, ?_⟩
          · rcases List.mem_cons.1 hx with e | hx
            · rw [e]; exact ⟨HM5.out, by have := HPD.out; have := HPH.out; omega⟩
            · exact HE5.out.mks x hx
          · show N - ((k : Int) + 1).toNat < N - ((k : Int)).toNat
            omega
        case hstop =>
          rintro done c W ⟨i1, _⟩
          cases i1
      · have hgk : (0 : Int) < (k : Int) := by omega
        have hkn : (k : Int) - 1 = ((k - 1 : Nat) : Int) := by omega
        have hwk : IntKind.i64.wrap ((k - 1 : Nat) : Int) = ((k - 1 : Nat) : Int) := IntWalk.i64_in _ (by omega)
        have c2 := HPR.out hk0
        have hinp := HINP.out hk0
        obtain ⟨q, hq⟩ : ∃ q : Nat, nI l (k - 1) = q := ⟨(nI l (k - 1)).toNat, by omega⟩
        rw [hq] at c2 hinp HESk
        rw [if_neg (by omega)] at HESk
        simp only [Int.toNat_natCast] at HESk
        have hkN2 : ((k - 1 : Nat) : Int) < (N : Int) := by omega
        have hqn : (q : Int) < (G.n : Int) := hinp.2
        have hqn' : q < G.n := by omega
        clear hinp hq
        have hdq := hBD q
        have hdq1 : 0 ≤ er k q + 1 ∧ er k q + 1 ≤ 9223372036854775807 := by omega
        have hwd : IntKind.i64.wrap (er k q + 1) = er k q + 1 := IntWalk.i64_in _ (by omega)
        gi_wp2
        clear hP
        obtain ⟨V, HVE⟩ : ∃ V : World, Hid (V = wr.alloc (.cells #[.int .i64 (p : Int)] 3)) := ⟨_, Lib.hid rfl⟩
        rw [← HVE.out]
        have HPB0 := Lib.hid (show V.heap[P]? = some (.cells #[.int .i64 (p : Int)] 3 (0, 0)) by rw [HVE.out, ← HP0.out]; exact World.alloc_heap_new wr _)
        have HLV := Lib.hid (show EaL w V H G dry (er k) Ds by rw [HVE.out]; exact HL.out.new ((New.refl _).alloc _))
        have hS : V.cell? ⟨H + 1 + 1 + 1, 0, none⟩ = some (.slice (some ⟨H + 1 + 1, 0, none⟩) G.n G.n) ∧ V.cell? ⟨P, 0, none⟩ = some (.int .i64 (p : Int)) ∧ V.cell? ⟨b0, off + (k - 1), none⟩ = some (.int .i64 (q : Int)) ∧ V.cell? ⟨H + 1 + 1, q, none⟩ = some (.int .i64 (er k q)) ∧ V.cell? ⟨H + 1 + 1, p, none⟩ = some (.int .i64 (er k p)) ∧ V.frozen? ⟨H + 1 + 1, p, none⟩ = false := by
          refine ⟨(box_cell HLV.out.sl).1, (box_cell HPB0.out).1, ?_, HLV.out.iv.at q hqn', HLV.out.iv.at p hpn, HLV.out.iv.froz p⟩
          rw [HVE.out]; exact (((New.refl wr).alloc _).cell gl).trans c2
        clear c1 c2
        apply region_last0 12 (fun w' => w'.cell? ⟨H + 1 + 1 + 1, 0, none⟩ = some (.slice (some ⟨H + 1 + 1, 0, none⟩) G.n G.n) ∧ w'.cell? ⟨P, 0, none⟩ = some (.int .i64 (p : Int)) ∧ w'.cell? ⟨b0, off + (k - 1), none⟩ = some (.int .i64 (q : Int)) ∧ w'.cell? ⟨H + 1 + 1, q, none⟩ = some (.int .i64 (er k q)) ∧ w'.cell? ⟨H + 1 + 1, p, none⟩ = some (.int .i64 (er k p)) ∧ w'.frozen? ⟨H + 1 + 1, p, none⟩ = false) (fun w' => w' = V.drew.setCell ⟨H + 1 + 1, p, none⟩ (.int .i64 (er k q + 1))) (by kernel_rfl)
        case h =>
          have hHeld := (show _ from hS)
          refine G_take (i := 0) (x := { dst := some 25, op := _, type := _, pos := _, after := _, guard := _ }) (v := ?_) rfl (by kernel_rfl) (by kernel_rfl) (by kernel_rfl) (by kernel_rfl) (fun _ _ _ h => h) (Or.inl ⟨by rfl, (by intro w hSw; (try dsimp only at hSw); go_simp; try with_reducible rfl)⟩) hHeld ?_
          (try simp only [Act.put, List.setIfInBounds_toArray, List.set_cons_zero, List.set_cons_succ])
          refine G_take (i := 1) (x := { dst := some 26, op := _, type := _, pos := _, after := _, guard := _ }) (v := ?_) rfl (by kernel_rfl) (by kernel_rfl) (by kernel_rfl) (by kernel_rfl) (fun _ _ _ h => h) (Or.inl ⟨by rfl, (by intro w hSw; (try dsimp only at hSw); go_simp; try with_reducible rfl)⟩) hHeld ?_
          (try simp only [Act.put, List.setIfInBounds_toArray, List.set_cons_zero, List.set_cons_succ])
          refine G_take (i := 2) (x := { dst := some 27, op := _, type := _, pos := _, after := _, guard := _ }) (v := ?_) rfl (by kernel_rfl) (by kernel_rfl) (by kernel_rfl) (by kernel_rfl) (fun _ _ _ h => h) (Or.inl ⟨by rfl, (by intro w hSw; (try dsimp only at hSw); go_simp; try with_reducible rfl)⟩) hHeld ?_
          (try simp only [Act.put, List.setIfInBounds_toArray, List.set_cons_zero, List.set_cons_succ])
          refine G_take (i := 3) (x := { dst := some 28, op := _, type := _, pos := _, after := _, guard := _ }) (v := ?_) rfl (by kernel_rfl) (by kernel_rfl) (by kernel_rfl) (by kernel_rfl) (fun _ _ _ h => h) (Or.inl ⟨by rfl, (by intro w hSw; (try dsimp only at hSw); go_simp; try with_reducible rfl)⟩) hHeld ?_
          (try simp only [Act.put, List.setIfInBounds_toArray, List.set_cons_zero, List.set_cons_succ])
          refine G_take (i := 4) (x := { dst := some 29, op := _, type := _, pos := _, after := _, guard := _ }) (v := ?_) rfl (by kernel_rfl) (by kernel_rfl) (by kernel_rfl) (by kernel_rfl) (fun _ _ _ h => h) (Or.inl ⟨by rfl, (by intro w hSw; (try dsimp only at hSw); go_simp; try with_reducible rfl)⟩) hHeld ?_
          (try simp only [Act.put, List.setIfInBounds_toArray, List.set_cons_zero, List.set_cons_succ])
          refine G_take (i := 5) (x := { dst := some 30, op := _, type := _, pos := _, after := _, guard := _ }) (v := ?_) rfl (by kernel_rfl) (by kernel_rfl) (by kernel_rfl) (by kernel_rfl) (fun _ _ _ h => h) (Or.inl ⟨by rfl, (by intro w hSw; (try dsimp only at hSw); go_simp; try with_reducible rfl)⟩) hHeld ?_
          (try simp only [Act.put, List.setIfInBounds_toArray, List.set_cons_zero, List.set_cons_succ])
          refine G_take (i := 6) (x := { dst := some 31, op := _, type := _, pos := _, after := _, guard := _ }) (v := ?_) rfl (by kernel_rfl) (by kernel_rfl) (by kernel_rfl) (by kernel_rfl) (fun _ _ _ h => h) (Or.inl ⟨by rfl, (by intro w hSw; (try dsimp only at hSw); go_simp; try with_reducible rfl)⟩) hHeld ?_
          (try simp only [Act.put, List.setIfInBounds_toArray, List.set_cons_zero, List.set_cons_succ])
          refine G_take (i := 7) (x := { dst := some 32, op := _, type := _, pos := _, after := _, guard := _ }) (v := ?_) rfl (by kernel_rfl) (by kernel_rfl) (by kernel_rfl) (by kernel_rfl) (fun _ _ _ h => h) (Or.inl ⟨by rfl, (by intro w hSw; (try dsimp only at hSw); go_simp; try with_reducible rfl)⟩) hHeld ?_
          (try simp only [Act.put, List.setIfInBounds_toArray, List.set_cons_zero, List.set_cons_succ])
          refine G_take (i := 8) (x := { dst := some 33, op := _, type := _, pos := _, after := _, guard := _ }) (v := ?_) rfl (by kernel_rfl) (by kernel_rfl) (by kernel_rfl) (by kernel_rfl) (fun _ _ _ h => h) (Or.inl ⟨by rfl, (by intro w hSw; (try dsimp only at hSw); go_simp; try with_reducible rfl)⟩) hHeld ?_
          (try simp only [Act.put, List.setIfInBounds_toArray, List.set_cons_zero, List.set_cons_succ])
          refine G_take (i := 9) (x := { dst := some 34, op := _, type := _, pos := _, after := _, guard := _ }) (v := ?_) rfl (by kernel_rfl) (by kernel_rfl) (by kernel_rfl) (by kernel_rfl) (fun _ _ _ h => h) (Or.inl ⟨by rfl, (by intro w hSw; (try dsimp only at hSw); go_simp; try with_reducible rfl)⟩) hHeld ?_
          (try simp only [Act.put, List.setIfInBounds_toArray, List.set_cons_zero, List.set_cons_succ])
          refine G_take (i := 10) (x := { dst := some 35, op := _, type := _, pos := _, after := _, guard := _ }) (v := ?_) rfl (by kernel_rfl) (by kernel_rfl) (by kernel_rfl) (by kernel_rfl) (fun _ _ _ h => h) (Or.inl ⟨by rfl, (by intro w hSw; (try dsimp only at hSw); go_simp; try with_reducible rfl)⟩) hHeld ?_
          (try simp only [Act.put, List.setIfInBounds_toArray, List.set_cons_zero, List.set_cons_succ])
          refine G_take (i := 11) (x := { dst := some 36, op := _, type := _, pos := _, after := _, guard := _ }) (v := ?_) rfl (by kernel_rfl) (by kernel_rfl) (by kernel_rfl) (by kernel_rfl) (fun _ _ _ h => h) (Or.inl ⟨by rfl, (by intro w hSw; (try dsimp only at hSw); go_simp; try with_reducible rfl)⟩) hHeld ?_
          (try simp only [Act.put, List.setIfInBounds_toArray, List.set_cons_zero, List.set_cons_succ])
          refine G_one (i := 12) (x := { dst := none, op := _, type := _, pos := _, after := _, guard := _ }) (by kernel_rfl) rfl (by rfl) (fun K hK => ?_)
          go_simp
          refine hK _ _ (.inl rfl) ?_
          clear hK K
          (try simp only [Act.put, List.setIfInBounds_toArray, List.set_cons_zero, List.set_cons_succ])
          refine G_done (by kernel_rfl) ?_ _
          exact ⟨rfl, rfl⟩
        case hq =>
        rintro _ rfl
        obtain ⟨U, HUE⟩ : ∃ U : World, Hid (U = V.drew.setCell ⟨H + 1 + 1, p, none⟩ (.int .i64 (er k q + 1))) := ⟨_, Lib.hid rfl⟩
        rw [← HUE.out]
        have HPB := Lib.hid (show U.heap[P]? = some (.cells #[.int .i64 (p : Int)] 3 (0, 0)) by rw [HUE.out]; exact (heap_setCell_other _ _ _ _ _ (show P ≠ H + 2 by have := HPH.out; omega)).trans HPB0.out)
        have HLU := Lib.hid (show EaL w U H G dry (updI (er k) p (er k q + 1)) Ds by rw [HUE.out]; exact (HLV.out.new (New.refl V).drew).put HH.out HT.out.1 p _)
        have HB1 := Lib.hid (show (∀ x, 0 ≤ updI (er k) p (er k q + 1) x ∧ (x ≠ p → updI (er k) p (er k q + 1) x ≤ 31 * (k : Int))) ∧ updI (er k) p (er k q + 1) p ≤ 31 * (k : Int) + 31 from by
          refine ⟨fun x => ?_, by unfold updI; rw [if_pos rfl]; omega⟩
          unfold updI
          split
          · rename_i e; exact ⟨by omega, fun h => absurd e h⟩
          · exact ⟨(hBD x).1, fun _ => (hBD x).2⟩)
        generalize updI (er k) p (er k q + 1) = D1 at *
        have e1 : U.cell? ⟨H, 75 + p, none⟩ = some (sv (G.ne p)) := by rw [HLU.out.gr.cell]; exact Gph.at_ne _ p p24
        have e2 : U.cell? ⟨P, 0, none⟩ = some (.int .i64 (p : Int)) := (box_cell HPB.out).1
        clear hS HVE HUE HPB0 HLV hdq hdq1 hwd hBD
        gi_wp2
        rw [HAND.out]
        refine ⟨trivial, ?_⟩
        gi_at_call 89
        refine (HPC.out _).mono ?_
        rintro e w2 ⟨rfl, rfl⟩
        clear e1 e2
        gi_wp2
        obtain ⟨WQ, HWQ⟩ : ∃ WQ : World, Hid (WQ = U.alloc (.cells #[sv s] 79)) := ⟨_, Lib.hid rfl⟩
        rw [← HWQ.out]
        obtain ⟨q4, q5⟩ : WQ.heap[U.heap.size]? = some (.cells #[sv s] 79 (0, 0)) ∧ WQ.heap.size = U.heap.size + 1 := by rw [HWQ.out]; exact ⟨World.alloc_heap_new U _, by simp⟩
        have hQn : New U WQ := by rw [HWQ.out]; exact (New.refl U).alloc _
        have hUP : P < U.heap.size := (Array.getElem?_eq_some_iff.1 HPB.out).1
        obtain ⟨D, hD⟩ : ∃ D, WQ.heap.size = D := ⟨_, rfl⟩
        have HPD := Lib.hid (show P < D from by omega)
        have HI0 := Lib.hid (show EaI w H G dry D1 p P Ds [] none WQ from ⟨rfl, HLU.out.new hQn, row_new HPB.out hQn⟩)
        have HDD := Lib.hid hD
        clear hQn hUP q5
        refine range_set (n := 5) (by omega) s U.heap.size HS32.out rfl q4 HI0.out.2.1.tb rfl (fun k => k = H + 2) (fun k hk => ⟨by have := HPD.out; have := HPH.out; rw [hk, hD]; omega, by have := HT.out.1; rw [HH.out] at this; omega⟩) (EaI w H G dry D1 p P Ds) ?hI HI0.out ?hbody ?hdone ?hstop
        case hI =>
          rintro done pc W W' ⟨i1, i2, i3⟩ hl
          rw [hD] at hl
          exact ⟨i1, i2.low HH.out HT.out.1 hl (by have := HPD.out; have := HPH.out; omega) (fun x hx => by have := HDS.out x hx; have := HPD.out; omega), hl.at HPD.out i3⟩
        case hbody =>
          intro m done x rest W hdd hi hT _ hsz _
          rw [hD] at hsz
          have HSZ := Lib.hid hsz
          have hx := HSB.out x (by rw [← hdd]; simp)
          have hxn := hx.1
          have hxn' : (x : Int) < (G.n : Int) := by omega
          have hpd : p ∉ done := fun h => (HSB.out p (by rw [← hdd]; simp [h])).2.1 rfl
          have HFB := Lib.hid (stepQ_bd (dry := (dry : Int)) (p := p) (M := 31 * (k : Int)) ⟨by omega, by omega⟩ done D1 HB1.out.1 HB1.out.2 hpd)
          have HFX := Lib.hid (show (done ++ [x]).foldl (stepQ (dry : Int) p) D1 = updI (done.foldl (stepQ (dry : Int) p) D1) p (max ((done.foldl (stepQ (dry : Int) p) D1) p) ((done.foldl (stepQ (dry : Int) p) D1) x + dry + 1)) by rw [List.foldl_append]; rfl)
          have hb1 := HFB.out x
          have hb2 := HFB.out p
          have hxp := hx.2.1
          clear hdd hi hT hsz hx hpd
          rw [hD]
          gi_wp2
          refine ⟨trivial, ?_⟩
          intro W2 hl2 hs2 hT2 hi2
          have HI2 := Lib.hid hi2
          clear hl2 hs2 hT2 hi2
          obtain ⟨d, hd'⟩ : ∃ d, done.foldl (stepQ (dry : Int) p) D1 = d := ⟨_, rfl⟩
          rw [hd'] at hb1 hb2 HFX
          have hM1 := hb1.2.1 hxp
          have hx0 := hb1.1
          have hp0 := hb2.1
          have hp1 := hb2.2.2
          have hw1 : IntKind.i64.wrap (d x + (dry : Int)) = d x + (dry : Int) := IntWalk.i64_in _ (by omega)
          have hw2 : IntKind.i64.wrap (d x + (dry : Int) + 1) = d x + (dry : Int) + 1 := IntWalk.i64_in _ (by omega)
          have hEL : EaL w W2 H G dry d Ds := hd' ▸ HI2.out.2.1
          have hS : W2.cell? ⟨H + 1 + 1 + 1, 0, none⟩ = some (.slice (some ⟨H + 1 + 1, 0, none⟩) G.n G.n) ∧ W2.cell? ⟨P, 0, none⟩ = some (.int .i64 (p : Int)) ∧ W2.cell? ⟨H + 1 + 1, p, none⟩ = some (.int .i64 (d p)) ∧ W2.cell? ⟨H + 1 + 1, x, none⟩ = some (.int .i64 (d x)) ∧ W2.cell? ⟨H + 1, 0, none⟩ = some (.int .i64 (dry : Int)) ∧ W2.frozen? ⟨H + 1 + 1, p, none⟩ = false :=
            ⟨(box_cell hEL.sl).1, (box_cell HI2.out.2.2).1, hEL.iv.at p hpn, hEL.iv.at x hxn, (box_cell hEL.dr).1, hEL.iv.froz p⟩
          have HEL := Lib.hid hEL
          clear hEL hd' hb1 hb2 HI0 HB1
          gi_wp2
          apply region_last 15 (fun w' => w'.cell? ⟨H + 1 + 1 + 1, 0, none⟩ = some (.slice (some ⟨H + 1 + 1, 0, none⟩) G.n G.n) ∧ w'.cell? ⟨P, 0, none⟩ = some (.int .i64 (p : Int)) ∧ w'.cell? ⟨H + 1 + 1, p, none⟩ = some (.int .i64 (d p)) ∧ w'.cell? ⟨H + 1 + 1, x, none⟩ = some (.int .i64 (d x)) ∧ w'.cell? ⟨H + 1, 0, none⟩ = some (.int .i64 (dry : Int)) ∧ w'.frozen? ⟨H + 1 + 1, p, none⟩ = false) (fun w' => w' = W2.drew.setCell ⟨H + 1 + 1, p, none⟩ (.int .i64 (max (d p) (d x + (dry : Int) + 1)))) (by kernel_rfl) (by kernel_rfl)
          case h =>
            have hHeld := (show _ from hS)
            refine G_take (i := 0) (x := { dst := some 45, op := _, type := _, pos := _, after := _, guard := _ }) (v := ?_) rfl (by kernel_rfl) (by kernel_rfl) (by kernel_rfl) (by kernel_rfl) (fun _ _ _ h => h) (Or.inl ⟨by rfl, (by intro w hSw; (try dsimp only at hSw); go_simp; try with_reducible rfl)⟩) hHeld ?_
            (try simp only [Act.put, List.setIfInBounds_toArray, List.set_cons_zero, List.set_cons_succ])
            refine G_take (i := 1) (x := { dst := some 46, op := _, type := _, pos := _, after := _, guard := _ }) (v := ?_) rfl (by kernel_rfl) (by kernel_rfl) (by kernel_rfl) (by kernel_rfl) (fun _ _ _ h => h) (Or.inl ⟨by rfl, (by intro w hSw; (try dsimp only at hSw); go_simp; try with_reducible rfl)⟩) hHeld ?_
            (try simp only [Act.put, List.setIfInBounds_toArray, List.set_cons_zero, List.set_cons_succ])
            refine G_take (i := 2) (x := { dst := some 47, op := _, type := _, pos := _, after := _, guard := _ }) (v := ?_) rfl (by kernel_rfl) (by kernel_rfl) (by kernel_rfl) (by kernel_rfl) (fun _ _ _ h => h) (Or.inl ⟨by rfl, (by intro w hSw; (try dsimp only at hSw); go_simp; try with_reducible rfl)⟩) hHeld ?_
            (try simp only [Act.put, List.setIfInBounds_toArray, List.set_cons_zero, List.set_cons_succ])
            refine G_take (i := 3) (x := { dst := some 48, op := _, type := _, pos := _, after := _, guard := _ }) (v := ?_) rfl (by kernel_rfl) (by kernel_rfl) (by kernel_rfl) (by kernel_rfl) (fun _ _ _ h => h) (Or.inl ⟨by rfl, (by intro w hSw; (try dsimp only at hSw); go_simp; try with_reducible rfl)⟩) hHeld ?_
            (try simp only [Act.put, List.setIfInBounds_toArray, List.set_cons_zero, List.set_cons_succ])
            refine G_take (i := 4) (x := { dst := some 49, op := _, type := _, pos := _, after := _, guard := _ }) (v := ?_) rfl (by kernel_rfl) (by kernel_rfl) (by kernel_rfl) (by kernel_rfl) (fun _ _ _ h => h) (Or.inl ⟨by rfl, (by intro w hSw; (try dsimp only at hSw); go_simp; try with_reducible rfl)⟩) hHeld ?_
            (try simp only [Act.put, List.setIfInBounds_toArray, List.set_cons_zero, List.set_cons_succ])
            refine G_take (i := 5) (x := { dst := some 50, op := _, type := _, pos := _, after := _, guard := _ }) (v := ?_) rfl (by kernel_rfl) (by kernel_rfl) (by kernel_rfl) (by kernel_rfl) (fun _ _ _ h => h) (Or.inl ⟨by rfl, (by intro w hSw; (try dsimp only at hSw); go_simp; try with_reducible rfl)⟩) hHeld ?_
            (try simp only [Act.put, List.setIfInBounds_toArray, List.set_cons_zero, List.set_cons_succ])
            refine G_take (i := 6) (x := { dst := some 51, op := _, type := _, pos := _, after := _, guard := _ }) (v := ?_) rfl (by kernel_rfl) (by kernel_rfl) (by kernel_rfl) (by kernel_rfl) (fun _ _ _ h => h) (Or.inl ⟨by rfl, (by intro w hSw; (try dsimp only at hSw); go_simp; try with_reducible rfl)⟩) hHeld ?_
            (try simp only [Act.put, List.setIfInBounds_toArray, List.set_cons_zero, List.set_cons_succ])
            refine G_take (i := 7) (x := { dst := some 52, op := _, type := _, pos := _, after := _, guard := _ }) (v := ?_) rfl (by kernel_rfl) (by kernel_rfl) (by kernel_rfl) (by kernel_rfl) (fun _ _ _ h => h) (Or.inl ⟨by rfl, (by intro w hSw; (try dsimp only at hSw); go_simp; try with_reducible rfl)⟩) hHeld ?_
            (try simp only [Act.put, List.setIfInBounds_toArray, List.set_cons_zero, List.set_cons_succ])
            refine G_take (i := 8) (x := { dst := some 53, op := _, type := _, pos := _, after := _, guard := _ }) (v := ?_) rfl (by kernel_rfl) (by kernel_rfl) (by kernel_rfl) (by kernel_rfl) (fun _ _ _ h => h) (Or.inl ⟨by rfl, (by intro w hSw; (try dsimp only at hSw); go_simp; try with_reducible rfl)⟩) hHeld ?_
            (try simp only [Act.put, List.setIfInBounds_toArray, List.set_cons_zero, List.set_cons_succ])
            refine G_take (i := 9) (x := { dst := some 54, op := _, type := _, pos := _, after := _, guard := _ }) (v := ?_) rfl (by kernel_rfl) (by kernel_rfl) (by kernel_rfl) (by kernel_rfl) (fun _ _ _ h => h) (Or.inl ⟨by rfl, (by intro w hSw; (try dsimp only at hSw); go_simp; try with_reducible rfl)⟩) hHeld ?_
            (try simp only [Act.put, List.setIfInBounds_toArray, List.set_cons_zero, List.set_cons_succ])
            refine G_take (i := 10) (x := { dst := some 55, op := _, type := _, pos := _, after := _, guard := _ }) (v := ?_) rfl (by kernel_rfl) (by kernel_rfl) (by kernel_rfl) (by kernel_rfl) (fun _ _ _ h => h) (Or.inl ⟨by rfl, (by intro w hSw; (try dsimp only at hSw); go_simp; try with_reducible rfl)⟩) hHeld ?_
            (try simp only [Act.put, List.setIfInBounds_toArray, List.set_cons_zero, List.set_cons_succ])
            refine G_take (i := 11) (x := { dst := some 56, op := _, type := _, pos := _, after := _, guard := _ }) (v := ?_) rfl (by kernel_rfl) (by kernel_rfl) (by kernel_rfl) (by kernel_rfl) (fun _ _ _ h => h) (Or.inl ⟨by rfl, (by intro w hSw; (try dsimp only at hSw); go_simp; try with_reducible rfl)⟩) hHeld ?_
            (try simp only [Act.put, List.setIfInBounds_toArray, List.set_cons_zero, List.set_cons_succ])
            refine G_take (i := 12) (x := { dst := some 57, op := _, type := _, pos := _, after := _, guard := _ }) (v := ?_) rfl (by kernel_rfl) (by kernel_rfl) (by kernel_rfl) (by kernel_rfl) (fun _ _ _ h => h) (Or.inl ⟨by rfl, (by intro w hSw; (try dsimp only at hSw); go_simp; try with_reducible rfl)⟩) hHeld ?_
            (try simp only [Act.put, List.setIfInBounds_toArray, List.set_cons_zero, List.set_cons_succ])
            refine G_take (i := 13) (x := { dst := some 58, op := _, type := _, pos := _, after := _, guard := _ }) (v := ?_) rfl (by kernel_rfl) (by kernel_rfl) (by kernel_rfl) (by kernel_rfl) (fun _ _ _ h => h) (Or.inl ⟨by rfl, (by intro w hSw; (try dsimp only at hSw); go_simp; try with_reducible rfl)⟩) hHeld ?_
            (try simp only [Act.put, List.setIfInBounds_toArray, List.set_cons_zero, List.set_cons_succ])
            refine G_take (i := 14) (x := { dst := some 59, op := _, type := _, pos := _, after := _, guard := _ }) (v := ?_) rfl (by kernel_rfl) (by kernel_rfl) (by kernel_rfl) (by kernel_rfl) (fun _ _ _ h => h) (Or.inl ⟨by rfl, (by intro w hSw; (try dsimp only at hSw); go_simp; try with_reducible rfl)⟩) hHeld ?_
            (try simp only [Act.put, List.setIfInBounds_toArray, List.set_cons_zero, List.set_cons_succ])
            refine G_one (i := 15) (x := { dst := none, op := _, type := _, pos := _, after := _, guard := _ }) (by kernel_rfl) rfl (by rfl) (fun K hK => ?_)
            go_simp
            refine hK _ _ (.inl rfl) ?_
            clear hK K
            (try simp only [Act.put, List.setIfInBounds_toArray, List.set_cons_zero, List.set_cons_succ])
            refine G_done (by kernel_rfl) ?_ _
            exact ⟨rfl, rfl⟩
          case hq =>
          rintro _ rfl
          gi_wp2
          refine RoundS.on ((Mod.of_new (New.refl W2).drew).trans (Mod.setCell _ _ _ _ rfl)) ⟨rfl, ?_, ?_⟩
          · rw [HFX.out]; exact (HEL.out.new (New.refl W2).drew).put HH.out HT.out.1 p _
          · exact (heap_setCell_other _ _ _ _ _ (show P ≠ H + 2 by have := HPH.out; omega)).trans HI2.out.2.2
        case hdone =>
          rintro W ⟨_, i2, i3⟩ hT hmk
          rw [hD] at hmk
          rw [← HESk.out] at i2
          have HEW := Lib.hid i2
          have HMK := Lib.hid hmk
          have e2 : W.cell? ⟨P, 0, none⟩ = some (.int .i64 (p : Int)) := (box_cell i3).1
          have HORR := Lib.hid (or32 (la k) (2 ^ p) hlk (pow_lt p (by omega)))
          have HSI := Lib.hid (fun (w1 : World) => (callsIn_wide (n := 4)).2 (single_c p w1 (by omega)))
          generalize 2 ^ p = X at *
          clear i2 i3 hT hmk HI0 HB1 HLU
          rw [hD]
          gi_wp2
          refine ⟨trivial, ?_⟩
          gi_at_call 91
          refine (HSI.out _).mono ?_
          rintro e w5 ⟨rfl, n5⟩
          have HE5 := Lib.hid (HEW.out.new n5)
          have HM5 := Lib.hid (row_new HMK.out n5)
          have hwk1 : IntKind.i64.wrap ((k : Int) + 1) = (k : Int) + 1 := IntWalk.i64_in _ (by omega)
          clear n5 e2
          gi_wp2
          rw [HORR.out]
          refine ⟨⟨k + 1, D :: Ds, _, _, _, _, _, _, _, _, _, _, _, _, _, _, _, _, _, _, _, _, _, _, _, _, _, _, _, _, _, _, _, _, _, _, _, _, _, _, _, _, _, _, _, _, _, _, _, _, _, _, by omega, ⟨HE5.out.nw, HE5.out.gr, HE5.out.dr, HE5.out.iv, HE5.out.sl, HE5.out.tb, List.nodup_cons.2 ⟨fun h => by have := HDS.out D h; have := HPD.out; omega, HE5.out.nd⟩, fun x hx => ?_⟩, by rw [HLSk.out]; rfl⟩, ?_⟩
          · rcases List.mem_cons.1 hx with e | hx
            · rw [e]; exact ⟨HM5.out, by have := HPD.out; have := HPH.out; omega⟩
            · exact HE5.out.mks x hx
          · show N - ((k : Int) + 1).toNat < N - ((k : Int)).toNat
            omega
        case hstop =>
          rintro done c W ⟨i1, _⟩
          cases i1
    · obtain rfl : k = N := by omega
      have hk1 : ¬ (k : Int) < (k : Int) := by omega
      have e1 : wr.cell? ⟨H + 1 + 1 + 1, 0, none⟩ = some (.slice (some ⟨H + 1 + 1, 0, none⟩) G.n G.n) := (box_cell HL.out.sl).1
      gi_wp2
      refine leaves_marks Ds wr HL.out.nd (fun D hD => (HL.out.mks D hD).1) (fun W9 hm => ?_)
      refine ⟨_, results_tmp rfl _ _ _, ?_⟩
      refine ⟨H + 2, ⟨_, rfl⟩, Mod.new HL.out.nw hm (fun k hk => by have := (HL.out.mks k hk).2; rw [HH.out]; omega), by rw [HH.out]; omega, by
        have h2 : H + 2 < wr.heap.size := HL.out.iv.lt
        rw [HLEN.out] at HL
        exact (hm.2 (H + 2) h2 (fun h => by have := (HL.out.mks _ h).2; omega)).trans HL.out.iv⟩
end Go.Proofs.YtiejefehcpfkaaaDoor
