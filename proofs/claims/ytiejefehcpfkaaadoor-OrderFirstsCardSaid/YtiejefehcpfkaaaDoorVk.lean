/- Levels of the program, at any problem. -/
import Derived.Test.YtiejefehcpfkaaaDoorVe
import Derived.Test.YtiejefehcpfkaaaDoorSy
import Derived.Test.YtiejefehcpfkaaaDoorTw
set_option linter.unusedSimpArgs false
set_option linter.unusedVariables false
set_option maxRecDepth 100000
namespace Go.Proofs.YtiejefehcpfkaaaDoor
open Go.RowKit Go.Shelf

attribute [local go_sem] Oper.semAt_some

theorem io_be {o : Prb} {av nv : Value} (hc : chkI o = 0) {l : List Int} (h : ioB (opG o av nv) l = true) {k : Nat} (hk : k < l.length) : ∀ q, q ∈ bitsOf ((opG o av nv).be (nI l k).toNat) → q < (opG o av nv).n ∧ q ≠ (nI l k).toNat := fun q hq => by
  have hb := (bitsOf_mem.1 hq).2
  rw [be_bit] at hb
  have := aR_in av nv hc hb
  exact ⟨this.1, this.2.2⟩
theorem lvF_bd {o : Prb} {av nv : Value} (hc : chkI o = 0) {l : List Int} (h : ioB (opG o av nv) l = true) : ∀ k, k ≤ l.length → ∀ q, 0 ≤ lvF (opG o av nv) l k q ∧ lvF (opG o av nv) l k q ≤ 31 * k
  | 0, _, q => by simp [lvF]
  | k + 1, hk, q => by
    have ih := lvF_bd hc h k (by omega)
    have hnot : (nI l k).toNat ∉ bitsOf ((opG o av nv).be (nI l k).toNat) := fun hm => (io_be hc h (by omega) _ hm).2 rfl
    have hM : ((31 * (k + 1) : Nat) : Int) = 31 * (k : Int) + 31 := by omega
    simp only [lvF]
    have key := stepQ_bd (dry := 0) (p := (nI l k).toNat) (M := 31 * (k : Int)) ⟨by omega, by omega⟩ (bitsOf ((opG o av nv).be (nI l k).toNat)) (lvF (opG o av nv) l k) (fun q => ⟨(ih q).1, fun _ => (ih q).2⟩) (by have := ih (nI l k).toNat; omega) hnot q
    refine ⟨key.1, ?_⟩
    by_cases e : q = (nI l k).toNat
    · rw [e]; have := key.2.2; omega
    · have := key.2.1 e; omega
structure LvL (w wr : World) (g vb : Nat) (G : Gph) (l : List Int) (fa : Option Addr) (d : Nat → Int) (Ds : List Nat) : Prop where
  nw : New w wr
  gr : Gr wr g G
  gv : g < vb
  iv : Iv wr vb G.n d
  sl : wr.heap[vb + 1]? = some (.cells #[.slice (some ⟨vb, 0, none⟩) G.n G.n] 31 (0, 0))
  fs : 0 < l.length → ∃ b, fa = some ⟨b, 0, none⟩ ∧ vb + 2 ≤ b ∧ b < wr.heap.size ∧ ∀ i, i < l.length → wr.cell? ⟨b, i, none⟩ = some (.int .i64 (nI l i))
  tb : Tab wr
  nd : Ds.Nodup
  mks : ∀ D ∈ Ds, wr.heap[D]? = some (.deferred (some [])) ∧ vb + 2 ≤ D
theorem LvL.new {w wr W : World} {g vb : Nat} {G : Gph} {l : List Int} {fa : Option Addr} {d : Nat → Int} {Ds : List Nat} (h : LvL w wr g vb G l fa d Ds) (hn : New wr W) : LvL w W g vb G l fa d Ds :=
  ⟨h.nw.trans hn, h.gr.new hn, h.gv, row_new h.iv hn, row_new h.sl hn, fun h0 => by
    obtain ⟨b, e, h1, h2, h3⟩ := h.fs h0
    exact ⟨b, e, h1, Nat.lt_of_lt_of_le h2 hn.size, fun i hi => (hn.cell h2).trans (h3 i hi)⟩, h.tb.new hn, h.nd, fun D hD => ⟨row_new (h.mks D hD).1 hn, (h.mks D hD).2⟩⟩
theorem LvL.put {w wr : World} {g vb : Nat} {G : Gph} {l : List Int} {fa : Option Addr} {d : Nat → Int} {Ds : List Nat} (h : LvL w wr g vb G l fa d Ds) (hg : w.heap.size ≤ g) (hT : 0 < w.heap.size) (p : Nat) (x : Int) : LvL w (wr.setCell ⟨vb, p, none⟩ (.int .i64 x)) g vb G l fa (updI d p x) Ds := by
  have ho : ∀ k o, k ≠ vb → wr.heap[k]? = some o → (wr.setCell ⟨vb, p, none⟩ (.int .i64 x)).heap[k]? = some o := fun k o hk h => (heap_setCell_other _ _ _ _ _ hk).trans h
  have hsz : (wr.setCell ⟨vb, p, none⟩ (.int .i64 x)).heap.size = wr.heap.size := by show (wr.heap.modify _ _).size = _; simp
  refine ⟨h.nw.setCell (by show w.heap.size ≤ vb; have := h.gv; omega) _, ho _ _ (by have := h.gv; omega) h.gr, h.gv, h.iv.put p x, ho _ _ (by omega) h.sl, fun h0 => ?_, ?_, h.nd, fun D hD => ⟨ho _ _ (by have := (h.mks D hD).2; omega) (h.mks D hD).1, (h.mks D hD).2⟩⟩
  · obtain ⟨b, e, h1, h2, h3⟩ := h.fs h0
    refine ⟨b, e, h1, by rw [hsz]; exact h2, fun i hi => ?_⟩
    have := h3 i hi
    simp only [World.cell?] at this ⊢
    rw [heap_setCell_other _ _ _ _ _ (show b ≠ vb by omega)]; exact this
  · refine ⟨by rw [hsz]; exact h.tb.1, fun j hj => ?_⟩
    have := h.tb.2 j hj
    simp only [World.cell?] at this ⊢
    rw [heap_setCell_other _ _ _ _ _ (show 0 ≠ vb by have := h.gv; omega)]; exact this
theorem LvL.low {w W W' : World} {g vb : Nat} {G : Gph} {l : List Int} {fa : Option Addr} {d : Nat → Int} {Ds : List Nat} {D : Nat} (h : LvL w W g vb G l fa d Ds) (hT : 0 < w.heap.size) (hw : w.heap.size ≤ g) (hl : Low D W W') (hD : vb + 2 ≤ D) (hDs : ∀ q ∈ Ds, q < D) (hf : ∀ b, fa = some ⟨b, 0, none⟩ → b < D) : LvL w W' g vb G l fa d Ds :=
  have hgv := h.gv
  ⟨h.nw.low hl (by omega), hl.at (by omega) h.gr, h.gv, hl.at (by omega) h.iv, hl.at (by omega) h.sl, fun h0 => by
    obtain ⟨b, e, h1, h2, h3⟩ := h.fs h0
    have hb := hf b e
    obtain ⟨ob, hob⟩ : ∃ ob, W.heap[b]? = some ob := ⟨_, Array.getElem?_eq_getElem h2⟩
    have hob' := hl.at hb hob
    refine ⟨b, e, h1, (Array.getElem?_eq_some_iff.1 hob').1, fun i hi => ?_⟩
    have := h3 i hi
    simp only [World.cell?] at this ⊢
    rw [hob'] 
    rw [hob] at this
    exact this, h.tb.low hl (by omega), h.nd, fun q hq => ⟨hl.at (hDs q hq) (h.mks q hq).1, (h.mks q hq).2⟩⟩
/-- in the loop over what comes before -/
def LvI (w : World) (g vb : Nat) (G : Gph) (l : List Int) (fa : Option Addr) (d1 : Nat → Int) (p P : Nat) (Ds : List Nat) (done : List Nat) (pc : Option Code) (W : World) : Prop :=
  pc = none ∧ LvL w W g vb G l fa (done.foldl (stepQ 0 p) d1) Ds ∧ W.heap[P]? = some (.cells #[.int .i64 (p : Int)] 3 (0, 0))

set_option maxHeartbeats 16000000 in
theorem Levels_good {w : World} {v : Value} {o : Prb} {av nv : Value} (h : PrbA w v o av nv) (hT : Tab w) (hc : ordI o av nv = 0) :
    Calls Tryd.prog 35 #[v] w fun en w' => ∃ b c, en = .returned (.tuple #[.slice (some ⟨b, 0, none⟩) (opG o av nv).n c, .int .i64 0]) ∧ New w w' ∧ w.heap.size ≤ b ∧ Iv w' b (opG o av nv).n (lvF (opG o av nv) (ints (firstO (opG o av nv))) (opG o av nv).n) := by
  have HO0 := Lib.hid (fun (w1 : World) (hn : New w w1) => openOrdered_c (h.new hn))
  have hOK := opR_ok h.sh
  have hv := h.eq
  obtain ⟨hk, hcir⟩ := ordI_good hc
  have hio := first_io hk h.sh hcir
  obtain ⟨x1, x2, x3, x4, e1, e2⟩ := h.sh
  clear h
  rw [opR_good hk] at hOK
  rw [hc, opR_good hk] at HO0
  have HO := Lib.hid (fun (w1 : World) (hn : New w w1) => (callsIn_wide (n := 4)).2 (HO0.out w1 hn))
  have HOK := Lib.hid hOK
  have HFI0 := Lib.hid (fun (w1 : World) (hn : New w w1) => first_c (opG o av nv) w1 hOK (hT.new hn))
  have HFI := Lib.hid (fun (w1 : World) (hn : New w w1) => (callsIn_wide (n := 4)).2 (HFI0.out w1 hn))
  have HT := Lib.hid hT
  obtain ⟨hlen, hin⟩ := ioB_facts hio
  have HIN := Lib.hid hin
  have HBD := Lib.hid (fun k (hk' : k ≤ (ints (firstO (opG o av nv))).length) => lvF_bd hk hio k hk')
  have HBE := Lib.hid (fun k (hk' : k < (ints (firstO (opG o av nv))).length) => io_be hk hio hk')
  have hn24 := hOK.n24
  clear HO0 HFI0 hOK hT hk hc hcir hio
  have HFL := Lib.hid (ints_len (firstO (opG o av nv)))
  have HFS := Lib.hid (fun (w1 : World) (v1 : Value) (own : w1.ownsRow w.heap.size 3 1 v1 (firstO (opG o av nv)).length (natCells (firstO (opG o av nv)))) => SlI.of_own own)
  generalize opG o av nv = RG at *
  have HL0 := Lib.hid (show ∀ l, lvF RG l 0 = fun _ => 0 from fun _ => rfl)
  have HLS := Lib.hid (show ∀ l k, lvF RG l (k + 1) = (bitsOf (RG.be (nI l k).toNat)).foldl (stepQ 0 (nI l k).toNat) (lvF RG l k) from fun _ _ => rfl)
  generalize firstO RG = FO at *
  obtain ⟨l, hl⟩ : ∃ l, ints FO = l := ⟨_, rfl⟩
  rw [hl] at HIN HBD HBE HFL HFS hlen hin ⊢
  obtain ⟨N, hN⟩ : ∃ N, l.length = N := ⟨_, rfl⟩
  rw [hN] at HIN HBD HBE HFL hlen hin
  have HNL := Lib.hid hN
  have hN24 : N ≤ 24 := by omega
  have HLEN := Lib.hid hlen
  clear hl hin hN hlen
  subst hv
  subst e1 e2
  refine (callsIn_wide (n := 5)).1 ?_
  refine callsIn_of_wp_marks Tryd.func35 rfl trivial ?_ rfl
  simp only [Tryd.ntmps35, List.size_toArray, List.length_cons, List.length_nil, Nat.reduceAdd, Nat.reduceSub, Array.replicate_succ, Array.replicate_zero, List.push_toArray, List.append_toArray, List.nil_append, List.cons_append]
  have hmk := make_iv RG.n (by omega)
  obtain ⟨H, hH⟩ : ∃ H, w.heap.size = H := ⟨_, rfl⟩
  have HH := Lib.hid hH
  have hT0 := HT.out.1
  gi_wp2
  refine ⟨trivial, ?_⟩
  gi_at_call 84
  refine (HO.out _ ((New.refl _).alloc _)).mono ?_
  rintro e w6 ⟨rfl, n6⟩
  have HN := Lib.hid (((New.refl w).alloc _).trans n6)
  clear n6
  gi_wp2_with (first | (refine wpListIn_store_graph rfl (.tmp 4) (.tmp 13) rfl rfl rfl HOK.out ?_; intro w7 n7 g7; obtain ⟨g, hg⟩ : ∃ g, w6.heap.size = g := ⟨_, rfl⟩; simp only [hg] at g7 ⊢; have N7 := Lib.hid (HN.out.trans n7); have G7 := Lib.hid g7; have HGg := Lib.hid hg; have c0 := g7.n; obtain ⟨vb, hvb⟩ : ∃ vb, w7.heap.size = vb := ⟨_, rfl⟩; have HVB := Lib.hid hvb; have HGL := Lib.hid (show g < vb by rw [← hvb]; exact g7.lt); have G7a := Lib.hid (g7.new (((New.refl w7).alloc (.cells (iv RG.n fun _ => 0).toArray 3)).alloc (.cells #[.slice (some ⟨vb, 0, none⟩) RG.n RG.n] 31))); clear n7 g7) | (refine wpListIn_get_graph rfl (.tmp 4) rfl g rfl G7a.out ?_))
  refine ⟨trivial, ?_⟩
  obtain ⟨WA, hWA⟩ : ∃ WA, (w7.alloc (.cells (iv RG.n fun _ => 0).toArray 3)).alloc (.cells #[.slice (some ⟨vb, 0, none⟩) RG.n RG.n] 31) = WA := ⟨_, rfl⟩
  have HNA := Lib.hid (show New w7 WA by rw [← hWA]; exact ((New.refl w7).alloc _).alloc _)
  have HIV0 := Lib.hid (show WA.heap[vb]? = some (.cells (iv RG.n fun _ => 0).toArray 3 (0, 0)) ∧ WA.heap[vb + 1]? = some (.cells #[.slice (some ⟨vb, 0, none⟩) RG.n RG.n] 31 (0, 0)) ∧ WA.heap.size = vb + 2 by
    have q := alloc3_heap2 w7 (.cells (iv RG.n fun _ => 0).toArray 3) (.cells #[.slice (some ⟨vb, 0, none⟩) RG.n RG.n] 31)
    rw [hWA, HVB.out] at q
    exact ⟨q.1, q.2, by rw [← hWA]; simp [HVB.out]⟩)
  rw [hWA]
  clear hWA hmk c0 hvb
  gi_at_call 85
  refine (HFI.out _ (N7.out.trans HNA.out)).mono ?_
  rintro e w9 ⟨fv, rfl, n9, own9⟩
  obtain ⟨fa, fc, rfl, fi9⟩ := HFS.out _ _ (own_base own9 (N7.out.trans HNA.out).size)
  have HFB := Lib.hid (show 0 < N → ∃ b, fa = some ⟨b, 0, none⟩ ∧ vb + 2 ≤ b ∧ b < w9.heap.size ∧ ∀ i, i < N → w9.cell? ⟨b, i, none⟩ = some (.int .i64 (nI l i)) from fun h0 => by
    obtain ⟨b, off, e, hb, hcc⟩ := fi9 (by rw [HNL.out]; exact h0)
    subst e
    rcases own9.2 with ⟨e, _⟩ | ⟨g', cap', cur', e, hge, _⟩
    · cases e
    · injection e with e1 e2 e3
      injection e1 with e1
      injection e1 with e1 e4
      subst e1
      subst e4
      refine ⟨b, rfl, by have := HIV0.out.2.2; omega, hb, fun i hi => ?_⟩
      have := hcc i (by rw [HNL.out]; exact hi)
      rw [Nat.zero_add] at this; exact this)
  have HL0' := Lib.hid (show LvL w w9 g vb RG l fa (lvF RG l 0) [] from
    ⟨(N7.out.trans HNA.out).trans n9, (G7.out.new HNA.out).new n9, HGL.out, by rw [HL0.out]; exact row_new HIV0.out.1 n9, row_new HIV0.out.2.1 n9, by rw [HNL.out]; exact HFB.out, HT.out.new ((N7.out.trans HNA.out).trans n9), List.nodup_nil, fun D hD => by cases hD⟩)
  rw [HNL.out]
  have HWG := Lib.hid (show w.heap.size ≤ g by have := HN.out.size; have := HGg.out; omega)
  clear n9 own9 fi9 hg hH
  gi_wp2
  refine wpIn_loop (fun a' w' => ∃ (k : Nat) (Ds : List Nat) (u0 u1 u5 u7 u8 u9 u10 u11 u12 u13 u14 u15 u16 u17 u18 u19 u20 u21 u22 u26 u27 u28 u29 u30 u31 u32 u33 u34 u35 u36 u37 u38 u39 u40 u41 u42 u43 u44 u45 u46 u47 u48 u49 : Value), k ≤ N ∧ LvL w w' g vb RG l fa (lvF RG l k) Ds ∧ a' = { tmps := #[u0, u1, .slice none 0 0, .int .i64 0, .pointer (some ⟨g, 0, none⟩), u5, .pointer (some ⟨vb + 1, 0, none⟩), u7, u8, u9, u10, u11, u12, u13, u14, u15, u16, u17, u18, u19, u20, u21, u22, .slice fa N fc, .int .i64 (N : Int), .int .i64 (k : Int), u26, u27, u28, u29, u30, u31, u32, u33, u34, u35, u36, u37, u38, u39, u40, u41, u42, u43, u44, u45, u46, u47, u48, u49], defers := marks Ds }) (fun a' _ => N - (intOf (a'.tmps.getD 25 undef)).toNat) ?_ ?_
  · exact ⟨0, [], _, _, _, _, _, _, _, _, _, _, _, _, _, _, _, _, _, _, _, _, _, _, _, _, _, _, _, _, _, _, _, _, _, _, _, _, _, _, _, _, _, _, _, Nat.zero_le _, HL0'.out, rfl⟩
  · rintro a' wr ⟨k, Ds, u0, u1, u5, u7, u8, u9, u10, u11, u12, u13, u14, u15, u16, u17, u18, u19, u20, u21, u22, u26, u27, u28, u29, u30, u31, u32, u33, u34, u35, u36, u37, u38, u39, u40, u41, u42, u43, u44, u45, u46, u47, u48, u49, hkN, hL, rfl⟩
    have HL := Lib.hid hL
    clear hL
    by_cases hlt : k < N
    · obtain ⟨fb, rfl, hfb1, hfb2, hcc⟩ := HL.out.fs (by rw [HNL.out]; omega)
      have c1 := hcc k (by rw [HNL.out]; omega)
      have hk1 : (k : Int) < (N : Int) := by omega
      have hin := HIN.out k hlt
      have HSk := Lib.hid (HLS.out l k)
      have hBE := HBE.out k hlt
      have HFB2 := Lib.hid hfb2
      clear hcc hfb1
      obtain ⟨p, hp⟩ : ∃ p : Nat, nI l k = p := ⟨(nI l k).toNat, by omega⟩
      rw [hp] at c1 hin HSk hBE
      simp only [Int.toNat_natCast] at HSk hBE
      have hpn : p < RG.n := by omega
      have p24 : p < 24 := by omega
      have p24' : (p : Int) < 24 := by omega
      have pn' : (p : Int) < (RG.n : Int) := hin.2
      clear hp hin
      dsimp only
      obtain ⟨s, hs⟩ : ∃ s, RG.be p = s := ⟨_, rfl⟩
      have hs32 : s < 4294967296 := by rw [← hs]; exact HOK.out.be p
      rw [hs] at HSk hBE
      have HSB := Lib.hid hBE
      have HS32 := Lib.hid hs32
      have HSE := Lib.hid hs
      have HPC := Lib.hid (fun (w1 : World) => (callsIn_wide (n := 4)).2 (patches_c s w1))
      clear hs32 hBE hs
      obtain ⟨P, hP⟩ : ∃ P, wr.heap.size = P := ⟨_, rfl⟩
      have HP0 := Lib.hid hP
      have HPH := Lib.hid (show vb + 2 ≤ P from by
        rw [← hP]; have := (Array.getElem?_eq_some_iff.1 HL.out.sl).1; omega)
      have hBD := HBD.out k (by omega)
      have HDS := Lib.hid (show ∀ D ∈ Ds, D < P from fun D hD => by rw [← hP]; exact (Array.getElem?_eq_some_iff.1 (HL.out.mks D hD).1).1)
      have HFP := Lib.hid (show fb < P by rw [← hP]; exact HFB2.out)
      have e1 : (wr.alloc (.cells #[.int .i64 (p : Int)] 3)).cell? ⟨g, 51 + p, none⟩ = some (sv s) := by rw [(HL.out.gr.new ((New.refl wr).alloc _)).cell, ← HSE.out]; exact Gph.at_be _ p p24
      generalize hD1 : lvF RG l k = D1 at *
      have HB1 := Lib.hid (show (∀ q, 0 ≤ D1 q ∧ (q ≠ p → D1 q ≤ 31 * (k : Int))) ∧ D1 p ≤ 31 * (k : Int) + 31 from ⟨fun q => ⟨(hBD q).1, fun _ => (hBD q).2⟩, by have := (hBD p).2; omega⟩)
      clear hBD hD1
      gi_wp2
      refine ⟨trivial, ?_⟩
      gi_at_call 89
      refine (HPC.out _).mono ?_
      rintro e w2 ⟨rfl, rfl⟩
      obtain ⟨U, HUE⟩ : ∃ U : World, Hid (U = wr.alloc (.cells #[.int .i64 (p : Int)] 3)) := ⟨_, Lib.hid rfl⟩
      rw [← HUE.out]
      have HPB := Lib.hid (show U.heap[P]? = some (.cells #[.int .i64 (p : Int)] 3 (0, 0)) by rw [HUE.out, ← HP0.out]; exact World.alloc_heap_new wr _)
      have HLU := Lib.hid (show LvL w U g vb RG l (some ⟨fb, 0, none⟩) D1 Ds by rw [HUE.out]; exact HL.out.new ((New.refl _).alloc _))
      clear hP e1 HUE
      gi_wp2
      obtain ⟨WQ, HWQ⟩ : ∃ WQ : World, Hid (WQ = U.alloc (.cells #[sv s] 79)) := ⟨_, Lib.hid rfl⟩
      rw [← HWQ.out]
      obtain ⟨q4, q5⟩ : WQ.heap[U.heap.size]? = some (.cells #[sv s] 79 (0, 0)) ∧ WQ.heap.size = U.heap.size + 1 := by rw [HWQ.out]; exact ⟨World.alloc_heap_new U _, by simp⟩
      have hQn : New U WQ := by rw [HWQ.out]; exact (New.refl U).alloc _
      have hUP : P < U.heap.size := (Array.getElem?_eq_some_iff.1 HPB.out).1
      obtain ⟨D, hD⟩ : ∃ D, WQ.heap.size = D := ⟨_, rfl⟩
      have HPD := Lib.hid (show P < D from by omega)
      have HI0 := Lib.hid (show LvI w g vb RG l (some ⟨fb, 0, none⟩) D1 p P Ds [] none WQ from ⟨rfl, HLU.out.new hQn, row_new HPB.out hQn⟩)
      have HDD := Lib.hid hD
      clear hQn hUP q5
      refine range_set (n := 5) (by omega) s U.heap.size HS32.out rfl q4 HI0.out.2.1.tb rfl (fun k => k = vb) (fun k hk => ⟨by have := HPD.out; have := HPH.out; rw [hk, hD]; omega, by have := HT.out.1; have := HWG.out; have := HGL.out; omega⟩) (LvI w g vb RG l (some ⟨fb, 0, none⟩) D1 p P Ds) ?hI HI0.out ?hbody ?hdone ?hstop
      case hI =>
        rintro done pc W W' ⟨i1, i2, i3⟩ hl
        rw [hD] at hl
        exact ⟨i1, i2.low HT.out.1 HWG.out hl (by have := HPD.out; have := HPH.out; omega) (fun x hx => by have := HDS.out x hx; have := HPD.out; omega) (fun b e => by injection e with e; injection e with e; have := HFP.out; have := HPD.out; omega), hl.at HPD.out i3⟩
      case hbody =>
        intro m done x rest W hdd hi hT _ hsz _
        rw [hD] at hsz
        have HSZ := Lib.hid hsz
        have hx := HSB.out x (by rw [← hdd]; simp)
        have hxn := hx.1
        have hxn' : (x : Int) < (RG.n : Int) := by omega
        have hpd : p ∉ done := fun h => (HSB.out p (by rw [← hdd]; simp [h])).2 rfl
        have HFBn := Lib.hid (stepQ_bd (dry := 0) (p := p) (M := 31 * (k : Int)) ⟨by omega, by omega⟩ done D1 HB1.out.1 HB1.out.2 hpd)
        have HFX := Lib.hid (show (done ++ [x]).foldl (stepQ 0 p) D1 = updI (done.foldl (stepQ 0 p) D1) p (max ((done.foldl (stepQ 0 p) D1) p) ((done.foldl (stepQ 0 p) D1) x + 1)) by rw [List.foldl_append]; show stepQ 0 p _ x = _; unfold stepQ; rw [Int.add_zero])
        have hb1 := HFBn.out x
        have hb2 := HFBn.out p
        have hxp := hx.2
        clear hdd hi hT hsz hx hpd
        rw [hD]
        gi_wp2
        refine ⟨trivial, ?_⟩
        intro W2 hl2 hs2 hT2 hi2
        have HI2 := Lib.hid hi2
        clear hl2 hs2 hT2 hi2
        obtain ⟨d, hd'⟩ : ∃ d, done.foldl (stepQ 0 p) D1 = d := ⟨_, rfl⟩
        rw [hd'] at hb1 hb2 HFX
        have hM1 := hb1.2.1 hxp
        have hx0 := hb1.1
        have hp0 := hb2.1
        have hp1 := hb2.2.2
        have hw1 : IntKind.i64.wrap (d x + 1) = d x + 1 := IntWalk.i64_in _ (by omega)
        have hEL : LvL w W2 g vb RG l (some ⟨fb, 0, none⟩) d Ds := hd' ▸ HI2.out.2.1
        have hS : W2.cell? ⟨vb + 1, 0, none⟩ = some (.slice (some ⟨vb, 0, none⟩) RG.n RG.n) ∧ W2.cell? ⟨P, 0, none⟩ = some (.int .i64 (p : Int)) ∧ W2.cell? ⟨vb, p, none⟩ = some (.int .i64 (d p)) ∧ W2.cell? ⟨vb, x, none⟩ = some (.int .i64 (d x)) ∧ W2.frozen? ⟨vb, p, none⟩ = false :=
          ⟨(box_cell hEL.sl).1, (box_cell HI2.out.2.2).1, hEL.iv.at p hpn, hEL.iv.at x hxn, hEL.iv.froz p⟩
        have HEL := Lib.hid hEL
        clear hEL hd' hb1 hb2 HI0 HB1
        gi_wp2
        apply region_last 13 (fun w' => w'.cell? ⟨vb + 1, 0, none⟩ = some (.slice (some ⟨vb, 0, none⟩) RG.n RG.n) ∧ w'.cell? ⟨P, 0, none⟩ = some (.int .i64 (p : Int)) ∧ w'.cell? ⟨vb, p, none⟩ = some (.int .i64 (d p)) ∧ w'.cell? ⟨vb, x, none⟩ = some (.int .i64 (d x)) ∧ w'.frozen? ⟨vb, p, none⟩ = false) (fun w' => w' = W2.drew.setCell ⟨vb, p, none⟩ (.int .i64 (max (d p) (d x + 1)))) (by kernel_rfl) (by kernel_rfl)
        case h =>
          have hHeld := (show _ from hS)
          refine G_take (i := 0) (x := { dst := some 35, op := _, type := _, pos := _, after := _, guard := _ }) (v := ?_) rfl (by kernel_rfl) (by kernel_rfl) (by kernel_rfl) (by kernel_rfl) (fun _ _ _ h => h) (Or.inl ⟨by rfl, (by intro w hSw; (try dsimp only at hSw); go_simp; try with_reducible rfl)⟩) hHeld ?_
          (try simp only [Act.put, List.setIfInBounds_toArray, List.set_cons_zero, List.set_cons_succ])
          refine G_take (i := 1) (x := { dst := some 36, op := _, type := _, pos := _, after := _, guard := _ }) (v := ?_) rfl (by kernel_rfl) (by kernel_rfl) (by kernel_rfl) (by kernel_rfl) (fun _ _ _ h => h) (Or.inl ⟨by rfl, (by intro w hSw; (try dsimp only at hSw); go_simp; try with_reducible rfl)⟩) hHeld ?_
          (try simp only [Act.put, List.setIfInBounds_toArray, List.set_cons_zero, List.set_cons_succ])
          refine G_take (i := 2) (x := { dst := some 37, op := _, type := _, pos := _, after := _, guard := _ }) (v := ?_) rfl (by kernel_rfl) (by kernel_rfl) (by kernel_rfl) (by kernel_rfl) (fun _ _ _ h => h) (Or.inl ⟨by rfl, (by intro w hSw; (try dsimp only at hSw); go_simp; try with_reducible rfl)⟩) hHeld ?_
          (try simp only [Act.put, List.setIfInBounds_toArray, List.set_cons_zero, List.set_cons_succ])
          refine G_take (i := 3) (x := { dst := some 38, op := _, type := _, pos := _, after := _, guard := _ }) (v := ?_) rfl (by kernel_rfl) (by kernel_rfl) (by kernel_rfl) (by kernel_rfl) (fun _ _ _ h => h) (Or.inl ⟨by rfl, (by intro w hSw; (try dsimp only at hSw); go_simp; try with_reducible rfl)⟩) hHeld ?_
          (try simp only [Act.put, List.setIfInBounds_toArray, List.set_cons_zero, List.set_cons_succ])
          refine G_take (i := 4) (x := { dst := some 39, op := _, type := _, pos := _, after := _, guard := _ }) (v := ?_) rfl (by kernel_rfl) (by kernel_rfl) (by kernel_rfl) (by kernel_rfl) (fun _ _ _ h => h) (Or.inl ⟨by rfl, (by intro w hSw; (try dsimp only at hSw); go_simp; try with_reducible rfl)⟩) hHeld ?_
          (try simp only [Act.put, List.setIfInBounds_toArray, List.set_cons_zero, List.set_cons_succ])
          refine G_take (i := 5) (x := { dst := some 40, op := _, type := _, pos := _, after := _, guard := _ }) (v := ?_) rfl (by kernel_rfl) (by kernel_rfl) (by kernel_rfl) (by kernel_rfl) (fun _ _ _ h => h) (Or.inl ⟨by rfl, (by intro w hSw; (try dsimp only at hSw); go_simp; try with_reducible rfl)⟩) hHeld ?_
          (try simp only [Act.put, List.setIfInBounds_toArray, List.set_cons_zero, List.set_cons_succ])
          refine G_take (i := 6) (x := { dst := some 41, op := _, type := _, pos := _, after := _, guard := _ }) (v := ?_) rfl (by kernel_rfl) (by kernel_rfl) (by kernel_rfl) (by kernel_rfl) (fun _ _ _ h => h) (Or.inl ⟨by rfl, (by intro w hSw; (try dsimp only at hSw); go_simp; try with_reducible rfl)⟩) hHeld ?_
          (try simp only [Act.put, List.setIfInBounds_toArray, List.set_cons_zero, List.set_cons_succ])
          refine G_take (i := 7) (x := { dst := some 42, op := _, type := _, pos := _, after := _, guard := _ }) (v := ?_) rfl (by kernel_rfl) (by kernel_rfl) (by kernel_rfl) (by kernel_rfl) (fun _ _ _ h => h) (Or.inl ⟨by rfl, (by intro w hSw; (try dsimp only at hSw); go_simp; try with_reducible rfl)⟩) hHeld ?_
          (try simp only [Act.put, List.setIfInBounds_toArray, List.set_cons_zero, List.set_cons_succ])
          refine G_take (i := 8) (x := { dst := some 43, op := _, type := _, pos := _, after := _, guard := _ }) (v := ?_) rfl (by kernel_rfl) (by kernel_rfl) (by kernel_rfl) (by kernel_rfl) (fun _ _ _ h => h) (Or.inl ⟨by rfl, (by intro w hSw; (try dsimp only at hSw); go_simp; try with_reducible rfl)⟩) hHeld ?_
          (try simp only [Act.put, List.setIfInBounds_toArray, List.set_cons_zero, List.set_cons_succ])
          refine G_take (i := 9) (x := { dst := some 44, op := _, type := _, pos := _, after := _, guard := _ }) (v := ?_) rfl (by kernel_rfl) (by kernel_rfl) (by kernel_rfl) (by kernel_rfl) (fun _ _ _ h => h) (Or.inl ⟨by rfl, (by intro w hSw; (try dsimp only at hSw); go_simp; try with_reducible rfl)⟩) hHeld ?_
          (try simp only [Act.put, List.setIfInBounds_toArray, List.set_cons_zero, List.set_cons_succ])
          refine G_take (i := 10) (x := { dst := some 45, op := _, type := _, pos := _, after := _, guard := _ }) (v := ?_) rfl (by kernel_rfl) (by kernel_rfl) (by kernel_rfl) (by kernel_rfl) (fun _ _ _ h => h) (Or.inl ⟨by rfl, (by intro w hSw; (try dsimp only at hSw); go_simp; try with_reducible rfl)⟩) hHeld ?_
          (try simp only [Act.put, List.setIfInBounds_toArray, List.set_cons_zero, List.set_cons_succ])
          refine G_take (i := 11) (x := { dst := some 46, op := _, type := _, pos := _, after := _, guard := _ }) (v := ?_) rfl (by kernel_rfl) (by kernel_rfl) (by kernel_rfl) (by kernel_rfl) (fun _ _ _ h => h) (Or.inl ⟨by rfl, (by intro w hSw; (try dsimp only at hSw); go_simp; try with_reducible rfl)⟩) hHeld ?_
          (try simp only [Act.put, List.setIfInBounds_toArray, List.set_cons_zero, List.set_cons_succ])
          refine G_take (i := 12) (x := { dst := some 47, op := _, type := _, pos := _, after := _, guard := _ }) (v := ?_) rfl (by kernel_rfl) (by kernel_rfl) (by kernel_rfl) (by kernel_rfl) (fun _ _ _ h => h) (Or.inl ⟨by rfl, (by intro w hSw; (try dsimp only at hSw); go_simp; try with_reducible rfl)⟩) hHeld ?_
          (try simp only [Act.put, List.setIfInBounds_toArray, List.set_cons_zero, List.set_cons_succ])
          refine G_one (i := 13) (x := { dst := none, op := _, type := _, pos := _, after := _, guard := _ }) (by kernel_rfl) rfl (by rfl) (fun K hK => ?_)
          go_simp
          refine hK _ _ (.inl rfl) ?_
          clear hK K
          (try simp only [Act.put, List.setIfInBounds_toArray, List.set_cons_zero, List.set_cons_succ])
          refine G_done (by kernel_rfl) ?_ _
          exact ⟨rfl, rfl⟩
        case hq =>
        rintro _ rfl
        gi_wp2
        refine RoundS.on ((Mod.of_new (New.refl W2).drew).trans (Mod.setCell _ _ _ _ rfl)) ⟨rfl, ?_, ?_⟩
        · rw [HFX.out]; exact (HEL.out.new (New.refl W2).drew).put HWG.out HT.out.1 p _
        · exact (heap_setCell_other _ _ _ _ _ (show P ≠ vb by have := HPH.out; omega)).trans HI2.out.2.2
      case hdone =>
        rintro W ⟨_, i2, i3⟩ hT hmk
        rw [hD] at hmk
        rw [← HSk.out] at i2
        have HEW := Lib.hid i2
        have HMK := Lib.hid hmk
        have hwk1 : IntKind.i64.wrap ((k : Int) + 1) = (k : Int) + 1 := IntWalk.i64_in _ (by omega)
        clear i2 i3 hT hmk HI0 HB1 HLU
        rw [hD]
        gi_wp2
        refine ⟨⟨k + 1, by omega, D :: Ds, ⟨HEW.out.nw, HEW.out.gr, HEW.out.gv, HEW.out.iv, HEW.out.sl, HEW.out.fs, HEW.out.tb, List.nodup_cons.2 ⟨fun h => by have := HDS.out D h; have := HPD.out; omega, HEW.out.nd⟩, fun x hx => ?_⟩, by omega, rfl⟩, ?_⟩
        · rcases List.mem_cons.1 hx with e | hx
          · rw [e]; exact ⟨HMK.out, by have := HPD.out; have := HPH.out; omega⟩
          · exact HEW.out.mks x hx
        · show N - ((k : Int) + 1).toNat < N - ((k : Int)).toNat
          omega
      case hstop =>
        rintro done c W ⟨i1, _⟩
        cases i1
    · obtain rfl : k = N := by omega
      have hk1 : ¬ (k : Int) < (k : Int) := by omega
      have c1 := (box_cell HL.out.sl).1
      dsimp only
      gi_wp2
      refine leaves_marks Ds _ HL.out.nd (fun q hq => (HL.out.mks q hq).1) (fun W9 hm => ?_)
      refine ⟨_, results_tmp2 rfl _ _ _, ?_⟩
      refine ⟨vb, ⟨_, rfl⟩, Mod.new HL.out.nw hm (fun q hq => by have := (HL.out.mks q hq).2; have := HWG.out; have := HGL.out; omega), by have := HWG.out; have := HGL.out; omega, ?_⟩
      have hI := HL.out.iv
      rw [show lvF RG l k = lvF RG l RG.n from congrArg _ HLEN.out] at hI
      exact (hm.2 vb HL.out.iv.lt (fun h => by have := (HL.out.mks vb h).2; omega)).trans hI
end Go.Proofs.YtiejefehcpfkaaaDoor
