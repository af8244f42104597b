/- All orders of what is left: the closure of orders at a set that is not empty. -/
import Derived.Test.YtiejefehcpfkaaaDoorSr
set_option linter.unusedSimpArgs false
set_option linter.unusedVariables false
set_option maxRecDepth 100000
namespace Go.Proofs.YtiejefehcpfkaaaDoor
open Go.RowKit Go.Shelf

attribute [local go_sem] Oper.semAt_some

/-- a region that leaves one of two activations -/
theorem region_two {P : Program} {n lp : Nat} {ops : Array Oper} {id : Nat} {a : Act} {w : World} {Q : Exit → Act → World → Prop} (S : World → Prop) {A B : Act} (WA WB : World → Prop) (hm : P.follows .mixedOrders = true) (hd : noDefer ops = true) (hS : S w.drew)
    (h : S w.drew → wpAnyH P .any ops (QN fun a' w' => (a' = A ∧ WA w') ∨ (a' = B ∧ WB w')) S ops.size (Array.replicate ops.size false) a w.drew) (hq : ∀ w', WA w' → Q .normal A w') (hr : ∀ w', WB w' → Q .normal B w') : (Code.region id ops true).wpIn (Fence.wide.inRound lp) n P Q a w :=
  region_round S (fun _ a' w' => (a' = A ∧ WA w') ∨ (a' = B ∧ WB w')) hm hd hS h (fun a' w' ha => by
    rcases ha with ⟨e, hw⟩ | ⟨e, hw⟩
    · rw [e]; exact hq _ hw
    · rw [e]; exact hr _ hw)

theorem wpListIn_load_run {F : Fence} {n : Nat} {P : Program} {ops : Array Oper} {rest : List Oper} {o : Oper} {a : Act} {w : World} {Q : Exit → Act → World → Prop} (hg : o.guard = none) (ty : TypeId) (x : Operand) (ho : o.op = .load ty x) {v : Value} (hrun : (Instr.loadAt ty (a.eval x)).run P w = .ok v w)
    (h : wpListIn F n P ops Q rest (a.put o.dst v) w) : wpListIn F n P ops Q (o :: rest) a w := by
  refine wpListIn_plain hg fun K hK' => ?_
  unfold Oper.wpIn
  refine ⟨by simp [Oper.about, ho], ?_⟩
  rw [Oper.semAt_plain F _ _ (by rw [ho]; intro c hc'; cases hc')]
  simp [execOp, ho, hrun, Result.andThen]
  exact hK' _ _ h
/-- what stands in memory between two rounds of the closure's loop -/
structure OrI (c : OrB) (F : Nat → Prop) (J : (Nat → Prop) → List (List Nat) → Bool → World → Prop) (pre : List Nat) (xs done : List (List Nat)) (k s : Nat) (W : World) (H : Nat) (P : Nat → Prop) (ps : List Nat) (pc : Option Code) (V : World) : Prop where
  hi : ∀ q, P q → H + 2 ≤ q
  kp : Keep (fun q => F q ∨ tabE q) W V
  sz : H + 2 ≤ V.heap.size
  bx : V.heap[H + 1]? = some (.cells #[.bool false] 4 (0, 0))
  st : (pc = none ∧ ∃ O, J O (done ++ ordTo c.G.be k s pre ps) false V ∧ OrSt c (fun q => F q ∨ P q ∨ q = H ∨ q = H + 1) O V pre ∧ V.heap[H]? = some (.cells #[sv s] 79 (0, 0))) ∨
    (pc = some .ret ∧ ∃ O dn, J O dn true V ∧ dn <+: xs ∧ ∀ q, (F q ∨ P q ∨ q = H ∨ q = H + 1) → O q)

theorem OrI.stable {c : OrB} {F : Nat → Prop} {J : (Nat → Prop) → List (List Nat) → Bool → World → Prop} (hJs : StableJ J) {pre : List Nat} {xs done : List (List Nat)} {k s : Nat} {W : World} {H : Nat} {P P' : Nat → Prop} {ps : List Nat} {pc : Option Code} {V V' : World}
    (hF : ∀ q, F q → q < H) (hT : 0 < c.base) (hB : c.base ≤ H) (hp : c.pb < c.base) (hcb : c.yb < c.base ∧ c.gb < c.base ∧ c.eb < c.base) (hfb : F c.yb ∧ F c.gb ∧ F c.eb) (h : OrI c F J pre xs done k s W H P ps pc V) (hm : Mod P V V') (ho : ∀ q, P' q → P q ∨ V.heap.size ≤ q) : OrI c F J pre xs done k s W H P' ps pc V' := by
  have hlow : ∀ q, q < H + 2 → ∀ o, V.heap[q]? = some o → V'.heap[q]? = some o := fun q hq o hv => (hm.2 q (Array.getElem?_eq_some_iff.1 hv).1 (fun h' => by have := h.hi q h'; omega)).trans hv
  refine ⟨fun q hq => ?_, h.kp.trans (Keep.of_mod hm fun q hq h' => ?_), Nat.le_trans h.sz hm.size, hlow _ (by omega) _ h.bx, ?_⟩
  · rcases ho q hq with h' | h'
    · exact h.hi q h'
    · have := h.sz; omega
  · have := h.hi q h'
    rcases hq with hq | hq
    · have := hF q hq; omega
    · unfold tabE at hq; omega
  · rcases h.st with ⟨e, O, h1, h2, h3⟩ | ⟨e, O, dn, h1, h2, h4⟩
    · refine .inl ⟨e, fun q => O q ∨ P' q, ?_, ?_, hlow _ (by omega) _ h3⟩
      · refine hJs _ _ _ _ _ _ h1 (hm.mono fun q hq => h2.fo q (.inr (.inl hq))) (fun q hq => ?_)
        rcases hq with hq | hq
        · exact .inl hq
        · exact (ho q hq).imp (fun h' => h2.fo q (.inr (.inl h'))) id
      · obtain ⟨⟨v, g1, g2⟩, g3, g4, g5, g6, g7, g8, g9, g10, g11⟩ := h2
        have hpl := (Array.getElem?_eq_some_iff.1 g1).1
        have hO : ∀ q, (F q ∨ P' q ∨ q = H ∨ q = H + 1) → (O q ∨ P' q) := fun q hq => by
          rcases hq with hq | hq | hq | hq
          · exact .inl (g9 q (.inl hq))
          · exact .inr hq
          · exact .inl (g9 q (.inr (.inr (.inl hq))))
          · exact .inl (g9 q (.inr (.inr (.inr hq))))
        refine ⟨⟨v, hlow _ (by omega) _ g1, own_keep g2.1 fun g hg => ?_, fun g hg => ⟨.inl (g2.2 g hg).1, fun hx => ?_⟩⟩, hlow _ (by omega) _ g3, hlow _ (by omega) _ g4, hlow _ (by omega) _ g5, .inl g6, ⟨.inl hfb.1, .inl hfb.2.1, .inl hfb.2.2⟩, fun hx => ?_, hO, Nat.le_trans g10 hm.size, ?_⟩
        · exact hm.2 g (g2.1.lt g hg).2 (fun h' => (g2.2 g hg).2 (.inr (.inl h')))
        · rcases hx with hx | hx | hx
          · exact (g2.2 g hg).2 (.inl hx)
          · rcases ho g hx with h' | h'
            · exact (g2.2 g hg).2 (.inr (.inl h'))
            · have := (g2.1.lt g hg).2; omega
          · exact (g2.2 g hg).2 (.inr (.inr hx))
        · rcases hx with hx | hx | hx
          · exact g8 (.inl hx)
          · rcases ho _ hx with h' | h'
            · exact g8 (.inr (.inl h'))
            · omega
          · exact g8 (.inr (.inr hx))
        · exact g11.keep (Keep.of_mod (O' := tabE) hm fun q hq h' => by have := h.hi q h'; unfold tabE at hq; omega) rfl
    · refine .inr ⟨e, fun q => O q ∨ P' q, dn, ?_, h2, fun q hq => ?_⟩
      · refine hJs _ _ _ _ _ _ h1 (hm.mono fun q hq => h4 q (.inr (.inl hq))) (fun q hq => ?_)
        rcases hq with hq | hq
        · exact .inl hq
        · exact (ho q hq).imp (fun h' => h4 q (.inr (.inl h'))) id
      · rcases hq with hq | hq | hq | hq
        · exact .inl (h4 q (.inl hq))
        · exact .inr hq
        · exact .inl (h4 q (.inr (.inr (.inl hq))))
        · exact .inl (h4 q (.inr (.inr (.inr hq))))

set_option maxHeartbeats 16000000 in
theorem orders_succ (c : OrB) (hc : c.ok) (J : (Nat → Prop) → List (List Nat) → Bool → World → Prop) (hJs : StableJ J) (xs : List (List Nat)) (k : Nat)
    (IH : ∀ (s : Nat) (pre : List Nat) (F O : Nat → Prop) (done : List (List Nat)) (W : World), s < 2 ^ 24 → (bitsOf s).length = k → pre.length + k ≤ 1000 → (∀ q, F q → q < W.heap.size) → OrSt c F O W pre → J O done false W → done ++ ordP c.G.be k s pre <+: xs →
      Calls Tryd.prog 154 #[sv s, .pointer (some ⟨c.yb, 0, none⟩), .pointer (some ⟨c.pb, 0, none⟩), .pointer (some ⟨c.gb, 0, none⟩), .pointer (some ⟨c.eb, 0, none⟩)] W (ExtR c F J pre (done ++ ordP c.G.be k s pre) xs W))
    (s : Nat) (pre : List Nat) (F O : Nat → Prop) (done : List (List Nat)) (W : World) (hs : s < 2 ^ 24) (hl : (bitsOf s).length = k + 1) (hpl : pre.length + (k + 1) ≤ 1000) (hF : ∀ q, F q → q < W.heap.size) (hst : OrSt c F O W pre) (hJ : J O done false W) (hpre : done ++ ordP c.G.be (k + 1) s pre <+: xs) :
    Calls Tryd.prog 154 #[sv s, .pointer (some ⟨c.yb, 0, none⟩), .pointer (some ⟨c.pb, 0, none⟩), .pointer (some ⟨c.gb, 0, none⟩), .pointer (some ⟨c.eb, 0, none⟩)] W (ExtR c F J pre (done ++ ordP c.G.be (k + 1) s pre) xs W) := by
  have hs32 : s < 4294967296 := by omega
  obtain ⟨H, hH⟩ : ∃ H, W.heap.size = H := ⟨_, rfl⟩
  obtain ⟨W2, hW2⟩ : ∃ W2 : World, Hid (W2 = (W.alloc (.cells #[sv s] 79)).alloc (.cells #[.bool false] 4)) := ⟨_, Lib.hid rfl⟩
  have hn2 : New W W2 := by rw [hW2.out]; exact ((New.refl _).alloc _).alloc _
  have hz2 : W2.heap.size = H + 2 := by rw [hW2.out, ← hH]; simp
  obtain ⟨q1, q2⟩ : W2.heap[H]? = some (.cells #[sv s] 79 (0, 0)) ∧ W2.heap[H + 1]? = some (.cells #[.bool false] 4 (0, 0)) := by rw [hW2.out, ← hH]; exact alloc3_heap2 W _ _
  have hget := (hst.gs.new hn2).get
  have hT2 := hst.tb.new hn2
  have hT0 := hst.tb.1
  obtain ⟨GC, hGC⟩ : ∃ GC, GC = c.G.cells.toArray := ⟨_, rfl⟩
  have HRD := Lib.hid (fun (w1 : World) (h1 : Tab w1) => (callsIn_wide (n := 4)).2 (ready_c c.G s w1 hc.gok hs h1))
  rw [← hGC] at hget HRD
  obtain ⟨R, hR⟩ : ∃ R, rdN c.G.be s = R := ⟨_, rfl⟩
  rw [hR] at HRD
  have hR32 : R < 4294967296 := by rw [← hR]; exact rdTo_lt c.G.be s (bitsOf s) 0 (by omega) (fun p hp => bitsOf_lt hp)
  have HR := Lib.hid (show ∀ x, x ∈ bitsOf R → x ∈ bitsOf s from fun x hx => rdN_sub (be := c.G.be) (by rw [hR]; exact (bitsOf_mem.1 hx).2))
  have HPC := Lib.hid (fun (w1 : World) => (callsIn_wide (n := 4)).2 (patches_c R w1))
  have hpre' : done ++ ordTo c.G.be k s pre (bitsOf R) <+: xs := by rw [ordP_succ, hR] at hpre; exact hpre
  have hall : done ++ ordP c.G.be (k + 1) s pre = done ++ ordTo c.G.be k s pre (bitsOf R) := by rw [ordP_succ, hR]
  rw [hall]
  have HPRE := Lib.hid hpre'
  have hs0 : ((s : Int) == 0) = false := by
    have : s ≠ 0 := fun h => by rw [(bits_none hs32).2 h] at hl; omega
    simpa using this
  have HST := Lib.hid hst
  have HJ := Lib.hid hJ
  have HJS := Lib.hid hJs
  have HF := Lib.hid (show ∀ q, F q → q < H from fun q hq => by rw [← hH]; exact hF q hq)
  have HC := Lib.hid hc
  have HB := Lib.hid (show c.base ≤ H from by rw [← hH]; exact hst.bs)
  have HN2 := Lib.hid hn2
  have HQ1 := Lib.hid q1
  have HQ2 := Lib.hid q2
  have HT2 := Lib.hid hT2
  have HS := Lib.hid hs
  have HIH := Lib.hid IH
  have HL := Lib.hid hl
  have HPL := Lib.hid hpl
  have HZ2 := Lib.hid hz2
  have HR32 := Lib.hid hR32
  have HHH := Lib.hid hH
  rw [hW2.out] at hget
  have HGET := Lib.hid hget
  clear hget
  clear hst hJ hJs hF hc hn2 q1 q2 hT2 hs IH hl hpl hz2 hpre hpre' hall hR hGC hT0 hR32
  refine (callsIn_wide (n := 5)).1 ?_
  refine callsIn_of_wp_marks Tryd.func154 rfl trivial ?_ rfl
  simp only [Tryd.ntmps154, List.size_toArray, List.length_cons, List.length_nil, Nat.reduceAdd, Nat.reduceSub, Array.replicate_succ, Array.replicate_zero, List.push_toArray, List.append_toArray, List.nil_append, List.cons_append]
  gi_wp2_with (refine wpListIn_load_run rfl _ (.tmp 3) rfl HGET.out ?_)
  refine ⟨trivial, ?_⟩
  gi_at_call 101
  rw [← hW2.out]
  refine (HRD.out _ HT2.out).mono ?_
  rintro e w3 ⟨rfl, n3⟩
  have N3 := Lib.hid n3
  clear n3
  gi_wp2
  refine ⟨trivial, ?_⟩
  gi_at_call 89
  refine (HPC.out _).mono ?_
  rintro e w4 ⟨rfl, rfl⟩
  gi_wp2
  obtain ⟨WQ, HWQ⟩ : ∃ WQ : World, Hid (WQ = w3.alloc (.cells #[sv R] 79)) := ⟨_, Lib.hid rfl⟩
  rw [← HWQ.out]
  obtain ⟨qs, qz⟩ : WQ.heap[w3.heap.size]? = some (.cells #[sv R] 79 (0, 0)) ∧ WQ.heap.size = w3.heap.size + 1 := by rw [HWQ.out]; exact ⟨World.alloc_heap_new w3 _, by simp⟩
  have hnQ : New W2 WQ := by rw [HWQ.out]; exact N3.out.trans ((New.refl w3).alloc _)
  obtain ⟨D, hD⟩ : ∃ D, WQ.heap.size = D := ⟨_, rfl⟩
  have hHD : H + 2 < D := by have := N3.out.size; rw [HZ2.out] at this; omega
  have hsb : w3.heap.size < WQ.heap.size := by omega
  have HI0 := Lib.hid (show OrI c F J pre xs done k s W H (plus D fun _ => False) [] none WQ from by
    have hn : New W WQ := HN2.out.trans hnQ
    refine ⟨fun q hq => ?_, Keep.of_new hn, by omega, row_new HQ2.out hnQ, .inl ⟨rfl, fun q => O q ∨ q = H ∨ q = H + 1 ∨ q = D ∨ q = D + 1, ?_, ?_, row_new HQ1.out hnQ⟩⟩
    · rcases hq with hq | hq | hq
      · cases hq
      · omega
      · omega
    · have := HJS.out _ (fun q => O q ∨ q = H ∨ q = H + 1 ∨ q = D ∨ q = D + 1) _ _ _ _ HJ.out (Mod.of_new hn) (fun q hq => by
        rw [HHH.out]
        rcases hq with hq | hq
        · exact .inl hq
        · exact .inr (by omega))
      simpa [ordTo] using this
    · refine HST.out.more (fun q hq => .inl hq) (fun q hq => .inl hq) (fun q hq => ?_) (fun q hq => ?_) (Keep.of_new hn)
      · rcases hq with hq | (hq | hq | hq) | hq | hq
        · exact .inl (HST.out.fo q hq)
        · cases hq
        · exact .inr (.inr (.inr (.inl hq)))
        · exact .inr (.inr (.inr (.inr hq)))
        · exact .inr (.inl hq)
        · exact .inr (.inr (.inl hq))
      · rw [HHH.out]
        rcases hq with hq | (hq | hq | hq) | hq | hq
        · exact .inl hq
        · cases hq
        · exact .inr (by omega)
        · exact .inr (by omega)
        · exact .inr (by omega)
        · exact .inr (by omega))
  have HHD := Lib.hid hHD
  have HSTAB := Lib.hid (show ∀ P P' ps pc V V', OrI c F J pre xs done k s W H P ps pc V → Mod P V V' → (∀ q, P' q → P q ∨ V.heap.size ≤ q) → OrI c F J pre xs done k s W H P' ps pc V' from fun P P' ps pc V V' h hm ho =>
    h.stable HJS.out HF.out HC.out.tb.1 HB.out HC.out.lt.2.1 ⟨HC.out.lt.1, HC.out.lt.2.2.1, HC.out.lt.2.2.2⟩ HST.out.fb hm ho)
  have HT4 := Lib.hid (HT2.out.new hnQ)
  have htl := HT4.out.1
  have HDD := Lib.hid hD
  clear hnQ hHD
  refine range_gen (n := 5) (by omega) rfl (enters_of Tryd.func140 (by kernel_rfl) rfl) (Elem := ElemP) (xs := bitsOf R) (E := tabE)
    (fun W1 hn1 _ => patches_it R w3.heap.size HR32.out W1 ((hn1.below.block _ hsb).trans qs) (HT4.out.new hn1)) (fun q hq => by have h9 := HT4.out.1; unfold tabE at hq; omega) (by rintro x args O W rfl; rfl)
    (OrI c F J pre xs done k s W H) (fun P P' ps pc V V' h hm ho => HSTAB.out P P' ps pc V V' h hm ho) ?h0 ?hbody ?hdone ?hstop
  case h0 => rw [hD]; exact HI0.out
  case hbody =>
    rw [hD]
    rintro m O9 ps x args V hI rfl hpx hD1 hD0 ⟨r, hr⟩ hbnd
    have HI := Lib.hid hI
    have HBN := Lib.hid hbnd
    have hdl := (Array.getElem?_eq_some_iff.1 hr).1
    have HDL := Lib.hid hdl
    have HPX := Lib.hid hpx
    clear hI hD1 hD0 hr hbnd hdl hpx htl qs qz hsb
    gi_wp2
    refine ⟨Keep.refl _ _, ?_⟩
    intro V2 hb2 hs2 ho2 hr2
    have HI2 := Lib.hid (HSTAB.out (plus D O9) (plus D O9) ps none V V2 HI.out ⟨hb2, fun q hq h' => ho2 q (fun e => h' (.inr (.inr e)))⟩ (fun q hq => .inl hq))
    have HBN2 := Lib.hid (show ∀ q, plus D O9 q → q < V2.heap.size from fun q hq => by
      have := hb2.size
      have h2 := HDL.out
      rcases hq with hq | hq | hq
      · have := HBN.out q hq; omega
      · omega
      · omega)
    clear hb2 hs2 ho2 hr2
    rcases HI2.out.st with ⟨_, O1, hJ1, hS1, hb1⟩ | ⟨e, _⟩
    case inr => cases e
    have HJ1 := Lib.hid hJ1
    have HS1 := Lib.hid hS1
    have HB1 := Lib.hid hb1
    have hxs := HR.out x (by obtain ⟨rest, hrest⟩ := HPX.out; rw [← hrest]; simp)
    have hx24 := low24 HS.out hxs
    have hx32 := bitsOf_lt hxs
    obtain ⟨X, hX⟩ : ∃ X, 2 ^ x = X := ⟨_, rfl⟩
    have hX32 : X < 4294967296 := by rw [← hX]; exact pow_lt x hx32
    have HSI := Lib.hid (fun (w1 : World) => single_c x w1 hx32)
    have HWO := Lib.hid (fun (w1 : World) => without_c s X w1 hs32 hX32)
    rw [hX] at HSI
    have HCALL0 := Lib.hid (show ∀ (F2 O2 : Nat → Prop) (W5 : World), (∀ q, F2 q → q < W5.heap.size) → OrSt c F2 O2 W5 (pre ++ [x]) → J O2 (done ++ ordTo c.G.be k s pre ps) false W5 →
        Calls Tryd.prog 154 #[sv (wo s X), .pointer (some ⟨c.yb, 0, none⟩), .pointer (some ⟨c.pb, 0, none⟩), .pointer (some ⟨c.gb, 0, none⟩), .pointer (some ⟨c.eb, 0, none⟩)] W5 (ExtR c F2 J (pre ++ [x]) (done ++ ordTo c.G.be k s pre (ps ++ [x])) xs W5) from fun F2 O2 W5 a1 a2 a3 => by
      have hw := wo_bits hs32 hxs
      have hle := wo_le s (2 ^ x)
      have := HIH.out (wo s (2 ^ x)) (pre ++ [x]) F2 O2 (done ++ ordTo c.G.be k s pre ps) W5 (by have := HS.out; omega) (by have := HL.out; omega) (by have := HPL.out; simp; omega) a1 a2 a3 (by
        rw [List.append_assoc, ← ordTo_snoc]
        refine List.IsPrefix.trans ?_ HPRE.out
        obtain ⟨rest, hrest⟩ := HPX.out
        rw [← hrest]
        exact (List.prefix_append_right_inj _).2 (ordTo_prefix _ _ _ _ _ _))
      rw [List.append_assoc, ← ordTo_snoc] at this
      rw [hX] at this
      exact this)
    obtain ⟨⟨v, g1, g2⟩, g3, g4, g5, g6, g7, g8, g9, g10, g11⟩ := hS1
    obtain ⟨av, cv, rfl⟩ := own_slice g2.1
    have c1 := box_cell g1
    have HOW := Lib.hid g2
    have HH1 := Lib.hid g1
    obtain ⟨i0, hi, hz0, hz1, hz2⟩ := info_parts int_infoO
    have hpl : pre.length ≤ 1000 := by have := HPL.out; omega
    have hbs : c.base ≤ V2.heap.size := g10
    have HBS := Lib.hid hbs
    clear hJ1 hb1 g1 g2 g3 g4 g5 g6 g7 g8 g9 g10 g11 hxs hX hbs
    gi_wp2_with (gi_at_builtin; refine wpListIn_append_lies _ rfl _ _ 31 rfl c.base 3 i0 _ 1 8 Tryd.underlying31 hi hz0 hz1 hz2 rfl (by decide) (.slice av pre.length cv) pre.length (natCells pre) rfl ?o1 _ 1 1 [.int .i64 (x : Int)] rfl rfl ?o2 ?o3 (by omega) ?o4 ?o5 ?o6 _ rfl ?o7)
    case o1 => exact own_new HOW.out.1 ((New.refl _).alloc _)
    case o3 => rfl
    case o4 => unfold maxLen; omega
    case o5 => omega
    case o6 => have := HBS.out; simp; omega
    case o7 =>
      intro g4 cap4 w4 hown4 hgrow4 hor4 hlt4
      have hvb : ∀ g, (Value.slice av pre.length cv).ownBlock = some g → O1 g ∧ c.base ≤ g ∧ ¬ (F g ∨ plus D O9 g ∨ g = H ∨ g = H + 1) := fun g hg => ⟨(HOW.out.2 g hg).1, (HOW.out.1.lt g hg).1, (HOW.out.2 g hg).2⟩
      have hM4 : Mod (fun q => (Value.slice av pre.length cv).ownBlock = some q) V2 w4 := (Mod.of_new ((New.refl V2).alloc (.cells #[.int .i64 (x : Int)] 3))).trans (Mod.grown hgrow4 fun g hg => hg)
      have hsz : V2.heap.size ≤ w4.heap.size := hM4.size
      have hpb : w4.heap[c.pb]? = some (.cells #[.slice av pre.length cv] 31 (0, 0)) := by
        refine (hM4.2 c.pb ?_ (fun e => by have := (hvb _ e).2.1; have := HC.out.lt.2.1; omega)).trans HH1.out
        have := HC.out.lt.2.1; have := HBS.out; omega
      have hg4 : (Value.slice av pre.length cv).ownBlock = some g4 ∨ V2.heap.size ≤ g4 := hor4.imp id (fun e => by rw [e]; simp)
      have hg4b : c.base ≤ g4 := (own_parts hown4).choose_spec.1
      have c1 := box_cell hpb
      obtain ⟨w5, hw5⟩ : ∃ w5 : World, Hid (w5 = w4.setCell ⟨c.pb, 0, none⟩ (.slice (some ⟨g4, 0, none⟩) (pre.length + 1) cap4)) := ⟨_, Lib.hid rfl⟩
      have hM5 : Mod (fun q => (Value.slice av pre.length cv).ownBlock = some q ∨ q = c.pb) V2 w5 := by rw [hw5.out]; exact (hM4.mono fun q hq => .inl hq).trans (Mod.setCell _ _ _ _ (.inr rfl))
      have HK5 := Lib.hid (show Keep (fun q => (F q ∨ plus D O9 q ∨ q = H ∨ q = H + 1) ∨ tabE q) V2 w5 from Keep.of_mod hM5 fun q hq h' => by
        rcases h' with h' | h'
        · rcases hq with hq | hq
          · exact (hvb q h').2.2 hq
          · have := (hvb q h').2.1; have := HC.out.tb.1; unfold tabE at hq; omega
        · subst h'
          rcases hq with hq | hq
          · exact HS1.out.fp hq
          · exact HC.out.tb.2 hq.symm)
      have HF2 := Lib.hid (show ∀ q, (F q ∨ plus D O9 q ∨ q = H ∨ q = H + 1) → q < V2.heap.size from fun q hq => by
        have := HI2.out.sz
        rcases hq with hq | hq | hq | hq
        · have := HF.out q hq; omega
        · exact HBN2.out q hq
        · omega
        · omega)
      have HS5 := Lib.hid (show OrSt c (fun q => F q ∨ plus D O9 q ∨ q = H ∨ q = H + 1) (fun q => O1 q ∨ q = g4) w5 (pre ++ [x]) from by
        have hs := HS1.out
        refine ⟨⟨_, by rw [hw5.out, heap_setCell_same _ _ _ _ hpb]; rfl, ?_, fun g hg => ?_⟩, HK5.out.at hs.ys (.inl hs.fb.1), HK5.out.at hs.gs (.inl hs.fb.2.1), HK5.out.at hs.es (.inl hs.fb.2.2), .inl hs.ob, hs.fb, hs.fp, fun q hq => .inl (hs.fo q hq), Nat.le_trans hs.bs HK5.out.size, hs.tb.keep HK5.out (.inr rfl)⟩
        · have := own_keep (w' := w5) hown4 (fun g hg => by rw [hw5.out]; exact heap_setCell_other _ _ _ _ _ (by simp [Value.ownBlock] at hg; have := HC.out.lt.2.1; omega))
          rw [natCells_snoc, List.length_append]
          simpa using this
        · simp [Value.ownBlock] at hg
          subst hg
          refine ⟨.inr rfl, fun h' => ?_⟩
          rcases hg4 with h'' | h''
          · exact (hvb _ h'').2.2 h'
          · have := HF2.out _ h'; omega)
      have HJ5 := Lib.hid (show J (fun q => O1 q ∨ q = g4) (done ++ ordTo c.G.be k s pre ps) false w5 from
        HJS.out _ _ _ _ _ _ HJ1.out (hM5.mono fun q hq => hq.elim (fun h => (hvb q h).1) (fun h => by rw [h]; exact HS1.out.ob)) (fun q hq => hq.elim .inl (fun e => by subst e; exact hg4.imp (fun h => (hvb _ h).1) id)))
      have HSZ5 := Lib.hid (Nat.le_trans hsz (show w4.heap.size ≤ w5.heap.size from by rw [hw5.out]; simp [go_sem]))
      have HM5 := Lib.hid hM5
      have HVB := Lib.hid hvb
      obtain ⟨fe, hfe⟩ : ∃ fe, c.fv = fe := ⟨_, rfl⟩
      have hE5 : w5.cell? ⟨c.eb, 0, none⟩ = some c.fv := (box_cell (HK5.out.at HS1.out.es (.inl HS1.out.fb.2.2))).1
      have hL5 : w5.cell? ⟨H, 0, none⟩ = some (sv s) := (box_cell (HK5.out.at HB1.out (.inl (.inr (.inr (.inl rfl)))))).1
      unfold OrB.fv at hE5
      have hEH := And.intro hE5 hL5
      have HLT5 := Lib.hid (show c.eb < w5.heap.size ∧ H < w5.heap.size from ⟨World.block_lt_of_cell? _ _ hE5, World.block_lt_of_cell? _ _ hL5⟩)
      have HCALL := Lib.hid (show ∀ V6, New w5 V6 → Calls Tryd.prog 154 #[sv (wo s X), .pointer (some ⟨c.yb, 0, none⟩), .pointer (some ⟨c.pb, 0, none⟩), .pointer (some ⟨c.gb, 0, none⟩), .pointer (some ⟨c.eb, 0, none⟩)] V6 (ExtR c (fun q => F q ∨ plus D O9 q ∨ q = H ∨ q = H + 1) J (pre ++ [x]) (done ++ ordTo c.G.be k s pre (ps ++ [x])) xs V6) from fun V6 n6 =>
        HCALL0.out _ _ V6 (fun q hq => Nat.lt_of_lt_of_le (HF2.out q hq) (Nat.le_trans HSZ5.out n6.size)) (HS5.out.keep (Keep.of_new n6)) (HJS.out _ _ _ _ _ _ HJ5.out (Mod.of_new n6) (fun q hq => .inl hq)))
      clear hown4 hgrow4 hor4 hlt4 hM4 hsz hpb hg4 hg4b hM5 hvb hE5 hL5 hfe
      gi_wp2
      rw [← hw5.out]
      clear c1
      apply region_two (fun w' => w'.cell? ⟨c.eb, 0, none⟩ = some (.func (.func 154) #[] #[.pointer (some ⟨c.yb, 0, none⟩), .pointer (some ⟨c.pb, 0, none⟩), .pointer (some ⟨c.gb, 0, none⟩), .pointer (some ⟨c.eb, 0, none⟩)]) ∧ w'.cell? ⟨H, 0, none⟩ = some (sv s)) (fun w' => ∃ O3, J O3 (done ++ ordTo c.G.be k s pre (ps ++ [x])) false w' ∧ OrSt c (fun q => F q ∨ plus D O9 q ∨ q = H ∨ q = H + 1) O3 w' (pre ++ [x]) ∧ Keep (fun q => (F q ∨ plus D O9 q ∨ q = H ∨ q = H + 1) ∨ tabE q) w5 w') (fun w' => ∃ O3 dn, J O3 dn true w' ∧ dn <+: xs ∧ Keep (fun q => (F q ∨ plus D O9 q ∨ q = H ∨ q = H + 1) ∨ tabE q) w5 w' ∧ ∀ q, (F q ∨ plus D O9 q ∨ q = H ∨ q = H + 1) → O3 q) (by kernel_rfl) (by kernel_rfl) hEH
      case h =>
        intro hHeld
        refine wpAnyH_take (i := 0) (oi := { dst := some 22, op := _, type := _, pos := _, after := _, guard := _ }) (v := ?_) rfl (by kernel_rfl) (by kernel_rfl) (by kernel_rfl) (fun _ _ _ h => h) (Or.inl ⟨by rfl, (by intro w hSw; (try dsimp only at hSw); go_simp; try with_reducible rfl)⟩) (by assumption) ?_
        (try simp only [Act.put, List.setIfInBounds_toArray, List.set_cons_zero, List.set_cons_succ])
        refine wpAnyH_take (i := 1) (oi := { dst := some 23, op := _, type := _, pos := _, after := _, guard := _ }) (v := ?_) rfl (by kernel_rfl) (by kernel_rfl) (by kernel_rfl) (fun _ _ _ h => h) (Or.inl ⟨by rfl, (by intro w hSw; (try dsimp only at hSw); go_simp; try with_reducible rfl)⟩) (by assumption) ?_
        (try simp only [Act.put, List.setIfInBounds_toArray, List.set_cons_zero, List.set_cons_succ])
        refine wpAnyH_take (i := 2) (oi := { dst := some 24, op := _, type := _, pos := _, after := _, guard := _ }) (v := ?_) rfl (by kernel_rfl) (by kernel_rfl) (by kernel_rfl) (fun _ _ _ h => h) (Or.inl ⟨by rfl, (by intro w hSw; (try dsimp only at hSw); go_simp; try with_reducible rfl)⟩) (by assumption) ?_
        (try simp only [Act.put, List.setIfInBounds_toArray, List.set_cons_zero, List.set_cons_succ])
        refine wpAnyH_ready (rs := [3]) (by kernel_rfl) (by simp) ?_
        refine AllReadyH.cons rfl (fun K hK => ?_) AllReadyH.nil
        go_simp
        go_at_call 91
        refine (HSI.out _).mono ?_
        rintro e w6 ⟨rfl, n6⟩
        have N6 := Lib.hid (show New w5 w6 from (New.refl w5).drew.trans n6)
        clear n6
        refine hK.out _ _ ?_ (fun hHeld => ?_)
        · exact ⟨(N6.out.cell HLT5.out.1).trans hEH.1, (N6.out.cell HLT5.out.2).trans hEH.2⟩
        clear hK K
        (try simp only [Act.put, List.setIfInBounds_toArray, List.set_cons_zero, List.set_cons_succ])
        refine wpAnyH_ready (rs := [4]) (by kernel_rfl) (by simp) ?_
        refine AllReadyH.cons rfl (fun K hK => ?_) AllReadyH.nil
        go_simp
        go_at_call 90
        refine (HWO.out _).mono ?_
        rintro e w7 ⟨rfl, n7⟩
        have N7 := Lib.hid (show New w5 w7 from N6.out.trans n7)
        clear n7
        refine hK.out _ _ ?_ (fun hHeld => ?_)
        · exact ⟨(N7.out.cell HLT5.out.1).trans hEH.1, (N7.out.cell HLT5.out.2).trans hEH.2⟩
        clear hK K
        (try simp only [Act.put, List.setIfInBounds_toArray, List.set_cons_zero, List.set_cons_succ])
        refine wpAnyH_ready (rs := [5]) (by kernel_rfl) (by simp) ?_
        refine AllReadyH.cons rfl (fun K hK => ?_) AllReadyH.nil
        go_simp
        go_at_call 154
        refine (HCALL.out _ N7.out).mono ?_
        rintro e w8 ⟨O3, b, rfl, hk8, hcase⟩
        have hk8' := (Keep.of_new N7.out).trans hk8
        have e1 := (hk8.at (row_new HS5.out.es N7.out) (.inl HS5.out.fb.2.2))
        have e2 := (hk8.at (row_new (HK5.out.at HB1.out (.inl (.inr (.inr (.inl rfl))))) N7.out) (.inl (.inr (.inr (.inl rfl)))))
        have hS8 := And.intro (box_cell e1).1 (box_cell e2).1
        rcases hcase with ⟨rfl, hJ8, hs8⟩ | ⟨rfl, dn, hJ8, hp8, hf8⟩
        · refine hK.out _ _ hS8 (fun hHeld => ?_)
          clear hK K
          (try simp only [Act.put, List.setIfInBounds_toArray, List.set_cons_zero, List.set_cons_succ])
          refine wpAnyH_take (i := 6) (oi := { dst := some 28, op := _, type := _, pos := _, after := _, guard := _ }) (v := ?_) rfl (by kernel_rfl) (by kernel_rfl) (by kernel_rfl) (fun _ _ _ h => h) (Or.inl ⟨by rfl, (by intro w hSw; (try dsimp only at hSw); go_simp; try with_reducible rfl)⟩) (by assumption) ?_
          (try simp only [Act.put, List.setIfInBounds_toArray, List.set_cons_zero, List.set_cons_succ])
          refine wpAnyH_done (by kernel_rfl) ?_ _
          exact .inl ⟨rfl, O3, hJ8, hs8, hk8'⟩
        · refine hK.out _ _ hS8 (fun hHeld => ?_)
          clear hK K
          (try simp only [Act.put, List.setIfInBounds_toArray, List.set_cons_zero, List.set_cons_succ])
          refine wpAnyH_take (i := 6) (oi := { dst := some 28, op := _, type := _, pos := _, after := _, guard := _ }) (v := ?_) rfl (by kernel_rfl) (by kernel_rfl) (by kernel_rfl) (fun _ _ _ h => h) (Or.inl ⟨by rfl, (by intro w hSw; (try dsimp only at hSw); go_simp; try with_reducible rfl)⟩) (by assumption) ?_
          (try simp only [Act.put, List.setIfInBounds_toArray, List.set_cons_zero, List.set_cons_succ])
          refine wpAnyH_done (by kernel_rfl) ?_ _
          exact .inr ⟨rfl, O3, dn, hJ8, hp8, hk8', hf8⟩
      case hq =>
        rintro w8 ⟨O3, hJ8, hs8, hk8⟩
        have HJ8 := Lib.hid hJ8
        have HS8 := Lib.hid hs8
        have HK8 := Lib.hid hk8
        obtain ⟨⟨v6, h1, h2⟩, _⟩ := hs8
        obtain ⟨g6, cap6, rfl, hg6, hgl6⟩ := h2.1.form (by simp)
        have hl6 : (pre ++ [x]).length = pre.length + 1 := by simp
        have h2o : w8.ownsRow c.base 3 1 (.slice (some ⟨g6, 0, none⟩) (pre.length + 1) cap6) (pre.length + 1) (natCells (pre ++ [x])) := by have := h2.1; rwa [hl6] at this
        rw [hl6] at h1 h2
        have hcm := (own_cap h2o).1
        have c7 := box_cell h1
        have hw7 : IntKind.i64.wrap ((pre.length : Int) + 1 - 1) = (pre.length : Int) := by rw [show (pre.length : Int) + 1 - 1 = (pre.length : Int) by omega]; exact IntWalk.i64_in _ (by omega)
        obtain ⟨w9, hw9⟩ : ∃ w9 : World, Hid (w9 = w8.setCell ⟨c.pb, 0, none⟩ (.slice (some ⟨g6, 0, none⟩) pre.length cap6)) := ⟨_, Lib.hid rfl⟩
        have hK9 : Keep (fun q => (F q ∨ plus D O9 q ∨ q = H ∨ q = H + 1) ∨ tabE q) w8 w9 := by
          rw [hw9.out]
          refine Keep.of_mod (Mod.setCell (O := fun q => q = c.pb) _ _ _ _ rfl) (fun q hq h' => ?_)
          subst h'
          rcases hq with hq | hq
          · exact HS8.out.fp hq
          · exact HC.out.tb.2 hq.symm
        have HS9 := Lib.hid (show OrSt c (fun q => F q ∨ plus D O9 q ∨ q = H ∨ q = H + 1) O3 w9 pre from by
          have hs := HS8.out
          refine ⟨⟨_, by rw [hw9.out, heap_setCell_same _ _ _ _ h1]; rfl, ?_, fun g hg => h2.2 g (by simpa [Value.ownBlock] using hg)⟩, hK9.at hs.ys (.inl hs.fb.1), hK9.at hs.gs (.inl hs.fb.2.1), hK9.at hs.es (.inl hs.fb.2.2), hs.ob, hs.fb, hs.fp, hs.fo, Nat.le_trans hs.bs hK9.size, hs.tb.keep hK9 (.inr rfl)⟩
          have := own_prefix h2o pre.length (by omega)
          have e : (natCells (pre ++ [x])).take (pre.length * 1) = natCells pre := by rw [← natCells_take]; simp
          rw [e] at this
          exact own_keep this (fun g hg => by rw [hw9.out]; exact heap_setCell_other _ _ _ _ _ (by simp [Value.ownBlock] at hg; have := HC.out.lt.2.1; omega)))
        have HJ9 := Lib.hid (show J O3 (done ++ ordTo c.G.be k s pre (ps ++ [x])) false w9 from by
          rw [hw9.out]; exact HJS.out _ _ _ _ _ _ HJ8.out (Mod.setCell _ _ _ _ HS8.out.ob) (fun q hq => .inl hq))
        have HKK := Lib.hid (HK5.out.trans (HK8.out.trans hK9))
        clear hJ8 hk8 h1 h2 h2o hl6 hK9
        gi_wp2
        rw [← hw9.out]
        refine ⟨HKK.out.mono (fun q hq => hq.elim (fun h => .inl (.inr (.inl h))) .inr), none, ⟨HI2.out.hi, HI2.out.kp.trans (HKK.out.mono (fun q hq => hq.elim (fun h => .inl (.inl h)) .inr)), Nat.le_trans HI2.out.sz HKK.out.size, HKK.out.at HI2.out.bx (.inl (.inr (.inr (.inr rfl)))), .inl ⟨rfl, O3, HJ9.out, HS9.out, HKK.out.at HB1.out (.inl (.inr (.inr (.inl rfl))))⟩⟩, .inl ⟨rfl, rfl⟩⟩
      case hr =>
        rintro w8 ⟨O3, dn, hJ8, hp8, hk8, hf8⟩
        have hk8' := HK5.out.trans hk8
        have hb8 := hk8'.at HI2.out.bx (.inl (.inr (.inr (.inr rfl))))
        have c7 := box_cell hb8
        have HK8 := Lib.hid hk8'
        have HJ8 := Lib.hid hJ8
        have HP8 := Lib.hid hp8
        have HF8 := Lib.hid hf8
        have HB8 := Lib.hid hb8
        clear hJ8 hp8 hk8 hf8 hk8' hb8
        gi_wp2
        have hsc : ∀ P : Nat → Prop, (∀ q, P q → q ≠ H + 1) → Keep P w8 (w8.setCell ⟨H + 1, 0, none⟩ (.bool false)) := fun P hP => Keep.of_mod (Mod.setCell (O := fun q => q = H + 1) _ _ _ _ rfl) (fun q hq e => hP q hq e)
        refine ⟨(HK8.out.mono (fun q hq => hq.elim (fun h => .inl (.inr (.inl h))) .inr)).trans (hsc _ fun q hq => ?_), some .ret, ⟨HI2.out.hi, HI2.out.kp.trans ((HK8.out.mono (fun q hq => hq.elim (fun h => .inl (.inl h)) .inr)).trans (hsc _ fun q hq => ?_)), ?_, heap_setCell_same _ _ 0 _ HB8.out, .inr ⟨rfl, O3, dn, HJS.out _ _ _ _ _ _ HJ8.out (Mod.setCell _ _ _ _ (HF8.out _ (.inr (.inr (.inr rfl))))) (fun q hq => .inl hq), HP8.out, HF8.out⟩⟩, .inr (.inl ⟨rfl, rfl⟩)⟩
        · rcases hq with hq | hq
          · have := HI2.out.hi q hq; omega
          · have := HC.out.tb.1; have := HB.out; unfold tabE at hq; omega
        · rcases hq with hq | hq
          · have := HF.out q hq; omega
          · have := HC.out.tb.1; have := HB.out; unfold tabE at hq; omega
        · have h1 := HI2.out.sz; have h2 := HK8.out.size
          have h3 : (w8.setCell ⟨H + 1, 0, none⟩ (.bool false)).heap.size = w8.heap.size := by simp [go_sem]
          omega
  case hdone =>
    rw [hD]
    rintro O9 V hI hmk
    rcases hI.st with ⟨_, O1, hJ1, hS1, hb1⟩ | ⟨e, _⟩
    case inr => cases e
    have HI := Lib.hid hI
    have HJ1 := Lib.hid hJ1
    have HS1 := Lib.hid hS1
    have HMK := Lib.hid hmk
    have c7 := box_cell hI.bx
    clear hI hJ1 hS1 hb1 hmk
    gi_wp2
    refine leaves_marks [D] _ (by simp) (fun q hq => ?_) (fun W9 hm => ?_)
    · simp at hq; subst hq
      exact (heap_setCell_other _ _ _ _ _ (by have := HHD.out; omega)).trans HMK.out
    · have hHD := HHD.out
      have hbx := heap_setCell_same V (H + 1) 0 (.bool true) HI.out.bx
      have hX : Mod (fun q => q = H + 1 ∨ q = D) V W9 := (Mod.setCell (O := fun q => q = H + 1 ∨ q = D) _ _ _ _ (.inl rfl)).trans (hm.mono fun q hq => .inr (by simpa using hq))
      refine ⟨_, results_cell_one (b := true) rfl _ _ rfl (box_cell (v := .bool true) ((hm.2 (H + 1) (Array.getElem?_eq_some_iff.1 hbx).1 (fun h => by simp at h; omega)).trans hbx)).1, ?_⟩
      have hs := HS1.out
      refine ⟨fun q => O1 q ∧ q ≠ H + 1 ∧ q ≠ D, true, rfl, HI.out.kp.trans (Keep.of_mod hX fun q hq h' => ?_), .inl ⟨rfl, HJS.out _ _ _ _ _ _ HJ1.out (hX.mono fun q hq => ?_) (fun q hq => .inl hq.1), ?_⟩⟩
      · rcases hq with hq | hq
        · have := HF.out q hq; omega
        · have := HC.out.tb.1; have := HB.out; unfold tabE at hq; omega
      · rcases hq with hq | hq
        · rw [hq]; exact hs.fo _ (.inr (.inr (.inr rfl)))
        · rw [hq]; exact hs.fo _ (.inr (.inl (.inr (.inl rfl))))
      · have hs2 : OrSt c F (fun q => O1 q ∧ q ≠ H + 1 ∧ q ≠ D) V pre := by
          obtain ⟨⟨v, g1, g2⟩, g3, g4, g5, g6, g7, g8, g9, g10, g11⟩ := hs
          have hb := HB.out
          refine ⟨⟨v, g1, g2.1, fun g hg => ⟨⟨(g2.2 g hg).1, fun h => (g2.2 g hg).2 (.inr (.inr (.inr h))), fun h => (g2.2 g hg).2 (.inr (.inl (.inr (.inl h))))⟩, fun h => (g2.2 g hg).2 (.inl h)⟩⟩, g3, g4, g5, ⟨g6, by have := HC.out.lt.2.1; omega, by have := HC.out.lt.2.1; omega⟩, HST.out.fb, HST.out.fp, fun q hq => ⟨g9 q (.inl hq), by have := HF.out q hq; omega, by have := HF.out q hq; omega⟩, g10, g11⟩
        refine hs2.keep (Keep.of_mod hX fun q hq h' => ?_)
        rcases hq with hq | hq
        · rcases h' with h' | h'
          · exact hq.2.1 h'
          · exact hq.2.2 h'
        · have := HC.out.tb.1; have := HB.out; unfold tabE at hq; omega
  case hstop =>
    rw [hD]
    rintro O9 ps pc V hI hpx hmk
    rcases hI.st with ⟨e, _⟩ | ⟨e, O1, dn, hJ1, hp1, hf1⟩
    case inl => cases e
    obtain rfl : pc = .ret := by simpa using e
    have HI := Lib.hid hI
    have HJ1 := Lib.hid hJ1
    have HP1 := Lib.hid hp1
    have HF1 := Lib.hid hf1
    have HMK := Lib.hid hmk
    clear hI hJ1 hp1 hf1 hmk e hpx
    gi_wp2
    refine leaves_marks [D] _ (by simp) (fun q hq => ?_) (fun W9 hm => ?_)
    · simp at hq; subst hq; exact HMK.out
    · have hHD := HHD.out
      have hbx := HI.out.bx
      refine ⟨_, results_cell_one (b := false) rfl _ _ rfl (box_cell (v := .bool false) ((hm.2 (H + 1) (Array.getElem?_eq_some_iff.1 hbx).1 (fun h => by simp at h; omega)).trans hbx)).1, ?_⟩
      refine ⟨O1, false, rfl, HI.out.kp.trans (Keep.of_mod hm fun q hq h' => ?_), .inr ⟨rfl, dn, HJS.out _ _ _ _ _ _ HJ1.out (hm.mono fun q hq => ?_) (fun q hq => .inl hq), HP1.out, fun q hq => HF1.out q (.inl hq)⟩⟩
      · simp at h'
        rcases hq with hq | hq
        · have := HF.out q hq; omega
        · have := HC.out.tb.1; have := HB.out; unfold tabE at hq; omega
      · simp at hq; rw [hq]; exact HF1.out _ (.inr (.inl (.inr (.inl rfl))))

theorem orders_in (c : OrB) (hc : c.ok) (J : (Nat → Prop) → List (List Nat) → Bool → World → Prop) (hJs : StableJ J) (xs : List (List Nat)) (hY : YieldsO c.lp J xs) :
    ∀ (k : Nat) (s : Nat) (pre : List Nat) (F O : Nat → Prop) (done : List (List Nat)) (W : World), s < 2 ^ 24 → (bitsOf s).length = k → pre.length + k ≤ 1000 → (∀ q, F q → q < W.heap.size) → OrSt c F O W pre → J O done false W → done ++ ordP c.G.be k s pre <+: xs →
      Calls Tryd.prog 154 #[sv s, .pointer (some ⟨c.yb, 0, none⟩), .pointer (some ⟨c.pb, 0, none⟩), .pointer (some ⟨c.gb, 0, none⟩), .pointer (some ⟨c.eb, 0, none⟩)] W (ExtR c F J pre (done ++ ordP c.G.be k s pre) xs W)
  | 0, s, pre, F, O, done, W, hs, hl, _, hF, hst, hJ, hpre => by
    obtain rfl := (bits_none (by omega)).1 hl
    rw [ordP_zero] at hpre ⊢
    exact orders_zero c hc J hJs xs hY pre F O done W hF hst hJ hpre
  | k + 1, s, pre, F, O, done, W, hs, hl, hpl, hF, hst, hJ, hpre =>
    orders_succ c hc J hJs xs k (orders_in c hc J hJs xs hY k) s pre F O done W hs hl hpl hF hst hJ hpre
end Go.Proofs.YtiejefehcpfkaaaDoor
