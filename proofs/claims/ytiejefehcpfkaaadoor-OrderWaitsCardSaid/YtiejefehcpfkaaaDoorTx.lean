/- How many orders there are of a set, as counter's closure counts them with what it knows. Sets of at most 12 places below 2^24. -/
import Derived.Test.YtiejefehcpfkaaaDoorTw
import Derived.Maps.OwnIn
import Derived.Maps.Views
set_option linter.unusedSimpArgs false
set_option linter.unusedVariables false
set_option maxRecDepth 100000
namespace Go.Proofs.YtiejefehcpfkaaaDoor
open Go.RowKit Go.Shelf Go.Maps

attribute [local go_sem] Oper.semAt_some

theorem facN_12 : ∀ k, k ≤ 12 → facN k ≤ 479001600 := by decide
theorem nodup_le : ∀ (N : Nat) (L : List Nat), L.Nodup → (∀ x ∈ L, x < N) → L.length ≤ N
  | 0, [], _, _ => Nat.le_refl _
  | 0, x :: L, _, h => absurd (h x (by simp)) (Nat.not_lt_zero _)
  | N + 1, L, hn, h => by
    by_cases hm : N ∈ L
    · have h1 := nodup_le N (L.erase N) (hn.erase N) (fun x hx => by
        have h2 := (hn.mem_erase_iff).1 hx
        have h3 := h x h2.2
        have h4 : x ≠ N := h2.1
        omega)
      rw [List.length_erase_of_mem hm] at h1
      omega
    · exact Nat.le_succ_of_le (nodup_le N L hn fun x hx => by
        have h3 := h x hx
        have h4 : x ≠ N := fun e => hm (e ▸ hx)
        omega)
theorem keyed_set : Keyed Tryd.prog 79 := int_keyed Tryd.underlying79
theorem zero_int (w : World) : (zeroValue 3).run Tryd.prog w = .ok (.int .i64 0) w := by kernel_rfl
def sL (s : Nat) : Lit := .int .u32 (s : Int)
theorem sL_wf {s : Nat} (hs : s < 4294967296) : (Lit.int .u32 (s : Int)).wf = true := by
  exact WalkArith.wf_u32 ⟨by omega, by omega⟩
theorem sL_key {s : Nat} (hs : s < 4294967296) : keyOf Tryd.prog 79 (sv s) = some (sL s) := keyOf_int_mk Tryd.underlying79 (sL_wf hs)
theorem sL_is {s : Nat} (hs : s < 4294967296) : WideAt.IsKeyLit (sL s) := keyed_set.key (sL_key hs)
theorem sL_inj {s t : Nat} (h : sL s = sL t) : s = t := by
  unfold sL at h
  have : (s : Int) = (t : Int) := by injection h
  omega
/-- how many orders of a set there are -/
def cnS (be : Nat → Nat) (s : Nat) : Nat := cntS be (bitsOf s).length s
/-- what is known in the map D of n entries at most -/
def Kn (be : Nat → Nat) (D : DataW Unit) (n : Nat) : Prop := IsMap D ∧ ∃ L : List Nat, L.Nodup ∧ n = L.length ∧ 0 ∈ L ∧ (∀ s ∈ L, s < 2 ^ 24) ∧ (∀ s, s < 2 ^ 24 → (Maps.has D (sL s) = true ↔ s ∈ L)) ∧ ∀ s ∈ L, D.atKey (sL s) (.lit (.int .i64 0)) = .lit (.int .i64 (cnS be s : Int))
theorem Kn.le {be : Nat → Nat} {D : DataW Unit} {n : Nat} (h : Kn be D n) : n ≤ 2 ^ 24 := by
  obtain ⟨_, L, h1, h2, _, h4, _⟩ := h
  rw [h2]; exact nodup_le _ L h1 h4
theorem Kn.has0 {be : Nat → Nat} {D : DataW Unit} {n : Nat} (h : Kn be D n) : Maps.has D (sL 0) = true := by
  obtain ⟨_, L, _, _, h3, _, h5, _⟩ := h
  exact (h5 0 (by omega)).2 h3
theorem Kn.val {be : Nat → Nat} {D : DataW Unit} {n s : Nat} (h : Kn be D n) (hs : s < 2 ^ 24) (hh : Maps.has D (sL s) = true) : D.atKey (sL s) (.lit (.int .i64 0)) = .lit (.int .i64 (cnS be s : Int)) := by
  obtain ⟨_, L, _, _, _, _, h5, h6⟩ := h
  exact h6 s ((h5 s hs).1 hh)
theorem Kn.put {be : Nat → Nat} {D : DataW Unit} {n s : Nat} (h : Kn be D n) (hs : s < 2 ^ 24) (hh : Maps.has D (sL s) = false) : Kn be (D.put (sL s) (.lit (.int .i64 (cnS be s : Int)))) (n + 1) := by
  obtain ⟨h0, L, h1, h2, h3, h4, h5, h6⟩ := h
  have hsn : s ∉ L := fun h => by have := (h5 s hs).2 h; rw [hh] at this; cases this
  have hne : ∀ t, t ≠ s → sL t ≠ sL s := fun t ht e => ht (sL_inj e)
  refine ⟨h0.put _ _, s :: L, List.nodup_cons.2 ⟨hsn, h1⟩, by simp [h2], List.mem_cons_of_mem _ h3, fun t ht => ?_, fun t ht => ?_, fun t ht => ?_⟩
  · rcases List.mem_cons.1 ht with e | ht
    · rw [e]; exact hs
    · exact h4 t ht
  · by_cases e : t = s
    · subst e
      have := has_put_same h0 (sL_is (s := t) (by omega)) (.lit (.int .i64 (cnS be t : Int)))
      simp [this]
    · rw [has_put_other (hne t e), h5 t ht]; simp [e]
  · rcases List.mem_cons.1 ht with e | ht
    · subst e; exact atKey_put_same h0 (sL_is (by omega)) _ _
    · have e : t ≠ s := fun e => hsn (e ▸ ht)
      rw [atKey_put_other (hne t e)]; exact h6 t ht
theorem kn_first (be : Nat → Nat) : Kn be (DataW.put (.map []) (sL 0) (.lit (.int .i64 1))) 1 := by
  have h0 : IsMap (DataW.map [] : DataW Unit) := ⟨_, rfl⟩
  have hc : cnS be 0 = 1 := by unfold cnS; rw [show bitsOf 0 = [] from (bitsOf_nil (by omega)).2 rfl]; rfl
  refine ⟨h0.put _ _, [0], by simp, rfl, by simp, fun s hs => by simp at hs; omega, fun t ht => ?_, fun t ht => ?_⟩
  · by_cases e : t = 0
    · subst e
      have := has_put_same h0 (sL_is (s := 0) (by omega)) (.lit (.int .i64 1))
      simp [this]
    · rw [has_put_other (fun h => e (sL_inj h))]; simp [e, Maps.has]
  · have e : t = 0 := by simpa using ht
    subst e
    rw [atKey_put_same h0 (sL_is (by omega)), hc]; rfl
theorem ownsMap_mod {P : Program} {k : TypeId} {R : Value → Option (DataW Unit × List MemPlace)} {b n : Nat} {D : DataW Unit} {W W' : World} {O : Nat → Prop} (h : W.ownsMap P k R b n D) (hm : Mod O W W') (hb : ¬ O b) : W'.ownsMap P k R b n D := by
  have hl := h.lt
  obtain ⟨es, clock, hb', F, hs, hD⟩ := h
  exact ⟨es, clock, (hm.2 b hl hb).trans hb', F, hs, hD⟩
theorem wpList_insert_own {H : Type} {P : Program} (w : World) {ops : Array Oper} {rest : List Oper} {o : Oper} {a : Act} {Q : Exit → Act → World → Prop}
    (hg : o.guard = none) (m x v : Operand) (t : TypeId) (hop : o.op = Op.insert t m x v)
    (k e : TypeId) (K : Keyed P k) (ht : P.underlying t = some (.map k e)) (R : Value → Option (DataW H × List MemPlace)) (b n : Nat) (D : DataW H)
    (hm : a.eval m = .map (some b)) (hown : w.ownsMap P k R b n D) (hn : n < maxLen) (key val : Value) (kl : Lit) (hx : a.eval x = key) (hv : a.eval v = val) (hkey : keyOf P k key = some kl)
    (d : DataW H) (ps : List MemPlace) (hval : R val = some (d, ps))
    (hK : ∀ w', w'.ownsMap P k R b (n + 1) (D.put kl d) → w.grownBy w' (some b) → wpList P ops Q rest (a.put o.dst undef) w') :
    wpList P ops Q (o :: rest) a w := by
  refine wpList_plain hg fun K' hK' => ?_
  obtain ⟨w', hrun, r1, r2⟩ := hown.update K ht hn hkey hval
  unfold Oper.wp
  simp [execOp, hop, hm, hx, hv, hrun, Result.andThen]
  exact hK' _ _ (hK w' r1 r2)
/-- the blocks of a counter: the variable known, the graph, the closure; the map -/
structure CB where
  mb : Nat
  gb : Nat
  cb : Nat
  M : Nat
  G : Gph
def CB.fv (c : CB) : Value := .func (.func 142) #[] #[.pointer (some ⟨c.mb, 0, none⟩), .pointer (some ⟨c.gb, 0, none⟩), .pointer (some ⟨c.cb, 0, none⟩)]
structure CB.ok (c : CB) : Prop where
  gok : c.G.ok
  ne : c.mb ≠ c.M ∧ c.gb ≠ c.M ∧ c.cb ≠ c.M
  tb : 0 ≠ c.M
structure CSt (c : CB) (D : DataW Unit) (n : Nat) (W : World) : Prop where
  ms : W.heap[c.mb]? = some (.cells #[.map (some c.M)] 142 (0, 0))
  gs : Gr W c.gb c.G
  cs : W.heap[c.cb]? = some (.cells #[c.fv] 111 (0, 0))
  ow : W.ownsMap Tryd.prog 79 (plainElem Tryd.prog 3) c.M n D
  kn : Kn c.G.be D n
  tb : Tab W
theorem CSt.mod {c : CB} {D : DataW Unit} {n : Nat} {W W' : World} {O : Nat → Prop} (h : CSt c D n W) (hm : Mod O W W') (ho : ∀ k, O k → c.mb ≠ k ∧ c.gb ≠ k ∧ c.cb ≠ k ∧ c.M ≠ k ∧ 0 ≠ k) : CSt c D n W' := by
  have key : ∀ k o, (∀ j, O j → k ≠ j) → W.heap[k]? = some o → W'.heap[k]? = some o := fun k o hk e => (hm.2 k (Array.getElem?_eq_some_iff.1 e).1 (fun h' => hk k h' rfl)).trans e
  exact ⟨key _ _ (fun j hj => (ho j hj).1) h.ms, key _ _ (fun j hj => (ho j hj).2.1) h.gs, key _ _ (fun j hj => (ho j hj).2.2.1) h.cs, ownsMap_mod h.ow hm (fun h' => (ho _ h').2.2.2.1 rfl), h.kn, h.tb.keep (Keep.of_mod (O' := tabE) hm fun k hk h' => (ho k h').2.2.2.2 hk.symm) rfl⟩
theorem CSt.new {c : CB} {D : DataW Unit} {n : Nat} {W W' : World} (h : CSt c D n W) (hn : New W W') : CSt c D n W' := h.mod (O := fun _ => False) (Mod.of_new hn) (fun _ h => h.elim)
theorem CSt.lt {c : CB} {D : DataW Unit} {n : Nat} {W : World} (h : CSt c D n W) : c.mb < W.heap.size ∧ c.gb < W.heap.size ∧ c.cb < W.heap.size ∧ c.M < W.heap.size :=
  ⟨(Array.getElem?_eq_some_iff.1 h.ms).1, h.gs.lt, (Array.getElem?_eq_some_iff.1 h.cs).1, h.ow.lt⟩
/-- what a call of the closure has done -/
def CnR (c : CB) (s : Nat) (D : DataW Unit) (W : World) (e : Ending) (W' : World) : Prop :=
  e = .returned (.int .i64 (cnS c.G.be s : Int)) ∧ Mod (fun q => q = c.M) W W' ∧ ∃ D' n', CSt c D' n' W' ∧ ∀ t, s < t → Maps.has D' (sL t) = Maps.has D (sL t)
/-- between two rounds of its loop -/
structure CnI (c : CB) (k s H : Nat) (D : DataW Unit) (W : World) (done : List Nat) (pc : Option Code) (V : World) : Prop where
  pn : pc = none
  md : Mod (fun q => q = c.M) W V
  sz : H + 3 ≤ V.heap.size
  sb : V.heap[H]? = some (.cells #[sv s] 79 (0, 0))
  nb : V.heap[H + 1]? = some (.cells #[.int .i64 (cntTo c.G.be k s done : Int)] 3 (0, 0))
  cs : ∃ D' n', CSt c D' n' V ∧ ∀ t, s ≤ t → Maps.has D' (sL t) = Maps.has D (sL t)

set_option maxHeartbeats 8000000 in
theorem count_known (c : CB) (hc : c.ok) (s : Nat) (D : DataW Unit) (n : Nat) (W : World) (hs : s < 2 ^ 24) (hst : CSt c D n W) (hh : Maps.has D (sL s) = true) :
    Calls Tryd.prog 142 #[sv s, .pointer (some ⟨c.mb, 0, none⟩), .pointer (some ⟨c.gb, 0, none⟩), .pointer (some ⟨c.cb, 0, none⟩)] W (CnR c s D W) := by
  have hs32 : s < 4294967296 := by omega
  obtain ⟨H, hH⟩ : ∃ H, W.heap.size = H := ⟨_, rfl⟩
  have hkey := sL_key hs32
  have hn1 : New W (W.alloc (.cells #[sv s] 79)) := (New.refl W).alloc _
  have e0 := (box_cell (row_new hst.ms hn1)).1
  have HOW := Lib.hid ((hst.new hn1).ow)
  have HST := Lib.hid hst
  have HV := Lib.hid (hst.kn.val hs hh)
  have HK := Lib.hid hkey
  clear hst hn1 hkey
  refine (callsIn_wide (n := 5)).1 ?_
  refine callsIn_of_wp_marks Tryd.func142 rfl trivial ?_ rfl
  simp only [Tryd.ntmps142, List.size_toArray, List.length_cons, List.length_nil, Nat.reduceAdd, Nat.reduceSub, Array.replicate_succ, Array.replicate_zero, List.push_toArray, List.append_toArray, List.nil_append, List.cons_append]
  gi_wp2_with (gi_at_lookup; refine wpListIn_lookup_own_ok_int _ rfl _ _ 142 rfl 79 3 .i64 keyed_set Tryd.underlying142 Tryd.underlying3 (zero_int _) c.M n D rfl HOW.out _ _ rfl HK.out ?_; intro cn hat hwc)
  refine leaves_marks [] _ (by simp) (fun q hq => by cases hq) (fun W9 hm => ?_)
  refine ⟨_, results_tmp rfl _ _ _, ?_⟩
  have hcn : cn = (cnS c.G.be s : Int) := by
    rw [HV.out] at hat
    injection hat with h
    injection h with _ h
    exact h.symm
  have hn9 : New W ((W.alloc (.cells #[sv s] 79)).alloc (.cells #[.int .i64 cn] 3)) := ((New.refl W).alloc _).alloc _
  have hm9 := (Mod.of_new (O := fun k => k ∈ ([] : List Nat)) hn9).trans hm
  exact ⟨by rw [← hcn]; rfl, hm9.mono (fun k hk => by cases hk), D, n, HST.out.mod hm9 (fun k hk => by cases hk), fun _ _ => rfl⟩

set_option maxHeartbeats 16000000 in
theorem count_new (c : CB) (hc : c.ok) (k : Nat)
    (IH : ∀ (s : Nat) (D : DataW Unit) (n : Nat) (W : World), s < 2 ^ 24 → (bitsOf s).length = k → CSt c D n W → Calls Tryd.prog 142 #[sv s, .pointer (some ⟨c.mb, 0, none⟩), .pointer (some ⟨c.gb, 0, none⟩), .pointer (some ⟨c.cb, 0, none⟩)] W (CnR c s D W))
    (s : Nat) (D : DataW Unit) (n : Nat) (W : World) (hs : s < 2 ^ 24) (hl : (bitsOf s).length = k + 1) (hk : k + 1 ≤ 12) (hst : CSt c D n W) (hh : Maps.has D (sL s) = false) :
    Calls Tryd.prog 142 #[sv s, .pointer (some ⟨c.mb, 0, none⟩), .pointer (some ⟨c.gb, 0, none⟩), .pointer (some ⟨c.cb, 0, none⟩)] W (CnR c s D W) := by
  have hs32 : s < 4294967296 := by omega
  obtain ⟨H, hH⟩ : ∃ H, W.heap.size = H := ⟨_, rfl⟩
  have hkey := sL_key hs32
  have hn1 : New W (W.alloc (.cells #[sv s] 79)) := (New.refl W).alloc _
  have hn2 : New W ((W.alloc (.cells #[sv s] 79)).alloc (.cells #[.int .i64 0] 3)) := ((New.refl W).alloc _).alloc _
  have e0 := (box_cell (row_new hst.ms hn1)).1
  have HOW := Lib.hid ((hst.new hn1).ow)
  have HG2 := Lib.hid ((hst.gs.new hn2))
  have HST := Lib.hid hst
  have HZ := Lib.hid (atKey_of_not_has hh (.lit (.int .i64 0) : DataW Unit))
  have HHS := Lib.hid hh
  have HK := Lib.hid hkey
  have HH := Lib.hid hH
  have HC := Lib.hid hc
  have HIH := Lib.hid IH
  have HL := Lib.hid hl
  have HKK := Lib.hid hk
  have HLT := Lib.hid (show c.mb < H ∧ c.gb < H ∧ c.cb < H ∧ c.M < H from by rw [← hH]; exact hst.lt)
  have HTB := Lib.hid (show 0 < H from by rw [← hH]; exact hst.tb.1)
  have HTT := Lib.hid (fun w1 (hn : New W w1) => hst.tb.new hn)
  have HRD := Lib.hid (fun (w1 : World) (h1 : Tab w1) => (callsIn_wide (n := 4)).2 (ready_c c.G s w1 hc.gok hs h1))
  obtain ⟨R, hR⟩ : ∃ R, rdN c.G.be s = R := ⟨_, rfl⟩
  rw [hR] at HRD
  have hR32 : R < 4294967296 := by rw [← hR]; exact rdTo_lt c.G.be s (bitsOf s) 0 (by omega) (fun p hp => bitsOf_lt hp)
  have HR := Lib.hid (show ∀ x, x ∈ bitsOf R → x ∈ bitsOf s from fun x hx => rdN_sub (be := c.G.be) (by rw [hR]; exact (bitsOf_mem.1 hx).2))
  have HPC := Lib.hid (fun (w1 : World) => (callsIn_wide (n := 4)).2 (patches_c R w1))
  have HALL := Lib.hid (show cnS c.G.be s = cntTo c.G.be k s (bitsOf R) from by unfold cnS; rw [hl, ← hR]; exact (cntTo_all _ _ _).symm)
  have HBD := Lib.hid (show cnS c.G.be s ≤ 479001600 from by unfold cnS; rw [hl]; exact Nat.le_trans (cntS_le _ _ _ hs32 hl) (facN_12 _ hk))
  clear hst hn1 hn2 hkey IH hl hR
  refine (callsIn_wide (n := 5)).1 ?_
  refine callsIn_of_wp_marks Tryd.func142 rfl trivial ?_ rfl
  simp only [Tryd.ntmps142, List.size_toArray, List.length_cons, List.length_nil, Nat.reduceAdd, Nat.reduceSub, Array.replicate_succ, Array.replicate_zero, List.push_toArray, List.append_toArray, List.nil_append, List.cons_append]
  gi_wp2_with (first | (gi_at_lookup; refine wpListIn_lookup_own_ok_int _ rfl _ _ 142 rfl 79 3 .i64 keyed_set Tryd.underlying142 Tryd.underlying3 (zero_int _) c.M n D rfl HOW.out _ _ rfl HK.out ?_; intro cn hat hwc; obtain rfl : cn = 0 := by { rw [HZ.out] at hat; injection hat with h; injection h with _ h; exact h.symm }) | (refine wpListIn_get_graph rfl (.tmp 2) rfl c.gb rfl HG2.out ?_))
  refine ⟨trivial, ?_⟩
  gi_at_call 101
  obtain ⟨W2, hW2⟩ : ∃ W2 : World, Hid (W2 = (W.alloc (.cells #[sv s] 79)).alloc (.cells #[.int .i64 0] 3)) := ⟨_, Lib.hid rfl⟩
  rw [← hW2.out]
  have hn2 : New W W2 := by rw [hW2.out]; exact ((New.refl W).alloc _).alloc _
  obtain ⟨q1, q2⟩ : W2.heap[H]? = some (.cells #[sv s] 79 (0, 0)) ∧ W2.heap[H + 1]? = some (.cells #[.int .i64 0] 3 (0, 0)) := by rw [hW2.out, ← HH.out]; exact alloc3_heap2 W _ _
  refine (HRD.out _ (HTT.out _ hn2)).mono ?_
  rintro e w3 ⟨rfl, n3⟩
  have N3 := Lib.hid (hn2.trans n3)
  have HQ1 := Lib.hid (row_new q1 n3)
  have HQ2 := Lib.hid (row_new q2 n3)
  clear n3 hn2 q1 q2 hat hwc e0
  gi_wp2
  refine ⟨trivial, ?_⟩
  gi_at_call 89
  refine (HPC.out _).mono ?_
  rintro e w4 ⟨rfl, rfl⟩
  gi_wp2
  obtain ⟨WQ, HWQ⟩ : ∃ WQ : World, Hid (WQ = w3.alloc (.cells #[sv R] 79)) := ⟨_, Lib.hid rfl⟩
  rw [← HWQ.out]
  obtain ⟨qs, qz⟩ : WQ.heap[w3.heap.size]? = some (.cells #[sv R] 79 (0, 0)) ∧ WQ.heap.size = w3.heap.size + 1 := by rw [HWQ.out]; exact ⟨World.alloc_heap_new w3 _, by simp⟩
  have hnQ : New w3 WQ := by rw [HWQ.out]; exact (New.refl w3).alloc _
  obtain ⟨E, hE⟩ : ∃ E, WQ.heap.size = E := ⟨_, rfl⟩
  have hHE : H + 2 < E := by have := (Array.getElem?_eq_some_iff.1 HQ2.out).1; omega
  have HHE := Lib.hid hHE
  have HI0 := Lib.hid (show CnI c k s H D W [] none WQ from ⟨rfl, Mod.of_new (N3.out.trans hnQ), by omega, row_new HQ1.out hnQ, row_new HQ2.out hnQ, D, n, HST.out.new (N3.out.trans hnQ), fun _ _ => rfl⟩)
  have HTQ := Lib.hid (HTT.out _ (N3.out.trans hnQ))
  clear hnQ qz hHE
  refine range_set (n := 5) (by omega) R w3.heap.size hR32 rfl qs HTQ.out rfl (fun q => q = c.M ∨ q = H + 1) (fun q hq => ?hA) (CnI c k s H D W) ?hI HI0.out ?hbody ?hdone ?hstop
  case hA =>
    have h1 := HLT.out; have h2 := HTB.out; have h3 := HC.out.tb; have h4 := HHE.out
    rcases hq with rfl | rfl
    · exact ⟨by omega, fun h => h3 h.symm⟩
    · exact ⟨by omega, by omega⟩
  case hI =>
    rintro done pc V V' ⟨i1, i2, i3, i4, i5, D', n', i6, i7⟩ hl'
    rw [hE] at hl'
    have h1 := HLT.out; have h2 := HTB.out; have h4 := HHE.out; have h5 := HH.out
    exact ⟨i1, i2.low hl' (by omega), Nat.le_trans i3 hl'.bl.size, hl'.at (by omega) i4, hl'.at (by omega) i5, D', n', i6.mod (O := fun q => E ≤ q) ⟨hl'.bl, fun q hq hn => hl'.sm q (by omega)⟩ (fun q hq => by omega), i7⟩
  case hbody =>
    intro m done x rest V hdd hi hT _ hsz _
    have hxs := HR.out x (by rw [← hdd]; simp)
    have hx24 := low24 hs hxs
    have HTo := Lib.hid (cntTo_snoc c.G.be k s done x)
    have HTLE := Lib.hid (show cntTo c.G.be k s (done ++ [x]) ≤ 479001600 from by
      have := HBD.out
      rw [HALL.out, ← hdd, show done ++ x :: rest = (done ++ [x]) ++ rest by simp] at this
      exact Nat.le_trans (cntTo_le _ _ _ _ _) this)
    have HXS := Lib.hid hxs
    clear hdd hi hT hsz
    rw [hE]
    gi_wp2
    (try refine ⟨trivial, ?_⟩)
    intro V2 hl2 hs2 hT2 hi2
    obtain ⟨_, i2, i3, i4, i5, D', n', i6, i7⟩ := hi2
    have HMD := Lib.hid i2
    have HSB := Lib.hid i4
    have HNB := Lib.hid i5
    have HCS := Lib.hid i6
    have HHA := Lib.hid i7
    have HSZ := Lib.hid i3
    obtain ⟨acc, hacc⟩ : ∃ acc, cntTo c.G.be k s done = acc := ⟨_, rfl⟩
    obtain ⟨X, hX⟩ : ∃ X, 2 ^ x = X := ⟨_, rfl⟩
    have hX32 : X < 4294967296 := by rw [← hX]; exact pow_lt x (by omega)
    have HSI := Lib.hid (fun (w1 : World) => single_c x w1 (by omega))
    have HWO := Lib.hid (fun (w1 : World) => without_c s X w1 hs32 hX32)
    rw [hX] at HSI
    obtain ⟨t, ht⟩ : ∃ t, wo s X = t := ⟨_, rfl⟩
    rw [ht] at HWO
    have htl : (bitsOf t).length = k := by have := wo_bits hs32 hxs; rw [hX, ht, HL.out] at this; omega
    have htlt : t < s := by
      have h1 := wo_le s X
      rw [ht] at h1
      refine Nat.lt_of_le_of_ne h1 (fun e => ?_)
      rw [e] at htl
      have := HL.out; omega
    obtain ⟨y, hy⟩ : ∃ y, cnS c.G.be t = y := ⟨_, rfl⟩
    have HCALL := Lib.hid (show ∀ W5, New V2 W5 → Calls Tryd.prog 142 #[sv t, .pointer (some ⟨c.mb, 0, none⟩), .pointer (some ⟨c.gb, 0, none⟩), .pointer (some ⟨c.cb, 0, none⟩)] W5 (fun e W' => e = .returned (.int .i64 (y : Int)) ∧ Mod (fun q => q = c.M) W5 W' ∧ ∃ D2 n2, CSt c D2 n2 W' ∧ ∀ u, s ≤ u → Maps.has D2 (sL u) = Maps.has D (sL u)) from fun W5 n5 => by
      have := HIH.out t D' n' W5 (by omega) htl (HCS.out.new n5)
      unfold CnR at this
      rw [hy] at this
      refine this.mono ?_
      rintro e W' ⟨a1, a2, D2, n2, a3, a4⟩
      exact ⟨a1, a2, D2, n2, a3, fun u hu => (a4 u (by omega)).trans (HHA.out u hu)⟩)
    have HSUM := Lib.hid (show cntTo c.G.be k s (done ++ [x]) = acc + y from by rw [HTo.out, hacc, hX, ht, ← hy]; unfold cnS; rw [htl])
    have HADD := Lib.hid (show IntKind.i64.wrap ((acc : Int) + (y : Int)) = ((acc + y : Nat) : Int) from by
      have h1 := HTLE.out
      rw [HSUM.out] at h1
      rw [IntWalk.i64_in _ (by omega)]; omega)
    rw [hacc] at HNB
    have e1 : V2.cell? ⟨H + 1, 0, none⟩ = some (.int .i64 (acc : Int)) := (box_cell HNB.out).1
    have e2 : V2.cell? ⟨c.cb, 0, none⟩ = some c.fv := (box_cell i6.cs).1
    have e3 : V2.cell? ⟨H, 0, none⟩ = some (sv s) := (box_cell i4).1
    unfold CB.fv at e2
    have hS := And.intro e1 (And.intro e2 e3)
    have HLT2 := Lib.hid (show H + 1 < V2.heap.size ∧ c.cb < V2.heap.size ∧ H < V2.heap.size from ⟨World.block_lt_of_cell? _ _ e1, World.block_lt_of_cell? _ _ e2, World.block_lt_of_cell? _ _ e3⟩)
    have hno : H + 1 ≠ c.M ∧ c.cb ≠ c.M ∧ H ≠ c.M := by have h1 := HLT.out; have h2 := HC.out.ne; exact ⟨by omega, h2.2.2, by omega⟩
    have HNO := Lib.hid hno
    clear hl2 hs2 hT2 i2 i3 i4 i5 i6 i7 hacc hX ht htl htlt hy e1 e2 e3 hno
    gi_wp2
    apply region_last 8 (fun w' => w'.cell? ⟨H + 1, 0, none⟩ = some (.int .i64 (acc : Int)) ∧ w'.cell? ⟨c.cb, 0, none⟩ = some (.func (.func 142) #[] #[.pointer (some ⟨c.mb, 0, none⟩), .pointer (some ⟨c.gb, 0, none⟩), .pointer (some ⟨c.cb, 0, none⟩)]) ∧ w'.cell? ⟨H, 0, none⟩ = some (sv s)) (fun w' => ∃ W5, Mod (fun q => q = c.M) V2 W5 ∧ ∃ D2 n2, CSt c D2 n2 W5 ∧ (∀ u, s ≤ u → Maps.has D2 (sL u) = Maps.has D (sL u)) ∧ w' = W5.setCell ⟨H + 1, 0, none⟩ (.int .i64 ((acc + y : Nat) : Int))) (by kernel_rfl) (by kernel_rfl)
    case h =>
      have hHeld := (show V2.drew.cell? ⟨H + 1, 0, none⟩ = some (.int .i64 (acc : Int)) ∧ V2.drew.cell? ⟨c.cb, 0, none⟩ = some (.func (.func 142) #[] #[.pointer (some ⟨c.mb, 0, none⟩), .pointer (some ⟨c.gb, 0, none⟩), .pointer (some ⟨c.cb, 0, none⟩)]) ∧ V2.drew.cell? ⟨H, 0, none⟩ = some (sv s) from hS)
      refine G_take (i := 0) (x := { dst := some 22, op := _, type := _, pos := _, after := _, guard := _ }) (v := ?_) rfl (by kernel_rfl) (by kernel_rfl) (by kernel_rfl) (by kernel_rfl) (fun _ _ _ h => h) (Or.inl ⟨by rfl, (by intro w hSw; (try dsimp only at hSw); obtain ⟨hSa, hSb, hSc⟩ := hSw; go_simp; try with_reducible rfl)⟩) hHeld ?_
      (try simp only [Act.put, List.setIfInBounds_toArray, List.set_cons_zero, List.set_cons_succ])
      refine G_take (i := 1) (x := { dst := some 23, op := _, type := _, pos := _, after := _, guard := _ }) (v := ?_) rfl (by kernel_rfl) (by kernel_rfl) (by kernel_rfl) (by kernel_rfl) (fun _ _ _ h => h) (Or.inl ⟨by rfl, (by intro w hSw; (try dsimp only at hSw); obtain ⟨hSa, hSb, hSc⟩ := hSw; go_simp; try with_reducible rfl)⟩) hHeld ?_
      (try simp only [Act.put, List.setIfInBounds_toArray, List.set_cons_zero, List.set_cons_succ])
      refine G_take (i := 2) (x := { dst := some 24, op := _, type := _, pos := _, after := _, guard := _ }) (v := ?_) rfl (by kernel_rfl) (by kernel_rfl) (by kernel_rfl) (by kernel_rfl) (fun _ _ _ h => h) (Or.inl ⟨by rfl, (by intro w hSw; (try dsimp only at hSw); obtain ⟨hSa, hSb, hSc⟩ := hSw; go_simp; try with_reducible rfl)⟩) hHeld ?_
      (try simp only [Act.put, List.setIfInBounds_toArray, List.set_cons_zero, List.set_cons_succ])
      refine G_take (i := 3) (x := { dst := some 25, op := _, type := _, pos := _, after := _, guard := _ }) (v := ?_) rfl (by kernel_rfl) (by kernel_rfl) (by kernel_rfl) (by kernel_rfl) (fun _ _ _ h => h) (Or.inl ⟨by rfl, (by intro w hSw; (try dsimp only at hSw); obtain ⟨hSa, hSb, hSc⟩ := hSw; go_simp; try with_reducible rfl)⟩) hHeld ?_
      (try simp only [Act.put, List.setIfInBounds_toArray, List.set_cons_zero, List.set_cons_succ])
      refine G_one (i := 4) (x := { dst := some 26, op := _, type := _, pos := _, after := _, guard := _ }) (by kernel_rfl) rfl (by rfl) (fun K hK => ?_)
      go_simp
      go_at_call 91
      refine (HSI.out _).mono ?_
      rintro e w5 ⟨rfl, n5⟩
      have N5 := Lib.hid (show New V2 w5 from (New.refl V2).drew.trans n5)
      clear n5
      have hHeld := (show w5.cell? ⟨H + 1, 0, none⟩ = some (.int .i64 (acc : Int)) ∧ w5.cell? ⟨c.cb, 0, none⟩ = some (.func (.func 142) #[] #[.pointer (some ⟨c.mb, 0, none⟩), .pointer (some ⟨c.gb, 0, none⟩), .pointer (some ⟨c.cb, 0, none⟩)]) ∧ w5.cell? ⟨H, 0, none⟩ = some (sv s) from ⟨(N5.out.cell HLT2.out.1).trans hS.1, (N5.out.cell HLT2.out.2.1).trans hS.2.1, (N5.out.cell HLT2.out.2.2).trans hS.2.2⟩)
      refine hK _ _ (.inr hHeld) ?_
      clear hK K
      (try simp only [Act.put, List.setIfInBounds_toArray, List.set_cons_zero, List.set_cons_succ])
      refine G_one (i := 5) (x := { dst := some 27, op := _, type := _, pos := _, after := _, guard := _ }) (by kernel_rfl) rfl (by rfl) (fun K hK => ?_)
      go_simp
      go_at_call 90
      refine (HWO.out _).mono ?_
      rintro e w6 ⟨rfl, n6⟩
      have N5 := Lib.hid (show New V2 w6 from N5.out.trans n6)
      clear n6
      have hHeld := (show w6.cell? ⟨H + 1, 0, none⟩ = some (.int .i64 (acc : Int)) ∧ w6.cell? ⟨c.cb, 0, none⟩ = some (.func (.func 142) #[] #[.pointer (some ⟨c.mb, 0, none⟩), .pointer (some ⟨c.gb, 0, none⟩), .pointer (some ⟨c.cb, 0, none⟩)]) ∧ w6.cell? ⟨H, 0, none⟩ = some (sv s) from ⟨(N5.out.cell HLT2.out.1).trans hS.1, (N5.out.cell HLT2.out.2.1).trans hS.2.1, (N5.out.cell HLT2.out.2.2).trans hS.2.2⟩)
      refine hK _ _ (.inr hHeld) ?_
      clear hK K
      (try simp only [Act.put, List.setIfInBounds_toArray, List.set_cons_zero, List.set_cons_succ])
      refine G_one (i := 6) (x := { dst := some 28, op := _, type := _, pos := _, after := _, guard := _ }) (by kernel_rfl) rfl (by rfl) (fun K hK => ?_)
      go_simp
      go_at_call 142
      refine (HCALL.out _ N5.out).mono ?_
      rintro e w7 ⟨rfl, m7, D2, n2, cs7, hh7⟩
      have m27 : Mod (fun q => q = c.M) V2 w7 := (Mod.of_new N5.out).trans m7
      have r1 := (m27.2 (H + 1) HLT2.out.1 HNO.out.1).trans HNB.out
      have r2 := (m27.2 c.cb HLT2.out.2.1 HNO.out.2.1).trans HCS.out.cs
      have r3 := (m27.2 H HLT2.out.2.2 HNO.out.2.2).trans HSB.out
      have c6 := (box_cell r1).1
      have f6 := (box_cell r1).2
      have M7 := Lib.hid m27
      have CS7 := Lib.hid cs7
      have HH7 := Lib.hid hh7
      have hHeld := (show w7.cell? ⟨H + 1, 0, none⟩ = some (.int .i64 (acc : Int)) ∧ w7.cell? ⟨c.cb, 0, none⟩ = some (.func (.func 142) #[] #[.pointer (some ⟨c.mb, 0, none⟩), .pointer (some ⟨c.gb, 0, none⟩), .pointer (some ⟨c.cb, 0, none⟩)]) ∧ w7.cell? ⟨H, 0, none⟩ = some (sv s) from ⟨(box_cell r1).1, (by have := (box_cell r2).1; unfold CB.fv at this; exact this), (box_cell r3).1⟩)
      refine hK _ _ (.inr hHeld) ?_
      clear hK K
      (try simp only [Act.put, List.setIfInBounds_toArray, List.set_cons_zero, List.set_cons_succ])
      refine G_take (i := 7) (x := { dst := some 29, op := _, type := _, pos := _, after := _, guard := _ }) (v := ?_) rfl (by kernel_rfl) (by kernel_rfl) (by kernel_rfl) (by kernel_rfl) (fun _ _ _ h => h) (Or.inl ⟨by rfl, (by intro w hSw; (try dsimp only at hSw); obtain ⟨hSa, hSb, hSc⟩ := hSw; go_simp; try with_reducible rfl)⟩) hHeld ?_
      (try simp only [Act.put, List.setIfInBounds_toArray, List.set_cons_zero, List.set_cons_succ])
      refine G_one (i := 8) (x := { dst := none, op := _, type := _, pos := _, after := _, guard := _ }) (by kernel_rfl) rfl (by rfl) (fun K hK => ?_)
      go_simp
      refine hK _ _ (.inl rfl) ?_
      clear hK K
      (try simp only [Act.put, List.setIfInBounds_toArray, List.set_cons_zero, List.set_cons_succ])
      refine G_done (by kernel_rfl) ?_ _
      exact ⟨rfl, w7, M7.out, D2, n2, CS7.out, HH7.out, congrArg (fun v => World.setCell w7 ⟨H + 1, 0, none⟩ (Value.int .i64 v)) HADD.out⟩
    case hq =>
      rintro _ ⟨W5, m5, D2, n2, cs5, hh5, rfl⟩
      have h1 := HLT.out; have h2 := HTB.out; have h3 := HC.out.ne; have h4 := HC.out.tb
      have hz5 : ∀ v, (W5.setCell ⟨H + 1, 0, none⟩ v).heap.size = W5.heap.size := fun v => by simp [go_sem]
      have k1 : W5.heap[H]? = some (.cells #[sv s] 79 (0, 0)) := (m5.2 H HLT2.out.2.2 (fun e => HNO.out.2.2 e)).trans HSB.out
      have k2 : W5.heap[H + 1]? = some (.cells #[.int .i64 (acc : Int)] 3 (0, 0)) := (m5.2 (H + 1) HLT2.out.1 (fun e => HNO.out.1 e)).trans HNB.out
      have HP := Lib.hid (show RoundS (fun q => q = c.M ∨ q = H + 1) (CnI c k s H D W) (done ++ [x]) V2 .normal (W5.setCell ⟨H + 1, 0, none⟩ (.int .i64 ((acc + y : Nat) : Int))) from by
        refine RoundS.on ((m5.mono fun q hq => .inl hq).trans (Mod.setCell _ _ _ _ (.inr rfl))) ?_
        refine ⟨rfl, (HMD.out.trans m5).over (Mod.setCell (O := fun q => q = H + 1) _ _ _ _ rfl) HH.out (fun q hq => by omega), by rw [hz5]; exact Nat.le_trans HSZ.out m5.size, (heap_setCell_other _ _ _ _ _ (by omega)).trans k1, ?_, D2, n2, cs5.mod (Mod.setCell (O := fun q => q = H + 1) _ _ _ _ rfl) (fun q hq => by omega), hh5⟩
        rw [HSUM.out]; exact heap_setCell_same _ _ 0 _ k2)
      clear m5 cs5 hh5 k1 k2 hz5 hS h1 h2 h3 h4
      gi_wp2
      exact HP.out
  case hdone =>
    rw [hE]
    rintro V ⟨_, i2, i3, i4, i5, D', n', i6, i7⟩ hT hd
    rw [← HALL.out] at i5
    obtain ⟨y, hy⟩ : ∃ y, cnS c.G.be s = y := ⟨_, rfl⟩
    rw [hy] at i5
    have HY := Lib.hid hy
    have e1 := (box_cell i6.ms).1
    have e2 := (box_cell i4).1
    have e3 := (box_cell i5).1
    have HMD := Lib.hid i2
    have HCS := Lib.hid i6
    have HNB := Lib.hid i5
    have HD := Lib.hid hd
    have HHF := Lib.hid (show Maps.has D' (sL s) = false from (i7 s (Nat.le_refl _)).trans HHS.out)
    have HHA := Lib.hid i7
    have HYB := Lib.hid (show y ≤ 479001600 from by rw [← hy]; exact HBD.out)
    have hnm : n' < maxLen := by have := i6.kn.le; unfold maxLen; omega
    have HSE := Lib.hid (show H + 1 < V.heap.size ∧ E < V.heap.size from ⟨(Array.getElem?_eq_some_iff.1 i5).1, (Array.getElem?_eq_some_iff.1 hd).1⟩)
    clear i2 i3 i4 i5 i6 i7 hT hd hy
    gi_wp2_with (gi_at_mapUpdate; refine wpListIn_mapUpdate_own _ rfl _ _ _ 142 rfl 79 3 keyed_set Tryd.underlying142 _ c.M n' D' rfl HCS.out.ow hnm _ _ _ rfl rfl HK.out _ [] (plainElem_int Tryd.underlying3 (WalkArith.wf_i64 (by have := HYB.out; omega))) ?_; intro w1 hown1 hgrow1; have hM1 : Mod (fun q => q = c.M) V w1 := Mod.grown hgrow1 (fun q hq => by simpa using hq.symm); have e4 : w1.cell? ⟨H + 1, 0, none⟩ = some (.int .i64 (y : Int)) := (box_cell ((hM1.2 (H + 1) HSE.out.1 (by have := HLT.out; omega)).trans HNB.out)).1)
    refine leaves_marks [E] _ (by simp) (fun q hq => ?_) (fun W9 hm => ?_)
    · simp at hq; rw [hq]; exact (hM1.2 E HSE.out.2 (by have := HLT.out; have := HHE.out; omega)).trans HD.out
    · have h1 := HLT.out; have h2 := HTB.out; have h3 := HC.out.ne; have h4 := HC.out.tb; have h5 := HHE.out
      refine ⟨_, results_tmp rfl _ _ _, ?_⟩
      have hcs1 : CSt c (D'.put (sL s) (.lit (.int .i64 (y : Int)))) (n' + 1) w1 := by
        have hh := HCS.out
        have kp : ∀ q o, q ≠ c.M → V.heap[q]? = some o → w1.heap[q]? = some o := fun q o hq e => (hM1.2 q (Array.getElem?_eq_some_iff.1 e).1 hq).trans e
        refine ⟨kp _ _ h3.1 hh.ms, kp _ _ h3.2.1 hh.gs, kp _ _ h3.2.2 hh.cs, hown1, ?_, hh.tb.keep (Keep.of_mod (O' := tabE) hM1 fun q hq h' => by unfold tabE at hq; omega) rfl⟩
        have := hh.kn.put (s := s) hs HHF.out
        rw [HY.out] at this
        exact this
      refine ⟨by rw [HY.out]; rfl, (HMD.out.trans hM1).over hm HH.out (fun q hq => by simp at hq; omega), _, _, hcs1.mod hm (fun q hq => by simp at hq; omega), fun t ht => ?_⟩
      rw [has_put_other (fun e => by have := sL_inj e; omega)]
      exact HHA.out t (by omega)
  case hstop =>
    rintro done pc V hi _ _ _
    have := hi.pn
    cases this
theorem count_in (c : CB) (hc : c.ok) : ∀ (k : Nat) (s : Nat) (D : DataW Unit) (n : Nat) (W : World), k ≤ 12 → s < 2 ^ 24 → (bitsOf s).length = k → CSt c D n W →
    Calls Tryd.prog 142 #[sv s, .pointer (some ⟨c.mb, 0, none⟩), .pointer (some ⟨c.gb, 0, none⟩), .pointer (some ⟨c.cb, 0, none⟩)] W (CnR c s D W)
  | 0, s, D, n, W, _, hs, hl, hst => count_known c hc s D n W hs hst (by
      have : s = 0 := (bits_none (by omega)).1 hl
      rw [this]; exact hst.kn.has0)
  | k + 1, s, D, n, W, hk, hs, hl, hst => by
    cases hh : Maps.has D (sL s)
    · exact count_new c hc k (fun s D n W hs hl hst => count_in c hc k s D n W (by omega) hs hl hst) s D n W hs hl hk hst hh
    · exact count_known c hc s D n W hs hst hh
end Go.Proofs.YtiejefehcpfkaaaDoor
