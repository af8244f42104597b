/- Days of both sides at any problem; what the reference's search for a reason finds. -/
import Derived.Test.YtiejefehcpfkaaaDoorVw
import Derived.Test.YtiejefehcpfkaaaDoorVa
import Derived.Test.YtiejefehcpfkaaaDoorSp
import Derived.Test.YtiejefehcpfkaaaDoorTr
set_option linter.unusedSimpArgs false
set_option linter.unusedVariables false
set_option maxRecDepth 100000
namespace Go.Proofs.YtiejefehcpfkaaaDoor
open Go.RowKit Go.Shelf

attribute [local go_sem] Oper.semAt_some

theorem n24z {o : Prb} (av nv : Value) (hc : chkI o = 0) : (opG o av nv).n ≤ 24 := by have := (chkI_zero hc).1; show o.n.toNat ≤ 24; omega
theorem sl_nilz (w : World) : SlI w (.slice none 0 0) [] := ⟨none, 0, rfl, fun h => absurd h (by simp)⟩
theorem own_nilz (w : World) (base : Nat) (e : TypeId) (size : Nat) : w.ownsRow base e size (.slice none 0 0) 0 [] := ⟨by simp, .inl ⟨rfl, rfl⟩⟩
/-- the place that the reference's search finds among the first k before place i -/
def inR (ne : Int → Int → Bool) (dry : Int) (l : List Int) (D : Nat → Int) (i : Nat) : Nat → Option Nat
  | 0 => none
  | k + 1 => if ne (nI l k) (nI l i) && decide (D (nI l k).toNat + dry + 1 = D (nI l i).toNat) && (match inR ne dry l D i k with | none => true | some j => decide (nI l k < nI l j)) then some k else inR ne dry l D i k
theorem inR_spec {ne : Int → Int → Bool} {dry : Int} {l : List Int} {D : Nat → Int} {i : Nat} : ∀ k, match inR ne dry l D i k with
    | none => ∀ a, a < k → ¬ (ne (nI l a) (nI l i) = true ∧ D (nI l a).toNat + dry + 1 = D (nI l i).toNat)
    | some j => j < k ∧ (ne (nI l j) (nI l i) = true ∧ D (nI l j).toNat + dry + 1 = D (nI l i).toNat) ∧ ∀ a, a < k → (ne (nI l a) (nI l i) = true ∧ D (nI l a).toNat + dry + 1 = D (nI l i).toNat) → nI l j ≤ nI l a
  | 0 => by
    simp only [inR]
    intro a ha; omega
  | k + 1 => by
    have ih := inR_spec (ne := ne) (dry := dry) (l := l) (D := D) (i := i) k
    simp only [inR]
    by_cases hc : ne (nI l k) (nI l i) = true ∧ D (nI l k).toNat + dry + 1 = D (nI l i).toNat
    · rw [hc.1, decide_eq_true hc.2, Bool.true_and, Bool.true_and]
      cases hb : inR ne dry l D i k with
      | none =>
        rw [hb] at ih
        simp only [if_true]
        refine ⟨by omega, hc, fun a ha hac => ?_⟩
        rcases Nat.lt_or_ge a k with h | h
        · exact absurd hac (ih a h)
        · rw [show a = k by omega]; exact Int.le_refl _
      | some j =>
        rw [hb] at ih
        obtain ⟨h1, h2, h3⟩ := ih
        by_cases hlt : nI l k < nI l j
        · simp only [decide_eq_true hlt, if_true]
          refine ⟨by omega, hc, fun a ha hac => ?_⟩
          rcases Nat.lt_or_ge a k with h | h
          · have := h3 a h hac; omega
          · rw [show a = k by omega]; exact Int.le_refl _
        · simp only [decide_eq_false hlt, Bool.false_eq_true, if_false]
          refine ⟨by omega, h2, fun a ha hac => ?_⟩
          rcases Nat.lt_or_ge a k with h | h
          · exact h3 a h hac
          · rw [show a = k by omega]; omega
    · have hf : (ne (nI l k) (nI l i) && decide (D (nI l k).toNat + dry + 1 = D (nI l i).toNat)) = false := by
        rw [← Bool.not_eq_true, Bool.and_eq_true, decide_eq_true_eq]; exact hc
      rw [hf, Bool.false_and, if_neg (by simp)]
      cases hb : inR ne dry l D i k with
      | none =>
        rw [hb] at ih
        intro a ha
        rcases Nat.lt_or_ge a k with h | h
        · exact ih a h
        · rw [show a = k by omega]; exact hc
      | some j =>
        rw [hb] at ih
        obtain ⟨h1, h2, h3⟩ := ih
        refine ⟨by omega, h2, fun a ha hac => ?_⟩
        rcases Nat.lt_or_ge a k with h | h
        · exact h3 a h hac
        · rw [show a = k by omega] at hac; exact absurd hac hc
theorem find_low {s : Nat} {P : Nat → Bool} {q : Nat} (hq : q ∈ bitsOf s) (hP : P q = true) (hl : ∀ a, a ∈ bitsOf s → P a = true → q ≤ a) : (bitsOf s).find? P = some q := by
  have hsome : ((bitsOf s).find? P).isSome = true := List.find?_isSome.2 ⟨q, hq, hP⟩
  obtain ⟨x, hx⟩ := Option.isSome_iff_exists.1 hsome
  rw [hx]
  have h1 := hl x (List.mem_of_find?_eq_some hx) (List.find?_some hx)
  rcases Nat.lt_or_ge q x with h | h
  · exfalso
    obtain ⟨_, ys, bs, e, hn⟩ := List.find?_eq_some_iff_append.1 hx
    have hasc := bitsOf_asc s
    rw [e] at hq hasc
    rw [List.mem_append] at hq
    rcases hq with hq | hq
    · have := hn q hq; rw [hP] at this; simp at this
    · rcases List.mem_cons.1 hq with e' | hq
      · omega
      · have := (List.pairwise_cons.1 (List.pairwise_append.1 hasc).2.1).1 q hq; omega
  · congr 1; omega
/-- THE REASON THAT THE REFERENCE FINDS -/
theorem rea_in {o : Prb} {av nv : Value} (hc : chkI o = 0) {dry : Nat} {l : List Int} (h : ioB (opG o av nv) l = true) {i : Nat} (hi : i < l.length) (h0 : erF (opG o av nv) dry l l.length (nI l i).toNat ≠ 0) :
    reaI (opG o av nv) dry (l.take (i + 1)) (erF (opG o av nv) dry l l.length) = (match inR (neR o) dry l (erF (opG o av nv) dry l l.length) i i with
      | none => (nI l i, nI l (i - 1), 1)
      | some j => (nI l i, nI l j, 2)) := by
  have hf := ioB_facts h
  have hN := opG_ne (o := o) av nv hc
  have hlen : (l.take (i + 1)).length = i + 1 := by rw [List.length_take]; omega
  have e1 : nI (l.take (i + 1)) ((l.take (i + 1)).length - 1) = nI l i := by rw [hlen]; exact nI_take (by omega)
  obtain ⟨p, hp⟩ : ∃ p : Nat, nI l i = p := ⟨(nI l i).toNat, by have := hf.2 i hi; omega⟩
  have hsp := inR_spec (ne := neR o) (dry := (dry : Int)) (l := l) (D := erF (opG o av nv) dry l l.length) (i := i) i
  have hnb : ∀ a, a < l.length → neR o (nI l a) (nI l i) = ((opG o av nv).ne p).testBit (nI l a).toNat := fun a ha => by
    have h1 := hf.2 a ha
    rw [neR_bit (av := av) (nv := nv) hc h1.1 (hf.2 i hi).1, hp, Int.toNat_natCast]
  have hi0 : i ≠ 0 := fun e => by
    subst e
    exact h0 (er_first (dry := (dry : Int)) h hi)
  have hback : ∀ q, q ∈ bitsOf ((opG o av nv).ne p) → erF (opG o av nv) dry l l.length q + (dry : Int) + 1 = erF (opG o av nv) dry l l.length p → ∃ j, j < i ∧ nI l j = q := fun q hq hqq => by
    have hm := bitsOf_mem.1 hq
    obtain ⟨j, hj, ej⟩ := io_onto h (hN p q hm.2)
    refine ⟨j, ?_, ej⟩
    rcases Nat.lt_or_ge j i with h' | h'
    · exact h'
    · exfalso
      have hj2 : (nI l j).toNat = q := by rw [ej]; simp
      have hi2 : (nI l i).toNat = p := by rw [hp]; simp
      rcases Nat.lt_or_ge i j with h'' | h''
      · have := er_mono (dry := (dry : Int)) h h'' hj
        rw [hj2, hi2] at this; omega
      · obtain rfl : j = i := by omega
        have : q = p := by rw [← hj2, hi2]
        rw [this] at hqq; omega
  rw [hp] at h0 hsp
  unfold reaI
  simp only [e1, hp, Int.toNat_natCast] at h0 hsp ⊢
  rw [if_neg h0]
  cases hb : inR (neR o) dry l (erF (opG o av nv) dry l l.length) i i with
  | none =>
    rw [hb] at hsp
    have hnone : (bitsOf ((opG o av nv).ne p)).find? (fun q => decide (erF (opG o av nv) dry l l.length q + (dry : Int) + 1 = erF (opG o av nv) dry l l.length p)) = none := by
      rw [List.find?_eq_none]
      intro q hq hqq
      simp only [decide_eq_true_eq] at hqq
      obtain ⟨j, hj, ej⟩ := hback q hq hqq
      refine hsp j hj ⟨?_, ?_⟩
      · rw [← hp, hnb j (by omega), ej, Int.toNat_natCast]; exact (bitsOf_mem.1 hq).2
      · rw [ej, Int.toNat_natCast]; exact hqq
    rw [hnone]
    simp only
    rw [hlen, nI_take (by omega), show i + 1 - 2 = i - 1 by omega]
  | some j =>
    rw [hb] at hsp
    obtain ⟨h1, ⟨h2, h3⟩, h4⟩ := hsp
    obtain ⟨q, hq⟩ : ∃ q : Nat, nI l j = q := ⟨(nI l j).toNat, by have := hf.2 j (by omega); omega⟩
    rw [hq, Int.toNat_natCast] at h3
    rw [← hp, hnb j (by omega), hq, Int.toNat_natCast] at h2
    have hqn := hN p q h2
    have hgn : (opG o av nv).n ≤ 24 := n24z av nv hc
    have hfind : (bitsOf ((opG o av nv).ne p)).find? (fun q => decide (erF (opG o av nv) dry l l.length q + (dry : Int) + 1 = erF (opG o av nv) dry l l.length p)) = some q := by
      refine find_low (bitsOf_mem.2 ⟨by omega, h2⟩) (by simpa using h3) (fun a ha haa => ?_)
      simp only [decide_eq_true_eq] at haa
      obtain ⟨j', hj', ej'⟩ := hback a ha haa
      have := h4 j' hj' ⟨by rw [← hp, hnb j' (by omega), ej', Int.toNat_natCast]; exact (bitsOf_mem.1 ha).2, by rw [ej', Int.toNat_natCast]; exact haa⟩
      rw [hq, ej'] at this; omega
    rw [hfind]
    simp only [hq]

theorem dryO_good {o : Prb} {av nv : Value} {d : Int} {l : List Int} (hc : dryO o av nv d l = 0) : chkI o = 0 ∧ (0 ≤ d ∧ d ≤ 30) ∧ ioB (opG o av nv) l = true := by
  unfold dryO at hc
  split at hc
  · rename_i h; exact absurd hc h
  · rename_i h
    cases hb : ioB (opG o av nv) l
    · rw [hb] at hc; cases hc
    · have := dryI_chk (show dryI o d = 0 by simpa using h); exact ⟨this.1, this.2, rfl⟩
set_option maxHeartbeats 8000000 in
theorem rdried_c {w : World} {v : Value} {o : Prb} {av nv : Value} (h : PrbA w v o av nv) (d : Int) (lv : Option Addr) (lc : Nat) (l : List Int) (hP : Ins w lv l) (hcap : l.length ≤ lc) (hl : l.length ≤ 17592186044415) :
    Calls Tryd.prog 120 #[v, .int .i64 d, .slice lv l.length lc] w fun en w' => en = .returned (.int .i64 (dryO o av nv d l)) ∧ New w w' := by
  have HC := Lib.hid (fun (w1 : World) (hn : New w w1) => rcheck_c v o w1 (h.pv.new hn))
  have HD := Lib.hid (fun (w1 : World) (hn : New w w1) => rordered_c (h.pv.new hn) lv lc l (hP.new hn) hcap hl)
  rw [rchk_eq] at HC
  obtain ⟨⟨⟨a1, ac, n1, nc, rfl, h1, h2⟩, h3, h4⟩, h5, h6⟩ := h
  obtain ⟨H, hH⟩ : ∃ H, w.heap.size = H := ⟨_, rfl⟩
  have hB0 : (w.alloc (.cells #[.int .i64 o.n, .slice a1 o.A.length ac, .slice n1 o.B.length nc] 24)).heap[H]? = some (.cells #[.int .i64 o.n, .slice a1 o.A.length ac, .slice n1 o.B.length nc] 24 (0, 0)) := by rw [← hH]; exact World.alloc_heap_new w _
  have HB := Lib.hid hB0
  clear h1 h2 h3 h4 h5 h6 hP hB0
  by_cases hc : chkI o = 0
  · rw [hc] at HC
    by_cases hd : 0 ≤ d ∧ d ≤ 30
    · have hdI : dryI o d = 0 := by unfold dryI; rw [if_neg (by rw [hc]; simp), if_neg (by omega)]
      have hd1 : d ≥ 0 := hd.1
      have hd2 : d ≤ 30 := hd.2
      rw [ord_eq av nv hc] at HD
      have hO : dryO o av nv d l = if ioB (opG o av nv) l then 0 else 1 := by unfold dryO; rw [if_neg (by rw [hdI]; simp)]
      rw [hO]
      clear hc hd hdI hO
      cases hb : ioB (opG o av nv) l
      all_goals rw [hb] at HD
      all_goals clear hb
      all_goals go_enter Tryd.func120, Tryd.ntmps120
      all_goals go_wp2_with (first | (go_at_call 24; (with_reducible refine (HC.out _ ?_).mono ?_); (· exact (New.refl w).alloc _); rintro e w6 ⟨rfl, n6⟩; have N6 := Lib.hid (((New.refl w).alloc _).trans n6); have c0 := (cell_of_row w6 H 0 _ _ _ (row_new HB.out n6)).trans rfl; have c1 := (cell_of_row w6 H 1 _ _ _ (row_new HB.out n6)).trans rfl; have c2 := (cell_of_row w6 H 2 _ _ _ (row_new HB.out n6)).trans rfl; have hHl : H < w6.heap.size := (Array.getElem?_eq_some_iff.1 (row_new HB.out n6)).1; clear n6) | (go_at_call 88; (with_reducible refine (HD.out _ ?_).mono ?_); (· exact N6.out); rintro e w7 ⟨rfl, n7⟩; have N7 := Lib.hid (N6.out.trans n7); clear n7))
      all_goals go_ret
      all_goals exact ⟨rfl, N7.out⟩
    · have hdI : dryI o d = 1 := by unfold dryI; rw [if_neg (by rw [hc]; simp), if_pos (by omega)]
      have hO : dryO o av nv d l = 1 := by unfold dryO; rw [if_pos (by rw [hdI]; simp), hdI]
      rw [hO]
      clear hc hdI hO HD
      generalize l.length = N at *
      by_cases hd0 : d ≥ 0
      · have hd1 : ¬ d ≤ 30 := by omega
        clear hd
        go_enter Tryd.func120, Tryd.ntmps120
        go_wp2_with (go_at_call 24; (with_reducible refine (HC.out _ ?_).mono ?_); (· exact (New.refl w).alloc _); rintro e w6 ⟨rfl, n6⟩; have N6 := Lib.hid (((New.refl w).alloc _).trans n6); have c0 := (cell_of_row w6 H 0 _ _ _ (row_new HB.out n6)).trans rfl; have c1 := (cell_of_row w6 H 1 _ _ _ (row_new HB.out n6)).trans rfl; have c2 := (cell_of_row w6 H 2 _ _ _ (row_new HB.out n6)).trans rfl; have hHl : H < w6.heap.size := (Array.getElem?_eq_some_iff.1 (row_new HB.out n6)).1; clear n6)
        go_ret
        exact ⟨rfl, N6.out⟩
      · clear hd
        go_enter Tryd.func120, Tryd.ntmps120
        go_wp2_with (go_at_call 24; (with_reducible refine (HC.out _ ?_).mono ?_); (· exact (New.refl w).alloc _); rintro e w6 ⟨rfl, n6⟩; have N6 := Lib.hid (((New.refl w).alloc _).trans n6); have c0 := (cell_of_row w6 H 0 _ _ _ (row_new HB.out n6)).trans rfl; have c1 := (cell_of_row w6 H 1 _ _ _ (row_new HB.out n6)).trans rfl; have c2 := (cell_of_row w6 H 2 _ _ _ (row_new HB.out n6)).trans rfl; have hHl : H < w6.heap.size := (Array.getElem?_eq_some_iff.1 (row_new HB.out n6)).1; clear n6)
        go_ret
        exact ⟨rfl, N6.out⟩
  · have he : (chkI o != 0) = true := by simpa using hc
    have hO : dryO o av nv d l = chkI o := by unfold dryO dryI; rw [if_pos hc, if_pos hc]
    rw [hO]
    clear hc hO HD
    generalize chkI o = E at *
    generalize l.length = N at *
    go_enter Tryd.func120, Tryd.ntmps120
    go_wp2_with (go_at_call 24; (with_reducible refine (HC.out _ ?_).mono ?_); (· exact (New.refl w).alloc _); rintro e w6 ⟨rfl, n6⟩; have N6 := Lib.hid (((New.refl w).alloc _).trans n6); clear n6)
    go_ret
    exact ⟨rfl, N6.out⟩
/-- the days, none where there is an error -/
def daL (o : Prb) (av nv : Value) (d : Int) (l : List Int) : List Int := if dryO o av nv d l = 0 then (List.range (opG o av nv).n).map (erF (opG o av nv) d l (opG o av nv).n) else []
theorem daL_len {o : Prb} {av nv : Value} {d : Int} {l : List Int} : (daL o av nv d l).length ≤ 24 := by
  unfold daL
  split
  · rename_i h
    simpa using n24z av nv (dryO_good h).1
  · simp
theorem Days_all {w : World} {v : Value} {o : Prb} {av nv : Value} (h : PrbA w v o av nv) (hT : Tab w) (d : Int) (lv : Option Addr) (lc : Nat) (l : List Int) (hP : Ins w lv l) (hl : l.length ≤ 17592186044415) :
    Calls Tryd.prog 55 #[v, .int .i64 d, .slice lv l.length lc] w fun en w' => ∃ u, en = .returned (.tuple #[u, .int .i64 (dryO o av nv d l)]) ∧ New w w' ∧ SlI w' u (daL o av nv d l) := by
  unfold daL
  by_cases hc : dryO o av nv d l = 0
  · rw [if_pos hc, hc]
    exact (days_good h d lv lc l hl hP hT hc).mono fun e w' ⟨b, c, h1, h2, h3, h4⟩ => ⟨_, h1, h2, SlI.of_iv h4⟩
  · rw [if_neg hc]
    exact (days_bad h d lv lc l hl hP hc).mono fun e w' ⟨h1, h2⟩ => ⟨_, h1, h2, sl_nilz w'⟩
set_option maxHeartbeats 8000000 in
theorem rDays_all {w : World} {v : Value} {o : Prb} {av nv : Value} (h : PrbA w v o av nv) (d : Int) (lv : Option Addr) (lc : Nat) (l : List Int) (hP : Ins w lv l) (hcap : l.length ≤ lc) (hl : l.length ≤ 17592186044415) :
    Calls Tryd.prog 56 #[v, .int .i64 d, .slice lv l.length lc] w fun en w' => ∃ u, en = .returned (.tuple #[u, .int .i64 (dryO o av nv d l)]) ∧ New w w' ∧ SlI w' u (daL o av nv d l) := by
  have HC := Lib.hid (fun (w1 : World) (hn : New w w1) => rdried_c (h.new hn) d lv lc l (hP.new hn) hcap hl)
  have H0 := h
  obtain ⟨⟨⟨a1, ac, n1, nc, rfl, h1, h2⟩, h3, h4⟩, h5, h6⟩ := h
  obtain ⟨H, hH⟩ : ∃ H, w.heap.size = H := ⟨_, rfl⟩
  have hB0 : (w.alloc (.cells #[.int .i64 o.n, .slice a1 o.A.length ac, .slice n1 o.B.length nc] 24)).heap[H]? = some (.cells #[.int .i64 o.n, .slice a1 o.A.length ac, .slice n1 o.B.length nc] 24 (0, 0)) := by rw [← hH]; exact World.alloc_heap_new w _
  have HB := Lib.hid hB0
  clear h1 h2 h3 h4 h5 h6 hB0
  unfold daL
  by_cases hc : dryO o av nv d l = 0
  · obtain ⟨hk, ⟨hd0, hd1⟩, hio⟩ := dryO_good hc
    rw [if_pos hc]
    rw [hc] at HC ⊢
    obtain ⟨dn, rfl⟩ : ∃ dn : Nat, d = dn := ⟨d.toNat, by omega⟩
    have HDY := Lib.hid (fun (w1 : World) (hn : New w w1) => rdays_c (H0.new hn) hk dn (by omega) lv lc l (hP.new hn) hio)
    clear hc hk hio H0 hP hd0 hd1
    generalize l.length = N at *
    generalize erF (opG o av nv) (dn : Int) l (opG o av nv).n = D at *
    generalize (opG o av nv).n = n at *
    go_enter Tryd.func56, Tryd.ntmps56
    go_wp2_with (first | (go_at_call 120; (with_reducible refine (HC.out _ ?_).mono ?_); (· exact (New.refl w).alloc _); rintro e w6 ⟨rfl, n6⟩; have N6 := Lib.hid (((New.refl w).alloc _).trans n6); have c0 := (cell_of_row w6 H 0 _ _ _ (row_new HB.out n6)).trans rfl; have c1 := (cell_of_row w6 H 1 _ _ _ (row_new HB.out n6)).trans rfl; have c2 := (cell_of_row w6 H 2 _ _ _ (row_new HB.out n6)).trans rfl; have hHl : H < w6.heap.size := (Array.getElem?_eq_some_iff.1 (row_new HB.out n6)).1; clear n6) | (go_at_call 121; (with_reducible refine (HDY.out _ ?_).mono ?_); (· exact N6.out); rintro e w7 ⟨b7, rfl, n7, z7, iv7⟩; have N7 := Lib.hid (N6.out.trans n7); have I7 := Lib.hid iv7; clear n7 z7 iv7))
    go_ret2
    exact ⟨_, rfl, N7.out, SlI.of_iv I7.out⟩
  · rw [if_neg hc]
    have he : (dryO o av nv d l != 0) = true := by simpa using hc
    clear hc H0 hP
    generalize dryO o av nv d l = E at *
    generalize l.length = N at *
    go_enter Tryd.func56, Tryd.ntmps56
    go_wp2_with (go_at_call 120; (with_reducible refine (HC.out _ ?_).mono ?_); (· exact (New.refl w).alloc _); rintro e w6 ⟨rfl, n6⟩; have N6 := Lib.hid (((New.refl w).alloc _).trans n6); clear n6)
    go_ret2
    exact ⟨_, rfl, N6.out, sl_nilz _⟩
end Go.Proofs.YtiejefehcpfkaaaDoor
