/- Reasons where its problem, its days or its order are not right. · Two lists of numbers compared: the longer one is the greater. · How many orders there are of what is left, and the i-th of them. Plain lemmas. · The matching of places, as numbers alone: what its rounds keep. Plain lemmas. -/
import Derived.Test.YtiejefehcpfkaaaDoorTh

section
set_option linter.unusedSimpArgs false
set_option linter.unusedVariables false
set_option maxRecDepth 100000
namespace Go.Proofs.YtiejefehcpfkaaaDoor
open Go.RowKit Go.Shelf

attribute [local go_sem] Oper.semAt_some

set_option maxHeartbeats 8000000 in
theorem reasons_bad {w : World} {v : Value} {o : Prb} {av nv : Value} (h : PrbA w v o av nv) (d : Int) (lv : Option Addr) (lc : Nat) (l : List Int) (hl : l.length ≤ 17592186044415) (hP : Ins w lv l) (hc : dryO o av nv d l ≠ 0) :
    Calls Tryd.prog 59 #[v, .int .i64 d, .slice lv l.length lc] w fun en w' => en = .returned (.tuple #[.slice none 0 0, .int .i64 (dryO o av nv d l)]) ∧ New w w' := by
  have HO := Lib.hid (fun (w1 : World) (hn : New w w1) => openDryOrder_c (h.new hn) d lv lc l hl (hP.new hn))
  have hv := h.eq
  obtain ⟨x1, x2, x3, x4, e1, e2⟩ := h.sh
  clear h
  have he : (dryO o av nv d l != 0) = true := by simpa using hc
  have HOK := Lib.hid (show G0.ok from G0_ok)
  rw [ofG_bad hc] at HO
  clear hP hc
  generalize dryO o av nv d l = E at *
  subst hv
  subst e1 e2
  go_enter Tryd.func59, Tryd.ntmps59
  go_wp2_with (first | (go_at_call 118; (with_reducible refine (HO.out _ ?_).mono ?_); (repeat (first | exact New.refl _ | apply New.alloc)); rintro e w6 ⟨rfl, n6⟩; have HN := Lib.hid (((New.refl w).alloc _).trans n6); clear n6) | (refine wpList_store_graph rfl (.tmp 8) (.tmp 19) rfl rfl rfl HOK.out ?_; intro w7 n7 g7; obtain ⟨g, hg⟩ : ∃ g, w6.heap.size = g := ⟨_, rfl⟩; simp only [hg] at g7 ⊢; have N7 := Lib.hid (HN.out.trans n7); have G7 := Lib.hid g7; clear n7 g7))
  go_ret2
  exact ⟨rfl, N7.out⟩

/-- the join of a place to a list: what it has seen, the next places, and whether it found a list -/
structure MSt where
  seen : Nat
  next : Nat → Int
/-- one call of join with f calls at most below each other; lo: its loop over the places that are left -/
def joN (re : Nat → Nat) (s : Nat) : Nat → Nat → MSt → Bool × MSt
  | 0, _, st => (false, st)
  | f + 1, q, st => (bitsOf s).foldl (fun (r : Bool × MSt) p => if r.1 then r else if r.2.seen.testBit p || !(re p).testBit q then r else
      if r.2.next p < 0 then (true, ⟨r.2.seen ||| 2 ^ p, updI r.2.next p q⟩) else
        let r2 := joN re s f (r.2.next p).toNat ⟨r.2.seen ||| 2 ^ p, r.2.next⟩
        if r2.1 then (true, ⟨r2.2.seen, updI r2.2.next p q⟩) else (false, r2.2)) (false, st)
/-- the matching of a set: the next places, and the places that begin the lists -/
def maN (re : Nat → Nat) (s : Nat) : (Nat → Int) × Nat :=
  (bitsOf s).foldl (fun (r : (Nat → Int) × Nat) q => let j := joN re s 25 q ⟨0, r.1⟩; (j.2.next, if j.1 then r.2 else r.2 ||| 2 ^ q)) (fun _ => -1, 0)
end Go.Proofs.YtiejefehcpfkaaaDoor
end

section
set_option linter.unusedSimpArgs false
set_option linter.unusedVariables false
set_option maxRecDepth 100000
namespace Go.Proofs.YtiejefehcpfkaaaDoor
open Go.RowKit Go.Shelf

attribute [local go_sem] Oper.semAt_some

/-- the comparison from place k on, f places of the first list being left -/
def cfN (l m : List Int) : Nat → Nat → Int
  | 0, _ => if l.length < m.length then -1 else 0
  | f + 1, k => if m.length ≤ k then 1 else if cmpI (nI l k) (nI m k) ≠ 0 then cmpI (nI l k) (nI m k) else cfN l m f (k + 1)
def clI (l m : List Int) : Int := orI (cmpI l.length m.length) (cfN l m l.length 0)
set_option maxHeartbeats 8000000 in
theorem compareFunc_c {w : World} {u v : Value} {l m : List Int} (hu : SlI w u l) (hv : SlI w v m) (hl : l.length ≤ 17592186044415) (hm : m.length ≤ 17592186044415) :
    Calls Tryd.prog 136 #[u, v, .func (.func 78) #[] #[]] w fun en w' => en = .returned (.int .i64 (cfN l m l.length 0)) ∧ New w w' := by
  obtain ⟨au, cu, rfl, hu⟩ := hu
  obtain ⟨av, cv, rfl, hv⟩ := hv
  have HU := Lib.hid hu
  have HV := Lib.hid hv
  obtain ⟨R, hR⟩ : ∃ R, cfN l m l.length 0 = R := ⟨_, rfl⟩
  rw [hR]
  have H0 := Lib.hid hR
  clear hR
  have HZ := Lib.hid (show ∀ k, cfN l m 0 k = if l.length < m.length then -1 else 0 from fun _ => rfl)
  have HS := Lib.hid (show ∀ f k, cfN l m (f + 1) k = if m.length ≤ k then 1 else if cmpI (nI l k) (nI m k) ≠ 0 then cmpI (nI l k) (nI m k) else cfN l m f (k + 1) from fun _ _ => rfl)
  clear hu hv
  generalize cfN l m = cf at *
  generalize hN : l.length = N at *
  generalize hM : m.length = M at *
  have HN := Lib.hid hN
  have HM := Lib.hid hM
  clear hN hM
  go_enter Tryd.func136, Tryd.ntmps136
  go_wp2_with fail
  go_loopw [13] (fun i wr => ∃ k : Nat, k ≤ N ∧ i = .int .i64 k ∧ New w wr ∧ cf (N - k) k = R) (fun i _ => N - (intOf i).toNat)
  case atStart => exact ⟨0, Nat.zero_le _, rfl, New.refl _, by rw [Nat.sub_zero]; exact H0.out⟩
  case round =>
    obtain ⟨k, hk, rfl, hnew, hcf⟩ := hrel
    have HNEW := Lib.hid hnew
    have HCF := Lib.hid hcf
    clear hnew hcf
    by_cases hlt : k < N
    · have HST := Lib.hid (show (if M ≤ k then 1 else if cmpI (nI l k) (nI m k) ≠ 0 then cmpI (nI l k) (nI m k) else cf (N - (k + 1)) (k + 1)) = R from by
        have := HCF.out
        rw [show N - k = (N - (k + 1)) + 1 by omega, HS.out] at this; exact this)
      obtain ⟨b, off, rfl, gl, hcc⟩ := HU.out.new HNEW.out (by rw [HN.out]; omega)
      have c1 := hcc k (by rw [HN.out]; omega)
      have hk1 : (k : Int) < (N : Int) := by omega
      clear hcc
      by_cases hm2 : M ≤ k
      · rw [if_pos hm2] at HST
        have hk2 : (k : Int) ≥ (M : Int) := by omega
        go_wp2_with fail
        go_ret
        exact ⟨by rw [← HST.out]; rfl, HNEW.out⟩
      · rw [if_neg hm2] at HST
        have hk2 : ¬ ((k : Int) ≥ (M : Int)) := by omega
        have hk3 : (k : Int) < (M : Int) := by omega
        obtain ⟨b2, off2, rfl, gl2, hcc2⟩ := HV.out.new HNEW.out (by rw [HM.out]; omega)
        have c2 := hcc2 k (by rw [HM.out]; omega)
        clear hcc2
        have HC := Lib.hid (fun (w1 : World) => compare_c (nI l k) (nI m k) w1)
        generalize nI l k = x at *
        generalize nI m k = y at *
        generalize cmpI x y = c at *
        by_cases hc : c = 0
        · subst hc
          rw [if_neg (by simp)] at HST
          go_wp2_with (go_at_call 78; refine (HC.out _).mono ?_; rintro e w4 ⟨rfl, n4⟩; have N4 := Lib.hid n4; clear n4)
          go_roundw
          case rel => exact ⟨k + 1, by omega, by go_num, HNEW.out.trans N4.out, HST.out⟩
          case measure => simp [intOf]; omega
        · rw [if_pos hc] at HST
          have hc' : (c != 0) = true := by simpa using hc
          have HR := Lib.hid HST.out
          clear hc
          go_wp2_with (go_at_call 78; refine (HC.out _).mono ?_; rintro e w4 ⟨rfl, n4⟩; have N4 := Lib.hid n4; clear n4)
          go_ret
          exact ⟨by rw [← HST.out]; rfl, HNEW.out.trans N4.out⟩
    · obtain rfl : k = N := by omega
      have hk1 : ¬ (k : Int) < (k : Int) := by omega
      have HE := Lib.hid (show R = if k < M then -1 else 0 from by have := HCF.out; rw [Nat.sub_self, HZ.out] at this; exact this.symm)
      by_cases hm2 : k < M
      · rw [if_pos hm2] at HE
        have hk2 : (k : Int) < (M : Int) := by omega
        go_wp2_with fail
        go_ret
        exact ⟨by rw [HE.out]; rfl, HNEW.out⟩
      · rw [if_neg hm2] at HE
        have hk2 : ¬ (k : Int) < (M : Int) := by omega
        go_wp2_with fail
        go_ret
        exact ⟨by rw [HE.out]; rfl, HNEW.out⟩
set_option maxHeartbeats 8000000 in
theorem compareLists_c {w : World} {u v : Value} {l m : List Int} (hu : SlI w u l) (hv : SlI w v m) (hl : l.length ≤ 17592186044415) (hm : m.length ≤ 17592186044415) :
    Calls Tryd.prog 77 #[u, v, .func (.func 78) #[] #[]] w fun en w' => en = .returned (.int .i64 (clI l m)) ∧ New w w' := by
  have HCF := Lib.hid (fun (w1 : World) (hn : New w w1) => compareFunc_c (hu.new hn) (hv.new hn) hl hm)
  have HC := Lib.hid (fun (w1 : World) => compare_c (l.length : Int) (m.length : Int) w1)
  have HR := Lib.hid (show clI l m = orI (cmpI l.length m.length) (cfN l m l.length 0) from rfl)
  obtain ⟨au, cu, rfl, hu⟩ := hu
  obtain ⟨av, cv, rfl, hv⟩ := hv
  rw [HR.out]
  clear hu hv
  generalize cfN l m l.length 0 = F at *
  generalize cmpI (l.length : Int) (m.length : Int) = C at *
  go_enter Tryd.func77, Tryd.ntmps77
  go_wp2_with (first | (go_at_call 78; refine (HC.out _).mono ?_; rintro e w4 ⟨rfl, n4⟩; have N4 := Lib.hid n4; clear n4) | (go_at_call 136; refine (HCF.out _ N4.out).mono ?_; rintro e w5 ⟨rfl, n5⟩; have N5 := Lib.hid (N4.out.trans n5); clear n5) | (go_at_call 135; refine (or_c C F _ _ ?h0 ?h1).mono ?_; rotate_left 2; rintro e w6 ⟨rfl, n6⟩; have N6 := Lib.hid n6; clear n6))
  case h0 => rw [cell_of_row _ _ 0 _ _ _ (World.alloc_heap_new w5 _)]; rfl
  case h1 => rw [cell_of_row _ _ 1 _ _ _ (World.alloc_heap_new w5 _)]; rfl
  go_ret
  exact ⟨rfl, (N5.out.alloc _).trans N6.out⟩
end Go.Proofs.YtiejefehcpfkaaaDoor
end

section
set_option linter.unusedSimpArgs false
set_option linter.unusedVariables false
set_option maxRecDepth 100000
namespace Go.Proofs.YtiejefehcpfkaaaDoor
open Go.RowKit Go.Shelf

/-- how many orders of k places that are left there are -/
def cntS (be : Nat → Nat) : Nat → Nat → Nat
  | 0, _ => 1
  | k + 1, s => ((bitsOf (rdN be s)).map fun p => cntS be k (wo s (2 ^ p))).sum
theorem cntS_len (be : Nat → Nat) : ∀ k s, cntS be k s = (ordS be k s).length
  | 0, _ => rfl
  | k + 1, s => by
    simp only [cntS, ordS, List.length_flatMap, List.length_map]
    congr 1
    exact List.map_congr_left fun p _ => cntS_len be k _
def facN : Nat → Nat
  | 0 => 1
  | k + 1 => (k + 1) * facN k
theorem sum_le {f : Nat → Nat} {M : Nat} : ∀ (ps : List Nat), (∀ p ∈ ps, f p ≤ M) → (ps.map f).sum ≤ ps.length * M
  | [], _ => by simp
  | p :: ps, h => by
    have h1 := h p (by simp)
    have h2 := sum_le ps (fun q hq => h q (List.mem_cons_of_mem _ hq))
    simp only [List.map_cons, List.sum_cons, List.length_cons, Nat.add_mul]
    omega
theorem sub_len {a b : Nat} (h : ∀ i, a.testBit i = true → b.testBit i = true) : (bitsOf a).length ≤ (bitsOf b).length := by
  have e : bitsOf a = (bitsOf b).filter (fun i => a.testBit i) := by
    unfold bitsOf
    rw [List.filter_filter]
    refine List.filter_congr fun i _ => ?_
    cases ha : a.testBit i
    · simp
    · simp [h i ha]
  rw [e]; exact List.length_filter_le _ _
theorem cntS_le (be : Nat → Nat) : ∀ k s, s < 4294967296 → (bitsOf s).length = k → cntS be k s ≤ facN k
  | 0, _, _, _ => Nat.le_refl _
  | k + 1, s, hs, hl => by
    simp only [cntS, facN]
    refine Nat.le_trans (sum_le _ fun p hp => cntS_le be k (wo s (2 ^ p)) (Nat.lt_of_le_of_lt (wo_le _ _) hs) ?_) (Nat.mul_le_mul_right _ ?_)
    · have := wo_bits hs (rdN_sub (bitsOf_mem.1 hp).2); omega
    · rw [← hl]; exact sub_len fun i hi => (bitsOf_mem.1 (rdN_sub hi)).2
/-- the sum over the places done so far -/
def cntTo (be : Nat → Nat) (k s : Nat) (ps : List Nat) : Nat := (ps.map fun p => cntS be k (wo s (2 ^ p))).sum
theorem cntTo_snoc (be : Nat → Nat) (k s : Nat) (ps : List Nat) (p : Nat) : cntTo be k s (ps ++ [p]) = cntTo be k s ps + cntS be k (wo s (2 ^ p)) := by simp [cntTo]
theorem cntTo_le (be : Nat → Nat) (k s : Nat) (ps qs : List Nat) : cntTo be k s ps ≤ cntTo be k s (ps ++ qs) := by simp [cntTo]
theorem cntTo_all (be : Nat → Nat) (k s : Nat) : cntTo be k s (bitsOf (rdN be s)) = cntS be (k + 1) s := rfl

/-- the i-th of the orders that begin with one of ps, or how many they are -/
def nthTo (be : Nat → Nat) (rec : Nat → Nat → List Nat) (k s : Nat) : List Nat → Nat → List Nat
  | [], _ => []
  | p :: ps, i => if i < cntS be k (wo s (2 ^ p)) then p :: rec (wo s (2 ^ p)) i else nthTo be rec k s ps (i - cntS be k (wo s (2 ^ p)))
/-- the i-th of all orders of what is left -/
def nthS (be : Nat → Nat) : Nat → Nat → Nat → List Nat
  | 0, _, _ => []
  | k + 1, s, i => nthTo be (nthS be k) k s (bitsOf (rdN be s)) i
theorem nthTo_at {be : Nat → Nat} {rec : Nat → Nat → List Nat} {k s : Nat} (hr : ∀ s i, i < cntS be k s → (ordS be k s)[i]? = some (rec s i)) : ∀ (ps : List Nat) (i : Nat), i < cntTo be k s ps → (ps.flatMap fun p => (ordS be k (wo s (2 ^ p))).map (p :: ·))[i]? = some (nthTo be rec k s ps i)
  | [], i, h => by simp [cntTo] at h
  | p :: ps, i, h => by
    simp only [List.flatMap_cons, nthTo]
    have hl : ((ordS be k (wo s (2 ^ p))).map (p :: ·)).length = cntS be k (wo s (2 ^ p)) := by rw [List.length_map, cntS_len]
    split
    · rename_i hi
      rw [List.getElem?_append_left (by rw [hl]; exact hi), List.getElem?_map, hr _ _ hi]; rfl
    · rename_i hi
      rw [List.getElem?_append_right (by rw [hl]; omega), hl]
      refine nthTo_at hr ps _ ?_
      simp only [cntTo, List.map_cons, List.sum_cons] at h ⊢
      omega
/-- THE i-TH ORDER is what counting finds -/
theorem nthS_at (be : Nat → Nat) : ∀ k s i, i < cntS be k s → (ordS be k s)[i]? = some (nthS be k s i)
  | 0, s, i, h => by
    have : i = 0 := by simp only [cntS] at h; omega
    subst this; rfl
  | k + 1, s, i, h => nthTo_at (nthS_at be k) _ i h
end Go.Proofs.YtiejefehcpfkaaaDoor
end

section
set_option linter.unusedSimpArgs false
set_option linter.unusedVariables false
set_option maxRecDepth 100000
namespace Go.Proofs.YtiejefehcpfkaaaDoor
open Go.RowKit Go.Shelf

/-- one round of the loop of join -/
def joStep (re : Nat → Nat) (q : Nat) (rec : Nat → MSt → Bool × MSt) (r : Bool × MSt) (p : Nat) : Bool × MSt :=
  if r.1 then r else if r.2.seen.testBit p || !(re p).testBit q then r else
    if r.2.next p < 0 then (true, ⟨r.2.seen ||| 2 ^ p, updI r.2.next p q⟩) else
      if (rec (r.2.next p).toNat ⟨r.2.seen ||| 2 ^ p, r.2.next⟩).1 then (true, ⟨(rec (r.2.next p).toNat ⟨r.2.seen ||| 2 ^ p, r.2.next⟩).2.seen, updI (rec (r.2.next p).toNat ⟨r.2.seen ||| 2 ^ p, r.2.next⟩).2.next p q⟩)
      else (false, (rec (r.2.next p).toNat ⟨r.2.seen ||| 2 ^ p, r.2.next⟩).2)
def joTo (re : Nat → Nat) (s f q : Nat) (st : MSt) (done : List Nat) : Bool × MSt := done.foldl (joStep re q (joN re s f)) (false, st)
theorem joN_succ (re : Nat → Nat) (s f q : Nat) (st : MSt) : joN re s (f + 1) q st = joTo re s f q st (bitsOf s) := rfl
theorem joTo_snoc (re : Nat → Nat) (s f q : Nat) (st : MSt) (done : List Nat) (p : Nat) : joTo re s f q st (done ++ [p]) = joStep re q (joN re s f) (joTo re s f q st done) p := by simp [joTo]
theorem joTo_stop (re : Nat → Nat) (s f q : Nat) (st : MSt) (done : List Nat) (h : (joTo re s f q st done).1 = true) : ∀ rest, joTo re s f q st (done ++ rest) = joTo re s f q st done := by
  intro rest
  have : ∀ (rest : List Nat) (r : Bool × MSt), r.1 = true → rest.foldl (joStep re q (joN re s f)) r = r := by
    intro rest
    induction rest with
    | nil => intro r _; rfl
    | cons x xs ih => intro r hr; rw [List.foldl_cons]; have : joStep re q (joN re s f) r x = r := by simp [joStep, hr]
                      rw [this]; exact ih r hr
  unfold joTo at h ⊢
  rw [List.foldl_append]; exact this rest _ h
/-- what the matching keeps: places below 24 -/
structure MSt.ok (st : MSt) : Prop where
  sn : st.seen < 2 ^ 24
  nx : ∀ p, -1 ≤ st.next p ∧ st.next p < 24
/-- the state r is behind st -/
def MSt.le (st r : MSt) : Prop := ∀ i, st.seen.testBit i = true → r.seen.testBit i = true
theorem or24 {a p : Nat} (ha : a < 2 ^ 24) (hp : p < 24) : a ||| 2 ^ p < 2 ^ 24 := Nat.or_lt_two_pow ha (Nat.pow_lt_pow_right (by omega) hp)
theorem or_has (a p i : Nat) : (a ||| 2 ^ p).testBit i = (a.testBit i || decide (p = i)) := by rw [Nat.testBit_or, Nat.testBit_two_pow]
theorem updI_nx {d : Nat → Int} {p q : Nat} (h : ∀ p, -1 ≤ d p ∧ d p < 24) (hq : q < 24) (i : Nat) : -1 ≤ updI d p q i ∧ updI d p q i < 24 := by
  unfold updI; split
  · omega
  · exact h i
theorem joStep_ok {re : Nat → Nat} {q : Nat} {rec : Nat → MSt → Bool × MSt} (hrec : ∀ q st, q < 24 → st.ok → (rec q st).2.ok ∧ st.le (rec q st).2) (hq : q < 24) {r : Bool × MSt} {p : Nat} (hp : p < 24) (hr : r.2.ok) :
    (joStep re q rec r p).2.ok ∧ r.2.le (joStep re q rec r p).2 := by
  have hin : MSt.ok ⟨r.2.seen ||| 2 ^ p, r.2.next⟩ := ⟨or24 hr.sn hp, hr.nx⟩
  have hmono : r.2.le ⟨r.2.seen ||| 2 ^ p, r.2.next⟩ := fun i hi => by rw [or_has, hi]; rfl
  have hc := hrec (r.2.next p).toNat _ (by have := hr.nx p; omega) hin
  unfold joStep
  split
  · exact ⟨hr, fun i h => h⟩
  split
  · exact ⟨hr, fun i h => h⟩
  split
  · exact ⟨⟨or24 hr.sn hp, updI_nx hr.nx hq⟩, hmono⟩
  split
  · exact ⟨⟨hc.1.sn, updI_nx hc.1.nx hq⟩, fun i hi => hc.2 i (hmono i hi)⟩
  · exact ⟨hc.1, fun i hi => hc.2 i (hmono i hi)⟩
theorem joF_ok {re : Nat → Nat} {q : Nat} {rec : Nat → MSt → Bool × MSt} (hrec : ∀ q st, q < 24 → st.ok → (rec q st).2.ok ∧ st.le (rec q st).2) (hq : q < 24) : ∀ (ps : List Nat) (r : Bool × MSt), (∀ p ∈ ps, p < 24) → r.2.ok →
    (ps.foldl (joStep re q rec) r).2.ok ∧ r.2.le (ps.foldl (joStep re q rec) r).2
  | [], r, _, hr => ⟨hr, fun i h => h⟩
  | p :: ps, r, hp, hr => by
    have h1 := joStep_ok (re := re) hrec hq (hp p (by simp)) hr
    have h2 := joF_ok (re := re) hrec hq ps _ (fun x hx => hp x (by simp [hx])) h1.1
    exact ⟨h2.1, fun i hi => h2.2 i (h1.2 i hi)⟩
theorem joN_ok {re : Nat → Nat} {s : Nat} (hs : s < 2 ^ 24) : ∀ f q st, q < 24 → st.ok → (joN re s f q st).2.ok ∧ st.le (joN re s f q st).2
  | 0, q, st, _, h => ⟨h, fun i h => h⟩
  | f + 1, q, st, hq, h => joF_ok (fun q st hq h => joN_ok hs f q st hq h) hq (bitsOf s) (false, st) (fun p hp => low24 hs hp) h
theorem joTo_ok {re : Nat → Nat} {s : Nat} (hs : s < 2 ^ 24) (f q : Nat) (st : MSt) (hq : q < 24) (h : st.ok) (done rest : List Nat) (hd : done ++ rest = bitsOf s) : (joTo re s f q st done).2.ok ∧ st.le (joTo re s f q st done).2 :=
  joF_ok (fun q st hq h => joN_ok hs f q st hq h) hq done (false, st) (fun p hp => low24 hs (by rw [← hd]; simp [hp])) h
/-- how many places of s are not seen yet -/
def nf (s seen : Nat) : Nat := (bitsOf (wo s seen)).length
theorem nf_mono {s a b : Nat} (hs : s < 2 ^ 24) (ha : a < 2 ^ 24) (hb : b < 2 ^ 24) (h : ∀ i, a.testBit i = true → b.testBit i = true) : nf s b ≤ nf s a := by
  refine sub_len fun i hi => ?_
  rw [wo_bit _ _ _ (by omega) (by omega)] at hi ⊢
  cases ha' : a.testBit i
  · simp at hi ⊢; exact hi.1
  · simp [h i ha'] at hi
theorem nf_less {s a p : Nat} (hs : s < 2 ^ 24) (ha : a < 2 ^ 24) (hp : p ∈ bitsOf s) (hn : a.testBit p = false) : nf s (a ||| 2 ^ p) + 1 ≤ nf s a := by
  have hp24 := low24 hs hp
  have hm : p ∈ bitsOf (wo s a) := bitsOf_mem.2 ⟨by omega, by rw [wo_bit _ _ _ (by omega) (by omega), (bitsOf_mem.1 hp).2, hn]; rfl⟩
  have hw := wo_bits (s := wo s a) (p := p) (by have := wo_le s a; omega) hm
  have : (bitsOf (wo s (a ||| 2 ^ p))).length ≤ (bitsOf (wo (wo s a) (2 ^ p))).length := sub_len fun i hi => by
    have h1 := or24 ha hp24
    rw [wo_bit _ _ _ (by omega) (by omega), or_has] at hi
    rw [wo_bit _ _ _ (by have := wo_le s a; omega) (pow_lt p (by omega)), wo_bit _ _ _ (by omega) (by omega), Nat.testBit_two_pow]
    simp at hi ⊢
    exact ⟨⟨hi.1, hi.2.1⟩, hi.2.2⟩
  unfold nf; omega
theorem nf_le {s a : Nat} (hs : s < 2 ^ 24) (ha : a < 2 ^ 24) : nf s a ≤ 24 := by
  have h1 : (bitsOf (fst 24)).length = 24 := by rw [bits_fst (by omega)]; simp
  rw [← h1]
  refine sub_len fun i hi => ?_
  rw [wo_bit _ _ _ (by omega) (by omega)] at hi
  rw [fst_bit]
  simp at hi ⊢
  exact Nat.lt_of_not_le fun h => by
    have := Nat.testBit_lt_two_pow (Nat.lt_of_lt_of_le hs (Nat.pow_le_pow_right (by omega) h))
    rw [hi.1] at this; cases this
/-- one round of the loop of match -/
def maStep (re : Nat → Nat) (s : Nat) (r : (Nat → Int) × Nat) (q : Nat) : (Nat → Int) × Nat := ((joN re s 25 q ⟨0, r.1⟩).2.next, if (joN re s 25 q ⟨0, r.1⟩).1 then r.2 else r.2 ||| 2 ^ q)
def maTo (re : Nat → Nat) (s : Nat) (done : List Nat) : (Nat → Int) × Nat := done.foldl (maStep re s) (fun _ => -1, 0)
theorem maN_to (re : Nat → Nat) (s : Nat) : maN re s = maTo re s (bitsOf s) := rfl
theorem maTo_snoc (re : Nat → Nat) (s : Nat) (done : List Nat) (q : Nat) : maTo re s (done ++ [q]) = maStep re s (maTo re s done) q := by simp [maTo]
theorem maF_ok {re : Nat → Nat} {s : Nat} (hs : s < 2 ^ 24) : ∀ (qs : List Nat) (r : (Nat → Int) × Nat), (∀ q ∈ qs, q < 24) → (∀ p, -1 ≤ r.1 p ∧ r.1 p < 24) → r.2 < 2 ^ 24 →
    (∀ p, -1 ≤ (qs.foldl (maStep re s) r).1 p ∧ (qs.foldl (maStep re s) r).1 p < 24) ∧ (qs.foldl (maStep re s) r).2 < 2 ^ 24
  | [], r, _, h, h2 => ⟨h, h2⟩
  | q :: qs, r, hq, h, h2 => by
    have hq24 := hq q (by simp)
    have hj := joN_ok (re := re) hs 25 q ⟨0, r.1⟩ hq24 ⟨by show 0 < 2 ^ 24; omega, h⟩
    refine maF_ok hs qs _ (fun x hx => hq x (by simp [hx])) hj.1.nx ?_
    show (if (joN re s 25 q ⟨0, r.1⟩).1 then r.2 else r.2 ||| 2 ^ q) < 2 ^ 24
    split
    · exact h2
    · exact or24 h2 hq24
theorem maTo_ok {re : Nat → Nat} {s : Nat} (hs : s < 2 ^ 24) (done rest : List Nat) (hd : done ++ rest = bitsOf s) : (∀ p, -1 ≤ (maTo re s done).1 p ∧ (maTo re s done).1 p < 24) ∧ (maTo re s done).2 < 2 ^ 24 :=
  maF_ok hs done _ (fun q hq => low24 hs (by rw [← hd]; simp [hq])) (fun p => by show -1 ≤ (-1 : Int) ∧ (-1 : Int) < 24; omega) (by show 0 < 2 ^ 24; omega)
/-- how many lists the places of a set make -/
def widN (re : Nat → Nat) (s : Nat) : Nat := (bitsOf (maN re s).2).length
theorem joStep_keep {re : Nat → Nat} {q : Nat} {rec : Nat → MSt → Bool × MSt} (hle : ∀ q st, q < 24 → st.ok → (rec q st).2.ok ∧ st.le (rec q st).2) {i : Nat} (hrec : ∀ q st, q < 24 → st.ok → st.seen.testBit i = true → (rec q st).2.next i = st.next i) {r : Bool × MSt} {p : Nat} (hp : p < 24) (hr : r.2.ok) (hi : r.2.seen.testBit i = true) :
    (joStep re q rec r p).2.next i = r.2.next i := by
  have hin : MSt.ok ⟨r.2.seen ||| 2 ^ p, r.2.next⟩ := ⟨or24 hr.sn hp, hr.nx⟩
  have hc := hrec (r.2.next p).toNat _ (by have := hr.nx p; omega) hin (by rw [or_has, hi]; rfl)
  unfold joStep
  split
  · rfl
  split
  · rfl
  · rename_i hx
    have hne : ¬ i = p := by rintro rfl; simp [hi] at hx
    split
    · show updI _ _ _ _ = _; unfold updI; rw [if_neg hne]
    split
    · show updI _ _ _ _ = _; unfold updI; rw [if_neg hne]; exact hc
    · exact hc
theorem joF_keep {re : Nat → Nat} {q : Nat} {rec : Nat → MSt → Bool × MSt} (hle : ∀ q st, q < 24 → st.ok → (rec q st).2.ok ∧ st.le (rec q st).2) {i : Nat} (hrec : ∀ q st, q < 24 → st.ok → st.seen.testBit i = true → (rec q st).2.next i = st.next i) (hq : q < 24) : ∀ (ps : List Nat) (r : Bool × MSt), (∀ p ∈ ps, p < 24) → r.2.ok → r.2.seen.testBit i = true →
    (ps.foldl (joStep re q rec) r).2.next i = r.2.next i
  | [], _, _, _, _ => rfl
  | p :: ps, r, hp, hr, hi => by
    have h1 := joStep_ok (re := re) hle hq (hp p (by simp)) hr
    have h2 := joF_keep (re := re) hle hrec hq ps _ (fun x hx => hp x (by simp [hx])) h1.1 (h1.2 i hi)
    rw [List.foldl_cons, h2]
    exact joStep_keep hle hrec (hp p (by simp)) hr hi
/-- places that are seen keep their next ones -/
theorem joN_keep {re : Nat → Nat} {s : Nat} (hs : s < 2 ^ 24) {i : Nat} : ∀ f q st, q < 24 → st.ok → st.seen.testBit i = true → (joN re s f q st).2.next i = st.next i
  | 0, _, _, _, _, _ => rfl
  | f + 1, q, st, hq, h, hi => joF_keep (joN_ok hs f) (fun q st hq h hi => joN_keep hs f q st hq h hi) hq (bitsOf s) (false, st) (fun p hp => low24 hs hp) h hi
/-- what a round does, by cases -/
theorem joStep_seen {re : Nat → Nat} {q : Nat} {rec : Nat → MSt → Bool × MSt} {st : MSt} {p : Nat} (h : st.seen.testBit p = true) : joStep re q rec (false, st) p = (false, st) := by simp [joStep, h]
theorem joStep_none {re : Nat → Nat} {q : Nat} {rec : Nat → MSt → Bool × MSt} {st : MSt} {p : Nat} (h : (re p).testBit q = false) : joStep re q rec (false, st) p = (false, st) := by simp [joStep, h]
theorem joStep_new {re : Nat → Nat} {q : Nat} {rec : Nat → MSt → Bool × MSt} {st : MSt} {p : Nat} (h1 : st.seen.testBit p = false) (h2 : (re p).testBit q = true) (h3 : st.next p < 0) : joStep re q rec (false, st) p = (true, ⟨st.seen ||| 2 ^ p, updI st.next p q⟩) := by simp [joStep, h1, h2, h3]
theorem joStep_rec {re : Nat → Nat} {q : Nat} {rec : Nat → MSt → Bool × MSt} {st : MSt} {p : Nat} (h1 : st.seen.testBit p = false) (h2 : (re p).testBit q = true) (h3 : ¬ st.next p < 0) {b : Bool} {r : MSt} (h4 : rec (st.next p).toNat ⟨st.seen ||| 2 ^ p, st.next⟩ = (b, r)) :
    joStep re q rec (false, st) p = if b then (true, ⟨r.seen, updI r.next p q⟩) else (false, r) := by
  simp only [joStep, h1, h2, h4, Bool.false_eq_true, if_false, Bool.not_true, Bool.or_false, if_neg h3]
end Go.Proofs.YtiejefehcpfkaaaDoor
end
