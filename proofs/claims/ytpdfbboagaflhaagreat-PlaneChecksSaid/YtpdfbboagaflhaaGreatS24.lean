/- PlaneCovers: triangles that CheckTriangles accepts, at every input. -/
import Derived.Test.YtpdfbboagaflhaaGreatS22
import Derived.Test.YtpdfbboagaflhaaGreatM51
import Derived.Maps.OwnOps
import Derived.Maps.RangeWalk
import Derived.WideKeyEntry
import Derived.Maps.Own
import Derived.Maps.OwnSet
import Derived.Maps.Views
import Derived.LoopTactic
import Derived.Deep.LoopGhost
import Derived.Deep.DeepCutAuto
import Derived.BigRegion
import Derived.Deep.RegionHeld3
import Derived.Test.YtpdfbboagaflhaaGreatS23
import Derived.Deep.Strs

set_option linter.unusedSimpArgs false
set_option linter.unusedVariables false
set_option linter.unusedSectionVars false
namespace Go.Proofs.YtpdfbboagaflhaaGreat
namespace Geo

/-- two lists that go round every point alike, and have one border -/
def Alike (l l' : List P2) : Prop := ∀ p, wind l p = wind l' p ∧ (OnB l p ↔ OnB l' p)
theorem Alike.refl (l : List P2) : Alike l l := fun p => ⟨rfl, Iff.rfl⟩
theorem Alike.trans {a b c : List P2} (h : Alike a b) (g : Alike b c) : Alike a c := fun p => ⟨(h p).1.trans (g p).1, (h p).2.trans (g p).2⟩
theorem onB_perm {l l' : List P2} (h : (EE l).Perm (EE l')) (p : P2) : OnB l p ↔ OnB l' p := by
  unfold OnB; constructor <;> rintro ⟨e, he, g⟩
  · exact ⟨e, h.mem_iff.1 he, g⟩
  · exact ⟨e, h.mem_iff.2 he, g⟩
theorem alike_perm {l l' : List P2} (h : (EE l).Perm (EE l')) : Alike l l' := fun p => ⟨wind_perm h p, onB_perm h p⟩
theorem ps_mid {a v c : P2} (h : OnS v a c) (h1 : v ≠ a) (h2 : v ≠ c) (p : P2) : ps a v p + ps v c p = ps a c p := by
  obtain ⟨m, N, k0, k1, kx, ky⟩ := on_par h h1 h2
  have e1 : N * TT a v p = m * TT a c p := by unfold TT; grind
  have e2 : N * TT v c p = (N - m) * TT a c p := by unfold TT; grind
  have s0 := sgn_pos (a := TT a v p) (show 0 < N by omega)
  have s1 := sgn_pos (a := TT a c p) k0
  have s2 := sgn_pos (a := TT v c p) (show 0 < N by omega)
  have s3 := sgn_pos (a := TT a c p) (show 0 < N - m by omega)
  rw [e1] at s0; rw [e2] at s2
  have hb := h.2.2
  have a1 : (0 < TT a v p ↔ 0 < TT a c p) ∧ (TT a v p < 0 ↔ TT a c p < 0) := ⟨s0.1.symm.trans s1.1, s0.2.1.symm.trans s1.2.1⟩
  have a2 : (0 < TT v c p ↔ 0 < TT a c p) ∧ (TT v c p < 0 ↔ TT a c p < 0) := ⟨s2.1.symm.trans s3.1, s2.2.1.symm.trans s3.2.1⟩
  unfold ps
  simp only [a1.1, a1.2, a2.1, a2.2]
  clear s0 s1 s2 s3 a1 a2 e1 e2 kx ky
  generalize TT a c p = T
  rcases Int.lt_trichotomy T 0 with g | g | g
  · repeat (split) <;> omega
  · repeat (split) <;> omega
  · repeat (split) <;> omega
theorem alike_cut {v c a : P2} {R : List P2} (h : OnS v a c) (h1 : v ≠ a) (h2 : v ≠ c) (hac : a ≠ c) : Alike (v :: c :: (R ++ [a])) (c :: (R ++ [a])) := by
  intro p
  constructor
  · unfold wind
    rw [front_E, EE_cut]
    simp only [List.map_cons, List.map_append, List.sum_cons, List.sum_append, List.map_nil, List.sum_nil]
    have := ps_mid h h1 h2 p
    omega
  · unfold OnB
    rw [front_E, EE_cut]
    constructor
    · rintro ⟨e, he, g⟩
      simp only [List.mem_cons, List.mem_append, List.not_mem_nil, or_false] at he
      rcases he with rfl | he | rfl
      · exact ⟨(a, c), by simp, ons_swap (ons_sub (ons_swap h) g)⟩
      · exact ⟨e, by simp [he], g⟩
      · exact ⟨(a, c), by simp, ons_sub h (ons_swap g)⟩
    · rintro ⟨e, he, g⟩
      simp only [List.mem_append, List.mem_cons, List.not_mem_nil, or_false] at he
      rcases he with he | rfl
      · exact ⟨e, by simp [he], g⟩
      · obtain ⟨m, N, k0, k1, kx, ky⟩ := on_par h h1 h2
        rcases ons_split k0 k1 kx ky hac g with g | g
        · exact ⟨(a, v), by simp, g⟩
        · exact ⟨(v, c), by simp, g⟩
theorem alike_bends : ∀ n (l : List P2), l.length ≤ n → Bnd l → Simp l → Alike (normB l) l := by
  intro n
  induction n with
  | zero => intro l h _ hs; have := hs.three; omega
  | succ n ih =>
    intro l hl hb hs
    by_cases hall : ∀ k, k < l.length → turnAt l l.length k ≠ 0
    · rw [bends_self l hall]; exact Alike.refl _
    · obtain ⟨f, hf⟩ := Classical.not_forall.1 hall
      rw [not_imp, Classical.not_not] at hf
      obtain ⟨hf, ht⟩ := hf
      have hp := rot_perm l f
      have hsr := simp_rot hs f
      have hbr : Bnd (rotL l f) := fun v hv => hb v (hp.mem_iff.1 hv)
      have ht0 : turnAt (rotL l f) l.length 0 = 0 := by rw [turnAt_rot l f 0 (by omega) (by omega), Nat.add_zero, Nat.mod_eq_of_lt hf]; exact ht
      have hlen : (rotL l f).length = l.length := hp.length_eq
      have hback : Alike (normB (rotL l f)) (rotL l f) → Alike (normB l) l := by
        intro h
        rw [normB_rot l f (by omega)] at h
        rw [normB_split l f (by omega)]
        exact (alike_perm (EE_rot _ _)).trans (h.trans (alike_perm (rot_EE l f)))
      refine hback ?_
      rw [← hlen] at ht0 hl
      generalize rotL l f = M at *
      have h3 := hsr.three
      match M, h3 with
      | v :: c :: M', h3 =>
        rcases List.eq_nil_or_concat M' with rfl | ⟨R, a, rfl⟩
        · simp at h3
        · rw [List.concat_eq_append] at *
          rw [turnAt_zero] at ht0
          have e1 : (0 + (v :: c :: (R ++ [a])).length - 1) % (v :: c :: (R ++ [a])).length = (R.length + 1) + 1 := by rw [Nat.mod_eq_of_lt] <;> simp
          have e2 : (0 + 1) % (v :: c :: (R ++ [a])).length = 0 + 1 := by rw [Nat.mod_eq_of_lt]; simp
          rw [e1, e2, ptAt_cons, ptAt_cons, ptAt_cons, ptAt_zero, ptAt_zero, ptAt_app] at ht0
          obtain ⟨hR, hs2⟩ := simp_strike hbr hsr ht0
          have nd := nd_ne hsr.nd
          have hst := straight hsr ht0
          obtain ⟨m, N, k0, k1, kx, ky⟩ := on_par hst nd.2.1 nd.1
          have f1 : ∀ u, TT v c u = 0 ↔ TT a c u = 0 := fun u => by
            have := par_tt kx ky c u
            rw [(tt_self c u).1, Int.mul_zero, Int.add_zero] at this
            have g1 : TT c u v = TT v c u := by unfold TT; grind
            have g2 : TT c u a = TT a c u := by unfold TT; grind
            rw [g1, g2] at this
            constructor <;> intro h
            · rw [h, Int.mul_zero] at this
              exact (Int.mul_eq_zero.1 this.symm).resolve_left (by omega)
            · rw [h, Int.mul_zero] at this
              exact (Int.mul_eq_zero.1 this).resolve_left (by omega)
          have f2 : ∀ u, TT u a v = 0 ↔ TT u a c = 0 := fun u => by
            have := par_tt kx ky u a
            rw [(tt_self u a).2.1, Int.mul_zero, Int.zero_add] at this
            constructor <;> intro h
            · rw [h, Int.mul_zero] at this
              exact (Int.mul_eq_zero.1 this.symm).resolve_left (by omega)
            · rw [h, Int.mul_zero] at this
              exact (Int.mul_eq_zero.1 this).resolve_left (by omega)
          rw [normB_drop ht0 f1 f2 nd.2.2.1.symm hR]
          exact (ih _ (by simp at hl ⊢; omega) (fun u hu => hbr u (List.mem_cons_of_mem _ hu)) hs2).trans (fun p => ⟨((alike_cut hst nd.2.1 nd.1 nd.2.2.1.symm) p).1.symm, ((alike_cut hst nd.2.1 nd.1 nd.2.2.1.symm) p).2.symm⟩)
theorem wind_rev (l : List P2) (p : P2) : wind l.reverse p = - wind l p := by
  have h := sum_perm ((EE_rev l).map fun e => ps e.1 e.2 p)
  unfold wind
  rw [h, List.map_map]
  generalize EE l = L
  induction L with
  | nil => rfl
  | cons e L ih => simp only [List.map_cons, List.sum_cons, ih, Function.comp, Prod.fst_swap, Prod.snd_swap]; rw [ps_swap]; omega
theorem onB_rev (l : List P2) (p : P2) : OnB l.reverse p ↔ OnB l p := by
  unfold OnB
  constructor
  · rintro ⟨e, he, g⟩
    obtain ⟨f, hf, rfl⟩ := List.mem_map.1 ((EE_rev l).mem_iff.1 he)
    exact ⟨f, hf, ons_swap g⟩
  · rintro ⟨e, he, g⟩
    exact ⟨e.swap, (EE_rev l).mem_iff.2 (List.mem_map.2 ⟨e, he, rfl⟩), ons_swap g⟩
/-- the normal form, seen from a point -/
theorem norm_wind {l : List P2} (h : polyI l = 0) (p : P2) : (wind (normL l) p = wind l p ∨ wind (normL l) p = - wind l p) ∧ (OnB (normL l) p ↔ OnB l p) := by
  have hs := poly_simp h
  obtain ⟨hck, h3, hr, ha⟩ := polyI_ok h
  obtain ⟨hl, hok⟩ := ckPts_zero hck
  have hb := okL_bnd hok
  have s1 := alike_bends _ l (Nat.le_refl _) hb hs p
  have e : normL l = rotL (normC l) (leastTo (normC l) (normC l).length) := rfl
  have s2 := alike_perm (rot_EE (normC l) (leastTo (normC l) (normC l).length)) p
  rw [← e] at s2
  rw [s2.1, s2.2]
  unfold normC
  split
  · rw [revTo_rev, wind_rev, onB_rev, s1.1, s1.2]; exact ⟨Or.inr rfl, Iff.rfl⟩
  · rw [s1.1, s1.2]; exact ⟨Or.inl rfl, Iff.rfl⟩
theorem passB_ps (u w p : P2) : passB u.1 u.2 w.1 w.2 p.1 p.2 = decide (ps u w p ≠ 0) := by
  have t1 : (turnI u.1 u.2 w.1 w.2 p.1 p.2 == 1) = decide (0 < TT u w p) := by
    rw [Bool.eq_iff_iff, beq_iff_eq, decide_eq_true_iff]; exact turn_one u w p
  have t2 : (turnI w.1 w.2 u.1 u.2 p.1 p.2 == 1) = decide (TT u w p < 0) := by
    rw [Bool.eq_iff_iff, beq_iff_eq, decide_eq_true_iff, turn_one w u p, tt_swap]; omega
  unfold passB ps
  rw [t1, t2]
  generalize TT u w p = T
  rw [Bool.eq_iff_iff]
  split <;> simp only [Bool.and_eq_true, decide_eq_true_iff] <;> repeat (split) <;> omega
theorem odd_wind (l : List P2) (p : P2) : ∀ k, k ≤ l.length → oddTo (edgesL l) p.1 p.2 k = decide ((((List.range k).map fun i => ps (ptAt l i) (ptAt l ((i + 1) % l.length)) p).sum) % 2 ≠ 0)
  | 0, _ => by simp [oddTo]
  | k + 1, h => by
    have ih := odd_wind l p k (by omega)
    obtain ⟨e1, e2, e3, e4⟩ := edgesL_at l k (by omega)
    have hp : passAt (edgesL l) p.1 p.2 k = decide (ps (ptAt l k) (ptAt l ((k + 1) % l.length)) p ≠ 0) := by
      unfold passAt; rw [e1, e2, e3, e4]; exact passB_ps (ptAt l k) (ptAt l ((k + 1) % l.length)) p
    have hv : ps (ptAt l k) (ptAt l ((k + 1) % l.length)) p = 0 ∨ ps (ptAt l k) (ptAt l ((k + 1) % l.length)) p = 1 ∨ ps (ptAt l k) (ptAt l ((k + 1) % l.length)) p = -1 := by
      unfold ps; repeat (split) <;> omega
    simp only [oddTo]
    rw [hp, ih, List.range_succ, List.map_append, List.sum_append]
    simp only [List.map_cons, List.map_nil, List.sum_cons, List.sum_nil]
    generalize ps (ptAt l k) (ptAt l ((k + 1) % l.length)) p = P at *
    generalize ((List.range k).map fun i => ps (ptAt l i) (ptAt l ((i + 1) % l.length)) p).sum = S
    rw [Bool.eq_iff_iff]
    rcases hv with rfl | rfl | rfl <;> simp <;> omega
theorem any_onB (l : List P2) (p : P2) : anyOn (edgesL l) p.1 p.2 l.length = true ↔ OnB l p := by
  unfold anyOn OnB
  rw [List.any_eq_true]
  have hk : ∀ k, k < l.length → (onAt (edgesL l) p.1 p.2 k = true ↔ OnS p (ptAt l k) (ptAt l ((k + 1) % l.length))) := fun k hk => by
    obtain ⟨e1, e2, e3, e4⟩ := edgesL_at l k hk
    unfold onAt; rw [e1, e2, e3, e4, ← onR_eq]; exact onR_on p (ptAt l k) (ptAt l ((k + 1) % l.length))
  constructor
  · rintro ⟨k, hk1, h⟩
    rw [List.mem_range] at hk1
    exact ⟨_, EE_mem.2 ⟨k, hk1, rfl⟩, (hk k hk1).1 h⟩
  · rintro ⟨e, he, h⟩
    obtain ⟨k, hk1, rfl⟩ := EE_mem.1 he
    exact ⟨k, List.mem_range.2 hk1, (hk k hk1).2 h⟩
theorem once_norm {l : List P2} (h : polyI l = 0) : Once (normL l) := by
  obtain ⟨s, _, a, ok, _, _, _⟩ := norm_self h
  exact once_all _ _ (Nat.le_refl _) (okL_bnd ok) s a
theorem sc_one (p : P2) : sc 1 p = p := by unfold sc; simp
theorem once_one {l : List P2} (h : Once l) (p : P2) : wind l p = 0 ∨ wind l p = 1 := by
  have := h 1 (by omega) (sc 1 p)
  rwa [wind_sc (by omega)] at this
/-- where a point is, by the normal form -/
theorem where_norm {l : List P2} (h : polyI l = 0) (p : P2) : whereI l p.1 p.2 ≠ 0 ↔ (OnB (normL l) p ∨ wind (normL l) p = 1) := by
  obtain ⟨h1, h2⟩ := norm_wind h p
  have h3 := once_one (once_norm h) p
  have ho := odd_wind l p l.length (Nat.le_refl _)
  have hw : wind l p = ((List.range l.length).map fun i => ps (ptAt l i) (ptAt l ((i + 1) % l.length)) p).sum := by
    unfold wind; rw [EE_idx, List.map_map]; rfl
  rw [← hw] at ho
  rw [h2, ← any_onB]
  unfold whereI
  rw [ho]
  split
  · rename_i g; simp [g]
  · rename_i g; simp only [g, false_or]
    split
    · rename_i g2; rw [decide_eq_true_iff] at g2; have := (show wind (normL l) p = 1 by omega); simp [this]
    · rename_i g2; rw [decide_eq_true_iff] at g2; have := (show wind (normL l) p ≠ 1 by omega); simp [this]
def triE (t : T6) : List (P2 × P2) := [(t.1, t.2.1), (t.2.1, t.2.2), (t.2.2, t.1)]
def trisE (t : List T6) : List (P2 × P2) := t.flatMap triE
/-- the edges of triangles, and those of a polygon turned round -/
def chE (l : List P2) (t : List T6) : List (P2 × P2) := trisE t ++ (EE l).map Prod.swap
/-- each edge is there as often in the one direction as in the other -/
def Bal (E : List (P2 × P2)) : Prop := ∀ e, E.count e = E.count e.swap
theorem swap_inj {a b : P2 × P2} : a.swap = b.swap ↔ a = b := ⟨fun h => by rw [← Prod.swap_swap a, h, Prod.swap_swap], fun h => by rw [h]⟩
theorem swap_eq {a b : P2 × P2} : a.swap = b ↔ a = b.swap := ⟨fun h => by rw [← h, Prod.swap_swap], fun h => by rw [h, Prod.swap_swap]⟩
theorem bal_perm {E F : List (P2 × P2)} (h : E.Perm F) (hb : Bal E) : Bal F := fun e => by rw [← h.count_eq, ← h.count_eq]; exact hb e
theorem bal_sum (f : P2 × P2 → Int) (hf : ∀ e, f e.swap = - f e) : ∀ n (E : List (P2 × P2)), E.length ≤ n → Bal E → (E.map f).sum = 0 := by
  intro n
  induction n with
  | zero => intro E h _; have : E = [] := List.eq_nil_of_length_eq_zero (by omega); subst this; rfl
  | succ n ih =>
    intro E h hb
    match E with
    | [] => rfl
    | e :: E' =>
      by_cases hs : e.swap = e
      · have f0 : f e = 0 := by have := hf e; rw [hs] at this; omega
        have hb' : Bal E' := fun x => by
          have := hb x
          simp only [List.count_cons, beq_iff_eq] at this
          have g : (e = x) ↔ (e = x.swap) := by rw [← swap_eq, hs]
          by_cases g1 : e = x
          · rw [if_pos g1, if_pos (g.1 g1)] at this; omega
          · rw [if_neg g1, if_neg (fun q => g1 (g.2 q))] at this; omega
        simp only [List.map_cons, List.sum_cons, f0, ih E' (by simp at h; omega) hb']; omega
      · have hm : e.swap ∈ E' := by
          have h1 := hb e
          rw [List.count_cons_self] at h1
          have h2 : 0 < (e :: E').count e.swap := by omega
          rw [List.count_pos_iff] at h2
          rcases List.mem_cons.1 h2 with g | g
          · exact absurd g hs
          · exact g
        have hp : (e :: E').Perm (e :: e.swap :: E'.erase e.swap) := (List.perm_cons_erase hm).cons _
        have hb2 := bal_perm hp hb
        have hb' : Bal (E'.erase e.swap) := fun x => by
          have := hb2 x
          simp only [List.count_cons, beq_iff_eq] at this
          have g1 : (e.swap = x) ↔ (e = x.swap) := swap_eq
          have g2 : (e.swap = x.swap) ↔ (e = x) := swap_inj
          simp only [g1, g2] at this
          omega
        have hl : (E'.erase e.swap).length ≤ n := by rw [List.length_erase_of_mem hm]; simp at h; omega
        rw [sum_perm (hp.map f)]
        simp only [List.map_cons, List.sum_cons, hf, ih _ hl hb']; omega
theorem tris_sum (f : P2 × P2 → Int) (t : List T6) : ((trisE t).map f).sum = (t.map fun x => ((triE x).map f).sum).sum := by
  induction t with
  | nil => rfl
  | cons x t ih => rw [show trisE (x :: t) = triE x ++ trisE t from rfl, List.map_append, List.sum_append, ih, List.map_cons, List.sum_cons]
theorem swap_sum (f : P2 × P2 → Int) (hf : ∀ e, f e.swap = - f e) (L : List (P2 × P2)) : ((L.map Prod.swap).map f).sum = - (L.map f).sum := by
  induction L with
  | nil => rfl
  | cons e L ih => simp only [List.map_cons, List.sum_cons, ih, hf]; omega
theorem bal_tris {l : List P2} {t : List T6} (h : Bal (chE l t)) (f : P2 × P2 → Int) (hf : ∀ e, f e.swap = - f e) : (t.map fun x => ((triE x).map f).sum).sum = ((EE l).map f).sum := by
  have h1 := bal_sum f hf _ _ (Nat.le_refl _) h
  unfold chE at h1
  rw [List.map_append, List.sum_append, tris_sum, swap_sum f hf] at h1
  omega
theorem tri_EE (x : T6) : EE [x.1, x.2.1, x.2.2] = triE x := rfl
def trW (x : T6) (p : P2) : Int := wind [x.1, x.2.1, x.2.2] p
/-- what CheckTriangles asks of triangles -/
structure Cover (l : List P2) (t : List T6) : Prop where
  poly : polyI l = 0
  left : ∀ x ∈ t, 0 < TT x.1 x.2.1 x.2.2
  bal : Bal (chE (normL l) t)
variable {l : List P2} {t : List T6}
theorem Cover.area (h : Cover l t) : (t.map fun x => TT x.1 x.2.1 x.2.2).sum = A2 (normL l) := by
  have := bal_tris h.bal cr2 (fun e => by unfold cr2; simp only [Prod.fst_swap, Prod.snd_swap]; grind)
  unfold A2
  rw [← this]
  congr 1
  refine List.map_congr_left fun x _ => ?_
  rw [← A2_tri]; rfl
theorem Cover.wind (h : Cover l t) {K : Int} (hK : 0 < K) (p : P2) : (t.map fun x => Geo.wind [sc K x.1, sc K x.2.1, sc K x.2.2] p).sum = Geo.wind ((normL l).map (sc K)) p := by
  have := bal_tris h.bal (fun e => ps (sc K e.1) (sc K e.2) p) (fun e => ps_swap _ _ _)
  have e2 : Geo.wind ((normL l).map (sc K)) p = ((EE (normL l)).map fun e => ps (sc K e.1) (sc K e.2) p).sum := by
    unfold Geo.wind; rw [EE_map, List.map_map]; rfl
  rw [e2, ← this]
  congr 1
theorem Cover.wind1 (h : Cover l t) (p : P2) : (t.map fun x => trW x p).sum = Geo.wind (normL l) p := by
  have := h.wind (K := 1) (by omega) (sc 1 p)
  rw [wind_sc (by omega)] at this
  rw [← this]
  congr 1
  refine List.map_congr_left fun x _ => ?_
  have e : [sc 1 x.1, sc 1 x.2.1, sc 1 x.2.2] = [x.1, x.2.1, x.2.2].map (sc 1) := rfl
  rw [e, wind_sc (by omega)]; rfl
/-- in the inside of a triangle -/
def insB (x : T6) (p : P2) : Bool := turnI x.1.1 x.1.2 x.2.1.1 x.2.1.2 p.1 p.2 == 1 && turnI x.2.1.1 x.2.1.2 x.2.2.1 x.2.2.2 p.1 p.2 == 1 && turnI x.2.2.1 x.2.2.2 x.1.1 x.1.2 p.1 p.2 == 1
def inB (x : T6) (p : P2) : Bool := inTriB p.1 p.2 x.1.1 x.1.2 x.2.1.1 x.2.1.2 x.2.2.1 x.2.2.2
theorem inB_iff (x : T6) (p : P2) : inB x p = true ↔ InT x.1 x.2.1 x.2.2 p := inTri_iff p x.1 x.2.1 x.2.2
theorem insB_iff (x : T6) (p : P2) : insB x p = true ↔ 0 < TT x.1 x.2.1 p ∧ 0 < TT x.2.1 x.2.2 p ∧ 0 < TT x.2.2 x.1 p := by
  unfold insB
  rw [Bool.and_eq_true, Bool.and_eq_true, beq_iff_eq, beq_iff_eq, beq_iff_eq, turn_one x.1 x.2.1 p, turn_one x.2.1 x.2.2 p, turn_one x.2.2 x.1 p, and_assoc]
theorem sum_ge {t : List T6} (p : P2) (hl : ∀ x ∈ t, 0 < TT x.1 x.2.1 x.2.2) : (t.countP (insB · p) : Int) ≤ (t.map fun x => trW x p).sum := by
  induction t with
  | nil => simp
  | cons x t ih =>
    have i := ih fun y hy => hl y (List.mem_cons_of_mem _ hy)
    have w := tri_wind (hl x (List.mem_cons_self ..)) p
    rw [List.countP_cons, List.map_cons, List.sum_cons]
    have e : trW x p = Geo.wind [x.1, x.2.1, x.2.2] p := rfl
    rw [e]
    by_cases g : insB x p = true
    · obtain ⟨a, b, c⟩ := (insB_iff x p).1 g
      have := w.2.2 a b c
      rw [if_pos g]; omega
    · rw [if_neg g]; have := w.1; omega
theorem sum_nonneg {t : List T6} (f : T6 → Int) (hl : ∀ x ∈ t, 0 ≤ f x) : 0 ≤ (t.map f).sum ∧ ∀ x ∈ t, f x ≤ (t.map f).sum := by
  induction t with
  | nil => simp
  | cons x t ih =>
    have i := ih fun y hy => hl y (List.mem_cons_of_mem _ hy)
    have hx := hl x (List.mem_cons_self ..)
    rw [List.map_cons, List.sum_cons]
    refine ⟨by omega, fun y hy => ?_⟩
    rcases List.mem_cons.1 hy with rfl | hy
    · omega
    · have := i.2 y hy; omega
theorem sum_some {t : List T6} (f : T6 → Int) (h : (t.map f).sum ≠ 0) : ∃ x ∈ t, f x ≠ 0 := by
  induction t with
  | nil => simp at h
  | cons x t ih =>
    by_cases g : f x = 0
    · rw [List.map_cons, List.sum_cons, g, Int.zero_add] at h
      obtain ⟨y, hy, hn⟩ := ih h
      exact ⟨y, List.mem_cons_of_mem _ hy, hn⟩
    · exact ⟨x, List.mem_cons_self .., g⟩
/-- no point is inside two triangles -/
theorem Cover.inside (h : Cover l t) (p : P2) : t.countP (insB · p) ≤ 1 := by
  have h1 := sum_ge p h.left
  have h2 := h.wind1 p
  have h3 := once_one (once_norm h.poly) p
  omega
theorem edge_once {l : List P2} (hs : Simp l) {e : P2 × P2} (he : e ∈ EE l) : e.swap ∉ EE l := by
  intro hw
  obtain ⟨i, hi, rfl⟩ := EE_mem.1 he
  obtain ⟨j, hj, ej⟩ := EE_mem.1 hw
  simp only [Prod.swap, Prod.mk.injEq] at ej
  have h3 := hs.three
  have a := pt_inj hs.nd (nx_lt hi) hj ej.1
  have b := pt_inj hs.nd hi (nx_lt hj) ej.2
  rw [nx hi] at a
  rw [nx hj] at b
  split at a <;> split at b <;> omega
/-- a point of the polygon is a point of a triangle, and the other way round -/
theorem Cover.cover (h : Cover l t) (p : P2) : (∃ x ∈ t, inB x p = true) ↔ whereI l p.1 p.2 ≠ 0 := by
  obtain ⟨hs, _, hA, hok, _, _, _⟩ := norm_self h.poly
  rw [where_norm h.poly]
  constructor
  · rintro ⟨x, hx, hp⟩
    by_cases ho : OnB (normL l) p
    · exact Or.inl ho
    · right
      have ev := (near_same ho (x.1.1 + x.2.1.1 + x.2.2.1 - 3 * p.1, x.1.2 + x.2.1.2 + x.2.2.2 - 3 * p.2)).and (inT_near (h.left x hx) ((inB_iff x p).1 hp))
      obtain ⟨K, hK, e1, e2⟩ := ev.ex
      have hw := h.wind hK (pl (sc K p) (x.1.1 + x.2.1.1 + x.2.2.1 - 3 * p.1, x.1.2 + x.2.1.2 + x.2.2.2 - 3 * p.2))
      have hn := sum_nonneg (t := t) (fun x' => Geo.wind [sc K x'.1, sc K x'.2.1, sc K x'.2.2] (pl (sc K p) (x.1.1 + x.2.1.1 + x.2.2.1 - 3 * p.1, x.1.2 + x.2.1.2 + x.2.2.2 - 3 * p.2))) (fun y hy => by
        have := once_tri (h.left y hy) K hK (pl (sc K p) (x.1.1 + x.2.1.1 + x.2.2.1 - 3 * p.1, x.1.2 + x.2.1.2 + x.2.2.2 - 3 * p.2))
        simp only [List.map_cons, List.map_nil] at this
        show 0 ≤ Geo.wind [sc K y.1, sc K y.2.1, sc K y.2.2] _
        omega)
      have hx2 := hn.2 x hx
      simp only [e2] at hx2
      have h3 := once_one (once_norm h.poly) p
      omega
  · rintro (⟨e, he, ho⟩ | hw)
    · have hc : e.swap ∈ chE (normL l) t := List.mem_append_right _ (List.mem_map.2 ⟨e, he, rfl⟩)
      have hb := h.bal e
      have hp := List.count_pos_iff.2 hc
      have he2 : e ∈ chE (normL l) t := List.count_pos_iff.1 (by omega)
      rcases List.mem_append.1 he2 with g | g
      · obtain ⟨x, hx, hxe⟩ := List.mem_flatMap.1 g
        refine ⟨x, hx, (inB_iff x p).2 ?_⟩
        have hl := h.left x hx
        have on_in : ∀ {a b c q : P2}, 0 < TT a b c → OnS q a b → InT a b c q := by
          intro a b c q ht hq
          have n1 : a ≠ b := by rintro rfl; rw [(tt_self a c).2.2] at ht; simp at ht
          by_cases q1 : q = a
          · subst q1; exact ⟨by rw [(tt_self q b).1]; omega, by rw [tt_rot]; omega, by rw [(tt_self c q).2.1]; omega⟩
          by_cases q2 : q = b
          · subst q2; exact ⟨by rw [(tt_self a q).2.1]; omega, by rw [(tt_self q c).1]; omega, by have := tt_rot c a q; have := tt_rot a q c; omega⟩
          exact inT_rot (inT_rot (inT_on_ac (a := b) (b := c) (c := a) (by rw [tt_rot]; exact ht) (ons_swap hq) q2 q1))
        simp only [triE, List.mem_cons, List.not_mem_nil, or_false] at hxe
        rcases hxe with rfl | rfl | rfl
        · exact on_in hl ho
        · exact inT_rot (inT_rot (on_in (by rw [tt_rot]; exact hl) ho))
        · exact inT_rot (on_in (by rw [tt_rot, tt_rot]; exact hl) ho)
      · obtain ⟨f, hf, rfl⟩ := List.mem_map.1 g
        exact absurd hf (edge_once hs he |> fun q => by simpa using q)
    · have hw2 := h.wind1 p
      obtain ⟨x, hx, hn⟩ := sum_some (fun x => trW x p) (by rw [hw2, hw]; omega)
      exact ⟨x, hx, (inB_iff x p).2 ((tri_wind (h.left x hx) p).2.1 hn)⟩
/-- how much more often an edge is there than the one turned round -/
def valE (E : List (P2 × P2)) (k : P2 × P2) : Int := (E.count k : Int) - E.count k.swap
theorem valE_app (E F : List (P2 × P2)) (k : P2 × P2) : valE (E ++ F) k = valE E k + valE F k := by unfold valE; rw [List.count_append, List.count_append]; omega
theorem valE_perm {E F : List (P2 × P2)} (h : E.Perm F) (k : P2 × P2) : valE E k = valE F k := by unfold valE; rw [h.count_eq, h.count_eq]
theorem valE_nil (k : P2 × P2) : valE [] k = 0 := rfl
theorem count_swap (E : List (P2 × P2)) (k : P2 × P2) : (E.map Prod.swap).count k = E.count k.swap := by
  induction E with
  | nil => rfl
  | cons e E ih =>
    simp only [List.map_cons, List.count_cons, ih, beq_iff_eq]
    have : (e.swap = k) ↔ (e = k.swap) := swap_eq
    simp only [this]
theorem valE_swap (E : List (P2 × P2)) (k : P2 × P2) : valE (E.map Prod.swap) k = - valE E k := by
  unfold valE; rw [count_swap, count_swap, Prod.swap_swap]; omega
theorem valE_cons (e : P2 × P2) (E : List (P2 × P2)) (k : P2 × P2) : valE (e :: E) k = valE E k + (if e = k then 1 else 0) - (if e = k.swap then 1 else 0) := by
  unfold valE; rw [List.count_cons, List.count_cons]; simp only [beq_iff_eq]; split <;> split <;> omega
theorem bal_iff (E : List (P2 × P2)) : Bal E ↔ ∀ k, valE E k = 0 := by
  unfold Bal valE; constructor <;> intro h k <;> have := h k <;> omega
theorem trisE_snoc (t : List T6) (x : T6) : trisE (t ++ [x]) = trisE t ++ triE x := by simp [trisE]
theorem ear_val {r : List P2} (h : EarOk r) (h4 : 4 ≤ r.length) {k : Nat} (hk : k < r.length) (e : P2 × P2) : valE (EE r) e = valE (triE (trAt r r.length k)) e + valE (EE (r.eraseIdx k)) e := by
  have i1 : (ptAt r ((k + r.length - 1) % r.length), ptAt r k) ∈ EE r := EE_mem.2 ⟨(k + r.length - 1) % r.length, Nat.mod_lt _ (by omega), by
    congr 2
    by_cases k0 : k = 0
    · subst k0; rw [Nat.mod_eq_of_lt (show 0 + r.length - 1 < r.length by omega), show 0 + r.length - 1 + 1 = r.length by omega, Nat.mod_self]
    · rw [show k + r.length - 1 = (k - 1) + r.length by omega, Nat.add_mod_right, Nat.mod_eq_of_lt (show k - 1 < r.length by omega), show k - 1 + 1 = k by omega, Nat.mod_eq_of_lt hk]⟩
  have i2 : (ptAt r k, ptAt r ((k + 1) % r.length)) ∈ EE r := EE_mem.2 ⟨k, hk, rfl⟩
  have eT : trAt r r.length k = (ptAt r ((k + r.length - 1) % r.length), ptAt r k, ptAt r ((k + 1) % r.length)) := rfl
  rw [eT]
  generalize ptAt r ((k + r.length - 1) % r.length) = p at *
  generalize ptAt r ((k + 1) % r.length) = q at *
  have er : r = r.take k ++ ptAt r k :: r.drop (k + 1) := by
    rw [ptAt_get r k hk]; simp
  have ee : r.eraseIdx k = r.take k ++ r.drop (k + 1) := List.eraseIdx_eq_take_drop_succ ..
  rw [ee]
  have hl : (r.take k).length + (r.drop (k + 1)).length + 1 = r.length := by simp; omega
  have si := h.si
  clear eT
  generalize ptAt r k = t at *
  generalize r.take k = X at *
  generalize r.drop (k + 1) = Y at *
  subst er
  have p1 : (X ++ t :: Y).Perm (t :: (Y ++ X)) := by
    have : (X ++ (t :: Y)).Perm ((t :: Y) ++ X) := List.perm_append_comm
    simpa using this
  have p2 : (EE (X ++ t :: Y)).Perm (EE (t :: (Y ++ X))) := by have := EE_rot X (t :: Y); simpa using this
  have s1 : Simp (t :: (Y ++ X)) := simp_perm si p1 fun e h => p2.mem_iff.2 h
  rw [valE_perm p2, valE_perm (EE_rot X Y)]
  have j1 := p2.mem_iff.1 i1
  have j2 := p2.mem_iff.1 i2
  have hM : 3 ≤ (Y ++ X).length := by simp at hl h4 ⊢; omega
  generalize Y ++ X = M at *
  match M, hM with
  | c :: M', hM =>
    rcases List.eq_nil_or_concat M' with rfl | ⟨R, a, rfl⟩
    · simp at hM
    · rw [List.concat_eq_append] at *
      have e1 := nbr_prev s1.nd j1
      have e2 := nbr_next s1.nd j2
      subst e1 e2
      rw [front_E, EE_cut]
      have ht : triE (p, t, q) = [(p, t), (t, q), (q, p)] := rfl
      rw [ht]
      simp only [valE_cons, valE_app, valE_nil]
      have g1 : ((q, p) = e) ↔ ((p, q) = e.swap) := by rw [← swap_eq (a := (p, q))]; rfl
      have g2 : ((q, p) = e.swap) ↔ ((p, q) = e) := by rw [← swap_inj (a := (p, q))]; rfl
      simp only [g1, g2]
      omega
theorem ears_ok : ∀ (f : Nat) (r : List P2) (t : List T6), EarOk r → r.length ≤ f → (∀ x ∈ t, 0 < TT x.1 x.2.1 x.2.2) → (∀ k, valE (trisE (earsF f r t)) k = valE (trisE t) k + valE (EE r) k) ∧ ∀ x ∈ earsF f r t, 0 < TT x.1 x.2.1 x.2.2
  | 0, r, t, h, hf, _ => by have := h.si.three; omega
  | f + 1, r, t, h, hf, ht => by
    simp only [earsF]
    have h3 := h.si.three
    split
    · rename_i h4
      obtain ⟨a1, a2, _⟩ := earI_spec h
      have hE := (isEar_iff r (earI r r.length)).1 a2
      have ih := ears_ok f (r.eraseIdx (earI r r.length)) (t ++ [trAt r r.length (earI r r.length)]) (ear_erase h h4 a1 a2) (by rw [List.length_eraseIdx, if_pos a1]; omega) (fun x hx => by
        rcases List.mem_append.1 hx with hx | hx
        · exact ht x hx
        · rw [List.mem_singleton] at hx; subst hx; exact hE.1)
      refine ⟨fun k => ?_, ih.2⟩
      rw [ih.1, trisE_snoc, valE_app, ear_val h h4 a1 k]; omega
    · have hl : r.length = 3 := by omega
      obtain ⟨a, b, c, rfl⟩ := three_of hl
      have e : ((pAt [a, b, c] 0, pAt [a, b, c] 1, pAt [a, b, c] 2) : T6) = (a, b, c) := rfl
      rw [e]
      refine ⟨fun k => by rw [trisE_snoc, valE_app]; rfl, fun x hx => ?_⟩
      rcases List.mem_append.1 hx with hx | hx
      · exact ht x hx
      · rw [List.mem_singleton] at hx; subst hx; have := h.ar; rw [A2_tri] at this; exact this
/-- the triangles of Triangles are such -/
theorem cover_tris {l : List P2} (h : polyI l = 0) : Cover l (trisL l) := by
  obtain ⟨h1, h2⟩ := ears_ok (normL l).length (normL l) [] (earOk_norm h) (Nat.le_refl _) (by simp)
  refine ⟨h, h2, (bal_iff _).2 fun k => ?_⟩
  unfold chE
  rw [valE_app, valE_swap]
  have := h1 k
  rw [show trisE ([] : List T6) = [] from rfl, valE_nil] at this
  unfold trisL
  omega

end Geo
end Go.Proofs.YtpdfbboagaflhaaGreat

set_option linter.unusedSimpArgs false
set_option linter.unusedVariables false
set_option maxRecDepth 100000
namespace Go.Proofs.YtpdfbboagaflhaaGreat
open Go.RowKit Go.Maps

abbrev W2 := P2 × P2
def sdV (e : W2) : Value := .agg #[.int .i64 e.1.1, .int .i64 e.1.2, .int .i64 e.2.1, .int .i64 e.2.2]
def sdLit (e : W2) : Lit := .string (keyBytes [.int .i64 e.1.1, .int .i64 e.1.2, .int .i64 e.2.1, .int .i64 e.2.2])
theorem key124 : Tryz.prog.keyType 124 = true := by kernel_rfl
theorem keyed124 : Keyed Tryz.prog 124 := Keyed.of_law (deep_law_gate laidOut (of_decide_eq_true (by kernel_rfl)) (k := 124) (of_decide_eq_true (by kernel_rfl)) (by kernel_rfl) (by kernel_rfl))
theorem key129 : Tryz.prog.keyType 129 = true := by kernel_rfl
theorem keyed129 : Keyed Tryz.prog 129 := Keyed.of_law (deep_law_gate laidOut (of_decide_eq_true (by kernel_rfl)) (k := 129) (of_decide_eq_true (by kernel_rfl)) (by kernel_rfl) (by kernel_rfl))
theorem types_succ3 : ∃ m, Tryz.prog.types.size = m + 3 := ⟨236, by kernel_rfl⟩
def okE (e : W2) : Prop := okP e.1.1 e.1.2 = true ∧ okP e.2.1 e.2.2 = true
theorem okE_wf {e : W2} (h : okE e) : ((Lit.int .i64 e.1.1).wf = true ∧ (Lit.int .i64 e.1.2).wf = true) ∧ ((Lit.int .i64 e.2.1).wf = true ∧ (Lit.int .i64 e.2.2).wf = true) := by
  have h1 := okP_iff.1 h.1
  have h2 := okP_iff.1 h.2
  exact ⟨⟨WalkArith.wf_i64 (by omega), WalkArith.wf_i64 (by omega)⟩, WalkArith.wf_i64 (by omega), WalkArith.wf_i64 (by omega)⟩
theorem keyOf_124 {e : W2} (h : okE e) : keyOf Tryz.prog 124 (sdV e) = some (sdLit e) := by
  obtain ⟨⟨w1, w2⟩, w3, w4⟩ := okE_wf h
  obtain ⟨m, hm⟩ := types_succ3
  have c124 : Tryz.prog.cellsOf 124 = 4 := by kernel_rfl
  have c23 : Tryz.prog.cellsOf 23 = 2 := by kernel_rfl
  have c3 : Tryz.prog.cellsOf 3 = 1 := by kernel_rfl
  show keyOf Tryz.prog 124 (.agg #[.int .i64 e.1.1, .int .i64 e.1.2, .int .i64 e.2.1, .int .i64 e.2.2]) = _
  unfold keyOf
  simp only [Tryz.underlying124]
  rw [if_pos (by simp [key124, Value.formed, Tryz.underlying124, c124]), hm]
  simp [Program.keyLits, (by decide : List.range 2 = [0, 1]), Tryz.underlying124, Tryz.underlying23, Tryz.underlying3, Value.cells, c124, c23, c3, w1, w2, w3, w4, sdLit]
theorem keyOf_129 {e : W2} (h : okE e) : keyOf Tryz.prog 129 (sdV e) = some (sdLit e) := by
  obtain ⟨⟨w1, w2⟩, w3, w4⟩ := okE_wf h
  obtain ⟨m, hm⟩ := types_succ3
  have c129 : Tryz.prog.cellsOf 129 = 4 := by kernel_rfl
  have c23 : Tryz.prog.cellsOf 23 = 2 := by kernel_rfl
  have c3 : Tryz.prog.cellsOf 3 = 1 := by kernel_rfl
  show keyOf Tryz.prog 129 (.agg #[.int .i64 e.1.1, .int .i64 e.1.2, .int .i64 e.2.1, .int .i64 e.2.2]) = _
  unfold keyOf
  simp only [Tryz.underlying129]
  rw [if_pos (by simp [key129, Value.formed, Tryz.underlying129, c129]), hm]
  simp [Program.keyLits, Tryz.underlying129, Tryz.underlying23, Tryz.underlying3, Value.cells, c129, c23, c3, w1, w2, w3, w4, sdLit]
  split
  · simp
  · rename_i hh
    exfalso; apply hh; intro i hi
    match i, hi with
    | 0, _ => simp
    | 1, _ => simp
theorem sdLit_inj {e f : W2} (h1 : okE e) (h2 : okE f) (h : sdLit e = sdLit f) : e = f := by
  obtain ⟨⟨w1, w2⟩, w3, w4⟩ := okE_wf h1
  obtain ⟨⟨v1, v2⟩, v3, v4⟩ := okE_wf h2
  have h' : keyBytes [.int .i64 e.1.1, .int .i64 e.1.2, .int .i64 e.2.1, .int .i64 e.2.2] = keyBytes [.int .i64 f.1.1, .int .i64 f.1.2, .int .i64 f.2.1, .int .i64 f.2.2] := by simpa [sdLit] using h
  have := keyBytes_inj (l := [.int .i64 e.1.1, .int .i64 e.1.2, .int .i64 e.2.1, .int .i64 e.2.2]) (l' := [.int .i64 f.1.1, .int .i64 f.1.2, .int .i64 f.2.1, .int .i64 f.2.2]) (by simp [Go.Alike, Lit.sameKind]) (by simp [Lit.keyWf, w1, w2, w3, w4]) (by simp [Lit.keyWf, v1, v2, v3, v4]) h'
  simp only [List.cons.injEq, Lit.int.injEq, true_and, and_true] at this
  obtain ⟨a, b, c, d⟩ := this
  exact Prod.ext (Prod.ext a b) (Prod.ext c d)
theorem sd_key {e : W2} (h : okE e) : WideAt.IsKeyLit (sdLit e) := keyed124.key (keyOf_124 h)
def i64d (n : Int) : DataW Unit := .lit (.int .i64 n)
theorem okE_swap {e : W2} (h : okE e) : okE e.swap := ⟨h.2, h.1⟩
theorem lessP_swap {e : W2} (h : lessP e.1 e.2 = true) : lessP e.swap.1 e.swap.2 = false := by
  simp only [lessP, Prod.fst_swap, Prod.snd_swap, decide_eq_true_eq, decide_eq_false_iff_not] at *; omega
theorem lessP_other {e : W2} (h : lessP e.1 e.2 = false) (hn : e.1 ≠ e.2) : lessP e.swap.1 e.swap.2 = true := by
  have : ¬ (e.1.1 = e.2.1 ∧ e.1.2 = e.2.2) := fun g => hn (Prod.ext g.1 g.2)
  simp only [lessP, Prod.fst_swap, Prod.snd_swap, decide_eq_true_eq, decide_eq_false_iff_not] at *; omega
/-- the program's map: under the way that goes up -/
def Sur (D : DataW Unit) (E : List W2) : Prop :=
  (∀ e, okE e → lessP e.1 e.2 = true → D.atKey (sdLit e) (i64d 0) = i64d (Geo.valE E e)) ∧ ∀ kl, Maps.has D kl = true → ∃ e, okE e ∧ lessP e.1 e.2 = true ∧ kl = sdLit e
theorem sur_nil : Sur (.map []) [] := ⟨fun e _ _ => by rw [atKey_of_not_has (by rfl)]; rfl, fun kl h => by simp [Maps.has] at h⟩
theorem valE_snoc (E : List W2) (x k : W2) : Geo.valE (E ++ [x]) k = Geo.valE E k + (if x = k then 1 else 0) - (if x = k.swap then 1 else 0) := by
  rw [Geo.valE_app, Geo.valE_cons, Geo.valE_nil]; omega
theorem sur_step {D : DataW Unit} {E : List W2} (h : Sur D E) (hD : IsMap D) {k x : W2} (hk : okE k) (hl : lessP k.1 k.2 = true) (hx : x = k ∨ x = k.swap) : Sur (D.put (sdLit k) (i64d (Geo.valE (E ++ [x]) k))) (E ++ [x]) := by
  refine ⟨fun e he hle => ?_, fun kl hkl => ?_⟩
  · by_cases hek : e = k
    · subst hek; exact atKey_put_same hD (sd_key he) _ _
    · have hne : sdLit e ≠ sdLit k := fun g => hek (sdLit_inj he hk g)
      rw [atKey_put_other hne, h.1 e he hle, valE_snoc]
      have n1 : ¬ x = e := by
        rcases hx with rfl | rfl
        · exact fun g => hek g.symm
        · rintro rfl; have := lessP_swap hl; rw [hle] at this; cases this
      have n2 : ¬ x = e.swap := by
        rcases hx with rfl | rfl
        · rintro rfl; have := lessP_swap hle; rw [hl] at this; cases this
        · intro g; exact hek (Geo.swap_inj.1 g).symm
      rw [if_neg n1, if_neg n2]; simp
  · by_cases hek : kl = sdLit k
    · exact ⟨k, hk, hl, hek⟩
    · rw [has_put_other hek] at hkl; exact h.2 kl hkl
theorem valE_anti (E : List W2) (e : W2) : Geo.valE E e.swap = - Geo.valE E e := by unfold Geo.valE; rw [Prod.swap_swap]; omega
theorem valE_bd (E : List W2) (e : W2) : -(E.length : Int) ≤ Geo.valE E e ∧ Geo.valE E e ≤ E.length := by
  unfold Geo.valE
  have h1 := List.count_le_length (l := E) (a := e)
  have h2 := List.count_le_length (l := E) (a := e.swap)
  omega
/-- all are nought just where the ways balance -/
theorem sur_bal {D : DataW Unit} {E : List W2} (h : Sur D E) (hE : ∀ e ∈ E, okE e) : Geo.Bal E ↔ ∀ kl, Maps.has D kl = true → D.atKey kl (i64d 0) = i64d 0 := by
  rw [Geo.bal_iff]
  constructor
  · intro hb kl hkl
    obtain ⟨e, he, hl, rfl⟩ := h.2 kl hkl
    rw [h.1 e he hl, hb]
  · intro hz k
    have key : ∀ e, okE e → lessP e.1 e.2 = true → Geo.valE E e = 0 := fun e he hl => by
      have h1 := h.1 e he hl
      cases hh : Maps.has D (sdLit e) with
      | true => rw [hz _ hh] at h1; simpa [i64d] using h1.symm
      | false => rw [atKey_of_not_has hh] at h1; simpa [i64d] using h1.symm
    by_cases hk : okE k
    · cases hl : lessP k.1 k.2 with
      | true => exact key k hk hl
      | false =>
        by_cases hn : k.1 = k.2
        · have : k.swap = k := Prod.ext hn.symm hn
          have h2 := valE_anti E k
          rw [this] at h2; omega
        · have h2 := key k.swap (okE_swap hk) (lessP_other hl hn)
          rw [valE_anti] at h2; omega
    · unfold Geo.valE
      have n1 : E.count k = 0 := List.count_eq_zero.2 fun g => hk (hE _ g)
      have n2 : E.count k.swap = 0 := List.count_eq_zero.2 fun g => hk (by have := okE_swap (hE _ g); rwa [Prod.swap_swap] at this)
      rw [n1, n2]; rfl
/-- the reference's map: under both ways -/
def SurR (D : DataW Unit) (E : List W2) : Prop :=
  (∀ e, okE e → D.atKey (sdLit e) (i64d 0) = i64d (Geo.valE E e)) ∧ ∀ kl, Maps.has D kl = true → ∃ e, okE e ∧ kl = sdLit e
theorem surR_nil : SurR (.map []) [] := ⟨fun e _ => by rw [atKey_of_not_has (by rfl)]; rfl, fun kl h => by simp [Maps.has] at h⟩
theorem surR_step {D : DataW Unit} {E : List W2} (h : SurR D E) (hD : IsMap D) {x : W2} (hx : okE x) (hn : x.1 ≠ x.2) {c1 c2 : Int} (h1 : c1 = Geo.valE E x + 1) (h2 : c2 = Geo.valE E x.swap - 1) :
    (D.put (sdLit x) (i64d c1)).atKey (sdLit x.swap) (i64d 0) = i64d (Geo.valE E x.swap) ∧ SurR ((D.put (sdLit x) (i64d c1)).put (sdLit x.swap) (i64d c2)) (E ++ [x]) := by
  have hxs : x.swap ≠ x := fun g => hn (congrArg Prod.snd g)
  have hls : sdLit x.swap ≠ sdLit x := fun g => hxs (sdLit_inj (okE_swap hx) hx g)
  refine ⟨by rw [atKey_put_other hls, h.1 _ (okE_swap hx)], fun e he => ?_, fun kl hkl => ?_⟩
  · by_cases e1 : e = x.swap
    · subst e1
      rw [atKey_put_same (hD.put _ _) (sd_key (okE_swap hx)), h2, valE_snoc, if_neg (fun g => hxs g.symm), if_pos (by rw [Prod.swap_swap])]
      congr 1; omega
    · rw [atKey_put_other (fun g => e1 (sdLit_inj he (okE_swap hx) g))]
      by_cases e2 : e = x
      · subst e2
        rw [atKey_put_same hD (sd_key hx), h1, valE_snoc, if_pos rfl, if_neg (fun g => hxs g.symm)]
        congr 1; omega
      · rw [atKey_put_other (fun g => e2 (sdLit_inj he hx g)), h.1 e he, valE_snoc, if_neg (fun g => e2 g.symm), if_neg (fun g => e1 (by rw [g, Prod.swap_swap]))]
        congr 1; omega
  · by_cases e1 : kl = sdLit x.swap
    · exact ⟨_, okE_swap hx, e1⟩
    · rw [has_put_other e1] at hkl
      by_cases e2 : kl = sdLit x
      · exact ⟨_, hx, e2⟩
      · rw [has_put_other e2] at hkl; exact h.2 kl hkl
theorem surR_bal {D : DataW Unit} {E : List W2} (h : SurR D E) (hE : ∀ e ∈ E, okE e) : Geo.Bal E ↔ ∀ kl, Maps.has D kl = true → D.atKey kl (i64d 0) = i64d 0 := by
  rw [Geo.bal_iff]
  constructor
  · intro hb kl hkl
    obtain ⟨e, he, rfl⟩ := h.2 kl hkl
    rw [h.1 e he, hb]
  · intro hz k
    by_cases hk : okE k
    · have h1 := h.1 k hk
      cases hh : Maps.has D (sdLit k) with
      | true => rw [hz _ hh] at h1; simpa [i64d] using h1.symm
      | false => rw [atKey_of_not_has hh] at h1; simpa [i64d] using h1.symm
    · unfold Geo.valE
      have n1 : E.count k = 0 := List.count_eq_zero.2 fun g => hk (hE _ g)
      have n2 : E.count k.swap = 0 := List.count_eq_zero.2 fun g => hk (by have := okE_swap (hE _ g); rwa [Prod.swap_swap] at this)
      rw [n1, n2]; rfl
end Go.Proofs.YtpdfbboagaflhaaGreat

set_option linter.unusedSimpArgs false
set_option linter.unusedVariables false
namespace Go.Proofs.YtpdfbboagaflhaaGreat
open Go.Maps Go.ChangeShapes Go.WideShapes Go.MapKept Go.ChangeMaps Go.WideElems
open Go.WideMaps (KeyLaw)

section
variable {H : Type} {P : Program} {w : World} {t k e : TypeId} {b n : Nat} {D : DataW H}
theorem setBlock_twice (w : World) (b : Nat) (x y : Obj) : setBlock (setBlock w b x) b y = setBlock w b y := by
  unfold setBlock; simp
theorem entry_cases (K : KeyLaw P k) (ht : P.underlying t = some (.map k e)) {R : Value → Option (DataW H × List MemPlace)} {es : Array MapEntry} {clock : Nat} {z : Value} (hz : ∀ u : World, (zeroValue e).run P u = .ok z u) (hb : w.heap[b]? = some (.map es clock)) (F : Fit P k R es clock)
    {key : Value} {kl : Lit} (hkey : keyOf P k key = some kl) :
    ∃ (v0 : Value) (st : Nat) (es1 : Array MapEntry) (clock1 : Nat), (Instr.mapEntry t (.map (some b)) key).run P w = .ok (.tuple #[v0, goInt st]) (setBlock w b (.map es1 clock1)) ∧
      (Instr.mapUpdate t (.map (some b)) key v0).run P w = .ok () (setBlock w b (.map es1 clock1)) ∧ (Instr.lookup t (.map (some b)) key false).run P w = .ok v0 w ∧
      ∀ (val : Value), ∃ es' clock', (Instr.entryStore t (.map (some b)) (goInt st) val).run P (setBlock w b (.map es1 clock1)) = .ok () (setBlock w b (.map es' clock')) ∧
        (Instr.mapUpdate t (.map (some b)) key val).run P w = .ok () (setBlock w b (.map es' clock')) := by
  obtain ⟨v0, st, es1, clock1, h1, _, h3⟩ := entry_then_store K ht hz hb F hkey
  have hlt : b < w.heap.size := (Array.getElem?_eq_some_iff.1 hb).1
  have hW2 : (setBlock w b (.map es1 clock1)).heap[b]? = some (.map es1 clock1) := heap_setBlock_same hb _
  have tail : ∀ (val : Value), ∃ es' clock', (Instr.entryStore t (.map (some b)) (goInt st) val).run P (setBlock w b (.map es1 clock1)) = .ok () (setBlock w b (.map es' clock')) ∧
        (Instr.mapUpdate t (.map (some b)) key val).run P w = .ok () (setBlock w b (.map es' clock')) := fun val => by
    obtain ⟨es', clock', h4, h5⟩ := h3 _ val hW2
    rw [setBlock_twice] at h4
    exact ⟨es', clock', h4, h5⟩
  rcases K.find w hkey es.toList F.keys with ⟨g1, g2⟩ | ⟨j, e0, g1, g2, g3⟩
  · have e1 : (Instr.mapEntry t (.map (some b)) key).run P w = .ok (.tuple #[z, goInt clock]) (setBlock w b (.map (es.push ⟨key, z, clock⟩) (clock + 1))) := by
      simp [Instr.mapEntry, run_underlying ht, MapKept.run_getObj_map hb, K.check w false hkey, g1, hz, MapKept.run_setObj_map _ hb, Result.andThen, setBlock]
    have e0 := h1
    rw [e1] at e0
    injection e0 with e2 e3
    simp only [Value.tuple.injEq, Array.mk.injEq, List.cons.injEq, and_true] at e2
    obtain ⟨rfl, _⟩ := e2
    refine ⟨z, st, es1, clock1, h1, ?_, ?_, tail⟩
    · rw [← e3]
      simp [Instr.mapUpdate, run_underlying ht, MapKept.run_getObj_map hb, K.check w false hkey, g1, MapKept.run_setObj_map _ hb, Result.andThen, setBlock]
    · simp [Instr.lookup, run_underlying ht, MapKept.run_getObj_map hb, K.check w es.isEmpty hkey, g1, hz, Result.andThen]
  · have hj : es[j]? = some e0 := by simpa using g2
    have hsame : es.modify j (fun e => { e with key := key }) = es := by
      apply Array.ext'
      rw [Array.toList_modify, modify_eq_set _ _ _ _ g2]
      have : ({ e0 with key := key } : MapEntry) = e0 := by rw [← g3]
      rw [this]
      exact set_self _ _ _ g2
    have hsame2 : es.modify j (fun e => { e with key := key, val := e0.val }) = es := by
      apply Array.ext'
      rw [Array.toList_modify, modify_eq_set _ _ _ _ g2]
      have : ({ e0 with key := key, val := e0.val } : MapEntry) = e0 := by rw [← g3]
      rw [this]
      exact set_self _ _ _ g2
    have e1 : (Instr.mapEntry t (.map (some b)) key).run P w = .ok (.tuple #[e0.val, goInt e0.born]) (setBlock w b (.map es clock)) := by
      simp [Instr.mapEntry, run_underlying ht, MapKept.run_getObj_map hb, K.check w false hkey, g1, hj, g3, K.stays w hkey, hsame, MapKept.run_setObj_map _ hb, Result.andThen, setBlock]
    have e4 := h1
    rw [e1] at e4
    injection e4 with e2 e3
    simp only [Value.tuple.injEq, Array.mk.injEq, List.cons.injEq, and_true] at e2
    obtain ⟨rfl, _⟩ := e2
    refine ⟨e0.val, st, es1, clock1, h1, ?_, ?_, tail⟩
    · rw [← e3]
      simp [Instr.mapUpdate, run_underlying ht, MapKept.run_getObj_map hb, K.check w false hkey, g1, hj, g3, K.stays w hkey, hsame2, MapKept.run_setObj_map _ hb, Result.andThen, setBlock]
    · simp [Instr.lookup, run_underlying ht, MapKept.run_getObj_map hb, K.check w es.isEmpty hkey, g1, Result.andThen]
/-- 'm[k] += n', its parts: what is read, what the entry's laying leaves, what is read behind it, what the store leaves -/
theorem entry_run {q : IntKind} (h : w.ownsMap P k (plainElem (H := H) P e) b n D) (K : KeyLaw P k) (ht : P.underlying t = some (.map k e)) (he : P.underlying e = some (.int q)) (hz : ∀ u : World, (zeroValue e).run P u = .ok (.int q 0) u) (hn : n < maxLen)
    {key : Value} {kl : Lit} (hkey : keyOf P k key = some kl) :
    ∃ (c st : Int) (V : World), D.atKey kl (.lit (.int q 0)) = .lit (.int q c) ∧ (Lit.int q c).wf = true ∧ (Instr.lookup t (.map (some b)) key false).run P w = .ok (.int q c) w ∧
      (Instr.mapEntry t (.map (some b)) key).run P w = .ok (.tuple #[.int q c, .int .i64 st]) V ∧ (Instr.lookup t (.map (some b)) key false).run P V = .ok (.int q c) V ∧ w.grownBy V (some b) ∧ V.heap.size = w.heap.size ∧
      ∀ val, (Lit.int q val).wf = true → ∃ X, (Instr.entryStore t (.map (some b)) (.int .i64 st) (.int q val)).run P V = .ok () X ∧ X.ownsMap P k (plainElem (H := H) P e) b (n + 1) (D.put kl (.lit (.int q val))) ∧ w.grownBy X (some b) ∧ X.heap.size = w.heap.size := by
  have KK := Keyed.of_law K
  obtain ⟨c, hl, hat, hwc⟩ := h.lookup_int KK ht he (hz w) hkey
  have h0 := h
  obtain ⟨es, clock, hb, F, hs, hD⟩ := h
  obtain ⟨v0, st, es1, clock1, h1, h2, h3, h4⟩ := entry_cases K ht hz hb F hkey
  rw [hl] at h3
  injection h3 with h5 _
  subst h5
  obtain ⟨V, g1, g2, g3⟩ := h0.update KK ht hn hkey (plainElem_int he hwc)
  rw [h2] at g1
  injection g1 with _ g4
  obtain ⟨c', hl', hat', _⟩ := g2.lookup_int KK ht he (hz V) hkey
  rw [atKey_put_same (h0.tidy KK).isMap (KK.key hkey)] at hat'
  have hcc : c = c' := by simpa using hat'
  subst hcc
  refine ⟨c, st, V, hat, hwc, hl, ?_, hl', g3, ?_, fun val hv => ?_⟩
  · rw [h1, g4]; rfl
  · rw [← g4]; simp [setBlock]
  · obtain ⟨es', clock', h6, h7⟩ := h4 (.int q val)
    obtain ⟨X, x1, x2, x3⟩ := h0.update KK ht hn hkey (plainElem_int he hv)
    rw [h7] at x1
    injection x1 with _ x4
    refine ⟨X, ?_, x2, x3, ?_⟩
    · rw [← g4, ← x4]; exact h6
    · rw [← x4]; simp [setBlock]
end
end Go.Proofs.YtpdfbboagaflhaaGreat

set_option linter.unusedSimpArgs false
set_option linter.unusedVariables false
set_option maxRecDepth 100000
namespace Go.Proofs.YtpdfbboagaflhaaGreat
open Go.RowKit Go.Maps

theorem new_gb {w w' : World} (h : New w w') : w.grownBy w' none := ⟨h.below.os, h.below.tape, h.below.output, h.below.size, fun i hi _ => h.below.block i hi⟩
theorem mapOwn_cell {P : Program} {k : TypeId} {R : Value → Option (DataW Unit × List MemPlace)} {w : World} {b n : Nat} {D : DataW Unit} (h : w.ownsMap P k R b n D) (o : Nat) : w.cell? ⟨b, o, none⟩ = none := by
  obtain ⟨es, clock, hb, _⟩ := h
  simp [World.cell?, hb]
theorem law124 : WideMaps.KeyLaw Tryz.prog 124 := deep_law_gate laidOut (of_decide_eq_true (by kernel_rfl)) (k := 124) (of_decide_eq_true (by kernel_rfl)) (by kernel_rfl) (by kernel_rfl)
theorem law129 : WideMaps.KeyLaw Tryz.prog 129 := deep_law_gate laidOut (of_decide_eq_true (by kernel_rfl)) (k := 129) (of_decide_eq_true (by kernel_rfl)) (by kernel_rfl) (by kernel_rfl)
theorem zero3 (w : World) : (zeroValue 3).run Tryz.prog w = .ok (.int .i64 0) w := by kernel_rfl
def sgE (nn : Int) (e : W2) : W2 := if nn = 1 then e else e.swap
def sgTo (nn : Int) (l : List P2) (k : Nat) : List W2 := (List.range k).map fun i => sgE nn (ptAt l i, ptAt l ((i + 1) % l.length))
theorem sgTo_succ (nn : Int) (l : List P2) (k : Nat) : sgTo nn l (k + 1) = sgTo nn l k ++ [sgE nn (ptAt l k, ptAt l ((k + 1) % l.length))] := by simp [sgTo, List.range_succ]
theorem sgTo_len (nn : Int) (l : List P2) (k : Nat) : (sgTo nn l k).length = k := by simp [sgTo]
theorem sgTo_one (l : List P2) : sgTo 1 l l.length = Geo.EE l := by rw [Geo.EE_idx]; simp [sgTo, sgE]
theorem sgTo_neg (l : List P2) : sgTo (-1) l l.length = (Geo.EE l).map Prod.swap := by rw [Geo.EE_idx]; simp [sgTo, sgE]
abbrev OM (w : World) (B m : Nat) (D : DataW Unit) : Prop := w.ownsMap Tryz.prog 124 (plainElem (H := Unit) Tryz.prog 3) B m D
theorem cmp_less (a b : P2) : (orI (cmpI a.1 b.1) (cmpI a.2 b.2) < 0) ↔ lessP a b = true := by rw [orI_lt]; simp [lessP]
/-- one way more -/
theorem sur_add {D : DataW Unit} {E : List W2} (h : Sur D E) (hD : IsMap D) {e : W2} {nn : Int} (hnn : nn = 1 ∨ nn = -1) (he : okE e) {c : Int} :
    (lessP e.1 e.2 = true → D.atKey (sdLit e) (.lit (.int .i64 0)) = .lit (.int .i64 c) → (c = Geo.valE E e ∧ Sur (D.put (sdLit e) (.lit (.int .i64 (c + nn)))) (E ++ [sgE nn e]))) ∧
    (lessP e.1 e.2 = false → e.1 ≠ e.2 → D.atKey (sdLit e.swap) (.lit (.int .i64 0)) = .lit (.int .i64 c) → (c = Geo.valE E e.swap ∧ Sur (D.put (sdLit e.swap) (.lit (.int .i64 (c - nn)))) (E ++ [sgE nn e]))) := by
  constructor
  · intro hl ha
    have h1 := h.1 e he hl
    have hc : c = Geo.valE E e := by rw [show i64d 0 = .lit (.int .i64 0) from rfl, ha] at h1; simpa [i64d] using h1
    refine ⟨hc, ?_⟩
    have hs : e.swap ≠ e := by
      intro g; have := lessP_swap hl; rw [g, hl] at this; cases this
    have := sur_step h hD he hl (x := sgE nn e) (by unfold sgE; split <;> simp)
    have hv : c + nn = Geo.valE (E ++ [sgE nn e]) e := by
      rw [valE_snoc, hc]
      rcases hnn with rfl | rfl
      · rw [show sgE 1 e = e from rfl, if_pos rfl, if_neg (fun g => hs g.symm)]; omega
      · rw [show sgE (-1) e = e.swap from rfl, if_neg hs, if_pos rfl]; omega
    rw [hv]; exact this
  · intro hl hn ha
    have hl2 := lessP_other hl hn
    have h1 := h.1 e.swap (okE_swap he) hl2
    have hc : c = Geo.valE E e.swap := by rw [show i64d 0 = .lit (.int .i64 0) from rfl, ha] at h1; simpa [i64d] using h1
    refine ⟨hc, ?_⟩
    have hs : e.swap ≠ e := by
      intro g; rw [g, hl] at hl2; cases hl2
    have := sur_step h hD (okE_swap he) hl2 (x := sgE nn e) (by unfold sgE; split <;> simp)
    have hv : c - nn = Geo.valE (E ++ [sgE nn e]) e.swap := by
      rw [valE_snoc, hc, Prod.swap_swap]
      rcases hnn with rfl | rfl
      · rw [show sgE 1 e = e from rfl, if_neg (fun g => hs g.symm), if_pos rfl]; omega
      · rw [show sgE (-1) e = e.swap from rfl, if_pos rfl, if_neg hs]; omega
    rw [hv]; exact this

set_option maxHeartbeats 8000000 in
theorem count_c (B m : Nat) (b off n cp : Nat) (l : List P2) (nn : Int) (E : List W2) (D : DataW Unit) (w : World) (hnn : nn = 1 ∨ nn = -1) (h0 : 0 < n) (hl : n ≤ 1000) (hw : Pts w b off n l) (hok : okL l = true) (hne : ∀ k, k < n → ptAt l k ≠ ptAt l ((k + 1) % n))
    (hm : m ≤ 100000) (hE : E.length ≤ 100000) (hown : OM w B m D) (hs : Sur D E) :
    Calls Tryz.prog 133 #[.map (some B), .slice (some ⟨b, off, none⟩) n cp, .int .i64 nn] w fun en w' => en = .returned (.tuple #[]) ∧ ∃ D', OM w' B (m + n) D' ∧ Sur D' (E ++ sgTo nn l n) ∧ w.grownBy w' (some B) := by
  have HED := Lib.hid (edges_s b off n cp l w h0 (by omega) hw)
  have HLN := Lib.hid hw.1
  have HB := Lib.hid (okL_bd hok)
  have HNE := Lib.hid hne
  have HOWN := Lib.hid hown
  have HS0 := Lib.hid hs
  have HNN := Lib.hid hnn
  have HEL := Lib.hid hE
  have n1 : -1 ≤ nn := by omega
  have n2 : nn ≤ 1 := by omega
  clear hw hok hne hown hs hnn hE
  go_enter Tryz.func133, Tryz.ntmps133
  go_wp2_with (go_at_call 109; refine HED.out.mono ?_; rintro en w2 ⟨g, cap, rfl, hsg, hn2⟩; have HSG := Lib.hid hsg; have HN2 := Lib.hid hn2; clear hsg hn2)
  have HO2 := Lib.hid (HOWN.out.kept (new_gb HN2.out) (by simp))
  go_loopw [11] (fun i wr => ∃ (k : Nat) (D' : DataW Unit), k ≤ n ∧ i = .int .i64 k ∧ OM wr B (m + k) D' ∧ Sur D' (E ++ sgTo nn l k) ∧ w2.grownBy wr (some B)) (fun i _ => n - (intOf i).toNat)
  case atStart => exact ⟨0, D, Nat.zero_le _, rfl, HO2.out, by simpa [sgTo] using HS0.out, World.grownBy.refl _ _⟩
  case round =>
    rename_i wr
    obtain ⟨k, D', hk, rfl, ho, hsur, hg⟩ := hrel
    have HO := Lib.hid ho
    have HSU := Lib.hid hsur
    have HG := Lib.hid hg
    clear ho hsur hg
    by_cases hlt : k < n
    · obtain ⟨e1, e2, e3, e4⟩ := edgesL_at l k (by rw [HLN.out]; exact hlt)
      obtain ⟨c1, c2, c3, c4⟩ := HSG.out.2.2 k hlt
      rw [e1] at c1; rw [e2] at c2; rw [e3] at c3; rw [e4] at c4
      have hgb : g ≠ B := by rintro rfl; rw [mapOwn_cell HO2.out] at c1; cases c1
      have hgl := HSG.out.2.1
      have L := fun o => HG.out.cell_far ⟨g, o, none⟩ hgl (by simpa using hgb)
      replace c1 := (L _).trans c1
      replace c2 := (L _).trans c2
      replace c3 := (L _).trans c3
      replace c4 := (L _).trans c4
      simp only [Nat.zero_add] at c1 c2 c3 c4
      have hgr : g < wr.heap.size := Nat.lt_of_lt_of_le hgl HG.out.size
      have hBr : B < wr.heap.size := HO.out.lt
      have hkl : k < l.length := by rw [HLN.out]; exact hlt
      have bd1 := HB.out k
      have bd2 := HB.out ((k + 1) % l.length)
      have hne1 := HNE.out k hlt
      rw [← HLN.out] at hne1
      have HSTEP := Lib.hid (sgTo_succ nn l k)
      have HE := Lib.hid (show okE ((px l k, py l k), (px l ((k + 1) % l.length), py l ((k + 1) % l.length))) from ⟨okP_iff.2 bd1, okP_iff.2 bd2⟩)
      have HNE1 := Lib.hid (show ((px l k, py l k) : P2) ≠ (px l ((k + 1) % l.length), py l ((k + 1) % l.length)) from hne1)
      have HSTEP' := Lib.hid (show sgTo nn l (k + 1) = sgTo nn l k ++ [sgE nn ((px l k, py l k), (px l ((k + 1) % l.length), py l ((k + 1) % l.length)))] from HSTEP.out)
      have HLE := Lib.hid (show (E ++ sgTo nn l k).length ≤ 101000 by rw [List.length_append, sgTo_len]; have := HEL.out; omega)
      clear L e1 e2 e3 e4 hne1 bd1 bd2 HSTEP hkl
      generalize px l k = X1 at *
      generalize py l k = X2 at *
      generalize px l ((k + 1) % l.length) = X3 at *
      generalize py l ((k + 1) % l.length) = X4 at *
      have HC := Lib.hid (fun w1 => comparePoints_c X1 X2 X3 X4 w1)
      have HCL := Lib.hid (cmp_less (X1, X2) (X3, X4))
      have hkn2 : (k : Int) < (n : Int) := by omega
      cases hlp : lessP (X1, X2) (X3, X4)
      · have hlt2 : ¬ (orI (cmpI X1 X3) (cmpI X2 X4) < 0) := fun g => by have := HCL.out.1 g; rw [hlp] at this; cases this
        have HLP := Lib.hid hlp
        clear hlp
        generalize orI (cmpI X1 X3) (cmpI X2 X4) = OR at *
        go_upto_region 5 with (go_at_call 125; go_must (refine (HC.out _).mono ?_; rintro en w3 ⟨rfl, hn3⟩; have d0 : w3.cell? ⟨wr.heap.size, 0, none⟩ = some (.int .i64 X1) := (hn3.below.cell (p := ⟨wr.heap.size, 0, none⟩) (by first | assumption | (simp; done) | (simp; omega))).trans (by first | assumption | (simp [go_sem]; done) | (simp [go_sem, *])); have d1 : w3.cell? ⟨wr.heap.size, 1, none⟩ = some (.int .i64 X2) := (hn3.below.cell (p := ⟨wr.heap.size, 1, none⟩) (by first | assumption | (simp; done) | (simp; omega))).trans (by first | assumption | (simp [go_sem]; done) | (simp [go_sem, *])); have d2 : w3.cell? ⟨wr.heap.size, 2, none⟩ = some (.int .i64 X3) := (hn3.below.cell (p := ⟨wr.heap.size, 2, none⟩) (by first | assumption | (simp; done) | (simp; omega))).trans (by first | assumption | (simp [go_sem]; done) | (simp [go_sem, *])); have d3 : w3.cell? ⟨wr.heap.size, 3, none⟩ = some (.int .i64 X4) := (hn3.below.cell (p := ⟨wr.heap.size, 3, none⟩) (by first | assumption | (simp; done) | (simp; omega))).trans (by first | assumption | (simp [go_sem]; done) | (simp [go_sem, *])); have HN3 := Lib.hid (show New wr w3 from ((New.refl wr).alloc _).trans hn3); clear hn3))
        have HO3 := Lib.hid (HO.out.kept (new_gb HN3.out) (by simp)).drew
        obtain ⟨c, st, V, hat, hwc, r1, r2, r3, g1, g2, hfin⟩ := entry_run (w := w3.drew) HO3.out law124 Tryz.underlying121 Tryz.underlying3 zero3 (by unfold maxLen; omega) (keyOf_124 (okE_swap HE.out))
        have hc := (sur_add HSU.out (HO3.out.tidy keyed124).isMap HNN.out HE.out (c := c)).2 HLP.out HNE1.out hat
        have HSN := Lib.hid hc.2
        have hcb := valE_bd (E ++ sgTo nn l k) ((X1, X2), (X3, X4)).swap
        have hc1 : -101000 ≤ c := by have := hc.1; have := HLE.out; omega
        have hc2 : c ≤ 101000 := by have := hc.1; have := HLE.out; omega
        obtain ⟨X, r4, hoX, g3, g4⟩ := hfin (c - nn) (WalkArith.wf_i64 (by omega))
        simp only [sdV, Prod.fst_swap, Prod.snd_swap] at r1 r2 r3
        clear hc hcb hat hfin
        have v0 : V.cell? ⟨wr.heap.size, 0, none⟩ = some (.int .i64 X1) := (g1.cell_far ⟨wr.heap.size, 0, none⟩ (cell_lt d0) (by simp; omega)).trans d0
        have v1 : V.cell? ⟨wr.heap.size, 1, none⟩ = some (.int .i64 X2) := (g1.cell_far ⟨wr.heap.size, 1, none⟩ (cell_lt d0) (by simp; omega)).trans d1
        have v2 : V.cell? ⟨wr.heap.size, 2, none⟩ = some (.int .i64 X3) := (g1.cell_far ⟨wr.heap.size, 2, none⟩ (cell_lt d0) (by simp; omega)).trans d2
        have v3 : V.cell? ⟨wr.heap.size, 3, none⟩ = some (.int .i64 X4) := (g1.cell_far ⟨wr.heap.size, 3, none⟩ (cell_lt d0) (by simp; omega)).trans d3
        have HOX := Lib.hid hoX
        have HGX := Lib.hid g3
        have hXs : w3.heap.size ≤ X.heap.size := by rw [g4]; simp
        clear hoX g3
        go_region
        all_goals (go_wp2_with fail; go_roundw)
        case rel => exact ⟨k + 1, _, by omega, by go_num, HOX.out, by rw [HSTEP'.out, ← List.append_assoc]; exact HSN.out, HG.out.trans (((new_gb HN3.out.drew).but _).trans HGX.out)⟩
        case measure => simp [intOf]; omega
      · have hlt2 : (orI (cmpI X1 X3) (cmpI X2 X4) < 0) := HCL.out.2 hlp
        have HLP := Lib.hid hlp
        clear hlp
        generalize orI (cmpI X1 X3) (cmpI X2 X4) = OR at *
        go_upto_region 4 with (go_at_call 125; go_must (refine (HC.out _).mono ?_; rintro en w3 ⟨rfl, hn3⟩; have d0 : w3.cell? ⟨wr.heap.size, 0, none⟩ = some (.int .i64 X1) := (hn3.below.cell (p := ⟨wr.heap.size, 0, none⟩) (by first | assumption | (simp; done) | (simp; omega))).trans (by first | assumption | (simp [go_sem]; done) | (simp [go_sem, *])); have d1 : w3.cell? ⟨wr.heap.size, 1, none⟩ = some (.int .i64 X2) := (hn3.below.cell (p := ⟨wr.heap.size, 1, none⟩) (by first | assumption | (simp; done) | (simp; omega))).trans (by first | assumption | (simp [go_sem]; done) | (simp [go_sem, *])); have d2 : w3.cell? ⟨wr.heap.size, 2, none⟩ = some (.int .i64 X3) := (hn3.below.cell (p := ⟨wr.heap.size, 2, none⟩) (by first | assumption | (simp; done) | (simp; omega))).trans (by first | assumption | (simp [go_sem]; done) | (simp [go_sem, *])); have d3 : w3.cell? ⟨wr.heap.size, 3, none⟩ = some (.int .i64 X4) := (hn3.below.cell (p := ⟨wr.heap.size, 3, none⟩) (by first | assumption | (simp; done) | (simp; omega))).trans (by first | assumption | (simp [go_sem]; done) | (simp [go_sem, *])); have HN3 := Lib.hid (show New wr w3 from ((New.refl wr).alloc _).trans hn3); clear hn3))
        have HO3 := Lib.hid (HO.out.kept (new_gb HN3.out) (by simp)).drew
        obtain ⟨c, st, V, hat, hwc, r1, r2, r3, g1, g2, hfin⟩ := entry_run (w := w3.drew) HO3.out law124 Tryz.underlying121 Tryz.underlying3 zero3 (by unfold maxLen; omega) (keyOf_124 HE.out)
        have hc := (sur_add HSU.out (HO3.out.tidy keyed124).isMap HNN.out HE.out (c := c)).1 HLP.out hat
        have HSN := Lib.hid hc.2
        have hcb := valE_bd (E ++ sgTo nn l k) ((X1, X2), (X3, X4))
        have hc1 : -101000 ≤ c := by have := hc.1; have := HLE.out; omega
        have hc2 : c ≤ 101000 := by have := hc.1; have := HLE.out; omega
        obtain ⟨X, r4, hoX, g3, g4⟩ := hfin (c + nn) (WalkArith.wf_i64 (by omega))
        simp only [sdV] at r1 r2 r3
        clear hc hcb hat hfin
        have v0 : V.cell? ⟨wr.heap.size, 0, none⟩ = some (.int .i64 X1) := (g1.cell_far ⟨wr.heap.size, 0, none⟩ (cell_lt d0) (by simp; omega)).trans d0
        have v1 : V.cell? ⟨wr.heap.size, 1, none⟩ = some (.int .i64 X2) := (g1.cell_far ⟨wr.heap.size, 1, none⟩ (cell_lt d0) (by simp; omega)).trans d1
        have v2 : V.cell? ⟨wr.heap.size, 2, none⟩ = some (.int .i64 X3) := (g1.cell_far ⟨wr.heap.size, 2, none⟩ (cell_lt d0) (by simp; omega)).trans d2
        have v3 : V.cell? ⟨wr.heap.size, 3, none⟩ = some (.int .i64 X4) := (g1.cell_far ⟨wr.heap.size, 3, none⟩ (cell_lt d0) (by simp; omega)).trans d3
        have HOX := Lib.hid hoX
        have HGX := Lib.hid g3
        have hXs : w3.heap.size ≤ X.heap.size := by rw [g4]; simp
        clear hoX g3
        go_region
        all_goals (go_wp2_with fail; go_roundw)
        case rel => exact ⟨k + 1, _, by omega, by go_num, HOX.out, by rw [HSTEP'.out, ← List.append_assoc]; exact HSN.out, HG.out.trans (((new_gb HN3.out.drew).but _).trans HGX.out)⟩
        case measure => simp [intOf]; omega
    · obtain rfl : k = n := by omega
      go_wp2_with fail
      first | go_end0 | skip
      exact ⟨rfl, D', HO.out, HSU.out, ((new_gb HN2.out).but _).trans HG.out⟩

end Go.Proofs.YtpdfbboagaflhaaGreat

set_option linter.unusedSimpArgs false
set_option linter.unusedVariables false
set_option linter.constructorNameAsVariable false
set_option maxRecDepth 100000
namespace Go.Proofs.YtpdfbboagaflhaaGreat
open Go.ChangeShapes Go.WideShapes Go.ChangeAt Go.RowKit Go.Joins Go.Deep

def t6 (T : List T6) (k : Nat) : T6 := T.getD k ((0, 0), (0, 0), (0, 0))
/-- a triangle in its cells -/
def TriO (w : World) (b off k : Nat) (t : T6) : Prop := (w.cell? ⟨b, off + k * 6, none⟩ = some (.int .i64 t.1.1) ∧ w.cell? ⟨b, off + k * 6 + 1, none⟩ = some (.int .i64 t.1.2)) ∧ (w.cell? ⟨b, off + k * 6 + 2, none⟩ = some (.int .i64 t.2.1.1) ∧ w.cell? ⟨b, off + k * 6 + 3, none⟩ = some (.int .i64 t.2.1.2)) ∧ w.cell? ⟨b, off + k * 6 + 4, none⟩ = some (.int .i64 t.2.2.1) ∧ w.cell? ⟨b, off + k * 6 + 5, none⟩ = some (.int .i64 t.2.2.2)
def Tris (w : World) (b off n : Nat) (T : List T6) : Prop := T.length = n ∧ b < w.heap.size ∧ ∀ k, k < n → TriO w b off k (t6 T k)
theorem Tris.new {w w' : World} {b off n : Nat} {T : List T6} (h : Tris w b off n T) (hn : New w w') : Tris w' b off n T := by
  have L := fun o => hn.below.cell (p := ⟨b, o, none⟩) h.2.1
  refine ⟨h.1, Nat.lt_of_lt_of_le h.2.1 hn.size, fun k hk => ?_⟩
  obtain ⟨⟨c1, c2⟩, ⟨c3, c4⟩, c5, c6⟩ := h.2.2 k hk
  exact ⟨⟨(L _).trans c1, (L _).trans c2⟩, ⟨(L _).trans c3, (L _).trans c4⟩, (L _).trans c5, (L _).trans c6⟩
section
variable {H : Type} {enc : TypeId × Value → H} {W : World} {base b0 fuel : Nat} {spare : Nat → Bool} {held : Bool} {v : Value} {d : DataW H} {p : List MemPlace}
theorem list_6 {cs : List Value} (h : cs.length = 6) : ∃ a b c d e f, cs = [a, b, c, d, e, f] := by
  match cs, h with
  | [a, b, c, d, e, f], _ => exact ⟨a, b, c, d, e, f, rfl⟩
theorem cells_75 : Tryz.prog.cellsOf 75 = 6 := by kernel_rfl
theorem tr_trod {cs : List Value} {x : DataW H × List MemPlace} (h : DataW.trod enc Tryz.prog W base spare held fuel 75 cs = some x) :
    ∃ q : T6, cs = [.int .i64 q.1.1, .int .i64 q.1.2, .int .i64 q.2.1.1, .int .i64 q.2.1.2, .int .i64 q.2.2.1, .int .i64 q.2.2.2] := by
  obtain ⟨y0, y1, y2, n, hx, hl, h0, h1, h2⟩ := trod_struct3 Tryz.underlying75 h
  rw [cells_75] at hl
  obtain ⟨c0, c1, c2, c3, c4, c5, rfl⟩ := list_6 hl
  simp only [cells_23, List.drop, List.take] at h0 h1 h2
  obtain ⟨a, b, e0, _, _, _⟩ := pt_trod h0
  obtain ⟨a', b', e1, _, _, _⟩ := pt_trod h1
  obtain ⟨a2, b2, e2, _, _, _⟩ := pt_trod h2
  simp only [List.cons.injEq, and_true] at e0 e1 e2
  obtain ⟨rfl, rfl⟩ := e0
  obtain ⟨rfl, rfl⟩ := e1
  obtain ⟨rfl, rfl⟩ := e2
  exact ⟨((a, b), (a', b'), (a2, b2)), rfl⟩
theorem open_tris (hv : Value.okWide Tryz.prog W .any b0 53 v) (h : DataW.Trod enc Tryz.prog W base spare held 53 v d p) :
    ∃ av n cap l, v = .slice av n cap ∧ l.length = n ∧ (0 < n → ∃ b off, av = some ⟨b, off, none⟩ ∧ Tris W b off n l) := by
  obtain ⟨av, n, cap, rfl⟩ := okWide_slice Tryz.underlying53 hv
  obtain ⟨fuel, hf⟩ := h
  rcases open_slice Tryz.underlying53 hf with ⟨hcs, _⟩ | ⟨a, len, cap', m, n', D, Pl, hcs, _, hlc, _, hm, _, hi⟩
  · simp only [Value.cells, List.cons.injEq, Value.slice.injEq, and_true] at hcs
    obtain ⟨rfl, rfl, rfl⟩ := hcs
    exact ⟨none, 0, 0, [], rfl, rfl, fun h => absurd h (by omega)⟩
  · simp only [Value.cells, List.cons.injEq, Value.slice.injEq, and_true] at hcs
    obtain ⟨rfl, rfl, rfl⟩ := hcs
    have hnm : n ≤ m := by rw [hm]; split <;> omega
    have hx : ∀ i, i < n → ∃ q : T6, (W.cell? (a.add (i * 6)) = some (.int .i64 q.1.1) ∧ W.cell? (a.add (i * 6 + 1)) = some (.int .i64 q.1.2)) ∧ (W.cell? (a.add (i * 6 + 2)) = some (.int .i64 q.2.1.1) ∧ W.cell? (a.add (i * 6 + 3)) = some (.int .i64 q.2.1.2)) ∧ W.cell? (a.add (i * 6 + 4)) = some (.int .i64 q.2.2.1) ∧ W.cell? (a.add (i * 6 + 5)) = some (.int .i64 q.2.2.2) := fun i hi' => by
      obtain ⟨cs', hc, ht⟩ := hi i (by omega)
      rw [cells_75] at hc
      obtain ⟨q, rfl⟩ := tr_trod ht
      obtain ⟨_, _, hat⟩ := World.cells?_some hc
      have g0 := hat 0 (by omega)
      have g1 := hat 1 (by omega)
      have g2 := hat 2 (by omega)
      have g3 := hat 3 (by omega)
      have g4 := hat 4 (by omega)
      have g5 := hat 5 (by omega)
      rw [add_add] at g0 g1 g2 g3 g4 g5
      exact ⟨q, ⟨by simpa using g0, by simpa using g1⟩, ⟨by simpa using g2, by simpa using g3⟩, by simpa using g4, by simpa using g5⟩
    obtain ⟨q, hq⟩ := choose_lt hx
    refine ⟨some a, n, cap, (List.range n).map q, rfl, by simp, fun h0 => ?_⟩
    obtain ⟨b, off, spot⟩ := a
    have hspot : spot = none := by simpa [Addr.add] using World.cell?_spot (hq 0 h0).1.1
    subst hspot
    have hcell : ∀ i, i < n → TriO W b off i (q i) := fun i hi' => by
      obtain ⟨⟨k0, k1⟩, ⟨k2, k3⟩, k4, k5⟩ := hq i hi'
      rw [add_plain] at k0 k1 k2 k3 k4 k5
      exact ⟨⟨k0, k1⟩, ⟨k2, k3⟩, k4, k5⟩
    refine ⟨b, off, rfl, by simp, cell_lt (hcell 0 h0).1.1, fun i hi' => ?_⟩
    have e1 : t6 ((List.range n).map q) i = q i := by simp [t6, List.getD_eq_getElem?_getD, hi']
    rw [e1]
    exact hcell i hi'
end
end Go.Proofs.YtpdfbboagaflhaaGreat

set_option linter.unusedSimpArgs false
set_option linter.unusedVariables false
set_option maxRecDepth 100000
namespace Go.Proofs.YtpdfbboagaflhaaGreat
open Go.RowKit Go.Maps

def balB (E : List W2) : Bool := E.all fun e => E.count e == E.count e.swap
theorem balB_iff (E : List W2) : balB E = true ↔ Geo.Bal E := by
  unfold balB Geo.Bal
  rw [List.all_eq_true]
  constructor
  · intro h e
    by_cases he : e ∈ E
    · simpa using h e he
    · by_cases hs : e.swap ∈ E
      · have := h _ hs
        rw [Prod.swap_swap] at this
        exact (by simpa using this : E.count e.swap = E.count e).symm
      · rw [List.count_eq_zero.2 he, List.count_eq_zero.2 hs]
  · intro h e _
    simpa using h e
def triOk (x : T6) : Bool := TurnI x.1.1 x.1.2 x.2.1.1 x.2.1.2 x.2.2.1 x.2.2.2 == 1
def triL (x : T6) : List P2 := [x.1, x.2.1, x.2.2]
theorem triOk_iff (x : T6) : triOk x = true ↔ okL (triL x) = true ∧ 0 < Geo.TT x.1 x.2.1 x.2.2 := by
  unfold triOk TurnI triL
  rw [beq_iff_eq]
  have e : [(x.1.1, x.1.2), (x.2.1.1, x.2.1.2), (x.2.2.1, x.2.2.2)] = [x.1, x.2.1, x.2.2] := rfl
  rw [e]
  split
  · rename_i h; exact ⟨fun g => ⟨h, (Geo.turn_one x.1 x.2.1 x.2.2).1 g⟩, fun g => (Geo.turn_one x.1 x.2.1 x.2.2).2 g.2⟩
  · rename_i h; exact ⟨fun g => by omega, fun g => absurd g.1 h⟩
theorem tri_ne {x : T6} (h : 0 < Geo.TT x.1 x.2.1 x.2.2) : ∀ k, k < 3 → ptAt (triL x) k ≠ ptAt (triL x) ((k + 1) % 3) := by
  obtain ⟨⟨a1, a2⟩, ⟨b1, b2⟩, c1, c2⟩ := x
  unfold Geo.TT at h
  simp only at h
  intro k hk
  have : k = 0 ∨ k = 1 ∨ k = 2 := by omega
  rcases this with rfl | rfl | rfl
  · intro e
    have e' : ((a1, a2) : P2) = (b1, b2) := e
    simp only [Prod.mk.injEq] at e'
    obtain ⟨rfl, rfl⟩ := e'
    simp at h
  · intro e
    have e' : ((b1, b2) : P2) = (c1, c2) := e
    simp only [Prod.mk.injEq] at e'
    obtain ⟨rfl, rfl⟩ := e'
    have : (b1 - a1) * (b2 - a2) - (b2 - a2) * (b1 - a1) = 0 := by rw [Int.mul_comm]; omega
    omega
  · intro e
    have e' : ((c1, c2) : P2) = (a1, a2) := e
    simp only [Prod.mk.injEq] at e'
    obtain ⟨rfl, rfl⟩ := e'
    simp at h
theorem tri_sg (x : T6) : sgTo 1 (triL x) 3 = Geo.triE x := by
  have := sgTo_one (triL x)
  exact this
theorem trisE_take (T : List T6) {k : Nat} (h : k < T.length) : Geo.trisE (T.take (k + 1)) = Geo.trisE (T.take k) ++ Geo.triE (t6 T k) := by
  have : t6 T k = T[k] := by simp [t6, List.getD_eq_getElem?_getD, h]
  rw [this]
  unfold Geo.trisE
  rw [← List.take_append_getElem h, List.flatMap_append]
  simp
theorem trisE_len (T : List T6) : (Geo.trisE T).length = 3 * T.length := by
  induction T with
  | nil => rfl
  | cons x T ih => rw [show Geo.trisE (x :: T) = Geo.triE x ++ Geo.trisE T from rfl, List.length_append, ih]; simp [Geo.triE]; omega
/-- what CheckTriangles answers -/
def ckT (l : List P2) (T : List T6) : Bool := decide (polyI l = 0) && decide (T.length ≤ 400) && (T.all triOk && balB (Geo.chE (normL l) T))
theorem ckT_cover {l : List P2} {T : List T6} : ckT l T = true ↔ (T.length ≤ 400 ∧ (∀ x ∈ T, okL (triL x) = true) ∧ Geo.Cover l T) := by
  unfold ckT
  rw [Bool.and_eq_true, Bool.and_eq_true, Bool.and_eq_true, decide_eq_true_iff, decide_eq_true_iff, balB_iff, List.all_eq_true]
  constructor
  · rintro ⟨⟨h1, h2⟩, h3, h4⟩
    exact ⟨h2, fun x hx => ((triOk_iff x).1 (h3 x hx)).1, h1, fun x hx => ((triOk_iff x).1 (h3 x hx)).2, h4⟩
  · rintro ⟨h2, h5, h1, h3, h4⟩
    exact ⟨⟨h1, h2⟩, fun x hx => (triOk_iff x).2 ⟨h5 x hx, h3 x hx⟩, h4⟩
theorem tri_okE {x : T6} (h : okL (triL x) = true) : ∀ e ∈ Geo.triE x, okE e := by
  have b0 := okP_iff.2 (okL_bd h 0)
  have b1 := okP_iff.2 (okL_bd h 1)
  have b2 := okP_iff.2 (okL_bd h 2)
  intro e he
  simp only [Geo.triE, List.mem_cons, List.not_mem_nil, or_false] at he
  rcases he with rfl | rfl | rfl
  · exact ⟨b0, b1⟩
  · exact ⟨b1, b2⟩
  · exact ⟨b2, b0⟩
theorem EE_okE {l : List P2} (h : okL l = true) : ∀ e ∈ Geo.EE l, okE e := by
  intro e he
  obtain ⟨k, hk, rfl⟩ := Geo.EE_mem.1 he
  exact ⟨okP_iff.2 (okL_bd h _), okP_iff.2 (okL_bd h _)⟩
theorem chE_okE {l : List P2} {T : List T6} (h : okL l = true) (hT : ∀ x ∈ T, okL (triL x) = true) : ∀ e ∈ Geo.chE l T, okE e := by
  intro e he
  rcases List.mem_append.1 he with g | g
  · obtain ⟨x, hx, hxe⟩ := List.mem_flatMap.1 g
    exact tri_okE (hT x hx) e hxe
  · obtain ⟨f, hf, rfl⟩ := List.mem_map.1 g
    exact okE_swap (EE_okE h f hf)
theorem new_of_gb {w a b : World} {B : Nat} (h : New w a) (hg : a.grownBy b (some B)) (hB : w.heap.size ≤ B) : New w b :=
  .of_below (h.below.trans ⟨hg.os, hg.tape, hg.output, hg.size, fun i hi => hg.block i (Nat.lt_of_lt_of_le hi h.size) (by simp; omega)⟩)

theorem New.trans' {w a b : World} (h : New w a) {r : Nat} (hg : a.grownBy b (some r)) (hr : w.heap.size ≤ r) : New w b := new_of_gb h hg hr
theorem ptsT3 {w : World} {g : Nat} {A1 A2 B1 B2 C1 C2 : Int} (hg : g < w.heap.size) (h0 : w.cell? ⟨g, 0, none⟩ = some (.int .i64 A1)) (h1 : w.cell? ⟨g, 1, none⟩ = some (.int .i64 A2)) (h2 : w.cell? ⟨g, 2, none⟩ = some (.int .i64 B1)) (h3 : w.cell? ⟨g, 3, none⟩ = some (.int .i64 B2)) (h4 : w.cell? ⟨g, 4, none⟩ = some (.int .i64 C1)) (h5 : w.cell? ⟨g, 5, none⟩ = some (.int .i64 C2)) : Pts w g 0 3 (triL ((A1, A2), (B1, B2), (C1, C2))) := by
  refine ⟨rfl, hg, fun k hk => ?_⟩
  have : k = 0 ∨ k = 1 ∨ k = 2 := by omega
  rcases this with rfl | rfl | rfl
  · exact ⟨h0, h1⟩
  · exact ⟨h2, h3⟩
  · exact ⟨h4, h5⟩

set_option maxHeartbeats 4000000 in
theorem checkTris_no (v : Value) (av : Option Addr) (m c : Nat) (E : Int) (w : World) (hE : E ≠ 0) (H : Hid (Calls Tryz.prog 50 #[v] w fun en w' => en = .returned (.tuple #[.slice none 0 0, .int .i64 E]) ∧ New w w')) :
    Calls Tryz.prog 62 #[v, .slice av m c] w fun en w' => en = .returned (.bool false) ∧ New w w' := by
  have q2 : (E != 0) = true := by simpa using hE
  go_enter Tryz.func62, Tryz.ntmps62
  go_wp2_with (go_at_call 50; refine H.out.mono ?_; rintro e w2 ⟨rfl, hn⟩; have HN1 := Lib.hid hn; clear hn)
  go_ret; exact ⟨rfl, HN1.out⟩
set_option maxHeartbeats 4000000 in
theorem checkTris_long (v r : Value) (av : Option Addr) (m c : Nat) (w : World) (hm : 400 < m) (H : Hid (Calls Tryz.prog 50 #[v] w fun en w' => ∃ r, en = .returned (.tuple #[r, .int .i64 0]) ∧ New w w')) :
    Calls Tryz.prog 62 #[v, .slice av m c] w fun en w' => en = .returned (.bool false) ∧ New w w' := by
  have k1 : (400 : Int) < (m : Int) := by omega
  go_enter Tryz.func62, Tryz.ntmps62
  go_wp2_with (go_at_call 50; refine H.out.mono ?_; rintro e w2 ⟨r, rfl, hn⟩; have HN1 := Lib.hid hn; clear hn)
  go_ret; exact ⟨rfl, HN1.out⟩

set_option maxHeartbeats 8000000 in
theorem checkTris_go (b off n c : Nat) (av : Option Addr) (m cT : Nat) (l : List P2) (T : List T6) (w : World) (h0 : 0 < n) (hl : n ≤ 1000) (hw : Pts w b off n l) (hp : polyI l = 0) (hm : m ≤ 400) (hT : T.length = m) (hTw : 0 < m → ∃ tb tf, av = some ⟨tb, tf, none⟩ ∧ Tris w tb tf m T) :
    Calls Tryz.prog 62 #[.slice (some ⟨b, off, none⟩) n c, .slice av m cT] w fun en w' => en = .returned (.bool (T.all triOk && balB (Geo.chE (normL l) T))) ∧ New w w' := by
  obtain ⟨f1, f2, f3, f4, f5, f6, f7, f8⟩ := norm_facts hp
  obtain ⟨s1, _, _, s4, _, _, _⟩ := Geo.norm_self hp
  have HNB := Lib.hid (normal_any b off n c l w hw hp)
  have HLA := Lib.hid (show ∀ (w1 w2 : World) (en : Ending), ListR w1 w2 en (normL l) → ∃ g cap, en = .returned (.tuple #[.slice (some ⟨g, 0, none⟩) (normL l).length cap, .int .i64 0]) ∧ Pts w2 g 0 (normL l).length (normL l) ∧ New w1 w2 from fun w1 w2 en h => by obtain ⟨g, cap, e, _, hp, hn⟩ := listR_at h f6; exact ⟨g, cap, e, hp, hn⟩)
  have HSI := Lib.hid (show ∀ k, k < (normL l).length → ptAt (normL l) k ≠ ptAt (normL l) ((k + 1) % (normL l).length) from fun k hk => Geo.simp_ne s1 (Geo.EE_mem.2 ⟨k, hk, rfl⟩))
  have HOK := Lib.hid s4
  have HTL := Lib.hid hT
  have HTR := Lib.hid (show ∀ k, k < m → ∃ tb tf, av = some ⟨tb, tf, none⟩ ∧ Tris w tb tf m T from fun k hk => hTw (by omega))
  have k1 : ¬ (400 : Int) < (m : Int) := by omega
  have hmm := @run_makeMap Tryz.prog
  clear hw hp hT hTw f1 f2 f3 f4 f7 f8 s1 s4
  generalize normL l = N at *
  go_enter Tryz.func62, Tryz.ntmps62
  go_wp2_with (go_at_call 50; refine HNB.out.mono ?_; rintro en w2 hh; obtain ⟨g, cap, rfl, hpn, hn2⟩ := HLA.out _ _ _ hh; have HPN := Lib.hid hpn; have HN2 := Lib.hid hn2; clear hh hpn hn2)
  go_loopw [28] (fun i wr => ∃ (k : Nat) (D : DataW Unit), k ≤ m ∧ i = .int .i64 k ∧ OM wr w2.heap.size (3 * k) D ∧ Sur D (Geo.trisE (T.take k)) ∧ (∀ j, j < k → triOk (t6 T j) = true) ∧ New w2 wr) (fun i _ => m - (intOf i).toNat)
  case atStart => exact ⟨0, .map [], Nat.zero_le _, rfl, World.ownsMap_made _ _ _ _, by simpa [Geo.trisE] using sur_nil, fun j hj => by omega, (New.refl _).alloc _⟩
  case round =>
    rename_i wr
    obtain ⟨k, D, hk, rfl, ho, hsur, hall, hnw⟩ := hrel
    have HO := Lib.hid ho
    have HSU := Lib.hid hsur
    have HAL := Lib.hid hall
    have HNW := Lib.hid hnw
    clear ho hsur hall hnw
    by_cases hlt : k < m
    · obtain ⟨tb, tf, rfl, htr⟩ := HTR.out k hlt
      have htr2 := htr.new (HN2.out.trans HNW.out)
      obtain ⟨⟨c1, c2⟩, ⟨c3, c4⟩, c5, c6⟩ := htr2.2.2 k hlt
      have htb : tb < wr.heap.size := htr2.2.1
      have hTk : k < T.length := by rw [HTL.out]; exact hlt
      have HTK := Lib.hid (trisE_take T hTk)
      have HTM := Lib.hid (show (Geo.trisE (T.take k)).length ≤ 1200 by rw [trisE_len, List.length_take]; omega)
      have HX := Lib.hid (show triOk (t6 T k) = (TurnI (t6 T k).1.1 (t6 T k).1.2 (t6 T k).2.1.1 (t6 T k).2.1.2 (t6 T k).2.2.1 (t6 T k).2.2.2 == 1) from rfl)
      have HXI := Lib.hid (triOk_iff (t6 T k))
      have HMEM := Lib.hid (show t6 T k ∈ T by simp [t6, List.getD_eq_getElem?_getD, hTk])
      have HSG := Lib.hid (tri_sg (t6 T k))
      have HTN := Lib.hid (tri_ne (x := t6 T k))
      have HTX := Lib.hid (show t6 T k = t6 T k from rfl)
      have hBl : w2.heap.size < wr.heap.size := HO.out.lt
      clear htr htr2 hTk
      generalize hx : t6 T k = x at *
      have HXX := Lib.hid hx
      clear hx HTX
      obtain ⟨⟨A1, A2⟩, ⟨B1, B2⟩, C1, C2⟩ := x
      simp only at c1 c2 c3 c4 c5 c6
      have HT27 := Lib.hid (fun w1 => Turn_c A1 A2 B1 B2 C1 C2 w1)
      have hkn2 : (k : Int) < (m : Int) := by omega
      have HX' := Lib.hid (show triOk ((A1, A2), (B1, B2), (C1, C2)) = (TurnI A1 A2 B1 B2 C1 C2 == 1) from HX.out)
      clear HX
      generalize TurnI A1 A2 B1 B2 C1 C2 = TV at *
      by_cases htv : TV = 1
      · have q1 : (TV != 1) = false := by simp [htv]
        have HOKX := Lib.hid (show triOk ((A1, A2), (B1, B2), (C1, C2)) = true by rw [HX'.out, htv]; rfl)
        obtain ⟨ok1, ok2⟩ := HXI.out.1 HOKX.out
        have HCO := Lib.hid (fun (w3 : World) (h3 : New wr w3) (hp3 : Pts w3 (wr.heap.size + 1) 0 3 (triL ((A1, A2), (B1, B2), (C1, C2)))) => count_c w2.heap.size (3 * k) (wr.heap.size + 1) 0 3 3 (triL ((A1, A2), (B1, B2), (C1, C2))) 1 (Geo.trisE (T.take k)) D w3 (.inl rfl) (by omega) (by omega) hp3 ok1 (HTN.out ok2) (by omega) (by have := HTM.out; omega) (HO.out.kept (new_gb h3) (by simp)) HSU.out)
        clear htv ok1 ok2
        go_wp2_with (first | (go_at_call 27; go_must (refine (HT27.out _).mono ?_; rintro en w3 ⟨rfl, hn3⟩; have q0 : w3.cell? ⟨wr.heap.size + 1, 0, none⟩ = some (.int .i64 A1) := (hn3.below.cell (p := ⟨wr.heap.size + 1, 0, none⟩) (by first | assumption | (simp; done) | (simp; omega))).trans (by first | assumption | (simp [go_sem]; done) | (simp [go_sem, *])); have q1' : w3.cell? ⟨wr.heap.size + 1, 1, none⟩ = some (.int .i64 A2) := (hn3.below.cell (p := ⟨wr.heap.size + 1, 1, none⟩) (by first | assumption | (simp; done) | (simp; omega))).trans (by first | assumption | (simp [go_sem]; done) | (simp [go_sem, *])); have q2 : w3.cell? ⟨wr.heap.size + 1, 2, none⟩ = some (.int .i64 B1) := (hn3.below.cell (p := ⟨wr.heap.size + 1, 2, none⟩) (by first | assumption | (simp; done) | (simp; omega))).trans (by first | assumption | (simp [go_sem]; done) | (simp [go_sem, *])); have q3 : w3.cell? ⟨wr.heap.size + 1, 3, none⟩ = some (.int .i64 B2) := (hn3.below.cell (p := ⟨wr.heap.size + 1, 3, none⟩) (by first | assumption | (simp; done) | (simp; omega))).trans (by first | assumption | (simp [go_sem]; done) | (simp [go_sem, *])); have q4 : w3.cell? ⟨wr.heap.size + 1, 4, none⟩ = some (.int .i64 C1) := (hn3.below.cell (p := ⟨wr.heap.size + 1, 4, none⟩) (by first | assumption | (simp; done) | (simp; omega))).trans (by first | assumption | (simp [go_sem]; done) | (simp [go_sem, *])); have q5 : w3.cell? ⟨wr.heap.size + 1, 5, none⟩ = some (.int .i64 C2) := (hn3.below.cell (p := ⟨wr.heap.size + 1, 5, none⟩) (by first | assumption | (simp; done) | (simp; omega))).trans (by first | assumption | (simp [go_sem]; done) | (simp [go_sem, *])); have HN3 := Lib.hid (show New wr w3 from (((New.refl wr).alloc _).alloc _).trans hn3); have hp3 : Pts w3 (wr.heap.size + 1) 0 3 (triL ((A1, A2), (B1, B2), (C1, C2)))   := ptsT3 (Nat.lt_of_lt_of_le (by simp) hn3.size) q0 q1' q2 q3 q4 q5; have HP3 := Lib.hid hp3; clear hn3 hp3)) | (go_at_call 133; go_must (refine (HCO.out _ HN3.out HP3.out).mono ?_; rintro en w4 ⟨rfl, D4, ho4, hs4, hg4⟩; have HO4 := Lib.hid ho4; have HS4 := Lib.hid hs4; have HG4 := Lib.hid hg4; clear ho4 hs4 hg4)))
        go_roundw
        case rel => exact ⟨k + 1, D4, by omega, by go_num, by rw [show 3 * (k + 1) = 3 * k + 3 by omega]; exact HO4.out, by rw [HTK.out, ← HSG.out]; exact HS4.out, fun j hj => (by
          by_cases e : j = k
          · subst e; rw [HXX.out]; exact HOKX.out
          · exact HAL.out j (by omega)), new_of_gb (HNW.out.trans HN3.out) HG4.out (Nat.le_refl _)⟩
        case measure => simp [intOf]; omega
      · have q1 : (TV != 1) = true := by simp [htv]
        have HR := Lib.hid (show (T.all triOk && balB (Geo.chE N T)) = false by
          have : T.all triOk = false := by
            rw [Bool.eq_false_iff]; intro g
            have h1 := List.all_eq_true.1 g _ HMEM.out
            rw [HX'.out] at h1
            exact htv (by simpa using h1)
          rw [this]; rfl)
        clear htv
        go_wp2_with (go_at_call 27; go_must (refine (HT27.out _).mono ?_; rintro en w3 ⟨rfl, hn3⟩; have HN3 := Lib.hid (show New wr w3 from (((New.refl wr).alloc _).alloc _).trans hn3); clear hn3))
        go_ret
        exact ⟨ret_bool HR.out.symm, HN2.out.trans (HNW.out.trans HN3.out)⟩
    · obtain rfl : k = m := by omega
      have HALL := Lib.hid (show T.all triOk = true by
        rw [List.all_eq_true]; intro x hx
        obtain ⟨i, hi, rfl⟩ := List.getElem_of_mem hx
        have := HAL.out i (by rw [← HTL.out]; exact hi)
        rwa [show t6 T i = T[i] by simp [t6, List.getD_eq_getElem?_getD, hi]] at this)
      have HSU' := Lib.hid (show Sur D (Geo.trisE T) by have := HSU.out; rwa [List.take_of_length_le (by rw [HTL.out]; exact Nat.le_refl _)] at this)
      have HTM := Lib.hid (show (Geo.trisE T).length ≤ 1200 by rw [trisE_len]; have := HTL.out; omega)
      have HCO := Lib.hid (count_c w2.heap.size (3 * k) g 0 N.length cap N (-1) (Geo.trisE T) D wr (.inr rfl) f6 (by omega) (HPN.out.new HNW.out) HOK.out HSI.out (by omega) (by have := HTM.out; omega) HO.out HSU'.out)
      have HNG := Lib.hid (sgTo_neg N)
      have HEOK := Lib.hid (show ∀ e ∈ Geo.chE N T, okE e from chE_okE HOK.out fun x hx => ((triOk_iff x).1 (List.all_eq_true.1 HALL.out x hx)).1)
      go_wp2_with (first | (go_at_call 133; go_must (refine HCO.out.mono ?_; rintro en w5 ⟨rfl, D5, ho5, hs5, hg5⟩; have HO5 := Lib.hid ho5; have HN5 := Lib.hid (show New w2 w5 from new_of_gb HNW.out hg5 (Nat.le_refl _)); have HS5 := Lib.hid (show Sur D5 (Geo.chE N T) by rw [HNG.out] at hs5; exact hs5); clear ho5 hs5 hg5)) | (at_range; refine wpList_range_own _ rfl _ 121 rfl 124 3 keyed124 Tryz.underlying121 _ w2.heap.size (3 * k + N.length) _ rfl HO5.out ?_; intro w6 hrg6 hg6 hs6))
      go_frame
      have HRG6 := Lib.hid hrg6
      have HN6 := Lib.hid (show New w2 w6 from HN5.out.trans (.of_below ⟨hg6.os, hg6.tape, hg6.output, hg6.size, fun i hi => hg6.block i hi (by simp)⟩))
      clear hrg6 hg6
      generalize hr6 : w5.heap.size = R at *
      have HR6 := Lib.hid hr6
      have HR7 := Lib.hid (show w2.heap.size ≤ R by rw [← hr6]; exact HN5.out.size)
      clear hr6
      go_loopw [12] (fun _ wx => ∃ (left : Lit → Bool) (cnt : Nat), wx.ranges Tryz.prog 124 (plainElem (H := Unit) Tryz.prog 3) w2.heap.size R (3 * k + N.length) D5 left cnt ∧ (∀ kl, Maps.has D5 kl = true → left kl = false → D5.atKey kl (i64d 0) = i64d 0) ∧ New w2 wx) (fun _ wx => wx.rangeLeft w2.heap.size R)
      case atStart => exact ⟨_, _, HRG6.out, fun kl h1 h2 => (by rw [h1] at h2; cases h2), HN6.out⟩
      case round =>
        rename_i wx
        obtain ⟨left, cnt, hrg, hz, hnx⟩ := hrel
        have HZ := Lib.hid hz
        have HNX := Lib.hid hnx
        clear hz hnx
        go_wp2_with (first | (at_next; refine wpList_next_ranges _ rfl _ rfl 124 keyed124 _ (fun v : Value => v) (Value.int .i64) (fun key kl _ => ⟨key, rfl⟩) (fun v y hv => by obtain ⟨c, rfl, _⟩ := plainElem_int_inv Tryz.underlying3 hv; exact ⟨c, rfl⟩) w2.heap.size R (3 * k + N.length) D5 left cnt rfl hrg ?_ ?_) | go_in)
        · intro _ hl0
          have HBB := Lib.hid (show (T.all triOk && balB (Geo.chE N T)) = true by
            rw [HALL.out, Bool.true_and, balB_iff, sur_bal HS5.out HEOK.out]
            exact fun kl hkl => HZ.out kl hkl (hl0 kl))
          go_wp2_with fail
          go_ret
          exact ⟨ret_bool HBB.out.symm, HN2.out.trans HNX.out⟩
        · intro x cc kl y y2 w7 cnt1 hkey hlk hR hat hrg1 hlt1 hg1 hs1 hen
          have HN7 := Lib.hid (show New w2 w7 from HNX.out.trans' hg1 HR7.out)
          have HH := Lib.hid (show Maps.has D5 kl = true from has_true_of_atKey hat)
          have HAT := Lib.hid (show ∀ zd, D5.atKey kl zd = .lit (.int .i64 cc) from fun zd => by rw [hat zd]; obtain ⟨c', e1, e2, _⟩ := plainElem_int_inv Tryz.underlying3 hR; cases e1; exact congrArg Prod.fst e2)
          clear hat hR hkey
          by_cases hc0 : cc = 0
          · subst hc0
            have q1 : ((0 : Int) != 0) = false := by decide
            go_wp2_with fail
            go_roundw
            case rel => exact ⟨_, cnt1, hrg1, fun kl' h1 h2 => (by
              by_cases e : kl' = kl
              · subst e; exact HAT.out _
              · refine HZ.out kl' h1 ?_
                rw [sameKey_ne e] at h2
                simpa using h2), HN7.out⟩
            case measure => rw [hrg1.left_eq, hrg.left_eq]; exact hlt1
          · have q1 : (cc != 0) = true := by simpa using hc0
            have HBB := Lib.hid (show (T.all triOk && balB (Geo.chE N T)) = false by
              have : balB (Geo.chE N T) = false := by
                rw [Bool.eq_false_iff]; intro g
                rw [balB_iff, sur_bal HS5.out HEOK.out] at g
                have := g kl HH.out
                rw [HAT.out] at this
                exact hc0 (by simpa [i64d] using this)
              rw [this, Bool.and_false])
            clear hc0
            go_wp2_with fail
            go_ret
            exact ⟨ret_bool HBB.out.symm, HN2.out.trans HN7.out⟩
end Go.Proofs.YtpdfbboagaflhaaGreat

set_option linter.unusedSimpArgs false
set_option linter.unusedVariables false
set_option maxRecDepth 100000
namespace Go.Proofs.YtpdfbboagaflhaaGreat
open Go.RowKit

def inN (x : T6) (p : P2) : Bool := decide (0 ≤ TurnI x.1.1 x.1.2 x.2.1.1 x.2.1.2 p.1 p.2) && decide (0 ≤ TurnI x.2.1.1 x.2.1.2 x.2.2.1 x.2.2.2 p.1 p.2) && decide (0 ≤ TurnI x.2.2.1 x.2.2.2 x.1.1 x.1.2 p.1 p.2)
def insN (x : T6) (p : P2) : Bool := decide (0 < TurnI x.1.1 x.1.2 x.2.1.1 x.2.1.2 p.1 p.2) && decide (0 < TurnI x.2.1.1 x.2.1.2 x.2.2.1 x.2.2.2 p.1 p.2) && decide (0 < TurnI x.2.2.1 x.2.2.2 x.1.1 x.1.2 p.1 p.2)
def inCt (T : List T6) (p : P2) : Nat → Nat
  | 0 => 0
  | k + 1 => inCt T p k + (if inN (t6 T k) p then 1 else 0)
def insCt (T : List T6) (p : P2) : Nat → Nat
  | 0 => 0
  | k + 1 => insCt T p k + (if insN (t6 T k) p then 1 else 0)
theorem inCt_le (T : List T6) (p : P2) : ∀ k, inCt T p k ≤ k
  | 0 => Nat.le_refl _
  | k + 1 => by have := inCt_le T p k; simp only [inCt]; split <;> omega
theorem insCt_le (T : List T6) (p : P2) : ∀ k, insCt T p k ≤ k
  | 0 => Nat.le_refl _
  | k + 1 => by have := insCt_le T p k; simp only [insCt]; split <;> omega

set_option maxHeartbeats 8000000 in
theorem counted_c (av : Option Addr) (m cT : Nat) (T : List T6) (P1 P2' : Int) (w : World) (hm : m ≤ 1000) (hT : T.length = m) (hTw : 0 < m → ∃ tb tf, av = some ⟨tb, tf, none⟩ ∧ Tris w tb tf m T) :
    Calls Tryz.prog 81 #[.slice av m cT, pv P1 P2'] w fun en w' => en = .returned (.tuple #[.int .i64 (inCt T (P1, P2') m), .int .i64 (insCt T (P1, P2') m)]) ∧ New w w' := by
  have HTL := Lib.hid hT
  have HTR := Lib.hid (show ∀ k, k < m → ∃ tb tf, av = some ⟨tb, tf, none⟩ ∧ Tris w tb tf m T from fun k hk => hTw (by omega))
  have HIL := Lib.hid (fun k => inCt_le T (P1, P2') k)
  have HSL := Lib.hid (fun k => insCt_le T (P1, P2') k)
  clear hT hTw
  go_enter Tryz.func81, Tryz.ntmps81
  go_wp2_with fail
  go_loopw [6, 7, 15] (fun s6 s7 i wr => ∃ k : Nat, k ≤ m ∧ i = .int .i64 k ∧ s6 = .int .i64 (inCt T (P1, P2') k) ∧ s7 = .int .i64 (insCt T (P1, P2') k) ∧ New w wr ∧ (wr.cell? ⟨w.heap.size, 0, none⟩ = some (.int .i64 P1) ∧ wr.cell? ⟨w.heap.size, 1, none⟩ = some (.int .i64 P2')) ∧ w.heap.size < wr.heap.size) (fun _ _ i _ => m - (intOf i).toNat)
  case atStart => exact ⟨0, Nat.zero_le _, rfl, rfl, rfl, (New.refl _).alloc _, ⟨by simp [go_sem], by simp [go_sem]⟩, by simp⟩
  case round =>
    obtain ⟨wx, rfl⟩ : ∃ wx : World, wx = wr := ⟨_, rfl⟩
    obtain ⟨k, hk, rfl, rfl, rfl, hnw, ⟨p1, p2⟩, hsz⟩ := hrel
    have HNW := Lib.hid hnw
    clear hnw
    by_cases hlt : k < m
    · obtain ⟨tb, tf, rfl, htr⟩ := HTR.out k hlt
      have htr2 := htr.new HNW.out
      obtain ⟨⟨c1, c2⟩, ⟨c3, c4⟩, c5, c6⟩ := htr2.2.2 k hlt
      have htb : tb < wx.heap.size := htr2.2.1
      have HI := Lib.hid (show inCt T (P1, P2') (k + 1) = inCt T (P1, P2') k + (if inN (t6 T k) (P1, P2') then 1 else 0) from rfl)
      have HS := Lib.hid (show insCt T (P1, P2') (k + 1) = insCt T (P1, P2') k + (if insN (t6 T k) (P1, P2') then 1 else 0) from rfl)
      have i1 := HIL.out k
      have s1 := HSL.out k
      clear htr htr2
      generalize hx : t6 T k = x at *
      clear hx
      obtain ⟨⟨A1, A2⟩, ⟨B1, B2⟩, C1, C2⟩ := x
      simp only at c1 c2 c3 c4 c5 c6
      have H1 := Lib.hid (fun w1 => Turn_c A1 A2 B1 B2 P1 P2' w1)
      have H2 := Lib.hid (fun w1 => Turn_c B1 B2 C1 C2 P1 P2' w1)
      have H3 := Lib.hid (fun w1 => Turn_c C1 C2 A1 A2 P1 P2' w1)
      have HI' := Lib.hid (show inCt T (P1, P2') (k + 1) = inCt T (P1, P2') k + (if (decide (0 ≤ TurnI A1 A2 B1 B2 P1 P2') && decide (0 ≤ TurnI B1 B2 C1 C2 P1 P2') && decide (0 ≤ TurnI C1 C2 A1 A2 P1 P2')) then 1 else 0) from HI.out)
      have HS' := Lib.hid (show insCt T (P1, P2') (k + 1) = insCt T (P1, P2') k + (if (decide (0 < TurnI A1 A2 B1 B2 P1 P2') && decide (0 < TurnI B1 B2 C1 C2 P1 P2') && decide (0 < TurnI C1 C2 A1 A2 P1 P2')) then 1 else 0) from HS.out)
      clear HI HS
      generalize TurnI A1 A2 B1 B2 P1 P2' = t1 at *
      generalize TurnI B1 B2 C1 C2 P1 P2' = t2 at *
      generalize TurnI C1 C2 A1 A2 P1 P2' = t3 at *
      generalize hI : inCt T (P1, P2') k = IK at *
      generalize hS : insCt T (P1, P2') k = SK at *
      clear hI hS
      go_upto_region 5 with fail
      go_cut [10, 11, 12] (fun s10 s11 s12 wz => (s10 = .int .i64 t1 ∧ s11 = .int .i64 t2 ∧ s12 = .int .i64 t3) ∧ New wx wz)
      case first =>
        have d0 : (wx.alloc (.cells #[.int .i64 A1, .int .i64 A2, .int .i64 B1, .int .i64 B2, .int .i64 C1, .int .i64 C2] 75)).cell? ⟨wx.heap.size, 0, none⟩ = some (.int .i64 A1) := by simp [go_sem]
        have d1 : (wx.alloc (.cells #[.int .i64 A1, .int .i64 A2, .int .i64 B1, .int .i64 B2, .int .i64 C1, .int .i64 C2] 75)).cell? ⟨wx.heap.size, 1, none⟩ = some (.int .i64 A2) := by simp [go_sem]
        have d2 : (wx.alloc (.cells #[.int .i64 A1, .int .i64 A2, .int .i64 B1, .int .i64 B2, .int .i64 C1, .int .i64 C2] 75)).cell? ⟨wx.heap.size, 2, none⟩ = some (.int .i64 B1) := by simp [go_sem]
        have d3 : (wx.alloc (.cells #[.int .i64 A1, .int .i64 A2, .int .i64 B1, .int .i64 B2, .int .i64 C1, .int .i64 C2] 75)).cell? ⟨wx.heap.size, 3, none⟩ = some (.int .i64 B2) := by simp [go_sem]
        have d4 : (wx.alloc (.cells #[.int .i64 A1, .int .i64 A2, .int .i64 B1, .int .i64 B2, .int .i64 C1, .int .i64 C2] 75)).cell? ⟨wx.heap.size, 4, none⟩ = some (.int .i64 C1) := by simp [go_sem]
        have d5 : (wx.alloc (.cells #[.int .i64 A1, .int .i64 A2, .int .i64 B1, .int .i64 B2, .int .i64 C1, .int .i64 C2] 75)).cell? ⟨wx.heap.size, 5, none⟩ = some (.int .i64 C2) := by simp [go_sem]
        have e1 : (wx.alloc (.cells #[.int .i64 A1, .int .i64 A2, .int .i64 B1, .int .i64 B2, .int .i64 C1, .int .i64 C2] 75)).cell? ⟨w.heap.size, 0, none⟩ = some (.int .i64 P1) := (((New.refl wx).alloc _).cell hsz).trans p1
        have e2 : (wx.alloc (.cells #[.int .i64 A1, .int .i64 A2, .int .i64 B1, .int .i64 B2, .int .i64 C1, .int .i64 C2] 75)).cell? ⟨w.heap.size, 1, none⟩ = some (.int .i64 P2') := (((New.refl wx).alloc _).cell hsz).trans p2
        have z1 : wx.heap.size < (wx.alloc (.cells #[.int .i64 A1, .int .i64 A2, .int .i64 B1, .int .i64 B2, .int .i64 C1, .int .i64 C2] 75)).heap.size := by simp
        have z2 : w.heap.size < (wx.alloc (.cells #[.int .i64 A1, .int .i64 A2, .int .i64 B1, .int .i64 B2, .int .i64 C1, .int .i64 C2] 75)).heap.size := by simp; omega
        have HW0 := Lib.hid (show New wx (wx.alloc (.cells #[.int .i64 A1, .int .i64 A2, .int .i64 B1, .int .i64 B2, .int .i64 C1, .int .i64 C2] 75)) from (New.refl wx).alloc _)
        generalize wx.alloc (.cells #[.int .i64 A1, .int .i64 A2, .int .i64 B1, .int .i64 B2, .int .i64 C1, .int .i64 C2] 75) = W0 at *
        clear c1 c2 c3 c4 c5 c6 p1 p2 htb i1 s1
        refine wp_region_at (by kernel_rfl) (by kernel_rfl) ?_
        repeat (go_big_quiet_step (first | (go_at_call 27; with_reducible exact calls_new (H1.out _)) | (go_at_call 27; with_reducible exact calls_new (H2.out _)) | (go_at_call 27; with_reducible exact calls_new (H3.out _))))
        refine wpQuiet_nil ?_
        rintro _ ⟨pq, rfl⟩
        go_wp2_with fail
        go_meet
        exact ⟨⟨rfl, rfl, rfl⟩, HW0.out.aft _ _⟩
      case rest =>
        obtain ⟨⟨rfl, rfl, rfl⟩, hnz⟩ := hcut
        obtain ⟨W8, rfl⟩ : ∃ W8 : World, W8 = wc := ⟨_, rfl⟩
        have HNZ := Lib.hid hnz
        have q1 := (hnz.cell hsz).trans p1
        have q2 := (hnz.cell hsz).trans p2
        have hs8 := hnz.size
        have HQ := Lib.hid (show (W8.cell? ⟨w.heap.size, 0, none⟩ = some (.int .i64 P1) ∧ W8.cell? ⟨w.heap.size, 1, none⟩ = some (.int .i64 P2')) ∧ w.heap.size < W8.heap.size from ⟨⟨q1, q2⟩, by omega⟩)
        clear hnz c1 c2 c3 c4 c5 c6 p1 p2 q1 q2
        go_upto_region 6 with fail
        go_cut [46] (fun s46 wz => s46 = .bool (decide (0 ≤ t1) && decide (0 ≤ t2) && decide (0 ≤ t3)) ∧ wz = W8)
        case first =>
          by_cases g1 : 0 ≤ t1
          · by_cases g2 : 0 ≤ t2
            · by_cases g3 : 0 ≤ t3
              · go_wp2_with fail
                go_meet
                exact ⟨by simp [g1, g2, g3], rfl⟩
              · go_wp2_with fail
                go_meet
                exact ⟨by rw [show decide (0 ≤ t3) = false by rw [decide_eq_false_iff_not]; omega]; simp, rfl⟩
            · go_wp2_with fail
              go_meet
              exact ⟨by rw [show decide (0 ≤ t2) = false by rw [decide_eq_false_iff_not]; omega]; simp, rfl⟩
          · go_wp2_with fail
            go_meet
            exact ⟨by rw [show decide (0 ≤ t1) = false by rw [decide_eq_false_iff_not]; omega]; simp, rfl⟩
        case rest =>
          obtain ⟨rfl, rfl⟩ := hcut
          obtain ⟨W8, rfl⟩ : ∃ W8 : World, W8 = wc := ⟨_, rfl⟩
          generalize (decide (0 ≤ t1) && decide (0 ≤ t2) && decide (0 ≤ t3)) = BI at *
          cases BI
          · skip
            go_upto_region 8 with fail
            go_cut [58] (fun s58 wz => s58 = .bool (decide (0 < t1) && decide (0 < t2) && decide (0 < t3)) ∧ wz = W8)
            case first =>
              by_cases g1 : 0 < t1
              · by_cases g2 : 0 < t2
                · by_cases g3 : 0 < t3
                  · go_wp2_with fail
                    go_meet
                    exact ⟨by simp [g1, g2, g3], rfl⟩
                  · go_wp2_with fail
                    go_meet
                    exact ⟨by rw [show decide (0 < t3) = false by rw [decide_eq_false_iff_not]; omega]; simp, rfl⟩
                · go_wp2_with fail
                  go_meet
                  exact ⟨by rw [show decide (0 < t2) = false by rw [decide_eq_false_iff_not]; omega]; simp, rfl⟩
              · go_wp2_with fail
                go_meet
                exact ⟨by rw [show decide (0 < t1) = false by rw [decide_eq_false_iff_not]; omega]; simp, rfl⟩
            case rest =>
              obtain ⟨rfl, rfl⟩ := hcut
              obtain ⟨W8, rfl⟩ : ∃ W8 : World, W8 = wc := ⟨_, rfl⟩
              generalize (decide (0 < t1) && decide (0 < t2) && decide (0 < t3)) = BS at *
              cases BS
              · go_wp2_with fail
                go_roundw
                case rel => exact ⟨k + 1, by omega, by go_num, by rw [HI'.out]; simp, by rw [HS'.out]; simp, HNW.out.trans HNZ.out, HQ.out.1, HQ.out.2⟩
                case measure => simp [intOf]; omega
              · go_wp2_with fail
                go_roundw
                case rel => exact ⟨k + 1, by omega, by go_num, by rw [HI'.out]; simp, by rw [HS'.out]; simp, HNW.out.trans HNZ.out, HQ.out.1, HQ.out.2⟩
                case measure => simp [intOf]; omega
          · skip
            go_upto_region 8 with fail
            go_cut [58] (fun s58 wz => s58 = .bool (decide (0 < t1) && decide (0 < t2) && decide (0 < t3)) ∧ wz = W8)
            case first =>
              by_cases g1 : 0 < t1
              · by_cases g2 : 0 < t2
                · by_cases g3 : 0 < t3
                  · go_wp2_with fail
                    go_meet
                    exact ⟨by simp [g1, g2, g3], rfl⟩
                  · go_wp2_with fail
                    go_meet
                    exact ⟨by rw [show decide (0 < t3) = false by rw [decide_eq_false_iff_not]; omega]; simp, rfl⟩
                · go_wp2_with fail
                  go_meet
                  exact ⟨by rw [show decide (0 < t2) = false by rw [decide_eq_false_iff_not]; omega]; simp, rfl⟩
              · go_wp2_with fail
                go_meet
                exact ⟨by rw [show decide (0 < t1) = false by rw [decide_eq_false_iff_not]; omega]; simp, rfl⟩
            case rest =>
              obtain ⟨rfl, rfl⟩ := hcut
              obtain ⟨W8, rfl⟩ : ∃ W8 : World, W8 = wc := ⟨_, rfl⟩
              generalize (decide (0 < t1) && decide (0 < t2) && decide (0 < t3)) = BS at *
              cases BS
              · go_wp2_with fail
                go_roundw
                case rel => exact ⟨k + 1, by omega, by go_num, by rw [HI'.out]; simp, by rw [HS'.out]; simp, HNW.out.trans HNZ.out, HQ.out.1, HQ.out.2⟩
                case measure => simp [intOf]; omega
              · go_wp2_with fail
                go_roundw
                case rel => exact ⟨k + 1, by omega, by go_num, by rw [HI'.out]; simp, by rw [HS'.out]; simp, HNW.out.trans HNZ.out, HQ.out.1, HQ.out.2⟩
                case measure => simp [intOf]; omega
    · obtain rfl : k = m := by omega
      have hkn : ¬ ((k : Int) < (k : Int)) := by omega
      go_wp2_with fail
      go_ret2
      exact ⟨rfl, HNW.out⟩
end Go.Proofs.YtpdfbboagaflhaaGreat

set_option linter.unusedSimpArgs false
set_option linter.unusedVariables false
namespace Go.Proofs.YtpdfbboagaflhaaGreat
open Go.RowKit

theorem tri_area {x : T6} (h : okL (triL x) = true) : areaI (triL x) = Geo.TT x.1 x.2.1 x.2.2 := by
  rw [Geo.areaI_A2 h (by simp [triL])]; exact Geo.A2_tri _ _ _
theorem tri_bd {x : T6} (h : okL (triL x) = true) : -200000000 ≤ Geo.TT x.1 x.2.1 x.2.2 ∧ Geo.TT x.1 x.2.1 x.2.2 ≤ 200000000 := by
  have b0 := okL_bd h 0
  have b1 := okL_bd h 1
  have b2 := okL_bd h 2
  have e0 : px (triL x) 0 = x.1.1 ∧ py (triL x) 0 = x.1.2 ∧ px (triL x) 1 = x.2.1.1 ∧ py (triL x) 1 = x.2.1.2 ∧ px (triL x) 2 = x.2.2.1 ∧ py (triL x) 2 = x.2.2.2 := ⟨rfl, rfl, rfl, rfl, rfl, rfl⟩
  obtain ⟨e1, e2, e3, e4, e5, e6⟩ := e0
  rw [e1, e2] at b0; rw [e3, e4] at b1; rw [e5, e6] at b2
  obtain ⟨p1, p2⟩ := mul_bd (x.2.1.1 - x.1.1) (x.2.2.2 - x.1.2) 10000 10000 (by omega) (by omega) (by omega) (by omega)
  obtain ⟨p3, p4⟩ := mul_bd (x.2.1.2 - x.1.2) (x.2.2.1 - x.1.1) 10000 10000 (by omega) (by omega) (by omega) (by omega)
  simp only [Int.reduceMul, Int.reduceNeg] at p1 p2 p3 p4
  unfold Geo.TT
  omega
/-- the areas of the first triangles -/
def sumA (T : List T6) : Nat → Int
  | 0 => 0
  | k + 1 => sumA T k + areaI (triL (t6 T k))
theorem sumA_bd {T : List T6} (h : ∀ x ∈ T, okL (triL x) = true) : ∀ k, k ≤ T.length → -(200000000 * (k : Int)) ≤ sumA T k ∧ sumA T k ≤ 200000000 * (k : Int)
  | 0, _ => by simp [sumA]
  | k + 1, hk => by
    have ih := sumA_bd h k (by omega)
    have hm : t6 T k ∈ T := by simp [t6, List.getD_eq_getElem?_getD, show k < T.length by omega]
    have hb := tri_bd (h _ hm)
    simp only [sumA]
    rw [tri_area (h _ hm)]
    omega
theorem sumA_all {T : List T6} (h : ∀ x ∈ T, okL (triL x) = true) : sumA T T.length = (T.map fun x => Geo.TT x.1 x.2.1 x.2.2).sum := by
  have : ∀ k, k ≤ T.length → sumA T k = ((T.take k).map fun x => Geo.TT x.1 x.2.1 x.2.2).sum := by
    intro k
    induction k with
    | zero => intro _; simp [sumA]
    | succ k ih =>
      intro hk
      have hm : t6 T k ∈ T := by simp [t6, List.getD_eq_getElem?_getD, show k < T.length by omega]
      have e : t6 T k = T[k] := by simp [t6, List.getD_eq_getElem?_getD, show k < T.length by omega]
      simp only [sumA]
      rw [ih (by omega), tri_area (h _ hm), ← List.take_append_getElem (show k < T.length by omega), List.map_append, List.sum_append, e]
      simp
  have := this T.length (Nat.le_refl _)
  rwa [List.take_length] at this
theorem norm_area {l : List P2} (hp : polyI l = 0) : Geo.A2 (normL l) = max (areaI l) (-(areaI l)) := by
  obtain ⟨s1, _, s3, s4, _, _, _⟩ := Geo.norm_self hp
  obtain ⟨hck, h3, hr, ha⟩ := polyI_ok hp
  obtain ⟨hl, hok⟩ := ckPts_zero hck
  have hb := (area_bends hp).1
  have ok1 : okL (normB l) = true := Geo.okL_mem hok fun v hv => Geo.bends_mem hv
  have len1 := Geo.bends_len l
  have e : normL l = rotL (normC l) (leastTo (normC l) (normC l).length) := rfl
  have e2 : Geo.A2 (normL l) = Geo.A2 (normC l) := by rw [e]; exact Geo.A2_perm (Geo.rot_EE _ _)
  rw [e2] at s3 ⊢
  unfold normC at s3 ⊢
  split
  · rename_i h
    rw [if_pos h] at s3
    rw [revTo_rev, Geo.A2_rev] at s3 ⊢
    rw [← Geo.areaI_A2 ok1 (by omega)] at s3 ⊢
    rw [hb] at s3 ⊢; omega
  · rename_i h
    rw [if_neg h] at s3
    rw [← Geo.areaI_A2 ok1 (by omega)] at s3 ⊢
    rw [hb] at s3 ⊢; omega
theorem cover_area {l : List P2} {T : List T6} (hc : Geo.Cover l T) (h : ∀ x ∈ T, okL (triL x) = true) : sumA T T.length = max (areaI l) (-(areaI l)) := by
  rw [sumA_all h, hc.area, norm_area hc.poly]
theorem TurnI_ok {a b p : P2} (ha : okP a.1 a.2 = true) (hb : okP b.1 b.2 = true) (hp : okP p.1 p.2 = true) : TurnI a.1 a.2 b.1 b.2 p.1 p.2 = turnI a.1 a.2 b.1 b.2 p.1 p.2 := by
  unfold TurnI
  rw [if_pos (by simp [okL, ha, hb, hp])]
theorem turn_pos (a b c d e f : Int) : decide (0 < turnI a b c d e f) = (turnI a b c d e f == 1) := by
  unfold turnI cmpI
  split
  · rfl
  · split <;> rfl
theorem tri_oks {x : T6} (h : okL (triL x) = true) : okP x.1.1 x.1.2 = true ∧ okP x.2.1.1 x.2.1.2 = true ∧ okP x.2.2.1 x.2.2.2 = true := by
  simp only [okL, triL, List.all_cons, List.all_nil, Bool.and_true, Bool.and_eq_true] at h
  exact ⟨h.1, h.2.1, h.2.2⟩
theorem inN_B {x : T6} {p : P2} (h : okL (triL x) = true) (hp : okP p.1 p.2 = true) : inN x p = Geo.inB x p ∧ insN x p = Geo.insB x p := by
  obtain ⟨h1, h2, h3⟩ := tri_oks h
  unfold inN insN Geo.inB Geo.insB inTriB
  rw [TurnI_ok h1 h2 hp, TurnI_ok h2 h3 hp, TurnI_ok h3 h1 hp, turn_pos, turn_pos, turn_pos]
  exact ⟨rfl, rfl⟩
theorem inCt_pos {T : List T6} {p : P2} : ∀ k, k ≤ T.length → (0 < inCt T p k ↔ ∃ j, j < k ∧ inN (t6 T j) p = true)
  | 0, _ => by simp [inCt]
  | k + 1, h => by
    have ih := inCt_pos (T := T) (p := p) k (by omega)
    simp only [inCt]
    constructor
    · intro g
      by_cases hk : inN (t6 T k) p = true
      · exact ⟨k, by omega, hk⟩
      · rw [if_neg hk] at g
        obtain ⟨j, hj, e⟩ := ih.1 (by omega)
        exact ⟨j, by omega, e⟩
    · rintro ⟨j, hj, e⟩
      by_cases hk : inN (t6 T k) p = true
      · rw [if_pos hk]; omega
      · have : j ≠ k := by rintro rfl; exact hk e
        have := ih.2 ⟨j, by omega, e⟩
        omega
theorem insCt_count {T : List T6} {p : P2} (h : ∀ x ∈ T, insN x p = Geo.insB x p) : ∀ k, k ≤ T.length → insCt T p k = (T.take k).countP (Geo.insB · p)
  | 0, _ => by simp [insCt]
  | k + 1, hk => by
    have ih := insCt_count h k (by omega)
    have hm : t6 T k ∈ T := by simp [t6, List.getD_eq_getElem?_getD, show k < T.length by omega]
    have e : t6 T k = T[k] := by simp [t6, List.getD_eq_getElem?_getD, show k < T.length by omega]
    simp only [insCt]
    rw [ih, h _ hm, ← List.take_append_getElem (show k < T.length by omega), List.countP_append, e]
    simp [List.countP_cons]
/-- what the law asks of points -/
theorem cover_points {l : List P2} {T : List T6} (hc : Geo.Cover l T) (h : ∀ x ∈ T, okL (triL x) = true) {p : P2} (hp : okP p.1 p.2 = true) : insCt T p T.length ≤ 1 ∧ (0 < inCt T p T.length ↔ WhereI l p.1 p.2 ≠ 0) := by
  have hB := fun x hx => inN_B (p := p) (h x hx) hp
  constructor
  · rw [insCt_count (fun x hx => (hB x hx).2) _ (Nat.le_refl _), List.take_length]
    exact hc.inside p
  · rw [inCt_pos _ (Nat.le_refl _)]
    have hw : WhereI l p.1 p.2 = whereI l p.1 p.2 := if_pos ⟨hp, hc.poly⟩
    rw [hw, ← hc.cover p]
    constructor
    · rintro ⟨j, hj, e⟩
      have hm : t6 T j ∈ T := by simp [t6, List.getD_eq_getElem?_getD, hj]
      exact ⟨_, hm, by rw [← (hB _ hm).1]; exact e⟩
    · rintro ⟨x, hx, e⟩
      obtain ⟨j, hj, rfl⟩ := List.getElem_of_mem hx
      exact ⟨j, hj, by rw [show t6 T j = T[j] by simp [t6, List.getD_eq_getElem?_getD, hj], (hB _ hx).1]; exact e⟩
end Go.Proofs.YtpdfbboagaflhaaGreat

set_option linter.unusedSimpArgs false
set_option linter.unusedVariables false
set_option maxRecDepth 100000
namespace Go.Proofs.YtpdfbboagaflhaaGreat
open Go.RowKit

theorem checkTris_all (w : World) (av : Option Addr) (n c : Nat) (l : List P2) (hl : l.length = n) (hn : n ≤ 1000) (hp : 0 < n → ∃ b off, av = some ⟨b, off, none⟩ ∧ Pts w b off n l)
    (av2 : Option Addr) (m c2 : Nat) (T : List T6) (hT : T.length = m) (hTp : 0 < m → ∃ b off, av2 = some ⟨b, off, none⟩ ∧ Tris w b off m T) :
    Calls Tryz.prog 62 #[.slice av n c, .slice av2 m c2] w fun en w' => en = .returned (.bool (ckT l T)) ∧ New w w' := by
  by_cases h0 : 0 < n
  · obtain ⟨b, off, rfl, hw⟩ := hp h0
    by_cases hpo : polyI l = 0
    · by_cases hm : m ≤ 400
      · have e : ckT l T = (T.all triOk && balB (Geo.chE (normL l) T)) := by unfold ckT; rw [decide_eq_true hpo, decide_eq_true (show T.length ≤ 400 by omega)]; rfl
        rw [e]
        exact checkTris_go b off n c av2 m c2 l T w h0 hn hw hpo hm hT hTp
      · have e : ckT l T = false := by unfold ckT; rw [decide_eq_false (show ¬ T.length ≤ 400 by omega)]; simp
        rw [e]
        exact checkTris_long _ (.slice none 0 0) av2 m c2 w (by omega) (Lib.hid ((normal_any b off n c l w hw hpo).mono (by rintro en w' ⟨v, e, _, hn⟩; exact ⟨v, e, hn⟩)))
    · have e : ckT l T = false := by unfold ckT; rw [decide_eq_false hpo]; rfl
      rw [e]
      exact checkTris_no _ av2 m c2 (polyI l) w hpo (Lib.hid (normal_no b off n c l w h0 (by omega) hw hpo))
  · obtain rfl : n = 0 := by omega
    have hl0 : l = [] := List.eq_nil_of_length_eq_zero hl
    subst hl0
    have e : ckT [] T = false := by unfold ckT; rw [decide_eq_false (by decide)]; rfl
    rw [e]
    exact checkTris_no _ av2 m c2 1 w (by decide) (Lib.hid (normal_nil av c w))

set_option maxHeartbeats 4000000 in
theorem cov_early (av : Option Addr) (n c : Nat) (l : List P2) (av2 : Option Addr) (m c2 : Nat) (T : List T6) (X Y : Int) (w : World) (hl : l.length = n) (hp : 0 < n → ∃ b off, av = some ⟨b, off, none⟩ ∧ Pts w b off n l) (hT : T.length = m) (hTp : 0 < m → ∃ b off, av2 = some ⟨b, off, none⟩ ∧ Tris w b off m T)
    (h : 40 < n ∨ 500 < m ∨ (n ≤ 40 ∧ m ≤ 500 ∧ ckT l T = false)) :
    Calls Tryz.prog 20 #[.slice av n c, .slice av2 m c2, pv X Y] w fun e w' => e = .returned (.bool true) ∧ New w w' := by
  have HL := Lib.hid alive_c
  by_cases h1 : 40 < n
  · have k1 : (40 : Int) < (n : Int) := by omega
    clear hp hTp h
    go_enter Tryz.func20, Tryz.ntmps20
    go_wp2_with (go_at_call 31; refine (HL.out _).mono ?_; rintro e w2 ⟨rfl, hn⟩; have HN1 := Lib.hid (show New w w2 from ((New.refl w).alloc _).trans hn); clear hn)
    go_ret; exact ⟨rfl, HN1.out⟩
  · by_cases h2 : 500 < m
    · have k1 : ¬ (40 : Int) < (n : Int) := by omega
      have k2 : (500 : Int) < (m : Int) := by omega
      clear hp hTp h
      go_enter Tryz.func20, Tryz.ntmps20
      go_wp2_with (go_at_call 31; refine (HL.out _).mono ?_; rintro e w2 ⟨rfl, hn⟩; have HN1 := Lib.hid (show New w w2 from ((New.refl w).alloc _).trans hn); clear hn)
      go_ret; exact ⟨rfl, HN1.out⟩
    · have hf : ckT l T = false := by rcases h with h | h | h; omega; omega; exact h.2.2
      have k1 : ¬ (40 : Int) < (n : Int) := by omega
      have k2 : ¬ (500 : Int) < (m : Int) := by omega
      have HC := Lib.hid (fun (w1 : World) (h1 : New w w1) => checkTris_all w1 av n c l hl (by omega) (fun h0 => by obtain ⟨b, off, e, hw⟩ := hp h0; exact ⟨b, off, e, hw.new h1⟩) av2 m c2 T hT (fun h0 => by obtain ⟨b, off, e, hw⟩ := hTp h0; exact ⟨b, off, e, hw.new h1⟩))
      rw [hf] at HC
      clear hp hTp h hf
      go_enter Tryz.func20, Tryz.ntmps20
      go_wp2_with (first | (go_at_call 62; refine (HC.out _ (by (repeat (first | exact New.refl _ | apply New.alloc | apply New.aft | apply New.drew | refine New.setCell ?_ ?_ _)); all_goals (first | done | (simp [size_aft]; done) | (simp [size_aft]; omega)))).mono ?_; rintro e w2 ⟨rfl, hn⟩; have HN0 := Lib.hid (show New w w2 from ((New.refl w).alloc _).trans hn); clear hn) | (go_at_call 31; refine (HL.out _).mono ?_; rintro e w3 ⟨rfl, hn⟩; have HN1 := Lib.hid (show New w w3 from HN0.out.trans hn); clear hn))
      go_ret; exact ⟨rfl, HN1.out⟩

set_option maxHeartbeats 8000000 in
theorem cov_go (b off n c : Nat) (l : List P2) (av2 : Option Addr) (m c2 : Nat) (T : List T6) (X Y : Int) (w : World) (h0 : 0 < n) (hn : n ≤ 40) (hw : Pts w b off n l) (hT : T.length = m) (hTp : 0 < m → ∃ b off, av2 = some ⟨b, off, none⟩ ∧ Tris w b off m T) (hck : ckT l T = true) :
    Calls Tryz.prog 20 #[.slice (some ⟨b, off, none⟩) n c, .slice av2 m c2, pv X Y] w fun e w' => e = .returned (.bool true) ∧ New w w' := by
  obtain ⟨g1, g2, g3⟩ := ckT_cover.1 hck
  have HL := Lib.hid alive_c
  have HC := Lib.hid (fun (w1 : World) (h1 : New w w1) => checkTris_all w1 (some ⟨b, off, none⟩) n c l hw.1 (by omega) (fun _ => ⟨b, off, rfl, hw.new h1⟩) av2 m c2 T hT (fun h0 => by obtain ⟨b, off, e, hw⟩ := hTp h0; exact ⟨b, off, e, hw.new h1⟩))
  rw [hck] at HC
  have HTR := Lib.hid (show ∀ k, k < m → ∃ tb tf, av2 = some ⟨tb, tf, none⟩ ∧ Tris w tb tf m T from fun k hk => hTp (by omega))
  have HA3 := Lib.hid (fun (k : Nat) (hk : k < m) (w1 : World) (g : Nat) (hg : Pts w1 g 0 3 (triL (t6 T k))) => area2_c g 0 3 3 (triL (t6 T k)) w1 (by omega) (by omega) hg)
  have HAR := Lib.hid (fun (w1 : World) (h1 : New w w1) => area2_c b off n c l w1 h0 (by omega) (hw.new h1))
  have HCP := Lib.hid (fun w1 => checkPoint_c X Y w1)
  have HCT := Lib.hid (fun (w1 : World) (h1 : New w w1) => counted_c av2 m c2 T X Y w1 (by omega) hT (fun h0 => by obtain ⟨b, off, e, hw⟩ := hTp h0; exact ⟨b, off, e, hw.new h1⟩))
  have HWH := Lib.hid (fun (w1 : World) (h1 : New w w1) => Where_c b off n c l X Y w1 h0 (by omega) (hw.new h1))
  have HSA := Lib.hid (show sumA T m = max (areaI l) (-(areaI l)) by rw [← hT]; exact cover_area g3 g2)
  have HSB := Lib.hid (show ∀ k, k ≤ m → -(200000000 * (k : Int)) ≤ sumA T k ∧ sumA T k ≤ 200000000 * (k : Int) from fun k hk => sumA_bd g2 k (by omega))
  have HSS := Lib.hid (show ∀ k, sumA T (k + 1) = sumA T k + areaI (triL (t6 T k)) from fun k => rfl)
  have HAB := Lib.hid (show ∀ k, k < m → -200000000 ≤ areaI (triL (t6 T k)) ∧ areaI (triL (t6 T k)) ≤ 200000000 from fun k hk => by
    have hm : t6 T k ∈ T := by simp [t6, List.getD_eq_getElem?_getD, show k < T.length by omega]
    rw [tri_area (g2 _ hm)]; exact tri_bd (g2 _ hm))
  have HPT := Lib.hid (show okP X Y = true → (insCt T (X, Y) m ≤ 1 ∧ (0 < inCt T (X, Y) m ↔ WhereI l X Y ≠ 0)) from fun hp => by rw [← hT]; exact cover_points g3 g2 (p := (X, Y)) hp)
  have HM := Lib.hid (show m ≤ 400 by omega)
  have k1 : ¬ (40 : Int) < (n : Int) := by omega
  have k2 : ¬ (500 : Int) < (m : Int) := by omega
  have ab := HSB.out m (Nat.le_refl _)
  have asum := HSA.out
  have a1 : -80000000000 ≤ areaI l := by omega
  have a2 : areaI l ≤ 80000000000 := by omega
  clear hw hTp hck g1 g2 g3 ab asum hT
  generalize hAR : areaI l = AR at *
  clear hAR
  go_enter Tryz.func20, Tryz.ntmps20
  go_wp2_with (go_at_call 62; refine (HC.out _ (by (repeat (first | exact New.refl _ | apply New.alloc | apply New.aft | apply New.drew | refine New.setCell ?_ ?_ _)); all_goals (first | done | (simp [size_aft]; done) | (simp [size_aft]; omega)))).mono ?_; rintro e w2 ⟨rfl, hn⟩; have x0 : w2.cell? ⟨w.heap.size, 0, none⟩ = some (.int .i64 X) := (hn.below.cell (p := ⟨w.heap.size, 0, none⟩) (by simp)).trans (by simp [go_sem]); have x1 : w2.cell? ⟨w.heap.size, 1, none⟩ = some (.int .i64 Y) := (hn.below.cell (p := ⟨w.heap.size, 1, none⟩) (by simp)).trans (by simp [go_sem]); have HX := Lib.hid (And.intro x0 x1); have HN0 := Lib.hid (show New w w2 from ((New.refl w).alloc _).trans hn); have hl2 := cell_lt x0; clear hn)
  go_loopw [7, 30] (fun s7 i wr => ∃ k : Nat, k ≤ m ∧ i = .int .i64 k ∧ s7 = .int .i64 (sumA T k) ∧ New w2 wr) (fun _ i _ => m - (intOf i).toNat)
  case atStart => exact ⟨0, Nat.zero_le _, rfl, rfl, New.refl _⟩
  case round =>
    obtain ⟨wx, rfl⟩ : ∃ wx : World, wx = wr := ⟨_, rfl⟩
    obtain ⟨k, hk, rfl, rfl, hnw⟩ := hrel
    have HNW := Lib.hid hnw
    by_cases hlt : k < m
    · obtain ⟨tb, tf, rfl, htr⟩ := HTR.out k hlt
      have htr2 := htr.new (HN0.out.trans hnw)
      obtain ⟨⟨c1, c2'⟩, ⟨c3, c4⟩, c5, c6⟩ := htr2.2.2 k hlt
      have htb : tb < wx.heap.size := htr2.2.1
      have A3 := Lib.hid (HA3.out k hlt)
      have sb := HSB.out k hk
      have sa := HAB.out k hlt
      have HS1 := Lib.hid (HSS.out k)
      have hm4 := HM.out
      clear htr htr2 hnw
      generalize hx : t6 T k = x at *
      clear hx
      obtain ⟨⟨A1, A2⟩, ⟨B1, B2⟩, C1, C2⟩ := x
      simp only at c1 c2' c3 c4 c5 c6
      generalize hSK : sumA T k = SK at *
      generalize hAK : areaI (triL ((A1, A2), (B1, B2), C1, C2)) = AK at *
      clear hSK hAK
      have b1 : -90000000000 ≤ SK := by omega
      have b2 : SK ≤ 90000000000 := by omega
      go_wp2_with (go_at_call 46; go_must (refine (A3.out _ (wx.heap.size + 1) (ptsT3 (by simp) (by simp [go_sem]) (by simp [go_sem]) (by simp [go_sem]) (by simp [go_sem]) (by simp [go_sem]) (by simp [go_sem]))).mono ?_; rintro en w3 ⟨rfl, hn3⟩; have HN3 := Lib.hid (show New wx w3 from (((New.refl wx).alloc _).alloc _).trans hn3); clear hn3))
      go_roundw
      case rel => exact ⟨k + 1, by omega, by go_num, by rw [HS1.out], HNW.out.trans HN3.out⟩
      case measure => simp [intOf]; omega
    · obtain rfl : k = m := by omega
      have hkn : ¬ ((k : Int) < (k : Int)) := by omega
      have y0 := (hnw.cell hl2).trans HX.out.1
      have y1 := (hnw.cell hl2).trans HX.out.2
      have hl3 : w.heap.size < wx.heap.size := cell_lt y0
      have HY := Lib.hid (And.intro y0 y1)
      have sm := HSA.out
      generalize hSM : sumA T k = SM at *
      have HSM := Lib.hid sm
      clear hSM sm hnw
      have q1 : (SM != max AR (-AR)) = false := by rw [HSM.out]; simp
      by_cases hok : okP X Y = true
      · obtain ⟨p1, p2⟩ := HPT.out hok
        have HCP' := Lib.hid (fun w1 => show Calls Tryz.prog 29 #[pv X Y] w1 fun e w' => e = .returned (.int .i64 0) ∧ New w1 w' from by have := HCP.out w1; rw [okErr_yes hok] at this; exact this)
        have HIL := Lib.hid (inCt_le T (X, Y) k)
        have HP2 := Lib.hid p2
        clear p2 hok HCP
        generalize hIK : inCt T (X, Y) k = IK at *
        generalize hSK : insCt T (X, Y) k = SK at *
        generalize hWV : WhereI l X Y = WV at *
        clear hIK hSK hWV
        have r1 : (SK : Int) ≤ 1 := by omega
        by_cases hin : 0 < IK
        · have r2 : (0 : Int) < (IK : Int) := by omega
          have r3 : (WV != 0) = true := by simpa using HP2.out.1 hin
          clear hin
          go_wp2_with (first | (go_at_call 46; go_must (refine (HAR.out _ (HN0.out.trans HNW.out)).mono ?_; rintro en w4 ⟨rfl, hn⟩; have z0 := (hn.cell hl3).trans HY.out.1; have z1 := (hn.cell hl3).trans HY.out.2; have HN4 := Lib.hid hn; have hl4 : w.heap.size < w4.heap.size := cell_lt z0; clear hn)) | (go_at_call 29; go_must (refine (HCP'.out _).mono ?_; rintro en w5 ⟨rfl, hn⟩; have t0 := (hn.cell hl4).trans z0; have t1 := (hn.cell hl4).trans z1; have HN5 := Lib.hid hn; have hl5 : w.heap.size < w5.heap.size := cell_lt t0; clear hn)) | (go_at_call 81; go_must (refine (HCT.out _ (HN0.out.trans (HNW.out.trans (HN4.out.trans HN5.out)))).mono ?_; rintro en w6 ⟨rfl, hn⟩; have u0 := (hn.cell hl5).trans t0; have u1 := (hn.cell hl5).trans t1; have HN6 := Lib.hid hn; have hl6 : w.heap.size < w6.heap.size := cell_lt u0; clear hn)) | (go_at_call 31; go_must (refine (HL.out _).mono ?_; rintro en w7 ⟨rfl, hn⟩; have v0 := (hn.cell hl6).trans u0; have v1 := (hn.cell hl6).trans u1; have HN7 := Lib.hid hn; clear hn)) | (go_at_call 53; go_must (refine (HWH.out _ (HN0.out.trans (HNW.out.trans (HN4.out.trans (HN5.out.trans (HN6.out.trans HN7.out)))))).mono ?_; rintro en w8 ⟨rfl, hn⟩; have HN8 := Lib.hid hn; clear hn)))
          go_ret
          exact ⟨ret_bool (by simp; omega), HN0.out.trans (HNW.out.trans (HN4.out.trans (HN5.out.trans (HN6.out.trans (HN7.out.trans HN8.out)))))⟩
        · have r2 : ¬ (0 : Int) < (IK : Int) := by omega
          have r3 : (WV != 0) = false := by
            rw [bne_eq_false_iff_eq]
            exact Classical.byContradiction fun g => hin (HP2.out.2 g)
          clear hin
          go_wp2_with (first | (go_at_call 46; go_must (refine (HAR.out _ (HN0.out.trans HNW.out)).mono ?_; rintro en w4 ⟨rfl, hn⟩; have z0 := (hn.cell hl3).trans HY.out.1; have z1 := (hn.cell hl3).trans HY.out.2; have HN4 := Lib.hid hn; have hl4 : w.heap.size < w4.heap.size := cell_lt z0; clear hn)) | (go_at_call 29; go_must (refine (HCP'.out _).mono ?_; rintro en w5 ⟨rfl, hn⟩; have t0 := (hn.cell hl4).trans z0; have t1 := (hn.cell hl4).trans z1; have HN5 := Lib.hid hn; have hl5 : w.heap.size < w5.heap.size := cell_lt t0; clear hn)) | (go_at_call 81; go_must (refine (HCT.out _ (HN0.out.trans (HNW.out.trans (HN4.out.trans HN5.out)))).mono ?_; rintro en w6 ⟨rfl, hn⟩; have u0 := (hn.cell hl5).trans t0; have u1 := (hn.cell hl5).trans t1; have HN6 := Lib.hid hn; have hl6 : w.heap.size < w6.heap.size := cell_lt u0; clear hn)) | (go_at_call 31; go_must (refine (HL.out _).mono ?_; rintro en w7 ⟨rfl, hn⟩; have v0 := (hn.cell hl6).trans u0; have v1 := (hn.cell hl6).trans u1; have HN7 := Lib.hid hn; clear hn)) | (go_at_call 53; go_must (refine (HWH.out _ (HN0.out.trans (HNW.out.trans (HN4.out.trans (HN5.out.trans (HN6.out.trans HN7.out)))))).mono ?_; rintro en w8 ⟨rfl, hn⟩; have HN8 := Lib.hid hn; clear hn)))
          go_ret
          exact ⟨ret_bool (by simp; omega), HN0.out.trans (HNW.out.trans (HN4.out.trans (HN5.out.trans (HN6.out.trans (HN7.out.trans HN8.out)))))⟩
      · have HCP' := Lib.hid (fun w1 => show Calls Tryz.prog 29 #[pv X Y] w1 fun e w' => e = .returned (.int .i64 1) ∧ New w1 w' from by have := HCP.out w1; rw [okErr_no (by simpa using hok)] at this; exact this)
        clear hok HCP HPT
        go_wp2_with (first | (go_at_call 46; go_must (refine (HAR.out _ (HN0.out.trans HNW.out)).mono ?_; rintro en w4 ⟨rfl, hn⟩; have z0 := (hn.cell hl3).trans HY.out.1; have z1 := (hn.cell hl3).trans HY.out.2; have HN4 := Lib.hid hn; have hl4 : w.heap.size < w4.heap.size := cell_lt z0; clear hn)) | (go_at_call 29; go_must (refine (HCP'.out _).mono ?_; rintro en w5 ⟨rfl, hn⟩; have t0 := (hn.cell hl4).trans z0; have t1 := (hn.cell hl4).trans z1; have HN5 := Lib.hid hn; have hl5 : w.heap.size < w5.heap.size := cell_lt t0; clear hn)) | (go_at_call 31; go_must (refine (HL.out _).mono ?_; rintro en w6 ⟨rfl, hn⟩; have HN6 := Lib.hid hn; clear hn)))
        go_ret
        exact ⟨rfl, HN0.out.trans (HNW.out.trans (HN4.out.trans (HN5.out.trans HN6.out)))⟩

theorem planeCovers_all (w : World) (av : Option Addr) (n c : Nat) (l : List P2) (hl : l.length = n) (hp : 0 < n → ∃ b off, av = some ⟨b, off, none⟩ ∧ Pts w b off n l) (av2 : Option Addr) (m c2 : Nat) (T : List T6) (hT : T.length = m) (hTp : 0 < m → ∃ b off, av2 = some ⟨b, off, none⟩ ∧ Tris w b off m T) (X Y : Int) :
    Calls Tryz.prog 20 #[.slice av n c, .slice av2 m c2, pv X Y] w fun e w' => e = .returned (.bool true) ∧ New w w' := by
  by_cases h1 : n ≤ 40 ∧ m ≤ 500 ∧ ckT l T = true
  · obtain ⟨a1, a2, a3⟩ := h1
    have h0 : 0 < n := by
      have := (ckT_cover.1 a3).2.2.poly
      have := (polyI_ok this).2.1
      omega
    obtain ⟨b, off, rfl, hw⟩ := hp h0
    exact cov_go b off n c l av2 m c2 T X Y w h0 a1 hw hT hTp a3
  · refine cov_early av n c l av2 m c2 T X Y w hl hp hT hTp ?_
    by_cases g1 : 40 < n
    · exact .inl g1
    · by_cases g2 : 500 < m
      · exact .inr (.inl g2)
      · refine .inr (.inr ⟨by omega, by omega, ?_⟩)
        cases h : ckT l T
        · rfl
        · exact absurd ⟨by omega, by omega, h⟩ h1
end Go.Proofs.YtpdfbboagaflhaaGreat
