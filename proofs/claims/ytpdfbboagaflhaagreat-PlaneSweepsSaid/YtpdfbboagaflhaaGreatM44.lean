/- The numbers of alive's own calls. -/
import Derived.Test.YtpdfbboagaflhaaGreatM37
import Derived.Test.YtpdfbboagaflhaaGreatM39
import Derived.Test.YtpdfbboagaflhaaGreatM43
import Derived.Test.YtpdfbboagaflhaaGreatM17
import Derived.Test.YtpdfbboagaflhaaGreatM12
import Derived.Test.YtpdfbboagaflhaaGreatM15
import Derived.Deep.RegionHeld3
import Derived.Deep.QuietTactic
import Derived.BigQuiet
import Derived.Outline

namespace Go.Proofs.YtpdfbboagaflhaaGreat
open Go.RowKit

def sqL : List P2 := [(0, 0), (4, 0), (4, 4), (0, 4)]
def noL : List P2 := [(4, 4), (4, 2), (4, 0), (0, 0)]
def huL : List P2 := [(0, 0), (2, 0), (4, 0), (2, 1)]
def spL : List S4 := [(0, 0, 4, 0), (2, 0, 2, 3)]
def swL : List S4 := [(0, 0, 4, 0), (1, 2, 3, 1)]

theorem no_poly : polyI noL = 0 := by decide
theorem no_norm : normL noL = [(0, 0), (4, 0), (4, 4)] := by decide
theorem no_len : (normB noL).length = 3 := by decide
theorem sq_poly : polyI sqL = 0 := by decide
theorem sq_len : (normB sqL).length = 4 := by decide
theorem sq_norm : normL sqL = sqL := by decide
theorem sq_tris : trisL sqL = [((0, 4), (0, 0), (4, 0)), ((4, 0), (4, 4), (0, 4))] := by decide
theorem hu_sort : sortP huL = [(0, 0), (2, 0), (2, 1), (4, 0)] := by
  unfold sortP huL
  rw [ltOf_cfP_eq]
  simp [List.mergeSort, lessP]
theorem hu_pts : ptsL huL = [(0, 0), (2, 0), (2, 1), (4, 0)] := by
  unfold ptsL; rw [hu_sort]; decide
theorem hu_hull : hullL huL = [(0, 0), (4, 0), (2, 1)] := by
  unfold hullL belowL aboveL; rw [hu_pts]; decide
theorem bdL_of (l : List P2) (h : ∀ p ∈ l, (-40000 ≤ p.1 ∧ p.1 ≤ 40000) ∧ (-40000 ≤ p.2 ∧ p.2 ≤ 40000)) : bdL l := by
  intro i
  by_cases hi : i < l.length
  · have := h _ (List.getElem_mem hi)
    simpa [px, py, List.getD_eq_getElem?_getD, hi] using this
  · simp [px, py, List.getD_eq_getElem?_getD, hi]

def enL : List P2 := [(0, 0), (4, 0), (2, 0), (2, 3)]
theorem sp_ends : endsTo spL 2 = enL := by decide
theorem sp_cut1 : sortP (cutsTo enL 0 0 4 0 4) = [(0, 0), (0, 0), (2, 0), (4, 0), (4, 0)] := by
  rw [show cutsTo enL 0 0 4 0 4 = [(0, 0), (4, 0), (0, 0), (4, 0), (2, 0)] by decide]
  unfold sortP
  rw [ltOf_cfP_eq]
  simp [List.mergeSort, lessP]
theorem sp_cut2 : sortP (cutsTo enL 2 0 2 3 4) = [(2, 0), (2, 0), (2, 3), (2, 3)] := by
  rw [show cutsTo enL 2 0 2 3 4 = [(2, 0), (2, 3), (2, 0), (2, 3)] by decide]
  unfold sortP
  rw [ltOf_cfP_eq]
  simp [List.mergeSort, lessP]
theorem sp_pc1 : piecesL enL 0 0 4 0 = [(0, 0, 2, 0), (2, 0, 4, 0)] := by
  unfold piecesL cutsL
  rw [show enL.length = 4 from rfl, sp_cut1, show (cutsTo enL 0 0 4 0 4).length = 5 by decide]
  decide
theorem sp_pc2 : piecesL enL 2 0 2 3 = [(2, 0, 2, 3)] := by
  unfold piecesL cutsL
  rw [show enL.length = 4 from rfl, sp_cut2, show (cutsTo enL 2 0 2 3 4).length = 4 by decide]
  decide
theorem sp_parts : partsTo spL enL 2 = [(0, 0, 2, 0), (2, 0, 4, 0), (2, 0, 2, 3)] := by
  show ([] ++ piecesL enL (q1 spL 0) (q2 spL 0) (q3 spL 0) (q4 spL 0)) ++ piecesL enL (q1 spL 1) (q2 spL 1) (q3 spL 1) (q4 spL 1) = _
  rw [show q1 spL 0 = 0 from rfl, show q2 spL 0 = 0 from rfl, show q3 spL 0 = 4 from rfl, show q4 spL 0 = 0 from rfl, show q1 spL 1 = 2 from rfl, show q2 spL 1 = 0 from rfl, show q3 spL 1 = 2 from rfl, show q4 spL 1 = 3 from rfl, sp_pc1, sp_pc2]
  rfl
theorem sp_split : splitL spL = [(0, 0, 2, 0), (2, 0, 2, 3), (2, 0, 4, 0)] := by
  unfold splitL
  rw [show spL.length = 2 from rfl, sp_ends, sp_parts]
  have : sortS [(0, 0, 2, 0), (2, 0, 4, 0), (2, 0, 2, 3)] = [(0, 0, 2, 0), (2, 0, 2, 3), (2, 0, 4, 0)] := by
    unfold sortS
    rw [ltOf_cfS_eq]
    simp [List.mergeSort, lessS]
  rw [this]
  decide

theorem sw_xs : endXsL swL = [0, 1, 3, 4] := by
  unfold endXsL
  rw [show xsTo swL swL.length = [0, 4, 1, 3] by decide]
  have : sortI [0, 4, 1, 3] = [0, 1, 3, 4] := by unfold sortI; simp [List.mergeSort]
  rw [this]
  decide
theorem sw_at (k : Nat) : 0 ≤ xAt swL k ∧ xAt swL k ≤ 10000 := by
  unfold xAt
  rw [sw_xs]
  match k with
  | 0 => decide
  | 1 => decide
  | 2 => decide
  | 3 => decide
  | k + 4 => simp
theorem sw_span (k : Nat) (h : k + 1 < (endXsL swL).length) : 0 < (spanI swL k).length := by
  have h2 := h
  rw [sw_xs] at h2
  unfold spanI xAt
  rw [sw_xs]
  match k, h2 with
  | 0, _ => decide
  | 1, _ => decide
  | 2, _ => decide
  | k + 3, h => simp at h; omega
theorem sw_pile : pileL swL 1 = [(0, 8, 0), (6, 4, 1)] := by
  unfold pileL spanN spanI xAt
  rw [sw_xs]
  decide
theorem ins_two {α : Type} [Inhabited α] (lt : α → α → Bool) (d : Array α) (h : lt d[1]! d[0]! = false) : Go.Sort.insertionSort lt d 0 2 = d := by
  unfold Go.Sort.insertionSort
  rw [Go.Sort.insOuter, if_pos (by omega), Go.Sort.insOuter, if_neg (by omega)]
  simp only [Go.Sort.insInner, h]
  simp
theorem sw_segs : segsL swL 1 = [0, 1] := by
  unfold segsL pileS
  rw [sw_pile]
  unfold sortH
  rw [show (([(0, 8, 0), (6, 4, 1)] : List H3).map toHB).length = 2 from rfl, ins_two _ _ (by decide)]
  decide
theorem heightsTo_mem (l : List S4) (L : List Nat) (x : Int) : ∀ (n : Nat) (h : H3), h ∈ heightsTo l L x n → ∃ j, j < n ∧ h = (hgtN l x (nat L j), hgtW l (nat L j), (nat L j : Int))
  | 0, h, hh => by simp [heightsTo] at hh
  | n + 1, h, hh => by
    simp only [heightsTo] at hh
    rcases List.mem_append.1 hh with h1 | h1
    · obtain ⟨j, hj, e⟩ := heightsTo_mem l L x n h h1
      exact ⟨j, by omega, e⟩
    · simp at h1
      exact ⟨n, by omega, h1⟩
theorem okS_bd {a b c d : Int} (h : okS a b c d = true) : (0 ≤ a ∧ a ≤ 10000) ∧ (0 ≤ b ∧ b ≤ 10000) ∧ (0 ≤ c ∧ c ≤ 10000) ∧ (0 ≤ d ∧ d ≤ 10000) := by
  simp only [okS, Bool.and_eq_true, okP_iff] at h
  omega
theorem pile_ok {l : List S4} (hok : okSegs l = true) (hx : ∀ k, 0 ≤ xAt l k ∧ xAt l k ≤ 10000) (k : Nat) (h : H3) (hh : h ∈ pileL l k) : hOk h := by
  obtain ⟨j, hj, rfl⟩ := heightsTo_mem _ _ _ _ _ hh
  have h2 := (spanN_at l k j hj).2
  obtain ⟨a, b, c, d⟩ := okS_bd (okSegs_at l _ h2 hok)
  have h3 := hx k
  have h4 := hx (k + 1)
  have := h_bd _ _ _ _ (xAt l k + xAt l (k + 1)) a b c d (by omega)
  exact ⟨this.2, this.1⟩

end Go.Proofs.YtpdfbboagaflhaaGreat

/- alive answers true, and lays new blocks alone. -/
namespace Go.Proofs.YtpdfbboagaflhaaGreat
open Go.RowKit

theorem name_wp {P : Program} {c : Code} {Q : Exit → Act → World → Prop} {a : Act} {W : World} (h : ∀ Wn, Wn = W → c.wp P Q a Wn) : c.wp P Q a W := h _ rfl
theorem name_calls {P : Program} {f : FuncId} {args : Array Value} {W : World} {R : Ending → World → Prop} (h : ∀ Wn, Wn = W → Calls P f args Wn R) : Calls P f args W R := h _ rfl


theorem pts_new {W0 W : World} {cs : Array Value} {l : List P2} {n : Nat} (h : W = W0.alloc (.cells cs 23)) (hc : cs = (ptCells l).toArray) (hn : l.length = n) (hl : n ≤ 1000) : Pts W W0.heap.size 0 n l := by
  refine pts_own (base := 0) (cap := n) (own_mk (cur := cs) (by rw [ptCells_length, hn]) (Nat.zero_le _) (by rw [h]; exact World.alloc_heap_new W0 _) (Nat.le_refl _) (by unfold maxLen; omega) (by rw [hc, List.size_toArray, ptCells_length, hn]) ?_) hn
  rw [hc, List.take_of_length_le (by simp [ptCells_length, hn])]
theorem segs_new {W0 W : World} {cs : Array Value} {l : List S4} {n : Nat} (h : W = W0.alloc (.cells cs 30)) (hc : cs = (segCells l).toArray) (hn : l.length = n) (hl : n ≤ 1000) : Segs W W0.heap.size 0 n l := by
  refine segs_own (base := 0) (cap := n) (own_mk (cur := cs) (by rw [segCells_length, hn]) (Nat.zero_le _) (by rw [h]; exact World.alloc_heap_new W0 _) (Nat.le_refl _) (by unfold maxLen; omega) (by rw [hc, List.size_toArray, segCells_length, hn]) ?_) hn
  rw [hc, List.take_of_length_le (by simp [segCells_length, hn])]

theorem normal_alive (b : Nat) (w : World) (hw : Pts w b 0 4 noL) : Calls Tryz.prog 50 #[.slice (some ⟨b, 0, none⟩) 4 4] w fun e w' => ∃ g cap, e = .returned (.tuple #[.slice (some ⟨g, 0, none⟩) 3 cap, .int .i64 0]) ∧ Pts w' g 0 3 [(0, 0), (4, 0), (4, 4)] ∧ New w w' := by
  refine (normal_yes b 0 4 4 noL w (by omega) (by omega) hw no_poly (by rw [no_len]; omega)).mono ?_
  rw [no_len, no_norm]
  rintro e w' ⟨g, cap, he, ho, hn⟩
  exact ⟨g, cap, he, pts_own ho rfl, hn⟩
theorem tris_alive (b : Nat) (w : World) (hw : Pts w b 0 4 sqL) : Calls Tryz.prog 59 #[.slice (some ⟨b, 0, none⟩) 4 4] w fun e w' => ∃ g cap, e = .returned (.tuple #[.slice (some ⟨g, 0, none⟩) 2 cap, .int .i64 0]) ∧ ((w'.cell? ⟨g, 0, none⟩ = some (.int .i64 0) ∧ w'.cell? ⟨g, 1, none⟩ = some (.int .i64 4)) ∧ (w'.cell? ⟨g, 2, none⟩ = some (.int .i64 0) ∧ w'.cell? ⟨g, 3, none⟩ = some (.int .i64 0)) ∧ (w'.cell? ⟨g, 4, none⟩ = some (.int .i64 4) ∧ w'.cell? ⟨g, 5, none⟩ = some (.int .i64 0))) ∧ g < w'.heap.size ∧ New w w' := by
  refine (triangles_yes b 0 4 4 sqL w (by omega) (by omega) hw sq_poly (by rw [sq_len]; omega) (by rw [sq_norm]; exact bdL_of _ (by decide))).mono ?_
  rw [sq_tris]
  rintro e w' ⟨g, cap, he, ho, hn⟩
  exact ⟨g, cap, he, ⟨⟨(own_cell ho rfl).1, (own_cell ho rfl).1⟩, ⟨(own_cell ho rfl).1, (own_cell ho rfl).1⟩, (own_cell ho rfl).1, (own_cell ho rfl).1⟩, (ho.lt g rfl).2, hn⟩
theorem hull_alive (b : Nat) (w : World) (hw : Pts w b 0 4 huL) : Calls Tryz.prog 57 #[.slice (some ⟨b, 0, none⟩) 4 4] w fun e w' => ∃ g cap, e = .returned (.tuple #[.slice (some ⟨g, 0, none⟩) 3 cap, .int .i64 0]) ∧ Pts w' g 0 3 [(0, 0), (4, 0), (2, 1)] ∧ New w w' := by
  refine (hull_many b 0 4 4 huL w (by omega) (by omega) hw (by decide) (by rw [hu_pts]; decide) (by rw [hu_pts]; exact bdL_of _ (by decide)) (by rw [hu_pts]; exact bdL_of _ (by decide))).mono ?_
  rw [hu_hull]
  rintro e w' ⟨g, cap, he, ho, hn⟩
  exact ⟨g, cap, he, pts_own ho rfl, hn⟩
theorem apart_of {l : List S4} (h2 : l.length = 2) (h0 : ckSegs l = 0) (h1 : crB l 0 1 = false) (en : Ending) (h : ApartIs l en) : en = .returned (.int .i64 0) := by
  rcases h with ⟨h, _⟩ | ⟨_, _, h⟩ | ⟨_, ⟨i, j, hi, hj, h⟩, _⟩
  · exact absurd h0 h
  · exact h
  · have : i = 0 := by omega
    have : j = 1 := by omega
    subst_vars
    rw [h1] at h; cases h
theorem sp_bd : bdS spL := by
  intro i
  match i with
  | 0 => decide
  | 1 => decide
  | i + 2 => simp [spL, q1, q2, q3, q4]
theorem split_alive (b : Nat) (w : World) (hw : Segs w b 0 2 spL) : Calls Tryz.prog 66 #[.slice (some ⟨b, 0, none⟩) 2 2] w fun e w' => ∃ g cap, e = .returned (.tuple #[.slice (some ⟨g, 0, none⟩) 3 cap, .int .i64 0]) ∧ Segs w' g 0 3 [(0, 0, 2, 0), (2, 0, 2, 3), (2, 0, 4, 0)] ∧ New w w' := by
  refine (split_yes b 0 2 2 spL w (by omega) (by omega) hw sp_bd (apart_of rfl (by decide) (by decide)) ?_).mono ?_
  · intro k hk
    rw [sp_ends]
    match k, hk with
    | 0, _ => rw [show q1 spL 0 = 0 from rfl, show q2 spL 0 = 0 from rfl, show q3 spL 0 = 4 from rfl, show q4 spL 0 = 0 from rfl, sp_pc1]; decide
    | 1, _ => rw [show q1 spL 1 = 2 from rfl, show q2 spL 1 = 0 from rfl, show q3 spL 1 = 2 from rfl, show q4 spL 1 = 3 from rfl, sp_pc2]; decide
    | k + 2, h => omega
  rw [sp_split]
  rintro e w' ⟨g, cap, he, ho, hn⟩
  exact ⟨g, cap, he, segs_own ho rfl, hn⟩
theorem sweep_alive (b : Nat) (w : World) (hw : Segs w b 0 2 swL) : Calls Tryz.prog 70 #[.slice (some ⟨b, 0, none⟩) 2 2] w fun e w' => ∃ g cap gv cv, e = .returned (.tuple #[.slice (some ⟨g, 0, none⟩) 3 cap, .int .i64 0]) ∧ w'.cell? ⟨g, 5, none⟩ = some (.slice (some ⟨gv, 0, none⟩) 2 cv) ∧ w'.cell? ⟨gv, 1, none⟩ = some (.int .i64 1) ∧ g < w'.heap.size ∧ gv < w'.heap.size ∧ New w w' := by
  refine (sweep_yes b 0 2 2 swL w (by omega) (by omega) hw (by decide) (apart_of rfl (by decide) (by decide)) sw_span sw_at (pile_ok (by decide) sw_at)).mono ?_
  rw [sw_xs]
  rintro e w' ⟨a, c, vs, he, hvl, ho, hv, hn⟩
  obtain ⟨g, cap, hs, _, hg⟩ := ho.form (by decide)
  obtain ⟨v0, v1, v2, rfl⟩ : ∃ v0 v1 v2, vs = [v0, v1, v2] := by
    match vs, hvl with
    | [v0, v1, v2], _ => exact ⟨v0, v1, v2, rfl⟩
  have h1 := hv 1 (by decide)
  rw [sw_segs] at h1
  obtain ⟨gv, cv, hs1, _, hg1⟩ := h1.form (by decide)
  change v1 = _ at hs1
  injection hs with e1 e2 e3
  subst e1; subst e3
  subst hs1
  exact ⟨g, c, gv, cv, he, (own_cell ho rfl).1, (own_cell h1 rfl).1, hg, hg1, hn⟩


end Go.Proofs.YtpdfbboagaflhaaGreat
