/- Empty slices; points that come twice, in plain words; the corners of a polygon lie on its border. Plain lemmas and walks. -/
import Derived.Test.YtpdfbboagaflhaaGreatM51
import Derived.Deep.SlicePairs
import Derived.Carry
import Derived.Test.YtpdfbboagaflhaaGreatN01
import Derived.Deep.RegionHeld3
import Derived.Deep.RegionWith
import Derived.BigRegion
import Derived.LoopTactic

set_option linter.unusedSimpArgs false
set_option linter.unusedVariables false
set_option linter.constructorNameAsVariable false
set_option maxRecDepth 100000
namespace Go.Proofs.YtpdfbboagaflhaaGreat
open Go.ChangeShapes Go.WideShapes Go.ChangeAt Go.RowKit Go.Joins Go.Deep

theorem cell_lt {w : World} {b o : Nat} {v : Value} (h : w.cell? ⟨b, o, none⟩ = some v) : b < w.heap.size := by
  rcases Nat.lt_or_ge b w.heap.size with hh | hh
  · exact hh
  · simp [World.cell?, Array.getElem?_eq_none hh] at h
section
variable {H : Type} {enc : TypeId × Value → H} {W : World} {base b0 : Nat} {spare : Nat → Bool} {held : Bool} {v : Value} {d : DataW H} {p : List MemPlace}
theorem open_int (hv : Value.okWide Tryz.prog W .any b0 3 v) (h : DataW.Trod enc Tryz.prog W base spare held 3 v d p) : ∃ x, v = .int .i64 x ∧ (Lit.int .i64 x).wf = true := by
  obtain ⟨fuel, hf⟩ := h
  obtain ⟨a, e0, _, wa⟩ := DataW.trod_int Tryz.underlying3 hf
  have hv' := hv
  simp only [Value.okWide, Tryz.underlying3, Cell.okWide] at hv'
  cases v <;> simp_all [Cell.ok, Value.cells]
theorem open_pts (hv : Value.okWide Tryz.prog W .any b0 40 v) (h : DataW.Trod enc Tryz.prog W base spare held 40 v d p) :
    ∃ av n cap l, v = .slice av n cap ∧ l.length = n ∧ (0 < n → ∃ b off, av = some ⟨b, off, none⟩ ∧ Pts W b off n l) := by
  obtain ⟨av, n, cap, rfl⟩ := okWide_slice Tryz.underlying40 hv
  obtain ⟨fuel, hf⟩ := h
  rcases open_slice_pairs Tryz.underlying40 Tryz.underlying23 cells_23 rfl rfl cells_3 cells_3 hf with ⟨hcs, _⟩ | ⟨a, len, cap', m, n', V0, V1, D0, D1, P0, P1, hcs, _, hlc, _, hm, _, hi⟩
  · simp only [Value.cells, List.cons.injEq, Value.slice.injEq, and_true] at hcs
    obtain ⟨rfl, rfl, rfl⟩ := hcs
    exact ⟨none, 0, 0, [], rfl, rfl, fun h => absurd h (by omega)⟩
  · simp only [Value.cells, List.cons.injEq, Value.slice.injEq, and_true] at hcs
    obtain ⟨rfl, rfl, rfl⟩ := hcs
    have hnm : n ≤ m := by rw [hm]; split <;> omega
    have hx : ∀ i, i < n → ∃ q : P2, V0 i = .int .i64 q.1 ∧ V1 i = .int .i64 q.2 := fun i hi' => by
      obtain ⟨_, _, t0, t1⟩ := hi i (by omega)
      obtain ⟨x, e0, _, _⟩ := DataW.trod_int Tryz.underlying3 t0
      obtain ⟨y, e1, _, _⟩ := DataW.trod_int Tryz.underlying3 t1
      simp only [List.cons.injEq, and_true] at e0 e1
      exact ⟨(x, y), e0, e1⟩
    obtain ⟨q, hq⟩ := choose_lt hx
    refine ⟨some a, n, cap, (List.range n).map q, rfl, by simp, fun h0 => ?_⟩
    obtain ⟨b, off, spot⟩ := a
    have hspot : spot = none := by simpa [Addr.add] using World.cell?_spot (hi 0 (by omega)).1
    subst hspot
    have hcell : ∀ i, i < n → W.cell? ⟨b, off + i * 2, none⟩ = some (.int .i64 (q i).1) ∧ W.cell? ⟨b, off + i * 2 + 1, none⟩ = some (.int .i64 (q i).2) := fun i hi' => by
      obtain ⟨k0, k1, _, _⟩ := hi i (by omega)
      rw [(hq i hi').1] at k0
      rw [(hq i hi').2] at k1
      rw [add_plain] at k0 k1
      exact ⟨k0, k1⟩
    refine ⟨b, off, rfl, by simp, cell_lt (hcell 0 h0).1, fun i hi' => ?_⟩
    have e1 : px ((List.range n).map q) i = (q i).1 := by simp [px, List.getD_eq_getElem?_getD, hi']
    have e2 : py ((List.range n).map q) i = (q i).2 := by simp [py, List.getD_eq_getElem?_getD, hi']
    rw [e1, e2]
    exact hcell i hi'
end
end Go.Proofs.YtpdfbboagaflhaaGreat

set_option linter.unusedSimpArgs false
set_option linter.unusedVariables false
namespace Go.Proofs.YtpdfbboagaflhaaGreat
open Go.RowKit Go.Maps

set_option maxHeartbeats 4000000 in
theorem ref_allValid (b off n c : Nat) (l : List P2) (w : World) (hl : n ≤ 1000000000) (hw : Pts w b off n l) :
    Calls Tryz.prog 104 #[.slice (some ⟨b, off, none⟩) n c] w fun en w' => en = .returned (.bool (okL l)) ∧ New w w' := by
  obtain ⟨hn, hb, hcell⟩ := hw
  have HN := Lib.hid hn
  clear hn
  go_enter Tryz.func104, Tryz.ntmps104
  go_wp2_with fail
  go_loopw [3] (fun i wr => ∃ k : Nat, k ≤ n ∧ i = .int .i64 k ∧ okL (l.take k) = true ∧ New w wr) (fun i _ => n - (intOf i).toNat)
  case atStart => exact ⟨0, Nat.zero_le _, rfl, by simp [okL], New.refl w⟩
  case round =>
    obtain ⟨k, hk, rfl, hok, pr, rfl⟩ := hrel
    have HOK := Lib.hid hok
    clear hok
    by_cases hlt : k < n
    · obtain ⟨c1, c2⟩ := hcell k hlt
      have HV := Lib.hid (ref_valid (px l k) (py l k))
      by_cases hv : okP (px l k) (py l k) = true
      · rw [hv] at HV
        go_wp2_with (go_at_call 86; refine (HV.out _).mono ?_; rintro e w1 ⟨rfl, pw, rfl⟩)
        go_roundw
        case rel => exact ⟨k + 1, by omega, by go_num, by rw [okL_snoc l k (by rw [HN.out]; exact hlt), HOK.out, hv]; rfl, by (repeat (first | exact New.refl _ | apply New.alloc | apply New.aft | apply New.drew | refine New.setCell ?_ ?_ _)); all_goals (first | done | (simp [size_aft]; done) | (simp [size_aft]; omega))⟩
        case measure => simp [intOf]; omega
      · have hv' : okP (px l k) (py l k) = false := by simpa using hv
        rw [hv'] at HV
        have HF := Lib.hid (okL_not l k (by rw [HN.out]; exact hlt) hv')
        clear hv hv'
        go_wp2_with (go_at_call 86; refine (HV.out _).mono ?_; rintro e w1 ⟨rfl, pw, rfl⟩)
        go_ret
        refine ⟨ret_bool HF.out.symm, ?_⟩
        (repeat (first | exact New.refl _ | apply New.alloc | apply New.aft | apply New.drew | refine New.setCell ?_ ?_ _)); all_goals (first | done | (simp [size_aft]; done) | (simp [size_aft]; omega))
    · go_wp2_with fail
      go_ret
      have h1 : okL l = true := by
        have := HOK.out
        rwa [List.take_of_length_le (by rw [HN.out]; omega)] at this
      refine ⟨ret_bool h1.symm, ?_⟩
      (repeat (first | exact New.refl _ | apply New.alloc | apply New.aft | apply New.drew | refine New.setCell ?_ ?_ _)); all_goals (first | done | (simp [size_aft]; done) | (simp [size_aft]; omega))

set_option maxHeartbeats 1000000 in
theorem ref_allValid_nil (w : World) (v : Option Addr) (c : Nat) : Calls Tryz.prog 104 #[.slice v 0 c] w fun en w' => en = .returned (.bool true) ∧ New w w' := by
  go_enter Tryz.func104, Tryz.ntmps104
  go_wp2_with fail
  refine wp_loop_rounds 1 ?_
  repeat any_goals (rw [rounds_succ]; go_wp2)
  go_ret; exact ⟨rfl, New.refl _⟩

set_option maxHeartbeats 1000000 in
theorem checkPoints_nil (v : Option Addr) (c : Nat) (most : Int) (hm : 0 ≤ most) (w : World) : Calls Tryz.prog 84 #[.slice v 0 c, .int .i64 most] w fun en w' => en = .returned (.int .i64 0) ∧ New w w' := by
  go_enter Tryz.func84, Tryz.ntmps84
  go_wp2_with fail
  all_goals (try (exfalso; omega))
  refine wp_loop_rounds 1 ?_
  repeat any_goals (rw [rounds_succ]; go_wp2)
  go_ret; exact ⟨rfl, New.refl _⟩

set_option maxHeartbeats 1000000 in
theorem length_nil (v : Option Addr) (c : Nat) (w : World) : Calls Tryz.prog 42 #[.slice v 0 c] w fun en w' => en = .returned (.int .i64 0) ∧ New w w' := by
  have HC := Lib.hid (checkPoints_nil v c 400 (by omega))
  go_enter Tryz.func42, Tryz.ntmps42
  go_wp2_with (go_at_call 84; refine (HC.out _).mono ?_; rintro e w1 ⟨rfl, pw, rfl⟩)
  refine wp_loop_rounds 1 ?_
  repeat any_goals (rw [rounds_succ]; go_wp2)
  go_ret; refine ⟨rfl, ?_⟩; (repeat (first | exact New.refl _ | apply New.alloc | apply New.aft | apply New.drew | refine New.setCell ?_ ?_ _)); all_goals (first | done | (simp [size_aft]; done) | (simp [size_aft]; omega))

theorem addKeys_len : ∀ (ks acc : List Lit), (∀ x ∈ ks, WideAt.IsKeyLit x) → ((ks.foldl addKey acc).length ≤ acc.length + ks.length) ∧ ((ks.foldl addKey acc).length = acc.length + ks.length ↔ ks.Nodup ∧ ∀ x ∈ ks, x ∉ acc)
  | [], acc, _ => by simp
  | x :: r, acc, h => by
    rw [List.foldl_cons]
    have hx := h x (by simp)
    have hr : ∀ y ∈ r, WideAt.IsKeyLit y := fun y hy => h y (by simp [hy])
    have hany : (acc.any fun y => y.sameKey x) = true ↔ x ∈ acc := by
      rw [List.any_eq_true]
      constructor
      · rintro ⟨y, hy, hs⟩; rw [WideAt.sameKey_iff hx] at hs; subst hs; exact hy
      · intro hm; exact ⟨x, hm, (WideAt.sameKey_iff hx).2 rfl⟩
    by_cases hm : x ∈ acc
    · rw [show addKey acc x = acc from if_pos (hany.2 hm)]
      have ih := addKeys_len r acc hr
      constructor
      · have := ih.1; simp only [List.length_cons]; omega
      · constructor
        · intro e; have := ih.1; simp only [List.length_cons] at e; omega
        · intro e; exact absurd hm (e.2 x (by simp))
    · rw [show addKey acc x = acc ++ [x] from if_neg (fun hh => hm (hany.1 hh))]
      have ih := addKeys_len r (acc ++ [x]) hr
      simp only [List.length_append, List.length_cons, List.length_nil] at ih ⊢
      constructor
      · omega
      · rw [show acc.length + (r.length + 1) = acc.length + (0 + 1) + r.length by omega, ih.2, List.nodup_cons]
        simp only [List.mem_append, List.mem_cons, List.not_mem_nil, or_false]
        constructor
        · rintro ⟨h1, h2⟩
          refine ⟨⟨fun hh => h2 x hh (.inr rfl), h1⟩, ?_⟩
          rintro y (rfl | hy)
          · exact hm
          · exact fun hh => h2 y hy (.inl hh)
        · rintro ⟨⟨h1, h2⟩, h3⟩
          refine ⟨h2, fun y hy => ?_⟩
          rintro (hh | rfl)
          · exact h3 y (.inr hy) hh
          · exact h1 hy
theorem keysTo_key (l : List P2) (k : Nat) : ∀ x ∈ keysTo l k, WideAt.IsKeyLit x := fun x hx => by
  simp only [keysTo, List.mem_map] at hx
  obtain ⟨i, _, rfl⟩ := hx
  trivial
theorem repI_nodup (l : List P2) : repI l = false ↔ (keysTo l l.length).Nodup := by
  have h := addKeys_len (keysTo l l.length) [] (keysTo_key l _)
  have hlen : (keysTo l l.length).length = l.length := by simp [keysTo]
  unfold repI
  rw [decide_eq_false_iff_not]
  simp only [List.length_nil, Nat.zero_add, hlen, List.not_mem_nil, not_false_eq_true, implies_true, and_true] at h
  rw [← h.2]
  omega
theorem nodup_map_range {β : Type} (f : Nat → β) (n : Nat) : ((List.range n).map f).Nodup ↔ ∀ i j, i < n → j < n → f i = f j → i = j := by
  rw [List.nodup_iff_pairwise_ne, List.pairwise_map, List.pairwise_iff_getElem]
  simp only [List.getElem_range, List.length_range]
  constructor
  · intro h i j hi hj e
    rcases Nat.lt_trichotomy i j with hh | hh | hh
    · exact absurd e (h i j hi hj hh)
    · exact hh
    · exact absurd e.symm (h j i hj hi hh)
  · intro h i j hi hj hij e
    have := h i j hi hj e
    omega
/-- no point comes twice -/
theorem rep_no {l : List P2} (h : repI l = false) {i j : Nat} (hi : i < l.length) (hj : j < l.length) (hx : px l i = px l j) (hy : py l i = py l j) : i = j := by
  rw [repI_nodup, keysTo, nodup_map_range] at h
  exact h i j hi hj (by rw [hx, hy])

theorem okS_edge {l : List P2} (h : polyI l = 0) {k : Nat} (hk : k < l.length) : okS (px l k) (py l k) (px l ((k + 1) % l.length)) (py l ((k + 1) % l.length)) = true := by
  obtain ⟨h1, h2, h3, h4⟩ := polyI_ok h
  obtain ⟨_, hok⟩ := ckPts_zero h1
  have hm : (k + 1) % l.length < l.length := Nat.mod_lt _ (by omega)
  rw [okS_iff]
  refine ⟨okL_bd hok k, okL_bd hok _, ?_⟩
  rintro ⟨e1, e2⟩
  have := rep_no h3 hk hm e1 e2
  by_cases hl : k + 1 = l.length
  · rw [hl, Nat.mod_self] at this; omega
  · rw [Nat.mod_eq_of_lt (by omega)] at this; omega
theorem where_corner {l : List P2} (h : polyI l = 0) {k : Nat} (hk : k < l.length) : WhereI l (px l k) (py l k) = 1 := by
  obtain ⟨h1, h2, h3, h4⟩ := polyI_ok h
  obtain ⟨_, hok⟩ := ckPts_zero h1
  have hp := okL_at l k hk hok
  rw [WhereI, if_pos ⟨hp, h⟩, whereI, anyOn_at (edgesL l) (px l k) (py l k) k l.length hk, if_pos rfl]
  obtain ⟨e1, e2, e3, e4⟩ := edgesL_at l k hk
  rw [onAt, e1, e2, e3, e4, ← onR_eq, onR_A]
theorem on_edge {l : List P2} (h : polyI l = 0) {p q : Int} (hp : okP p q = true) {k : Nat} (hk : k < l.length) : OnX p q (px l k) (py l k) (px l ((k + 1) % l.length)) (py l ((k + 1) % l.length)) = onAt (edgesL l) p q k := by
  obtain ⟨e1, e2, e3, e4⟩ := edgesL_at l k hk
  rw [OnX, hp, okS_edge h hk, onAt, e1, e2, e3, e4]; rfl
theorem border_last {l : List P2} (h : polyI l = 0) {p q : Int} (hp : okP p q = true) : (anyOn (edgesL l) p q l.length == (WhereI l p q == 1)) = true := by
  rw [WhereI, if_pos ⟨hp, h⟩, whereI]
  cases anyOn (edgesL l) p q l.length
  · cases oddTo (edgesL l) p q l.length <;> decide
  · cases oddTo (edgesL l) p q l.length <;> decide

set_option maxHeartbeats 1000000 in
theorem checkPoly_nil (v : Option Addr) (c : Nat) (w : World) : Calls Tryz.prog 44 #[.slice v 0 c] w fun en w' => en = .returned (.int .i64 1) ∧ New w w' := by
  have HC := Lib.hid (checkPoints_nil v c 200 (by omega))
  go_enter Tryz.func44, Tryz.ntmps44
  go_wp2_with (go_at_call 84; refine (HC.out _).mono ?_; rintro e w1 ⟨rfl, pw, rfl⟩)
  go_ret; refine ⟨rfl, ?_⟩; (repeat (first | exact New.refl _ | apply New.alloc | apply New.aft | apply New.drew | refine New.setCell ?_ ?_ _)); all_goals (first | done | (simp [size_aft]; done) | (simp [size_aft]; omega))

end Go.Proofs.YtpdfbboagaflhaaGreat
