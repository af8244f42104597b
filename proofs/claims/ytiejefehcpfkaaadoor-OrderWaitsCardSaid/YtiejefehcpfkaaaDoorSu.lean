/- All orders of a graph, as the function orders yields them. Graphs of at most 24 places. -/
import Derived.Test.YtiejefehcpfkaaaDoorSt
import Derived.Test.YtiejefehcpfkaaaDoorSk
set_option linter.unusedSimpArgs false
set_option linter.unusedVariables false
set_option maxRecDepth 100000
namespace Go.Proofs.YtiejefehcpfkaaaDoor
open Go.RowKit Go.Shelf

attribute [local go_sem] Oper.semAt_some

theorem bits_fst {n : Nat} (hn : n ≤ 24) : bitsOf (fst n) = List.range n := by
  unfold bitsOf
  have e : ∀ m, n ≤ m → (List.range m).filter (fun i => (fst n).testBit i) = List.range n := by
    intro m hm
    induction m with
    | zero => obtain rfl : n = 0 := by omega
              rfl
    | succ m ih =>
      rw [List.range_succ, List.filter_append]
      by_cases h : n ≤ m
      · rw [ih h]; simp [fst_bit, h]
      · obtain rfl : n = m + 1 := by omega
        have : (List.range m).filter (fun i => (fst (m + 1)).testBit i) = List.range m := List.filter_eq_self.2 fun i hi => by
          rw [fst_bit]; have := List.mem_range.1 hi; simp; omega
        rw [this, List.range_succ]; simp [fst_bit]
  exact e 32 (by omega)
theorem fst24 {n : Nat} (hn : n ≤ 24) : fst n < 2 ^ 24 := by
  have := Nat.pow_le_pow_right (show 0 < 2 by omega) hn
  have := Nat.two_pow_pos n
  unfold fst; omega
/-- all orders of a graph, the lesser ones first -/
def ordG (G : Gph) : List (List Nat) := ordS G.be G.n (fst G.n)

set_option maxHeartbeats 8000000 in
theorem orders_it (G : Gph) (hG : G.ok) (W : World) (hT : Tab W) : IterF Tryd.prog 138 #[.agg G.cells.toArray] #[] ElemO (ordG G) tabE W := by
  intro lp J hJs hJ hY
  obtain ⟨H, hH⟩ : ∃ H, W.heap.size = H := ⟨_, rfl⟩
  have hT0 := hT.1
  have HX := Lib.hid (show ∀ W5, New W W5 → H + 4 ≤ W5.heap.size → Gr W5 H G → W5.heap[H + 1]? = some (.cells #[.func (.yield lp) #[] #[]] 103 (0, 0)) → W5.heap[H + 2]? = some (.cells #[.slice none 0 0] 31 (0, 0)) →
      W5.heap[H + 3]? = some (.cells #[.func (.func 154) #[] #[.pointer (some ⟨H + 1, 0, none⟩), .pointer (some ⟨H + 2, 0, none⟩), .pointer (some ⟨H, 0, none⟩), .pointer (some ⟨H + 3, 0, none⟩)]] 118 (0, 0)) →
      Calls Tryd.prog 154 #[sv (fst G.n), .pointer (some ⟨H + 1, 0, none⟩), .pointer (some ⟨H + 2, 0, none⟩), .pointer (some ⟨H, 0, none⟩), .pointer (some ⟨H + 3, 0, none⟩)] W5
        (fun e W' => (∃ v, e = .returned v) ∧ (∃ O done b, J O done b W' ∧ (b = false → done = ordG G) ∧ done <+: ordG G) ∧ Keep (fun q => q = H ∨ q = H + 1 ∨ q = H + 3) W5 W') from fun W5 hn5 hs5 k1 k2 k3 k4 => by
    have e0 : ordP G.be G.n (fst G.n) [] = ordG G := by simp [ordP, ordG]
    have := orders_in ⟨lp, H + 1, H + 2, H, H + 3, H + 4, G⟩ ⟨by dsimp only; omega, by dsimp only; omega, by dsimp only; omega, hG⟩ J hJs (ordG G)
      (fun O done x args W0 a1 a2 a3 a4 => hY O done x args W0 a1 a2 a3 a4) G.n (fst G.n) [] (fun q => q = H ∨ q = H + 1 ∨ q = H + 3) (fun q => H ≤ q ∧ q < H + 4) [] W5 (fst24 hG.n24) (by rw [bits_fst hG.n24]; simp) (by have := hG.n24; simp; omega) (fun q hq => by omega)
      ⟨⟨_, k3, World.ownsRow_nil _ _ _ _, fun g hg => by simp [Value.ownBlock] at hg⟩, k2, k1, k4, ⟨by dsimp only; omega, by dsimp only; omega⟩, ⟨.inr (.inl rfl), .inl rfl, .inr (.inr rfl)⟩, by dsimp only; omega, fun q hq => by omega, hs5, hT.new hn5⟩
      (hJs _ _ _ _ _ _ hJ (Mod.of_new hn5) (fun q hq => .inr (by omega))) (by rw [e0]; simp)
    refine this.mono ?_
    rintro e W' ⟨O, b, rfl, hk, (⟨rfl, a1, _⟩ | ⟨rfl, done, a1, a2, _⟩)⟩
    · refine ⟨⟨_, rfl⟩, ⟨O, _, false, a1, fun _ => ?_, ?_⟩, hk.mono fun q hq => .inl hq⟩
      · dsimp only; rw [e0]; rfl
      · dsimp only; rw [e0]; simp
    · exact ⟨⟨_, rfl⟩, ⟨O, done, true, a1, (fun h => by cases h), a2⟩, hk.mono fun q hq => .inl hq⟩)
  have HAL := Lib.hid (fun w1 => all_c G w1 hG)
  have HH := Lib.hid hH
  clear hJs hJ hY hT0 hT
  show Calls _ _ #[.agg G.cells.toArray, .func (.yield lp) #[] #[]] _ _
  obtain ⟨GC, hGC⟩ : ∃ GC, GC = G.cells.toArray := ⟨_, rfl⟩
  rw [← hGC] at HAL ⊢
  have HGC := Lib.hid hGC
  clear hGC
  go_enter Tryd.func138, Tryd.ntmps138
  go_upto_region 4 with fail
  obtain ⟨WS, HWS⟩ : ∃ WS : World, Hid (WS = (((W.alloc (.cells GC 83)).alloc (.cells #[.func (.yield lp) #[] #[]] 103)).alloc (.cells #[.slice none 0 0] 31)).alloc (.cells #[.func (.func 154) #[] #[.pointer (some ⟨H + 1, 0, none⟩), .pointer (some ⟨H + 1 + 1, 0, none⟩), .pointer (some ⟨H, 0, none⟩), .pointer (some ⟨H + 1 + 1 + 1, 0, none⟩)]] 118)) := ⟨_, Lib.hid rfl⟩
  rw [← HWS.out]
  obtain ⟨q1, q2, q3, q4, q5⟩ := alloc4_heap W (.cells GC 83) (.cells #[.func (.yield lp) #[] #[]] 103) (.cells #[.slice none 0 0] 31) (.cells #[.func (.func 154) #[] #[.pointer (some ⟨H + 1, 0, none⟩), .pointer (some ⟨H + 1 + 1, 0, none⟩), .pointer (some ⟨H, 0, none⟩), .pointer (some ⟨H + 1 + 1 + 1, 0, none⟩)]] 118) H HH.out
  rw [← HWS.out] at q1 q2 q3 q4 q5
  have hNS : New W WS := by rw [HWS.out]; exact ((((New.refl _).alloc _).alloc _).alloc _).alloc _
  have hGr : Gr WS H G := by rw [HGC.out] at q1; exact q1
  have hE : WS.cell? ⟨H + 1 + 1 + 1, 0, none⟩ = some (.func (.func 154) #[] #[.pointer (some ⟨H + 1, 0, none⟩), .pointer (some ⟨H + 1 + 1, 0, none⟩), .pointer (some ⟨H, 0, none⟩), .pointer (some ⟨H + 1 + 1 + 1, 0, none⟩)]) := (box_cell q4).1
  have HN := Lib.hid hNS
  have HGR := Lib.hid hGr
  have HQ2 := Lib.hid q2
  have HQ3 := Lib.hid q3
  have HQ4 := Lib.hid q4
  have HZ := Lib.hid q5
  rw [HGC.out]
  rw [HGC.out] at HAL
  refine wp_region_held_drew (S := fun w' => Gr w' H G ∧ w'.cell? ⟨H + 1 + 1 + 1, 0, none⟩ = some (.func (.func 154) #[] #[.pointer (some ⟨H + 1, 0, none⟩), .pointer (some ⟨H + 1 + 1, 0, none⟩), .pointer (some ⟨H, 0, none⟩), .pointer (some ⟨H + 1 + 1 + 1, 0, none⟩)])) (by kernel_rfl) ⟨hGr, hE⟩ (fun hHeld => ?_)
  clear q1 q2 q3 q4 q5 hNS hGr hE
  refine wpAnyH_take (i := 0) (oi := { dst := some 7, op := _, type := _, pos := _, after := _, guard := _ }) (v := ?_) rfl (by kernel_rfl) (by kernel_rfl) (by kernel_rfl) (fun _ _ _ h => h) (Or.inl ⟨by rfl, (by intro w hSw; (try dsimp only at hSw); obtain ⟨hSa, hSb⟩ := hSw; go_simp; try with_reducible rfl)⟩) (by assumption) ?_
  (try simp only [Act.put, List.setIfInBounds_toArray, List.set_cons_zero, List.set_cons_succ])
  refine wpAnyH_take (i := 1) rfl (by kernel_rfl) (by kernel_rfl) (by kernel_rfl) (fun _ _ _ h => h) (yieldsIf_load_mid (by rfl) 83 (.tmp 2) rfl H 0 rfl G.cells _ (fun w hw => hw.1.whole) Tryd.underlying83 rfl (by rw [Gph.len]; exact graph_size)) (by assumption) ?_
  (try simp only [Act.put, List.setIfInBounds_toArray, List.set_cons_zero, List.set_cons_succ])
  refine wpAnyH_ready (rs := [2]) (by kernel_rfl) (by simp) ?_
  refine AllReadyH.cons rfl (fun K hK => ?_) AllReadyH.nil
  go_simp
  go_at_call 98
  refine (HAL.out _).mono ?_
  rintro e w6 ⟨rfl, n6⟩
  have N6 := Lib.hid (show New WS w6 from (New.refl WS).drew.trans n6)
  clear n6
  refine hK.out _ _ ⟨HGR.out.new N6.out, (box_cell (row_new HQ4.out N6.out)).1⟩ (fun hHeld => ?_)
  clear hK K
  (try simp only [Act.put, List.setIfInBounds_toArray, List.set_cons_zero, List.set_cons_succ])
  refine wpAnyH_ready (rs := [3]) (by kernel_rfl) (by simp) ?_
  refine AllReadyH.cons rfl (fun K hK => ?_) AllReadyH.nil
  go_simp
  go_at_call 154
  refine (HX.out w6 (HN.out.trans N6.out) (by have := N6.out.size; have := HZ.out; omega) (HGR.out.new N6.out) (row_new HQ2.out N6.out) (row_new HQ3.out N6.out) (row_new HQ4.out N6.out)).mono ?_
  rintro e w7 ⟨⟨v, rfl⟩, hp, hk7⟩
  have HP := Lib.hid hp
  refine hK.out _ _ ⟨hk7.at (HGR.out.new N6.out) (.inl rfl), (box_cell (hk7.at (row_new HQ4.out N6.out) (.inr (.inr rfl)))).1⟩ (fun hHeld => ?_)
  clear hK K hp hk7
  (try simp only [Act.put, List.setIfInBounds_toArray, List.set_cons_zero, List.set_cons_succ])
  refine wpAnyH_done (by kernel_rfl) ?_ _
  go_end0
  exact ⟨⟨_, rfl⟩, HP.out⟩
end Go.Proofs.YtiejefehcpfkaaaDoor
