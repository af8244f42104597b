/- Both disks beside each other, and a box that neither touches. -/
import Derived.Test.YtcamcmcopkclfaaRe
import Derived.Test.YtcamcmcopkclfaaKt
set_option linter.unusedSimpArgs false
set_option linter.unusedVariables false
set_option maxRecDepth 100000
namespace Go.Proofs.Ytcamcmcopkclfaa
open Go.RowKit

/-- both disks lie in W, in states s and r; the block B, which is none of theirs, holds o -/
def Two (w W : World) (D R n : Nat) (s r : DS) (B : Nat) (o : Obj) : Prop :=
  ∃ S pv dv rv l, New w W ∧ Dk W w.heap.size D S n pv s ∧ Rk W w.heap.size R n dv rv l r ∧ (∀ k, OD D S pv k → ¬ OR R dv rv k) ∧ ¬ OD D S pv B ∧ ¬ OR R dv rv B ∧ W.heap[B]? = some o
theorem Two.new {w W : World} {D R n : Nat} {s r : DS} {B : Nat} {o : Obj} (h : Two w W D R n s r B o) : New w W := by obtain ⟨S, pv, dv, rv, l, h1, _⟩ := h; exact h1
theorem Two.box {w W : World} {D R n : Nat} {s r : DS} {B : Nat} {o : Obj} (h : Two w W D R n s r B o) : W.heap[B]? = some o := by obtain ⟨S, pv, dv, rv, l, h1, h2, h3, h4, h5, h6, h7⟩ := h; exact h7
theorem OD.lt {w : World} {base D S n : Nat} {pv : Value} {s : DS} (h : Dk w base D S n pv s) {k : Nat} (hk : OD D S pv k) : base ≤ k ∧ k < w.heap.size := by
  rcases hk with rfl | rfl | hk
  · exact ⟨h.bD, (Array.getElem?_eq_some_iff.1 h.hD).1⟩
  · exact ⟨h.bS, (Array.getElem?_eq_some_iff.1 h.hS).1⟩
  · exact h.hP.lt k hk
theorem OR.lt {w : World} {base R n : Nat} {dv pv : Value} {l : Int} {s : DS} (h : Rk w base R n dv pv l s) {k : Nat} (hk : OR R dv pv k) : base ≤ k ∧ k < w.heap.size := by
  rcases hk with rfl | hk | hk
  · exact ⟨h.bR, h.lt⟩
  · exact h.hd.lt k hk
  · exact h.hp.lt k hk
theorem two_prog {w W W' : World} {D S R n : Nat} {pv dv rv : Value} {l : Int} {s s' r : DS} {B : Nat} {o : Obj} (h1 : New w W) (h2 : Dk W w.heap.size D S n pv s) (h3 : Rk W w.heap.size R n dv rv l r) (h4 : ∀ k, OD D S pv k → ¬ OR R dv rv k) (h5 : ¬ OD D S pv B) (h6 : ¬ OR R dv rv B) (h7 : W.heap[B]? = some o)
    (ha : After W w.heap.size D S n pv s' W') : Two w W' D R n s' r B o := by
  obtain ⟨pv', hm, hd, hp⟩ := ha
  have hBl := (Array.getElem?_eq_some_iff.1 h7).1
  have hOD : ∀ k, OD D S pv' k → OD D S pv k ∨ W.heap.size ≤ k := fun k hk => by
    rcases hk with h | h | h
    · exact .inl (.inl h)
    · exact .inl (.inr (.inl h))
    · exact (hp k h).imp (fun h => .inr (.inr h)) id
  refine ⟨S, pv', dv, rv, l, Mod.new h1 hm (fun k hk => (OD.lt h2 hk).1), hd, h3.keep hm (fun hk => h4 _ hk (.inl rfl)) (fun g hg hk => h4 _ hk (.inr (.inl hg))) (fun g hg hk => h4 _ hk (.inr (.inr hg))), ?_, ?_, h6, (hm.2 B hBl h5).trans h7⟩
  · intro k hk hr
    rcases hOD k hk with h | h
    · exact h4 k h hr
    · have := (OR.lt h3 hr).2; omega
  · intro hk
    rcases hOD B hk with h | h
    · exact h5 h
    · omega
theorem two_ref {w W W' : World} {D S R n : Nat} {pv dv rv : Value} {l : Int} {s r r' : DS} {B : Nat} {o : Obj} (h1 : New w W) (h2 : Dk W w.heap.size D S n pv s) (h3 : Rk W w.heap.size R n dv rv l r) (h4 : ∀ k, OD D S pv k → ¬ OR R dv rv k) (h5 : ¬ OD D S pv B) (h6 : ¬ OR R dv rv B) (h7 : W.heap[B]? = some o)
    (ha : AfterR W w.heap.size R n dv rv r' W') : Two w W' D R n s r' B o := by
  obtain ⟨dv', rv', l', hm, hd, hp, hq⟩ := ha
  have hBl := (Array.getElem?_eq_some_iff.1 h7).1
  have hOR : ∀ k, OR R dv' rv' k → OR R dv rv k ∨ W.heap.size ≤ k := fun k hk => by
    rcases hk with h | h | h
    · exact .inl (.inl h)
    · exact (hp k h).imp (fun h => .inr (.inl h)) id
    · exact (hq k h).imp (fun h => .inr (.inr h)) id
  refine ⟨S, pv, dv', rv', l', Mod.new h1 hm (fun k hk => (OR.lt h3 hk).1), h2.keep hm (fun hk => h4 _ (.inl rfl) hk) (fun hk => h4 _ (.inr (.inl rfl)) hk) (fun g hg hk => h4 _ (.inr (.inr hg)) hk), hd, ?_, h5, ?_, (hm.2 B hBl h6).trans h7⟩
  · intro k hk hr
    rcases hOR k hr with h | h
    · exact h4 k hk h
    · have := (OD.lt h2 hk).2; omega
  · intro hk
    rcases hOR B hk with h | h
    · exact h6 h
    · omega
theorem Two.grow {w W W' : World} {D R n : Nat} {s r : DS} {B : Nat} {o : Obj} (h : Two w W D R n s r B o) (hn : New W W') : Two w W' D R n s r B o := by
  obtain ⟨S, pv, dv, rv, l, h1, h2, h3, h4, h5, h6, h7⟩ := h
  have hm : Mod (fun _ => False) W W' := Mod.of_new hn
  exact ⟨S, pv, dv, rv, l, h1.trans hn, h2.keep hm (fun h => h) (fun h => h) (fun _ _ h => h), h3.keep hm (fun h => h) (fun _ _ h => h) (fun _ _ h => h), h4, h5, h6, (hm.2 B (Array.getElem?_eq_some_iff.1 h7).1 (fun h => h)).trans h7⟩
/-- another box -/
theorem Two.rebox {w W W' : World} {D R n : Nat} {s r : DS} {B : Nat} {o : Obj} (h : Two w W D R n s r B o) (hn : New W W') (B' : Nat) (o' : Obj) (hB : W.heap.size ≤ B') (hb : W'.heap[B']? = some o') : Two w W' D R n s r B' o' := by
  obtain ⟨S, pv, dv, rv, l, h1, h2, h3, h4, h5, h6, h7⟩ := h
  have hm : Mod (fun _ => False) W W' := Mod.of_new hn
  exact ⟨S, pv, dv, rv, l, h1.trans hn, h2.keep hm (fun h => h) (fun h => h) (fun _ _ h => h), h3.keep hm (fun h => h) (fun _ _ h => h) (fun _ _ h => h), h4, fun hk => by have := (OD.lt h2 hk).2; omega, fun hk => by have := (OR.lt h3 hk).2; omega, hb⟩

section
variable {w W : World} {D R n : Nat} {s r : DS} {B : Nat} {o : Obj}
theorem two_write (h : Two w W D R n s r B o) {v : Value} {b : List UInt8} (hv : ArgB w v b) (a : Int) (hl : b.length ≤ 9223372036854775807) (hroom : s.pend.length ≤ 1000) :
    Calls Try.prog 11 #[.pointer (some ⟨D, 0, none⟩), .int .i64 a, v] W fun e w' => e = .returned (.int .i64 (s.writeE n a b)) ∧ Two w w' D R n (s.write n a b) r B o := by
  obtain ⟨S, pv, dv, rv, l, h1, h2, h3, h4, h5, h6, h7⟩ := h
  exact (write_c h2 a (hv.bs h1 D h2.bD) hl hroom).mono fun e w' ⟨he, ha⟩ => ⟨he, two_prog h1 h2 h3 h4 h5 h6 h7 ha⟩
theorem two_flush (h : Two w W D R n s r B o) :
    Calls Try.prog 12 #[.pointer (some ⟨D, 0, none⟩)] W fun e w' => e = .returned (.int .i64 s.flushE) ∧ Two w w' D R n s.flush r B o := by
  obtain ⟨S, pv, dv, rv, l, h1, h2, h3, h4, h5, h6, h7⟩ := h
  exact (flush_c h2).mono fun e w' ⟨he, ha⟩ => ⟨he, two_prog h1 h2 h3 h4 h5 h6 h7 ha⟩
theorem two_stop (h : Two w W D R n s r B o) (c : Int) (hc : c ≤ 9223372036854775807) :
    Calls Try.prog 19 #[.pointer (some ⟨D, 0, none⟩), .int .i64 c] W fun e w' => e = .returned (.int .i64 (s.stopE c)) ∧ Two w w' D R n (s.stop c) r B o := by
  obtain ⟨S, pv, dv, rv, l, h1, h2, h3, h4, h5, h6, h7⟩ := h
  exact (stop_c h2 c hc).mono fun e w' ⟨he, ha⟩ => ⟨he, two_prog h1 h2 h3 h4 h5 h6 h7 ha⟩
/-- v reads the numbers ks -/
def ArgI (w : World) (v : Value) (ks : List Int) : Prop := ∃ ad cap, v = .slice ad ks.length cap ∧ (0 < ks.length → ∃ g o, ad = some ⟨g, o, none⟩ ∧ w.rangeAt g o (ks.map (Value.int .i64)))
theorem ArgI.at {v : Value} {ks : List Int} (h : ArgI w v ks) (hn : New w W) : ∃ ad cap, v = .slice ad ks.length cap ∧ (0 < ks.length → ∃ g o, ad = some ⟨g, o, none⟩ ∧ W.rangeAt g o (ks.map (Value.int .i64)) ∧ g < w.heap.size) := by
  obtain ⟨ad, cap, hv, hr⟩ := h
  refine ⟨ad, cap, hv, fun hp => ?_⟩
  obtain ⟨g, o, ha, hg⟩ := hr hp
  refine ⟨g, o, ha, range_mod hg (Mod.of_new (O := fun _ => False) hn) (fun h => h), ?_⟩
  exact World.block_lt_of_cell? w _ (hg 0 _ (by rw [List.getElem?_eq_getElem (by rw [List.length_map]; exact hp)]))
theorem two_crash (h : Two w W D R n s r B o) {v : Value} {ks : List Int} (hv : ArgI w v ks) (hl : ks.length ≤ 9223372036854775807) (hroom : s.pend.length ≤ 1000) :
    Calls Try.prog 13 #[.pointer (some ⟨D, 0, none⟩), v] W fun e w' => e = .returned (.tuple #[]) ∧ Two w w' D R n (s.crash ks) r B o := by
  obtain ⟨S, pv, dv, rv, l, h1, h2, h3, h4, h5, h6, h7⟩ := h
  obtain ⟨ad, cap, hv1, hr⟩ := hv.at h1
  have hk : Ks W D S pv v ks := ⟨ad, cap, hv1, fun hp => by
    obtain ⟨g, o, ha, hg, hgl⟩ := hr hp
    exact ⟨g, o, ha, hg, fun hk => by have := (OD.lt h2 hk).1; omega⟩⟩
  exact (crash_c h2 hk (by omega) hl).mono fun e w' ⟨he, ha⟩ => ⟨he, two_prog h1 h2 h3 h4 h5 h6 h7 ha⟩
theorem two_writeR (h : Two w W D R n s r B o) (b : List UInt8) (a : Int) (hl : b.length ≤ 9223372036854775807) (hroom : r.pend.length ≤ 1000) :
    Calls Try.prog 17 #[.pointer (some ⟨R, 0, none⟩), .int .i64 a, strV b] W fun e w' => e = .returned (.int .i64 (r.writeE n a b)) ∧ Two w w' D R n s (r.write n a b) B o := by
  obtain ⟨S, pv, dv, rv, l, h1, h2, h3, h4, h5, h6, h7⟩ := h
  exact (writeR_c h3 a b hl hroom).mono fun e w' ⟨he, ha⟩ => ⟨he, two_ref h1 h2 h3 h4 h5 h6 h7 ha⟩
theorem two_flushR (h : Two w W D R n s r B o) (hroom : r.pend.length ≤ 1000) :
    Calls Try.prog 18 #[.pointer (some ⟨R, 0, none⟩)] W fun e w' => e = .returned (.int .i64 r.flushE) ∧ Two w w' D R n s r.flush B o := by
  obtain ⟨S, pv, dv, rv, l, h1, h2, h3, h4, h5, h6, h7⟩ := h
  exact (flushR_c h3 (by omega)).mono fun e w' ⟨he, ha⟩ => ⟨he, two_ref h1 h2 h3 h4 h5 h6 h7 ha⟩
theorem two_stopR (h : Two w W D R n s r B o) (c : Int) (hc : c ≤ 9223372036854775807) :
    Calls Try.prog 20 #[.pointer (some ⟨R, 0, none⟩), .int .i64 c] W fun e w' => e = .returned (.int .i64 (r.stopE c)) ∧ Two w w' D R n s (r.stop c) B o := by
  obtain ⟨S, pv, dv, rv, l, h1, h2, h3, h4, h5, h6, h7⟩ := h
  exact (stopR_c h3 c hc).mono fun e w' ⟨he, ha⟩ => ⟨he, two_ref h1 h2 h3 h4 h5 h6 h7 ha⟩
theorem two_crashR (h : Two w W D R n s r B o) {v : Value} {ks : List Int} (hv : ArgI w v ks) (hl : ks.length ≤ 9223372036854775807) (hroom : r.pend.length ≤ 1000) :
    Calls Try.prog 21 #[.pointer (some ⟨R, 0, none⟩), v] W fun e w' => e = .returned (.tuple #[]) ∧ Two w w' D R n s (r.crash ks) B o := by
  obtain ⟨S, pv, dv, rv, l, h1, h2, h3, h4, h5, h6, h7⟩ := h
  obtain ⟨ad, cap, hv1, hr⟩ := hv.at h1
  obtain ⟨T, tc, hdv, _⟩ := h3.dForm
  subst hdv
  have hk : KsR W T v ks := ⟨ad, cap, hv1, fun hp => by
    obtain ⟨g, o, ha, hg, hgl⟩ := hr hp
    exact ⟨g, o, ha, hg, fun e => by have := (OR.lt h3 (k := T) (.inr (.inl rfl))).1; omega⟩⟩
  exact (crashR_c h3 hk (by omega) hl).mono fun e w' ⟨he, ha⟩ => ⟨he, two_ref h1 h2 h3 h4 h5 h6 h7 ha⟩
theorem two_readR (h : Two w W D R n s r B o) (a : Int) (hroom : r.pend.length ≤ 1000) :
    Calls Try.prog 16 #[.pointer (some ⟨R, 0, none⟩), .int .i64 a] W fun e w' => e = .returned (.tuple #[refS r n a, .int .i64 (refI r n a)]) ∧ W = w' := by
  obtain ⟨S, pv, dv, rv, l, h1, h2, h3, h4, h5, h6, h7⟩ := h
  exact readR_c h3 a (by omega)
/-- v, as a string, is that of the bytes b -/
def Conv (w' : World) (v : Value) (b : List UInt8) : Prop := ∀ W', New w' W' → (convert 33 9 v).run Try.prog W' = .ok (strV b) W'
theorem two_read (h : Two w W D R n s r B o) (a : Int) :
    Calls Try.prog 14 #[.pointer (some ⟨D, 0, none⟩), .int .i64 a] W fun e w' => ∃ v, e = .returned (.tuple #[v, .int .i64 (refI s n a)]) ∧ Two w w' D R n s r B o ∧ (convert 33 9 v).run Try.prog w' = .ok (refS s n a) w' := by
  obtain ⟨S, pv, dv, rv, l, h1, h2, h3, h4, h5, h6, h7⟩ := h
  have hT : Two w W D R n s r B o := ⟨S, pv, dv, rv, l, h1, h2, h3, h4, h5, h6, h7⟩
  by_cases h0 : refI s n a = 0
  · obtain ⟨hd, ha0, ha1⟩ := refI_zero h0
    obtain ⟨k, rfl⟩ : ∃ k : Nat, a = k := ⟨a.toNat, by omega⟩
    refine (read_yes h2 k h0).mono ?_
    rintro e w' ⟨v, he, ⟨g, hv, -, hg⟩, hn⟩
    refine ⟨v, by rw [he, h0], hT.grow hn, ?_⟩
    unfold refS
    rw [h0, if_neg (by omega), hv, Int.toNat_natCast]
    exact run_convert_bytes_back (P := Try.prog) w' 33 9 5 ⟨g, 0, none⟩ _ _ Try.underlying33 Try.underlying5 Try.underlying9 (by
      intro j hj
      rw [Addr.add_mid, cell_of_row w' g _ _ _ _ hg]
      simp [bV, hj])
  · refine (read_no h2 a h0).mono ?_
    rintro e w' ⟨he, rfl⟩
    refine ⟨_, he, hT, ?_⟩
    unfold refS
    rw [if_pos h0]
    exact run_convert_bytes_nil (P := Try.prog) W 33 5 Try.underlying33 Try.underlying5 0 0 9 Try.underlying9
theorem two_down (h : Two w W D R n s r B o) :
    Calls Try.prog 10 #[.pointer (some ⟨D, 0, none⟩)] W fun e w' => e = .returned (.bool s.down) ∧ W = w' := by
  obtain ⟨S, pv, dv, rv, l, h1, h2, h3, h4, h5, h6, h7⟩ := h
  exact down_c h2
theorem Two.rdown (h : Two w W D R n s r B o) : W.cell? ⟨R, 3, none⟩ = some (.bool r.down) := by
  obtain ⟨S, pv, dv, rv, l, h1, h2, h3, h4, h5, h6, h7⟩ := h
  exact h3.c3
theorem Two.rlen (h : Two w W D R n s r B o) : ∃ T tc, W.cell? ⟨R, 0, none⟩ = some (.slice (some ⟨T, 0, none⟩) n tc) := by
  obtain ⟨S, pv, dv, rv, l, h1, h2, h3, h4, h5, h6, h7⟩ := h
  obtain ⟨T, tc, hdv, _⟩ := h3.dForm
  subst hdv
  exact ⟨T, tc, h3.c0⟩
end
theorem conv_arg {w W : World} {v : Value} {b : List UInt8} (h : ArgB w v b) (hn : New w W) : (convert 33 9 v).run Try.prog W = .ok (strV b) W := by
  obtain ⟨ad, cap, hv, hr⟩ := h
  subst hv
  by_cases h0 : 0 < b.length
  · obtain ⟨g, o, rfl, hg⟩ := hr h0
    exact run_convert_bytes_back (P := Try.prog) W 33 9 5 ⟨g, o, none⟩ _ _ Try.underlying33 Try.underlying5 Try.underlying9 (by
      intro j hj
      rw [Addr.add_mid]
      exact range_mod hg (Mod.of_new (O := fun _ => False) hn) (fun h => h) j _ (by simp [bV, hj]))
  · obtain rfl : b = [] := List.eq_nil_of_length_eq_zero (by omega)
    cases ad with
    | none => exact run_convert_bytes_nil (P := Try.prog) W 33 5 Try.underlying33 Try.underlying5 _ _ 9 Try.underlying9
    | some x => exact run_convert_bytes_back (P := Try.prog) W 33 9 5 x _ [] Try.underlying33 Try.underlying5 Try.underlying9 (by intro j hj; simp at hj)
end Go.Proofs.Ytcamcmcopkclfaa
