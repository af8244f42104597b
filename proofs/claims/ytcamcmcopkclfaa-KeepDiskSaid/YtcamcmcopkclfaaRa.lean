/- The reference's disk: what it is in memory; padded, call, Stop; Stop of the program. -/
import Derived.Test.YtcamcmcopkclfaaKh
set_option linter.unusedSimpArgs false
set_option linter.unusedVariables false
set_option maxRecDepth 100000
namespace Go.Proofs.Ytcamcmcopkclfaa
open Go.RowKit

def strV (b : List UInt8) : Value := .string ⟨b.toArray⟩
theorem str_add (a b : List UInt8) : ((⟨a.toArray⟩ : ByteArray) ++ ⟨b.toArray⟩) = ⟨(a ++ b).toArray⟩ := by
  apply ByteArray.ext
  rw [ByteArray.data_append]
  simp
def dCs (n : Nat) (d : List UInt8) : List Value := (List.range n).map fun i => strV (sect d i)
def pCs (p : List (Nat × List UInt8)) : List Value := p.flatMap fun q => [.int .i64 (q.1 : Int), strV q.2]
theorem sect_other (L : List UInt8) (a b : Nat) (c : List UInt8) (hc : c.length = 64) (hab : a ≠ b) (hl : (a + 1) * 64 ≤ L.length) : sect (spl L (a * 64) c) b = sect L b := by
  unfold sect spl
  apply List.ext_getElem?
  intro j
  simp only [List.getElem?_take, List.getElem?_drop]
  split
  · rename_i hj
    rw [List.append_assoc]
    by_cases h : b < a
    · rw [List.getElem?_append_left (by simp; omega), List.getElem?_take_of_lt (by omega)]
    · rw [List.getElem?_append_right (by simp; omega), List.length_take, Nat.min_eq_left (by omega), List.getElem?_append_right (by omega), List.getElem?_drop, hc]
      congr 1
      omega
  · rfl
theorem sect_same (L : List UInt8) (a : Nat) (c : List UInt8) (hc : c.length = 64) (hl : (a + 1) * 64 ≤ L.length) : sect (spl L (a * 64) c) a = c := by
  unfold sect spl
  rw [List.append_assoc, List.drop_append, List.drop_eq_nil_of_le (by simp; omega), List.nil_append, List.length_take, Nat.min_eq_left (by omega), Nat.sub_self, List.drop_zero, List.take_append_of_le_length (by omega), List.take_of_length_le (by omega)]
theorem dCs_spl (n : Nat) (L : List UInt8) (a : Nat) (c : List UInt8) (hc : c.length = 64) (ha : a < n) (hl : L.length = n * 64) : dCs n (spl L (a * 64) c) = (dCs n L).set a (strV c) := by
  apply List.ext_getElem?
  intro j
  rw [List.getElem?_set]
  by_cases h : a = j
  · subst h
    simp [dCs, ha, sect_same L a c hc (by omega)]
  · simp only [h, if_false, dCs, List.getElem?_map]
    by_cases hj : j < n
    · simp [hj, sect_other L a j c hc h (by omega)]
    · simp [List.getElem?_eq_none (show (List.range n).length ≤ j by simp; omega)]
theorem dCs_at (n : Nat) (L : List UInt8) (a : Nat) (ha : a < n) : (dCs n L)[a]? = some (strV (sect L a)) := by simp [dCs, ha]
theorem pCs_snoc (p : List (Nat × List UInt8)) (q : Nat × List UInt8) : pCs (p ++ [q]) = pCs p ++ [.int .i64 (q.1 : Int), strV q.2] := by simp [pCs]
theorem pCs_at0 : ∀ (p : List (Nat × List UInt8)) (k : Nat) (hk : k < p.length), (pCs p)[k * 2]? = some (.int .i64 (p[k].1 : Int))
  | [], k, hk => by simp at hk
  | q :: r, 0, _ => rfl
  | q :: r, k + 1, hk => by
    rw [show (k + 1) * 2 = k * 2 + 2 by omega]
    exact pCs_at0 r k (by simpa using hk)
theorem pCs_at1 : ∀ (p : List (Nat × List UInt8)) (k : Nat) (hk : k < p.length), (pCs p)[k * 2 + 1]? = some (strV p[k].2)
  | [], k, hk => by simp at hk
  | q :: r, 0, _ => rfl
  | q :: r, k + 1, hk => by
    rw [show (k + 1) * 2 + 1 = k * 2 + 1 + 2 by omega]
    exact pCs_at1 r k (by simpa using hk)

def rCells (dv pv : Value) (l : Int) (dn : Bool) : Array Value := #[dv, pv, .int .i64 l, .bool dn]
structure Rk (w : World) (base R n : Nat) (dv pv : Value) (l : Int) (s : DS) : Prop where
  hR : w.heap[R]? = some (.cells (rCells dv pv l s.down) 40 (0, 0))
  hd : w.ownsRow base 9 1 dv n (dCs n s.dur)
  hp : w.ownsRow base 65 2 pv s.pend.length (pCs s.pend)
  nd : dv.ownBlock ≠ some R
  np : pv.ownBlock ≠ some R
  dp : ∀ g, dv.ownBlock = some g → pv.ownBlock ≠ some g
  bR : base ≤ R
  n0 : 16 ≤ n
  n1 : n ≤ 65536
  len : s.dur.length = n * 64
  ok : okPd n s.pend
  lb : -1 ≤ l ∧ l ≤ 9223372036854775807
  ll : s.down = false → l = if s.stops = true then s.calls else -1
  cs : s.stops = true → s.down = false → 0 ≤ s.calls
def OR (R : Nat) (dv pv : Value) : Nat → Prop := fun k => k = R ∨ dv.ownBlock = some k ∨ pv.ownBlock = some k
section
variable {w : World} {base R n : Nat} {dv pv : Value} {l : Int} {s : DS}
theorem Rk.lt (h : Rk w base R n dv pv l s) : R < w.heap.size := (Array.getElem?_eq_some_iff.1 h.hR).1
theorem Rk.c0 (h : Rk w base R n dv pv l s) : w.cell? ⟨R, 0, none⟩ = some dv := by rw [cell_of_row w R 0 _ _ _ h.hR]; rfl
theorem Rk.c1 (h : Rk w base R n dv pv l s) : w.cell? ⟨R, 1, none⟩ = some pv := by rw [cell_of_row w R 1 _ _ _ h.hR]; rfl
theorem Rk.c2 (h : Rk w base R n dv pv l s) : w.cell? ⟨R, 2, none⟩ = some (.int .i64 l) := by rw [cell_of_row w R 2 _ _ _ h.hR]; rfl
theorem Rk.c3 (h : Rk w base R n dv pv l s) : w.cell? ⟨R, 3, none⟩ = some (.bool s.down) := by rw [cell_of_row w R 3 _ _ _ h.hR]; rfl
theorem Rk.fz (h : Rk w base R n dv pv l s) (o : Nat) : w.frozen? ⟨R, o, none⟩ = false := by simp [World.frozen?, h.hR]
theorem Rk.flags {w' : World} (h : Rk w base R n dv pv l s) (l' : Int) (s' : DS) (hd : s'.dur = s.dur) (hp : s'.pend = s.pend) (hm : Mod (fun k => k = R) w w')
    (hw : w'.heap[R]? = some (.cells (rCells dv pv l' s'.down) 40 (0, 0))) (hl : -1 ≤ l' ∧ l' ≤ 9223372036854775807) (hll : s'.down = false → l' = if s'.stops = true then s'.calls else -1) (hcs : s'.stops = true → s'.down = false → 0 ≤ s'.calls) : Rk w' base R n dv pv l' s' :=
  ⟨hw, by rw [hd]; exact own_keep h.hd fun g hg => hm.2 g (h.hd.lt g hg).2 (fun e => h.nd (by rw [hg, e])), by rw [hp]; exact own_keep h.hp fun g hg => hm.2 g (h.hp.lt g hg).2 (fun e => h.np (by rw [hg, e])),
    h.nd, h.np, h.dp, h.bR, h.n0, h.n1, by rw [hd]; exact h.len, by rw [hp]; exact h.ok, hl, hll, hcs⟩
theorem Rk.keep {O : Nat → Prop} {w' : World} (h : Rk w base R n dv pv l s) (hm : Mod O w w') (h1 : ¬ O R) (h2 : ∀ g, dv.ownBlock = some g → ¬ O g) (h3 : ∀ g, pv.ownBlock = some g → ¬ O g) : Rk w' base R n dv pv l s :=
  ⟨(hm.2 R h.lt h1).trans h.hR, own_keep h.hd fun g hg => hm.2 g (h.hd.lt g hg).2 (h2 g hg), own_keep h.hp fun g hg => hm.2 g (h.hp.lt g hg).2 (h3 g hg),
    h.nd, h.np, h.dp, h.bR, h.n0, h.n1, h.len, h.ok, h.lb, h.ll, h.cs⟩
end
/-- what a call leaves of the reference's disk -/
def AfterR (w : World) (base R n : Nat) (dv pv : Value) (s' : DS) (w' : World) : Prop :=
  ∃ dv' pv' l', Mod (OR R dv pv) w w' ∧ Rk w' base R n dv' pv' l' s' ∧ (∀ g, dv'.ownBlock = some g → dv.ownBlock = some g ∨ w.heap.size ≤ g) ∧ ∀ g, pv'.ownBlock = some g → pv.ownBlock = some g ∨ w.heap.size ≤ g
theorem AfterR.same {w : World} {base R n : Nat} {dv pv : Value} {l : Int} {s : DS} (h : Rk w base R n dv pv l s) : AfterR w base R n dv pv s w := ⟨dv, pv, l, Mod.refl _ _, h, fun _ h => .inl h, fun _ h => .inl h⟩
theorem AfterR.ofR {w w' : World} {base R n : Nat} {dv pv : Value} {l : Int} {s : DS} (hm : Mod (fun k => k = R) w w') (h : Rk w' base R n dv pv l s) : AfterR w base R n dv pv s w' := ⟨dv, pv, l, hm.mono fun _ h => .inl h, h, fun _ h => .inl h, fun _ h => .inl h⟩
theorem AfterR.trans {a b c : World} {base R n : Nat} {dv pv : Value} {s : DS} (hm : Mod (fun k => k = R) a b) (h : AfterR b base R n dv pv s c) : AfterR a base R n dv pv s c := by
  obtain ⟨dv', pv', l', h1, h2, h3, h4⟩ := h
  exact ⟨dv', pv', l', (hm.mono fun _ h => .inl h).trans h1, h2, fun g hg => (h3 g hg).imp id fun h => Nat.le_trans hm.size h, fun g hg => (h4 g hg).imp id fun h => Nat.le_trans hm.size h⟩

set_option maxHeartbeats 800000 in
theorem padded_c (b : List UInt8) (hb : b.length ≤ 64) (w : World) : Calls Try.prog 25 #[strV b] w fun e w' => e = .returned (strV (pad b)) ∧ w = w' := by
  unfold strV
  go_enter Try.func25, Try.ntmps25
  go_wp2_with fail
  go_loop [0] (fun v => ∃ k : Nat, b.length + k ≤ 64 ∧ v = .string ⟨(b ++ List.replicate k 0).toArray⟩) (fun v => 64 - (match v with | .string x => x.size | _ => 0))
  case atStart => exact ⟨0, by omega, by simp⟩
  case round =>
    obtain ⟨k, hk, rfl⟩ := hrel
    have hs : (⟨(b ++ List.replicate k 0).toArray⟩ : ByteArray).size = b.length + k := by show (b ++ List.replicate k 0).toArray.size = _; simp
    have ha : (⟨(b ++ List.replicate k 0).toArray⟩ : ByteArray) ++ { data := #[0] } = ⟨(b ++ List.replicate (k + 1) 0).toArray⟩ := by
      rw [show ({ data := #[0] } : ByteArray) = ⟨[(0 : UInt8)].toArray⟩ from rfl, str_add, List.append_assoc, List.replicate_succ']
    generalize hX : (⟨(b ++ List.replicate k 0).toArray⟩ : ByteArray) = X at *
    by_cases hlt : b.length + k < 64
    · have hlt' : (X.size : Int) < 64 := by omega
      have HA := Lib.hid ha
      have HS := Lib.hid hs
      clear ha hs hX
      go_wp2_with fail
      go_round
      case rel => exact ⟨k + 1, by omega, by rw [← HA.out]⟩
      case measure =>
        rw [HA.out]
        have e : (⟨(b ++ List.replicate (k + 1) 0).toArray⟩ : ByteArray).size = b.length + (k + 1) := by show (b ++ List.replicate (k + 1) 0).toArray.size = _; simp
        have := HS.out
        simp only [e]
        omega
    · have hge : (64 : Int) ≤ (X.size : Int) := by omega
      have HX := Lib.hid hX
      have HE := Lib.hid (show b ++ List.replicate k 0 = pad b by unfold pad; rw [show 64 - b.length = k by omega])
      clear ha hs hX
      go_wp2_with fail
      go_ret
      exact ⟨by rw [← HX.out, HE.out]; rfl, rfl⟩

set_option maxHeartbeats 1600000 in
theorem call_c {w : World} {base R n : Nat} {dv pv : Value} {l : Int} {s : DS} (h : Rk w base R n dv pv l s) (hdn : s.down = false) :
    Calls Try.prog 26 #[.pointer (some ⟨R, 0, none⟩)] w fun e w' => e = .returned (.bool (!s.fails)) ∧ Mod (fun k => k = R) w w' ∧ ∃ l', Rk w' base R n dv pv l' s.count := by
  have c2 := h.c2
  have c3 := h.c3
  have f2 := h.fz 2
  have f3 := h.fz 3
  have hlb := h.lb
  have hll := h.ll hdn
  have hcs := h.cs
  have HD := Lib.hid h
  obtain ⟨dur, pend, down, stops, calls⟩ := s
  simp only at hdn hll hcs
  subst hdn
  clear h
  cases stops
  · simp only [Bool.false_eq_true, if_false] at hll
    subst hll
    clear hcs
    go_enter Try.func26, Try.ntmps26
    go_wp2_with fail
    go_ret
    exact ⟨rfl, Mod.refl _ _, -1, HD.out.flags _ _ rfl rfl (Mod.refl _ _) (by rw [HD.out.hR]; rfl) (by omega) (by simp [DS.count]) (by simp [DS.count])⟩
  · simp only [if_true] at hll
    subst hll
    have hc0 := hcs rfl rfl
    clear hcs
    by_cases h0 : l = 0
    · subst h0
      go_enter Try.func26, Try.ntmps26
      go_wp2_with fail
      go_ret
      exact ⟨rfl, Mod.setD _ _ _ _, 0, HD.out.flags _ _ rfl rfl (Mod.setD _ _ _ _) (by rw [heap_setCell_same _ _ _ _ HD.out.hR]; rfl) (by omega) (by simp [DS.count]) (by simp [DS.count])⟩
    · have hb : (l == 0) = false := by simpa using h0
      have hpos : 0 < l := by omega
      go_enter Try.func26, Try.ntmps26
      go_wp2_with fail
      go_ret
      exact ⟨ret_bool (by simp [DS.fails, hb]), Mod.setD _ _ _ _, l - 1, HD.out.flags _ _ rfl rfl (Mod.setD _ _ _ _) (by rw [heap_setCell_same _ _ _ _ HD.out.hR]; simp [rCells, DS.count, hb]) (by omega) (by simp [DS.count]) (by simp [DS.count]; omega)⟩

def DS.stop (s : DS) (c : Int) : DS := if s.down = true then s else if c < 0 then s else { s with stops := true, calls := c }
def DS.stopE (s : DS) (c : Int) : Int := if s.down = true then 90 else if c < 0 then 1 else 0

set_option maxHeartbeats 800000 in
theorem stopR_c {w : World} {base R n : Nat} {dv pv : Value} {l : Int} {s : DS} (h : Rk w base R n dv pv l s) (c : Int) (hc : c ≤ 9223372036854775807) :
    Calls Try.prog 20 #[.pointer (some ⟨R, 0, none⟩), .int .i64 c] w fun e w' => e = .returned (.int .i64 (s.stopE c)) ∧ AfterR w base R n dv pv (s.stop c) w' := by
  have c2 := h.c2
  have c3 := h.c3
  have f2 := h.fz 2
  have HD := Lib.hid h
  unfold DS.stop DS.stopE
  cases hd : s.down
  · rw [hd] at c3
    have HDN := Lib.hid hd
    clear h hd
    by_cases h0 : c < 0
    · rw [if_pos h0, if_pos h0]
      go_enter Try.func20, Try.ntmps20
      go_wp2_with fail
      go_ret
      exact ⟨rfl, AfterR.same HD.out⟩
    · rw [if_neg h0, if_neg h0]
      have h0' : 0 ≤ c := by omega
      clear h0
      go_enter Try.func20, Try.ntmps20
      go_wp2_with fail
      go_ret
      exact ⟨rfl, AfterR.ofR (Mod.setD _ _ _ _) (HD.out.flags c _ rfl rfl (Mod.setD _ _ _ _) (by rw [heap_setCell_same _ _ _ _ HD.out.hR]; simp [rCells, HDN.out]) (by omega) (by simp) (by simp; exact h0'))⟩
  · rw [hd] at c3
    clear h hd
    go_enter Try.func20, Try.ntmps20
    go_wp2_with fail
    go_ret
    exact ⟨rfl, AfterR.same HD.out⟩

set_option maxHeartbeats 800000 in
theorem stop_c {w : World} {base D S n : Nat} {pv : Value} {s : DS} (h : Dk w base D S n pv s) (c : Int) (hc : c ≤ 9223372036854775807) :
    Calls Try.prog 19 #[.pointer (some ⟨D, 0, none⟩), .int .i64 c] w fun e w' => e = .returned (.int .i64 (s.stopE c)) ∧ After w base D S n pv (s.stop c) w' := by
  have HS := Lib.hid (silence_c h)
  have c3 := h.c3
  have c4 := h.c4
  have f3 := h.fz 3
  have f4 := h.fz 4
  have HD := Lib.hid h
  unfold DS.stop DS.stopE
  cases hd : s.down
  · rw [hd] at HS
    have HDN := Lib.hid hd
    clear h hd
    by_cases h0 : c < 0
    · rw [if_pos h0, if_pos h0]
      go_enter Try.func19, Try.ntmps19
      go_wp2_with (first | (go_at_call 24; refine (HS.out).mono ?_; rintro e w' ⟨rfl, rfl⟩))
      go_ret
      exact ⟨rfl, After.same HD.out⟩
    · rw [if_neg h0, if_neg h0]
      have h0' : 0 ≤ c := by omega
      clear h0
      go_enter Try.func19, Try.ntmps19
      go_wp2_with (first | (go_at_call 24; refine (HS.out).mono ?_; rintro e w' ⟨rfl, rfl⟩))
      go_ret
      exact ⟨rfl, After.ofD (Mod.setD2 _ _ _ _ _ _) (HD.out.flags _ rfl rfl (by rw [heap_setCell_same _ _ _ _ (heap_setCell_same _ _ _ _ HD.out.hD)]; simp [dCells, HDN.out]) (Mod.setD2 _ _ _ _ _ _) (by simp; omega) (by simp; exact h0'))⟩
  · rw [hd] at HS
    clear h hd
    go_enter Try.func19, Try.ntmps19
    go_wp2_with (first | (go_at_call 24; refine (HS.out).mono ?_; rintro e w' ⟨rfl, rfl⟩))
    go_ret
    exact ⟨rfl, After.same HD.out⟩
end Go.Proofs.Ytcamcmcopkclfaa
