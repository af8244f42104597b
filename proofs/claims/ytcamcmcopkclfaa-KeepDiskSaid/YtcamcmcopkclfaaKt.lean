/- KeepTorn: its walk. -/
import Derived.Test.YtcamcmcopkclfaaKi
import Derived.WalkLawsBesides
set_option linter.unusedSimpArgs false
set_option linter.unusedVariables false
set_option maxRecDepth 100000
namespace Go.Proofs.Ytcamcmcopkclfaa
open Go.RowKit

/-- v reads the bytes b -/
def ArgB (w : World) (v : Value) (b : List UInt8) : Prop := ∃ ad cap, v = .slice ad b.length cap ∧ (0 < b.length → ∃ g o, ad = some ⟨g, o, none⟩ ∧ w.rangeAt g o (bV b))
theorem ArgB.bs {w W : World} {v : Value} {b : List UInt8} (h : ArgB w v b) (hn : New w W) (D : Nat) (hD : w.heap.size ≤ D) : Bs W D v b := by
  obtain ⟨ad, cap, hv, hr⟩ := h
  refine ⟨ad, cap, hv, fun hp => ?_⟩
  obtain ⟨g, o, ha, hg⟩ := hr hp
  refine ⟨g, o, ha, range_mod hg (Mod.of_new (O := fun _ => False) hn) (fun h => h), ?_⟩
  have hc := hg 0 _ (by rw [List.getElem?_eq_getElem (by rw [bV_length]; exact hp)])
  have := World.block_lt_of_cell? w _ hc
  simp at this
  omega

theorem write_a {w W : World} {base D S n : Nat} {pv v : Value} {s : DS} {b : List UInt8} (hN : New w W) (hb : w.heap.size ≤ base) (hk : Dk W base D S n pv s) (hv : ArgB w v b) (a : Int) (hl : b.length ≤ 64) (hroom : s.pend.length ≤ 1000) :
    Calls Try.prog 11 #[.pointer (some ⟨D, 0, none⟩), .int .i64 a, v] W fun e w' => ∃ pv', e = .returned (.int .i64 (s.writeE n a b)) ∧ New w w' ∧ Dk w' base D S n pv' (s.write n a b) :=
  (write_c hk a (hv.bs hN D (Nat.le_trans hb hk.bD)) (by omega) hroom).mono fun e w' ⟨he, ha⟩ => by obtain ⟨pv', h1, h2⟩ := After.new hN hb hk ha; exact ⟨pv', he, h1, h2⟩

/-- the bytes of a sector that was torn -/
def tornX (old new : List UInt8) (kept : Int) : List UInt8 := (pad new).take (keepN [kept] 0) ++ (pad old).drop (keepN [kept] 0)
def sT1 (a : Nat) (old : List UInt8) : DS := { DS.empty 16 with pend := [(a, pad old)] }
def sT2 (a : Nat) (old : List UInt8) : DS := { DS.empty 16 with dur := spl (List.replicate (16 * 64) 0) (a * 64) (pad old) }
def sT3 (a : Nat) (old new : List UInt8) : DS := { sT2 a old with pend := [(a, pad new)] }
theorem ref16 {s : DS} (hd : s.down = false) {a : Nat} (ha : a < 16) : refI s 16 (a : Int) = 0 := by
  unfold refI; rw [hd, if_neg (by simp), if_neg (by omega)]
theorem t1E {a : Nat} {old : List UInt8} (ha : a < 16) (ho : old.length ≤ 64) : (DS.empty 16).writeE 16 (a : Int) old = 0 := by
  unfold DS.writeE; rw [ref16 rfl ha, if_neg (by omega), if_neg (by omega)]; rfl
theorem t1S {a : Nat} {old : List UInt8} (ha : a < 16) (ho : old.length ≤ 64) : (DS.empty 16).write 16 (a : Int) old = sT1 a old := by
  unfold DS.write; rw [ref16 rfl ha, if_neg (by omega), if_neg (by omega)]; rfl
theorem t3E {a : Nat} {old new : List UInt8} (ha : a < 16) (ho : new.length ≤ 64) : (sT2 a old).writeE 16 (a : Int) new = 0 := by
  unfold DS.writeE; rw [ref16 rfl ha, if_neg (by omega), if_neg (by omega)]; rfl
theorem t3S {a : Nat} {old new : List UInt8} (ha : a < 16) (ho : new.length ≤ 64) : (sT2 a old).write 16 (a : Int) new = sT3 a old new := by
  unfold DS.write; rw [ref16 rfl ha, if_neg (by omega), if_neg (by omega)]; rfl
theorem sect_spl (L : List UInt8) (a : Nat) (c : List UInt8) (hc : c.length ≤ 64) (hl : (a + 1) * 64 ≤ L.length) : sect (spl L (a * 64) c) a = c ++ (sect L a).drop c.length := by
  unfold sect spl
  rw [List.append_assoc, List.drop_append, List.drop_eq_nil_of_le (by simp; omega), List.nil_append, List.length_take, Nat.min_eq_left (by omega), Nat.sub_self, List.drop_zero, List.take_append, List.take_of_length_le hc, List.drop_take, List.drop_drop]
theorem torn_sect {a : Nat} {old new : List UInt8} {kept : Int} (ha : a < 16) (ho : old.length ≤ 64) (hn : new.length ≤ 64) : sect (cur ((sT3 a old new).crash [kept]).dur ((sT3 a old new).crash [kept]).pend) a = tornX old new kept := by
  have hk := keepN_le [kept] 0
  have hp := pad_length ho
  have hq := pad_length hn
  show sect (spl (spl (List.replicate (16 * 64) 0) (a * 64) (pad old)) (a * 64) ((pad new).take (keepN [kept] 0))) a = _
  have hL : (spl (List.replicate (16 * 64) 0) (a * 64) (pad old)).length = 1024 := by rw [spl_length _ _ _ (by simp; omega)]; simp
  rw [sect_spl _ _ _ (by simp; omega) (by omega), sect_spl _ _ _ (by omega) (by simp; omega)]
  unfold tornX
  rw [List.length_take, hq, Nat.min_eq_left hk, show (sect (List.replicate (16 * 64) 0) a).drop (pad old).length = [] from List.drop_eq_nil_of_le (by rw [sect_length _ _ (by simp; omega)]; omega), List.append_nil]
theorem tornX_length {old new : List UInt8} {kept : Int} (ho : old.length ≤ 64) (hn : new.length ≤ 64) : (tornX old new kept).length = 64 := by
  have hk := keepN_le [kept] 0
  have hp := pad_length ho
  have hq := pad_length hn
  simp [tornX, hp, hq]; omega
/-- what KeepTorn wants of byte i -/
def wantI (old new : List UInt8) (kept : Int) (i : Nat) : UInt8 := if (i : Int) < kept then new.getD i 0 else old.getD i 0
theorem pad_at {b : List UInt8} (i : Nat) (hi : i < 64) (hb : b.length ≤ 64) : (pad b)[i]? = some (b.getD i 0) := by
  unfold pad
  by_cases h : i < b.length
  · rw [List.getElem?_append_left h, List.getElem?_eq_getElem h]; simp [List.getD, List.getElem?_eq_getElem h]
  · rw [List.getElem?_append_right (by omega), List.getElem?_eq_getElem (by simp; omega)]; simp [List.getD, List.getElem?_eq_none (show b.length ≤ i by omega)]
theorem torn_at {old new : List UInt8} {kept : Int} (ho : old.length ≤ 64) (hn : new.length ≤ 64) (i : Nat) (hi : i < 64) : (tornX old new kept)[i]? = some (wantI old new kept i) := by
  have hk := keepN_le [kept] 0
  have hq := pad_length hn
  have hk2 : keepN [kept] 0 = (min (max kept 0) 64).toNat := rfl
  unfold tornX wantI
  by_cases h : (i : Int) < kept
  · rw [if_pos h, List.getElem?_append_left (by simp; omega), List.getElem?_take_of_lt (by omega), pad_at i hi hn]
  · rw [if_neg h, List.getElem?_append_right (by simp; omega), List.getElem?_drop, List.length_take, hq, Nat.min_eq_left hk, show keepN [kept] 0 + (i - keepN [kept] 0) = i by omega, pad_at i hi ho]

set_option maxHeartbeats 4000000 in
theorem torn_c {w : World} (sec kept : Int) {ov nv : Value} {old new : List UInt8} (ho : ArgB w ov old) (hn : ArgB w nv new) (hol : old.length ≤ 64) (hnl : new.length ≤ 64) :
    Calls Try.prog 4 #[.int .i64 sec, ov, nv, .int .i64 kept] w fun e w' => e = .returned (.bool true) ∧ New w w' := by
  have HO := Lib.hid ho
  have HN := Lib.hid hn
  obtain ⟨oa, oc, rfl, hor⟩ := ho
  obtain ⟨na, nc, rfl, hnr⟩ := hn
  have HOR := Lib.hid hor
  have HNR := Lib.hid hnr
  clear hor hnr
  have h1 : (old.length : Int) ≤ 64 := by omega
  have h2 : (new.length : Int) ≤ 64 := by omega
  go_enter Try.func4, Try.ntmps4
  go_wp2_with fail
  obtain ⟨k, hk, hk16⟩ : ∃ k : Nat, wrap64 ((IntKind.u64.wrap sec).tmod 16) = (k : Int) ∧ k < 16 := by
    have hw : 0 ≤ IntKind.u64.wrap sec := by simp [IntKind.wrap, IntKind.signed, IntKind.bits]; exact Int.emod_nonneg _ (by decide)
    rw [Int.tmod_eq_emod_of_nonneg hw]
    have h0 := Int.emod_nonneg (IntKind.u64.wrap sec) (show (16 : Int) ≠ 0 by omega)
    have h1 := Int.emod_lt_of_pos (IntKind.u64.wrap sec) (show (0 : Int) < 16 by omega)
    rw [IntWalk.wrap64_in _ ⟨by omega, by omega⟩]
    exact ⟨(IntKind.u64.wrap sec % 16).toNat, by omega, by omega⟩
  rw [hk]
  clear hk
  refine (newDisk_16 _).mono ?_
  rintro e w1 ⟨D, S, rfl, hn1, hk1⟩
  have HN1 := Lib.hid hn1
  have HK1 := Lib.hid hk1
  clear hn1 hk1
  have hol' := Lib.hid hol
  have hnl' := Lib.hid hnl
  go_wp2_with fail
  refine (write_a HN1.out (Nat.le_refl _) HK1.out HO.out _ hol'.out (by decide)).mono ?_
  rintro e w2 ⟨p2, rfl, hn2, hk2⟩
  rw [t1E hk16 hol'.out]
  rw [t1S hk16 hol'.out] at hk2
  have HN2 := Lib.hid hn2
  have HK2 := Lib.hid hk2
  clear hn2 hk2
  go_wp2_with fail
  refine (flush_n HN2.out (Nat.le_refl _) HK2.out).mono ?_
  rintro e w3 ⟨p3, rfl, hn3, hk3⟩
  have HN3 := Lib.hid hn3
  have HK3 := Lib.hid (show Dk w3 w.heap.size D S 16 p3 (sT2 k old) from hk3)
  rw [show (sT1 k old).flushE = 0 from rfl]
  clear hn3 hk3
  go_wp2_with fail
  refine (write_a HN3.out (Nat.le_refl _) HK3.out HN.out _ hnl'.out (by simp [sT2, DS.empty])).mono ?_
  rintro e w4 ⟨p4, rfl, hn4, hk4⟩
  rw [t3E hk16 hnl'.out]
  rw [t3S hk16 hnl'.out] at hk4
  have HN4 := Lib.hid hn4
  have HK4 := Lib.hid hk4
  clear hn4 hk4
  go_wp2_with fail
  refine (crash_lit HN4.out (Nat.le_refl _) HK4.out [kept] _ rfl 3 (0, 0) 1 1 rfl (by simp) (by simp [sT3])).mono ?_
  rintro e w5 ⟨p5, rfl, hn5, hk5⟩
  have HN5 := Lib.hid hn5
  have HK5 := Lib.hid hk5
  clear hn5 hk5
  go_wp2_with fail
  refine (read_n HN5.out HK5.out k (ref16 rfl hk16) (tornX old new kept) (torn_sect hk16 hol'.out hnl'.out) (tornX_length hol'.out hnl'.out)).mono ?_
  rintro e w6 ⟨g, rfl, hg, hn6, hk6⟩
  have HN6 := Lib.hid hn6
  have HG := Lib.hid hg
  have HDn := Lib.hid (down_c hk6)
  clear hg hn6 hk6
  go_wp2_with (first | (go_at_call 10; refine (HDn.out).mono ?_; rintro e w' ⟨rfl, rfl⟩; rw [show ((sT3 k old new).crash [kept]).down = false from rfl]))
  clear h1 h2
  go_loop [17] (fun i => ∃ j : Nat, j ≤ 64 ∧ i = .int .i64 (j : Int)) (fun i => 64 - (intOf i).toNat)
  case atStart => exact ⟨0, by omega, rfl⟩
  case round =>
    obtain ⟨j, hj, rfl⟩ := hrel
    by_cases hlt : j < 64
    · have hj64 : (j : Int) < 64 := by omega
      have hcs : w6.cell? ⟨g, j, none⟩ = some (.int .u8 ((wantI old new kept j).toNat : Int)) := by
        rw [cell_of_row w6 g j _ _ _ HG.out]
        simp only [List.getElem?_toArray, bV, List.getElem?_map, torn_at hol'.out hnl'.out j hlt]; rfl
      by_cases hk : (j : Int) < kept
      · have hw : wantI old new kept j = new.getD j 0 := by unfold wantI; rw [if_pos hk]
        rw [hw] at hcs
        clear hw
        by_cases hn : j < new.length
        · have hn' : (j : Int) < (new.length : Int) := by omega
          obtain ⟨b2, o2, rfl, hr2⟩ := HNR.out (by omega)
          have hcn : w6.cell? ⟨b2, o2 + j, none⟩ = some (.int .u8 ((new.getD j 0).toNat : Int)) :=
            range_mod hr2 (Mod.of_new (O := fun _ => False) HN6.out) (fun h => h) j _ (by simp [bV, List.getElem?_map, List.getElem?_eq_getElem hn, List.getD])
          generalize ((new.getD j 0).toNat : Int) = V at *
          generalize new.length = n2 at *
          clear hr2 hn
          go_wp2_with fail
          all_goals
            go_round
            case rel => exact ⟨j + 1, by omega, by go_num⟩
            case measure => simp [intOf]; omega
        · have hn' : (new.length : Int) ≤ (j : Int) := by omega
          rw [show new.getD j 0 = 0 by simp [List.getD, List.getElem?_eq_none (show new.length ≤ j by omega)], show ((0 : UInt8).toNat : Int) = 0 from rfl] at hcs
          generalize new.length = n2 at *
          clear hn
          go_wp2_with fail
          all_goals
            go_round
            case rel => exact ⟨j + 1, by omega, by go_num⟩
            case measure => simp [intOf]; omega
      · have hw : wantI old new kept j = old.getD j 0 := by unfold wantI; rw [if_neg hk]
        have hk' : kept ≤ (j : Int) := by omega
        rw [hw] at hcs
        clear hw hk
        by_cases hn : j < old.length
        · have hn' : (j : Int) < (old.length : Int) := by omega
          obtain ⟨b2, o2, rfl, hr2⟩ := HOR.out (by omega)
          have hcn : w6.cell? ⟨b2, o2 + j, none⟩ = some (.int .u8 ((old.getD j 0).toNat : Int)) :=
            range_mod hr2 (Mod.of_new (O := fun _ => False) HN6.out) (fun h => h) j _ (by simp [bV, List.getElem?_map, List.getElem?_eq_getElem hn, List.getD])
          generalize ((old.getD j 0).toNat : Int) = V at *
          generalize old.length = n2 at *
          clear hr2 hn
          go_wp2_with fail
          all_goals
            go_round
            case rel => exact ⟨j + 1, by omega, by go_num⟩
            case measure => simp [intOf]; omega
        · have hn' : (old.length : Int) ≤ (j : Int) := by omega
          rw [show old.getD j 0 = 0 by simp [List.getD, List.getElem?_eq_none (show old.length ≤ j by omega)], show ((0 : UInt8).toNat : Int) = 0 from rfl] at hcs
          generalize old.length = n2 at *
          clear hn
          go_wp2_with fail
          all_goals
            go_round
            case rel => exact ⟨j + 1, by omega, by go_num⟩
            case measure => simp [intOf]; omega
    · have hj64 : (64 : Int) ≤ (j : Int) := by omega
      go_wp2_with (first | (go_at_call 6; refine (disks_c _).mono ?_; rintro e w7 ⟨rfl, hn7⟩))
      go_ret
      exact ⟨rfl, HN6.out.trans hn7⟩
set_option maxHeartbeats 800000 in
theorem torn_any {w : World} (sec kept : Int) {ov nv : Value} {old new : List UInt8} (ho : ArgB w ov old) (hn : ArgB w nv new) :
    Calls Try.prog 4 #[.int .i64 sec, ov, nv, .int .i64 kept] w fun e w' => e = .returned (.bool true) ∧ New w w' := by
  by_cases h1 : 64 < old.length
  · obtain ⟨oa, oc, rfl, -⟩ := ho
    obtain ⟨na, nc, rfl, -⟩ := hn
    have h1' : (64 : Int) < (old.length : Int) := by omega
    generalize old.length = n1 at *
    generalize new.length = n2 at *
    clear h1
    go_enter Try.func4, Try.ntmps4
    go_wp2_with (first | (go_at_call 6; refine (disks_c _).mono ?_; rintro e w7 ⟨rfl, hn7⟩))
    go_ret
    exact ⟨rfl, hn7⟩
  · by_cases h2 : 64 < new.length
    · obtain ⟨oa, oc, rfl, -⟩ := ho
      obtain ⟨na, nc, rfl, -⟩ := hn
      have h1' : (old.length : Int) ≤ 64 := by omega
      have h2' : (64 : Int) < (new.length : Int) := by omega
      generalize old.length = n1 at *
      generalize new.length = n2 at *
      clear h1 h2
      go_enter Try.func4, Try.ntmps4
      go_wp2_with (first | (go_at_call 6; refine (disks_c _).mono ?_; rintro e w7 ⟨rfl, hn7⟩))
      go_ret
      exact ⟨rfl, hn7⟩
    · exact torn_c sec kept ho hn (by omega) (by omega)
end Go.Proofs.Ytcamcmcopkclfaa
