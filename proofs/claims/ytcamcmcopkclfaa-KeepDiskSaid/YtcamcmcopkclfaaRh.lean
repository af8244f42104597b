/- KeepDisk: its walk. -/
import Derived.Test.YtcamcmcopkclfaaRg
set_option linter.unusedSimpArgs false
set_option linter.unusedVariables false
set_option maxRecDepth 100000
namespace Go.Proofs.Ytcamcmcopkclfaa
open Go.RowKit

structure OpA where
  kind : Int
  sec : Int
  nn : Int
  dv : Value
  kv : Value
  b : List UInt8
  ks : List Int
structure OpIs (w : World) (g o : Nat) (x : OpA) : Prop where
  c0 : w.cell? ⟨g, o, none⟩ = some (.int .u8 x.kind)
  c1 : w.cell? ⟨g, o + 1, none⟩ = some (.int .i64 x.sec)
  c2 : w.cell? ⟨g, o + 2, none⟩ = some x.dv
  c3 : w.cell? ⟨g, o + 3, none⟩ = some (.int .i64 x.nn)
  c4 : w.cell? ⟨g, o + 4, none⟩ = some x.kv
  hb : ArgB w x.dv x.b
  hk : ArgI w x.kv x.ks
  k0 : 0 ≤ x.kind
  k1 : x.kind ≤ 255
  n1 : x.nn ≤ 9223372036854775807
  lb : x.b.length ≤ 9223372036854775807
  lk : x.ks.length ≤ 9223372036854775807
def OpsA (w : World) (v : Value) (l : List OpA) : Prop :=
  ∃ ad cap, v = .slice ad l.length cap ∧ l.length ≤ 9223372036854775807 ∧ (0 < l.length → ∃ g o, ad = some ⟨g, o, none⟩ ∧ ∀ i (hi : i < l.length), OpIs w g (o + i * 5) l[i])

theorem step_c {w W : World} {D R n : Nat} {s : DS} {dv kv : Value} {b : List UInt8} {ks : List Int} (kind sec nn : Int) (h : Two0 w W D R n s s) (hk0 : 0 ≤ kind) (hroom : s.pend.length ≤ 1000) (hdv : ArgB w dv b) (hdl : b.length ≤ 200) (hkv : ArgI w kv ks) (hkl : ks.length ≤ 200) (hnn : nn ≤ 9223372036854775807) :
    Calls Try.prog 9 #[.pointer (some ⟨D, 0, none⟩), .pointer (some ⟨R, 0, none⟩), .agg #[.int .u8 kind, .int .i64 sec, dv, .int .i64 nn, kv]] W fun e w' => StepR w D R n s e w' := by
  have h5 : kind % 5 = 0 ∨ kind % 5 = 1 ∨ kind % 5 = 2 ∨ kind % 5 = 3 ∨ kind % 5 = 4 := by omega
  rcases h5 with h5 | h5 | h5 | h5 | h5
  · exact step_read kind sec nn h hk0 h5 hroom
  · exact step_write kind sec nn h hk0 h5 hroom hdv hdl
  · exact step_flush kind sec nn h hk0 h5 hroom
  · exact step_stop kind sec nn h hk0 h5 hnn
  · exact step_crash kind sec nn h hk0 h5 hroom hkv hkl

def okOp (x : OpA) : Bool := decide (x.b.length ≤ 200 ∧ x.ks.length ≤ 200)
def smallB (l : List OpA) : Bool := decide (l.length ≤ 200) && l.all okOp
theorem all_take (l : List OpA) (k : Nat) (hk : k < l.length) : (l.take (k + 1)).all okOp = ((l.take k).all okOp && okOp l[k]) := by
  rw [List.take_succ_eq_append_getElem hk, List.all_append]; simp

set_option maxHeartbeats 2000000 in
theorem small_c {w : World} {v : Value} {l : List OpA} (h : OpsA w v l) : Calls Try.prog 5 #[v] w fun e w' => e = .returned (.bool (smallB l)) ∧ w = w' := by
  obtain ⟨ad, cap, rfl, hmax, hops⟩ := h
  have HO := Lib.hid hops
  obtain ⟨m, hm⟩ : ∃ m, m = l.length := ⟨_, rfl⟩
  have Hm := Lib.hid hm
  unfold smallB
  rw [← hm] at hmax ⊢
  clear hops hm
  by_cases h1 : 200 < m
  · have h1' : (200 : Int) < (m : Int) := by omega
    rw [show decide (m ≤ 200) = false by simpa using h1]
    clear h1
    go_enter Try.func5, Try.ntmps5
    go_wp2_with fail
    go_ret
    exact ⟨rfl, rfl⟩
  · have h1' : (m : Int) ≤ 200 := by omega
    rw [show decide (m ≤ 200) = true by simp; omega]
    go_enter Try.func5, Try.ntmps5
    go_wp2_with fail
    go_loop [3] (fun i => ∃ k : Nat, k ≤ m ∧ i = .int .i64 (k : Int) ∧ (l.take k).all okOp = true) (fun i => m - (intOf i).toNat)
    case atStart => exact ⟨0, by omega, rfl, rfl⟩
    case round =>
      obtain ⟨k, hk, rfl, hall⟩ := hrel
      have HALL := Lib.hid hall
      clear hall
      by_cases hlt : k < m
      · have hlt' : (k : Int) < (m : Int) := by omega
        have hkl : k < l.length := by rw [← Hm.out]; exact hlt
        obtain ⟨g, o, had, hop⟩ := HO.out (by rw [← Hm.out]; omega)
        subst had
        have hx := hop k hkl
        have hst := all_take l k hkl
        rw [HALL.out, Bool.true_and] at hst
        generalize l[k] = x at *
        have c2 := hx.c2
        have c4 := hx.c4
        have lb := hx.lb
        have lk := hx.lk
        obtain ⟨da, dc, hdv, -⟩ := hx.hb
        obtain ⟨ka, kc, hkv, -⟩ := hx.hk
        rw [hdv] at c2
        rw [hkv] at c4
        have HST := Lib.hid hst
        obtain ⟨n1, hn1⟩ : ∃ n1, n1 = x.b.length := ⟨_, rfl⟩
        obtain ⟨n2, hn2⟩ : ∃ n2, n2 = x.ks.length := ⟨_, rfl⟩
        rw [← hn1] at c2 lb
        rw [← hn2] at c4 lk
        have HN1 := Lib.hid hn1
        have HN2 := Lib.hid hn2
        have HAL := Lib.hid (show okOp x = false → l.all okOp = false from fun hf => by
          cases hb : l.all okOp
          · rfl
          · have h2 : (l.take (k + 1)).all okOp = true := List.all_eq_true.2 fun y hy => List.all_eq_true.1 hb y (List.mem_of_mem_take hy)
            rw [HST.out, hf] at h2; cases h2)
        clear hop hx hst hdv hkv hn1 hn2
        by_cases hb1 : 200 < n1
        · have hb1' : (200 : Int) < (n1 : Int) := by omega
          have hf : okOp x = false := by unfold okOp; rw [← HN1.out]; simp; omega
          have HF := Lib.hid (HAL.out hf)
          clear hb1 hf
          go_wp2_with fail
          go_ret
          exact ⟨ret_bool (show false = (true && l.all okOp) by rw [HF.out]; rfl), rfl⟩
        · have hb1' : (n1 : Int) ≤ 200 := by omega
          by_cases hb2 : 200 < n2
          · have hb2' : (200 : Int) < (n2 : Int) := by omega
            have hf : okOp x = false := by unfold okOp; rw [← HN1.out, ← HN2.out]; simp; omega
            have HF := Lib.hid (HAL.out hf)
            clear hb1 hb2 hf
            go_wp2_with fail
            go_ret
            exact ⟨ret_bool (show false = (true && l.all okOp) by rw [HF.out]; rfl), rfl⟩
          · have hb2' : (n2 : Int) ≤ 200 := by omega
            have HOK := Lib.hid (show okOp x = true by unfold okOp; rw [← HN1.out, ← HN2.out]; simp; omega)
            clear hb1 hb2
            go_wp2_with fail
            go_round
            case rel => exact ⟨k + 1, by omega, by go_num, by rw [HST.out, HOK.out]⟩
            case measure => simp [intOf]; omega
      · obtain rfl : k = m := by omega
        have hl : l.all okOp = true := by have := HALL.out; rw [Hm.out, List.take_length] at this; exact this
        have HL := Lib.hid hl
        clear hl
        go_wp2_with fail
        go_ret
        exact ⟨ret_bool (show true = (true && l.all okOp) by rw [HL.out]; rfl), rfl⟩

theorem Rk.base {w : World} {base base' R n : Nat} {dv pv : Value} {l : Int} {s : DS} (h : Rk w base R n dv pv l s) (hb : base' ≤ base) : Rk w base' R n dv pv l s :=
  ⟨h.hR, own_base h.hd hb, own_base h.hp hb, h.nd, h.np, h.dp, Nat.le_trans hb h.bR, h.n0, h.n1, h.len, h.ok, h.lb, h.ll, h.cs⟩

set_option maxHeartbeats 2000000 in
theorem disk_c (sec : Int) (w : World) : Calls Try.prog 8 #[.int .i64 sec] w fun e w' => ∃ D R n : Nat, e = .returned (.tuple #[.pointer (some ⟨D, 0, none⟩), .pointer (some ⟨R, 0, none⟩), .bool true]) ∧ n ≤ 80 ∧ Two0 w w' D R n (DS.empty n) (DS.empty n) := by
  go_enter Try.func8, Try.ntmps8
  go_wp2_with fail
  obtain ⟨n, hn, hn1, hn2⟩ : ∃ n : Nat, wrap64 (16 + wrap64 ((IntKind.u64.wrap sec).tmod 65)) = (n : Int) ∧ 16 ≤ n ∧ n ≤ 80 := by
    have hw : 0 ≤ IntKind.u64.wrap sec := by simp [IntKind.wrap, IntKind.signed, IntKind.bits]; exact Int.emod_nonneg _ (by decide)
    rw [Int.tmod_eq_emod_of_nonneg hw]
    have h0 := Int.emod_nonneg (IntKind.u64.wrap sec) (show (65 : Int) ≠ 0 by omega)
    have h1 := Int.emod_lt_of_pos (IntKind.u64.wrap sec) (show (0 : Int) < 65 by omega)
    rw [IntWalk.wrap64_in (IntKind.u64.wrap sec % 65) ⟨by omega, by omega⟩, IntWalk.wrap64_in _ ⟨by omega, by omega⟩]
    exact ⟨(16 + IntKind.u64.wrap sec % 65).toNat, by omega, by omega, by omega⟩
  rw [hn]
  clear hn
  refine (newDisk_at n _ hn1 (by omega)).mono ?_
  rintro e w1 ⟨D, S, rfl, hw1, hk1⟩
  have HW1 := Lib.hid hw1
  have HK1 := Lib.hid hk1
  clear hw1 hk1
  go_wp2_with fail
  refine (newR_yes n _ hn1 (by omega)).mono ?_
  rintro e w2 ⟨R, dv, l, rfl, hw2, hk2⟩
  have HTW := Lib.hid (show Two0 w w2 D R n (DS.empty n) (DS.empty n) from by
    have hm : Mod (fun _ => False) w1 w2 := Mod.of_new hw2
    have hk := HK1.out
    refine ⟨S, .slice none 0 0, dv, .slice none 0 0, l, HW1.out.trans hw2, hk.keep hm (fun h => h) (fun h => h) (fun _ _ h => h), hk2.base HW1.out.size, fun k hk1 hk3 => ?_⟩
    have a1 := (OD.lt hk hk1).2
    have a2 := (OR.lt hk2 hk3).1
    omega)
  clear hw2 hk2
  go_wp2_with fail
  go_ret3
  exact ⟨D, R, n, rfl, hn2, HTW.out⟩

theorem Two0.down {w W : World} {D R n : Nat} {s r : DS} (h : Two0 w W D R n s r) : Calls Try.prog 10 #[.pointer (some ⟨D, 0, none⟩)] W fun e w' => e = .returned (.bool s.down) ∧ W = w' := by
  obtain ⟨S, pv, dv, rv, l, h1, h2, h3, h4⟩ := h
  exact down_c h2
theorem Two0.rdown {w W : World} {D R n : Nat} {s r : DS} (h : Two0 w W D R n s r) : W.cell? ⟨R, 3, none⟩ = some (.bool r.down) := by
  obtain ⟨S, pv, dv, rv, l, h1, h2, h3, h4⟩ := h
  exact h3.c3
theorem Two0.rlen {w W : World} {D R n : Nat} {s r : DS} (h : Two0 w W D R n s r) : ∃ T tc, W.cell? ⟨R, 0, none⟩ = some (.slice (some ⟨T, 0, none⟩) n tc) := by
  obtain ⟨S, pv, dv, rv, l, h1, h2, h3, h4⟩ := h
  obtain ⟨T, tc, hdv, _⟩ := h3.dForm
  subst hdv
  exact ⟨T, tc, h3.c0⟩
def LpS (w W : World) (D R n : Nat) (s : DS) (k : Nat) : Prop := Two0 w W D R n s s ∧ s.pend.length ≤ k
theorem nil_b (w : World) : ArgB w (.slice none 0 0) [] := ⟨none, 0, rfl, fun h => absurd h (by simp)⟩
theorem nil_i (w : World) : ArgI w (.slice none 0 0) [] := ⟨none, 0, rfl, fun h => absurd h (by simp)⟩

set_option maxHeartbeats 8000000 in
theorem law_c {w : World} (sec : Int) {v : Value} {l : List OpA} (h : OpsA w v l) : Calls Try.prog 3 #[.int .i64 sec, v] w fun e w' => e = .returned (.bool true) ∧ New w w' := by
  have HS := Lib.hid (small_c h)
  have HO := Lib.hid h
  obtain ⟨ad, cap, rfl, hmax, hops⟩ := h
  have HOP := Lib.hid hops
  obtain ⟨m, hm⟩ : ∃ m, m = l.length := ⟨_, rfl⟩
  have Hm := Lib.hid hm
  rw [← hm] at HS hmax ⊢
  clear hops hm
  cases hs : smallB l
  · rw [hs] at HS
    clear hs
    go_enter Try.func3, Try.ntmps3
    go_wp2_with (first | (go_at_call 5; refine (HS.out).mono ?_; rintro e w' ⟨rfl, rfl⟩) | (go_at_call 6; refine (disks_c _).mono ?_; rintro e w7 ⟨rfl, hn7⟩))
    go_ret
    exact ⟨rfl, hn7⟩
  · rw [hs] at HS
    have HSM := Lib.hid hs
    clear hs
    have hml : m ≤ 200 := by
      have := HSM.out
      unfold smallB at this
      simp only [Bool.and_eq_true, decide_eq_true_eq] at this
      rw [Hm.out]; exact this.1
    have HAL := Lib.hid (show ∀ i (hi : i < l.length), l[i].b.length ≤ 200 ∧ l[i].ks.length ≤ 200 from fun i hi => by
      have := HSM.out
      unfold smallB at this
      simp only [Bool.and_eq_true] at this
      have h2 := List.all_eq_true.1 this.2 l[i] (List.getElem_mem hi)
      unfold okOp at h2
      simpa using h2)
    have hsec : sec < 16 ∨ 65536 < sec ∨ (16 ≤ sec ∧ sec ≤ 65536) := by omega
    have HND := Lib.hid (fun (h : sec < 16 ∨ 65536 < sec) (w : World) => newDisk_no sec w h)
    rcases hsec with hsec | hsec | ⟨hsec, hsec2⟩
    all_goals
      go_enter Try.func3, Try.ntmps3
      go_wp2_with (first | (go_at_call 5; refine (HS.out).mono ?_; rintro e w' ⟨rfl, rfl⟩) | (go_at_call 7; refine (HND.out (by omega) _).mono ?_; rintro e w' ⟨rfl, rfl⟩))
      refine (disk_c sec _).mono ?_
      rintro e w1 ⟨D, R, n, rfl, hn80, ht⟩
      have HT := Lib.hid ht
      clear ht
      go_wp2_with fail
      go_loopw [10] (fun i wr => ∃ (k : Nat) (s : DS), k ≤ m ∧ i = .int .i64 (k : Int) ∧ LpS w wr D R n s k) (fun i _ => m - (intOf i).toNat)
      case atStart => exact ⟨0, DS.empty n, by omega, rfl, HT.out, by simp [DS.empty]⟩
      case round =>
        obtain ⟨k, s, hk, rfl, hlp⟩ := hrel
        obtain ⟨U1, rfl⟩ : ∃ U1 : World, U1 = wr := ⟨_, rfl⟩
        have HLP := Lib.hid hlp
        have nU := hlp.1.new
        clear hlp
        by_cases hlt : k < m
        · have hlt' : (k : Int) < (m : Int) := by omega
          have hkl : k < l.length := by rw [← Hm.out]; exact hlt
          obtain ⟨g, o, had, hop⟩ := HOP.out (by rw [← Hm.out]; omega)
          subst had
          have hx := hop k hkl
          have hab := HAL.out k hkl
          generalize l[k] = x at *
          have HX := Lib.hid hx
          have HAB := Lib.hid hab
          have HCE := Lib.hid (show ∀ W, New w W → W.cell? ⟨g, o + k * 5, none⟩ = some (.int .u8 x.kind) ∧ W.cell? ⟨g, o + k * 5 + 1, none⟩ = some (.int .i64 x.sec) ∧ W.cell? ⟨g, o + k * 5 + 2, none⟩ = some x.dv ∧ W.cell? ⟨g, o + k * 5 + 3, none⟩ = some (.int .i64 x.nn) ∧ W.cell? ⟨g, o + k * 5 + 4, none⟩ = some x.kv from fun W hW => by
            have hg : g < w.heap.size := World.block_lt_of_cell? w _ hx.c0
            have hh := hW.below.block g hg
            rw [cell_same hh, cell_same hh, cell_same hh, cell_same hh, cell_same hh]
            exact ⟨hx.c0, hx.c1, hx.c2, hx.c3, hx.c4⟩)
          clear hop hx hab
          have hroom : s.pend.length ≤ 1000 := by have := HLP.out.2; omega
          go_wp2_with fail
          obtain ⟨e0, e1, e2, e3, e4⟩ := HCE.out U1 nU
          go_region_law (first | (go_simp; go_at_call 9; refine (step_c x.kind x.sec x.nn (HLP.out.1.grow (New.drew (New.refl _))) HX.out.k0 hroom HX.out.hb HAB.out.1 HX.out.hk HAB.out.2 HX.out.n1).mono ?_; rintro e w2 ⟨rfl, s2, ht2, hp2⟩; have HT2 := Lib.hid ht2; have HP2 := Lib.hid hp2; have n2 := ht2.new; have r3 := ht2.rdown; clear ht2 hp2) | (go_simp; go_at_call 10; refine (HT2.out.down).mono ?_; rintro e w' ⟨rfl, rfl⟩))
          all_goals (generalize s2.down = dn at *)
          all_goals (go_wp2_with fail)
          all_goals go_roundw
          all_goals first
            | exact ⟨k + 1, s2, by omega, by go_num, HT2.out, by have := HLP.out.2; have := HP2.out; omega⟩
            | (simp [intOf]; omega)
        · obtain rfl : k = m := by omega
          go_wp2_with fail
          go_loopw [11] (fun i wr => ∃ (j : Nat) (s : DS), j ≤ n ∧ i = .int .i64 (j : Int) ∧ LpS w wr D R n s (200 + j)) (fun i _ => n - (intOf i).toNat)
          case atStart => exact ⟨0, s, by omega, rfl, HLP.out.1, by have := HLP.out.2; omega⟩
          case round =>
            obtain ⟨j, s1, hj, rfl, hlp⟩ := hrel
            obtain ⟨V1, rfl⟩ : ∃ V1 : World, V1 = wr := ⟨_, rfl⟩
            have HLV := Lib.hid hlp
            obtain ⟨T, tc, c0⟩ := hlp.1.rlen
            clear hlp
            by_cases hjn : j < n
            · have hjn' : (j : Int) < (n : Int) := by omega
              have hroom : s1.pend.length ≤ 1000 := by have := HLV.out.2; omega
              go_wp2_with (first | (go_at_call 9; refine (step_c (b := []) (ks := []) 0 _ 0 HLV.out.1 (by omega) hroom (nil_b w) (by simp) (nil_i w) (by simp) (by omega)).mono ?_; rintro e w2 ⟨rfl, s2, ht2, hp2⟩; have HT2 := Lib.hid ht2; have HP2 := Lib.hid hp2; clear ht2 hp2))
              go_roundw
              case rel => exact ⟨j + 1, s2, by omega, by go_num, HT2.out, by have := HLV.out.2; have := HP2.out; omega⟩
              case measure => simp [intOf]; omega
            · have hjn' : (n : Int) ≤ (j : Int) := by omega
              have nV := HLV.out.1.new
              go_wp2_with (first | (go_at_call 6; refine (disks_c _).mono ?_; rintro e w7 ⟨rfl, hn7⟩))
              go_ret
              exact ⟨rfl, nV.trans hn7⟩
end Go.Proofs.Ytcamcmcopkclfaa
