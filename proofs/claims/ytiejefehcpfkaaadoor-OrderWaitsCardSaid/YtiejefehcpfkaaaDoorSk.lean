/- The graph of a problem without circles, as openOrdered returns it. Lists of any length that memory takes. · Whether a list is an order, as isOrder returns it. Lists of any length that memory takes. -/
import Derived.Test.YtiejefehcpfkaaaDoorSi

section
set_option linter.unusedSimpArgs false
set_option linter.unusedVariables false
set_option maxRecDepth 100000
namespace Go.Proofs.YtiejefehcpfkaaaDoor
open Go.RowKit

theorem Gr.whole {w : World} {g : Nat} {G : Gph} (h : Gr w g G) : w.rangeAt g 0 G.cells := by
  have := World.rangeAt_of_block h 0 99
  have e : (G.cells.toArray.extract 0 (0 + 99)).toList = G.cells := by simp; exact List.take_of_length_le (by rw [Gph.len]; omega)
  rw [e] at this; exact this
theorem zero_there {w : World} {g : Nat} (h : w.heap[g]? = some (.cells Tryd.zeroCells83 83 (0, 0))) : w.there g 0 99 := by
  rw [zc_graph] at h
  exact Gr.there (G := G0) h 0 99 (by omega)
set_option maxHeartbeats 8000000 in
theorem openOrdered_c {w : World} {v : Value} {o : Prb} {av nv : Value} (h : PrbA w v o av nv) : Calls Tryd.prog 84 #[v] w fun en w' => en = .returned (.tuple #[.agg (opR o av nv).cells.toArray, .int .i64 (ordI o av nv)]) ∧ New w w' := by
  have HO := Lib.hid (fun (w1 : World) (hn : New w w1) => open_c (h.new hn))
  have HOK := Lib.hid (opR_ok h.sh)
  have HZ1 := Lib.hid built_zero
  rw [← zc_graph] at HZ1
  have hv := h.eq
  obtain ⟨x1, x2, x3, x4, e1, e2⟩ := h.sh
  clear h
  obtain ⟨H, hH⟩ : ∃ H, w.heap.size = H := ⟨_, rfl⟩
  have HH := Lib.hid hH
  by_cases hc : chkI o = 0
  · have hG : opR o av nv = opG o av nv := by unfold opR; rw [if_pos hc]
    have hE : ordI o av nv = (if cirB (opG o av nv).re (opG o av nv).n then 50 else 0) := by unfold ordI; rw [if_neg (by simpa using hc)]
    rw [hc, hG] at HO
    rw [hG] at HOK
    rw [hE, hG]
    have HCK := Lib.hid (fun w1 : World => checkOrdered_c (opG o av nv) w1 HOK.out)
    clear hc hG hE
    generalize opG o av nv = RG at *
    generalize (if cirB RG.re RG.n then (50 : Int) else 0) = E at *
    subst hv
    subst e1 e2
    go_enter Tryd.func84, Tryd.ntmps84
    go_upto_region 4 with (first | (go_at_call 68; (with_reducible refine (HO.out _ ?_).mono ?_); (repeat (first | exact New.refl _ | apply New.alloc)); rintro e w6 ⟨rfl, n6⟩; have HN := Lib.hid ((((New.refl w).alloc _).alloc _).trans n6); have R6 := Lib.hid (two_heap HH.out n6); clear n6) | (refine wpList_store_graph rfl (.tmp 4) (.tmp 9) rfl rfl rfl HOK.out ?_; intro w7 n7 g7; obtain ⟨g, hg⟩ : ∃ g, w6.heap.size = g := ⟨_, rfl⟩; simp only [hg] at g7 ⊢; have N7 := Lib.hid n7; have G7 := Lib.hid g7; have R7 := Lib.hid (row_new R6.out n7); clear n7 g7))
    have hl7 := (Array.getElem?_eq_some_iff.1 R6.out).1
    have hne : g ≠ H + 1 := by omega
    refine wp_region_held_drew (S := fun w' => Gr w' g RG) (by kernel_rfl) (by exact G7.out) (fun hHeld => ?_)
    refine wpAnyH_take (i := 0) rfl (by kernel_rfl) (by kernel_rfl) (by kernel_rfl) (fun _ _ _ h => h) (yieldsIf_load_mid (by rfl) 83 (.tmp 4) rfl g 0 rfl RG.cells _ (fun w hw => hw.whole) Tryd.underlying83 rfl (by rw [Gph.len]; exact graph_size)) (by assumption) ?_
    (try simp only [Act.put, List.setIfInBounds_toArray, List.set_cons_zero, List.set_cons_succ])
    refine wpAnyH_take (i := 1) rfl (by kernel_rfl) (by kernel_rfl) (by kernel_rfl) (fun _ _ _ h => h) (yieldsIf_load_mid (by rfl) 83 (.tmp 4) rfl g 0 rfl RG.cells _ (fun w hw => hw.whole) Tryd.underlying83 rfl (by rw [Gph.len]; exact graph_size)) (by assumption) ?_
    (try simp only [Act.put, List.setIfInBounds_toArray, List.set_cons_zero, List.set_cons_succ])
    refine wpAnyH_ready (rs := [2]) (by kernel_rfl) (by simp) ?_
    refine AllReadyH.cons rfl (fun K hK => ?_) AllReadyH.nil
    go_simp
    go_at_call 127
    refine (HCK.out _).mono ?_
    rintro e w8 ⟨rfl, n8⟩
    have N8 := Lib.hid (show New w7 w8 from (New.refl w7).drew.trans n8)
    clear n8
    refine hK.out _ _ (G7.out.new N8.out) (fun hHeld => ?_)
    clear hK K
    (try simp only [Act.put, List.setIfInBounds_toArray, List.set_cons_zero, List.set_cons_succ])
    refine wpAnyH_ready (rs := [3]) (by kernel_rfl) (by simp) ?_
    refine AllReadyH.cons rfl (fun K hK => ?_) AllReadyH.nil
    rw [if_pos (by rfl)]
    have R8 := row_new R7.out N8.out
    refine wp_store_row 83 (.tmp 2) (.tmp 15) rfl (H + 1) RG.cells.toArray rfl rfl 83 _ R8 (graph_sizeG _) (by rw [zc_graph]; simp [Gph.len]) (Gph.all HOK.out) ?_
    have G9 := Lib.hid (show Gr (w8.setRow (H + 1) RG.cells.toArray) g RG from (setRow_other _ _ _ _ hne).trans (G7.out.new N8.out))
    have N9 := Lib.hid (show New w (w8.setRow (H + 1) RG.cells.toArray) from (HN.out.trans (N7.out.trans N8.out)).setRow (by rw [HH.out]; omega) _)
    have R9 := Lib.hid (setRow_heap _ _ _ RG.cells.toArray _ _ R8)
    generalize w8.setRow (H + 1) RG.cells.toArray = w9 at *
    clear R8
    refine hK.out _ _ G9.out (fun hHeld => ?_)
    clear hK K
    (try simp only [Act.put, List.setIfInBounds_toArray, List.set_cons_zero, List.set_cons_succ])
    refine wpAnyH_ready (rs := [4]) (by kernel_rfl) (by simp) ?_
    refine AllReadyH.cons rfl (fun K hK => ?_) AllReadyH.nil
    go_simp
    refine hK.out _ _ G9.out (fun hHeld => ?_)
    clear hK K
    (try simp only [Act.put, List.setIfInBounds_toArray, List.set_cons_zero, List.set_cons_succ])
    refine wpAnyH_done (by kernel_rfl) ?_ _
    go_wp2_with fail
    refine bodyPost_ret (results_row_tmp rfl _ _ (H + 1) _ _ _ _ rfl R9.out Tryd.underlying83 rfl (graph_sizeG _)) rfl ?_
    exact ⟨rfl, N9.out⟩
  · have hG : opR o av nv = G0 := by unfold opR; rw [if_neg hc]
    rw [hG] at HO HOK
    have hF : ordI o av nv = chkI o := by unfold ordI; rw [if_pos hc]
    have he : (chkI o != 0) = true := by simpa using hc
    rw [hF, hG]
    clear hF hc hG
    generalize chkI o = E at *
    subst hv
    subst e1 e2
    go_enter Tryd.func84, Tryd.ntmps84
    go_wp2_with (first | (go_at_call 68; (with_reducible refine (HO.out _ ?_).mono ?_); (repeat (first | exact New.refl _ | apply New.alloc)); rintro e w6 ⟨rfl, n6⟩; have HN := Lib.hid ((((New.refl w).alloc _).alloc _).trans n6); have R6 := Lib.hid (two_heap HH.out n6); clear n6) | (refine wpList_store_graph rfl (.tmp 4) (.tmp 9) rfl rfl rfl HOK.out ?_; intro w7 n7 g7; obtain ⟨g, hg⟩ : ∃ g, w6.heap.size = g := ⟨_, rfl⟩; simp only [hg] at g7 ⊢; have N7 := Lib.hid n7; have G7 := Lib.hid g7; have R7 := Lib.hid (row_new R6.out n7); clear n7 g7) | (refine wpList_built rfl 83 _ rfl _ HZ1.out ?_) | (refine wpList_put_zero rfl (.tmp 2) (.tmp 13) rfl (H + 1) rfl rfl R7.out ?_))
    refine bodyPost_ret (ret_zero rfl _ _ (H + 1) rfl R7.out) rfl ?_
    exact ⟨rfl, HN.out.trans N7.out⟩
end Go.Proofs.YtiejefehcpfkaaaDoor
end

section
set_option linter.unusedSimpArgs false
set_option linter.unusedVariables false
set_option maxRecDepth 100000
namespace Go.Proofs.YtiejefehcpfkaaaDoor
open Go.RowKit

def nI (l : List Int) (i : Nat) : Int := l.getD i 0
/-- the slice at av holds the numbers l -/
def Ins (w : World) (av : Option Addr) (l : List Int) : Prop := 0 < l.length → ∃ b off, av = some ⟨b, off, none⟩ ∧ b < w.heap.size ∧ ∀ i, i < l.length → w.cell? ⟨b, off + i, none⟩ = some (.int .i64 (nI l i))
theorem Ins.new {w w' : World} {av : Option Addr} {l : List Int} (h : Ins w av l) (hn : New w w') : Ins w' av l := fun h0 => by
  obtain ⟨b, off, e, hb, hc⟩ := h h0
  exact ⟨b, off, e, Nat.lt_of_lt_of_le hb hn.size, fun i hi => by rw [hn.cell hb]; exact hc i hi⟩
/-- the set of the first k numbers -/
def laidF (l : List Int) : Nat → Nat
  | 0 => 0
  | k + 1 => laidF l k ||| 2 ^ (nI l k).toNat
def okO (G : Gph) (l : List Int) (k : Nat) : Bool := (decide (0 ≤ nI l k) && decide (nI l k < (G.n : Int))) && !((laidF l k).testBit (nI l k).toNat) && (wo (G.be (nI l k).toNat) (laidF l k) == 0)
def ioB (G : Gph) (l : List Int) : Bool := decide ((l.length : Int) = (G.n : Int)) && (List.range l.length).all (okO G l)
theorem laidF_lt {G : Gph} {l : List Int} (hG : G.n ≤ 24) : ∀ {k : Nat}, (List.range k).all (okO G l) = true → laidF l k < 4294967296
  | 0, _ => by simp [laidF]
  | k + 1, h => by
    rw [all_snoc, Bool.and_eq_true] at h
    have h2 := h.2
    unfold okO at h2
    simp only [Bool.and_eq_true, decide_eq_true_eq] at h2
    exact or_lt (laidF_lt hG h.1) (pow_lt _ (by omega))

set_option maxHeartbeats 16000000 in
theorem isOrder_c (G : Gph) (av : Option Addr) (cap : Nat) (l : List Int) (w : World) (hG : G.ok) (hl : l.length ≤ 17592186044415) (hP : Ins w av l) :
    Calls Tryd.prog 87 #[.agg G.cells.toArray, .slice av l.length cap] w fun en w' => en = .returned (.bool (ioB G l)) ∧ New w w' := by
  have HP := Lib.hid hP
  have HOK := Lib.hid hG
  have HR := Lib.hid (show ioB G l = (decide ((l.length : Int) = (G.n : Int)) && (List.range l.length).all (okO G l)) from rfl)
  have HO := Lib.hid (show ∀ k, okO G l k = ((decide (0 ≤ nI l k) && decide (nI l k < (G.n : Int))) && !((laidF l k).testBit (nI l k).toNat) && (wo (G.be (nI l k).toNat) (laidF l k) == 0)) from fun _ => rfl)
  have HLT := Lib.hid (fun k (h : (List.range k).all (okO G l) = true) => laidF_lt (l := l) hG.n24 h)
  have HL0 := Lib.hid (show laidF l 0 = 0 from rfl)
  have HLS := Lib.hid (show ∀ k, laidF l (k + 1) = laidF l k ||| 2 ^ (nI l k).toNat from fun _ => rfl)
  have h24 := hG.n24
  clear hP hG
  generalize hN : l.length = N at *
  have HNL := Lib.hid hN
  clear hN
  generalize ioB G l = R at *
  generalize okO G l = ok at *
  generalize laidF l = la at *
  have HG0 := Lib.hid (Gr.box w G)
  have c0 := HG0.out.n
  by_cases hlen : (N : Int) = (G.n : Int)
  · have hl1 : ((N : Int) != (G.n : Int)) = false := by simpa using hlen
    rw [decide_eq_true hlen] at HR
    have HLEN := Lib.hid hlen
    clear hlen
    obtain ⟨H, hH⟩ : ∃ H, w.heap.size = H := ⟨_, rfl⟩
    have HH := Lib.hid hH
    obtain ⟨GC, hGC⟩ : ∃ GC, GC = G.cells.toArray := ⟨_, rfl⟩
    rw [← hGC] at HG0 c0 ⊢
    have HGC := Lib.hid hGC
    clear hGC
    rw [hH] at c0
    go_enter Tryd.func87, Tryd.ntmps87
    go_wp2_with fail
    go_loopw [5, 16] (fun s i wr => ∃ k : Nat, k ≤ N ∧ i = .int .i64 k ∧ s = sv (la k) ∧ (List.range k).all ok = true ∧ New w wr ∧ Gr wr H G) (fun _ i _ => N - (intOf i).toNat)
    case atStart => exact ⟨0, Nat.zero_le _, rfl, by rw [HL0.out]; rfl, rfl, (New.refl _).alloc _, by have := HG0.out; rw [hH] at this; exact this⟩
    case round =>
      clear c0
      obtain ⟨k, hk, rfl, rfl, hall, hnew, hgr⟩ := hrel
      have HALL := Lib.hid hall
      have HNEW := Lib.hid hnew
      have HGR := Lib.hid hgr
      have hlk := HLT.out k hall
      clear hall hnew hgr hH
      by_cases hlt : k < N
      · obtain ⟨b, off, rfl, gl, hcc⟩ := HP.out.new HNEW.out (by rw [HNL.out]; omega)
        have c1 := hcc k (by rw [HNL.out]; omega)
        have hk1 : (k : Int) < (N : Int) := by omega
        have HOk := Lib.hid (HO.out k)
        have HLk := Lib.hid (HLS.out k)
        have HSN := Lib.hid (all_snoc ok k)
        have HMS := Lib.hid (fun (e : ok k = false) => (by rw [HR.out, all_miss hlt e]; rfl : R = false))
        have HIP := Lib.hid (fun w1 : World => isPatch_c G (nI l k) w1)
        clear hcc
        generalize nI l k = x at *
        generalize la k = L at *
        by_cases u1 : 0 ≤ x ∧ x < G.n
        · obtain ⟨p, rfl⟩ : ∃ p : Nat, x = p := ⟨x.toNat, by omega⟩
          have p24 : p < 24 := by omega
          have p24' : (p : Int) < 24 := by omega
          have htt : (true && true) = true := rfl
          rw [decide_eq_true u1.1, decide_eq_true u1.2, htt] at HOk HIP
          simp only [Int.toNat_natCast] at HOk HLk
          have HHA := Lib.hid (fun w1 : World => has_c L p w1 hlk (by omega))
          have HPO := Lib.hid (fun w1 : World => isPartOf_c (G.be p) L w1 (HOK.out.be p) hlk)
          have HSI := Lib.hid (fun w1 : World => single_c p w1 (by omega))
          have HOR := Lib.hid (or32 L (2 ^ p) hlk (pow_lt p (by omega)))
          generalize 2 ^ p = X at *
          cases hb : L.testBit p
          · rw [hb] at HHA HOk
            clear hb
            cases hw : (wo (G.be p) L == 0)
            · rw [hw] at HPO HOk
              clear hw
              have HF := Lib.hid (show false = R from (HMS.out HOk.out).symm)
              go_wp2_with (first | (refine wpList_load_row rfl 83 (.tmp 2) rfl H rfl 83 _ (0, 0) _ HGR.out Tryd.underlying83 rfl (graph_sizeG _) ?_) | (go_at_call 69; refine (HIP.out _).mono ?_; rintro e w6 ⟨rfl, n6⟩; have N6 := Lib.hid n6; clear n6) | (go_at_call 70; refine (HHA.out _).mono ?_; rintro e w7 ⟨rfl, n7⟩; have N7 := Lib.hid n7; have c5 : w7.cell? ⟨H, 51 + p, none⟩ = some (sv (G.be p)) := by rw [((HGR.out.new N6.out).new n7).cell]; exact Gph.at_be _ p p24) | (go_at_call 139; refine (HPO.out _).mono ?_; rintro e w8 ⟨rfl, n8⟩; have N8 := Lib.hid n8; clear n8))
              go_ret
              exact ⟨ret_bool HF.out, HNEW.out.trans (N6.out.trans (N7.out.trans N8.out))⟩
            · rw [hw] at HPO HOk
              clear hw
              have HV := Lib.hid (show ok k = true from HOk.out)
              go_wp2_with (first | (refine wpList_load_row rfl 83 (.tmp 2) rfl H rfl 83 _ (0, 0) _ HGR.out Tryd.underlying83 rfl (graph_sizeG _) ?_) | (go_at_call 69; refine (HIP.out _).mono ?_; rintro e w6 ⟨rfl, n6⟩; have N6 := Lib.hid n6; clear n6) | (go_at_call 70; refine (HHA.out _).mono ?_; rintro e w7 ⟨rfl, n7⟩; have N7 := Lib.hid n7; have c5 : w7.cell? ⟨H, 51 + p, none⟩ = some (sv (G.be p)) := by rw [((HGR.out.new N6.out).new n7).cell]; exact Gph.at_be _ p p24) | (go_at_call 139; refine (HPO.out _).mono ?_; rintro e w8 ⟨rfl, n8⟩; have N8 := Lib.hid n8; clear n8) | (go_at_call 91; refine (HSI.out _).mono ?_; rintro e w9 ⟨rfl, n9⟩; have N9 := Lib.hid n9; clear n9))
              go_roundw
              case rel => exact ⟨k + 1, by omega, by go_num, by rw [HLk.out]; exact congrArg (Value.int .u32) HOR.out, by rw [HSN.out, HALL.out, HV.out]; rfl, HNEW.out.trans (N6.out.trans (N7.out.trans (N8.out.trans N9.out))), HGR.out.new (N6.out.trans (N7.out.trans (N8.out.trans N9.out)))⟩
              case measure => simp [intOf]; omega
          · rw [hb] at HHA HOk
            clear hb
            have HF := Lib.hid (show false = R from (HMS.out (by rw [HOk.out]; rfl)).symm)
            go_wp2_with (first | (refine wpList_load_row rfl 83 (.tmp 2) rfl H rfl 83 _ (0, 0) _ HGR.out Tryd.underlying83 rfl (graph_sizeG _) ?_) | (go_at_call 69; refine (HIP.out _).mono ?_; rintro e w6 ⟨rfl, n6⟩; have N6 := Lib.hid n6; clear n6) | (go_at_call 70; refine (HHA.out _).mono ?_; rintro e w7 ⟨rfl, n7⟩; have N7 := Lib.hid n7))
            go_ret
            exact ⟨ret_bool HF.out, HNEW.out.trans (N6.out.trans N7.out)⟩
        · have hb : (decide (0 ≤ x) && decide (x < (G.n : Int))) = false := by rw [Bool.and_eq_false_iff, decide_eq_false_iff_not, decide_eq_false_iff_not]; omega
          rw [hb] at HOk HIP
          have HF := Lib.hid (show false = R from (HMS.out (by rw [HOk.out]; rfl)).symm)
          clear hb u1
          go_wp2_with (first | (refine wpList_load_row rfl 83 (.tmp 2) rfl H rfl 83 _ (0, 0) _ HGR.out Tryd.underlying83 rfl (graph_sizeG _) ?_) | (go_at_call 69; refine (HIP.out _).mono ?_; rintro e w6 ⟨rfl, n6⟩; have N6 := Lib.hid n6; clear n6))
          go_ret
          exact ⟨ret_bool HF.out, HNEW.out.trans N6.out⟩
      · have ht : ¬ ((k : Int) < (N : Int)) := by omega
        obtain rfl : N = k := by omega
        have HF := Lib.hid (show true = R by rw [HR.out, HALL.out]; rfl)
        go_wp2_with fail
        go_ret
        exact ⟨ret_bool HF.out, HNEW.out⟩
  · have hl1 : ((N : Int) != (G.n : Int)) = true := by simpa using hlen
    have HF := Lib.hid (show false = R by rw [HR.out, decide_eq_false hlen]; rfl)
    clear hlen
    obtain ⟨GC, hGC⟩ : ∃ GC, GC = G.cells.toArray := ⟨_, rfl⟩
    rw [← hGC] at c0 ⊢
    clear hGC HG0
    go_enter Tryd.func87, Tryd.ntmps87
    go_wp2_with fail
    go_ret
    exact ⟨ret_bool HF.out, (New.refl _).alloc _⟩
end Go.Proofs.YtiejefehcpfkaaaDoor
end
