/- Reasons of the reference, at any problem, number and order: they are the program's. -/
import Derived.Test.YtiejefehcpfkaaaDoorVz
set_option linter.unusedSimpArgs false
set_option linter.unusedVariables false
set_option maxRecDepth 100000
namespace Go.Proofs.YtiejefehcpfkaaaDoor
open Go.RowKit Go.Shelf

attribute [local go_sem] Oper.semAt_some

/-- the number, kind and place of the reason that the search stands at -/
def xF (l : List Int) (i : Nat) : Option Nat → Int
  | none => nI l (i - 1)
  | some j => nI l j
def xK : Option Nat → Int
  | none => 1
  | some _ => 2
def xN (i : Nat) : Option Nat → Nat
  | none => i - 1
  | some j => j
theorem rea_x {o : Prb} {av nv : Value} (hc : chkI o = 0) {dry : Nat} {l : List Int} (h : ioB (opG o av nv) l = true) {i : Nat} (hi : i < l.length) (h0 : erF (opG o av nv) dry l l.length (nI l i).toNat ≠ 0) :
    reaI (opG o av nv) dry (l.take (i + 1)) (erF (opG o av nv) dry l l.length) = (nI l i, xF l i (inR (neR o) dry l (erF (opG o av nv) dry l l.length) i i), xK (inR (neR o) dry l (erF (opG o av nv) dry l l.length) i i)) ∧ idxF l (xF l i (inR (neR o) dry l (erF (opG o av nv) dry l l.length) i i)) = xN i (inR (neR o) dry l (erF (opG o av nv) dry l l.length) i i) ∧ xN i (inR (neR o) dry l (erF (opG o av nv) dry l l.length) i i) < i := by
  have hi0 : i ≠ 0 := fun e => by
    subst e
    exact h0 (er_first (dry := (dry : Int)) h hi)
  have e := rea_in hc h hi h0
  have hsp := inR_spec (ne := neR o) (dry := (dry : Int)) (l := l) (D := erF (opG o av nv) dry l l.length) (i := i) i
  cases hb : inR (neR o) dry l (erF (opG o av nv) dry l l.length) i i with
  | none =>
    rw [hb] at e
    exact ⟨e, idx_at h (by omega), by simp only [xN]; omega⟩
  | some j =>
    rw [hb] at e hsp
    exact ⟨e, idx_at h (by have := hsp.1; omega), hsp.1⟩
theorem rea_zero {G : Gph} {dry : Int} {l : List Int} {D : Nat → Int} {i : Nat} (hi : i < l.length) (hp : 0 ≤ nI l i) (h0 : D (nI l i).toNat = 0) : reaI G dry (l.take (i + 1)) D = (nI l i, -1, 0) := by
  have hlen : (l.take (i + 1)).length = i + 1 := by rw [List.length_take]; omega
  have e1 : nI (l.take (i + 1)) ((l.take (i + 1)).length - 1) = nI l i := by rw [hlen]; exact nI_take (by omega)
  unfold reaI
  simp only [e1]
  rw [if_pos h0]
  congr 1; omega
theorem inR_bd {ne : Int → Int → Bool} {dry : Int} {l : List Int} {D : Nat → Int} {i : Nat} (k j : Nat) (h : inR ne dry l D i k = some j) : j < k := by
  have := inR_spec (ne := ne) (dry := dry) (l := l) (D := D) (i := i) k
  rw [h] at this
  exact this.1

set_option maxHeartbeats 16000000 in
theorem rReasons_c {w : World} {v : Value} {o : Prb} {av nv : Value} (h : PrbA w v o av nv) (d : Int) (lv : Option Addr) (lc : Nat) (l : List Int) (hP : Ins w lv l) (hcap : l.length ≤ lc) (hl : l.length ≤ 17592186044415) (hc : dryO o av nv d l = 0) :
    Calls Tryd.prog 60 #[v, .int .i64 d, .slice lv l.length lc] w fun en w' => ∃ u, en = .returned (.tuple #[u, .int .i64 0]) ∧ New w w' ∧ w'.ownsRow w.heap.size 75 3 u (reasonsL (opG o av nv) d l).length (reaCells (reasonsL (opG o av nv) d l)) := by
  have HC := Lib.hid (fun (w1 : World) (hn : New w w1) => rdried_c (h.new hn) d lv lc l (hP.new hn) hcap hl)
  obtain ⟨hk, ⟨hd0, hd1⟩, hio⟩ := dryO_good hc
  rw [hc] at HC
  obtain ⟨dn, rfl⟩ : ∃ dn : Nat, d = dn := ⟨d.toNat, by omega⟩
  have hf := ioB_facts hio
  obtain ⟨n, hn⟩ : ∃ n, (opG o av nv).n = n := ⟨_, rfl⟩
  have h24 : n ≤ 24 := by have := (chkI_zero hk).1; have e : (opG o av nv).n = o.n.toNat := rfl; omega
  have hon : o.n = (n : Int) := by have := (chkI_zero hk).1; have e : (opG o av nv).n = o.n.toNat := rfl; omega
  have HDY := Lib.hid (fun (w1 : World) (hn : New w w1) => rdays_c (h.new hn) hk dn (by omega) lv lc l (hP.new hn) hio)
  have HNR := Lib.hid (fun (w1 : World) (hn : New w w1) (a b : Int) => rnear_c (h.pv.new hn) a b)
  have hln : l.length = n := by rw [hf.1, hn]
  have HIN := Lib.hid (fun (k : Nat) (hk : k < n) => (by have := hf.2 k (by omega); rw [hn] at this; exact this : 0 ≤ nI l k ∧ nI l k < (n : Int)))
  have HD := Lib.hid (fun q => erF_bd (show dn ≤ 30 by omega) hio l.length (Nat.le_refl _) q)
  have HX := Lib.hid (fun (i : Nat) (hi : i < n) (h0 : erF (opG o av nv) dn l l.length (nI l i).toNat ≠ 0) => rea_x hk hio (show i < l.length by omega) h0)
  have HZ := Lib.hid (fun (i : Nat) (hi : i < n) (h0 : erF (opG o av nv) dn l l.length (nI l i).toNat = 0) => rea_zero (G := opG o av nv) (dry := dn) (show i < l.length by omega) (hf.2 i (by omega)).1 h0)
  have HIX := Lib.hid (idx_none hio)
  have HTOT := Lib.hid (show reasonsL (opG o av nv) (dn : Int) l = [] ++ rsL (opG o av nv) (dn : Int) l (erF (opG o av nv) (dn : Int) l l.length) l.length ((l.length : Int) - 1) from rfl)
  have HRS := Lib.hid (show ∀ f i, rsL (opG o av nv) (dn : Int) l (erF (opG o av nv) (dn : Int) l l.length) (f + 1) i = if i < 0 then [] else reaI (opG o av nv) dn (l.take (i.toNat + 1)) (erF (opG o av nv) (dn : Int) l l.length) :: rsL (opG o av nv) (dn : Int) l (erF (opG o av nv) (dn : Int) l l.length) f (idxF l (reaI (opG o av nv) dn (l.take (i.toNat + 1)) (erF (opG o av nv) (dn : Int) l l.length)).2.1) from fun _ _ => rfl)
  have HRZ := Lib.hid (show ∀ f, rsL (opG o av nv) (dn : Int) l (erF (opG o av nv) (dn : Int) l l.length) f (-1) = [] from fun f => by
    cases f
    · rfl
    · unfold rsL; rw [if_pos (by omega)])
  have HR0 := Lib.hid (show ∀ i, inR (neR o) dn l (erF (opG o av nv) dn l l.length) i 0 = none from fun _ => rfl)
  have HRK := Lib.hid (show ∀ i k, inR (neR o) dn l (erF (opG o av nv) dn l l.length) i (k + 1) = if neR o (nI l k) (nI l i) && decide (erF (opG o av nv) dn l l.length (nI l k).toNat + (dn : Int) + 1 = erF (opG o av nv) dn l l.length (nI l i).toNat) && (match inR (neR o) dn l (erF (opG o av nv) dn l l.length) i k with | none => true | some j => decide (nI l k < nI l j)) then some k else inR (neR o) dn l (erF (opG o av nv) dn l l.length) i k from fun _ _ => rfl)
  have HRB := Lib.hid (fun (i k j : Nat) (h : inR (neR o) dn l (erF (opG o av nv) dn l l.length) i k = some j) => inR_bd k j h)
  obtain ⟨⟨⟨a1, ac, n1, nc, rfl, h1, h2⟩, h3, h4⟩, h5, h6⟩ := h
  have HP := Lib.hid hP
  have HLN := Lib.hid hln
  clear h1 h2 h3 h4 h5 h6 hP hc hk hio hf hd0
  rw [hn] at HDY
  rw [hln] at HDY HD HX HZ HTOT HRS HRZ HR0 HRK HRB HC hcap ⊢
  generalize reasonsL (opG o av nv) (dn : Int) l = rsT at *
  generalize erF (opG o av nv) (dn : Int) l n = D at *
  generalize inR (neR o) (dn : Int) l D = ir at *
  generalize hrsl : rsL (opG o av nv) (dn : Int) l D = rs at *
  generalize hrea : (fun i : Nat => reaI (opG o av nv) (dn : Int) (l.take (i + 1)) D) = rea at *
  have hre : ∀ i : Nat, reaI (opG o av nv) (dn : Int) (l.take (i + 1)) D = rea i := fun i => by rw [← hrea]
  simp only [hre] at HX HZ HRS
  clear hrsl hrea hre hn hln
  rw [hon] at HC HDY HNR ⊢
  clear hon
  generalize o.A.length = LA at *
  generalize o.B.length = LB at *
  obtain ⟨H, hH⟩ : ∃ H, w.heap.size = H := ⟨_, rfl⟩
  have HH := Lib.hid hH
  have HB0 := Lib.hid (show (w.alloc (.cells #[.int .i64 (n : Int), .slice a1 LA ac, .slice n1 LB nc] 24)).heap[H]? = some (.cells #[.int .i64 (n : Int), .slice a1 LA ac, .slice n1 LB nc] 24 (0, 0)) from by rw [← hH]; exact World.alloc_heap_new w _)
  rcases Nat.eq_zero_or_pos n with hn0 | hn0
  · have HTN := Lib.hid (show rsT = [] from by
      rw [HTOT.out, hn0]
      exact HRZ.out 0)
    rw [HTN.out]
    have hz : ((n : Int) == 0) = true := by rw [hn0]; rfl
    clear hn0
    clear HX HZ HRS HRZ HR0 HRK HRB HTOT HTN HNR HDY HIN h24
    go_enter Tryd.func60, Tryd.ntmps60
    go_wp2_with (go_at_call 120; (with_reducible refine (HC.out _ ?_).mono ?_); (· exact (New.refl w).alloc _); rintro e w6 ⟨rfl, n6⟩; have N6 := Lib.hid (((New.refl w).alloc _).trans n6); have HB6 := Lib.hid (row_new HB0.out n6); have e0 : w6.cell? ⟨H, 0, none⟩ = some (.int .i64 (n : Int)) := (cell_of_row w6 H 0 _ _ _ HB6.out).trans rfl; have e1 : w6.cell? ⟨H, 1, none⟩ = some (.slice a1 LA ac) := (cell_of_row w6 H 1 _ _ _ HB6.out).trans rfl; have e2 : w6.cell? ⟨H, 2, none⟩ = some (.slice n1 LB nc) := (cell_of_row w6 H 2 _ _ _ HB6.out).trans rfl; have hHl : H < w6.heap.size := World.block_lt_of_cell? _ _ e0; clear n6)
    go_ret2
    exact ⟨_, rfl, N6.out, own_nilz _ _ _ _⟩
  have hz : ((n : Int) == 0) = false := by simp; omega
  have hw1 : IntKind.i64.wrap ((n : Int) - 1) = ((n - 1 : Nat) : Int) := by rw [show (n : Int) - 1 = ((n - 1 : Nat) : Int) by omega]; exact IntWalk.i64_in _ (by omega)
  go_enter Tryd.func60, Tryd.ntmps60
  go_wp2_with (first | (go_at_call 120; (with_reducible refine (HC.out _ ?_).mono ?_); (· exact (New.refl w).alloc _); rintro e w6 ⟨rfl, n6⟩; have N6 := Lib.hid (((New.refl w).alloc _).trans n6); have HB6 := Lib.hid (row_new HB0.out n6); have e0 : w6.cell? ⟨H, 0, none⟩ = some (.int .i64 (n : Int)) := (cell_of_row w6 H 0 _ _ _ HB6.out).trans rfl; have e1 : w6.cell? ⟨H, 1, none⟩ = some (.slice a1 LA ac) := (cell_of_row w6 H 1 _ _ _ HB6.out).trans rfl; have e2 : w6.cell? ⟨H, 2, none⟩ = some (.slice n1 LB nc) := (cell_of_row w6 H 2 _ _ _ HB6.out).trans rfl; have hHl : H < w6.heap.size := World.block_lt_of_cell? _ _ e0; clear n6) | (go_at_call 121; (with_reducible refine (HDY.out _ ?_).mono ?_); (· exact N6.out); rintro e w8 ⟨b8, rfl, n8, z8, iv8⟩; have N8 := Lib.hid (N6.out.trans n8); have HB8 := Lib.hid (row_new HB6.out n8); have Z8 := Lib.hid z8; have I8 := Lib.hid iv8; clear n8 z8 iv8 e0 e1 e2 hHl))
  obtain ⟨i0, hi, hz0, hz1, hz2⟩ := info_parts rea_info
  obtain ⟨K, hK0⟩ : ∃ K, w8.heap.size = K := ⟨_, rfl⟩
  have HK0 := Lib.hid hK0
  have HHK := Lib.hid (show H < K from by rw [← hK0]; exact (Array.getElem?_eq_some_iff.1 HB8.out).1)
  have HBK8 := Lib.hid (show b8 < K from by rw [← hK0]; exact I8.out.lt)
  have HWK := Lib.hid (show w.heap.size ≤ K from by rw [← hK0]; exact N8.out.size)
  clear hK0 hw1 hz
  go_loopw [10, 11] (fun rv iv wr => ∃ (f i : Nat) (acc : List (Int × Int × Int)), iv = .int .i64 (i : Int) ∧ i < n ∧ i + 1 ≤ f ∧ acc.length + f ≤ n ∧ New w wr ∧ wr.heap[H]? = some (.cells #[.int .i64 (n : Int), .slice a1 LA ac, .slice n1 LB nc] 24 (0, 0)) ∧ Iv wr b8 n D ∧ K ≤ wr.heap.size ∧ wr.ownsRow K 75 3 rv acc.length (reaCells acc) ∧ rsT = acc ++ rs f (i : Int)) (fun _ iv _ => (intOf iv).toNat)
  case atStart => exact ⟨n, n - 1, [], rfl, by omega, by omega, by simp, N8.out, HB8.out, I8.out, by rw [HK0.out]; exact Nat.le_refl _, World.ownsRow_nil _ _ _ _, by rw [HTOT.out]; congr 2; omega⟩
  case round =>
    obtain ⟨f, i, acc, rfl, hin, hif, haf, hnew, hbx, hiv, hsz, hown, htot⟩ := hrel
    obtain ⟨U1, rfl⟩ : ∃ U1 : World, U1 = wr := ⟨_, rfl⟩
    have HNEW := Lib.hid hnew
    have HBX := Lib.hid hbx
    have HIV := Lib.hid hiv
    have HSZ := Lib.hid hsz
    have HOWN := Lib.hid hown
    have HTO := Lib.hid htot
    clear hnew hbx hiv hsz hown htot
    obtain ⟨f', rfl⟩ : ∃ f', f = f' + 1 := ⟨f - 1, by omega⟩
    obtain ⟨bl, ol, rfl, hgl, hcc⟩ := HP.out (by rw [HLN.out]; omega)
    have HGL := Lib.hid hgl
    have HCC := Lib.hid (fun k (hk : k < n) => hcc k (by rw [HLN.out]; exact hk))
    clear hcc hgl
    have hin' : (i : Int) < (n : Int) := by omega
    have HIi := Lib.hid (HIN.out i hin)
    obtain ⟨p, hp⟩ : ∃ p : Nat, nI l i = p := ⟨(nI l i).toNat, by have := HIi.out; omega⟩
    have HPI := Lib.hid hp
    have hpn : p < n := by have := HIi.out; omega
    have hpn' : (p : Int) < (n : Int) := by omega
    have c1 : U1.cell? ⟨bl, ol + i, none⟩ = some (.int .i64 (p : Int)) := by rw [← hp]; exact (HNEW.out.cell HGL.out).trans (HCC.out i hin)
    have c2 : U1.cell? ⟨b8, p, none⟩ = some (.int .i64 (D p)) := HIV.out.at p hpn
    have HST := Lib.hid (HRS.out f' (i : Int))
    rw [if_neg (by omega), Int.toNat_natCast] at HST
    have HXi := Lib.hid (HX.out i hin)
    have HZi := Lib.hid (HZ.out i hin)
    rw [hp, Int.toNat_natCast] at HXi HZi
    obtain ⟨au, cu, rfl⟩ := own_slice HOWN.out
    have hal : acc.length ≤ 24 := by omega
    clear hp
    by_cases h0 : D p = 0
    · have h0' : (D p == 0) = true := by simpa using h0
      have e := HZi.out h0
      rw [e] at HST
      have hfin : rsT = acc ++ [((p : Int), -1, 0)] := by rw [HTO.out, HST.out, HIX.out, HRZ.out]
      have HFIN := Lib.hid hfin
      rw [h0] at c2
      clear e hfin h0 h0' HXi HZi
      go_wp2_with (at_builtin; refine wpList_append_own _ rfl _ _ 55 rfl K 75 i0 (.agg #[.int .i64 0, .int .i64 0, .int .u8 0]) 3 24 Tryd.underlying55 hi hz0 hz1 hz2 rfl (by decide) (.slice au acc.length cu) acc.length (reaCells acc) rfl ?qa0 ⟨U1.heap.size, 0, none⟩ 1 1 [.int .i64 (p : Int), .int .i64 (-1), .int .u8 0] rfl rfl ?qa2 ?qa3 ?qa4 ?qa5 ?qa6 ?_)
      case qa0 => exact own_new HOWN.out ((New.refl U1).alloc _)
      case qa3 => first | (exact ⟨rfl, rfl, rfl⟩) | (intro u hu; simp at hu; rcases hu with rfl | rfl | rfl <;> rfl)
      case qa4 => unfold maxLen; omega
      case qa5 => omega
      case qa6 => have h1 := HSZ.out; have h2 := (New.refl U1).size; simp; omega
      intro v' w11 hown hgrow hnil
      have hn11 : New w w11 := Mod.new (HNEW.out.alloc _) (Mod.grown (O := fun q => K ≤ q) hgrow (fun g hg => (HOWN.out.lt g hg).1)) (fun q hq => Nat.le_trans HWK.out hq)
      have HN11 := Lib.hid hn11
      have HOW11 := Lib.hid hown
      obtain ⟨av', cv', rfl⟩ := own_slice hown
      clear hown hgrow hnil hn11 c1 c2
      go_wp2_with fail
      go_ret2
      refine ⟨_, rfl, HN11.out, ?_⟩
      rw [HFIN.out, reaCells_snoc, List.length_append]
      exact own_base HOW11.out HWK.out
    · have h0' : (D p == 0) = false := by simpa using h0
      obtain ⟨x1, x2, x3⟩ := HXi.out h0
      have HX1 := Lib.hid x1
      have HX2 := Lib.hid x2
      have HX3 := Lib.hid x3
      have hi0 : 0 < i := by omega
      have u1 : ((i : Int) - 1) = ((i - 1 : Nat) : Int) := by omega
      have u2 : ((i - 1 : Nat) : Int) < (n : Int) := by omega
      have hwi : IntKind.i64.wrap ((i : Int) - 1) = ((i - 1 : Nat) : Int) := by rw [u1]; exact IntWalk.i64_in _ (by omega)
      have c3 : U1.cell? ⟨bl, ol + (i - 1), none⟩ = some (.int .i64 (nI l (i - 1))) := (HNEW.out.cell HGL.out).trans (HCC.out (i - 1) (by omega))
      obtain ⟨B, hB⟩ : ∃ B, U1.heap.size = B := ⟨_, rfl⟩
      have HBB := Lib.hid hB
      clear x1 x2 x3 h0 HZi HXi
      have HX0 := Lib.hid (show (U1.alloc (.cells #[.int .i64 (p : Int), .int .i64 (nI l (i - 1)), .int .u8 1] 75)).heap[B]? = some (.cells #[.int .i64 (p : Int), .int .i64 (nI l (i - 1)), .int .u8 1] 75 (0, 0)) from by rw [← hB]; exact World.alloc_heap_new U1 _)
      have HRi := Lib.hid (HRK.out i)
      have HR0i := Lib.hid (HR0.out i)
      have HRBi := Lib.hid (HRB.out i)
      rw [HPI.out, Int.toNat_natCast] at HRi
      generalize ir i = ri at *
      go_wp2_with fail
      clear hwi u1 u2 h0' c1 c2 c3
      go_loopw [14, 15] (fun v14 v15 w2 => ∃ k : Nat, k ≤ i ∧ v15 = .int .i64 (k : Int) ∧ v14 = .int .i64 (xN i (ri k) : Int) ∧ New U1 w2 ∧ w2.heap[B]? = some (.cells #[.int .i64 (p : Int), .int .i64 (xF l i (ri k)), .int .u8 (xK (ri k))] 75 (0, 0))) (fun _ v15 _ => i - (intOf v15).toNat)
      case atStart => exact ⟨0, Nat.zero_le _, rfl, by rw [HR0i.out]; rfl, (New.refl U1).alloc _, by rw [HR0i.out]; exact HX0.out⟩
      case round =>
        obtain ⟨k, hk, rfl, rfl, hnew2, hbx2⟩ := hrel
        obtain ⟨U2, rfl⟩ : ∃ U2 : World, U2 = wr := ⟨_, rfl⟩
        have N2 := Lib.hid hnew2
        have HX2' := Lib.hid hbx2
        clear hnew2 hbx2 HX0
        have HBX2 := Lib.hid (row_new HBX.out N2.out)
        have HBU := Lib.hid (show B < U2.heap.size from (Array.getElem?_eq_some_iff.1 HX2'.out).1)
        by_cases hki : k < i
        · have hk1 : (k : Int) < (i : Int) := by omega
          have hk2 : (k : Int) < (n : Int) := by omega
          have HIk := Lib.hid (HIN.out k (by omega))
          obtain ⟨q, hq⟩ : ∃ q : Nat, nI l k = q := ⟨(nI l k).toNat, by have := HIk.out; omega⟩
          have hqn : q < n := by have := HIk.out; omega
          have hqn' : (q : Int) < (n : Int) := by omega
          have NW2 := Lib.hid (HNEW.out.trans N2.out)
          have c1 : U2.cell? ⟨bl, ol + k, none⟩ = some (.int .i64 (q : Int)) := by rw [← hq]; exact (NW2.out.cell HGL.out).trans (HCC.out k (by omega))
          have hg1 : bl < U2.heap.size := Nat.lt_of_lt_of_le HGL.out NW2.out.size
          have e0 : U2.cell? ⟨H, 0, none⟩ = some (.int .i64 (n : Int)) := (cell_of_row U2 H 0 _ _ _ HBX2.out).trans rfl
          have e1 : U2.cell? ⟨H, 1, none⟩ = some (.slice a1 LA ac) := (cell_of_row U2 H 1 _ _ _ HBX2.out).trans rfl
          have e2 : U2.cell? ⟨H, 2, none⟩ = some (.slice n1 LB nc) := (cell_of_row U2 H 2 _ _ _ HBX2.out).trans rfl
          have hHl : H < U2.heap.size := World.block_lt_of_cell? _ _ e0
          have HSk := Lib.hid (HRi.out k)
          rw [hq, Int.toNat_natCast] at HSk
          have HNB := Lib.hid (fun (w1 : World) (hn : New U2 w1) => HNR.out w1 (NW2.out.trans hn) (q : Int) (p : Int))
          have hbq := HD.out q
          have hw1 : IntKind.i64.wrap (D q + (dn : Int)) = D q + (dn : Int) := IntWalk.i64_in _ (by omega)
          have hw2 : IntKind.i64.wrap (D q + (dn : Int) + 1) = D q + (dn : Int) + 1 := IntWalk.i64_in _ (by omega)
          have HQ := Lib.hid hq
          clear hq hbq
          go_upto_region 17 with fail
          first | refine wp_region_at2 (by kernel_rfl) (by kernel_rfl) ?_ | refine wp_region_at (by kernel_rfl) (by kernel_rfl) ?_
          repeat (go_big_quiet_step (first | (go_at_call 124; (with_reducible exact calls_new (HNB.out _ (by (repeat (first | exact New.refl _ | apply New.alloc | apply New.aft | apply New.drew))))))))
          refine wpQuiet_nil ?_
          rintro U3 hq3
          have HN3 := Lib.hid (show New U2 U3 from hq3)
          clear hq3 e0 e1 e2 hHl c1 hg1
          have NW3 := Lib.hid (NW2.out.trans HN3.out)
          have N3 := Lib.hid (N2.out.trans HN3.out)
          have HX3' := Lib.hid (row_new HX2'.out HN3.out)
          have HI3 := Lib.hid (row_new HIV.out N3.out)
          have c1 : U3.cell? ⟨bl, ol + k, none⟩ = some (.int .i64 (q : Int)) := (NW3.out.cell HGL.out).trans (by rw [← HQ.out]; exact HCC.out k (by omega))
          have c2 : U3.cell? ⟨b8, q, none⟩ = some (.int .i64 (D q)) := Iv.at (show Iv U3 b8 n D from HI3.out) q hqn
          have c3 : U3.cell? ⟨b8, p, none⟩ = some (.int .i64 (D p)) := Iv.at (show Iv U3 b8 n D from HI3.out) p hpn
          have hg1 : bl < U3.heap.size := Nat.lt_of_lt_of_le HGL.out NW3.out.size
          have hg2 : b8 < U3.heap.size := (Array.getElem?_eq_some_iff.1 (show _ from HI3.out)).1
          have hg3 : B < U3.heap.size := Nat.lt_of_lt_of_le HBU.out HN3.out.size
          obtain ⟨we, hwe⟩ : ∃ we, neR o (q : Int) (p : Int) = we := ⟨_, rfl⟩
          rw [hwe] at HSk ⊢
          clear hwe
          cases we
          · rw [Bool.false_and, Bool.false_and, if_neg (by simp)] at HSk
            go_upto_region 18 with fail
            first | refine wp_region_at2 (by kernel_rfl) (by kernel_rfl) ?_ | refine wp_region_at (by kernel_rfl) (by kernel_rfl) ?_
            repeat (go_big_quiet_step (fail))
            refine wpQuiet_nil ?_
            rintro U4 hq4
            have HN4 := Lib.hid (show New U3 U4 from hq4)
            clear hq4
            go_wp2_with fail
            go_roundw
            case rel => exact ⟨k + 1, by omega, by go_num, by rw [HSk.out], N3.out.trans HN4.out, by rw [HSk.out]; exact row_new HX3'.out HN4.out⟩
            case measure => simp [intOf]; omega
          · rw [Bool.true_and] at HSk
            cases heq : (D q + (dn : Int) + 1 == D p)
            · have hne : ¬ (D q + (dn : Int) + 1 = D p) := by simpa using heq
              rw [decide_eq_false hne, Bool.false_and, if_neg (by simp)] at HSk
              clear hne
              go_upto_region 18 with fail
              first | refine wp_region_at2 (by kernel_rfl) (by kernel_rfl) ?_ | refine wp_region_at (by kernel_rfl) (by kernel_rfl) ?_
              repeat (go_big_quiet_step (fail))
              refine wpQuiet_nil ?_
              rintro U4 hq4
              have HN4 := Lib.hid (show New U3 U4 from hq4)
              clear hq4
              go_wp2_with fail
              go_roundw
              case rel => exact ⟨k + 1, by omega, by go_num, by rw [HSk.out], N3.out.trans HN4.out, by rw [HSk.out]; exact row_new HX3'.out HN4.out⟩
              case measure => simp [intOf]; omega
            · have hne : D q + (dn : Int) + 1 = D p := by simpa using heq
              rw [decide_eq_true hne, Bool.true_and] at HSk
              clear hne
              cases hri : ri k with
              | none =>
                rw [hri] at HSk HX3'
                simp only [if_true] at HSk
                simp only [xF, xK, xN] at HX3' ⊢
                have x0 : U3.cell? ⟨B, 0, none⟩ = some (.int .i64 (p : Int)) := (cell_of_row U3 B 0 _ _ _ HX3'.out).trans rfl
                have x1 : U3.cell? ⟨B, 1, none⟩ = some (.int .i64 (nI l (i - 1))) := (cell_of_row U3 B 1 _ _ _ HX3'.out).trans rfl
                have x2 : U3.cell? ⟨B, 2, none⟩ = some (.int .u8 1) := (cell_of_row U3 B 2 _ _ _ HX3'.out).trans rfl
                go_upto_region 18 with fail
                first | refine wp_region_at2 (by kernel_rfl) (by kernel_rfl) ?_ | refine wp_region_at (by kernel_rfl) (by kernel_rfl) ?_
                repeat (go_big_quiet_step (fail))
                refine wpQuiet_nil ?_
                rintro U4 hq4
                have HN4 := Lib.hid (show New U3 U4 from hq4)
                clear hq4
                have HX4 := Lib.hid (row_new HX3'.out HN4.out)
                have g1 : U4.cell? ⟨bl, ol + k, none⟩ = some (.int .i64 (q : Int)) := (HN4.out.cell hg1).trans c1
                clear x0 x1 x2 c1 c2 c3
                have z6 : U4.cell? ⟨B, 0, none⟩ = some (.int .i64 (p : Int)) := (cell_of_row U4 B 0 _ _ _ HX4.out).trans rfl
                have z7 : U4.cell? ⟨B, 1, none⟩ = some (.int .i64 (nI l (i - 1))) := (cell_of_row U4 B 1 _ _ _ HX4.out).trans rfl
                have z8 : U4.cell? ⟨B, 2, none⟩ = some (.int .u8 1) := (cell_of_row U4 B 2 _ _ _ HX4.out).trans rfl
                have y6 : U4.frozen? ⟨B, 0, none⟩ = false := by simp [World.frozen?, HX4.out]
                have y7 : U4.frozen? ⟨B, 1, none⟩ = false := by simp [World.frozen?, HX4.out]
                have y8 : U4.frozen? ⟨B, 2, none⟩ = false := by simp [World.frozen?, HX4.out]
                go_wp2_with fail
                go_roundw
                case rel => exact ⟨k + 1, by omega, by go_num, by rw [HSk.out]; rfl, (((N3.out.trans HN4.out).setCell (by rw [HBB.out]; exact Nat.le_refl _) _).setCell (by rw [HBB.out]; exact Nat.le_refl _) _).setCell (by rw [HBB.out]; exact Nat.le_refl _) _, by rw [HSk.out]; simp only [xF, xK]; rw [HQ.out]; exact (three_cells _ _ _ HX4.out).1⟩
                case measure => simp [intOf]; omega
              | some j =>
                have hjk := HRBi.out k j hri
                rw [hri] at HSk HX3'
                simp only at HSk
                simp only [xF, xK, xN] at HX3' ⊢
                have HSk := Lib.hid (show ri (k + 1) = if (q : Int) < nI l j then some k else some j from by rw [HSk.out]; simp only [decide_eq_true_eq])
                obtain ⟨y, hy⟩ : ∃ y, nI l j = y := ⟨_, rfl⟩
                rw [hy] at HSk HX3'
                have HY := Lib.hid hy
                clear hy
                have x0 : U3.cell? ⟨B, 0, none⟩ = some (.int .i64 (p : Int)) := (cell_of_row U3 B 0 _ _ _ HX3'.out).trans rfl
                have x1 : U3.cell? ⟨B, 1, none⟩ = some (.int .i64 (y)) := (cell_of_row U3 B 1 _ _ _ HX3'.out).trans rfl
                have x2 : U3.cell? ⟨B, 2, none⟩ = some (.int .u8 2) := (cell_of_row U3 B 2 _ _ _ HX3'.out).trans rfl
                by_cases hlt : (q : Int) < y
                · rw [if_pos hlt] at HSk
                  go_upto_region 18 with fail
                  first | refine wp_region_at2 (by kernel_rfl) (by kernel_rfl) ?_ | refine wp_region_at (by kernel_rfl) (by kernel_rfl) ?_
                  repeat (go_big_quiet_step (fail))
                  refine wpQuiet_nil ?_
                  rintro U4 hq4
                  have HN4 := Lib.hid (show New U3 U4 from hq4)
                  clear hq4
                  have HX4 := Lib.hid (row_new HX3'.out HN4.out)
                  have g1 : U4.cell? ⟨bl, ol + k, none⟩ = some (.int .i64 (q : Int)) := (HN4.out.cell hg1).trans c1
                  clear x0 x1 x2 c1 c2 c3
                  have z6 : U4.cell? ⟨B, 0, none⟩ = some (.int .i64 (p : Int)) := (cell_of_row U4 B 0 _ _ _ HX4.out).trans rfl
                  have z7 : U4.cell? ⟨B, 1, none⟩ = some (.int .i64 (y)) := (cell_of_row U4 B 1 _ _ _ HX4.out).trans rfl
                  have z8 : U4.cell? ⟨B, 2, none⟩ = some (.int .u8 2) := (cell_of_row U4 B 2 _ _ _ HX4.out).trans rfl
                  have y6 : U4.frozen? ⟨B, 0, none⟩ = false := by simp [World.frozen?, HX4.out]
                  have y7 : U4.frozen? ⟨B, 1, none⟩ = false := by simp [World.frozen?, HX4.out]
                  have y8 : U4.frozen? ⟨B, 2, none⟩ = false := by simp [World.frozen?, HX4.out]
                  go_wp2_with fail
                  go_roundw
                  case rel => exact ⟨k + 1, by omega, by go_num, by rw [HSk.out]; rfl, (((N3.out.trans HN4.out).setCell (by rw [HBB.out]; exact Nat.le_refl _) _).setCell (by rw [HBB.out]; exact Nat.le_refl _) _).setCell (by rw [HBB.out]; exact Nat.le_refl _) _, by rw [HSk.out]; simp only [xF, xK]; rw [HQ.out]; exact (three_cells _ _ _ HX4.out).1⟩
                  case measure => simp [intOf]; omega
                · rw [if_neg hlt] at HSk
                  go_upto_region 18 with fail
                  first | refine wp_region_at2 (by kernel_rfl) (by kernel_rfl) ?_ | refine wp_region_at (by kernel_rfl) (by kernel_rfl) ?_
                  repeat (go_big_quiet_step (fail))
                  refine wpQuiet_nil ?_
                  rintro U4 hq4
                  have HN4 := Lib.hid (show New U3 U4 from hq4)
                  clear hq4
                  go_wp2_with fail
                  go_roundw
                  case rel => exact ⟨k + 1, by omega, by go_num, by rw [HSk.out]; rfl, N3.out.trans HN4.out, by rw [HSk.out]; simp only [xF, xK]; rw [HY.out]; exact row_new HX3'.out HN4.out⟩
                  case measure => simp [intOf]; omega
        · obtain rfl : k = i := by omega
          have hki' : ¬ ((k : Int) < (k : Int)) := by omega
          have HTN := Lib.hid (show rsT = (acc ++ [((p : Int), xF l k (ri k), xK (ri k))]) ++ rs f' (xN k (ri k) : Int) from by
            rw [HTO.out, HST.out, HX1.out]
            simp only
            rw [HX2.out]; simp)
          have hxn := HX3.out
          clear hki HX1 HX2
          generalize xF l k (ri k) = xf at *
          generalize xK (ri k) = xk at *
          generalize xN k (ri k) = xn at *
          have c6 : U2.cell? ⟨B, 0, none⟩ = some (.int .i64 (p : Int)) := (cell_of_row U2 B 0 _ _ _ HX2'.out).trans rfl
          have c7 : U2.cell? ⟨B, 1, none⟩ = some (.int .i64 xf) := (cell_of_row U2 B 1 _ _ _ HX2'.out).trans rfl
          have c8 : U2.cell? ⟨B, 2, none⟩ = some (.int .u8 xk) := (cell_of_row U2 B 2 _ _ _ HX2'.out).trans rfl
          go_wp2_with (at_builtin; refine wpList_append_own _ rfl _ _ 55 rfl K 75 i0 (.agg #[.int .i64 0, .int .i64 0, .int .u8 0]) 3 24 Tryd.underlying55 hi hz0 hz1 hz2 rfl (by decide) (.slice au acc.length cu) acc.length (reaCells acc) rfl ?qb0 ⟨U2.heap.size, 0, none⟩ 1 1 [.int .i64 (p : Int), .int .i64 xf, .int .u8 xk] rfl rfl ?qb2 ?qb3 ?qb4 ?qb5 ?qb6 ?_)
          case qb0 => exact own_new HOWN.out ((N2.out).alloc _)
          case qb3 => first | (exact ⟨rfl, rfl, rfl⟩) | (intro u hu; simp at hu; rcases hu with rfl | rfl | rfl <;> rfl)
          case qb4 => unfold maxLen; omega
          case qb5 => omega
          case qb6 => have h1 := HSZ.out; have h2 := (N2.out).size; simp; omega
          intro v' w11 hown hgrow hnil
          have hblk : ∀ q x, q < U2.heap.size → q < K → U2.heap[q]? = some x → w11.heap[q]? = some x := fun q x hq hk ho => by
            have h1 : (U2.alloc (.cells #[.int .i64 (p : Int), .int .i64 xf, .int .u8 xk] 75)).heap[q]? = some x := (Below.heap_alloc _ _ _ hq).trans ho
            refine (hgrow.block q (by simp; omega) (fun e => ?_)).trans h1
            have h2 := HOWN.out.lt q e.symm
            omega
          have hn11 : New w w11 := Mod.new ((HNEW.out.trans N2.out).alloc _) (Mod.grown (O := fun q => K ≤ q) hgrow (fun g hg => (HOWN.out.lt g hg).1)) (fun q hq => Nat.le_trans HWK.out hq)
          have hwl := N2.out.size
          have hks := HSZ.out
          have hgk := HHK.out
          have hbk := HBK8.out
          have HB11 := Lib.hid (hblk H _ (by omega) hgk HBX2.out)
          have HI11 := Lib.hid (show Iv w11 b8 n D from hblk b8 _ (by omega) hbk (row_new HIV.out N2.out))
          have HN11 := Lib.hid hn11
          have HOW11 := Lib.hid hown
          have HS11 := Lib.hid (show K ≤ w11.heap.size from by have := hgrow.size; simp at this; omega)
          obtain ⟨av', cv', rfl⟩ := own_slice hown
          clear hown hgrow hnil hblk hn11 hwl hks hgk hbk c6 c7 c8 hki'
          go_wp2_with fail
          go_roundw
          case rel => exact ⟨f', xn, acc ++ [((p : Int), xf, xk)], rfl, by omega, by omega, by simp; omega, HN11.out, HB11.out, HI11.out, HS11.out, by rw [reaCells_snoc, List.length_append]; exact HOW11.out, HTN.out⟩
          case measure => simp [intOf]; omega
end Go.Proofs.YtiejefehcpfkaaaDoor
