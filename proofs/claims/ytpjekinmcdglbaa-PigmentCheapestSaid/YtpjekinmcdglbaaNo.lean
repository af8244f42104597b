/- The reference's choices: the numbers (its lists are extL's), and rows of rows. No condition beyond what each lemma names. · The reference's choices: the walk. Numbers below 1000, at most four places. -/
import Derived.Test.YtpjekinmcdglbaaNm
import Derived.Test.YtpjekinmcdglbaaEh

section
set_option linter.unusedSimpArgs false
set_option linter.unusedVariables false
set_option maxRecDepth 100000
namespace Go.Proofs.Ytpjekinmcdglbaa
open Go.RowKit Go.Shelf

/-- where the next place may begin -/
def stN (l : List Nat) : Nat := if l.length = 0 then 0 else l.getD (l.length - 1) 0 + 1
/-- the first m continuations of l -/
def onTo (l : List Nat) (m : Nat) : List (List Nat) := (List.range m).map fun i => l ++ [stN l + i]
def onL (n : Nat) (l : List Nat) : List (List Nat) := onTo l (n - stN l)
theorem onTo_succ (l : List Nat) (m : Nat) : onTo l (m + 1) = onTo l m ++ [l ++ [stN l + m]] := by simp [onTo, List.range_succ]
theorem onTo_len (l : List Nat) (m : Nat) : (onTo l m).length = m := by simp [onTo]
def chL (n : Nat) : Nat → List (List Nat)
  | 0 => [[]]
  | k + 1 => (chL n k).flatMap (onL n)
theorem last_snoc (l : List Nat) (p : Nat) : stN (l ++ [p]) = p + 1 := by
  unfold stN
  simp
theorem extL_step (n : Nat) : ∀ (k : Nat) (pre : List Nat) (s : Nat), stN pre = s → extL n (k + 1) pre s = (extL n k pre s).flatMap (onL n)
  | 0, pre, s, h => by
    simp only [extL, List.flatMap_cons, List.flatMap_nil, List.append_nil, onL, onTo, h]
    induction List.range (n - s) with
    | nil => rfl
    | cons x l ih => simp only [List.flatMap_cons, List.map_cons, ih]; rfl
  | k + 1, pre, s, h => by
    rw [extL]
    conv => rhs; rw [extL]
    rw [List.flatMap_assoc]
    congr 1
    funext i
    exact extL_step n k (pre ++ [s + i]) (s + i + 1) (by rw [last_snoc])
theorem chL_eq (n : Nat) : ∀ k, chL n k = extL n k [] 0
  | 0 => rfl
  | k + 1 => by rw [chL, chL_eq n k, extL_step n k [] 0 rfl]
theorem chL_mem {n : Nat} : ∀ {k : Nat} {l : List Nat}, l ∈ chL n k → l.length = k ∧ ∀ p ∈ l, p < n
  | 0, l, h => by simp [chL] at h; subst h; simp
  | k + 1, l, h => by
    simp only [chL, List.mem_flatMap, onL, onTo, List.mem_map, List.mem_range] at h
    obtain ⟨m, hm, i, hi, rfl⟩ := h
    obtain ⟨h1, h2⟩ := chL_mem hm
    refine ⟨by simp [h1], fun p hp => ?_⟩
    simp only [List.mem_append, List.mem_singleton] at hp
    rcases hp with hp | rfl
    · exact h2 p hp
    · omega
/-- what the first j lists give -/
def stTo (n : Nat) (X : List (List Nat)) (j : Nat) : List (List Nat) := (X.take j).flatMap (onL n)
theorem flat_len (n : Nat) : ∀ X : List (List Nat), (X.flatMap (onL n)).length ≤ X.length * n
  | [] => by simp
  | l :: X => by
    have := flat_len n X
    have hl : (onL n l).length ≤ n := by unfold onL; rw [onTo_len]; omega
    rw [List.flatMap_cons, List.length_append, List.length_cons, Nat.add_mul, Nat.one_mul]
    omega
theorem stTo_len (n : Nat) (X : List (List Nat)) (j : Nat) (h : j ≤ X.length) : (stTo n X j).length ≤ j * n := by
  have := flat_len n (X.take j)
  rw [List.length_take, Nat.min_eq_left h] at this
  exact this
theorem stTo_succ (n : Nat) (X : List (List Nat)) (j : Nat) (l : List Nat) (h : X[j]? = some l) : stTo n X (j + 1) = stTo n X j ++ onL n l := by
  unfold stTo
  rw [List.take_add_one, h]
  simp
theorem stTo_all (n : Nat) (X : List (List Nat)) : stTo n X X.length = X.flatMap (onL n) := by simp [stTo]
theorem chL_len (n : Nat) : ∀ k, (chL n k).length ≤ n ^ k
  | 0 => by simp [chL]
  | k + 1 => by
    have h1 := flat_len n (chL n k)
    have h2 := Nat.mul_le_mul_right n (chL_len n k)
    rw [Nat.pow_succ]
    exact Nat.le_trans h1 h2

theorem rows_info : (Try.prog.info? 84).map (fun i => (i.zero, i.size, i.bytes)) = some (some (.slice none 0 0), 1, 24) := by kernel_rfl
/-- a row of rows of places -/
def LL (base : Nat) (W : World) (v : Value) (X : List (List Nat)) : Prop :=
  ∃ hs : List Value, W.ownsRow base 84 1 v X.length hs ∧ ∀ (j : Nat) (x : List Nat), X[j]? = some x → ∃ h, hs[j]? = some h ∧ W.ownsRow base 3 1 h x.length (natCells x)
theorem LL.new {base : Nat} {W W' : World} {v : Value} {X : List (List Nat)} (h : LL base W v X) (hn : New W W') : LL base W' v X := by
  obtain ⟨hs, h1, h2⟩ := h
  exact ⟨hs, own_new h1 hn, fun j x hx => by
    obtain ⟨u, h3, h4⟩ := h2 j x hx
    exact ⟨u, h3, own_new h4 hn⟩⟩
theorem LL.nil (base : Nat) (W : World) : LL base W (.slice none 0 0) [] := ⟨[], World.ownsRow_nil _ _ _ _, fun j x h => by simp at h⟩
theorem LL.mono {base base' : Nat} {W : World} {v : Value} {X : List (List Nat)} (h : LL base W v X) (hb : base' ≤ base) : LL base' W v X := by
  obtain ⟨hs, h1, h2⟩ := h
  exact ⟨hs, own_base h1 hb, fun j x hx => by
    obtain ⟨u, h3, h4⟩ := h2 j x hx
    exact ⟨u, h3, own_base h4 hb⟩⟩
/-- an inner row is not touched where an outer row grows -/
theorem inner_grown {X Y : World} {base base' n m : Nat} {v h : Value} {xs ys : List Value} (ho : X.ownsRow base 84 1 v n xs) (hg : X.grownBy Y v.ownBlock) (hi : X.ownsRow base' 3 1 h m ys) : Y.ownsRow base' 3 1 h m ys :=
  own_keep hi fun g hgb => hg.block g (hi.lt g hgb).2 (fun e => by
    rcases hi.2 with ⟨rfl, _⟩ | ⟨g1, cap, cur, rfl, _, h2, _⟩
    · simp [Value.ownBlock] at hgb
    · simp only [Value.ownBlock, Option.some.injEq] at hgb
      subst hgb
      exact own_ne ho h2 (fun cur' h => by cases h) e.symm)
theorem own_int {W : World} {base : Nat} {h : Value} {x : List Nat} (hl : 0 < x.length) (hi : W.ownsRow base 3 1 h x.length (natCells x)) : ∃ g cap, h = .slice (some ⟨g, 0, none⟩) x.length cap ∧ g < W.heap.size ∧ base ≤ g ∧ (∀ j u, (natCells x)[j]? = some u → W.cell? ((⟨g, 0, none⟩ : Addr).add j) = some u) ∧ ∀ k, k < x.length → W.cell? ⟨g, k, none⟩ = some (.int .i64 ((x.getD k 0 : Nat) : Int)) := by
  obtain ⟨g, cap, he, hg1, hg2⟩ := hi.form hl
  subst he
  refine ⟨g, cap, rfl, hg2, hg1, fun j u hu => ?_, fun k hk => (own_cell hi (natCells_at x k hk)).1⟩
  have hadd : (⟨g, 0, none⟩ : Addr).add j = ⟨g, j, none⟩ := by unfold Addr.add; split <;> simp_all
  rw [hadd]
  exact (own_cell hi hu).1
theorem natCells_one (x : List Nat) : ∀ u ∈ natCells x, u.oneCell' = true := by
  intro u hu
  simp only [natCells, List.mem_map] at hu
  obtain ⟨a, _, rfl⟩ := hu
  rfl

end Go.Proofs.Ytpjekinmcdglbaa
end

section
set_option linter.unusedSimpArgs false
set_option linter.unusedVariables false
set_option maxRecDepth 100000
namespace Go.Proofs.Ytpjekinmcdglbaa
open Go.RowKit Go.Shelf

theorem wpList_append_zero {P : Program} {w : World} {ops : Array Oper} {rest : List Oper} {o : Oper} {a : Act} {Q : Exit → Act → World → Prop} (hgd : o.guard = none) (s x : Operand) (t : TypeId)
    (ho : o.op = .call { callee := .builtin .append, args := #[s, x], argTypes := #[t, t] })
    (base : Nat) (e : TypeId) (i : TypeInfo) (size : Nat) (ht : P.underlying t = some (.slice e)) (hi : P.info? e = some i)
    (v : Value) (n : Nat) (xs : List Value) (hs : a.eval s = v) (hown : w.ownsRow base e size v n xs) (sh : Option Addr) (ch : Nat) (hx : a.eval x = .slice sh 0 ch)
    (h : wpList P ops Q rest (a.put o.dst v) w) : wpList P ops Q (o :: rest) a w := by
  refine wpList_plain hgd fun K hK => ?_
  have hrun : (Builtin.append_ #[t, t] o.type #[v, .slice sh 0 ch]).run P w = .ok v w := by
    rcases hown.2 with ⟨rfl, rfl⟩ | ⟨g, cap, cur, rfl, _, _, hnc, _⟩ <;> cases sh <;> simp [Builtin.append_, run_underlying ht, sizeOf, typeInfo, hi, Builtin.lenOf, Builtin.firstCells, storeCells, loadCells, loadCellsFrom, *]
  unfold Oper.wp
  simp [execOp, ho, resolve, invoke, builtin, hs, hx, hrun, Result.andThen]
  exact hK _ _ h
theorem own_row1 {W : World} {base g : Nat} {t : TypeId} {u : Value} (h : W.heap[g]? = some (.cells #[u] t (0, 0))) (hb : base ≤ g) : W.ownsRow base t 1 (.slice (some ⟨g, 0, none⟩) 1 1) 1 [u] :=
  ⟨by simp, .inr ⟨g, 1, _, rfl, hb, h, Nat.le_refl _, by decide, by simp, by simp⟩⟩
theorem own_row0 {W : World} {base g : Nat} {t : TypeId} (h : W.heap[g]? = some (.cells #[] t (0, 0))) (hb : base ≤ g) : W.ownsRow base t 1 (.slice (some ⟨g, 0, none⟩) 0 0) 0 [] :=
  ⟨by simp, .inr ⟨g, 0, _, rfl, hb, h, Nat.le_refl _, by decide, by simp, by simp⟩⟩
def ChoR (w : World) (X : List (List Nat)) (en : Ending) (w' : World) : Prop := ∃ sv, en = .returned sv ∧ New w w' ∧ LL w.heap.size w' sv X
/-- a row of one row more -/
theorem LL.snoc {base : Nat} {X W : World} {v : Value} {L : List (List Nat)} {hs : List Value} {h : Value} {x : List Nat} {v' : Value} (h1 : X.ownsRow base 84 1 v L.length hs) (h2 : ∀ (j : Nat) (x : List Nat), L[j]? = some x → ∃ h, hs[j]? = some h ∧ X.ownsRow base 3 1 h x.length (natCells x))
    (hh : X.ownsRow base 3 1 h x.length (natCells x)) (hg : X.grownBy W v.ownBlock) (ho : W.ownsRow base 84 1 v' (L.length + 1) (hs ++ [h])) : LL base W v' (L ++ [x]) := by
  have hl : hs.length = L.length := by have := h1.1; simpa using this
  refine ⟨hs ++ [h], by rw [List.length_append]; exact ho, fun j y hy => ?_⟩
  rcases Nat.lt_trichotomy j L.length with hj | hj | hj
  · rw [List.getElem?_append_left hj] at hy
    obtain ⟨u, h3, h4⟩ := h2 j y hy
    exact ⟨u, by rw [List.getElem?_append_left (by omega)]; exact h3, inner_grown h1 hg h4⟩
  · subst hj
    rw [List.getElem?_append_right (Nat.le_refl _)] at hy
    simp at hy
    subst hy
    exact ⟨h, by rw [← hl, List.getElem?_append_right (Nat.le_refl _)]; simp, inner_grown h1 hg hh⟩
  · rw [List.getElem?_eq_none (by simp; omega)] at hy; cases hy

set_option maxHeartbeats 16000000 in
theorem rchoices_c (n k : Nat) (w : World) (hn : n ≤ 1000) (hk : k ≤ 4) : Calls Try.prog 39 #[.int .i64 (n : Int), .int .i64 (k : Int)] w (ChoR w (chL n k)) := by
  obtain ⟨r0, r, rz0, rz1, rz2⟩ := info_parts rows_info
  obtain ⟨q0, q, qz0, qz1, qz2⟩ := info_parts int_info
  have HLN := Lib.hid (show ∀ a, a < k → (chL n a).length ≤ 1000000000 from fun a ha => Nat.le_trans (chL_len n a) (by
    have : a = 0 ∨ a = 1 ∨ a = 2 ∨ a = 3 := by omega
    rcases this with rfl | rfl | rfl | rfl
    · simp
    · simp; omega
    · have := Nat.mul_le_mul hn hn; rw [Nat.pow_two]; omega
    · have h2 := Nat.mul_le_mul hn hn; have := Nat.mul_le_mul h2 hn; rw [Nat.pow_succ, Nat.pow_two]; omega))
  have HS := Lib.hid (show ∀ a, chL n (a + 1) = stTo n (chL n a) (chL n a).length from fun a => (stTo_all n (chL n a)).symm)
  have HE := Lib.hid (show ∀ a x, x ∈ chL n a → x.length = a ∧ ∀ p ∈ x, p < n from fun a x hx => chL_mem hx)
  go_enter Try.func39, Try.ntmps39
  go_wp2_with fail
  go_loopw [5, 6] (fun v i wr => ∃ a : Nat, a ≤ k ∧ i = .int .i64 (a : Int) ∧ LL w.heap.size wr v (chL n a) ∧ New w wr) (fun _ i _ => k - (intOf i).toNat)
  case atStart =>
    refine ⟨0, Nat.zero_le _, rfl, ⟨[.slice none 0 0], own_row1 (World.alloc_heap_new _ _) (Nat.le_refl _), fun j x hx => ?_⟩, (New.refl _).alloc _⟩
    match j, hx with
    | 0, hx => simp [chL] at hx; subst hx; exact ⟨_, rfl, World.ownsRow_nil _ _ _ _⟩
    | j + 1, hx => simp [chL] at hx
  case round =>
    obtain ⟨a, ha, rfl, hll, hnew⟩ := hrel
    have HNW := Lib.hid hnew
    by_cases hlt : a < k
    · have hk1 : (a : Int) < (k : Int) := by omega
      have hXl := HLN.out a hlt
      have HXE := Lib.hid (HE.out a)
      have HXS := Lib.hid (HS.out a)
      obtain ⟨X, hX⟩ : ∃ X, X = chL n a := ⟨_, rfl⟩
      rw [← hX] at hll hXl HXE HXS
      clear hX hnew
      obtain ⟨hs, hrow, hin⟩ := hll
      obtain ⟨sa, sc, rfl⟩ := own_slice hrow
      have HRO := Lib.hid hrow
      have HIN := Lib.hid hin
      clear hrow hin
      go_wp2_with fail
      rename World => WA
      go_loopw [7, 8] (fun v j w2 => ∃ jj : Nat, jj ≤ X.length ∧ j = .int .i64 (jj : Int) ∧ LL WA.heap.size w2 v (stTo n X jj) ∧ New WA w2) (fun _ j _ => X.length - (intOf j).toNat)
      case atStart => exact ⟨0, Nat.zero_le _, rfl, LL.nil _ _, New.refl _⟩
      case round =>
        obtain ⟨jj, hjj, rfl, hll2, hnew2⟩ := hrel
        have HN2 := Lib.hid hnew2
        by_cases hlt2 : jj < X.length
        · have hj1 : (jj : Int) < (X.length : Int) := by omega
          obtain ⟨x, hx⟩ : ∃ x, X[jj]? = some x := ⟨_, List.getElem?_eq_getElem hlt2⟩
          obtain ⟨hxl, hxn⟩ := HXE.out x (List.mem_of_getElem? hx)
          obtain ⟨h, hh1, hh2⟩ := HIN.out jj x hx
          obtain ⟨gX, cX, he, hgX1, hgX2⟩ := HRO.out.form (by omega)
          injection he with he1 he2 he3
          subst he1
          subst he3
          have c0 := (own_cell (own_new HRO.out hnew2) hh1).1
          have hgX : gX < wr.heap.size := Nat.lt_of_lt_of_le hgX2 hnew2.size
          have HSJ := Lib.hid (stTo_succ n X jj x hx)
          have HC0 := Lib.hid (fun V (hV : New WA V) => (own_cell (own_new HRO.out hV) hh1).1)
          have HHI := Lib.hid hh2
          have hSL := stTo_len n X jj hjj
          have hSL2 : (stTo n X jj).length ≤ 1000000000000 := Nat.le_trans hSL (by have := Nat.mul_le_mul (show jj ≤ 1000000000 by omega) hn; omega)
          obtain ⟨Z, hZ⟩ : ∃ Z, Z = stTo n X jj := ⟨_, rfl⟩
          rw [← hZ] at hll2 HSJ hSL2
          have HLL2 := Lib.hid hll2
          clear hZ hSL hx hnew2 hll2 hh1 hh2
          obtain ⟨sh, ch, rfl⟩ := own_slice HHI.out
          go_upto_if 24 with fail
          go_cut [9] (fun s9 wz => s9 = .int .i64 (stN x : Int) ∧ New WA wz ∧ LL WA.heap.size wz u7 Z)
          case first =>
            by_cases ha0 : a = 0
            · have HST := Lib.hid (show stN x = 0 by unfold stN; rw [hxl, ha0]; rfl)
              subst ha0
              go_wp2_with fail
              all_goals go_meet
              all_goals exact ⟨by rw [HST.out]; rfl, HN2.out, HLL2.out⟩
            · obtain ⟨a', rfl⟩ : ∃ a', a = a' + 1 := ⟨a - 1, by omega⟩
              obtain ⟨gh, ch', he, hgh, _, _, hcc⟩ := own_int (by omega) HHI.out
              injection he with he1 he2 he3
              subst he1
              subst he3
              have hgh2 : gh < wr.heap.size := Nat.lt_of_lt_of_le hgh HN2.out.size
              have c1 := (HN2.out.cell hgh).trans (hcc a' (by omega))
              have HST := Lib.hid (show stN x = x.getD a' 0 + 1 by unfold stN; rw [hxl, if_neg (by omega)]; rfl)
              have hpn : x.getD a' 0 < n := hxn _ (by rw [List.getD_eq_getElem?_getD, List.getElem?_eq_getElem (by omega)]; simp)
              have ha1 : (0 : Int) < ((a' + 1 : Nat) : Int) := by omega
              have ha2 : ((a' + 1 : Nat) : Int) - 1 = (a' : Int) := by omega
              rw [hxl] at c0
              generalize x.getD a' 0 = z at *
              clear hcc
              go_wp2_with fail
              all_goals go_meet
              all_goals exact ⟨by rw [HST.out]; rfl, HN2.out, HLL2.out⟩
          case rest =>
            obtain ⟨rfl, hn3, hll3⟩ := hcut
            clear c0 HN2 HLL2
            go_wp2_with fail
            go_loopw [7, 10] (fun v xx w3 => ∃ m : Nat, m ≤ n - stN x ∧ xx = .int .i64 ((stN x + m : Nat) : Int) ∧ LL WA.heap.size w3 v (Z ++ onTo x m) ∧ New WA w3) (fun _ xx _ => n - (intOf xx).toNat)
            case atStart => exact ⟨0, Nat.zero_le _, rfl, by simpa [onTo] using hll3, hn3⟩
            case round =>
              obtain ⟨m, hm, rfl, hll4, hnew4⟩ := hrel
              have HN4 := Lib.hid hnew4
              have c0 := HC0.out _ hnew4
              have hgX4 : gX < wr.heap.size := Nat.lt_of_lt_of_le hgX2 hnew4.size
              by_cases hlt3 : stN x + m < n
              · obtain ⟨hs3, hrow3, hin3⟩ := hll4
                obtain ⟨s3, c3, rfl⟩ := own_slice hrow3
                have hLn : (Z ++ onTo x m).length ≤ 1000000001000 := by rw [List.length_append, onTo_len]; omega
                have HON := Lib.hid (onTo_succ x m)
                obtain ⟨P, hP⟩ : ∃ P, P = stN x + m := ⟨_, rfl⟩
                rw [← hP] at HON hlt3 ⊢
                have hP1 : (P : Int) < (n : Int) := by omega
                have hP2 : P + 1 ≤ n := hlt3
                have HPS := Lib.hid hP
                obtain ⟨L, hL⟩ : ∃ L, L = Z ++ onTo x m := ⟨_, rfl⟩
                rw [← hL] at hrow3 hin3 hLn ⊢
                have HLS := Lib.hid (show Z ++ onTo x (m + 1) = L ++ [x ++ [P]] by rw [HON.out, hL, List.append_assoc])
                have HR3 := Lib.hid hrow3
                have HI3 := Lib.hid hin3
                have hsz := hnew4.size
                have HFIN := Lib.hid (show ∀ (V3 V4 : World) (hd v' : Value), New wr V3 → V3.ownsRow wr.heap.size 3 1 hd (x.length + 1) (natCells (x ++ [P])) → V3.grownBy V4 (Value.slice s3 L.length c3).ownBlock → V4.ownsRow WA.heap.size 84 1 v' (L.length + 1) (hs3 ++ [hd]) → LL WA.heap.size V4 v' (Z ++ onTo x (m + 1)) ∧ New WA V4 from fun V3 V4 hd v' q1 q2 q3 q4 => by
                  rw [HLS.out]
                  exact ⟨LL.snoc (own_new HR3.out q1) (fun j y hy => by obtain ⟨u, u1, u2⟩ := HI3.out j y hy; exact ⟨u, u1, own_new u2 q1⟩) (by rw [List.length_append]; exact own_base q2 hsz) q3 q4, new_grown (HN4.out.trans q1) q3 HR3.out⟩)
                clear hL hP hrow3 hin3 hnew4 hm
                by_cases ha0 : a = 0
                · obtain rfl : x = [] := List.length_eq_zero_iff.1 (by omega)
                  clear hxn hxl ha0
                  simp only [List.length_nil] at c0
                  go_wp2_with (first | (at_builtin; refine wpList_append_zero rfl (.tmp 41) (.tmp 45) 84 rfl wr.heap.size 3 q0 1 Try.underlying84 q _ 0 [] rfl (own_row0 (World.alloc_heap_new wr _) (Nat.le_refl _)) _ _ rfl ?_) | (at_builtin; refine wpList_append_lies _ rfl (.tmp 46) (.tmp 48) 84 rfl wr.heap.size 3 q0 _ 1 8 Try.underlying84 q qz0 qz1 qz2 rfl (by omega) (.slice (some ⟨wr.heap.size, 0, none⟩) 0 0) 0 [] rfl ?_ _ 1 1 [.int .i64 (P : Int)] rfl ?_ ?_ ?_ (by omega) ?_ ?_ ?_ _ rfl ?_; exact own_new (own_row0 (World.alloc_heap_new wr _) (Nat.le_refl _)) ((New.refl _).alloc _); (first | rfl | simp [natCells_len]); (refine cells_new _ _ _ _ ?_; simp [go_sem]); (intro u hu; simp at hu; rcases hu with rfl <;> rfl); (unfold maxLen; omega); omega; (simp [go_sem]; try omega); intro g5 cap5 w5 hown5 hgrow5 hor5 hlt5; have HN6 := Lib.hid (new_grown (e := 3) (((New.refl wr).alloc _).alloc _) hgrow5 (own_row0 (World.alloc_heap_new wr _) (Nat.le_refl _))); have HO5 := Lib.hid hown5; clear hown5 hgrow5 hor5 hlt5) | (at_builtin; refine wpList_append_lies _ rfl (.tmp 40) (.tmp 50) 80 rfl WA.heap.size 84 r0 _ 1 24 Try.underlying80 r rz0 rz1 rz2 rfl (by omega) (.slice s3 L.length c3) L.length hs3 rfl ?_ _ 1 1 [.slice (some ⟨g5, 0, none⟩) 1 cap5] rfl ?_ ?_ ?_ (by omega) ?_ ?_ ?_ _ rfl ?_; exact own_new HR3.out ((HN6.out).alloc _); (first | rfl | simp [natCells_len]); (refine cells_new _ _ _ _ ?_; simp [go_sem]); (intro u hu; simp at hu; rcases hu with rfl <;> rfl); (unfold maxLen; omega); omega; (have := HN6.out.size; simp [go_sem]; omega); intro g6 cap6 w6 hown6 hgrow6 hor6 hlt6; have HL6 := Lib.hid (HFIN.out _ _ _ _ ((HN6.out).alloc _) (own_new (by simpa [natCells] using HO5.out) ((New.refl _).alloc _)) hgrow6 hown6); clear hown6 hgrow6 hor6 hlt6))
                  go_roundw
                  case rel => exact ⟨m + 1, by have := HPS.out; omega, by rw [show stN [] + (m + 1) = P + 1 by have := HPS.out; omega]; go_num, HL6.out.1, HL6.out.2⟩
                  case measure => simp [intOf]; omega
                · obtain ⟨gh, ch', he, hgh, _, hnc, _⟩ := own_int (by omega) HHI.out
                  injection he with he1 he2 he3
                  subst he1
                  subst he3
                  have HNC := Lib.hid hnc
                  have hx0 : 0 < x.length := by omega
                  have hx4 : x.length ≤ 4 := by omega
                  clear hnc hxl
                  go_wp2_with (first | (at_builtin; refine wpList_append_lies _ rfl (.tmp 41) (.tmp 45) 84 rfl wr.heap.size 3 q0 _ 1 8 Try.underlying84 q qz0 qz1 qz2 rfl (by omega) (.slice (some ⟨wr.heap.size, 0, none⟩) 0 0) 0 [] rfl ?_ ⟨gh, 0, none⟩ x.length ch (natCells x) rfl ?_ ?_ ?_ (by omega) ?_ ?_ ?_ _ rfl ?_; exact (own_row0 (World.alloc_heap_new wr _) (Nat.le_refl _)); (first | rfl | simp [natCells_len]); (exact news_new ((HN4.out).alloc _) hgh HNC.out); (exact natCells_one x); (unfold maxLen; omega); omega; (simp [go_sem]); intro g4 cap4 w4 hown4 hgrow4 hor4 hlt4; have HN5 := Lib.hid (new_grown (e := 3) ((New.refl wr).alloc _) hgrow4 (own_row0 (World.alloc_heap_new wr _) (Nat.le_refl _))); rw [Nat.zero_add, List.nil_append] at hown4; have HO4 := Lib.hid hown4; clear hown4 hgrow4 hor4 hlt4) | (at_builtin; refine wpList_append_lies _ rfl (.tmp 46) (.tmp 48) 84 rfl wr.heap.size 3 q0 _ 1 8 Try.underlying84 q qz0 qz1 qz2 rfl (by omega) (.slice (some ⟨g4, 0, none⟩) x.length cap4) x.length (natCells x) rfl ?_ _ 1 1 [.int .i64 (P : Int)] rfl ?_ ?_ ?_ (by omega) ?_ ?_ ?_ _ rfl ?_; exact own_new HO4.out ((New.refl _).alloc _); (first | rfl | simp [natCells_len]); (refine cells_new _ _ _ _ ?_; simp [go_sem]); (intro u hu; simp at hu; rcases hu with rfl <;> rfl); (unfold maxLen; omega); omega; (have := HN5.out.size; simp [go_sem]; omega); intro g5 cap5 w5 hown5 hgrow5 hor5 hlt5; have HN6 := Lib.hid (new_grown ((HN5.out).alloc _) hgrow5 HO4.out); have HO5 := Lib.hid hown5; clear hown5 hgrow5 hor5 hlt5) | (at_builtin; refine wpList_append_lies _ rfl (.tmp 40) (.tmp 50) 80 rfl WA.heap.size 84 r0 _ 1 24 Try.underlying80 r rz0 rz1 rz2 rfl (by omega) (.slice s3 L.length c3) L.length hs3 rfl ?_ _ 1 1 [.slice (some ⟨g5, 0, none⟩) (x.length + 1) cap5] rfl ?_ ?_ ?_ (by omega) ?_ ?_ ?_ _ rfl ?_; exact own_new HR3.out ((HN6.out).alloc _); (first | rfl | simp [natCells_len]); (refine cells_new _ _ _ _ ?_; simp [go_sem]); (intro u hu; simp at hu; rcases hu with rfl <;> rfl); (unfold maxLen; omega); omega; (have := HN6.out.size; simp [go_sem]; omega); intro g6 cap6 w6 hown6 hgrow6 hor6 hlt6; have HL6 := Lib.hid (HFIN.out _ _ _ _ ((HN6.out).alloc _) (own_new (by simpa [natCells] using HO5.out) ((New.refl _).alloc _)) hgrow6 hown6); clear hown6 hgrow6 hor6 hlt6))
                  go_roundw
                  case rel => exact ⟨m + 1, by have := HPS.out; omega, by rw [show stN x + (m + 1) = P + 1 by have := HPS.out; omega]; go_num, HL6.out.1, HL6.out.2⟩
                  case measure => simp [intOf]; omega
              · obtain rfl : m = n - stN x := by omega
                have HLL4 := Lib.hid hll4
                have hlt3' : ¬ ((stN x + (n - stN x) : Nat) : Int) < (n : Int) := by omega
                clear hll4 hnew4
                go_wp2_with fail
                go_roundw
                case rel => exact ⟨jj + 1, by omega, by go_num, by rw [HSJ.out]; exact HLL4.out, HN4.out⟩
                case measure => simp [intOf]; omega
        · obtain rfl : jj = X.length := by omega
          have HLL2 := Lib.hid hll2
          clear hll2 hnew2
          go_wp2_with fail
          go_roundw
          case rel => exact ⟨a + 1, by omega, by go_num, by rw [HXS.out]; exact HLL2.out.mono HNW.out.size, HNW.out.trans HN2.out⟩
          case measure => simp [intOf]; omega
    · obtain rfl : a = k := by omega
      have HLL := Lib.hid hll
      clear hll hnew
      go_wp2_with fail
      refine bodyPost_ret (by simp [results, Try.results39, go_sem]) rfl ⟨_, rfl, HNW.out, HLL.out⟩

end Go.Proofs.Ytpjekinmcdglbaa
end
