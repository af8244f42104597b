/- The first pair of segments that cross, as Crossing returns it. At most 1000000 segments. -/
import Derived.Test.YtpdfbboagaflhaaGreatM18
import Derived.Test.YtpdfbboagaflhaaGreatM15
import Derived.Deep.RegionHeld3
import Derived.Deep.RegionWith
import Derived.BigRegion
import Derived.LoopTactic

namespace Go.Proofs.YtpdfbboagaflhaaGreat
open Go.RowKit

def meetQ (L : List S4) (i j : Nat) : Int := meetI (q1 L i) (q2 L i) (q3 L i) (q4 L i) (q1 L j) (q2 L j) (q3 L j) (q4 L j)
def crB (L : List S4) (i j : Nat) : Bool := meetQ L i j == 3 || meetQ L i j == 4
def RowFree (L : List S4) (k m : Nat) : Prop := ∀ j, k < j → j < m → crB L k j = false
def RowsFree (L : List S4) (n k : Nat) : Prop := ∀ i, i < k → RowFree L i n
theorem rowFree_start (L : List S4) (i : Nat) : RowFree L i (i + 1) := fun j h1 h2 => by omega
theorem rowFree_succ {L : List S4} {i m : Nat} (h : RowFree L i m) (he : crB L i m = false) : RowFree L i (m + 1) := fun j h1 h2 => by
  by_cases e : j = m
  · subst e; exact he
  · exact h j h1 (by omega)
theorem rowsFree_succ {L : List S4} {n k : Nat} (h : RowsFree L n k) (he : RowFree L k n) : RowsFree L n (k + 1) := fun i hi => by
  by_cases e : i = k
  · subst e; exact he
  · exact h i (by omega)
def crossV (i j : Int) (f : Bool) (e : Int) : Value := .tuple #[.int .i64 i, .int .i64 j, .bool f, .int .i64 e]
/-- an error, or no pair that crosses, or the first pair that does -/
def CrossIs (l : List S4) (en : Ending) : Prop :=
  (ckSegs l ≠ 0 ∧ en = .returned (crossV 0 0 false (ckSegs l))) ∨ (ckSegs l = 0 ∧ RowsFree l l.length l.length ∧ en = .returned (crossV 0 0 false 0)) ∨
  (ckSegs l = 0 ∧ ∃ i j : Nat, i < j ∧ j < l.length ∧ RowsFree l l.length i ∧ RowFree l i j ∧ crB l i j = true ∧ en = .returned (crossV i j true 0))
theorem crossIs_err {l : List S4} {e : Int} (h : ckSegs l = e) (he : e ≠ 0) : CrossIs l (.returned (.tuple #[.int .i64 0, .int .i64 0, .bool false, .int .i64 e])) := by subst h; exact .inl ⟨he, rfl⟩
theorem crossIs_no {l : List S4} {n : Nat} (hn : l.length = n) (h : ckSegs l = 0) (hr : RowsFree l n n) : CrossIs l (.returned (.tuple #[.int .i64 0, .int .i64 0, .bool false, .int .i64 0])) := by subst hn; exact .inr (.inl ⟨h, hr, rfl⟩)
theorem crossIs_yes {l : List S4} {n i j : Nat} (hn : l.length = n) (h : ckSegs l = 0) (h1 : i < j) (h2 : j < n) (hr : RowsFree l n i) (hf : RowFree l i j) (hc : crB l i j = true) : CrossIs l (.returned (.tuple #[.int .i64 i, .int .i64 j, .bool true, .int .i64 0])) := by subst hn; exact .inr (.inr ⟨h, i, j, h1, h2, hr, hf, hc, rfl⟩)
theorem ckSegs_bd {l : List S4} (h : ckSegs l = 0) (i : Nat) (hi : i < l.length) : (-40000 ≤ q1 l i ∧ q1 l i ≤ 40000) ∧ (-40000 ≤ q2 l i ∧ q2 l i ≤ 40000) ∧ (-40000 ≤ q3 l i ∧ q3 l i ≤ 40000) ∧ (-40000 ≤ q4 l i ∧ q4 l i ≤ 40000) := by
  have h2 : okSegs l = true := by
    unfold ckSegs at h
    split at h
    · cases h
    · split at h
      · assumption
      · cases h
  have h3 := okS_iff.1 (okSegs_at l i hi h2)
  omega

set_option maxHeartbeats 8000000 in
theorem Crossing_c (b off n c : Nat) (l : List S4) (w : World) (hl : n ≤ 1000000) (hw : Segs w b off n l) :
    Calls Tryz.prog 64 #[.slice (some ⟨b, off, none⟩) n c] w fun en w' => CrossIs l en ∧ New w w' := by
  have HCK := Lib.hid (checkSegs_c b off n c l w (by omega) hw)
  have HN := Lib.hid hw.1
  have hb := hw.2.1
  have HSC := Lib.hid hw.2.2
  clear hw
  by_cases he : ckSegs l = 0
  · rw [he] at HCK
    have HE := Lib.hid he
    have HB := Lib.hid (ckSegs_bd he)
    clear he
    go_enter Tryz.func64, Tryz.ntmps64
    go_wp2_with fail
    refine (HCK.out).mono ?_
    rintro e w2 ⟨rfl, hnew2⟩
    have HN2 := Lib.hid hnew2
    clear hnew2 HCK
    go_wp2_with fail
    go_loopw [18] (fun i wr => ∃ k : Nat, k ≤ n ∧ i = .int .i64 k ∧ RowsFree l n k ∧ New w2 wr) (fun i _ => n - (intOf i).toNat)
    case atStart => exact ⟨0, Nat.zero_le _, rfl, fun i hi => absurd hi (Nat.not_lt_zero _), New.refl _⟩
    case round =>
      obtain ⟨k, hk, rfl, hrows, pr, rfl⟩ := hrel
      have HR := Lib.hid hrows
      clear hrows
      by_cases hlt : k < n
      · obtain ⟨c1, c2, c3, c4⟩ := HSC.out k hlt
        rw [← HN2.out.cell hb] at c1 c2 c3 c4
        have hb2 : b < w2.heap.size := Nat.lt_of_lt_of_le hb HN2.out.size
        obtain ⟨b1, b2, b3, b4⟩ := HB.out k (by rw [HN.out]; exact hlt)
        go_wp2_with fail
        generalize hwo : (Aft w2 pr.d pr.os).alloc _ = wo
        have x1 : wo.cell? ⟨w2.heap.size + pr.os.size, 0, none⟩ = some (.int .i64 (q1 l k)) := by rw [← hwo]; simp [go_sem]
        have x2 : wo.cell? ⟨w2.heap.size + pr.os.size, 1, none⟩ = some (.int .i64 (q2 l k)) := by rw [← hwo]; simp [go_sem]
        have x3 : wo.cell? ⟨w2.heap.size + pr.os.size, 2, none⟩ = some (.int .i64 (q3 l k)) := by rw [← hwo]; simp [go_sem]
        have x4 : wo.cell? ⟨w2.heap.size + pr.os.size, 3, none⟩ = some (.int .i64 (q4 l k)) := by rw [← hwo]; simp [go_sem]
        have xb : w2.heap.size + pr.os.size < wo.heap.size := by rw [← hwo]; simp [go_sem]
        have hgo : b < wo.heap.size := by omega
        have hno : New w2 wo := by rw [← hwo]; exact ((New.refl w2).aft _ _).alloc _
        have HNO := Lib.hid (HN2.out.trans hno)
        have HNO2 := Lib.hid hno
        clear hno hwo c1 c2 c3 c4
        go_loopw [9] (fun j wr => ∃ m : Nat, k + 1 ≤ m ∧ m ≤ n ∧ j = .int .i64 m ∧ RowFree l k m ∧ New wo wr) (fun j _ => n - (intOf j).toNat)
        case atStart => exact ⟨k + 1, Nat.le_refl _, by omega, by go_num, rowFree_start _ _, New.refl _⟩
        case round =>
          obtain ⟨m, hm1, hm2, rfl, hrow, po, rfl⟩ := hrel
          have HM := Lib.hid hrow
          clear hrow
          by_cases hmn : m < n
          · obtain ⟨d1, d2, d3, d4⟩ := HSC.out m hmn
            rw [← HNO.out.cell hb] at d1 d2 d3 d4
            obtain ⟨a1, a2, a3, a4⟩ := HB.out m (by rw [HN.out]; exact hmn)
            have HMT := Lib.hid (fun w3 : World => meet_c (q1 l k) (q2 l k) (q3 l k) (q4 l k) (q1 l m) (q2 l m) (q3 l m) (q4 l m) w3 b1 b2 b3 b4 a1 a2 a3 a4)
            by_cases h3 : meetQ l k m = 3
            · have HC := Lib.hid (show crB l k m = true by simp [crB, h3])
              rw [show meetI (q1 l k) (q2 l k) (q3 l k) (q4 l k) (q1 l m) (q2 l m) (q3 l m) (q4 l m) = 3 from h3] at HMT
              clear h3
              go_wp2_with fail
              first | refine wp_region_at2 (by kernel_rfl) (by kernel_rfl) ?_ | refine wp_region_at (by kernel_rfl) (by kernel_rfl) ?_
              repeat (go_big_quiet_step ((go_at_call 92; exact calls_new (HMT.out _))))
              refine wpQuiet_nil ?_
              rintro _ ⟨q, rfl⟩
              go_wp2_with fail
              refine bodyPost_ret (v := .tuple #[.int .i64 k, .int .i64 m, .bool true, .int .i64 0]) (by simp [results, Tryz.results64, go_sem]) rfl ⟨crossIs_yes HN.out HE.out (by omega) hmn HR.out HM.out HC.out, HNO.out.trans (by (repeat (first | exact New.refl _ | apply New.alloc | apply New.aft | apply New.drew | refine New.setCell ?_ ?_ _)); all_goals (first | done | (simp [size_aft]; done) | (simp [size_aft]; omega)))⟩
            · by_cases h4 : meetQ l k m = 4
              · have HC := Lib.hid (show crB l k m = true by simp [crB, h4])
                rw [show meetI (q1 l k) (q2 l k) (q3 l k) (q4 l k) (q1 l m) (q2 l m) (q3 l m) (q4 l m) = 4 from h4] at HMT
                clear h3 h4
                go_wp2_with fail
                first | refine wp_region_at2 (by kernel_rfl) (by kernel_rfl) ?_ | refine wp_region_at (by kernel_rfl) (by kernel_rfl) ?_
                repeat (go_big_quiet_step ((go_at_call 92; exact calls_new (HMT.out _))))
                refine wpQuiet_nil ?_
                rintro _ ⟨q, rfl⟩
                go_wp2_with fail
                refine bodyPost_ret (v := .tuple #[.int .i64 k, .int .i64 m, .bool true, .int .i64 0]) (by simp [results, Tryz.results64, go_sem]) rfl ⟨crossIs_yes HN.out HE.out (by omega) hmn HR.out HM.out HC.out, HNO.out.trans (by (repeat (first | exact New.refl _ | apply New.alloc | apply New.aft | apply New.drew | refine New.setCell ?_ ?_ _)); all_goals (first | done | (simp [size_aft]; done) | (simp [size_aft]; omega)))⟩
              · have HC := Lib.hid (show crB l k m = false by simp [crB, h3, h4])
                obtain ⟨M, hM⟩ : ∃ M, M = meetQ l k m := ⟨_, rfl⟩
                rw [show meetI (q1 l k) (q2 l k) (q3 l k) (q4 l k) (q1 l m) (q2 l m) (q3 l m) (q4 l m) = M from hM.symm] at HMT
                have t3 : (M == 3) = false := by rw [hM]; simpa using h3
                have t4 : (M == 4) = false := by rw [hM]; simpa using h4
                clear h3 h4 hM
                go_wp2_with fail
                first | refine wp_region_at2 (by kernel_rfl) (by kernel_rfl) ?_ | refine wp_region_at (by kernel_rfl) (by kernel_rfl) ?_
                repeat (go_big_quiet_step ((go_at_call 92; exact calls_new (HMT.out _))))
                refine wpQuiet_nil ?_
                rintro _ ⟨q, rfl⟩
                go_wp2_with fail
                go_roundw
                case rel => exact ⟨m + 1, by omega, by omega, by go_num, rowFree_succ HM.out HC.out, by (repeat (first | exact New.refl _ | apply New.alloc | apply New.aft | apply New.drew | refine New.setCell ?_ ?_ _)); all_goals (first | done | (simp [size_aft]; done) | (simp [size_aft]; omega))⟩
                case measure => simp [intOf]; omega
          · have hmn' : m = n := by omega
            have HM' := Lib.hid (hmn' ▸ HM.out)
            clear HM
            go_wp2_with fail
            go_roundw
            case rel => exact ⟨k + 1, by omega, by go_num, rowsFree_succ HR.out HM'.out, HNO2.out.trans (by (repeat (first | exact New.refl _ | apply New.alloc | apply New.aft | apply New.drew | refine New.setCell ?_ ?_ _)); all_goals (first | done | (simp [size_aft]; done) | (simp [size_aft]; omega)))⟩
            case measure => simp [intOf]; omega
      · have hk' : k = n := by omega
        have HR' := Lib.hid (hk' ▸ HR.out)
        clear HR
        go_wp2_with fail
        refine bodyPost_ret (v := .tuple #[.int .i64 0, .int .i64 0, .bool false, .int .i64 0]) (by simp [results, Tryz.results64, go_sem]) rfl ⟨crossIs_no HN.out HE.out HR'.out, HN2.out.trans (by (repeat (first | exact New.refl _ | apply New.alloc | apply New.aft | apply New.drew | refine New.setCell ?_ ?_ _)); all_goals (first | done | (simp [size_aft]; done) | (simp [size_aft]; omega)))⟩
  · obtain ⟨e0, he0⟩ : ∃ e0, ckSegs l = e0 := ⟨_, rfl⟩
    rw [he0] at HCK he
    have HE := Lib.hid he0
    have HE0 := Lib.hid he
    have t1 : (e0 != 0) = true := by simpa using he
    have t2 : (e0 == 0) = false := by simpa using he
    clear he0 he
    go_enter Tryz.func64, Tryz.ntmps64
    go_wp2_with fail
    refine (HCK.out).mono ?_
    rintro e w2 ⟨rfl, hnew2⟩
    have HN2 := Lib.hid hnew2
    clear hnew2 HCK
    go_wp2_with fail
    refine bodyPost_ret (v := .tuple #[.int .i64 0, .int .i64 0, .bool false, .int .i64 e0]) (by simp [results, Tryz.results64, go_sem]) rfl ⟨crossIs_err HE.out HE0.out, HN2.out⟩

end Go.Proofs.YtpdfbboagaflhaaGreat

/- What checkApart returns. At most 1000000 segments. -/
namespace Go.Proofs.YtpdfbboagaflhaaGreat
open Go.RowKit

/-- an error, or no pair that crosses, or a pair that does -/
def ApartIs (l : List S4) (en : Ending) : Prop :=
  (ckSegs l ≠ 0 ∧ en = .returned (.int .i64 (ckSegs l))) ∨ (ckSegs l = 0 ∧ RowsFree l l.length l.length ∧ en = .returned (.int .i64 0)) ∨
  (ckSegs l = 0 ∧ (∃ i j : Nat, i < j ∧ j < l.length ∧ crB l i j = true) ∧ en = .returned (.int .i64 10))
set_option maxHeartbeats 2000000 in
theorem checkApart_c (b off n c : Nat) (l : List S4) (w : World) (hl : n ≤ 1000000) (hw : Segs w b off n l) :
    Calls Tryz.prog 137 #[.slice (some ⟨b, off, none⟩) n c] w fun en w' => ApartIs l en ∧ New w w' := by
  have HCK := Lib.hid (Crossing_c b off n c l w hl hw)
  clear hw
  go_enter Tryz.func137, Tryz.ntmps137
  go_wp2_with fail
  refine (HCK.out).mono ?_
  rintro e w2 ⟨hc, hnew2⟩
  have HN2 := Lib.hid hnew2
  clear hnew2 HCK
  rcases hc with ⟨h1, rfl⟩ | ⟨h1, h2, rfl⟩ | ⟨h1, i, j, h2, h3, h4, h5, h6, rfl⟩
  · have H1 := Lib.hid h1
    clear h1
    unfold crossV
    go_wp2_with fail
    refine bodyPost_ret (v := .int .i64 (ckSegs l)) (by simp [results, Tryz.results137, go_sem]) rfl ⟨.inl ⟨H1.out, rfl⟩, HN2.out⟩
  · have H1 := Lib.hid h1
    have H2 := Lib.hid h2
    clear h1 h2
    unfold crossV
    go_wp2_with fail
    refine bodyPost_ret (v := .int .i64 0) (by simp [results, Tryz.results137, go_sem]) rfl ⟨.inr (.inl ⟨H1.out, H2.out, rfl⟩), HN2.out⟩
  · have H1 := Lib.hid h1
    have H2 := Lib.hid (show ∃ i j : Nat, i < j ∧ j < l.length ∧ crB l i j = true from ⟨i, j, h2, h3, h6⟩)
    clear h1 h2 h3 h4 h5 h6
    unfold crossV
    go_wp2_with fail
    refine bodyPost_ret (v := .int .i64 10) (by simp [results, Tryz.results137, go_sem]) rfl ⟨.inr (.inr ⟨H1.out, H2.out, rfl⟩), HN2.out⟩

end Go.Proofs.YtpdfbboagaflhaaGreat
