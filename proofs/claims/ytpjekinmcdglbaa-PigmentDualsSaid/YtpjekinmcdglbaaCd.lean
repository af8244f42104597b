/- One tint: isTint. -/
import Derived.Test.YtpjekinmcdglbaaCb
import Derived.Test.YtpjekinmcdglbaaCc
set_option linter.unusedSimpArgs false
set_option linter.unusedVariables false
set_option maxRecDepth 100000
namespace Go.Proofs.Ytpjekinmcdglbaa
open Go.RowKit

abbrev tv5 (s : ByteArray) (a b c p : Int) : Value := .agg #[.string s, .int .i64 a, .int .i64 b, .int .i64 c, .int .i64 p]
def tintB (s : ByteArray) (a b c p : Int) : Bool := ((nameB s && shB a b c) && decide (0 ≤ p)) && decide (p ≤ 10000)
set_option maxHeartbeats 8000000 in
theorem isTint_c (s : ByteArray) (a b c p : Int) (w : World) :
    Calls Try.prog 78 #[tv5 s a b c p] w fun en w' => en = .returned (.bool (tintB s a b c p)) ∧ New w w' := by
  have HR := Lib.hid (show tintB s a b c p = (((nameB s && shB a b c) && decide (0 ≤ p)) && decide (p ≤ 10000)) from rfl)
  have HN := Lib.hid (fun (w1 : World) => isName_c s w1)
  have HS := Lib.hid (fun (w1 : World) => isShade_c a b c w1)
  generalize tintB s a b c p = R at *
  generalize hnb : nameB s = nb at *
  generalize hsb : shB a b c = sb at *
  clear hnb hsb
  go_enter Try.func78, Try.ntmps78
  go_wp2_with fail
  go_at_call 90
  refine (HN.out _).mono ?_
  rintro e w2 ⟨rfl, hn2⟩
  have HN2 := Lib.hid (((New.refl w).alloc _).trans hn2)
  have hB : w2.heap[w.heap.size]? = some (.cells #[.string s, .int .i64 a, .int .i64 b, .int .i64 c, .int .i64 p] 59 (0, 0)) := (hn2.below.block _ (by simp)).trans (heap_alloc_new _ _)
  have c0 : w2.cell? ⟨w.heap.size, 1, none⟩ = some (.int .i64 a) := by simp [World.cell?, hB]
  have c1 : w2.cell? ⟨w.heap.size, 2, none⟩ = some (.int .i64 b) := by simp [World.cell?, hB]
  have c2 : w2.cell? ⟨w.heap.size, 3, none⟩ = some (.int .i64 c) := by simp [World.cell?, hB]
  have c3 : w2.cell? ⟨w.heap.size, 4, none⟩ = some (.int .i64 p) := by simp [World.cell?, hB]
  have HB := Lib.hid hB
  clear hn2 hB
  cases nb
  · have HF := Lib.hid (show false = R by rw [HR.out]; simp)
    go_wp2_with fail
    all_goals (go_ret; exact ⟨ret_bool HF.out, HN2.out⟩)
  · go_wp2_with fail
    go_at_call 60
    refine (HS.out _).mono ?_
    rintro e w3 ⟨rfl, hn3⟩
    have HN3 := Lib.hid (HN2.out.trans hn3)
    have hgl : w.heap.size < w2.heap.size := (Array.getElem?_eq_some_iff.1 HB.out).1
    have c4 := (hn3.cell (o := 4) hgl).trans c3
    clear hn3 c0 c1 c2 c3
    cases sb
    · have HF := Lib.hid (show false = R by rw [HR.out]; simp)
      go_wp2_with fail
      all_goals (go_ret; exact ⟨ret_bool HF.out, HN3.out⟩)
    · by_cases v1 : p < 0
      · have HF := Lib.hid (show false = R by rw [HR.out, decide_eq_false (show ¬ 0 ≤ p by omega)]; simp)
        have v1' : ¬ 0 ≤ p := by omega
        go_wp2_with fail
        all_goals (go_ret; exact ⟨ret_bool HF.out, HN3.out⟩)
      · have v1' : 0 ≤ p := by omega
        by_cases v2 : p ≤ 10000
        · have HF := Lib.hid (show true = R by rw [HR.out, decide_eq_true v1', decide_eq_true v2]; simp)
          go_wp2_with fail
          all_goals (go_ret; exact ⟨ret_bool HF.out, HN3.out⟩)
        · have HF := Lib.hid (show decide (p ≤ 10000) = R by rw [HR.out, decide_eq_true v1']; simp)
          go_wp2_with fail
          all_goals (go_ret; exact ⟨ret_bool HF.out, HN3.out⟩)

end Go.Proofs.Ytpjekinmcdglbaa
