/- parterrelaw3.Few by its contract. -/
import Derived.Test.YtbmmjbklfheghaaCInts
namespace Go.Proofs.Ytbmmjbklfheghaa.Com
set_option linter.unusedVariables false
set_option maxRecDepth 100000
open Go.RowKit Go.Shelf
open Go.Proofs.Ytbmmjbklfheghaa.Ven (Seat Pole Ven VenAt venV Box mayB mixed SeatAt below_alloc)

theorem few_any (a1 a2 a3 : Option Addr) (n1 c1 n2 c2 n3 c3 : Nat) (V : Ven) (w : World) (h : VenAt w a1 n1 c1 a2 n2 c2 a3 n3 c3 V) :
    Calls Try.prog 7 #[venV a1 n1 c1 V.gap V.radius a2 n2 c2 a3 n3 c3] w fun e w' => e = .returned (.bool (decide (n1 ≤ 40) && (decide (n2 ≤ 40) && decide (n3 ≤ 40)))) ∧ Below w.heap.size w w' := by
  have hb := below_alloc w (.cells #[.slice a1 n1 c1, .int .i64 V.gap, .int .i64 V.radius, .slice a2 n2 c2, .slice a3 n3 c3] 26)
  clear h
  generalize V.gap = gap at hb ⊢
  generalize V.radius = radius at hb ⊢
  by_cases h1 : n1 ≤ 40
  · have g1 : (n1 : Int) ≤ 40 := by omega
    by_cases h2 : n2 ≤ 40
    · have g2 : (n2 : Int) ≤ 40 := by omega
      by_cases h3 : n3 ≤ 40
      · have g3 : (n3 : Int) ≤ 40 := by omega
        rw [decide_eq_true h1, decide_eq_true h2, decide_eq_true h3]
        go_enter Try.func7, Try.ntmps7
        go_wp2
        go_ret
        exact ⟨rfl, hb⟩
      · have g3 : ¬ (n3 : Int) ≤ 40 := by omega
        rw [decide_eq_true h1, decide_eq_true h2, decide_eq_false h3]
        go_enter Try.func7, Try.ntmps7
        go_wp2
        go_ret
        exact ⟨rfl, hb⟩
    · have g2 : ¬ (n2 : Int) ≤ 40 := by omega
      rw [decide_eq_true h1, decide_eq_false h2]
      go_enter Try.func7, Try.ntmps7
      go_wp2
      go_ret
      exact ⟨rfl, hb⟩
  · have g1 : ¬ (n1 : Int) ≤ 40 := by omega
    rw [decide_eq_false h1]
    go_enter Try.func7, Try.ntmps7
    go_wp2
    go_ret
    exact ⟨rfl, hb⟩
end Go.Proofs.Ytbmmjbklfheghaa.Com
