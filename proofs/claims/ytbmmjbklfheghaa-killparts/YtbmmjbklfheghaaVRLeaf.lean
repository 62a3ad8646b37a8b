/- The small functions of parterreref2's layer 3, by contracts. -/
import Derived.Test.YtbmmjbklfheghaaVQuiet
namespace Go.Proofs.Ytbmmjbklfheghaa.Ven
set_option linter.unusedVariables false
set_option maxRecDepth 100000
open Go.RowKit Go.Shelf

theorem cells_of_pos {α : Type} {k : Nat} {enc : α → List Value} {w : World} {a : Option Addr} {n c : Nat} {l : List α} (h : Sl k enc w (.slice a n c) l) {i : Nat} (hi : i < l.length) : ∃ b off, a = some ⟨b, off, none⟩ ∧ Cells k enc w b off l := by
  rcases h with ⟨_, hn⟩ | ⟨b, off, cap, he, _, _, hC⟩
  · rw [hn] at hi; simp at hi
  · exact ⟨b, off, by injection he, hC⟩
theorem Sl.max {α : Type} {k : Nat} {enc : α → List Value} {w : World} {v : Value} {l : List α} (h : Sl k enc w v l) : l.length ≤ 9223372036854775807 := by
  rcases h with ⟨_, rfl⟩ | ⟨b, off, cap, _, h1, h2, _⟩
  · simp
  · unfold maxLen at h2; omega
theorem same_world {P : Program} {f : FuncId} {args : Array Value} {w : World} {v : Value} (h : Calls P f args w fun e w' => e = .returned v ∧ w' = w) : Calls P f args w fun e w' => e = .returned v ∧ Below w.heap.size w w' :=
  h.mono fun _ w' ⟨he, hw⟩ => ⟨he, by rw [hw]; exact Below.refl _ w⟩
theorem in_any (n lo hi : Int) (w : World) : Calls Try.prog 38 #[.int .i64 n, .int .i64 lo, .int .i64 hi] w fun e w' => e = .returned (.bool (decide (lo ≤ n) && decide (n ≤ hi))) ∧ w' = w := by
  go_enter Try.func38, Try.ntmps38
  go_wp2
  all_goals go_ret
  all_goals exact ⟨ret_bool (by (try simp_all); try omega), rfl⟩
theorem rcoord_any (n : Int) (w : World) : Calls Try.prog 49 #[.int .i64 n] w fun e w' => e = .returned (.bool (coordB n)) ∧ w' = w := by
  have h := in_any n (-1048576) 1048576
  unfold coordB
  generalize (decide (-1048576 ≤ n) && decide (n ≤ 1048576)) = b at h ⊢
  go_enter Try.func49, Try.ntmps49
  go_wp2_with fail
  refine (h _).mono ?_
  rintro e w' ⟨rfl, rfl⟩
  go_wp2
  go_ret
  exact ⟨rfl, rfl⟩
theorem rless_any (r1 x1 y1 k1 r2 x2 y2 k2 : Int) (w : World) :
    Calls Try.prog 50 #[seatV r1 x1 y1 k1, seatV r2 x2 y2 k2] w fun e w' => e = .returned (.bool (ltS ⟨r1, x1, y1, k1⟩ ⟨r2, x2, y2, k2⟩)) ∧ Below w.heap.size w w' := by
  have hb : Below w.heap.size w ((w.alloc (.cells #[.int .i64 r1, .int .i64 x1, .int .i64 y1, .int .i64 k1] 44)).alloc (.cells #[.int .i64 r2, .int .i64 x2, .int .i64 y2, .int .i64 k2] 44)) := ((Below.refl _ w).alloc (Nat.le_refl _) _).alloc (by simp) _
  unfold ltS
  by_cases h1 : r1 < r2
  · have e : (decide (r1 < r2) || (decide (r1 = r2) && decide (x1 < x2))) = true := by simp [h1]
    show Calls Try.prog 50 _ _ fun e w' => e = .returned (.bool (decide (r1 < r2) || (decide (r1 = r2) && decide (x1 < x2)))) ∧ _
    rw [e]
    clear e
    go_enter Try.func50, Try.ntmps50
    go_wp2
    go_ret
    exact ⟨rfl, hb⟩
  · by_cases h2 : r1 = r2
    · subst h2
      by_cases h3 : x1 < x2
      · show Calls Try.prog 50 _ _ fun e w' => e = .returned (.bool (decide (r1 < r1) || (decide (r1 = r1) && decide (x1 < x2)))) ∧ _
        rw [show (decide (r1 < r1) || (decide (r1 = r1) && decide (x1 < x2))) = true by simp [h3]]
        go_enter Try.func50, Try.ntmps50
        go_wp2
        go_ret
        exact ⟨rfl, hb⟩
      · show Calls Try.prog 50 _ _ fun e w' => e = .returned (.bool (decide (r1 < r1) || (decide (r1 = r1) && decide (x1 < x2)))) ∧ _
        rw [show (decide (r1 < r1) || (decide (r1 = r1) && decide (x1 < x2))) = false by simp [h3]]
        go_enter Try.func50, Try.ntmps50
        go_wp2
        go_ret
        exact ⟨rfl, hb⟩
    · have h2' : (r1 == r2) = false := by simpa using h2
      show Calls Try.prog 50 _ _ fun e w' => e = .returned (.bool (decide (r1 < r2) || (decide (r1 = r2) && decide (x1 < x2)))) ∧ _
      rw [show (decide (r1 < r2) || (decide (r1 = r2) && decide (x1 < x2))) = false by simp [h1, h2]]
      clear h2
      go_enter Try.func50, Try.ntmps50
      go_wp2
      go_ret
      exact ⟨rfl, hb⟩
end Go.Proofs.Ytbmmjbklfheghaa.Ven
