/- The small functions of package venue, by contracts. -/
import Derived.Test.YtbmmjbklfheghaaVPure
import Derived.Test.YtbmmjbklfheghaaProg
import Derived.WalkKit
import Derived.RowKitTokens
import Derived.Below
import Derived.BigQuiet
import Derived.Deep.QuietTactic
import Derived.Deep.RegionWith
namespace Go.Proofs.Ytbmmjbklfheghaa.Ven
set_option linter.unusedVariables false
set_option maxRecDepth 100000
open Go.RowKit

theorem ret_bool {a b : Bool} (h : a = b) : Ending.returned (.bool a) = .returned (.bool b) := by rw [h]
theorem ret_int {k : IntKind} {a b : Int} (h : a = b) : Ending.returned (.int k a) = .returned (.int k b) := by rw [h]
abbrev seatV (r x y k : Int) : Value := .agg #[.int .i64 r, .int .i64 x, .int .i64 y, .int .i64 k]
abbrev poleV (x y r : Int) : Value := .agg #[.int .i64 x, .int .i64 y, .int .i64 r]

theorem fits_length (n : Int) (w : World) : Calls Try.prog 43 #[.int .i64 n, .int .i64 0] w fun e w' => e = .returned (.bool (lengthB n)) ∧ w' = w := by
  unfold lengthB
  by_cases h0 : n = 0
  · subst h0
    go_enter Try.func43, Try.ntmps43
    go_wp2
    go_ret
    exact ⟨rfl, rfl⟩
  · have h1 : (n == 0) = false := by simp [h0]
    by_cases h2 : n < 0
    · go_enter Try.func43, Try.ntmps43
      go_wp2
      go_ret
      exact ⟨ret_bool (by simp; omega), rfl⟩
    · go_enter Try.func43, Try.ntmps43
      go_wp2
      all_goals go_ret
      all_goals exact ⟨ret_bool (by (try simp_all); try omega), rfl⟩
theorem fits_dist (n : Int) (w : World) : Calls Try.prog 43 #[.int .i64 n, .int .i64 1] w fun e w' => e = .returned (.bool (distB n)) ∧ w' = w := by
  unfold distB
  by_cases h2 : n < 0
  · go_enter Try.func43, Try.ntmps43
    go_wp2
    go_ret
    exact ⟨ret_bool (by simp; omega), rfl⟩
  · go_enter Try.func43, Try.ntmps43
    go_wp2
    all_goals go_ret
    all_goals exact ⟨ret_bool (by (try simp_all); try omega), rfl⟩
theorem fits_coord (n : Int) (w : World) : Calls Try.prog 43 #[.int .i64 n, .int .i64 2] w fun e w' => e = .returned (.bool (coordB n)) ∧ w' = w := by
  unfold coordB
  go_enter Try.func43, Try.ntmps43
  go_wp2
  all_goals go_ret
  all_goals exact ⟨ret_bool (by (try simp_all); try omega), rfl⟩
theorem fits_row (n : Int) (w : World) : Calls Try.prog 43 #[.int .i64 n, .int .i64 3] w fun e w' => e = .returned (.bool (rowB n)) ∧ w' = w := by
  unfold rowB
  go_enter Try.func43, Try.ntmps43
  go_wp2
  all_goals go_ret
  all_goals exact ⟨ret_bool (by (try simp_all); try omega), rfl⟩
theorem fits_kind (n : Int) (w : World) : Calls Try.prog 43 #[.int .i64 n, .int .i64 4] w fun e w' => e = .returned (.bool (kindB n)) ∧ w' = w := by
  unfold kindB
  go_enter Try.func43, Try.ntmps43
  go_wp2
  all_goals go_ret
  all_goals exact ⟨ret_bool (by (try simp_all); try omega), rfl⟩
theorem isSeat_any (k n : Int) (w : World) : Calls Try.prog 53 #[.int .i64 k, .int .i64 n] w fun e w' => e = .returned (.bool (isSeatB k n)) ∧ w' = w := by
  unfold isSeatB
  go_enter Try.func53, Try.ntmps53
  go_wp2
  all_goals go_ret
  all_goals exact ⟨ret_bool (by (try simp_all); try omega), rfl⟩
theorem isNaN_any (n : Int) (w : World) : Calls Try.prog 55 #[.int .i64 n] w fun e w' => e = .returned (.bool false) ∧ w' = w := by
  go_enter Try.func55, Try.ntmps55
  go_wp2
  go_ret
  exact ⟨ret_bool (by simp), rfl⟩
theorem compare_lt (a b : Int) (h : a < b) (w : World) : Calls Try.prog 58 #[.int .i64 a, .int .i64 b] w fun e w' => e = .returned (.int .i64 (-1)) ∧ w' = w := by
  go_enter Try.func58, Try.ntmps58
  go_wp2_with (go_at_call 55; refine (isNaN_any _ _).mono ?_; rintro e w' ⟨rfl, rfl⟩)
  go_ret
  exact ⟨rfl, rfl⟩
theorem compare_gt (a b : Int) (h : b < a) (w : World) : Calls Try.prog 58 #[.int .i64 a, .int .i64 b] w fun e w' => e = .returned (.int .i64 1) ∧ w' = w := by
  have h' : ¬ a < b := by omega
  go_enter Try.func58, Try.ntmps58
  go_wp2_with (go_at_call 55; refine (isNaN_any _ _).mono ?_; rintro e w' ⟨rfl, rfl⟩)
  go_ret
  exact ⟨rfl, rfl⟩
theorem compare_eq (a : Int) (w : World) : Calls Try.prog 58 #[.int .i64 a, .int .i64 a] w fun e w' => e = .returned (.int .i64 0) ∧ w' = w := by
  have h' : ¬ a < a := by omega
  go_enter Try.func58, Try.ntmps58
  go_wp2_with (go_at_call 55; refine (isNaN_any _ _).mono ?_; rintro e w' ⟨rfl, rfl⟩)
  go_ret
  exact ⟨rfl, rfl⟩
theorem cmpCompare_any (a b : Int) (w : World) : Calls Try.prog 58 #[.int .i64 a, .int .i64 b] w fun e w' => e = .returned (.int .i64 (cmpI a b)) ∧ w' = w := by
  unfold cmpI
  by_cases h : a < b
  · rw [if_pos h]; exact compare_lt a b h w
  · rw [if_neg h]
    by_cases h2 : b < a
    · rw [if_pos h2]; exact compare_gt a b h2 w
    · rw [if_neg h2]
      have e : a = b := by omega
      subst e; exact compare_eq a w
theorem stands_any (x y : Int) (w : World) : Calls Try.prog 54 #[.int .i64 x, .int .i64 y] w fun e w' => e = .returned (.bool (standsB x y)) ∧ w' = w := by
  unfold standsB
  have hx := fits_coord x
  have hy := fits_coord y
  generalize coordB x = a at hx ⊢
  generalize coordB y = b at hy ⊢
  cases a
  · go_enter Try.func54, Try.ntmps54
    go_wp2_with (go_at_call 43; refine (hx _).mono ?_; rintro e w' ⟨rfl, rfl⟩)
    go_ret
    exact ⟨rfl, rfl⟩
  · go_enter Try.func54, Try.ntmps54
    go_wp2_with fail
    refine (hx _).mono ?_
    rintro e w' ⟨rfl, rfl⟩
    go_wp2_with fail
    refine (hy _).mono ?_
    rintro e w' ⟨rfl, rfl⟩
    go_wp2
    go_ret
    exact ⟨rfl, rfl⟩
end Go.Proofs.Ytbmmjbklfheghaa.Ven
