/- The small functions of package geom, by contracts. -/
import Derived.Test.YtbmmjbklfheghaaGPure
import Derived.Test.YtbmmjbklfheghaaVBox
import Derived.Test.YtbmmjbklfheghaaVQuiet
import Derived.Test.YtbmmjbklfheghaaVRLeaf
namespace Go.Proofs.Ytbmmjbklfheghaa.Geo
set_option linter.unusedVariables false
set_option maxRecDepth 100000
open Go.RowKit Go.Shelf
open Go.Proofs.Ytbmmjbklfheghaa.Ven (Seat Pole Ven VenAt venV seatV Box mayB mixed SeatAt below_alloc coordB standsB ret_bool ret_int BelowOf wp_region_quiet_below)

theorem fits_reach (n : Int) (w : World) : Calls Try.prog 26 #[.int .i64 n, .int .i64 0] w fun e w' => e = .returned (.bool (decide (1 ≤ n ∧ n ≤ 1048576))) ∧ w' = w := by
  by_cases h2 : n < 1
  · go_enter Try.func26, Try.ntmps26
    go_wp2
    go_ret
    exact ⟨ret_bool (by simp; omega), rfl⟩
  · go_enter Try.func26, Try.ntmps26
    go_wp2
    all_goals go_ret
    all_goals exact ⟨ret_bool (by (try simp_all); try omega), rfl⟩
theorem fits_coord (n : Int) (w : World) : Calls Try.prog 26 #[.int .i64 n, .int .i64 1] w fun e w' => e = .returned (.bool (coordB n)) ∧ w' = w := by
  unfold coordB
  go_enter Try.func26, Try.ntmps26
  go_wp2
  all_goals go_ret
  all_goals exact ⟨ret_bool (by (try simp_all); try omega), rfl⟩
theorem stands_any (x y : Int) (w : World) : Calls Try.prog 25 #[.int .i64 x, .int .i64 y] w fun e w' => e = .returned (.bool (standsB x y)) ∧ w' = w := by
  unfold standsB
  have hx := fits_coord x
  have hy := fits_coord y
  generalize coordB x = a at hx ⊢
  generalize coordB y = b at hy ⊢
  cases a
  · go_enter Try.func25, Try.ntmps25
    go_wp2_with (go_at_call 26; refine (hx _).mono ?_; rintro e w' ⟨rfl, rfl⟩)
    go_ret
    exact ⟨rfl, rfl⟩
  · go_enter Try.func25, Try.ntmps25
    go_wp2_with fail
    refine (hx _).mono ?_
    rintro e w' ⟨rfl, rfl⟩
    go_wp2_with fail
    refine (hy _).mono ?_
    rintro e w' ⟨rfl, rfl⟩
    go_wp2
    go_ret
    exact ⟨rfl, rfl⟩
/-- Differences, their squares and the sum of these need no more than 64 bits. -/
theorem sq_wraps {x y u v : Int} (hx : coordB x = true) (hy : coordB y = true) (hu : coordB u = true) (hv : coordB v = true) :
    IntKind.i64.wrap (x - u) = x - u ∧ IntKind.i64.wrap (y - v) = y - v ∧ IntKind.i64.wrap ((x - u) * (x - u)) = (x - u) * (x - u) ∧ IntKind.i64.wrap ((y - v) * (y - v)) = (y - v) * (y - v) ∧
    IntKind.i64.wrap ((x - u) * (x - u) + (y - v) * (y - v)) = (x - u) * (x - u) + (y - v) * (y - v) := by
  obtain ⟨a1, a2, a3, a4⟩ := sq_part hx hu
  obtain ⟨b1, b2, b3, b4⟩ := sq_part hy hv
  generalize (x - u) * (x - u) = p at *
  generalize (y - v) * (y - v) = q at *
  refine ⟨?_, ?_, ?_, ?_, ?_⟩ <;> rw [IntKind.wrap_i64] <;> omega
set_option maxHeartbeats 2000000 in
theorem square_any (r1 x1 y1 k1 r2 x2 y2 k2 : Int) (hx1 : coordB x1 = true) (hy1 : coordB y1 = true) (hx2 : coordB x2 = true) (hy2 : coordB y2 = true) (w : World) :
    Calls Try.prog 36 #[seatV r1 x1 y1 k1, seatV r2 x2 y2 k2] w fun e w' => e = .returned (.int .i64 (sqI x1 y1 x2 y2)) ∧ Below w.heap.size w w' := by
  have hb : Below w.heap.size w ((w.alloc (.cells #[.int .i64 r1, .int .i64 x1, .int .i64 y1, .int .i64 k1] 44)).alloc (.cells #[.int .i64 r2, .int .i64 x2, .int .i64 y2, .int .i64 k2] 44)) := ((Below.refl _ w).alloc (Nat.le_refl _) _).alloc (by simp) _
  obtain ⟨q1, q2, q3, q4, q5⟩ := sq_wraps hx1 hy1 hx2 hy2
  unfold sqI
  clear hx1 hy1 hx2 hy2
  go_enter Try.func36, Try.ntmps36
  go_wp2_with fail
  go_region
  all_goals
    go_wp2
    go_ret
    exact ⟨rfl, hb.drew⟩
end Go.Proofs.Ytbmmjbklfheghaa.Geo
