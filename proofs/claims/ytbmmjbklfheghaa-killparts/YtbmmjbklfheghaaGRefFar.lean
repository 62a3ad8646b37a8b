/- parterreref6.Far by its contract. -/
import Derived.Test.YtbmmjbklfheghaaGNearer
import Derived.Test.YtbmmjbklfheghaaVRWrong
namespace Go.Proofs.Ytbmmjbklfheghaa.Geo
set_option linter.unusedVariables false
set_option maxRecDepth 100000
open Go.RowKit Go.Shelf
open Go.Proofs.Ytbmmjbklfheghaa.Ven (Seat Pole Ven VenAt venV seatV seatC intC Box mayB mixed SeatAt Cells below_alloc coordB standsB ret_bool BelowOf wp_region_quiet_below Calls.below_of same_world)

theorem rcoord_any (n : Int) (w : World) : Calls Try.prog 41 #[.int .i64 n] w fun e w' => e = .returned (.bool (coordB n)) ∧ w' = w := by
  unfold coordB
  go_enter Try.func41, Try.ntmps41
  go_wp2
  all_goals go_ret
  all_goals exact ⟨ret_bool (by (try simp_all); try omega), rfl⟩
theorem rsquare_any (a b : Int) (h1 : -2097152 ≤ a - b) (h2 : a - b ≤ 2097152) (w : World) : Calls Try.prog 32 #[.int .i64 a, .int .i64 b] w fun e w' => e = .returned (.int .i64 ((a - b) * (a - b))) ∧ w' = w := by
  have q1 : IntKind.i64.wrap (a - b) = a - b := by rw [IntKind.wrap_i64]; omega
  have q2 : IntKind.i64.wrap ((a - b) * (a - b)) = (a - b) * (a - b) := by
    have := mul_self_pos (a - b)
    have := mul_self_le (d := a - b) (B := 2097152) (by omega) h2
    rw [IntKind.wrap_i64]; omega
  go_enter Try.func32, Try.ntmps32
  go_wp2
  go_ret
  exact ⟨rfl, rfl⟩
set_option maxHeartbeats 4000000 in
theorem rfar_any (r1 x1 y1 k1 r2 x2 y2 k2 : Int) (w : World) :
    Calls Try.prog 31 #[seatV r1 x1 y1 k1, seatV r2 x2 y2 k2] w fun e w' => e = .returned (.int .i64 (farI x1 y1 x2 y2)) ∧ Below w.heap.size w w' := by
  have hb : Below w.heap.size w ((w.alloc (.cells #[.int .i64 r1, .int .i64 x1, .int .i64 y1, .int .i64 k1] 44)).alloc (.cells #[.int .i64 r2, .int .i64 x2, .int .i64 y2, .int .i64 k2] 44)) := ((Below.refl _ w).alloc (Nat.le_refl _) _).alloc (by simp) _
  have i1 := (Box.fresh w 44 #[.int .i64 r1, .int .i64 x1, .int .i64 y1, .int .i64 k1]).next (below_alloc _ (.cells #[.int .i64 r2, .int .i64 x2, .int .i64 y2, .int .i64 k2] 44))
  have i2 := Box.fresh (w.alloc (.cells #[.int .i64 r1, .int .i64 x1, .int .i64 y1, .int .i64 k1] 44)) 44 #[.int .i64 r2, .int .i64 x2, .int .i64 y2, .int .i64 k2]
  rw [World.size_alloc] at i2
  have c1 := rcoord_any x1
  have c2 := rcoord_any y1
  have c3 := rcoord_any x2
  have c4 := rcoord_any y2
  have hsq : coordB x1 = true → coordB x2 = true → ∀ w, Calls Try.prog 32 #[.int .i64 x1, .int .i64 x2] w fun e w' => e = .returned (.int .i64 ((x1 - x2) * (x1 - x2))) ∧ w' = w := fun h h' w => by
    have := sq_part h h'
    exact rsquare_any x1 x2 (by omega) (by omega) w
  have hsr : coordB y1 = true → coordB y2 = true → ∀ w, Calls Try.prog 32 #[.int .i64 y1, .int .i64 y2] w fun e w' => e = .returned (.int .i64 ((y1 - y2) * (y1 - y2))) ∧ w' = w := fun h h' w => by
    have := sq_part h h'
    exact rsquare_any y1 y2 (by omega) (by omega) w
  have hwr : coordB x1 = true → coordB y1 = true → coordB x2 = true → coordB y2 = true → IntKind.i64.wrap ((x1 - x2) * (x1 - x2) + (y1 - y2) * (y1 - y2)) = (x1 - x2) * (x1 - x2) + (y1 - y2) * (y1 - y2) := fun h1 h2 h3 h4 => (sq_wraps h1 h2 h3 h4).2.2.2.2
  unfold farI sqI standsB
  generalize (x1 - x2) * (x1 - x2) = P at *
  generalize (y1 - y2) * (y1 - y2) = Q at *
  generalize coordB x1 = b1 at *
  generalize coordB y1 = b2 at *
  generalize coordB x2 = b3 at *
  generalize coordB y2 = b4 at *
  cases b1 with
  | false =>
    clear hsq hsr hwr
    go_enter Try.func31, Try.ntmps31
    go_wp2_with fail
    refine (c1 _).mono ?_
    rintro e w' ⟨rfl, rfl⟩
    go_wp2
    go_ret
    exact ⟨rfl, hb⟩
  | true =>
    cases b2 with
    | false =>
      clear hsq hsr hwr
      go_enter Try.func31, Try.ntmps31
      go_wp2_with fail
      refine (c1 _).mono ?_
      rintro e w' ⟨rfl, rfl⟩
      go_wp2_with fail
      refine (c2 _).mono ?_
      rintro e w' ⟨rfl, rfl⟩
      go_wp2
      go_ret
      exact ⟨rfl, hb⟩
    | true =>
      cases b3 with
      | false =>
        clear hsq hsr hwr
        go_enter Try.func31, Try.ntmps31
        go_wp2_with fail
        refine (c1 _).mono ?_
        rintro e w' ⟨rfl, rfl⟩
        go_wp2_with fail
        refine (c2 _).mono ?_
        rintro e w' ⟨rfl, rfl⟩
        go_wp2_with fail
        refine (c3 _).mono ?_
        rintro e w' ⟨rfl, rfl⟩
        go_wp2
        go_ret
        exact ⟨rfl, hb⟩
      | true =>
        cases b4 with
        | false =>
          clear hsq hsr hwr
          go_enter Try.func31, Try.ntmps31
          go_wp2_with fail
          refine (c1 _).mono ?_
          rintro e w' ⟨rfl, rfl⟩
          go_wp2_with fail
          refine (c2 _).mono ?_
          rintro e w' ⟨rfl, rfl⟩
          go_wp2_with fail
          refine (c3 _).mono ?_
          rintro e w' ⟨rfl, rfl⟩
          go_wp2_with fail
          refine (c4 _).mono ?_
          rintro e w' ⟨rfl, rfl⟩
          go_wp2
          go_ret
          exact ⟨rfl, hb⟩
        | true =>
          have hsq' := hsq rfl rfl
          have hsr' := hsr rfl rfl
          have hw' := hwr rfl rfl rfl rfl
          clear hsq hsr hwr
          go_enter Try.func31, Try.ntmps31
          go_wp2_with fail
          refine (c1 _).mono ?_
          rintro e w' ⟨rfl, rfl⟩
          go_wp2_with fail
          refine (c2 _).mono ?_
          rintro e w' ⟨rfl, rfl⟩
          go_wp2_with fail
          refine (c3 _).mono ?_
          rintro e w' ⟨rfl, rfl⟩
          go_wp2_with fail
          refine (c4 _).mono ?_
          rintro e w' ⟨rfl, rfl⟩
          go_wp2_with fail
          generalize (w.alloc (.cells #[.int .i64 r1, .int .i64 x1, .int .i64 y1, .int .i64 k1] 44)).alloc (.cells #[.int .i64 r2, .int .i64 x2, .int .i64 y2, .int .i64 k2] 44) = W at *
          have hne : Nonempty (BelowOf W) := ⟨⟨W, Below.refl _ W⟩⟩
          have d1 := fun p : BelowOf W => (i1.next p.h).cell 1 _ rfl
          have d2 := fun p : BelowOf W => (i1.next p.h).cell 2 _ rfl
          have e1 := fun p : BelowOf W => (i2.next p.h).cell 1 _ rfl
          have e2 := fun p : BelowOf W => (i2.next p.h).cell 2 _ rfl
          have l1 := fun p : BelowOf W => (i1.next p.h).lt
          have l2 := fun p : BelowOf W => (i2.next p.h).lt
          refine wp_region_quiet_below mixed (by kernel_rfl) ?_
          repeat (go_big_quiet_step ((first | (go_at_call_of 32 (Value.int IntKind.i64 x1); exact Calls.below_of (same_world (hsq' _))) | (go_at_call_of 32 (Value.int IntKind.i64 y1); exact Calls.below_of (same_world (hsr' _))))))
          refine wpQuiet_nil ?_
          intro _ hw''
          obtain ⟨p, hw3⟩ := hw''
          subst hw3
          go_wp2
          go_ret
          exact ⟨rfl, hb.trans (p.h.mono hb.size)⟩
end Go.Proofs.Ytbmmjbklfheghaa.Geo
