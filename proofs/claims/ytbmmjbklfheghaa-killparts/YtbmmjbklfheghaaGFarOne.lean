/- geom.Far by its contract. -/
import Derived.Test.YtbmmjbklfheghaaGNearer
namespace Go.Proofs.Ytbmmjbklfheghaa.Geo
set_option linter.unusedVariables false
set_option maxRecDepth 100000
open Go.RowKit Go.Shelf
open Go.Proofs.Ytbmmjbklfheghaa.Ven (Seat Pole Ven VenAt venV seatV seatC intC Box mayB mixed SeatAt Cells below_alloc coordB standsB seatB seatsB_iff distB ret_bool ret_int BelowOf info3 row_next row_slice may_any)

set_option maxHeartbeats 1000000 in
theorem far_any (r1 x1 y1 k1 r2 x2 y2 k2 : Int) (w : World) :
    Calls Try.prog 48 #[seatV r1 x1 y1 k1, seatV r2 x2 y2 k2] w fun e w' => e = .returned (.int .i64 (farI x1 y1 x2 y2)) ∧ Below w.heap.size w w' := by
  have hb : Below w.heap.size w ((w.alloc (.cells #[.int .i64 r1, .int .i64 x1, .int .i64 y1, .int .i64 k1] 44)).alloc (.cells #[.int .i64 r2, .int .i64 x2, .int .i64 y2, .int .i64 k2] 44)) := ((Below.refl _ w).alloc (Nat.le_refl _) _).alloc (by simp) _
  have hs1 := stands_any x1 y1
  have hs2 := stands_any x2 y2
  have hsq := fun (h1 : standsB x1 y1 = true) (h2 : standsB x2 y2 = true) => square_any r1 x1 y1 k1 r2 x2 y2 k2 (stands_iff.1 h1).1 (stands_iff.1 h1).2 (stands_iff.1 h2).1 (stands_iff.1 h2).2
  unfold farI
  generalize sqI x1 y1 x2 y2 = z at hsq ⊢
  generalize standsB x1 y1 = p at hs1 hsq ⊢
  generalize standsB x2 y2 = q at hs2 hsq ⊢
  cases p with
  | false =>
    clear hsq hs2
    go_enter Try.func48, Try.ntmps48
    go_wp2_with fail
    refine (hs1 _).mono ?_
    rintro e w' ⟨rfl, rfl⟩
    go_wp2
    go_ret
    exact ⟨rfl, hb⟩
  | true =>
    cases q with
    | false =>
      clear hsq
      go_enter Try.func48, Try.ntmps48
      go_wp2_with fail
      refine (hs1 _).mono ?_
      rintro e w' ⟨rfl, rfl⟩
      go_wp2_with fail
      refine (hs2 _).mono ?_
      rintro e w' ⟨rfl, rfl⟩
      go_wp2
      go_ret
      exact ⟨rfl, hb⟩
    | true =>
      have hsq' := hsq rfl rfl
      clear hsq
      go_enter Try.func48, Try.ntmps48
      go_wp2_with fail
      refine (hs1 _).mono ?_
      rintro e w' ⟨rfl, rfl⟩
      go_wp2_with fail
      refine (hs2 _).mono ?_
      rintro e w' ⟨rfl, rfl⟩
      go_wp2_with fail
      refine (hsq' _).mono ?_
      rintro e w' ⟨rfl, hb2⟩
      have HB := hid' (hb.trans (hb2.mono hb.size))
      clear hb hb2
      go_wp2
      go_ret
      exact ⟨rfl, HB.out⟩
end Go.Proofs.Ytbmmjbklfheghaa.Geo
