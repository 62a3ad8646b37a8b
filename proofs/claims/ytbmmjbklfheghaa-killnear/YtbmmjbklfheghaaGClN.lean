/- geom.Near's closure. -/
import Derived.Test.YtbmmjbklfheghaaGNearer
namespace Go.Proofs.Ytbmmjbklfheghaa.Geo
set_option linter.unusedVariables false
set_option maxRecDepth 100000
open Go.RowKit Go.Shelf
open Go.Proofs.Ytbmmjbklfheghaa.Ven (Seat Pole Ven VenAt venV seatV seatC Box mayB mixed SeatAt Cells below_alloc coordB standsB ret_bool ret_int BelowOf wp_region_quiet_below Calls.below_of)

set_option maxHeartbeats 2000000 in
theorem nearCl_any (a2 a3 : Option Addr) (b off c1 n2 c2 n3 c3 : Nat) (l : List Seat) (gap rad : Int) (i : Nat) (hi : i < l.length) (x y r : Int) (hst : AllStand l) (ht : standsB x y = true) (h0 : 0 ≤ r) (h1 : r ≤ 1048576) (B1 B2 B3 : Nat) (w : World)
    (hx : Box w B1 26 #[.slice (some ⟨b, off, none⟩) l.length c1, .int .i64 gap, .int .i64 rad, .slice a2 n2 c2, .slice a3 n3 c3]) (hC : Cells 4 seatC w b off l)
    (hs : Box w B2 44 #[.int .i64 0, .int .i64 x, .int .i64 y, .int .i64 0]) (hr : Box w B3 3 #[.int .i64 r]) :
    Calls Try.prog 28 #[.int .i64 i, .pointer (some ⟨B1, 0, none⟩), .pointer (some ⟨B2, 0, none⟩), .pointer (some ⟨B3, 0, none⟩)] w fun e w' => e = .returned (.bool (nearS l[i] ⟨0, x, y, 0⟩ r)) ∧ Below w.heap.size w w' := by
  have si := hC.seat i hi
  have hnr := nearer_any l[i] ⟨0, x, y, 0⟩ r (hst i hi) ht h0 h1
  have hiz : (i : Int) < (l.length : Int) := by omega
  clear hC hst h0 h1 ht
  generalize nearS l[i] ⟨0, x, y, 0⟩ r = ans at hnr ⊢
  generalize l[i] = s at hnr si
  obtain ⟨r1, x1, y1, k1⟩ := s
  simp only at hnr si
  generalize l.length = n at *
  have hne : Nonempty (BelowOf w) := ⟨⟨w, Below.refl _ w⟩⟩
  have v0 := fun p : BelowOf w => (hx.next p.h).cell 0 _ rfl
  have t0 := fun p : BelowOf w => (hs.next p.h).cell 0 _ rfl
  have t1 := fun p : BelowOf w => (hs.next p.h).cell 1 _ rfl
  have t2 := fun p : BelowOf w => (hs.next p.h).cell 2 _ rfl
  have t3 := fun p : BelowOf w => (hs.next p.h).cell 3 _ rfl
  have u0 := fun p : BelowOf w => (hr.next p.h).cell 0 _ rfl
  have d0 := fun p : BelowOf w => (si.next p.h).c0
  have d1 := fun p : BelowOf w => (si.next p.h).c1
  have d2 := fun p : BelowOf w => (si.next p.h).c2
  have d3 := fun p : BelowOf w => (si.next p.h).c3
  go_enter Try.func28, Try.ntmps28
  go_wp2_with fail
  refine wp_region_quiet_below mixed (by kernel_rfl) ?_
  repeat (go_big_quiet_step ((go_at_call 29; exact Calls.below_of (hnr _))))
  refine wpQuiet_nil ?_
  intro _ hw'
  obtain ⟨p, hw''⟩ := hw'
  subst hw''
  go_wp2
  go_ret
  exact ⟨rfl, p.h⟩
end Go.Proofs.Ytbmmjbklfheghaa.Geo
