/- geom.nearer by its contract. -/
import Derived.Test.YtbmmjbklfheghaaGLeaf
namespace Go.Proofs.Ytbmmjbklfheghaa.Geo
set_option linter.unusedVariables false
set_option maxRecDepth 100000
open Go.RowKit Go.Shelf
open Go.Proofs.Ytbmmjbklfheghaa.Ven (Seat Pole Ven VenAt venV seatV seatC Box mayB mixed SeatAt Cells below_alloc coordB standsB ret_bool ret_int BelowOf wp_region_quiet_below Calls.below_of)

theorem hid' {p : Prop} (h : p) : Hid p := h
theorem stands_iff {x y : Int} : standsB x y = true ↔ coordB x = true ∧ coordB y = true := by unfold standsB; simp
set_option maxHeartbeats 1000000 in
theorem nearer_any (s t : Seat) (r : Int) (hs : standsB s.x s.y = true) (ht : standsB t.x t.y = true) (h0 : 0 ≤ r) (h1 : r ≤ 1048576) (w : World) :
    Calls Try.prog 29 #[seatV s.row s.x s.y s.kind, seatV t.row t.x t.y t.kind, .int .i64 r] w fun e w' => e = .returned (.bool (nearS s t r)) ∧ Below w.heap.size w w' := by
  obtain ⟨r1, x1, y1, k1⟩ := s
  obtain ⟨r2, x2, y2, k2⟩ := t
  simp only [stands_iff] at hs ht
  have hsq := square_any r1 x1 y1 k1 r2 x2 y2 k2 hs.1 hs.2 ht.1 ht.2
  have hw : IntKind.i64.wrap (r * r) = r * r := by
    have := mul_self_pos r
    have := mul_self_le (d := r) (B := 1048576) (by omega) h1
    rw [IntKind.wrap_i64]; omega
  unfold nearS
  simp only
  clear hs ht h0 h1
  generalize sqI x1 y1 x2 y2 = z at hsq ⊢
  have hb : Below w.heap.size w ((w.alloc (.cells #[.int .i64 r1, .int .i64 x1, .int .i64 y1, .int .i64 k1] 44)).alloc (.cells #[.int .i64 r2, .int .i64 x2, .int .i64 y2, .int .i64 k2] 44)) := ((Below.refl _ w).alloc (Nat.le_refl _) _).alloc (by simp) _
  go_enter Try.func29, Try.ntmps29
  go_wp2_with fail
  refine (hsq _).mono ?_
  rintro e w1 ⟨rfl, hb1⟩
  have HB := hid' (hb.trans (hb1.mono hb.size))
  clear hb hb1 hsq
  go_wp2
  go_ret
  exact ⟨rfl, HB.out⟩
/-- All seats stand where they may. -/
def AllStand (l : List Seat) : Prop := ∀ i, (h : i < l.length) → standsB l[i].x l[i].y = true
end Go.Proofs.Ytbmmjbklfheghaa.Geo
