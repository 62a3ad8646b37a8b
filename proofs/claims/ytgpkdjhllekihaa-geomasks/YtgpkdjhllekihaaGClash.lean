/- geom.nearer, geom.isSeat, geom.clash by contracts. -/
import Derived.Test.YtgpkdjhllekihaaGLeaf
namespace Go.Proofs.Ytgpkdjhllekihaa.Geo
set_option linter.unusedVariables false
set_option maxRecDepth 100000
open Go.RowKit Go.Shelf
open Go.Proofs.Ytgpkdjhllekihaa.Ven (Seat Pole Ven VenAt venV seatV seatC Box mayB mixed SeatAt Cells below_alloc coordB standsB ret_bool ret_int BelowOf wp_region_quiet_below Calls.below_of)

theorem hid' {p : Prop} (h : p) : Hid p := h
theorem stands_iff {x y : Int} : standsB x y = true ↔ coordB x = true ∧ coordB y = true := by unfold standsB; simp
set_option maxHeartbeats 1000000 in
theorem nearer_any (s t : Seat) (r : Int) (hs : standsB s.x s.y = true) (ht : standsB t.x t.y = true) (h0 : 0 ≤ r) (h1 : r ≤ 1048576) (w : World) :
    Calls Try.prog 31 #[seatV s.row s.x s.y s.kind, seatV t.row t.x t.y t.kind, .int .i64 r] w fun e w' => e = .returned (.bool (nearS s t r)) ∧ Below w.heap.size w w' := by
  obtain ⟨r1, x1, y1, k1⟩ := s
  obtain ⟨r2, x2, y2, k2⟩ := t
  simp only [stands_iff] at hs ht
  have hsq := square_any r1 x1 y1 k1 r2 x2 y2 k2 hs.1 hs.2 ht.1 ht.2
  have hw : IntKind.i64.wrap (r * r) = r * r := by
    have := mul_self_pos r
    have := mul_self_le (d := r) (B := 1048576) (by omega) h1
    rw [IntKind.wrap_i64]; omega
  unfold nearS
  simp only
  clear hs ht h0 h1
  generalize sqI x1 y1 x2 y2 = z at hsq ⊢
  have hb : Below w.heap.size w ((w.alloc (.cells #[.int .i64 r1, .int .i64 x1, .int .i64 y1, .int .i64 k1] 28)).alloc (.cells #[.int .i64 r2, .int .i64 x2, .int .i64 y2, .int .i64 k2] 28)) := ((Below.refl _ w).alloc (Nat.le_refl _) _).alloc (by simp) _
  go_enter Try.func31, Try.ntmps31
  go_wp2_with fail
  refine (hsq _).mono ?_
  rintro e w1 ⟨rfl, hb1⟩
  have HB := hid' (hb.trans (hb1.mono hb.size))
  clear hb hb1 hsq
  go_wp2
  go_ret
  exact ⟨rfl, HB.out⟩
theorem isSeat_any (a1 a2 a3 : Option Addr) (n1 c1 n2 c2 n3 c3 : Nat) (gap rad k : Int) (w : World) :
    Calls Try.prog 24 #[venV a1 n1 c1 gap rad a2 n2 c2 a3 n3 c3, .int .i64 k] w fun e w' => e = .returned (.bool (decide (0 ≤ k ∧ k < (n1 : Int)))) ∧ Below w.heap.size w w' := by
  have hb := below_alloc w (.cells #[.slice a1 n1 c1, .int .i64 gap, .int .i64 rad, .slice a2 n2 c2, .slice a3 n3 c3] 26)
  by_cases h : 0 ≤ k
  · go_enter Try.func24, Try.ntmps24
    go_wp2
    go_ret
    exact ⟨ret_bool (by simp [h]), hb⟩
  · go_enter Try.func24, Try.ntmps24
    go_wp2
    go_ret
    exact ⟨ret_bool (by simp; omega), hb⟩
/-- All seats stand where they may. -/
def AllStand (l : List Seat) : Prop := ∀ i, (h : i < l.length) → standsB l[i].x l[i].y = true
set_option maxHeartbeats 4000000 in
theorem clash_any (a1 a2 a3 : Option Addr) (n1 c1 n2 c2 n3 c3 : Nat) (V : Ven) (i j : Nat) (hi : i < V.seats.length) (hj : j < V.seats.length) (hst : AllStand V.seats) (h0 : 0 ≤ V.radius) (h1 : V.radius ≤ 1048576) (w : World) (h : VenAt w a1 n1 c1 a2 n2 c2 a3 n3 c3 V) :
    Calls Try.prog 26 #[venV a1 n1 c1 V.gap V.radius a2 n2 c2 a3 n3 c3, .int .i64 i, .int .i64 j] w fun e w' => e = .returned (.bool (clashL V.seats V.radius i j)) ∧ Below w.heap.size w w' := by
  have hb := below_alloc w (.cells #[.slice a1 n1 c1, .int .i64 V.gap, .int .i64 V.radius, .slice a2 n2 c2, .slice a3 n3 c3] 26)
  have hx := Box.fresh w 26 #[.slice a1 n1 c1, .int .i64 V.gap, .int .i64 V.radius, .slice a2 n2 c2, .slice a3 n3 c3]
  have hn := h.s.len
  subst hn
  obtain ⟨b, off, rfl, hC0⟩ := Ven.cells_of_pos h.s hi
  have si := ((hC0.next hb).seat i hi)
  have sj := ((hC0.next hb).seat j hj)
  have hnr := nearer_any V.seats[i] V.seats[j] V.radius (hst i hi) (hst j hj) h0 h1
  unfold clashL
  rw [getElem!_pos V.seats i hi, getElem!_pos V.seats j hj]
  have hiz : (i : Int) < (V.seats.length : Int) := by omega
  have hjz : (j : Int) < (V.seats.length : Int) := by omega
  clear h hC0 hst h0 h1
  generalize V.radius = rad at hx hb hnr si sj ⊢
  generalize V.gap = gap at hx hb si sj ⊢
  generalize nearS V.seats[i] V.seats[j] rad = ans at hnr ⊢
  generalize V.seats[i] = s at hnr si
  generalize V.seats[j] = t at hnr sj
  obtain ⟨r1, x1, y1, k1⟩ := s
  obtain ⟨r2, x2, y2, k2⟩ := t
  simp only at hnr si sj
  generalize V.seats.length = n at *
  by_cases hij : i = j
  · subst hij
    have hnz : ((i : Int) != (i : Int)) = false := by simp
    rw [decide_eq_false (by simp)]
    go_enter Try.func26, Try.ntmps26
    go_wp2_with fail
    generalize w.alloc (.cells #[.slice (some ⟨b, off, none⟩) n c1, .int .i64 gap, .int .i64 rad, .slice a2 n2 c2, .slice a3 n3 c3] 26) = W at *
    have hne : Nonempty (BelowOf W) := ⟨⟨W, Below.refl _ W⟩⟩
    refine wp_region_quiet_below mixed (by kernel_rfl) ?_
    repeat (go_big_quiet_step (fail))
    refine wpQuiet_nil ?_
    intro _ hw'
    obtain ⟨p, hw''⟩ := hw'
    subst hw''
    go_wp2
    go_ret
    exact ⟨rfl, hb.trans (p.h.mono hb.size)⟩
  · have hnz : ((i : Int) != (j : Int)) = true := by simp; omega
    rw [decide_eq_true hij]
    go_enter Try.func26, Try.ntmps26
    go_wp2_with fail
    generalize w.alloc (.cells #[.slice (some ⟨b, off, none⟩) n c1, .int .i64 gap, .int .i64 rad, .slice a2 n2 c2, .slice a3 n3 c3] 26) = W at *
    generalize w.heap.size = B at hx ⊢
    have hne : Nonempty (BelowOf W) := ⟨⟨W, Below.refl _ W⟩⟩
    have v0 := fun p : BelowOf W => (hx.next p.h).cell 0 _ rfl
    have v2 := fun p : BelowOf W => (hx.next p.h).cell 2 _ rfl
    have vl := fun p : BelowOf W => (hx.next p.h).lt
    have d0 := fun p : BelowOf W => (si.next p.h).c0
    have d1 := fun p : BelowOf W => (si.next p.h).c1
    have d2 := fun p : BelowOf W => (si.next p.h).c2
    have d3 := fun p : BelowOf W => (si.next p.h).c3
    have e0 := fun p : BelowOf W => (sj.next p.h).c0
    have e1 := fun p : BelowOf W => (sj.next p.h).c1
    have e2 := fun p : BelowOf W => (sj.next p.h).c2
    have e3 := fun p : BelowOf W => (sj.next p.h).c3
    refine wp_region_quiet_below mixed (by kernel_rfl) ?_
    repeat (go_big_quiet_step ((go_at_call 31; exact Calls.below_of (hnr _))))
    refine wpQuiet_nil ?_
    intro _ hw'
    obtain ⟨p, hw''⟩ := hw'
    subst hw''
    go_wp2
    go_ret
    exact ⟨rfl, hb.trans (p.h.mono hb.size)⟩
end Go.Proofs.Ytgpkdjhllekihaa.Geo
