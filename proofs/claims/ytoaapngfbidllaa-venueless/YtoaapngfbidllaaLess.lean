/- VenueLess: its walk. -/
import Derived.Test.YtoaapngfbidllaaTold
namespace Go.Proofs.Ytoaapngfbidllaa
set_option linter.unusedVariables false
open Go.RowKit Go.Shelf

theorem lessB_any (r1 x1 y1 k1 r2 x2 y2 k2 : Int) (b : Bool) (hb : ltS ⟨r1, x1, y1, k1⟩ ⟨r2, x2, y2, k2⟩ = b) (w : World) :
    Calls Try.prog 19 #[seatV r1 x1 y1 k1, seatV r2 x2 y2 k2] w fun e w' => e = .returned (.bool b) ∧ Below w.heap.size w w' := by
  subst hb; exact (less_any r1 x1 y1 k1 r2 x2 y2 k2 w).mono fun e w' ⟨he, hg⟩ => ⟨he, hg.below⟩
theorem ltS_eq (r1 x1 y1 k1 r2 x2 y2 k2 : Int) (b : Bool) (h : (r1 < r2 ∨ r1 = r2 ∧ x1 < x2) ↔ b = true) : ltS ⟨r1, x1, y1, k1⟩ ⟨r2, x2, y2, k2⟩ = b := by
  cases b with
  | true => rw [ltS_iff]; exact h.2 rfl
  | false =>
    cases hc : ltS ⟨r1, x1, y1, k1⟩ ⟨r2, x2, y2, k2⟩ with
    | false => rfl
    | true => rw [ltS_iff] at hc; exact absurd (h.1 hc) (by simp)
set_option maxHeartbeats 2000000 in
theorem venueLess_lt (r1 x1 y1 k1 r2 x2 y2 k2 : Int) (h : r1 < r2) (w : World) :
    Calls Try.prog 4 #[seatV r1 x1 y1 k1, seatV r2 x2 y2 k2] w fun e w' => e = .returned (.bool true) ∧ Below w.heap.size w w' := by
  have h1 : (r1 == r2) = false := by simp; omega
  have h3 : ¬ (r2 ≤ r1) := by omega
  have ha := lessB_any r1 x1 y1 k1 r2 x2 y2 k2 true (ltS_eq _ _ _ _ _ _ _ _ _ (by simp; try omega))
  have hb := lessB_any r2 x2 y2 k2 r1 x1 y1 k1 false (ltS_eq _ _ _ _ _ _ _ _ _ (by simp; try omega))
  go_enter Try.func4, Try.ntmps4
  go_wp2_with fail
  refine (ha _).mono ?_
  rintro e w1 ⟨rfl, b1⟩
  have p1 : Past w w1 := ((Below.refl _ w).alloc (Nat.le_refl _) _).alloc (by simp) _ |>.trans (b1.mono (by simp; omega))
  have s1 := ((SeatAt.fresh w r1 x1 y1 k1).next (below_alloc _ (.cells #[.int .i64 r2, .int .i64 x2, .int .i64 y2, .int .i64 k2] 34))).next b1
  have t1 := (SeatAt.fresh (w.alloc (.cells #[.int .i64 r1, .int .i64 x1, .int .i64 y1, .int .i64 k1] 34)) r2 x2 y2 k2).next b1
  simp only [World.size_alloc] at t1
  obtain ⟨l1, c0, c1, c2, c3⟩ := s1
  obtain ⟨l2, d0, d1, d2, d3⟩ := t1
  simp only [Nat.zero_add] at c1 c2 c3 d1 d2 d3
  go_wp2_with fail
  refine (hb _).mono ?_
  rintro e w2 ⟨rfl, b2⟩
  have p2 := p1.next b2
  have s2 := SeatAt.next ⟨l1, c0, c1, c2, c3⟩ b2
  have t2 := SeatAt.next ⟨l2, d0, d1, d2, d3⟩ b2
  clear c0 c1 c2 c3 d0 d1 d2 d3 p1 b1 b2
  go_wp2_with fail
  refine (told_any _).mono ?_
  rintro e w3 ⟨rfl, b3⟩
  have p3 := p2.next b3
  have s3 := s2.next b3
  have t3 := t2.next b3
  clear s2 t2 p2 b3 l1 l2
  obtain ⟨l1, c0, c1, c2, c3⟩ := s3
  obtain ⟨l2, d0, d1, d2, d3⟩ := t3
  simp only [Nat.zero_add] at c1 c2 c3 d1 d2 d3
  go_wp2_with fail
  refine (ha _).mono ?_
  rintro e w4 ⟨rfl, b4⟩
  have p4 := p3.next b4
  go_wp2
  go_ret
  exact ⟨rfl, p4⟩
set_option maxHeartbeats 2000000 in
theorem venueLess_gt (r1 x1 y1 k1 r2 x2 y2 k2 : Int) (h : r2 < r1) (w : World) :
    Calls Try.prog 4 #[seatV r1 x1 y1 k1, seatV r2 x2 y2 k2] w fun e w' => e = .returned (.bool true) ∧ Below w.heap.size w w' := by
  have h1 : (r1 == r2) = false := by simp; omega
  have h3 : r2 ≤ r1 := by omega
  have ha := lessB_any r1 x1 y1 k1 r2 x2 y2 k2 false (ltS_eq _ _ _ _ _ _ _ _ _ (by simp; try omega))
  have hb := lessB_any r2 x2 y2 k2 r1 x1 y1 k1 true (ltS_eq _ _ _ _ _ _ _ _ _ (by simp; try omega))
  go_enter Try.func4, Try.ntmps4
  go_wp2_with fail
  refine (ha _).mono ?_
  rintro e w1 ⟨rfl, b1⟩
  have p1 : Past w w1 := ((Below.refl _ w).alloc (Nat.le_refl _) _).alloc (by simp) _ |>.trans (b1.mono (by simp; omega))
  have s1 := ((SeatAt.fresh w r1 x1 y1 k1).next (below_alloc _ (.cells #[.int .i64 r2, .int .i64 x2, .int .i64 y2, .int .i64 k2] 34))).next b1
  have t1 := (SeatAt.fresh (w.alloc (.cells #[.int .i64 r1, .int .i64 x1, .int .i64 y1, .int .i64 k1] 34)) r2 x2 y2 k2).next b1
  simp only [World.size_alloc] at t1
  obtain ⟨l1, c0, c1, c2, c3⟩ := s1
  obtain ⟨l2, d0, d1, d2, d3⟩ := t1
  simp only [Nat.zero_add] at c1 c2 c3 d1 d2 d3
  go_wp2_with fail
  refine (hb _).mono ?_
  rintro e w2 ⟨rfl, b2⟩
  have p2 := p1.next b2
  have s2 := SeatAt.next ⟨l1, c0, c1, c2, c3⟩ b2
  have t2 := SeatAt.next ⟨l2, d0, d1, d2, d3⟩ b2
  clear c0 c1 c2 c3 d0 d1 d2 d3 p1 b1 b2
  go_wp2_with fail
  refine (told_any _).mono ?_
  rintro e w3 ⟨rfl, b3⟩
  have p3 := p2.next b3
  have s3 := s2.next b3
  have t3 := t2.next b3
  clear s2 t2 p2 b3 l1 l2
  obtain ⟨l1, c0, c1, c2, c3⟩ := s3
  obtain ⟨l2, d0, d1, d2, d3⟩ := t3
  simp only [Nat.zero_add] at c1 c2 c3 d1 d2 d3
  go_wp2
  go_ret
  exact ⟨rfl, p3⟩
set_option maxHeartbeats 2000000 in
theorem venueLess_xl (r1 x1 y1 k1 r2 x2 y2 k2 : Int) (hr : r1 = r2) (h : x1 < x2) (w : World) :
    Calls Try.prog 4 #[seatV r1 x1 y1 k1, seatV r2 x2 y2 k2] w fun e w' => e = .returned (.bool true) ∧ Below w.heap.size w w' := by
  subst hr
  have h2 : (x1 == x2) = false := by simp; omega
  have h3 : r1 ≤ r1 := Int.le_refl _
  have ha := lessB_any r1 x1 y1 k1 r1 x2 y2 k2 true (ltS_eq _ _ _ _ _ _ _ _ _ (by simp; try omega))
  have hb := lessB_any r1 x2 y2 k2 r1 x1 y1 k1 false (ltS_eq _ _ _ _ _ _ _ _ _ (by simp; try omega))
  go_enter Try.func4, Try.ntmps4
  go_wp2_with fail
  refine (ha _).mono ?_
  rintro e w1 ⟨rfl, b1⟩
  have p1 : Past w w1 := ((Below.refl _ w).alloc (Nat.le_refl _) _).alloc (by simp) _ |>.trans (b1.mono (by simp; omega))
  have s1 := ((SeatAt.fresh w r1 x1 y1 k1).next (below_alloc _ (.cells #[.int .i64 r1, .int .i64 x2, .int .i64 y2, .int .i64 k2] 34))).next b1
  have t1 := (SeatAt.fresh (w.alloc (.cells #[.int .i64 r1, .int .i64 x1, .int .i64 y1, .int .i64 k1] 34)) r1 x2 y2 k2).next b1
  simp only [World.size_alloc] at t1
  obtain ⟨l1, c0, c1, c2, c3⟩ := s1
  obtain ⟨l2, d0, d1, d2, d3⟩ := t1
  simp only [Nat.zero_add] at c1 c2 c3 d1 d2 d3
  go_wp2_with fail
  refine (hb _).mono ?_
  rintro e w2 ⟨rfl, b2⟩
  have p2 := p1.next b2
  have s2 := SeatAt.next ⟨l1, c0, c1, c2, c3⟩ b2
  have t2 := SeatAt.next ⟨l2, d0, d1, d2, d3⟩ b2
  clear c0 c1 c2 c3 d0 d1 d2 d3 p1 b1 b2
  go_wp2_with fail
  refine (told_any _).mono ?_
  rintro e w3 ⟨rfl, b3⟩
  have p3 := p2.next b3
  have s3 := s2.next b3
  have t3 := t2.next b3
  clear s2 t2 p2 b3 l1 l2
  obtain ⟨l1, c0, c1, c2, c3⟩ := s3
  obtain ⟨l2, d0, d1, d2, d3⟩ := t3
  simp only [Nat.zero_add] at c1 c2 c3 d1 d2 d3
  go_wp2
  go_ret
  exact ⟨rfl, p3⟩
set_option maxHeartbeats 2000000 in
theorem venueLess_xg (r1 x1 y1 k1 r2 x2 y2 k2 : Int) (hr : r1 = r2) (h : x2 < x1) (w : World) :
    Calls Try.prog 4 #[seatV r1 x1 y1 k1, seatV r2 x2 y2 k2] w fun e w' => e = .returned (.bool true) ∧ Below w.heap.size w w' := by
  subst hr
  have h2 : (x1 == x2) = false := by simp; omega
  have h3 : r1 ≤ r1 := Int.le_refl _
  have ha := lessB_any r1 x1 y1 k1 r1 x2 y2 k2 false (ltS_eq _ _ _ _ _ _ _ _ _ (by simp; try omega))
  have hb := lessB_any r1 x2 y2 k2 r1 x1 y1 k1 true (ltS_eq _ _ _ _ _ _ _ _ _ (by simp; try omega))
  go_enter Try.func4, Try.ntmps4
  go_wp2_with fail
  refine (ha _).mono ?_
  rintro e w1 ⟨rfl, b1⟩
  have p1 : Past w w1 := ((Below.refl _ w).alloc (Nat.le_refl _) _).alloc (by simp) _ |>.trans (b1.mono (by simp; omega))
  have s1 := ((SeatAt.fresh w r1 x1 y1 k1).next (below_alloc _ (.cells #[.int .i64 r1, .int .i64 x2, .int .i64 y2, .int .i64 k2] 34))).next b1
  have t1 := (SeatAt.fresh (w.alloc (.cells #[.int .i64 r1, .int .i64 x1, .int .i64 y1, .int .i64 k1] 34)) r1 x2 y2 k2).next b1
  simp only [World.size_alloc] at t1
  obtain ⟨l1, c0, c1, c2, c3⟩ := s1
  obtain ⟨l2, d0, d1, d2, d3⟩ := t1
  simp only [Nat.zero_add] at c1 c2 c3 d1 d2 d3
  go_wp2_with fail
  refine (hb _).mono ?_
  rintro e w2 ⟨rfl, b2⟩
  have p2 := p1.next b2
  have s2 := SeatAt.next ⟨l1, c0, c1, c2, c3⟩ b2
  have t2 := SeatAt.next ⟨l2, d0, d1, d2, d3⟩ b2
  clear c0 c1 c2 c3 d0 d1 d2 d3 p1 b1 b2
  go_wp2_with fail
  refine (told_any _).mono ?_
  rintro e w3 ⟨rfl, b3⟩
  have p3 := p2.next b3
  have s3 := s2.next b3
  have t3 := t2.next b3
  clear s2 t2 p2 b3 l1 l2
  obtain ⟨l1, c0, c1, c2, c3⟩ := s3
  obtain ⟨l2, d0, d1, d2, d3⟩ := t3
  simp only [Nat.zero_add] at c1 c2 c3 d1 d2 d3
  go_wp2
  go_ret
  exact ⟨rfl, p3⟩
set_option maxHeartbeats 2000000 in
theorem venueLess_eq (r1 x1 y1 k1 r2 x2 y2 k2 : Int) (hr : r1 = r2) (hx : x1 = x2) (w : World) :
    Calls Try.prog 4 #[seatV r1 x1 y1 k1, seatV r2 x2 y2 k2] w fun e w' => e = .returned (.bool true) ∧ Below w.heap.size w w' := by
  subst hr
  subst hx
  have h3 : r1 ≤ r1 := Int.le_refl _
  have ha := lessB_any r1 x1 y1 k1 r1 x1 y2 k2 false (ltS_eq _ _ _ _ _ _ _ _ _ (by simp; try omega))
  have hb := lessB_any r1 x1 y2 k2 r1 x1 y1 k1 false (ltS_eq _ _ _ _ _ _ _ _ _ (by simp; try omega))
  go_enter Try.func4, Try.ntmps4
  go_wp2_with fail
  refine (ha _).mono ?_
  rintro e w1 ⟨rfl, b1⟩
  have p1 : Past w w1 := ((Below.refl _ w).alloc (Nat.le_refl _) _).alloc (by simp) _ |>.trans (b1.mono (by simp; omega))
  have s1 := ((SeatAt.fresh w r1 x1 y1 k1).next (below_alloc _ (.cells #[.int .i64 r1, .int .i64 x1, .int .i64 y2, .int .i64 k2] 34))).next b1
  have t1 := (SeatAt.fresh (w.alloc (.cells #[.int .i64 r1, .int .i64 x1, .int .i64 y1, .int .i64 k1] 34)) r1 x1 y2 k2).next b1
  simp only [World.size_alloc] at t1
  obtain ⟨l1, c0, c1, c2, c3⟩ := s1
  obtain ⟨l2, d0, d1, d2, d3⟩ := t1
  simp only [Nat.zero_add] at c1 c2 c3 d1 d2 d3
  go_wp2_with fail
  refine (hb _).mono ?_
  rintro e w2 ⟨rfl, b2⟩
  have p2 := p1.next b2
  have s2 := SeatAt.next ⟨l1, c0, c1, c2, c3⟩ b2
  have t2 := SeatAt.next ⟨l2, d0, d1, d2, d3⟩ b2
  clear c0 c1 c2 c3 d0 d1 d2 d3 p1 b1 b2
  go_wp2_with fail
  refine (told_any _).mono ?_
  rintro e w3 ⟨rfl, b3⟩
  have p3 := p2.next b3
  have s3 := s2.next b3
  have t3 := t2.next b3
  clear s2 t2 p2 b3 l1 l2
  obtain ⟨l1, c0, c1, c2, c3⟩ := s3
  obtain ⟨l2, d0, d1, d2, d3⟩ := t3
  simp only [Nat.zero_add] at c1 c2 c3 d1 d2 d3
  go_wp2
  go_ret
  exact ⟨rfl, p3⟩
theorem venueLess_law (r1 x1 y1 k1 r2 x2 y2 k2 : Int) (w : World) :
    Calls Try.prog 4 #[seatV r1 x1 y1 k1, seatV r2 x2 y2 k2] w fun e w' => e = .returned (.bool true) ∧ Below w.heap.size w w' := by
  rcases Int.lt_trichotomy r1 r2 with h | h | h
  · exact venueLess_lt _ _ _ _ _ _ _ _ h w
  · rcases Int.lt_trichotomy x1 x2 with h' | h' | h'
    · exact venueLess_xl _ _ _ _ _ _ _ _ h h' w
    · exact venueLess_eq _ _ _ _ _ _ _ _ h h' w
    · exact venueLess_xg _ _ _ _ _ _ _ _ h h' w
  · exact venueLess_gt _ _ _ _ _ _ _ _ h w
end Go.Proofs.Ytoaapngfbidllaa
