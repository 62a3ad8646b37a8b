/- run.next, run.roleOf by contracts. -/
import Derived.Test.YtdodmbfkcandgaaULeaf
namespace Go.Proofs.Ytdodmbfkcandgaa.Rnn
set_option linter.unusedVariables false
set_option maxRecDepth 100000
open Go.RowKit Go.Shelf
open Go.Proofs.Ytdodmbfkcandgaa.Ven (Seat Pole Ven VenAt venV seatV Box mayB Sl SeatAt below_alloc ret_bool ret_int seatsB_iff)

/-- Of a venue that may be: seats enough, and few; no difference of coordinates turns about. -/
structure Well (V : Ven) : Prop where
  one : 1 ≤ V.seats.length
  few : V.seats.length ≤ 4096
  x : ∀ i (h : i < V.seats.length), -1048576 ≤ V.seats[i].x ∧ V.seats[i].x ≤ 1048576
theorem may_well {V : Ven} (h : mayB V = true) : Well V := by
  have h1 : Ven.seatsB V.seats = true := by
    unfold mayB at h
    simp only [Bool.and_eq_true] at h
    exact h.1.1.1.1
  have h2 := (seatsB_iff _).1 h1
  refine ⟨h2.1, h2.2.1, fun i hi => ?_⟩
  have h3 := h2.2.2.1 V.seats[i] (List.getElem_mem hi)
  unfold Ven.seatB Ven.standsB Ven.coordB at h3
  simp only [Bool.and_eq_true, decide_eq_true_eq] at h3
  omega
set_option maxHeartbeats 4000000 in
theorem next_any (a1 a2 a3 : Option Addr) (n1 c1 n2 c2 n3 c3 : Nat) (V : Ven) (a : Nat) (ha : a + 1 < V.seats.length) (hm : Well V) (w : World) (h : VenAt w a1 n1 c1 a2 n2 c2 a3 n3 c3 V) :
    Calls Try.prog 24 #[venV a1 n1 c1 V.gap V.radius a2 n2 c2 a3 n3 c3, .int .i64 a] w fun e w' => e = .returned (.bool (nextL V.seats V.gap a)) ∧ Below w.heap.size w w' := by
  have hb := below_alloc w (.cells #[.slice a1 n1 c1, .int .i64 V.gap, .int .i64 V.radius, .slice a2 n2 c2, .slice a3 n3 c3] 26)
  have hx := Box.fresh w 26 #[.slice a1 n1 c1, .int .i64 V.gap, .int .i64 V.radius, .slice a2 n2 c2, .slice a3 n3 c3]
  have hn := h.s.len
  subst hn
  obtain ⟨b, off, rfl, hC0⟩ := Ven.cells_of_pos h.s ha
  have s1 := ((hC0.next hb).seat a (by omega))
  have s2 := ((hC0.next hb).seat (a + 1) ha)
  have hx1 := hm.x a (by omega)
  have hx2 := hm.x (a + 1) ha
  have hf := hm.few
  have hiz : (a : Int) < (V.seats.length : Int) := by omega
  have hjz : ((a + 1 : Nat) : Int) < (V.seats.length : Int) := by omega
  have hw1 : IntKind.i64.wrap ((a : Int) + 1) = ((a + 1 : Nat) : Int) := by rw [IntKind.wrap_i64] <;> omega
  have e : nextL V.seats V.gap a = (decide (V.seats[a].row = V.seats[a + 1].row) && decide (V.seats[a + 1].x - V.seats[a].x ≤ V.gap)) := by
    unfold nextL
    rw [getElem!_pos V.seats a (by omega), getElem!_pos V.seats (a + 1) ha, decide_eq_true ha]; rfl
  rw [e]
  clear e hC0 h hm
  generalize V.radius = rad at *
  generalize V.gap = gap at *
  generalize V.seats[a] = s at *
  generalize V.seats[a + 1] = t at *
  obtain ⟨r1, x1, y1, k1⟩ := s
  obtain ⟨r2, x2, y2, k2⟩ := t
  simp only at s1 s2 hx1 hx2 ⊢
  generalize V.seats.length = n at *
  clear ha hf
  generalize a + 1 = j at *
  have hw2 : IntKind.i64.wrap (x2 - x1) = x2 - x1 := by rw [IntKind.wrap_i64] <;> omega
  obtain ⟨l1, d0, d1, d2, d3⟩ := s1
  obtain ⟨l2, e0, e1, e2, e3⟩ := s2
  obtain ⟨v0, v1, v2, v3, v4⟩ := hx.five
  have lx := hx.lt
  clear hx1 hx2 hx
  have HB0 : Hid (∀ X Y, Below w.heap.size w (((w.alloc (.cells #[.slice (some ⟨b, off, none⟩) n c1, .int .i64 gap, .int .i64 rad, .slice a2 n2 c2, .slice a3 n3 c3] 26)).alloc X).alloc Y).drew) := fun X Y => ((hb.alloc hb.size X).alloc (hb.alloc hb.size X).size Y).drew
  clear hb
  by_cases hr : r1 = r2
  · rw [decide_eq_true hr]
    have hrz : (r1 == r2) = true := by simp [hr]
    clear hr
    go_enter Try.func24, Try.ntmps24
    go_wp2_with fail
    generalize w.alloc (.cells #[.slice (some ⟨b, off, none⟩) n c1, .int .i64 gap, .int .i64 rad, .slice a2 n2 c2, .slice a3 n3 c3] 26) = W at *
    generalize hB : w.heap.size = B at *
    go_region
    all_goals
      go_wp2
      go_ret
      exact ⟨rfl, by rw [hB]; exact HB0.out _ _⟩
  · rw [decide_eq_false hr]
    have hrz : (r1 == r2) = false := by simp [hr]
    clear hr
    go_enter Try.func24, Try.ntmps24
    go_wp2_with fail
    generalize w.alloc (.cells #[.slice (some ⟨b, off, none⟩) n c1, .int .i64 gap, .int .i64 rad, .slice a2 n2 c2, .slice a3 n3 c3] 26) = W at *
    generalize hB : w.heap.size = B at *
    go_region
    all_goals
      go_wp2
      go_ret
      exact ⟨rfl, by rw [hB]; exact HB0.out _ _⟩
/-- Which part has a seat in its run: none, head, follower. -/
def roleB (V : Ven) (u : List Bool) (a : Int) : Int := if usB V.seats.length u a = true then (if (usB V.seats.length u (a - 1) && nextL V.seats V.gap (a - 1).toNat) = true then 2 else 1) else 0
set_option maxHeartbeats 4000000 in
theorem role_any (a1 a2 a3 u1 : Option Addr) (n1 c1 n2 c2 n3 c3 un uc : Nat) (V : Ven) (u : List Bool) (a : Int) (hm : Well V) (w : World) (h : VenAt w a1 n1 c1 a2 n2 c2 a3 n3 c3 V) (hu : MarksAt w u1 un uc u) :
    Calls Try.prog 26 #[venV a1 n1 c1 V.gap V.radius a2 n2 c2 a3 n3 c3, .slice u1 un uc, .int .i64 a] w fun e w' => e = .returned (.int .i64 (roleB V u a)) ∧ Below w.heap.size w w' := by
  have hb0 := below_alloc w (.cells #[.slice a1 n1 c1, .int .i64 V.gap, .int .i64 V.radius, .slice a2 n2 c2, .slice a3 n3 c3] 26)
  have hx := Box.fresh w 26 #[.slice a1 n1 c1, .int .i64 V.gap, .int .i64 V.radius, .slice a2 n2 c2, .slice a3 n3 c3]
  have hn := h.s.len
  subst hn
  have hA := isUsable_any a1 a2 a3 u1 V.seats.length c1 n2 c2 n3 c3 un uc V.gap V.radius a u _ (hu.next hb0)
  have hP : Hid (∀ W, Below w.heap.size w W → Calls Try.prog 31 #[venV a1 V.seats.length c1 V.gap V.radius a2 n2 c2 a3 n3 c3, .slice u1 un uc, .int .i64 (a - 1)] W fun e w' => e = .returned (.bool (usB V.seats.length u (a - 1))) ∧ Below W.heap.size W w') := fun W hW => isUsable_any a1 a2 a3 u1 V.seats.length c1 n2 c2 n3 c3 un uc V.gap V.radius (a - 1) u W (hu.next hW)
  have hN : Hid (usB V.seats.length u a = true → usB V.seats.length u (a - 1) = true → ∀ W, Below w.heap.size w W → Calls Try.prog 24 #[venV a1 V.seats.length c1 V.gap V.radius a2 n2 c2 a3 n3 c3, .int .i64 (a - 1)] W fun e w' => e = .returned (.bool (nextL V.seats V.gap (a - 1).toNat)) ∧ Below W.heap.size W w') := fun h1 h2 W hW => by
    have g1 := usB_seat h1
    have g2 := usB_seat h2
    have := next_any a1 a2 a3 V.seats.length c1 n2 c2 n3 c3 V (a - 1).toNat (by omega) hm W (h.next hW)
    rw [Int.toNat_of_nonneg g2.1] at this
    exact this
  have HW : Hid (usB V.seats.length u a = true → IntKind.i64.wrap (a - 1) = a - 1) := fun h1 => by
    have g1 := usB_seat h1
    have := hm.few
    rw [IntKind.wrap_i64] <;> omega
  have HR : Hid (roleB V u a = if usB V.seats.length u a = true then (if (usB V.seats.length u (a - 1) && nextL V.seats V.gap (a - 1).toNat) = true then 2 else 1) else 0) := rfl
  obtain ⟨v0, v1, v2, v3, v4⟩ := hx.five
  clear h hu hm
  generalize roleB V u a = ans at *
  generalize usB V.seats.length u a = p at *
  generalize usB V.seats.length u (a - 1) = q at *
  generalize nextL V.seats V.gap (a - 1).toNat = z at *
  generalize V.radius = rad at *
  generalize V.gap = gap at *
  generalize V.seats.length = n at *
  cases p with
  | false =>
    obtain rfl : ans = 0 := HR.out
    go_enter Try.func26, Try.ntmps26
    go_wp2_with fail
    refine hA.mono ?_
    rintro e w1 ⟨rfl, hb1⟩
    have HB := hid' (hb0.trans (hb1.mono hb0.size))
    clear hx v0 v1 v2 v3 v4 hb0 hb1 hA
    go_wp2
    go_ret
    exact ⟨rfl, HB.out⟩
  | true =>
    have hw := HW.out (by trivial)
    go_enter Try.func26, Try.ntmps26
    go_wp2_with fail
    refine hA.mono ?_
    rintro e w1 ⟨rfl, hb1⟩
    have hB1 := hb0.trans (hb1.mono hb0.size)
    have hx1 := hx.next hb1
    clear hx v0 v1 v2 v3 v4 hb0 hb1 hA
    obtain ⟨v0, v1, v2, v3, v4⟩ := hx1.five
    go_wp2_with fail
    refine (hP.out _ hB1).mono ?_
    rintro e w2 ⟨rfl, hb2⟩
    have hB2 := hB1.trans (hb2.mono hB1.size)
    have hx2 := hx1.next hb2
    clear hx1 v0 v1 v2 v3 v4 hB1 hb2 hP
    cases q with
    | false =>
      obtain rfl : ans = 1 := HR.out
      have HB := hid' hB2
      clear hB2 hx2 hN
      go_wp2
      go_ret
      exact ⟨rfl, HB.out⟩
    | true =>
      obtain ⟨v0, v1, v2, v3, v4⟩ := hx2.five
      go_wp2_with fail
      refine (hN.out (by trivial) (by trivial) _ hB2).mono ?_
      rintro e w3 ⟨rfl, hb3⟩
      have HB := hid' (hB2.trans (hb3.mono hB2.size))
      clear hx2 v0 v1 v2 v3 v4 hB2 hb3 hN
      cases z with
      | false =>
        obtain rfl : ans = 1 := HR.out
        go_wp2
        go_ret
        exact ⟨rfl, HB.out⟩
      | true =>
        obtain rfl : ans = 2 := HR.out
        go_wp2
        go_ret
        exact ⟨rfl, HB.out⟩
end Go.Proofs.Ytdodmbfkcandgaa.Rnn
