/- run.Next, run.Long by contracts. -/
import Derived.Test.YtdodmbfkcandgaaUNext
namespace Go.Proofs.Ytdodmbfkcandgaa.Rnn
set_option linter.unusedVariables false
set_option maxRecDepth 100000
open Go.RowKit Go.Shelf
open Go.Proofs.Ytdodmbfkcandgaa.Ven (Seat Pole Ven VenAt venV seatV Box mayB Sl SeatAt below_alloc ret_bool ret_int may_any)

theorem sl_big {α : Type} {k : Nat} {enc : α → List Value} {w : World} {v : Value} {l : List α} (h : Sl k enc w v l) : l.length ≤ maxLen := by
  rcases h with ⟨_, rfl⟩ | ⟨_, _, cap, _, h1, h2, _⟩
  · exact Nat.zero_le _
  · exact Nat.le_trans h1 h2
theorem nextB_off {V : Ven} {a : Int} (h : ¬ (0 ≤ a ∧ a + 1 < (V.seats.length : Int))) : nextB V a = false := by
  unfold nextB nextL
  by_cases h0 : 0 ≤ a
  · rw [decide_eq_false (show ¬ a.toNat + 1 < V.seats.length by omega)]; simp
  · rw [decide_eq_false h0]; rfl
set_option maxHeartbeats 4000000 in
theorem nexts_any (a1 a2 a3 : Option Addr) (n1 c1 n2 c2 n3 c3 : Nat) (V : Ven) (a : Int) (w : World) (h : VenAt w a1 n1 c1 a2 n2 c2 a3 n3 c3 V) :
    Calls Try.prog 11 #[venV a1 n1 c1 V.gap V.radius a2 n2 c2 a3 n3 c3, .int .i64 a] w fun e w' => e = .returned (.bool (nextB V a)) ∧ Below w.heap.size w w' := by
  have hb0 := below_alloc w (.cells #[.slice a1 n1 c1, .int .i64 V.gap, .int .i64 V.radius, .slice a2 n2 c2, .slice a3 n3 c3] 26)
  have hx := Box.fresh w 26 #[.slice a1 n1 c1, .int .i64 V.gap, .int .i64 V.radius, .slice a2 n2 c2, .slice a3 n3 c3]
  have hn := h.s.len
  subst hn
  have hi := isSeat_any a1 a2 a3 V.seats.length c1 n2 c2 n3 c3 V.gap V.radius a
  have HJ : Hid (∀ W, Calls Try.prog 22 #[venV a1 V.seats.length c1 V.gap V.radius a2 n2 c2 a3 n3 c3, .int .i64 (a + 1)] W fun e w' => e = .returned (.bool (decide (0 ≤ a + 1 ∧ a + 1 < (V.seats.length : Int)))) ∧ Below W.heap.size W w') := fun W => isSeat_any a1 a2 a3 V.seats.length c1 n2 c2 n3 c3 V.gap V.radius (a + 1) W
  have HM : Hid (∀ W, Below w.heap.size w W → Calls Try.prog 23 #[venV a1 V.seats.length c1 V.gap V.radius a2 n2 c2 a3 n3 c3] W fun e w' => e = .returned (.bool (mayB V)) ∧ Below W.heap.size W w') := fun W hb => may_any a1 a2 a3 V.seats.length c1 n2 c2 n3 c3 V W (h.next hb)
  have HN : Hid (decide (0 ≤ a ∧ a < (V.seats.length : Int)) = true → decide (0 ≤ a + 1 ∧ a + 1 < (V.seats.length : Int)) = true → mayB V = true → ∀ W, Below w.heap.size w W → Calls Try.prog 24 #[venV a1 V.seats.length c1 V.gap V.radius a2 n2 c2 a3 n3 c3, .int .i64 a] W fun e w' => e = .returned (.bool (nextL V.seats V.gap a.toNat)) ∧ Below W.heap.size W w') := fun h1 h2 h3 W hW => by
    have g1 := of_decide_eq_true h1
    have g2 := of_decide_eq_true h2
    have := next_any a1 a2 a3 V.seats.length c1 n2 c2 n3 c3 V a.toNat (by omega) (may_well h3) W (h.next hW)
    rw [Int.toNat_of_nonneg g1.1] at this
    exact this
  have HE : Hid (nextB V a = (decide (0 ≤ a ∧ a < (V.seats.length : Int)) && (decide (0 ≤ a + 1 ∧ a + 1 < (V.seats.length : Int)) && (mayB V && nextL V.seats V.gap a.toNat)))) := by
    show nextB V a = _
    by_cases hd : 0 ≤ a ∧ a + 1 < (V.seats.length : Int)
    · unfold nextB
      rw [decide_eq_true hd.1, decide_eq_true (show 0 ≤ a ∧ a < (V.seats.length : Int) by omega), decide_eq_true (show 0 ≤ a + 1 ∧ a + 1 < (V.seats.length : Int) by omega)]; rfl
    · rw [nextB_off hd]
      by_cases h0 : 0 ≤ a ∧ a < (V.seats.length : Int)
      · rw [decide_eq_true h0, decide_eq_false (show ¬ (0 ≤ a + 1 ∧ a + 1 < (V.seats.length : Int)) by omega)]; rfl
      · rw [decide_eq_false h0]; rfl
  have HW : Hid (decide (0 ≤ a ∧ a < (V.seats.length : Int)) = true → IntKind.i64.wrap (a + 1) = a + 1) := fun h1 => by
    have g1 := of_decide_eq_true h1
    have hl := sl_big h.s
    unfold maxLen at hl
    rw [IntKind.wrap_i64] <;> omega
  obtain ⟨v0, v1, v2, v3, v4⟩ := hx.five
  clear h
  generalize nextB V a = ans at *
  generalize decide (0 ≤ a ∧ a < (V.seats.length : Int)) = p at *
  generalize decide (0 ≤ a + 1 ∧ a + 1 < (V.seats.length : Int)) = q at *
  generalize nextL V.seats V.gap a.toNat = z at *
  generalize mayB V = m at *
  generalize V.radius = rad at *
  generalize V.gap = gap at *
  generalize V.seats.length = n at *
  cases p with
  | false =>
    obtain rfl : ans = false := HE.out
    go_enter Try.func11, Try.ntmps11
    go_wp2_with fail
    refine (hi _).mono ?_
    rintro e w1 ⟨rfl, hb1⟩
    have HB := hid' (hb0.trans (hb1.mono hb0.size))
    clear hx v0 v1 v2 v3 v4 hb0 hb1 hi
    go_wp2
    go_ret
    exact ⟨rfl, HB.out⟩
  | true =>
    have hw := HW.out (by trivial)
    go_enter Try.func11, Try.ntmps11
    go_wp2_with fail
    refine (hi _).mono ?_
    rintro e w1 ⟨rfl, hb1⟩
    have hB1 := hb0.trans (hb1.mono hb0.size)
    have hx1 := hx.next hb1
    clear hx v0 v1 v2 v3 v4 hb0 hb1 hi
    obtain ⟨v0, v1, v2, v3, v4⟩ := hx1.five
    go_wp2_with fail
    refine (HJ.out _).mono ?_
    rintro e w2 ⟨rfl, hb2⟩
    have hB2 := hB1.trans (hb2.mono hB1.size)
    have hx2 := hx1.next hb2
    clear hx1 v0 v1 v2 v3 v4 hB1 hb2
    cases q with
    | false =>
      obtain rfl : ans = false := HE.out
      have HB := hid' hB2
      clear hB2 hx2
      go_wp2
      go_ret
      exact ⟨rfl, HB.out⟩
    | true =>
      obtain ⟨v0, v1, v2, v3, v4⟩ := hx2.five
      go_wp2_with fail
      refine (HM.out _ hB2).mono ?_
      rintro e w3 ⟨rfl, hb3⟩
      have hB3 := hB2.trans (hb3.mono hB2.size)
      have hx3 := hx2.next hb3
      clear hx2 v0 v1 v2 v3 v4 hB2 hb3
      cases m with
      | false =>
        obtain rfl : ans = false := HE.out
        have HB := hid' hB3
        clear hB3 hx3
        go_wp2
        go_ret
        exact ⟨rfl, HB.out⟩
      | true =>
        obtain rfl : ans = z := HE.out
        obtain ⟨v0, v1, v2, v3, v4⟩ := hx3.five
        go_wp2_with fail
        refine (HN.out (by trivial) (by trivial) (by trivial) _ hB3).mono ?_
        rintro e w4 ⟨rfl, hb4⟩
        have HB := hid' (hB3.trans (hb4.mono hB3.size))
        clear hx3 v0 v1 v2 v3 v4 hB3 hb4
        go_wp2
        go_ret
        exact ⟨rfl, HB.out⟩
end Go.Proofs.Ytdodmbfkcandgaa.Rnn
