/- parterreref6.seat, is, next, Next by contracts. -/
import Derived.Test.YtdodmbfkcandgaaULongC
import Derived.Test.YtdodmbfkcandgaaVRWrong
namespace Go.Proofs.Ytdodmbfkcandgaa.Rnn
set_option linter.unusedVariables false
set_option maxRecDepth 100000
open Go.RowKit Go.Shelf
open Go.Proofs.Ytdodmbfkcandgaa.Ven (Seat Pole Ven VenAt venV seatV Box mayB mixed Sl SeatAt below_alloc ret_bool ret_int rmay_any BelowOf wp_region_quiet_below Calls.below_of)

theorem rseat_any (a1 a2 a3 : Option Addr) (n1 c1 n2 c2 n3 c3 : Nat) (gap rad k : Int) (w : World) :
    Calls Try.prog 30 #[venV a1 n1 c1 gap rad a2 n2 c2 a3 n3 c3, .int .i64 k] w fun e w' => e = .returned (.bool (decide (0 ≤ k ∧ k < (n1 : Int)))) ∧ Below w.heap.size w w' := by
  have hb := below_alloc w (.cells #[.slice a1 n1 c1, .int .i64 gap, .int .i64 rad, .slice a2 n2 c2, .slice a3 n3 c3] 26)
  by_cases h : 0 ≤ k
  · go_enter Try.func30, Try.ntmps30
    go_wp2
    go_ret
    exact ⟨ret_bool (by simp [h]), hb⟩
  · go_enter Try.func30, Try.ntmps30
    go_wp2
    go_ret
    exact ⟨ret_bool (by simp; omega), hb⟩
/-- A mark of a list, at whatever number. -/
def isI (u : List Bool) (a : Int) : Bool := decide (0 ≤ a) && isU u a.toNat
theorem ris_any (u1 : Option Addr) (un uc : Nat) (a : Int) (u : List Bool) (w : World) (hu : MarksAt w u1 un uc u) :
    Calls Try.prog 32 #[.slice u1 un uc, .int .i64 a] w fun e w' => e = .returned (.bool (isI u a)) ∧ Below w.heap.size w w' := by
  have hn := hu.len
  subst hn
  have hb := Below.refl w.heap.size w
  by_cases h : 0 ≤ a
  · obtain ⟨k, rfl⟩ : ∃ k : Nat, a = (k : Int) := ⟨a.toNat, by omega⟩
    have e : isI u k = isU u k := by unfold isI; rw [decide_eq_true h]; simp
    rw [e]
    by_cases hl : k < u.length
    · have hz : (k : Int) < (u.length : Int) := by omega
      obtain ⟨b, off, rfl, hlt, hc⟩ := hu.at k hl
      have e : isU u k = u[k] := by unfold isU; rw [List.getD_eq_getElem?_getD, List.getElem?_eq_getElem hl]; rfl
      rw [e]
      clear e h hu
      generalize u[k] = z at *
      generalize u.length = m at *
      go_enter Try.func32, Try.ntmps32
      go_wp2
      go_ret
      exact ⟨rfl, hb⟩
    · have hz : ¬ (k : Int) < (u.length : Int) := by omega
      have e : isU u k = false := by unfold isU; rw [List.getD_eq_getElem?_getD, List.getElem?_eq_none (by omega)]; rfl
      rw [e]
      clear e h hu
      generalize u.length = m at *
      go_enter Try.func32, Try.ntmps32
      go_wp2
      go_ret
      exact ⟨rfl, hb⟩
  · have e : isI u a = false := by unfold isI; rw [decide_eq_false h]; rfl
    rw [e]
    go_enter Try.func32, Try.ntmps32
    go_wp2
    go_ret
    exact ⟨rfl, hb⟩
/-- Is the seat behind this one next to it, of a venue that may be? -/
def nextI (V : Ven) (a : Int) : Bool := decide (0 ≤ a) && nextL V.seats V.gap a.toNat
theorem nextI_off {V : Ven} {a : Int} (h : ¬ (0 ≤ a ∧ a + 1 < (V.seats.length : Int))) : nextI V a = false := by
  unfold nextI nextL
  by_cases h0 : 0 ≤ a
  · rw [decide_eq_false (show ¬ a.toNat + 1 < V.seats.length by omega)]; simp
  · rw [decide_eq_false h0]; rfl
set_option maxHeartbeats 8000000 in
theorem rnext_any (a1 a2 a3 : Option Addr) (n1 c1 n2 c2 n3 c3 : Nat) (V : Ven) (a : Int) (hm : Well V) (w : World) (h : VenAt w a1 n1 c1 a2 n2 c2 a3 n3 c3 V) :
    Calls Try.prog 25 #[venV a1 n1 c1 V.gap V.radius a2 n2 c2 a3 n3 c3, .int .i64 a] w fun e w' => e = .returned (.bool (nextI V a)) ∧ Below w.heap.size w w' := by
  have hb := below_alloc w (.cells #[.slice a1 n1 c1, .int .i64 V.gap, .int .i64 V.radius, .slice a2 n2 c2, .slice a3 n3 c3] 26)
  have hx := Box.fresh w 26 #[.slice a1 n1 c1, .int .i64 V.gap, .int .i64 V.radius, .slice a2 n2 c2, .slice a3 n3 c3]
  have hn := h.s.len
  subst hn
  have hf := hm.few
  by_cases ha : 0 ≤ a ∧ a < (V.seats.length : Int)
  · obtain ⟨i, rfl, hi⟩ : ∃ i : Nat, a = (i : Int) ∧ i < V.seats.length := ⟨a.toNat, by omega, by omega⟩
    have pa : decide (0 ≤ (i : Int) ∧ (i : Int) < (V.seats.length : Int)) = true := decide_eq_true ha
    have hw1 : IntKind.i64.wrap ((i : Int) + 1) = ((i + 1 : Nat) : Int) := by rw [IntKind.wrap_i64] <;> omega
    by_cases hj : i + 1 < V.seats.length
    · have pb : decide (0 ≤ ((i + 1 : Nat) : Int) ∧ ((i + 1 : Nat) : Int) < (V.seats.length : Int)) = true := decide_eq_true (by omega)
      have he : nextI V i = (decide (V.seats[i].row = V.seats[i + 1].row) && decide (V.seats[i + 1].x - V.seats[i].x ≤ V.gap)) := by
        unfold nextI nextL
        rw [Int.toNat_natCast, getElem!_pos V.seats i hi, getElem!_pos V.seats (i + 1) hj, decide_eq_true hj, decide_eq_true (by omega)]; rfl
      rw [he]
      obtain ⟨b, off, rfl, hC0⟩ := Ven.cells_of_pos h.s hi
      have ra := rseat_any (some ⟨b, off, none⟩) a2 a3 V.seats.length c1 n2 c2 n3 c3 V.gap V.radius i
      have rb := rseat_any (some ⟨b, off, none⟩) a2 a3 V.seats.length c1 n2 c2 n3 c3 V.gap V.radius (i + 1 : Nat)
      rw [pa] at ra
      rw [pb] at rb
      have s1 := ((hC0.next hb).seat i hi)
      have s2 := ((hC0.next hb).seat (i + 1) hj)
      have hx1 := hm.x i hi
      have hx2 := hm.x (i + 1) hj
      have hiz : (i : Int) < (V.seats.length : Int) := by omega
      have hjz : ((i + 1 : Nat) : Int) < (V.seats.length : Int) := by omega
      clear pa pb he hC0 h hm ha
      generalize V.radius = rad at *
      generalize V.gap = gap at *
      generalize V.seats[i] = s at *
      generalize V.seats[i + 1] = t at *
      obtain ⟨r1, x1, y1, k1⟩ := s
      obtain ⟨r2, x2, y2, k2⟩ := t
      simp only at s1 s2 hx1 hx2 ⊢
      generalize V.seats.length = n at *
      clear hi hj hf
      generalize i + 1 = j at *
      have hw2 : IntKind.i64.wrap (x2 - x1) = x2 - x1 := by rw [IntKind.wrap_i64] <;> omega
      clear hx1 hx2
      by_cases hr : r1 = r2
      · rw [decide_eq_true hr]
        have hrz : (r1 == r2) = true := by simp [hr]
        clear hr
        go_enter Try.func25, Try.ntmps25
        go_wp2_with fail
        generalize w.alloc (.cells #[.slice (some ⟨b, off, none⟩) n c1, .int .i64 gap, .int .i64 rad, .slice a2 n2 c2, .slice a3 n3 c3] 26) = W at *
        generalize w.heap.size = B at hx ⊢
        have hne : Nonempty (BelowOf W) := ⟨⟨W, Below.refl _ W⟩⟩
        have v0 := fun p : BelowOf W => (hx.next p.h).cell 0 _ rfl
        have v1 := fun p : BelowOf W => (hx.next p.h).cell 1 _ rfl
        have v2 := fun p : BelowOf W => (hx.next p.h).cell 2 _ rfl
        have v3 := fun p : BelowOf W => (hx.next p.h).cell 3 _ rfl
        have v4 := fun p : BelowOf W => (hx.next p.h).cell 4 _ rfl
        have vl := fun p : BelowOf W => (hx.next p.h).lt
        have d0 := fun p : BelowOf W => (s1.next p.h).c0
        have d1 := fun p : BelowOf W => (s1.next p.h).c1
        have e0 := fun p : BelowOf W => (s2.next p.h).c0
        have e1 := fun p : BelowOf W => (s2.next p.h).c1
        refine wp_region_quiet_below mixed (by kernel_rfl) ?_
        repeat (go_big_quiet_step ((first | (go_at_call_of 30 (Value.int IntKind.i64 (i : Int)); exact Calls.below_of (ra _)) | (go_at_call_of 30 (Value.int IntKind.i64 (j : Int)); exact Calls.below_of (rb _)))))
        refine wpQuiet_nil ?_
        intro _ hw'
        obtain ⟨p, hw''⟩ := hw'
        subst hw''
        go_wp2
        go_ret
        exact ⟨rfl, hb.trans (p.h.mono hb.size)⟩
      · rw [decide_eq_false hr]
        have hrz : (r1 == r2) = false := by simp [hr]
        clear hr
        go_enter Try.func25, Try.ntmps25
        go_wp2_with fail
        generalize w.alloc (.cells #[.slice (some ⟨b, off, none⟩) n c1, .int .i64 gap, .int .i64 rad, .slice a2 n2 c2, .slice a3 n3 c3] 26) = W at *
        generalize w.heap.size = B at hx ⊢
        have hne : Nonempty (BelowOf W) := ⟨⟨W, Below.refl _ W⟩⟩
        have v0 := fun p : BelowOf W => (hx.next p.h).cell 0 _ rfl
        have v1 := fun p : BelowOf W => (hx.next p.h).cell 1 _ rfl
        have v2 := fun p : BelowOf W => (hx.next p.h).cell 2 _ rfl
        have v3 := fun p : BelowOf W => (hx.next p.h).cell 3 _ rfl
        have v4 := fun p : BelowOf W => (hx.next p.h).cell 4 _ rfl
        have vl := fun p : BelowOf W => (hx.next p.h).lt
        have d0 := fun p : BelowOf W => (s1.next p.h).c0
        have e0 := fun p : BelowOf W => (s2.next p.h).c0
        refine wp_region_quiet_below mixed (by kernel_rfl) ?_
        repeat (go_big_quiet_step ((first | (go_at_call_of 30 (Value.int IntKind.i64 (i : Int)); exact Calls.below_of (ra _)) | (go_at_call_of 30 (Value.int IntKind.i64 (j : Int)); exact Calls.below_of (rb _)))))
        refine wpQuiet_nil ?_
        intro _ hw'
        obtain ⟨p, hw''⟩ := hw'
        subst hw''
        go_wp2
        go_ret
        exact ⟨rfl, hb.trans (p.h.mono hb.size)⟩
    · have pb : decide (0 ≤ ((i + 1 : Nat) : Int) ∧ ((i + 1 : Nat) : Int) < (V.seats.length : Int)) = false := decide_eq_false (by omega)
      rw [nextI_off (V := V) (a := (i : Int)) (by omega)]
      have ra := rseat_any a1 a2 a3 V.seats.length c1 n2 c2 n3 c3 V.gap V.radius i
      have rb := rseat_any a1 a2 a3 V.seats.length c1 n2 c2 n3 c3 V.gap V.radius (i + 1 : Nat)
      rw [pa] at ra
      rw [pb] at rb
      clear pa pb h hm ha hf hi hj
      generalize V.radius = rad at *
      generalize V.gap = gap at *
      generalize V.seats.length = n at *
      generalize i + 1 = j at *
      go_enter Try.func25, Try.ntmps25
      go_wp2_with fail
      generalize w.alloc (.cells #[.slice a1 n c1, .int .i64 gap, .int .i64 rad, .slice a2 n2 c2, .slice a3 n3 c3] 26) = W at *
      generalize w.heap.size = B at hx ⊢
      have hne : Nonempty (BelowOf W) := ⟨⟨W, Below.refl _ W⟩⟩
      have v0 := fun p : BelowOf W => (hx.next p.h).cell 0 _ rfl
      have v1 := fun p : BelowOf W => (hx.next p.h).cell 1 _ rfl
      have v2 := fun p : BelowOf W => (hx.next p.h).cell 2 _ rfl
      have v3 := fun p : BelowOf W => (hx.next p.h).cell 3 _ rfl
      have v4 := fun p : BelowOf W => (hx.next p.h).cell 4 _ rfl
      refine wp_region_quiet_below mixed (by kernel_rfl) ?_
      repeat (go_big_quiet_step ((first | (go_at_call_of 30 (Value.int IntKind.i64 (i : Int)); exact Calls.below_of (ra _)) | (go_at_call_of 30 (Value.int IntKind.i64 (j : Int)); exact Calls.below_of (rb _)))))
      refine wpQuiet_nil ?_
      intro _ hw'
      obtain ⟨p, hw''⟩ := hw'
      subst hw''
      go_wp2
      go_ret
      exact ⟨rfl, hb.trans (p.h.mono hb.size)⟩
  · rw [nextI_off (V := V) (a := a) (by omega)]
    have ra := rseat_any a1 a2 a3 V.seats.length c1 n2 c2 n3 c3 V.gap V.radius a
    rw [decide_eq_false ha] at ra
    clear h hm ha hf
    generalize V.radius = rad at *
    generalize V.gap = gap at *
    generalize V.seats.length = n at *
    go_enter Try.func25, Try.ntmps25
    go_wp2_with fail
    generalize w.alloc (.cells #[.slice a1 n c1, .int .i64 gap, .int .i64 rad, .slice a2 n2 c2, .slice a3 n3 c3] 26) = W at *
    generalize w.heap.size = B at hx ⊢
    have hne : Nonempty (BelowOf W) := ⟨⟨W, Below.refl _ W⟩⟩
    have v0 := fun p : BelowOf W => (hx.next p.h).cell 0 _ rfl
    have v1 := fun p : BelowOf W => (hx.next p.h).cell 1 _ rfl
    have v2 := fun p : BelowOf W => (hx.next p.h).cell 2 _ rfl
    have v3 := fun p : BelowOf W => (hx.next p.h).cell 3 _ rfl
    have v4 := fun p : BelowOf W => (hx.next p.h).cell 4 _ rfl
    refine wp_region_quiet_below mixed (by kernel_rfl) ?_
    repeat (go_big_quiet_step ((go_at_call 30; exact Calls.below_of (ra _))))
    refine wpQuiet_nil ?_
    intro _ hw'
    obtain ⟨p, hw''⟩ := hw'
    subst hw''
    go_wp2
    go_ret
    exact ⟨rfl, hb.trans (p.h.mono hb.size)⟩
end Go.Proofs.Ytdodmbfkcandgaa.Rnn
