/- parterreref6.clash, Clash by contracts. -/
import Derived.Test.YtgpkdjhllekihaaGRefF
import Derived.Test.YtgpkdjhllekihaaGGraph
namespace Go.Proofs.Ytgpkdjhllekihaa.Geo
set_option linter.unusedVariables false
set_option maxRecDepth 100000
open Go.RowKit Go.Shelf
open Go.Proofs.Ytgpkdjhllekihaa.Ven (Seat Pole Ven VenAt venV seatV seatC Box mayB mixed SeatAt Cells below_alloc coordB standsB ret_bool BelowOf wp_region_quiet_below Calls.below_of same_world rmay_any)

/-- Do these clash, of a venue that may be? -/
def clashI (l : List Seat) (r a b : Int) : Bool := decide (0 ≤ a ∧ a < (l.length : Int)) && (decide (0 ≤ b ∧ b < (l.length : Int)) && clashL l r a.toNat b.toNat)
theorem clashB_I (V : Ven) (a b : Int) : clashB V a b = (mayB V && clashI V.seats V.radius a b) := by
  unfold clashB clashI
  cases mayB V <;> simp
set_option maxHeartbeats 8000000 in
theorem rclash_any (a1 a2 a3 : Option Addr) (n1 c1 n2 c2 n3 c3 : Nat) (V : Ven) (a b : Int) (hst : AllStand V.seats) (h0 : 0 ≤ V.radius) (h1 : V.radius ≤ 1048576) (w : World) (h : VenAt w a1 n1 c1 a2 n2 c2 a3 n3 c3 V) :
    Calls Try.prog 27 #[venV a1 n1 c1 V.gap V.radius a2 n2 c2 a3 n3 c3, .int .i64 a, .int .i64 b] w fun e w' => e = .returned (.bool (clashI V.seats V.radius a b)) ∧ Below w.heap.size w w' := by
  have hb := below_alloc w (.cells #[.slice a1 n1 c1, .int .i64 V.gap, .int .i64 V.radius, .slice a2 n2 c2, .slice a3 n3 c3] 26)
  have hx := Box.fresh w 26 #[.slice a1 n1 c1, .int .i64 V.gap, .int .i64 V.radius, .slice a2 n2 c2, .slice a3 n3 c3]
  have hn := h.s.len
  subst hn
  have hsq := rsquare_any V.radius 0 (by omega) (by omega)
  rw [Int.sub_zero] at hsq
  by_cases ha : 0 ≤ a ∧ a < (V.seats.length : Int)
  · obtain ⟨i, rfl, hi⟩ : ∃ i : Nat, a = (i : Int) ∧ i < V.seats.length := ⟨a.toNat, by omega, by omega⟩
    have pa : decide (0 ≤ (i : Int) ∧ (i : Int) < (V.seats.length : Int)) = true := decide_eq_true ha
    by_cases hbb : 0 ≤ b ∧ b < (V.seats.length : Int)
    · obtain ⟨j, rfl, hj⟩ : ∃ j : Nat, b = (j : Int) ∧ j < V.seats.length := ⟨b.toNat, by omega, by omega⟩
      have pb : decide (0 ≤ (j : Int) ∧ (j : Int) < (V.seats.length : Int)) = true := decide_eq_true hbb
      have hiz : (i : Int) < (V.seats.length : Int) := by omega
      have hjz : (j : Int) < (V.seats.length : Int) := by omega
      have he : clashI V.seats V.radius i j = (decide (i ≠ j) && nearS V.seats[i] V.seats[j] V.radius) := by
        unfold clashI clashL
        rw [pa, pb]
        simp only [Bool.true_and, Int.toNat_natCast]
        rw [getElem!_pos V.seats i hi, getElem!_pos V.seats j hj]
      rw [he]
      obtain ⟨bb, off, rfl, hC0⟩ := Ven.cells_of_pos h.s hi
      have ra := rseat_any (some ⟨bb, off, none⟩) a2 a3 V.seats.length c1 n2 c2 n3 c3 V.gap V.radius i
      have rb := rseat_any (some ⟨bb, off, none⟩) a2 a3 V.seats.length c1 n2 c2 n3 c3 V.gap V.radius j
      rw [pa] at ra
      rw [pb] at rb
      clear pa pb
      have si := ((hC0.next hb).seat i hi)
      have sj := ((hC0.next hb).seat j hj)
      have hsi := hst i hi
      have hsj := hst j hj
      clear h hC0 hst h0 h1 ha hbb he
      generalize V.radius = rad at *
      generalize V.gap = gap at *
      generalize V.seats[i] = s at *
      generalize V.seats[j] = t at *
      obtain ⟨r1, x1, y1, k1⟩ := s
      obtain ⟨r2, x2, y2, k2⟩ := t
      simp only at si sj hsi hsj
      have hfar : farI x1 y1 x2 y2 = sqI x1 y1 x2 y2 := by unfold farI; rw [hsi, hsj]; rfl
      unfold nearS
      simp only
      generalize sqI x1 y1 x2 y2 = z at *
      clear hsi hsj
      generalize V.seats.length = n at *
      by_cases hij : i = j
      · subst hij
        have hnz : ((i : Int) != (i : Int)) = false := by simp
        rw [decide_eq_false (by simp)]
        go_enter Try.func27, Try.ntmps27
        go_wp2_with fail
        generalize w.alloc (.cells #[.slice (some ⟨bb, off, none⟩) n c1, .int .i64 gap, .int .i64 rad, .slice a2 n2 c2, .slice a3 n3 c3] 26) = W at *
        generalize w.heap.size = B at hx ⊢
        have hne : Nonempty (BelowOf W) := ⟨⟨W, Below.refl _ W⟩⟩
        have v0 := fun p : BelowOf W => (hx.next p.h).cell 0 _ rfl
        have v1 := fun p : BelowOf W => (hx.next p.h).cell 1 _ rfl
        have v2 := fun p : BelowOf W => (hx.next p.h).cell 2 _ rfl
        have v3 := fun p : BelowOf W => (hx.next p.h).cell 3 _ rfl
        have v4 := fun p : BelowOf W => (hx.next p.h).cell 4 _ rfl
        have vl := fun p : BelowOf W => (hx.next p.h).lt
        refine wp_region_quiet_below mixed (by kernel_rfl) ?_
        repeat (go_big_quiet_step ((first | (go_at_call_of 35 (Value.int IntKind.i64 (i : Int)); exact Calls.below_of (ra _)) | (go_at_call_of 35 (Value.int IntKind.i64 (j : Int)); exact Calls.below_of (rb _)) | (go_at_call 10; exact Calls.below_of (rfar_any _ _ _ _ _ _ _ _ _)) | (go_at_call 23; exact Calls.below_of (same_world (hsq _))))))
        refine wpQuiet_nil ?_
        intro _ hw'
        obtain ⟨p, hw''⟩ := hw'
        subst hw''
        go_wp2
        go_ret
        exact ⟨rfl, hb.trans (p.h.mono hb.size)⟩
      · have hnz : ((i : Int) != (j : Int)) = true := by simp; omega
        rw [decide_eq_true hij]
        go_enter Try.func27, Try.ntmps27
        go_wp2_with fail
        generalize w.alloc (.cells #[.slice (some ⟨bb, off, none⟩) n c1, .int .i64 gap, .int .i64 rad, .slice a2 n2 c2, .slice a3 n3 c3] 26) = W at *
        generalize w.heap.size = B at hx ⊢
        have hne : Nonempty (BelowOf W) := ⟨⟨W, Below.refl _ W⟩⟩
        have v0 := fun p : BelowOf W => (hx.next p.h).cell 0 _ rfl
        have v1 := fun p : BelowOf W => (hx.next p.h).cell 1 _ rfl
        have v2 := fun p : BelowOf W => (hx.next p.h).cell 2 _ rfl
        have v3 := fun p : BelowOf W => (hx.next p.h).cell 3 _ rfl
        have v4 := fun p : BelowOf W => (hx.next p.h).cell 4 _ rfl
        have vl := fun p : BelowOf W => (hx.next p.h).lt
        have d0 := fun p : BelowOf W => (si.next p.h).c0
        have d1 := fun p : BelowOf W => (si.next p.h).c1
        have d2 := fun p : BelowOf W => (si.next p.h).c2
        have d3 := fun p : BelowOf W => (si.next p.h).c3
        have e0 := fun p : BelowOf W => (sj.next p.h).c0
        have e1 := fun p : BelowOf W => (sj.next p.h).c1
        have e2 := fun p : BelowOf W => (sj.next p.h).c2
        have e3 := fun p : BelowOf W => (sj.next p.h).c3
        refine wp_region_quiet_below mixed (by kernel_rfl) ?_
        repeat (go_big_quiet_step ((first | (go_at_call_of 35 (Value.int IntKind.i64 (i : Int)); exact Calls.below_of (ra _)) | (go_at_call_of 35 (Value.int IntKind.i64 (j : Int)); exact Calls.below_of (rb _)) | (go_at_call 10; exact Calls.below_of (rfar_any _ _ _ _ _ _ _ _ _)) | (go_at_call 23; exact Calls.below_of (same_world (hsq _))))))
        refine wpQuiet_nil ?_
        intro _ hw'
        obtain ⟨p, hw''⟩ := hw'
        subst hw''
        go_wp2
        go_ret
        exact ⟨rfl, hb.trans (p.h.mono hb.size)⟩
    · have pb : decide (0 ≤ b ∧ b < (V.seats.length : Int)) = false := decide_eq_false hbb
      have he : clashI V.seats V.radius i b = false := by unfold clashI; rw [pb]; simp
      rw [he]
      have ra := rseat_any a1 a2 a3 V.seats.length c1 n2 c2 n3 c3 V.gap V.radius i
      have rb := rseat_any a1 a2 a3 V.seats.length c1 n2 c2 n3 c3 V.gap V.radius b
      rw [pa] at ra
      rw [pb] at rb
      clear pa pb h hst h0 h1 ha hbb he
      generalize V.radius = rad at *
      generalize V.gap = gap at *
      generalize V.seats.length = n at *
      go_enter Try.func27, Try.ntmps27
      go_wp2_with fail
      generalize w.alloc (.cells #[.slice a1 n c1, .int .i64 gap, .int .i64 rad, .slice a2 n2 c2, .slice a3 n3 c3] 26) = W at *
      generalize w.heap.size = B at hx ⊢
      have hne : Nonempty (BelowOf W) := ⟨⟨W, Below.refl _ W⟩⟩
      have v0 := fun p : BelowOf W => (hx.next p.h).cell 0 _ rfl
      have v1 := fun p : BelowOf W => (hx.next p.h).cell 1 _ rfl
      have v2 := fun p : BelowOf W => (hx.next p.h).cell 2 _ rfl
      have v3 := fun p : BelowOf W => (hx.next p.h).cell 3 _ rfl
      have v4 := fun p : BelowOf W => (hx.next p.h).cell 4 _ rfl
      have vl := fun p : BelowOf W => (hx.next p.h).lt
      refine wp_region_quiet_below mixed (by kernel_rfl) ?_
      repeat (go_big_quiet_step ((first | (go_at_call_of 35 (Value.int IntKind.i64 (i : Int)); exact Calls.below_of (ra _)) | (go_at_call_of 35 (Value.int IntKind.i64 b); exact Calls.below_of (rb _)) | (go_at_call 10; exact Calls.below_of (rfar_any _ _ _ _ _ _ _ _ _)) | (go_at_call 23; exact Calls.below_of (same_world (hsq _))))))
      refine wpQuiet_nil ?_
      intro _ hw'
      obtain ⟨p, hw''⟩ := hw'
      subst hw''
      go_wp2
      go_ret
      exact ⟨rfl, hb.trans (p.h.mono hb.size)⟩
  · have pa : decide (0 ≤ a ∧ a < (V.seats.length : Int)) = false := decide_eq_false ha
    have he : clashI V.seats V.radius a b = false := by unfold clashI; rw [pa]; simp
    rw [he]
    have ra := rseat_any a1 a2 a3 V.seats.length c1 n2 c2 n3 c3 V.gap V.radius a
    rw [pa] at ra
    clear pa h hst h0 h1 ha he
    generalize V.radius = rad at *
    generalize V.gap = gap at *
    generalize V.seats.length = n at *
    go_enter Try.func27, Try.ntmps27
    go_wp2_with fail
    generalize w.alloc (.cells #[.slice a1 n c1, .int .i64 gap, .int .i64 rad, .slice a2 n2 c2, .slice a3 n3 c3] 26) = W at *
    generalize w.heap.size = B at hx ⊢
    have hne : Nonempty (BelowOf W) := ⟨⟨W, Below.refl _ W⟩⟩
    have v0 := fun p : BelowOf W => (hx.next p.h).cell 0 _ rfl
    have v1 := fun p : BelowOf W => (hx.next p.h).cell 1 _ rfl
    have v2 := fun p : BelowOf W => (hx.next p.h).cell 2 _ rfl
    have v3 := fun p : BelowOf W => (hx.next p.h).cell 3 _ rfl
    have v4 := fun p : BelowOf W => (hx.next p.h).cell 4 _ rfl
    have vl := fun p : BelowOf W => (hx.next p.h).lt
    refine wp_region_quiet_below mixed (by kernel_rfl) ?_
    repeat (go_big_quiet_step ((first | (go_at_call_of 35 (Value.int IntKind.i64 a); exact Calls.below_of (ra _)) | (go_at_call 10; exact Calls.below_of (rfar_any _ _ _ _ _ _ _ _ _)) | (go_at_call 23; exact Calls.below_of (same_world (hsq _))))))
    refine wpQuiet_nil ?_
    intro _ hw'
    obtain ⟨p, hw''⟩ := hw'
    subst hw''
    go_wp2
    go_ret
    exact ⟨rfl, hb.trans (p.h.mono hb.size)⟩
set_option maxHeartbeats 2000000 in
theorem rgclash_any (a1 a2 a3 : Option Addr) (n1 c1 n2 c2 n3 c3 : Nat) (V : Ven) (a b : Int) (w : World) (h : VenAt w a1 n1 c1 a2 n2 c2 a3 n3 c3 V) :
    Calls Try.prog 12 #[venV a1 n1 c1 V.gap V.radius a2 n2 c2 a3 n3 c3, .int .i64 a, .int .i64 b] w fun e w' => e = .returned (.bool (clashB V a b)) ∧ Below w.heap.size w w' := by
  have hb := below_alloc w (.cells #[.slice a1 n1 c1, .int .i64 V.gap, .int .i64 V.radius, .slice a2 n2 c2, .slice a3 n3 c3] 26)
  have hx := Box.fresh w 26 #[.slice a1 n1 c1, .int .i64 V.gap, .int .i64 V.radius, .slice a2 n2 c2, .slice a3 n3 c3]
  have hmay := rmay_any a1 a2 a3 n1 c1 n2 c2 n3 c3 V _ (h.next hb)
  have v0 := hx.cell 0 _ rfl
  have v1 := hx.cell 1 _ rfl
  have v2 := hx.cell 2 _ rfl
  have v3 := hx.cell 3 _ rfl
  have v4 := hx.cell 4 _ rfl
  rw [clashB_I]
  cases hm : mayB V with
  | false =>
    rw [hm] at hmay
    clear hm
    go_enter Try.func12, Try.ntmps12
    go_wp2_with fail
    refine hmay.mono ?_
    rintro e w1 ⟨rfl, hb1⟩
    have HB := hid' (hb.trans (hb1.mono hb.size))
    clear hmay hb hb1 hx v0 v1 v2 v3 v4
    go_wp2
    go_ret
    exact ⟨rfl, HB.out⟩
  | true =>
    rw [hm] at hmay
    have hcl := fun W (hW : Below w.heap.size w W) => rclash_any a1 a2 a3 n1 c1 n2 c2 n3 c3 V a b (may_stand hm) (may_rad hm).1 (may_rad hm).2 W (h.next hW)
    clear hm
    generalize clashI V.seats V.radius a b = z at *
    go_enter Try.func12, Try.ntmps12
    go_wp2_with fail
    refine hmay.mono ?_
    rintro e w1 ⟨rfl, hb1⟩
    have HB := hid' (hb.trans (hb1.mono hb.size))
    have hx1 := hx.next hb1
    clear hmay hb hb1 hx v0 v1 v2 v3 v4
    have v0 := hx1.cell 0 _ rfl
    have v1 := hx1.cell 1 _ rfl
    have v2 := hx1.cell 2 _ rfl
    have v3 := hx1.cell 3 _ rfl
    have v4 := hx1.cell 4 _ rfl
    go_wp2_with fail
    refine (hcl w1 HB.out).mono ?_
    rintro e w2 ⟨rfl, hb2⟩
    have HB2 := hid' (HB.out.trans (hb2.mono HB.out.size))
    clear hcl hb2 hx1 v0 v1 v2 v3 v4
    go_wp2
    go_ret
    exact ⟨rfl, HB2.out⟩
end Go.Proofs.Ytgpkdjhllekihaa.Geo
