/- venue.seatsMay by its contract. -/
import Derived.Test.YtbmmjbklfheghaaVSl
namespace Go.Proofs.Ytbmmjbklfheghaa.Ven
set_option linter.unusedVariables false
set_option maxRecDepth 100000
open Go.RowKit Go.Shelf

theorem seatsMay_none (a : Option Addr) (c : Nat) (w : World) : Calls Try.prog 42 #[.slice a 0 c] w fun e w' => e = .returned (.bool false) ∧ w' = w := by
  go_enter Try.func42, Try.ntmps42
  go_wp2
  go_ret
  exact ⟨rfl, rfl⟩
theorem seatsMay_size (a : Option Addr) (n cap : Nat) (h : n = 0 ∨ 4096 < n) (w : World) : Calls Try.prog 42 #[.slice a n cap] w fun e w' => e = .returned (.bool false) ∧ w' = w := by
  rcases Nat.eq_zero_or_pos n with h0 | h0
  · subst h0
    go_enter Try.func42, Try.ntmps42
    go_wp2
    go_ret
    exact ⟨rfl, rfl⟩
  · have h1 : ((n : Int) == 0) = false := by simp; omega
    have h2 : (4096 : Int) < (n : Int) := by omega
    clear h
    go_enter Try.func42, Try.ntmps42
    go_wp2
    go_ret
    exact ⟨rfl, rfl⟩

set_option maxHeartbeats 2000000 in
theorem seatsMay_some (l : List Seat) (b off cap : Nat) (h1 : 1 ≤ l.length) (h2 : l.length ≤ 4096) (w : World) (hC : Cells 4 seatC w b off l) :
    Calls Try.prog 42 #[.slice (some ⟨b, off, none⟩) l.length cap] w fun e w' => e = .returned (.bool (upB l.length (okSeat l))) ∧ Below w.heap.size w w' := by
  have HC : Hid (Cells 4 seatC w b off l) := hC
  clear hC
  have z1 : ((l.length : Int) == 0) = false := by simp; intro h; rw [h] at h1; simp at h1
  have z2 : ¬ ((4096 : Int) < (l.length : Int)) := by omega
  have hm := mixed
  go_enter Try.func42, Try.ntmps42
  go_wp2
  go_loopw [3, 4, 15] (fun _ _ i wr => ∃ k : Nat, k ≤ l.length ∧ i = .int .i64 k ∧ Below w.heap.size w wr ∧ Hid (∀ j, j < k → okSeat l j = true)) (fun _ _ i _ => l.length - (intOf i).toNat)
  case atStart => exact ⟨0, Nat.zero_le _, rfl, Below.refl _ w, by intro j hj; omega⟩
  case round =>
    obtain ⟨k, hk, rfl, hB, HA⟩ := hrel
    by_cases hlt : k < l.length
    · have hltz : (k : Int) < (l.length : Int) := by omega
      have ta := (HC.out.next hB).seat k hlt
      generalize hy : l[k] = y at ta
      obtain ⟨r, x, y, kk⟩ := y
      simp only at ta
      have HY : Hid (l[k] = ⟨r, x, y, kk⟩) := hy
      clear hy
      obtain ⟨_, c0, c1, c2, c3⟩ := ta
      have hs := seatMay_any r x y kk
      cases hq : seatB ⟨r, x, y, kk⟩ with
      | false =>
        rw [hq] at hs
        have HOK : Hid (okSeat l k = false) := by
          show okSeat l k = false
          unfold okSeat; rw [getElem!_pos l k hlt, HY.out, hq]; rfl
        clear hq
        go_wp2_with fail
        have tb := fun n os => ((SeatAt.fresh wr r x y kk).next (grown_below _ n os))
        have d0 := fun n os => (tb n os).c0
        have d1 := fun n os => (tb n os).c1
        have d2 := fun n os => (tb n os).c2
        have d3 := fun n os => (tb n os).c3
        clear tb
        simp only [Nat.zero_add] at d1 d2 d3
        refine wp_region_quiet_grown hm (by kernel_rfl) ?_
        repeat (go_big_quiet_step ((go_at_call 51; exact Calls.grown_of (hs _))))
        refine wpQuiet_nil ?_
        intro _ hw'
        obtain ⟨⟨nq, osq⟩, hw''⟩ := hw'
        subst hw''
        go_wp2
        go_ret
        exact ⟨ret_bool (upB_hit _ _ k hlt HOK.out).symm, hB.trans ((((Below.refl _ wr).alloc (Nat.le_refl _) _).trans ((grown_below _ nq osq).mono (by simp))).mono hB.size)⟩
      | true =>
        rw [hq] at hs
        rcases Nat.eq_zero_or_pos k with hk0 | hk0
        · have HOK : Hid (okSeat l k = true) := by
            show okSeat l k = true
            unfold okSeat; rw [getElem!_pos l k hlt, HY.out, hq]; simp [hk0]
          have hkz : decide ((0 : Int) < (k : Int)) = false := by simp; omega
          have hkz2 : decide (0 < k) = false := by simp; omega
          clear hq hk0
          go_wp2_with fail
          have tb := fun n os => ((SeatAt.fresh wr r x y kk).next (grown_below _ n os))
          have d0 := fun n os => (tb n os).c0
          have d1 := fun n os => (tb n os).c1
          have d2 := fun n os => (tb n os).c2
          have d3 := fun n os => (tb n os).c3
          clear tb
          simp only [Nat.zero_add] at d1 d2 d3
          refine wp_region_quiet_grown hm (by kernel_rfl) ?_
          repeat (go_big_quiet_step ((go_at_call 51; exact Calls.grown_of (hs _))))
          refine wpQuiet_nil ?_
          intro _ hw'
          obtain ⟨⟨nq, osq⟩, hw''⟩ := hw'
          subst hw''
          go_wp2
          go_roundw
          case rel =>
            refine ⟨k + 1, by omega, by go_num, hB.trans ((((Below.refl _ wr).alloc (Nat.le_refl _) _).trans ((grown_below _ nq osq).mono (by simp))).mono hB.size), ?_⟩
            show ∀ j, j < k + 1 → okSeat l j = true
            intro j h
            rcases Nat.lt_or_ge j k with h' | h'
            · exact HA.out j h'
            · have e : j = k := by omega
              subst e; exact HOK.out
          case measure => simp [intOf]; omega
        · have hkz : (0 : Int) < (k : Int) := by omega
          have tp := (HC.out.next hB).seat (k - 1) (by omega)
          have hle := less_any l[k - 1].row l[k - 1].x l[k - 1].y l[k - 1].kind r x y kk
          have hok := okSeat_succ l k hk0 hlt
          rw [HY.out, hq, Bool.true_and] at hok
          generalize l[k - 1] = z at tp hle hok
          obtain ⟨pr, px, py, pk⟩ := z
          simp only at tp hle
          clear hq
          have hkm : ((k : Int) - 1) = ((k - 1 : Nat) : Int) := by omega
          have HKM : Hid (((k : Int) - 1) = ((k - 1 : Nat) : Int)) := hkm
          cases hx : ltS ⟨pr, px, py, pk⟩ ⟨r, x, y, kk⟩ with
          | true =>
            rw [hx] at hle hok
            have HOK : Hid (okSeat l k = true) := hok
            clear hok hx
            go_wp2_with fail
            have tq := fun n os => ((tp.next ((Below.refl _ wr).alloc (Nat.le_refl _) _)).next (grown_below (wr.alloc (.cells #[.int .i64 r, .int .i64 x, .int .i64 y, .int .i64 kk] 44)) n os))
            have e0 := fun n os => (tq n os).c0
            have e1 := fun n os => (tq n os).c1
            have e2 := fun n os => (tq n os).c2
            have e3 := fun n os => (tq n os).c3
            clear tq
            have tb := fun n os => ((SeatAt.fresh wr r x y kk).next (grown_below _ n os))
            have d0 := fun n os => (tb n os).c0
            have d1 := fun n os => (tb n os).c1
            have d2 := fun n os => (tb n os).c2
            have d3 := fun n os => (tb n os).c3
            clear tb
            simp only [Nat.zero_add] at d1 d2 d3
            refine wp_region_quiet_grown hm (by kernel_rfl) ?_
            repeat (go_big_quiet_step ((first | (go_at_call 51; exact Calls.grown_of (hs _)) | (go_at_call 52; exact Calls.grown_of (hle _)))))
            refine wpQuiet_nil ?_
            intro _ hw'
            obtain ⟨⟨nq, osq⟩, hw''⟩ := hw'
            subst hw''
            go_wp2
            go_roundw
            case rel =>
              refine ⟨k + 1, by omega, by go_num, hB.trans ((((Below.refl _ wr).alloc (Nat.le_refl _) _).trans ((grown_below _ nq osq).mono (by simp))).mono hB.size), ?_⟩
              show ∀ j, j < k + 1 → okSeat l j = true
              intro j h
              rcases Nat.lt_or_ge j k with h' | h'
              · exact HA.out j h'
              · have e : j = k := by omega
                subst e; exact HOK.out
            case measure => simp [intOf]; omega
          | false =>
            rw [hx] at hle hok
            have HOK : Hid (okSeat l k = false) := hok
            clear hok hx
            go_wp2_with fail
            have tq := fun n os => ((tp.next ((Below.refl _ wr).alloc (Nat.le_refl _) _)).next (grown_below (wr.alloc (.cells #[.int .i64 r, .int .i64 x, .int .i64 y, .int .i64 kk] 44)) n os))
            have e0 := fun n os => (tq n os).c0
            have e1 := fun n os => (tq n os).c1
            have e2 := fun n os => (tq n os).c2
            have e3 := fun n os => (tq n os).c3
            clear tq
            have tb := fun n os => ((SeatAt.fresh wr r x y kk).next (grown_below _ n os))
            have d0 := fun n os => (tb n os).c0
            have d1 := fun n os => (tb n os).c1
            have d2 := fun n os => (tb n os).c2
            have d3 := fun n os => (tb n os).c3
            clear tb
            simp only [Nat.zero_add] at d1 d2 d3
            refine wp_region_quiet_grown hm (by kernel_rfl) ?_
            repeat (go_big_quiet_step ((first | (go_at_call 51; exact Calls.grown_of (hs _)) | (go_at_call 52; exact Calls.grown_of (hle _)))))
            refine wpQuiet_nil ?_
            intro _ hw'
            obtain ⟨⟨nq, osq⟩, hw''⟩ := hw'
            subst hw''
            go_wp2
            go_ret
            exact ⟨ret_bool (upB_hit _ _ k hlt HOK.out).symm, hB.trans ((((Below.refl _ wr).alloc (Nat.le_refl _) _).trans ((grown_below _ nq osq).mono (by simp))).mono hB.size)⟩
    · have hltz : ¬ (k : Int) < (l.length : Int) := by omega
      go_wp2
      go_ret
      exact ⟨ret_bool (upB_all _ _ (fun j hj => HA.out j (by omega))).symm, hB⟩

theorem seatsMay_any (l : List Seat) (v : Value) (w : World) (hS : Sl 4 seatC w v l) :
    Calls Try.prog 42 #[v] w fun e w' => e = .returned (.bool (seatsB l)) ∧ Below w.heap.size w w' := by
  rcases hS with ⟨⟨a, c, rfl⟩, rfl⟩ | ⟨b, off, cap, rfl, _, _, hC⟩
  · exact (seatsMay_none a c w).mono fun e w' ⟨he, hw⟩ => ⟨he, by rw [hw]; exact Below.refl _ w⟩
  · unfold seatsB
    by_cases h1 : 1 ≤ l.length
    · by_cases h2 : l.length ≤ 4096
      · simp only [h1, h2, decide_true, Bool.true_and]
        exact seatsMay_some l b off cap h1 h2 w hC
      · simp only [h2, decide_false, Bool.and_false, Bool.false_and]
        exact (seatsMay_size _ _ cap (by omega) w).mono fun e w' ⟨he, hw⟩ => ⟨he, by rw [hw]; exact Below.refl _ w⟩
    · simp only [h1, decide_false, Bool.false_and]
      exact (seatsMay_size _ _ cap (by omega) w).mono fun e w' ⟨he, hw⟩ => ⟨he, by rw [hw]; exact Below.refl _ w⟩
end Go.Proofs.Ytbmmjbklfheghaa.Ven
