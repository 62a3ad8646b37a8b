/- parterreref2.seats, kills, poles by their contracts. -/
import Derived.Test.YtbmmjbklfheghaaVRLeaf
namespace Go.Proofs.Ytbmmjbklfheghaa.Ven
set_option linter.unusedVariables false
set_option maxRecDepth 100000
open Go.RowKit Go.Shelf

theorem rowB_in (r : Int) : (decide (0 ≤ r) && decide (r ≤ 999)) = rowB r := by
  unfold rowB
  congr 1
  exact decide_eq_decide.2 (by omega)
theorem isSeat_in (k n : Int) : (decide (0 ≤ k) && decide (k ≤ n - 1)) = isSeatB k n := by
  unfold isSeatB
  congr 1
  exact decide_eq_decide.2 (by omega)
theorem seatsB_hit (l : List Seat) (k : Nat) (hk : k < l.length) (h : okSeat l k = false) : seatsB l = false := by
  unfold seatsB; rw [upB_hit _ _ k hk h, Bool.and_false]
theorem seatsB_end (l : List Seat) (h : ∀ j, j < l.length → okSeat l j = true) : seatsB l = (decide (1 ≤ l.length) && decide (l.length ≤ 4096)) := by
  unfold seatsB; rw [upB_all _ _ h, Bool.and_true]
theorem killsB_hit (l : List Int) (n : Int) (k : Nat) (hk : k < l.length) (h : okKill l n k = false) : killsB l n = false := by
  unfold killsB; rw [upB_hit _ _ k hk h, Bool.and_false]
theorem killsB_end (l : List Int) (n : Int) (h : ∀ j, j < l.length → okKill l n j = true) : killsB l n = decide (l.length ≤ 200) := by
  unfold killsB; rw [upB_all _ _ h, Bool.and_true]
theorem polesB_hit (l : List Pole) (k : Nat) (hk : k < l.length) (h : okPole l k = false) : polesB l = false := by
  unfold polesB; rw [upB_hit _ _ k hk h, Bool.and_false]
theorem polesB_end (l : List Pole) (h : ∀ j, j < l.length → okPole l j = true) : polesB l = decide (l.length ≤ 200) := by
  unfold polesB; rw [upB_all _ _ h, Bool.and_true]
theorem okSeat_parts (l : List Seat) (k : Nat) (h : k < l.length) (r x y kk : Int) (e : l[k] = ⟨r, x, y, kk⟩) : okSeat l k = (rowB r && (coordB x && coordB y) && kindB kk && (k == 0 || ltS l[k - 1]! ⟨r, x, y, kk⟩)) := by
  unfold okSeat; rw [getElem!_pos l k h, e]; rfl
theorem rseats_zero (a : Option Addr) (c : Nat) (w : World) : Calls Try.prog 37 #[.slice a 0 c] w fun e w' => e = .returned (.bool false) ∧ w' = w := by
  go_enter Try.func37, Try.ntmps37
  go_wp2
  go_loop [3, 4] (fun i _ => i = .int .i64 0) (fun _ _ => 0)
  case atStart => rfl
  case round =>
    subst hrel
    go_wp2
    go_ret
    exact ⟨rfl, rfl⟩
set_option maxHeartbeats 4000000 in
theorem rseats_some (l : List Seat) (b off cap : Nat) (hm : l.length ≤ 9223372036854775807) (w : World) (hC : Cells 4 seatC w b off l) :
    Calls Try.prog 37 #[.slice (some ⟨b, off, none⟩) l.length cap] w fun e w' => e = .returned (.bool (seatsB l)) ∧ Below w.heap.size w w' := by
  have HC : Hid (Cells 4 seatC w b off l) := hC
  clear hC
  go_enter Try.func37, Try.ntmps37
  go_wp2
  go_loopw [3, 4] (fun i _ wr => ∃ k : Nat, k ≤ l.length ∧ i = .int .i64 k ∧ Below w.heap.size w wr ∧ Hid (∀ j, j < k → okSeat l j = true)) (fun i _ _ => l.length - (intOf i).toNat)
  case atStart => exact ⟨0, Nat.zero_le _, rfl, Below.refl _ w, by intro j hj; omega⟩
  case round =>
    obtain ⟨k, hk, rfl, hB, HA⟩ := hrel
    by_cases hlt : k < l.length
    · have hltz : (k : Int) < (l.length : Int) := by omega
      have ta := (HC.out.next hB).seat k hlt
      generalize hy : l[k] = y at ta
      obtain ⟨r, x, y, kk⟩ := y
      simp only at ta
      have hok := okSeat_parts l k hlt r x y kk hy
      clear hy
      have hsl := ta.lt
      obtain ⟨_, c0, c1, c2, c3⟩ := ta
      have g1 := in_any r 0 999
      rw [rowB_in] at g1
      have g2 := rcoord_any x
      have g3 := rcoord_any y
      have g4 : ∀ w, Calls Try.prog 38 #[.int .i64 kk, .int .i64 0, .int .i64 2] w fun e w' => e = .returned (.bool (kindB kk)) ∧ w' = w := in_any kk 0 2
      generalize rowB r = bA at g1 hok
      generalize coordB x = bB at g2 hok
      generalize coordB y = bC at g3 hok
      generalize kindB kk = bD at g4 hok
      go_wp2_with fail
      have hbW : Below w.heap.size w (wr.alloc (.cells #[.int .i64 r, .int .i64 x, .int .i64 y, .int .i64 kk] 44)) := hB.alloc hB.size _
      have tb := SeatAt.fresh wr r x y kk
      have hprev : ∀ (hk0 : 0 < k), SeatAt (wr.alloc (.cells #[.int .i64 r, .int .i64 x, .int .i64 y, .int .i64 kk] 44)) b (off + (k - 1) * 4) l[k - 1].row l[k - 1].x l[k - 1].y l[k - 1].kind := fun hk0 => (HC.out.next hbW).seat (k - 1) (by omega)
      have hpv : ∀ (hk0 : 0 < k), l[k - 1]! = l[k - 1] := fun hk0 => getElem!_pos l (k - 1) (by omega)
      have HP : Hid (∀ (hk0 : 0 < k), SeatAt (wr.alloc (.cells #[.int .i64 r, .int .i64 x, .int .i64 y, .int .i64 kk] 44)) b (off + (k - 1) * 4) l[k - 1].row l[k - 1].x l[k - 1].y l[k - 1].kind) := hprev
      have HPV : Hid (∀ (hk0 : 0 < k), l[k - 1]! = l[k - 1]) := hpv
      clear hprev hpv c0 c1 c2 c3 hsl
      have hBlk : wr.heap.size < (wr.alloc (.cells #[.int .i64 r, .int .i64 x, .int .i64 y, .int .i64 kk] 44)).heap.size := by simp
      generalize wr.alloc (.cells #[.int .i64 r, .int .i64 x, .int .i64 y, .int .i64 kk] 44) = W at hbW tb HP hBlk ⊢
      generalize wr.heap.size = B at tb hBlk ⊢
      have hne : Nonempty (BelowOf W) := ⟨⟨W, Below.refl _ W⟩⟩
      have d0 := fun p : BelowOf W => (tb.next p.h).c0
      have d1 := fun p : BelowOf W => (tb.next p.h).c1
      have d2 := fun p : BelowOf W => (tb.next p.h).c2
      have d3 := fun p : BelowOf W => (tb.next p.h).c3
      simp only [Nat.zero_add] at d1 d2 d3
      have HBW : Hid (Below w.heap.size w W) := hbW
      clear tb hbW hB hBlk
      cases bA
      · have HOK : Hid (okSeat l k = false) := hok.trans (by simp)
        clear hok
        refine wp_region_quiet_below mixed (by kernel_rfl) ?_
        repeat (go_big_quiet_step ((first | (go_at_call_of 38 (Value.int IntKind.i64 999); exact Calls.below_of (same_world (g1 _))) | (go_at_call_of 38 (Value.int IntKind.i64 2); exact Calls.below_of (same_world (g4 _))) | (go_at_call_of 49 (Value.int IntKind.i64 x); exact Calls.below_of (same_world (g2 _))) | (go_at_call_of 49 (Value.int IntKind.i64 y); exact Calls.below_of (same_world (g3 _))))))
        refine wpQuiet_nil ?_
        intro _ hw'
        obtain ⟨p, hw''⟩ := hw'
        subst hw''
        go_wp2
        go_ret
        exact ⟨ret_bool (seatsB_hit l k hlt HOK.out).symm, HBW.out.trans (p.h.mono HBW.out.size)⟩
      cases bB
      · have HOK : Hid (okSeat l k = false) := hok.trans (by simp)
        clear hok
        refine wp_region_quiet_below mixed (by kernel_rfl) ?_
        repeat (go_big_quiet_step ((first | (go_at_call_of 38 (Value.int IntKind.i64 999); exact Calls.below_of (same_world (g1 _))) | (go_at_call_of 38 (Value.int IntKind.i64 2); exact Calls.below_of (same_world (g4 _))) | (go_at_call_of 49 (Value.int IntKind.i64 x); exact Calls.below_of (same_world (g2 _))) | (go_at_call_of 49 (Value.int IntKind.i64 y); exact Calls.below_of (same_world (g3 _))))))
        refine wpQuiet_nil ?_
        intro _ hw'
        obtain ⟨p, hw''⟩ := hw'
        subst hw''
        go_wp2
        go_ret
        exact ⟨ret_bool (seatsB_hit l k hlt HOK.out).symm, HBW.out.trans (p.h.mono HBW.out.size)⟩
      cases bC
      · have HOK : Hid (okSeat l k = false) := hok.trans (by simp)
        clear hok
        refine wp_region_quiet_below mixed (by kernel_rfl) ?_
        repeat (go_big_quiet_step ((first | (go_at_call_of 38 (Value.int IntKind.i64 999); exact Calls.below_of (same_world (g1 _))) | (go_at_call_of 38 (Value.int IntKind.i64 2); exact Calls.below_of (same_world (g4 _))) | (go_at_call_of 49 (Value.int IntKind.i64 x); exact Calls.below_of (same_world (g2 _))) | (go_at_call_of 49 (Value.int IntKind.i64 y); exact Calls.below_of (same_world (g3 _))))))
        refine wpQuiet_nil ?_
        intro _ hw'
        obtain ⟨p, hw''⟩ := hw'
        subst hw''
        go_wp2
        go_ret
        exact ⟨ret_bool (seatsB_hit l k hlt HOK.out).symm, HBW.out.trans (p.h.mono HBW.out.size)⟩
      cases bD
      · have HOK : Hid (okSeat l k = false) := hok.trans (by simp)
        clear hok
        refine wp_region_quiet_below mixed (by kernel_rfl) ?_
        repeat (go_big_quiet_step ((first | (go_at_call_of 38 (Value.int IntKind.i64 999); exact Calls.below_of (same_world (g1 _))) | (go_at_call_of 38 (Value.int IntKind.i64 2); exact Calls.below_of (same_world (g4 _))) | (go_at_call_of 49 (Value.int IntKind.i64 x); exact Calls.below_of (same_world (g2 _))) | (go_at_call_of 49 (Value.int IntKind.i64 y); exact Calls.below_of (same_world (g3 _))))))
        refine wpQuiet_nil ?_
        intro _ hw'
        obtain ⟨p, hw''⟩ := hw'
        subst hw''
        go_wp2
        go_ret
        exact ⟨ret_bool (seatsB_hit l k hlt HOK.out).symm, HBW.out.trans (p.h.mono HBW.out.size)⟩
      rcases Nat.eq_zero_or_pos k with hk0 | hk0
      · have HOK : Hid (okSeat l k = true) := hok.trans (by simp [hk0])
        have hkz : decide ((0 : Int) < (k : Int)) = false := by simp; omega
        have hkz2 : decide (0 < k) = false := by simp; omega
        clear hok hk0
        refine wp_region_quiet_below mixed (by kernel_rfl) ?_
        repeat (go_big_quiet_step ((first | (go_at_call_of 38 (Value.int IntKind.i64 999); exact Calls.below_of (same_world (g1 _))) | (go_at_call_of 38 (Value.int IntKind.i64 2); exact Calls.below_of (same_world (g4 _))) | (go_at_call_of 49 (Value.int IntKind.i64 x); exact Calls.below_of (same_world (g2 _))) | (go_at_call_of 49 (Value.int IntKind.i64 y); exact Calls.below_of (same_world (g3 _))))))
        refine wpQuiet_nil ?_
        intro _ hw'
        obtain ⟨p, hw''⟩ := hw'
        subst hw''
        go_wp2
        go_roundw
        case rel =>
          refine ⟨k + 1, by omega, by go_num, HBW.out.trans (p.h.mono HBW.out.size), ?_⟩
          show ∀ j, j < k + 1 → okSeat l j = true
          intro j h
          rcases Nat.lt_or_ge j k with h' | h'
          · exact HA.out j h'
          · have e : j = k := by omega
            subst e; exact HOK.out
        case measure => simp [intOf]; omega
      · have hkz : (0 : Int) < (k : Int) := by omega
        have tp := HP.out hk0
        have hle := rless_any l[k - 1].row l[k - 1].x l[k - 1].y l[k - 1].kind r x y kk
        rw [HPV.out hk0] at hok
        generalize l[k - 1] = z at tp hle hok
        obtain ⟨pr, px, py, pk⟩ := z
        simp only at tp hle
        have hkm : ((k : Int) - 1) = ((k - 1 : Nat) : Int) := by omega
        have hk1 : ((k - 1 : Nat) : Int) < (l.length : Int) := by omega
        have hk9 : (k == 0) = false := by simp; omega
        rw [hk9] at hok
        have e0 := fun p : BelowOf W => (tp.next p.h).c0
        have e1 := fun p : BelowOf W => (tp.next p.h).c1
        have e2 := fun p : BelowOf W => (tp.next p.h).c2
        have e3 := fun p : BelowOf W => (tp.next p.h).c3
        clear tp hk9
        generalize ltS ⟨pr, px, py, pk⟩ ⟨r, x, y, kk⟩ = bL at hle hok
        cases bL
        · have HOK : Hid (okSeat l k = false) := hok.trans (by simp)
          clear hok
          refine wp_region_quiet_below mixed (by kernel_rfl) ?_
          repeat (go_big_quiet_step ((first | (go_at_call_of 38 (Value.int IntKind.i64 999); exact Calls.below_of (same_world (g1 _))) | (go_at_call_of 38 (Value.int IntKind.i64 2); exact Calls.below_of (same_world (g4 _))) | (go_at_call_of 49 (Value.int IntKind.i64 x); exact Calls.below_of (same_world (g2 _))) | (go_at_call_of 49 (Value.int IntKind.i64 y); exact Calls.below_of (same_world (g3 _))) | (go_at_call 50; exact Calls.below_of (hle _)))))
          refine wpQuiet_nil ?_
          intro _ hw'
          obtain ⟨p, hw''⟩ := hw'
          subst hw''
          go_wp2
          go_ret
          exact ⟨ret_bool (seatsB_hit l k hlt HOK.out).symm, HBW.out.trans (p.h.mono HBW.out.size)⟩
        · have HOK : Hid (okSeat l k = true) := hok.trans (by simp)
          clear hok
          refine wp_region_quiet_below mixed (by kernel_rfl) ?_
          repeat (go_big_quiet_step ((first | (go_at_call_of 38 (Value.int IntKind.i64 999); exact Calls.below_of (same_world (g1 _))) | (go_at_call_of 38 (Value.int IntKind.i64 2); exact Calls.below_of (same_world (g4 _))) | (go_at_call_of 49 (Value.int IntKind.i64 x); exact Calls.below_of (same_world (g2 _))) | (go_at_call_of 49 (Value.int IntKind.i64 y); exact Calls.below_of (same_world (g3 _))) | (go_at_call 50; exact Calls.below_of (hle _)))))
          refine wpQuiet_nil ?_
          intro _ hw'
          obtain ⟨p, hw''⟩ := hw'
          subst hw''
          go_wp2
          go_roundw
          case rel =>
            refine ⟨k + 1, by omega, by go_num, HBW.out.trans (p.h.mono HBW.out.size), ?_⟩
            show ∀ j, j < k + 1 → okSeat l j = true
            intro j h
            rcases Nat.lt_or_ge j k with h' | h'
            · exact HA.out j h'
            · have e : j = k := by omega
              subst e; exact HOK.out
          case measure => simp [intOf]; omega
    · have hltz : ¬ (k : Int) < (l.length : Int) := by omega
      have HE : Hid (seatsB l = (decide (1 ≤ l.length) && decide (l.length ≤ 4096))) := seatsB_end l (fun j hj => HA.out j (by omega))
      by_cases h1 : (1 : Int) ≤ (l.length : Int)
      · by_cases h2 : (l.length : Int) ≤ 4096
        · go_wp2
          go_ret
          exact ⟨ret_bool (by rw [HE.out]; simp; omega), hB⟩
        · go_wp2
          go_ret
          exact ⟨ret_bool (by rw [HE.out]; simp; omega), hB⟩
      · go_wp2
        go_ret
        exact ⟨ret_bool (by rw [HE.out]; simp; omega), hB⟩
theorem rseats_any (l : List Seat) (v : Value) (w : World) (hS : Sl 4 seatC w v l) :
    Calls Try.prog 37 #[v] w fun e w' => e = .returned (.bool (seatsB l)) ∧ Below w.heap.size w w' := by
  have hm := hS.max
  rcases hS with ⟨⟨a, c, rfl⟩, rfl⟩ | ⟨b, off, cap, rfl, _, _, hC⟩
  · exact (rseats_zero a c w).mono fun e w' ⟨he, hw⟩ => ⟨he, by rw [hw]; exact Below.refl _ w⟩
  · exact rseats_some l b off cap hm w hC
theorem rkills_zero (a : Option Addr) (cp : Nat) (c : Int) (w : World) : Calls Try.prog 39 #[.slice a 0 cp, .int .i64 c] w fun e w' => e = .returned (.bool true) ∧ w' = w := by
  go_enter Try.func39, Try.ntmps39
  go_wp2
  go_loop [5] (fun i => i = .int .i64 0) (fun _ => 0)
  case atStart => rfl
  case round =>
    subst hrel
    go_wp2
    go_ret
    exact ⟨rfl, rfl⟩
theorem okKill_parts (l : List Int) (c : Int) (k : Nat) (h : k < l.length) (y : Int) (e : l[k] = y) : okKill l c k = (isSeatB y c && (k == 0 || decide (l[k - 1]! < y))) := by
  unfold okKill; rw [getElem!_pos l k h, e]
set_option maxHeartbeats 4000000 in
theorem rkills_some (l : List Int) (b off cap : Nat) (hm : l.length ≤ 9223372036854775807) (c : Int) (hc : -9223372036854775807 ≤ c ∧ c ≤ 9223372036854775807) (w : World) (hC : Cells 1 intC w b off l) :
    Calls Try.prog 39 #[.slice (some ⟨b, off, none⟩) l.length cap, .int .i64 c] w fun e w' => e = .returned (.bool (killsB l c)) ∧ Below w.heap.size w w' := by
  have HC : Hid (Cells 1 intC w b off l) := hC
  have hbl := hC.1
  have hwc : IntKind.i64.wrap (c - 1) = c - 1 := by rw [IntKind.wrap_i64]; omega
  clear hC
  go_enter Try.func39, Try.ntmps39
  go_wp2
  go_loopw [5] (fun i wr => ∃ (k : Nat), k ≤ l.length ∧ i = .int .i64 k ∧ Below w.heap.size w wr ∧ Hid (∀ j, j < k → okKill l c j = true)) (fun i _ => l.length - (intOf i).toNat)
  case atStart => exact ⟨0, Nat.zero_le _, rfl, Below.refl _ w, by intro j hj; omega⟩
  case round =>
    obtain ⟨k, hk, rfl, hB, HA⟩ := hrel
    have hne : Nonempty (BelowOf wr) := ⟨⟨wr, Below.refl _ wr⟩⟩
    have HB : Hid (Below w.heap.size w wr) := hB
    by_cases hlt : k < l.length
    · have hltz : (k : Int) < (l.length : Int) := by omega
      have c0 := fun p : BelowOf wr => ((HC.out.next hB).next p.h).int k hlt
      generalize hy : l[k] = y at c0
      have hok := okKill_parts l c k hlt y hy
      clear hy hB
      have g1 := in_any y 0 (c - 1)
      rw [isSeat_in] at g1
      generalize isSeatB y c = bA at g1 hok
      cases bA
      · have HOK : Hid (okKill l c k = false) := hok.trans (by simp)
        clear hok
        go_wp2_with fail
        refine wp_region_quiet_below mixed (by kernel_rfl) ?_
        repeat (go_big_quiet_step ((go_at_call 38; exact Calls.below_of (same_world (g1 _)))))
        refine wpQuiet_nil ?_
        intro _ hw'
        obtain ⟨p, hw''⟩ := hw'
        subst hw''
        go_wp2
        go_ret
        exact ⟨ret_bool (killsB_hit l c k hlt HOK.out).symm, HB.out.trans (p.h.mono HB.out.size)⟩
      rcases Nat.eq_zero_or_pos k with hk0 | hk0
      · have HOK : Hid (okKill l c k = true) := hok.trans (by simp [hk0])
        have hkz : decide ((0 : Int) < (k : Int)) = false := by simp; omega
        have hkz2 : decide (0 < k) = false := by simp; omega
        clear hok hk0
        go_wp2_with fail
        refine wp_region_quiet_below mixed (by kernel_rfl) ?_
        repeat (go_big_quiet_step ((go_at_call 38; exact Calls.below_of (same_world (g1 _)))))
        refine wpQuiet_nil ?_
        intro _ hw'
        obtain ⟨p, hw''⟩ := hw'
        subst hw''
        go_wp2
        go_roundw
        case rel =>
          refine ⟨k + 1, by omega, by go_num, HB.out.trans (p.h.mono HB.out.size), ?_⟩
          show ∀ j, j < k + 1 → okKill l c j = true
          intro j h
          rcases Nat.lt_or_ge j k with h' | h'
          · exact HA.out j h'
          · have e : j = k := by omega
            subst e; exact HOK.out
        case measure => simp [intOf]; omega
      · have hkz : (0 : Int) < (k : Int) := by omega
        have hlt1 : k - 1 < l.length := by omega
        have c1 := fun p : BelowOf wr => ((HC.out.next HB.out).next p.h).int (k - 1) hlt1
        have hk9 : (k == 0) = false := by simp; omega
        rw [hk9, getElem!_pos l (k - 1) hlt1] at hok
        generalize l[k - 1] = z at c1 hok
        clear hk9
        have hkm : ((k : Int) - 1) = ((k - 1 : Nat) : Int) := by omega
        have hk1 : ((k - 1 : Nat) : Int) < (l.length : Int) := by omega
        by_cases hx : z < y
        · have HOK : Hid (okKill l c k = true) := hok.trans (by simp [hx])
          clear hok
          have hx' : decide (y ≤ z) = false := by simp; omega
          go_wp2_with fail
          refine wp_region_quiet_below mixed (by kernel_rfl) ?_
          repeat (go_big_quiet_step ((go_at_call 38; exact Calls.below_of (same_world (g1 _)))))
          refine wpQuiet_nil ?_
          intro _ hw'
          obtain ⟨p, hw''⟩ := hw'
          subst hw''
          go_wp2
          go_roundw
          case rel =>
            refine ⟨k + 1, by omega, by go_num, HB.out.trans (p.h.mono HB.out.size), ?_⟩
            show ∀ j, j < k + 1 → okKill l c j = true
            intro j h
            rcases Nat.lt_or_ge j k with h' | h'
            · exact HA.out j h'
            · have e : j = k := by omega
              subst e; exact HOK.out
          case measure => simp [intOf]; omega
        · have HOK : Hid (okKill l c k = false) := hok.trans (by simp [hx])
          clear hok
          have hx' : y ≤ z := by omega
          go_wp2_with fail
          refine wp_region_quiet_below mixed (by kernel_rfl) ?_
          repeat (go_big_quiet_step ((go_at_call 38; exact Calls.below_of (same_world (g1 _)))))
          refine wpQuiet_nil ?_
          intro _ hw'
          obtain ⟨p, hw''⟩ := hw'
          subst hw''
          go_wp2
          go_ret
          exact ⟨ret_bool (killsB_hit l c k hlt HOK.out).symm, HB.out.trans (p.h.mono HB.out.size)⟩
    · have hltz : ¬ (k : Int) < (l.length : Int) := by omega
      have HE : Hid (killsB l c = decide (l.length ≤ 200)) := killsB_end l c (fun j hj => HA.out j (by omega))
      by_cases h2 : (l.length : Int) ≤ 200
      · go_wp2
        go_ret
        exact ⟨ret_bool (by rw [HE.out]; simp; omega), HB.out⟩
      · go_wp2
        go_ret
        exact ⟨ret_bool (by rw [HE.out]; simp; omega), HB.out⟩
theorem rkills_any (l : List Int) (v : Value) (c : Int) (hc : -9223372036854775807 ≤ c ∧ c ≤ 9223372036854775807) (w : World) (hS : Sl 1 intC w v l) :
    Calls Try.prog 39 #[v, .int .i64 c] w fun e w' => e = .returned (.bool (killsB l c)) ∧ Below w.heap.size w w' := by
  have hm := hS.max
  rcases hS with ⟨⟨a, cp, rfl⟩, rfl⟩ | ⟨b, off, cap, rfl, _, _, hC⟩
  · exact (rkills_zero a cp c w).mono fun e w' ⟨he, hw⟩ => ⟨he, by rw [hw]; exact Below.refl _ w⟩
  · exact rkills_some l b off cap hm c hc w hC
theorem rpoles_zero (a : Option Addr) (cp : Nat) (w : World) : Calls Try.prog 40 #[.slice a 0 cp] w fun e w' => e = .returned (.bool true) ∧ w' = w := by
  go_enter Try.func40, Try.ntmps40
  go_wp2
  go_loop [3] (fun i => i = .int .i64 0) (fun _ => 0)
  case atStart => rfl
  case round =>
    subst hrel
    go_wp2
    go_ret
    exact ⟨rfl, rfl⟩
theorem okPole_parts (l : List Pole) (k : Nat) (h : k < l.length) (x y r : Int) (e : l[k] = ⟨x, y, r⟩) : okPole l k = ((coordB x && coordB y) && lengthB r) := by
  unfold okPole; rw [getElem!_pos l k h, e]; rfl
set_option maxHeartbeats 4000000 in
theorem rpoles_some (l : List Pole) (b off cap : Nat) (hm : l.length ≤ 9223372036854775807) (w : World) (hC : Cells 3 poleC w b off l) :
    Calls Try.prog 40 #[.slice (some ⟨b, off, none⟩) l.length cap] w fun e w' => e = .returned (.bool (polesB l)) ∧ w' = w := by
  have HC : Hid (Cells 3 poleC w b off l) := hC
  clear hC
  go_enter Try.func40, Try.ntmps40
  go_wp2
  go_loop [3] (fun i => ∃ k : Nat, k ≤ l.length ∧ i = .int .i64 k ∧ Hid (∀ j, j < k → okPole l j = true)) (fun i => l.length - (intOf i).toNat)
  case atStart => exact ⟨0, Nat.zero_le _, rfl, by intro j hj; omega⟩
  case round =>
    obtain ⟨k, hk, rfl, HA⟩ := hrel
    by_cases hlt : k < l.length
    · have hltz : (k : Int) < (l.length : Int) := by omega
      have ta := HC.out.pole k hlt
      generalize hy : l[k] = y at ta
      obtain ⟨x, y, r⟩ := y
      simp only at ta
      have hok := okPole_parts l k hlt x y r hy
      clear hy
      obtain ⟨_, c0, c1, c2⟩ := ta
      have g1 := rcoord_any x
      have g2 := rcoord_any y
      have g3 : ∀ w, Calls Try.prog 38 #[.int .i64 r, .int .i64 1, .int .i64 1048576] w fun e w' => e = .returned (.bool (lengthB r)) ∧ w' = w := in_any r 1 1048576
      generalize coordB x = bA at g1 hok
      generalize coordB y = bB at g2 hok
      generalize lengthB r = bC at g3 hok
      cases bA
      · have HOK : Hid (okPole l k = false) := hok.trans (by simp)
        clear hok
        go_wp2_with fail
        refine (g1 _).mono ?_
        rintro e w' ⟨rfl, rfl⟩
        go_wp2
        go_ret
        exact ⟨ret_bool (polesB_hit l k hlt HOK.out).symm, rfl⟩
      cases bB
      · have HOK : Hid (okPole l k = false) := hok.trans (by simp)
        clear hok
        go_wp2_with fail
        refine (g1 _).mono ?_
        rintro e w' ⟨rfl, rfl⟩
        go_wp2_with fail
        refine (g2 _).mono ?_
        rintro e w' ⟨rfl, rfl⟩
        go_wp2
        go_ret
        exact ⟨ret_bool (polesB_hit l k hlt HOK.out).symm, rfl⟩
      cases bC
      · have HOK : Hid (okPole l k = false) := hok.trans (by simp)
        clear hok
        go_wp2_with fail
        refine (g1 _).mono ?_
        rintro e w' ⟨rfl, rfl⟩
        go_wp2_with fail
        refine (g2 _).mono ?_
        rintro e w' ⟨rfl, rfl⟩
        go_wp2_with fail
        refine (g3 _).mono ?_
        rintro e w' ⟨rfl, rfl⟩
        go_wp2
        go_ret
        exact ⟨ret_bool (polesB_hit l k hlt HOK.out).symm, rfl⟩
      have HOK : Hid (okPole l k = true) := hok.trans (by simp)
      clear hok
      go_wp2_with fail
      refine (g1 _).mono ?_
      rintro e w' ⟨rfl, rfl⟩
      go_wp2_with fail
      refine (g2 _).mono ?_
      rintro e w' ⟨rfl, rfl⟩
      go_wp2_with fail
      refine (g3 _).mono ?_
      rintro e w' ⟨rfl, rfl⟩
      go_wp2
      go_round
      case rel =>
        refine ⟨k + 1, by omega, by go_num, ?_⟩
        show ∀ j, j < k + 1 → okPole l j = true
        intro j h
        rcases Nat.lt_or_ge j k with h' | h'
        · exact HA.out j h'
        · have e : j = k := by omega
          subst e; exact HOK.out
      case measure => simp [intOf]; omega
    · have hltz : ¬ (k : Int) < (l.length : Int) := by omega
      have HE : Hid (polesB l = decide (l.length ≤ 200)) := polesB_end l (fun j hj => HA.out j (by omega))
      by_cases h2 : (l.length : Int) ≤ 200
      · go_wp2
        go_ret
        exact ⟨ret_bool (by rw [HE.out]; simp; omega), rfl⟩
      · go_wp2
        go_ret
        exact ⟨ret_bool (by rw [HE.out]; simp; omega), rfl⟩
theorem rpoles_any (l : List Pole) (v : Value) (w : World) (hS : Sl 3 poleC w v l) :
    Calls Try.prog 40 #[v] w fun e w' => e = .returned (.bool (polesB l)) ∧ Below w.heap.size w w' := by
  have hm := hS.max
  rcases hS with ⟨⟨a, cp, rfl⟩, rfl⟩ | ⟨b, off, cap, rfl, _, _, hC⟩
  · exact (rpoles_zero a cp w).mono fun e w' ⟨he, hw⟩ => ⟨he, by rw [hw]; exact Below.refl _ w⟩
  · exact (rpoles_some l b off cap hm w hC).mono fun e w' ⟨he, hw⟩ => ⟨he, by rw [hw]; exact Below.refl _ w⟩
end Go.Proofs.Ytbmmjbklfheghaa.Ven
