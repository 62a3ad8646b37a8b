/- venue.killsMay, venue.polesMay by their contracts. -/
import Derived.Test.YtbmmjbklfheghaaVSeats
namespace Go.Proofs.Ytbmmjbklfheghaa.Ven
set_option linter.unusedVariables false
set_option maxRecDepth 100000
open Go.RowKit Go.Shelf

theorem Cells.int {w : World} {b off : Nat} {l : List Int} (h : Cells 1 intC w b off l) (k : Nat) (hk : k < l.length) : w.cell? ⟨b, off + k, none⟩ = some (.int .i64 l[k]) := by
  have := h.2 k hk 0 _ rfl
  simpa using this

theorem killsMay_size (a : Option Addr) (n cap : Nat) (h : 200 < n) (c : Int) (w : World) : Calls Try.prog 44 #[.slice a n cap, .int .i64 c] w fun e w' => e = .returned (.bool false) ∧ w' = w := by
  have h2 : (200 : Int) < (n : Int) := by omega
  clear h
  go_enter Try.func44, Try.ntmps44
  go_wp2
  go_ret
  exact ⟨rfl, rfl⟩
theorem killsMay_none (a : Option Addr) (cp : Nat) (c : Int) (w : World) : Calls Try.prog 44 #[.slice a 0 cp, .int .i64 c] w fun e w' => e = .returned (.bool true) ∧ w' = w := by
  go_enter Try.func44, Try.ntmps44
  go_wp2
  go_loop [12] (fun i => i = .int .i64 0) (fun _ => 0)
  case atStart => rfl
  case round =>
    subst hrel
    go_wp2
    go_ret
    exact ⟨rfl, rfl⟩
set_option maxHeartbeats 2000000 in
theorem killsMay_some (l : List Int) (b off cap : Nat) (h2 : l.length ≤ 200) (c : Int) (w : World) (hC : Cells 1 intC w b off l) :
    Calls Try.prog 44 #[.slice (some ⟨b, off, none⟩) l.length cap, .int .i64 c] w fun e w' => e = .returned (.bool (upB l.length (okKill l c))) ∧ w' = w := by
  have HC : Hid (Cells 1 intC w b off l) := hC
  clear hC
  have z2 : ¬ ((200 : Int) < (l.length : Int)) := by omega
  go_enter Try.func44, Try.ntmps44
  go_wp2
  go_loop [5, 6, 12] (fun _ _ i => ∃ k : Nat, k ≤ l.length ∧ i = .int .i64 k ∧ Hid (∀ j, j < k → okKill l c j = true)) (fun _ _ i => l.length - (intOf i).toNat)
  case atStart => exact ⟨0, Nat.zero_le _, rfl, by intro j hj; omega⟩
  case round =>
    obtain ⟨k, hk, rfl, HA⟩ := hrel
    by_cases hlt : k < l.length
    · have hltz : (k : Int) < (l.length : Int) := by omega
      have c0 := HC.out.int k hlt
      generalize hy : l[k] = y at c0
      have HY : Hid (l[k] = y) := hy
      clear hy
      have hs := isSeat_any y c
      cases hq : isSeatB y c with
      | false =>
        rw [hq] at hs
        have HOK : Hid (okKill l c k = false) := by
          show okKill l c k = false
          unfold okKill; rw [getElem!_pos l k hlt, HY.out, hq]; rfl
        clear hq
        go_wp2_with fail
        refine (hs _).mono ?_
        rintro e w' ⟨rfl, rfl⟩
        go_wp2
        go_ret
        exact ⟨ret_bool (upB_hit _ _ k hlt HOK.out).symm, rfl⟩
      | true =>
        rw [hq] at hs
        rcases Nat.eq_zero_or_pos k with hk0 | hk0
        · have HOK : Hid (okKill l c k = true) := by
            show okKill l c k = true
            unfold okKill; rw [getElem!_pos l k hlt, HY.out, hq]; simp [hk0]
          have hkz : ¬ ((0 : Int) < (k : Int)) := by omega
          clear hq hk0
          go_wp2_with fail
          refine (hs _).mono ?_
          rintro e w' ⟨rfl, rfl⟩
          go_wp2
          go_round
          case rel =>
            refine ⟨k + 1, by omega, by go_num, ?_⟩
            show ∀ j, j < k + 1 → okKill l c j = true
            intro j h
            rcases Nat.lt_or_ge j k with h' | h'
            · exact HA.out j h'
            · have e : j = k := by omega
              subst e; exact HOK.out
          case measure => simp [intOf]; omega
        · have hkz : (0 : Int) < (k : Int) := by omega
          have hlt1 : k - 1 < l.length := by omega
          have c1 := HC.out.int (k - 1) hlt1
          have hok : okKill l c k = decide (l[k - 1] < y) := by
            have e : (k == 0) = false := by simp; omega
            unfold okKill; rw [getElem!_pos l k hlt, getElem!_pos l (k - 1) hlt1, HY.out, hq, e]; rfl
          generalize l[k - 1] = z at c1 hok
          clear hq
          have hkm : ((k : Int) - 1) = ((k - 1 : Nat) : Int) := by omega
          by_cases hx : z < y
          · have HOK : Hid (okKill l c k = true) := by rw [hok]; exact decide_eq_true hx
            clear hok
            have hx' : ¬ (y ≤ z) := by omega
            go_wp2_with fail
            refine (hs _).mono ?_
            rintro e w' ⟨rfl, rfl⟩
            go_wp2
            go_round
            case rel =>
              refine ⟨k + 1, by omega, by go_num, ?_⟩
              show ∀ j, j < k + 1 → okKill l c j = true
              intro j h
              rcases Nat.lt_or_ge j k with h' | h'
              · exact HA.out j h'
              · have e : j = k := by omega
                subst e; exact HOK.out
            case measure => simp [intOf]; omega
          · have HOK : Hid (okKill l c k = false) := by rw [hok]; exact decide_eq_false hx
            clear hok
            have hx' : y ≤ z := by omega
            go_wp2_with fail
            refine (hs _).mono ?_
            rintro e w' ⟨rfl, rfl⟩
            go_wp2
            go_ret
            exact ⟨ret_bool (upB_hit _ _ k hlt HOK.out).symm, rfl⟩
    · have hltz : ¬ (k : Int) < (l.length : Int) := by omega
      go_wp2
      go_ret
      exact ⟨ret_bool (upB_all _ _ (fun j hj => HA.out j (by omega))).symm, rfl⟩
theorem killsMay_any (l : List Int) (v : Value) (c : Int) (w : World) (hS : Sl 1 intC w v l) :
    Calls Try.prog 44 #[v, .int .i64 c] w fun e w' => e = .returned (.bool (killsB l c)) ∧ w' = w := by
  rcases hS with ⟨⟨a, cp, rfl⟩, rfl⟩ | ⟨b, off, cap, rfl, _, _, hC⟩
  · exact killsMay_none a cp c w
  · unfold killsB
    by_cases h2 : l.length ≤ 200
    · simp only [h2, decide_true, Bool.true_and]
      exact killsMay_some l b off cap h2 c w hC
    · simp only [h2, decide_false, Bool.false_and]
      exact killsMay_size _ _ cap (by omega) c w

structure PoleAt (w : World) (b o : Nat) (x y r : Int) : Prop where
  lt : b < w.heap.size
  c0 : w.cell? ⟨b, o, none⟩ = some (.int .i64 x)
  c1 : w.cell? ⟨b, o + 1, none⟩ = some (.int .i64 y)
  c2 : w.cell? ⟨b, o + 2, none⟩ = some (.int .i64 r)
theorem Cells.pole {w : World} {b off : Nat} {l : List Pole} (h : Cells 3 poleC w b off l) (k : Nat) (hk : k < l.length) : PoleAt w b (off + k * 3) l[k].x l[k].y l[k].r :=
  ⟨h.1, h.2 k hk 0 _ rfl, h.2 k hk 1 _ rfl, h.2 k hk 2 _ rfl⟩
theorem polesMay_size (a : Option Addr) (n cap : Nat) (h : 200 < n) (w : World) : Calls Try.prog 45 #[.slice a n cap] w fun e w' => e = .returned (.bool false) ∧ w' = w := by
  have h2 : (200 : Int) < (n : Int) := by omega
  clear h
  go_enter Try.func45, Try.ntmps45
  go_wp2
  go_ret
  exact ⟨rfl, rfl⟩
theorem polesMay_none (a : Option Addr) (cp : Nat) (w : World) : Calls Try.prog 45 #[.slice a 0 cp] w fun e w' => e = .returned (.bool true) ∧ w' = w := by
  go_enter Try.func45, Try.ntmps45
  go_wp2
  go_loop [10] (fun i => i = .int .i64 0) (fun _ => 0)
  case atStart => rfl
  case round =>
    subst hrel
    go_wp2
    go_ret
    exact ⟨rfl, rfl⟩
set_option maxHeartbeats 2000000 in
theorem polesMay_some (l : List Pole) (b off cap : Nat) (h2 : l.length ≤ 200) (w : World) (hC : Cells 3 poleC w b off l) :
    Calls Try.prog 45 #[.slice (some ⟨b, off, none⟩) l.length cap] w fun e w' => e = .returned (.bool (upB l.length (okPole l))) ∧ Below w.heap.size w w' := by
  have HC : Hid (Cells 3 poleC w b off l) := hC
  clear hC
  have z2 : ¬ ((200 : Int) < (l.length : Int)) := by omega
  go_enter Try.func45, Try.ntmps45
  go_wp2
  go_loopw [4, 10] (fun _ i wr => ∃ k : Nat, k ≤ l.length ∧ i = .int .i64 k ∧ Below w.heap.size w wr ∧ Hid (∀ j, j < k → okPole l j = true)) (fun _ i _ => l.length - (intOf i).toNat)
  case atStart => exact ⟨0, Nat.zero_le _, rfl, Below.refl _ w, by intro j hj; omega⟩
  case round =>
    obtain ⟨k, hk, rfl, hB, HA⟩ := hrel
    by_cases hlt : k < l.length
    · have hltz : (k : Int) < (l.length : Int) := by omega
      have ta := (HC.out.next hB).pole k hlt
      have hok : okPole l k = poleB l[k] := by unfold okPole; rw [getElem!_pos l k hlt]
      generalize l[k] = y at ta hok
      obtain ⟨x, y, r⟩ := y
      simp only at ta
      obtain ⟨_, c0, c1, c2⟩ := ta
      have hs := stands_any x y
      have hr := fits_length r
      have hok' : okPole l k = (standsB x y && lengthB r) := hok
      clear hok
      have hB' : Below w.heap.size w (wr.alloc (.cells #[.int .i64 x, .int .i64 y, .int .i64 r] 41)) := hB.alloc hB.size _
      cases hq : standsB x y with
      | false =>
        rw [hq] at hs hok'
        have HOK : Hid (okPole l k = false) := hok'
        clear hq hok'
        go_wp2_with fail
        refine (hs _).mono ?_
        rintro e w' ⟨rfl, rfl⟩
        go_wp2
        go_ret
        exact ⟨ret_bool (upB_hit _ _ k hlt HOK.out).symm, hB'⟩
      | true =>
        rw [hq] at hs hok'
        cases hx : lengthB r with
        | false =>
          rw [hx] at hr hok'
          have HOK : Hid (okPole l k = false) := hok'
          clear hq hx hok'
          go_wp2_with fail
          refine (hs _).mono ?_
          rintro e w' ⟨rfl, rfl⟩
          go_wp2_with fail
          refine (hr _).mono ?_
          rintro e w' ⟨rfl, rfl⟩
          go_wp2
          go_ret
          exact ⟨ret_bool (upB_hit _ _ k hlt HOK.out).symm, hB'⟩
        | true =>
          rw [hx] at hr hok'
          have HOK : Hid (okPole l k = true) := hok'
          clear hq hx hok'
          go_wp2_with fail
          refine (hs _).mono ?_
          rintro e w' ⟨rfl, rfl⟩
          go_wp2_with fail
          refine (hr _).mono ?_
          rintro e w' ⟨rfl, rfl⟩
          go_wp2
          go_roundw
          case rel =>
            refine ⟨k + 1, by omega, by go_num, hB', ?_⟩
            show ∀ j, j < k + 1 → okPole l j = true
            intro j h
            rcases Nat.lt_or_ge j k with h' | h'
            · exact HA.out j h'
            · have e : j = k := by omega
              subst e; exact HOK.out
          case measure => simp [intOf]; omega
    · have hltz : ¬ (k : Int) < (l.length : Int) := by omega
      go_wp2
      go_ret
      exact ⟨ret_bool (upB_all _ _ (fun j hj => HA.out j (by omega))).symm, hB⟩
theorem polesMay_any (l : List Pole) (v : Value) (w : World) (hS : Sl 3 poleC w v l) :
    Calls Try.prog 45 #[v] w fun e w' => e = .returned (.bool (polesB l)) ∧ Below w.heap.size w w' := by
  rcases hS with ⟨⟨a, cp, rfl⟩, rfl⟩ | ⟨b, off, cap, rfl, _, _, hC⟩
  · exact (polesMay_none a cp w).mono fun e w' ⟨he, hw⟩ => ⟨he, by rw [hw]; exact Below.refl _ w⟩
  · unfold polesB
    by_cases h2 : l.length ≤ 200
    · simp only [h2, decide_true, Bool.true_and]
      exact polesMay_some l b off cap h2 w hC
    · simp only [h2, decide_false, Bool.false_and]
      exact (polesMay_size _ _ cap (by omega) w).mono fun e w' ⟨he, hw⟩ => ⟨he, by rw [hw]; exact Below.refl _ w⟩
end Go.Proofs.Ytbmmjbklfheghaa.Ven
