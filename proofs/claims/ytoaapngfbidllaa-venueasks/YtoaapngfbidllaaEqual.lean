/- slices.Equal at seats, numbers, poles by contracts. -/
import Derived.Test.YtoaapngfbidllaaWrong
import Derived.Test.YtoaapngfbidllaaShelf
import Derived.Laws.StructEq
namespace Go.Proofs.Ytoaapngfbidllaa
set_option linter.unusedVariables false
open Go.RowKit Go.Shelf

theorem neq_seat (r1 x1 y1 k1 r2 x2 y2 k2 : Int) (b : Bool) (hb : decide ((⟨r1, x1, y1, k1⟩ : Seat) = ⟨r2, x2, y2, k2⟩) = b) (w : World) : (binOp .neq 34 (seatV r1 x1 y1 k1) (seatV r2 x2 y2 k2)).run Try.prog w = .ok (.bool (!b)) w := by
  have u3 := Try.underlying3
  have a3 := Try.isAgg3
  have z3 := Try.sizeOf3
  have hS : Try.prog.underlying 34 = some (.struct (Try.prog.fieldsOf 34)) := by kernel_rfl
  have hp : Try.prog.stoodInHeld 34 = false := by kernel_rfl
  have hd : decide ((⟨r1, x1, y1, k1⟩ : Seat) = ⟨r2, x2, y2, k2⟩) = ((r1 == r2) && (x1 == x2) && (y1 == y2) && (k1 == k2)) := by
    by_cases h0 : r1 = r2 <;> by_cases h1 : x1 = x2 <;> by_cases h2 : y1 = y2 <;> by_cases h3 : k1 = k2 <;> simp [h0, h1, h2, h3]
  rw [hd] at hb
  subst hb
  rw [run_neq_struct, show (10000 : Nat) = 9999 + 1 from rfl, run_equalIn_agg w 9999 34 _ _ hS hp]
  simp only [Program.fieldsOf, Try.underlying34]
  go_simp
  by_cases h0 : r1 = r2 <;> by_cases h1 : x1 = x2 <;> by_cases h2 : y1 = y2 <;> by_cases h3 : k1 = k2 <;> simp [h0, h1, h2, h3]
set_option maxHeartbeats 2000000 in
theorem equal_seat_some (l1 l2 : List Seat) (b1 o1 p1 b2 o2 p2 : Nat) (hl : l1.length = l2.length) (hm : l1.length ≤ maxLen) (w : World) (h1 : Cells 4 seatC w b1 o1 l1) (h2 : Cells 4 seatC w b2 o2 l2) :
    Calls Try.prog 33 #[.slice (some ⟨b1, o1, none⟩) l1.length p1, .slice (some ⟨b2, o2, none⟩) l1.length p2] w fun e w' => e = .returned (.bool (decide (l1 = l2))) ∧ ∃ q, w' = w.drewN q := by
  have HC1 : Hid (Cells 4 seatC w b1 o1 l1) := h1
  have HC2 : Hid (Cells 4 seatC w b2 o2 l2) := h2
  have HL : Hid (l1.length = l2.length) := hl
  clear h1 h2 hl
  unfold maxLen at hm
  have hgu : Try.prog.eqGuardType Try.prog.depth 34 = false := by kernel_rfl
  go_enter Try.func33, Try.ntmps33
  go_wp2
  go_loopw [5, 13] (fun _ i wr => ∃ (k q : Nat), k ≤ l1.length ∧ i = .int .i64 k ∧ wr = w.drewN q ∧ Hid (∀ j (hj : j < l1.length) (hj2 : j < l2.length), j < k → l1[j] = l2[j])) (fun _ i _ => l1.length - (intOf i).toNat)
  case atStart => exact ⟨0, 0, Nat.zero_le _, rfl, rfl, by intro j _ _ hj; omega⟩
  case round =>
    obtain ⟨k, q, hk, rfl, rfl, HA⟩ := hrel
    by_cases hlt : k < l1.length
    · have hltz : (k : Int) < (l1.length : Int) := by omega
      have hlt2 : k < l2.length := by rw [← HL.out]; exact hlt
      have t1 := HC1.out.seat k hlt
      have t2 := HC2.out.seat k hlt2
      generalize hy1 : l1[k] = s1 at t1
      generalize hy2 : l2[k] = s2 at t2
      obtain ⟨r1, x1, y1, k1⟩ := s1
      obtain ⟨r2, x2, y2, k2⟩ := s2
      simp only at t1 t2
      obtain ⟨_, c0, c1, c2, c3⟩ := t1
      obtain ⟨_, d0, d1, d2, d3⟩ := t2
      have hn := neq_seat r1 x1 y1 k1 r2 x2 y2 k2
      have HY1 : Hid (l1[k] = ⟨r1, x1, y1, k1⟩) := hy1
      have HY2 : Hid (l2[k] = ⟨r2, x2, y2, k2⟩) := hy2
      clear hy1 hy2
      by_cases he : (⟨r1, x1, y1, k1⟩ : Seat) = ⟨r2, x2, y2, k2⟩
      · have hn' := hn true (decide_eq_true he)
        have HE : Hid ((⟨r1, x1, y1, k1⟩ : Seat) = ⟨r2, x2, y2, k2⟩) := he
        clear hn he
        go_wp2_with fail
        go_quiet ((fail))
        go_wp2
        go_roundw
        case rel =>
          refine ⟨k + 1, _, by omega, by go_num, rfl, ?_⟩
          show ∀ j (hj : j < l1.length) (hj2 : j < l2.length), j < k + 1 → l1[j] = l2[j]
          intro j hj hj2 h
          rcases Nat.lt_or_ge j k with h' | h'
          · exact HA.out j hj hj2 h'
          · have e : j = k := by omega
            subst e; exact HY1.out.trans (HE.out.trans HY2.out.symm)
        case measure => simp [intOf]; omega
      · have hn' := hn false (decide_eq_false he)
        have HE : Hid (¬ (⟨r1, x1, y1, k1⟩ : Seat) = ⟨r2, x2, y2, k2⟩) := he
        clear hn he
        go_wp2_with fail
        go_quiet ((fail))
        go_wp2
        go_ret
        refine ⟨ret_bool (decide_eq_false ?_).symm, _, World.drewN_drewN _ _ _⟩
        intro h
        subst h
        exact HE.out (HY1.out.symm.trans HY2.out)
    · have hltz : ¬ (k : Int) < (l1.length : Int) := by omega
      go_wp2
      go_ret
      refine ⟨ret_bool (decide_eq_true ?_).symm, _, rfl⟩
      exact List.ext_getElem HL.out fun j hj hj2 => HA.out j hj hj2 (by omega)
theorem equal_seat_len (a1 a2 : Option Addr) (n1 n2 c1 c2 : Nat) (h : ¬ n1 = n2) (w : World) : Calls Try.prog 33 #[.slice a1 n1 c1, .slice a2 n2 c2] w fun e w' => e = .returned (.bool false) ∧ w' = w := by
  have h' : ((n1 : Int) == (n2 : Int)) = false := by simp; omega
  clear h
  go_enter Try.func33, Try.ntmps33
  go_wp2
  go_ret
  exact ⟨rfl, rfl⟩
theorem equal_seat_zero (a1 a2 : Option Addr) (c1 c2 : Nat) (w : World) : Calls Try.prog 33 #[.slice a1 0 c1, .slice a2 0 c2] w fun e w' => e = .returned (.bool true) ∧ w' = w := by
  go_enter Try.func33, Try.ntmps33
  go_wp2
  go_loop [5, 13] (fun _ i => i = .int .i64 0) (fun _ _ => 0)
  case atStart => rfl
  case round =>
    subst hrel
    go_wp2
    go_ret
    exact ⟨rfl, rfl⟩
theorem equal_seat_any (l1 l2 : List Seat) (a1 a2 : Option Addr) (n1 n2 c1 c2 : Nat) (w : World) (h1 : Sl 4 seatC w (.slice a1 n1 c1) l1) (h2 : Sl 4 seatC w (.slice a2 n2 c2) l2) :
    Calls Try.prog 33 #[.slice a1 n1 c1, .slice a2 n2 c2] w fun e w' => e = .returned (.bool (decide (l1 = l2))) ∧ ∃ q, w' = w.drewN q := by
  have e1 := h1.len
  have e2 := h2.len
  by_cases hl : n1 = n2
  · subst hl
    cases n1 with
    | zero =>
      rw [List.length_eq_zero_iff.1 e1.symm, List.length_eq_zero_iff.1 e2.symm]
      exact (equal_seat_zero a1 a2 c1 c2 w).mono fun e w' ⟨he, hw⟩ => ⟨he, 0, hw⟩
    | succ n =>
      rcases h1 with ⟨⟨a', c', he⟩, hn⟩ | ⟨b1, o1, p1, he1, hc1, hm1, hC1⟩
      · cases he
      rcases h2 with ⟨⟨a', c', he⟩, hn⟩ | ⟨b2, o2, p2, he2, hc2, hm2, hC2⟩
      · cases he
      have k1 : a1 = some ⟨b1, o1, none⟩ := by injection he1
      have k2 : a2 = some ⟨b2, o2, none⟩ := by injection he2
      rw [k1, k2, e1]
      exact equal_seat_some l1 l2 b1 o1 c1 b2 o2 c2 (by omega) (by omega) w hC1 hC2
  · rw [decide_eq_false (fun h : l1 = l2 => hl (by rw [e1, e2, h]))]
    exact (equal_seat_len a1 a2 n1 n2 c1 c2 hl w).mono fun e w' ⟨he, hw⟩ => ⟨he, 0, hw⟩
theorem neq_pole (x1 y1 r1 x2 y2 r2 : Int) (b : Bool) (hb : decide ((⟨x1, y1, r1⟩ : Pole) = ⟨x2, y2, r2⟩) = b) (w : World) : (binOp .neq 39 (poleV x1 y1 r1) (poleV x2 y2 r2)).run Try.prog w = .ok (.bool (!b)) w := by
  have u3 := Try.underlying3
  have a3 := Try.isAgg3
  have z3 := Try.sizeOf3
  have hS : Try.prog.underlying 39 = some (.struct (Try.prog.fieldsOf 39)) := by kernel_rfl
  have hp : Try.prog.stoodInHeld 39 = false := by kernel_rfl
  have hd : decide ((⟨x1, y1, r1⟩ : Pole) = ⟨x2, y2, r2⟩) = ((x1 == x2) && (y1 == y2) && (r1 == r2)) := by
    by_cases h0 : x1 = x2 <;> by_cases h1 : y1 = y2 <;> by_cases h2 : r1 = r2 <;> simp [h0, h1, h2]
  rw [hd] at hb
  subst hb
  rw [run_neq_struct, show (10000 : Nat) = 9999 + 1 from rfl, run_equalIn_agg w 9999 39 _ _ hS hp]
  simp only [Program.fieldsOf, Try.underlying39]
  go_simp
  by_cases h0 : x1 = x2 <;> by_cases h1 : y1 = y2 <;> by_cases h2 : r1 = r2 <;> simp [h0, h1, h2]
set_option maxHeartbeats 2000000 in
theorem equal_pole_some (l1 l2 : List Pole) (b1 o1 p1 b2 o2 p2 : Nat) (hl : l1.length = l2.length) (hm : l1.length ≤ maxLen) (w : World) (h1 : Cells 3 poleC w b1 o1 l1) (h2 : Cells 3 poleC w b2 o2 l2) :
    Calls Try.prog 35 #[.slice (some ⟨b1, o1, none⟩) l1.length p1, .slice (some ⟨b2, o2, none⟩) l1.length p2] w fun e w' => e = .returned (.bool (decide (l1 = l2))) ∧ ∃ q, w' = w.drewN q := by
  have HC1 : Hid (Cells 3 poleC w b1 o1 l1) := h1
  have HC2 : Hid (Cells 3 poleC w b2 o2 l2) := h2
  have HL : Hid (l1.length = l2.length) := hl
  clear h1 h2 hl
  unfold maxLen at hm
  have hgu : Try.prog.eqGuardType Try.prog.depth 39 = false := by kernel_rfl
  go_enter Try.func35, Try.ntmps35
  go_wp2
  go_loopw [5, 13] (fun _ i wr => ∃ (k q : Nat), k ≤ l1.length ∧ i = .int .i64 k ∧ wr = w.drewN q ∧ Hid (∀ j (hj : j < l1.length) (hj2 : j < l2.length), j < k → l1[j] = l2[j])) (fun _ i _ => l1.length - (intOf i).toNat)
  case atStart => exact ⟨0, 0, Nat.zero_le _, rfl, rfl, by intro j _ _ hj; omega⟩
  case round =>
    obtain ⟨k, q, hk, rfl, rfl, HA⟩ := hrel
    by_cases hlt : k < l1.length
    · have hltz : (k : Int) < (l1.length : Int) := by omega
      have hlt2 : k < l2.length := by rw [← HL.out]; exact hlt
      have t1 := HC1.out.pole k hlt
      have t2 := HC2.out.pole k hlt2
      generalize hy1 : l1[k] = s1 at t1
      generalize hy2 : l2[k] = s2 at t2
      obtain ⟨x1, y1, r1⟩ := s1
      obtain ⟨x2, y2, r2⟩ := s2
      simp only at t1 t2
      obtain ⟨_, c0, c1, c2⟩ := t1
      obtain ⟨_, d0, d1, d2⟩ := t2
      have hn := neq_pole x1 y1 r1 x2 y2 r2
      have HY1 : Hid (l1[k] = ⟨x1, y1, r1⟩) := hy1
      have HY2 : Hid (l2[k] = ⟨x2, y2, r2⟩) := hy2
      clear hy1 hy2
      by_cases he : (⟨x1, y1, r1⟩ : Pole) = ⟨x2, y2, r2⟩
      · have hn' := hn true (decide_eq_true he)
        have HE : Hid ((⟨x1, y1, r1⟩ : Pole) = ⟨x2, y2, r2⟩) := he
        clear hn he
        go_wp2_with fail
        go_quiet ((fail))
        go_wp2
        go_roundw
        case rel =>
          refine ⟨k + 1, _, by omega, by go_num, rfl, ?_⟩
          show ∀ j (hj : j < l1.length) (hj2 : j < l2.length), j < k + 1 → l1[j] = l2[j]
          intro j hj hj2 h
          rcases Nat.lt_or_ge j k with h' | h'
          · exact HA.out j hj hj2 h'
          · have e : j = k := by omega
            subst e; exact HY1.out.trans (HE.out.trans HY2.out.symm)
        case measure => simp [intOf]; omega
      · have hn' := hn false (decide_eq_false he)
        have HE : Hid (¬ (⟨x1, y1, r1⟩ : Pole) = ⟨x2, y2, r2⟩) := he
        clear hn he
        go_wp2_with fail
        go_quiet ((fail))
        go_wp2
        go_ret
        refine ⟨ret_bool (decide_eq_false ?_).symm, _, World.drewN_drewN _ _ _⟩
        intro h
        subst h
        exact HE.out (HY1.out.symm.trans HY2.out)
    · have hltz : ¬ (k : Int) < (l1.length : Int) := by omega
      go_wp2
      go_ret
      refine ⟨ret_bool (decide_eq_true ?_).symm, _, rfl⟩
      exact List.ext_getElem HL.out fun j hj hj2 => HA.out j hj hj2 (by omega)
theorem equal_pole_len (a1 a2 : Option Addr) (n1 n2 c1 c2 : Nat) (h : ¬ n1 = n2) (w : World) : Calls Try.prog 35 #[.slice a1 n1 c1, .slice a2 n2 c2] w fun e w' => e = .returned (.bool false) ∧ w' = w := by
  have h' : ((n1 : Int) == (n2 : Int)) = false := by simp; omega
  clear h
  go_enter Try.func35, Try.ntmps35
  go_wp2
  go_ret
  exact ⟨rfl, rfl⟩
theorem equal_pole_zero (a1 a2 : Option Addr) (c1 c2 : Nat) (w : World) : Calls Try.prog 35 #[.slice a1 0 c1, .slice a2 0 c2] w fun e w' => e = .returned (.bool true) ∧ w' = w := by
  go_enter Try.func35, Try.ntmps35
  go_wp2
  go_loop [5, 13] (fun _ i => i = .int .i64 0) (fun _ _ => 0)
  case atStart => rfl
  case round =>
    subst hrel
    go_wp2
    go_ret
    exact ⟨rfl, rfl⟩
theorem equal_pole_any (l1 l2 : List Pole) (a1 a2 : Option Addr) (n1 n2 c1 c2 : Nat) (w : World) (h1 : Sl 3 poleC w (.slice a1 n1 c1) l1) (h2 : Sl 3 poleC w (.slice a2 n2 c2) l2) :
    Calls Try.prog 35 #[.slice a1 n1 c1, .slice a2 n2 c2] w fun e w' => e = .returned (.bool (decide (l1 = l2))) ∧ ∃ q, w' = w.drewN q := by
  have e1 := h1.len
  have e2 := h2.len
  by_cases hl : n1 = n2
  · subst hl
    cases n1 with
    | zero =>
      rw [List.length_eq_zero_iff.1 e1.symm, List.length_eq_zero_iff.1 e2.symm]
      exact (equal_pole_zero a1 a2 c1 c2 w).mono fun e w' ⟨he, hw⟩ => ⟨he, 0, hw⟩
    | succ n =>
      rcases h1 with ⟨⟨a', c', he⟩, hn⟩ | ⟨b1, o1, p1, he1, hc1, hm1, hC1⟩
      · cases he
      rcases h2 with ⟨⟨a', c', he⟩, hn⟩ | ⟨b2, o2, p2, he2, hc2, hm2, hC2⟩
      · cases he
      have k1 : a1 = some ⟨b1, o1, none⟩ := by injection he1
      have k2 : a2 = some ⟨b2, o2, none⟩ := by injection he2
      rw [k1, k2, e1]
      exact equal_pole_some l1 l2 b1 o1 c1 b2 o2 c2 (by omega) (by omega) w hC1 hC2
  · rw [decide_eq_false (fun h : l1 = l2 => hl (by rw [e1, e2, h]))]
    exact (equal_pole_len a1 a2 n1 n2 c1 c2 hl w).mono fun e w' ⟨he, hw⟩ => ⟨he, 0, hw⟩
theorem neq_int (z1 z2 : Int) (b : Bool) (hb : decide ((z1 : Int) = z2) = b) (w : World) : (binOp .neq 3 (.int .i64 z1) (.int .i64 z2)).run Try.prog w = .ok (.bool (!b)) w := by
  subst hb
  by_cases h : z1 = z2 <;> simp [binOp, Op.intCmp, bne, h]
set_option maxHeartbeats 2000000 in
theorem equal_int_some (l1 l2 : List Int) (b1 o1 p1 b2 o2 p2 : Nat) (hl : l1.length = l2.length) (hm : l1.length ≤ maxLen) (w : World) (h1 : Cells 1 intC w b1 o1 l1) (h2 : Cells 1 intC w b2 o2 l2) :
    Calls Try.prog 34 #[.slice (some ⟨b1, o1, none⟩) l1.length p1, .slice (some ⟨b2, o2, none⟩) l1.length p2] w fun e w' => e = .returned (.bool (decide (l1 = l2))) ∧ ∃ q, w' = w.drewN q := by
  have HC1 : Hid (Cells 1 intC w b1 o1 l1) := h1
  have HC2 : Hid (Cells 1 intC w b2 o2 l2) := h2
  have HL : Hid (l1.length = l2.length) := hl
  clear h1 h2 hl
  unfold maxLen at hm
  go_enter Try.func34, Try.ntmps34
  go_wp2
  go_loopw [5, 13] (fun _ i wr => ∃ (k q : Nat), k ≤ l1.length ∧ i = .int .i64 k ∧ wr = w.drewN q ∧ Hid (∀ j (hj : j < l1.length) (hj2 : j < l2.length), j < k → l1[j] = l2[j])) (fun _ i _ => l1.length - (intOf i).toNat)
  case atStart => exact ⟨0, 0, Nat.zero_le _, rfl, rfl, by intro j _ _ hj; omega⟩
  case round =>
    obtain ⟨k, q, hk, rfl, rfl, HA⟩ := hrel
    by_cases hlt : k < l1.length
    · have hltz : (k : Int) < (l1.length : Int) := by omega
      have hlt2 : k < l2.length := by rw [← HL.out]; exact hlt
      have c1 := HC1.out.int k hlt
      have c2 := HC2.out.int k hlt2
      generalize hy1 : l1[k] = z1 at c1
      generalize hy2 : l2[k] = z2 at c2
      have hn := neq_int z1 z2
      have HY1 : Hid (l1[k] = z1) := hy1
      have HY2 : Hid (l2[k] = z2) := hy2
      clear hy1 hy2
      by_cases he : (z1 : Int) = z2
      · have hn' := hn true (decide_eq_true he)
        have HE : Hid ((z1 : Int) = z2) := he
        subst he
        clear hn hn'
        go_wp2_with fail
        go_quiet ((fail))
        go_wp2
        go_roundw
        case rel =>
          refine ⟨k + 1, _, by omega, by go_num, rfl, ?_⟩
          show ∀ j (hj : j < l1.length) (hj2 : j < l2.length), j < k + 1 → l1[j] = l2[j]
          intro j hj hj2 h
          rcases Nat.lt_or_ge j k with h' | h'
          · exact HA.out j hj hj2 h'
          · have e : j = k := by omega
            subst e; exact HY1.out.trans HY2.out.symm
        case measure => simp [intOf]; omega
      · have hn' := hn false (decide_eq_false he)
        have HE : Hid (¬ (z1 : Int) = z2) := he
        have hz : (z1 == z2) = false := by simpa using he
        clear hn hn' he
        go_wp2_with fail
        go_quiet ((fail))
        go_wp2
        go_ret
        refine ⟨ret_bool (decide_eq_false ?_).symm, _, World.drewN_drewN _ _ _⟩
        intro h
        subst h
        exact HE.out (HY1.out.symm.trans HY2.out)
    · have hltz : ¬ (k : Int) < (l1.length : Int) := by omega
      go_wp2
      go_ret
      refine ⟨ret_bool (decide_eq_true ?_).symm, _, rfl⟩
      exact List.ext_getElem HL.out fun j hj hj2 => HA.out j hj hj2 (by omega)
theorem equal_int_len (a1 a2 : Option Addr) (n1 n2 c1 c2 : Nat) (h : ¬ n1 = n2) (w : World) : Calls Try.prog 34 #[.slice a1 n1 c1, .slice a2 n2 c2] w fun e w' => e = .returned (.bool false) ∧ w' = w := by
  have h' : ((n1 : Int) == (n2 : Int)) = false := by simp; omega
  clear h
  go_enter Try.func34, Try.ntmps34
  go_wp2
  go_ret
  exact ⟨rfl, rfl⟩
theorem equal_int_zero (a1 a2 : Option Addr) (c1 c2 : Nat) (w : World) : Calls Try.prog 34 #[.slice a1 0 c1, .slice a2 0 c2] w fun e w' => e = .returned (.bool true) ∧ w' = w := by
  go_enter Try.func34, Try.ntmps34
  go_wp2
  go_loop [5, 13] (fun _ i => i = .int .i64 0) (fun _ _ => 0)
  case atStart => rfl
  case round =>
    subst hrel
    go_wp2
    go_ret
    exact ⟨rfl, rfl⟩
theorem equal_int_any (l1 l2 : List Int) (a1 a2 : Option Addr) (n1 n2 c1 c2 : Nat) (w : World) (h1 : Sl 1 intC w (.slice a1 n1 c1) l1) (h2 : Sl 1 intC w (.slice a2 n2 c2) l2) :
    Calls Try.prog 34 #[.slice a1 n1 c1, .slice a2 n2 c2] w fun e w' => e = .returned (.bool (decide (l1 = l2))) ∧ ∃ q, w' = w.drewN q := by
  have e1 := h1.len
  have e2 := h2.len
  by_cases hl : n1 = n2
  · subst hl
    cases n1 with
    | zero =>
      rw [List.length_eq_zero_iff.1 e1.symm, List.length_eq_zero_iff.1 e2.symm]
      exact (equal_int_zero a1 a2 c1 c2 w).mono fun e w' ⟨he, hw⟩ => ⟨he, 0, hw⟩
    | succ n =>
      rcases h1 with ⟨⟨a', c', he⟩, hn⟩ | ⟨b1, o1, p1, he1, hc1, hm1, hC1⟩
      · cases he
      rcases h2 with ⟨⟨a', c', he⟩, hn⟩ | ⟨b2, o2, p2, he2, hc2, hm2, hC2⟩
      · cases he
      have k1 : a1 = some ⟨b1, o1, none⟩ := by injection he1
      have k2 : a2 = some ⟨b2, o2, none⟩ := by injection he2
      rw [k1, k2, e1]
      exact equal_int_some l1 l2 b1 o1 c1 b2 o2 c2 (by omega) (by omega) w hC1 hC2
  · rw [decide_eq_false (fun h : l1 = l2 => hl (by rw [e1, e2, h]))]
    exact (equal_int_len a1 a2 n1 n2 c1 c2 hl w).mono fun e w' ⟨he, hw⟩ => ⟨he, 0, hw⟩
end Go.Proofs.Ytoaapngfbidllaa
