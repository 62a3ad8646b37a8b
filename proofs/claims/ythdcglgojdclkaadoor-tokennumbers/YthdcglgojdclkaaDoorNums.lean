/- TokenNumbers' walk: it answers true at any number behind any blanks. -/
import Derived.Test.YthdcglgojdclkaaDoorPure2
import Derived.Test.YthdcglgojdclkaaDoorDec
import Derived.Test.YthdcglgojdclkaaDoorTold
namespace Go.Proofs.YthdcglgojdclkaaDoor
set_option linter.unusedVariables false
open Go.RowKit Go.Shelf

theorem read_numeral (c : UInt8) (r : List UInt8) (hr : ∀ d ∈ r, digitB d = true) (hc : digitB c = true ∨ (c.toNat = 45 ∧ r ≠ [])) :
    readL (c :: r) = match num32 (c :: r) with | none => (0, 0, [], 0, false) | some v => (2, v, c :: r, (c :: r).length, true) := by
  have hs : spanL digitB r = r.length := by have := spanL_append digitB r [] hr; simpa [spanL] using this
  have hnum : numL (c :: r) = match num32 (c :: r) with | none => (0, 0, [], 0, false) | some v => (2, v, c :: r, (c :: r).length, true) := by
    unfold numL
    rw [List.tail_cons, hs, List.take_of_length_le (by simp; omega), List.drop_of_length_le (by simp; omega)]
    cases num32 (c :: r) with
    | none => rfl
    | some v => simp [badN]; omega
  rw [← hnum]
  unfold readL
  dsimp only
  rcases hc with hc | ⟨hc, hne⟩
  · have h := hc
    unfold digitB at h
    simp at h
    have hl : letterB c = false := by unfold letterB; simp; omega
    rw [if_neg (by omega), if_neg (by simp [hl]), if_neg (by omega), if_pos hc]
  · have hl : letterB c = false := by unfold letterB; simp; omega
    rw [if_neg (by omega), if_neg (by simp [hl]), if_pos hc, if_neg]
    rw [hs]
    intro e
    exact hne (List.length_eq_zero_iff.1 e)

/-- A decimal is a numeral: its first byte, and digits behind it. -/
theorem itoa_form (n : Int) : ∃ c r, Lib.itoa n = c :: r ∧ (∀ d ∈ r, digitB d = true) ∧ (digitB c = true ∨ (c.toNat = 45 ∧ r ≠ [])) := by
  by_cases h : n < 0
  · obtain ⟨u, rfl⟩ : ∃ u : Nat, n = -(u : Int) := ⟨n.natAbs, by omega⟩
    obtain ⟨_, h2, h3⟩ := dec_all u
    exact ⟨45, Lib.decDigits u, Lib.itoa_neg u (by omega), h2, Or.inr ⟨rfl, h3⟩⟩
  · obtain ⟨u, rfl⟩ := Int.eq_ofNat_of_zero_le (show 0 ≤ n by omega)
    obtain ⟨_, h2, h3⟩ := dec_all u
    rw [Lib.itoa_nonneg]
    cases hd : Lib.decDigits u with
    | nil => exact absurd hd h3
    | cons c r => rw [hd] at h2; exact ⟨c, r, rfl, fun d hd => h2 d (by simp [hd]), Or.inl (h2 c (by simp))⟩
theorem num32_itoa (n : Int) : num32 (Lib.itoa n) = if -2147483648 ≤ n ∧ n ≤ 2147483647 then some n else none := by
  by_cases h : n < 0
  · obtain ⟨u, rfl⟩ : ∃ u : Nat, n = -(u : Int) := ⟨n.natAbs, by omega⟩
    obtain ⟨h1, _, _⟩ := dec_all u
    rw [Lib.itoa_neg u (by omega)]
    unfold num32
    rw [if_pos (by simp), List.tail_cons, h1]
    by_cases h' : u ≤ 2147483648
    · rw [if_pos h', if_pos (by omega)]
    · rw [if_neg h', if_neg (by omega)]
  · obtain ⟨u, rfl⟩ := Int.eq_ofNat_of_zero_le (show 0 ≤ n by omega)
    obtain ⟨h1, h2, h3⟩ := dec_all u
    rw [Lib.itoa_nonneg]
    unfold num32
    rw [if_neg, h1]
    · by_cases h' : u ≤ 2147483647
      · rw [if_pos h', if_pos (by omega)]
      · rw [if_neg h', if_neg (by omega)]
    · cases hd : Lib.decDigits u with
      | nil => exact absurd hd h3
      | cons c r =>
        have := h2 c (by simp [hd])
        unfold digitB at this
        simp at this ⊢; omega

theorem all_itoa (g : Nat) (n : Int) : allOf (List.replicate g 32 ++ Lib.itoa n) = if -2147483648 ≤ n ∧ n ≤ 2147483647 then ([(2, n, 1, 1 + (g : Int), Lib.itoa n)], 1, 1 + (g : Int) + (Lib.itoa n).length, 0) else ([], 1, 1 + (g : Int), 2) := by
  rw [allOf_P]
  have hn := num32_itoa n
  obtain ⟨c, r, e, hr, hc⟩ := itoa_form n
  have hrd := read_numeral c r hr hc
  rw [← e] at hrd
  have hb : blankB c = false ∧ c.toNat ≠ 35 := by
    unfold blankB
    rcases hc with hc | ⟨hc, _⟩
    · unfold digitB at hc; simp at hc; refine ⟨?_, by omega⟩; simp; omega
    · refine ⟨?_, by omega⟩; simp; omega
  have hun : unsaidL (List.replicate g 32 ++ Lib.itoa n) = g := by
    rw [e, unsaidL_blanks _ c r (by intro d hd; rw [(List.mem_replicate.1 hd).2]; decide) hb.1 hb.2]; simp
  have hne : 0 < (Lib.itoa n).length := by rw [e]; simp
  have hdr : (List.replicate g 32 ++ Lib.itoa n).drop g = Lib.itoa n := by
    rw [List.drop_append_of_le_length (by simp)]; simp
  have hlt : unsaidL (List.replicate g 32 ++ Lib.itoa n) < (List.replicate g 32 ++ Lib.itoa n).length := by rw [hun]; simp; omega
  rw [hn] at hrd
  by_cases h : -2147483648 ≤ n ∧ n ≤ 2147483647
  · rw [if_pos h] at hrd ⊢
    rw [allP_step _ 1 1 2 n (Lib.itoa n) (Lib.itoa n).length hlt (by rw [hun, hdr]; exact hrd), hun]
    rw [List.drop_of_length_le (by simp), if_neg (by omega), if_neg (by omega), allP_none [] _ _ rfl]
    simp
  · rw [if_neg h] at hrd ⊢
    rw [allP_text _ 1 1 0 0 [] 0 hlt (by rw [hun, hdr]; exact hrd), hun]
    simp

theorem wrap64_small (n : Int) (h0 : -1000000 ≤ n) (h1 : n ≤ 1000000) : wrap64 n = n := by
  unfold wrap64
  omega
theorem small_mod (n : Int) (m : Int) (h0 : 0 < m) (h1 : m ≤ 1000) : ∃ K : Nat, (K : Int) < m ∧ wrap64 ((IntKind.u64.wrap n).tmod m) = K := by
  have hw : 0 ≤ IntKind.u64.wrap n := by
    unfold IntKind.wrap
    simp [IntKind.signed, IntKind.bits]
    omega
  have e : (IntKind.u64.wrap n).tmod m = (IntKind.u64.wrap n) % m := Int.tmod_eq_emod_of_nonneg hw
  have l0 := Int.emod_nonneg (IntKind.u64.wrap n) (show m ≠ 0 by omega)
  have l1 := Int.emod_lt_of_pos (IntKind.u64.wrap n) h0
  rw [e]
  refine ⟨(IntKind.u64.wrap n % m).toNat, by omega, ?_⟩
  rw [wrap64_small _ (by omega) (by omega)]
  omega
theorem bapp (l r : List UInt8) : (⟨l.toArray⟩ : ByteArray) ++ ⟨r.toArray⟩ = ⟨(l ++ r).toArray⟩ := by rw [ByteArray.mk_append_mk]

set_option maxRecDepth 100000 in
set_option maxHeartbeats 1000000 in
theorem nums_any (n gap : Int) (h0 : -9223372036854775808 ≤ n) (h1 : n ≤ 9223372036854775807) (w : World) (hR : Rng w) :
    Calls Tryd.prog 4 #[.int .i64 n, .int .i64 gap] w fun e w' => e = .returned (.bool true) ∧ Below w.heap.size w w' := by
  obtain ⟨g, hg, eg⟩ := small_mod gap 10 (by omega) (by omega)
  have HE : Hid (wrap64 ((IntKind.u64.wrap gap).tmod 10) = g) := eg
  clear eg
  have hil := Lib.itoa_length_le n h0 h1
  generalize hD : Lib.itoa n = D at hil
  have HD : Hid (Lib.itoa n = D) := hD
  clear hD
  go_enter Tryd.func4, Tryd.ntmps4
  go_wp2_with fail
  simp only [HE.out]
  go_loop [5, 7] (fun s i => ∃ (k : Nat) (T : List UInt8), k ≤ g ∧ T.length ≤ k ∧ i = .int .i64 k ∧ s = .string ⟨T.toArray⟩ ∧ Hid (T = List.replicate k 32)) (fun _ i => g - (intOf i).toNat)
  case atStart => exact ⟨0, [], Nat.zero_le _, Nat.le_refl _, rfl, rfl, rfl⟩
  case round =>
    obtain ⟨k, T, hk, hT, rfl, rfl, HT⟩ := hrel
    by_cases hlt : k < g
    · have hlz : (k : Int) < g := by omega
      go_wp2
      refine ⟨⟨k + 1, T ++ [32], by omega, by simp; omega, by go_num, ?_, ?_⟩, by simp [intOf]; omega⟩
      · rw [← bapp]
      · show T ++ [32] = List.replicate (k + 1) 32
        rw [HT.out, List.replicate_succ']
    · have hlz : ¬ (k : Int) < g := by omega
      have hkg : k = g := by omega
      have HA : Hid (allOf (T ++ D) = if -2147483648 ≤ n ∧ n ≤ 2147483647 then ([(2, n, 1, 1 + (g : Int), D)], 1, 1 + (g : Int) + D.length, 0) else ([], 1, 1 + (g : Int), 2)) := by
        show allOf (T ++ D) = _
        rw [HT.out, hkg, ← HD.out, all_itoa]
      clear hkg
      go_wp2_with fail
      refine (Decimal_any n h0 h1 _).mono ?_
      rintro e w' ⟨rfl, rfl⟩
      rw [HD.out]
      by_cases hr : -2147483648 ≤ n ∧ n ≤ 2147483647
      · have hA2 := HA.out
        rw [if_pos hr] at hA2
        have HA2 : Hid (allOf (T ++ D) = ([(2, n, 1, 1 + (g : Int), D)], 1, 1 + (g : Int) + D.length, 0)) := hA2
        clear hA2
        obtain ⟨r1, r2⟩ := hr
        go_wp2_with fail
        rw [bapp]
        refine (all_any (T ++ D) (by simp; omega) _ hR _ _ _ _ HA2.out).mono ?_
        rintro e w1 ⟨v1, rfl, row1, b1⟩
        rcases row1.toks with ⟨_, h⟩ | ⟨gg, cap, rfl, hgg, hgl, hgc, hgm, tk1⟩
        · cases h
        have R1 := hR.next b1
        have p1 : Past w' w1 := b1
        clear row1 hgg hgl b1
        go_wp2_with fail
        refine (told_any _ (by exact R1.alloc _)).mono ?_
        rintro e w2 ⟨rfl, b2⟩
        have p2 := (p1.alloc _).next b2
        have tk2 := (tk1.alloc _).next b2
        have s2 := (Sp.fresh w1 1 (1 + (g : Int) + D.length)).next b2
        clear b2 R1 p1 tk1
        obtain ⟨c0, c1, c2, c3, c4⟩ := tk2.at 0 (by simp)
        have lg := tk2.1
        have ls := s2.lt
        obtain ⟨s0, s1, _, _⟩ := s2
        simp at c0 c1 c2 c3 c4
        go_wp2
        go_ret
        exact ⟨rfl, p2⟩
      · have hA2 := HA.out
        rw [if_neg hr] at hA2
        have HA2 : Hid (allOf (T ++ D) = ([], 1, 1 + (g : Int), 2)) := hA2
        clear hA2
        go_wp2_with fail
        rw [bapp]
        refine (all_any (T ++ D) (by simp; omega) _ hR _ _ _ _ HA2.out).mono ?_
        rintro e w1 ⟨v1, rfl, row1, b1⟩
        have hv : ∃ ao cap, v1 = .slice ao 0 cap := by
          rcases row1.toks with ⟨rfl, _⟩ | ⟨gg, cap, rfl, _⟩
          · exact ⟨_, _, rfl⟩
          · exact ⟨_, _, rfl⟩
        obtain ⟨ao, cap, rfl⟩ := hv
        by_cases hlow : n < -2147483648
        · clear hr
          have R1 := hR.next b1
          have p1 : Past w' w1 := b1
          clear row1 b1
          go_wp2_with fail
          refine (told_any _ (by exact R1.alloc _)).mono ?_
          rintro e w2 ⟨rfl, b2⟩
          have p2 := (p1.alloc _).next b2
          have s2 := (Sp.fresh w1 1 (1 + (g : Int))).next b2
          clear b2 R1 p1
          have ls := s2.lt
          obtain ⟨s0, s1, _, _⟩ := s2
          go_wp2
          go_ret
          exact ⟨rfl, p2⟩
        · have hhi : 2147483647 < n := by omega
          clear hr
          have R1 := hR.next b1
          have p1 : Past w' w1 := b1
          clear row1 b1
          go_wp2_with fail
          refine (told_any _ (by exact R1.alloc _)).mono ?_
          rintro e w2 ⟨rfl, b2⟩
          have p2 := (p1.alloc _).next b2
          have s2 := (Sp.fresh w1 1 (1 + (g : Int))).next b2
          clear b2 R1 p1
          have ls := s2.lt
          obtain ⟨s0, s1, _, _⟩ := s2
          go_wp2
          go_ret
          exact ⟨rfl, p2⟩

theorem nums_law (n : Int) (hn : -9223372036854775808 ≤ n ∧ n ≤ 9223372036854775807) (gap : Int) (_ : -9223372036854775808 ≤ gap ∧ gap ≤ 9223372036854775807) (w : World) (hR : Rng w) :
    Calls Tryd.prog 4 #[.int .i64 n, .int .i64 gap] w fun e w' => e = .returned (.bool true) ∧ Below w.heap.size w w' := nums_any n gap hn.1 hn.2 w hR
end Go.Proofs.YthdcglgojdclkaaDoor
