/- parterrelaw3.Few, parterreref6.SameInts, parterrelaw7.lists by contracts. -/
import Derived.Test.YtdodmbfkcandgaaURows
namespace Go.Proofs.Ytdodmbfkcandgaa.Rnn
set_option linter.unusedVariables false
set_option maxRecDepth 100000
open Go.RowKit Go.Shelf
open Go.Proofs.Ytdodmbfkcandgaa.Ven (Seat Pole Ven VenAt venV Box mayB mixed Sl SeatAt below_alloc ret_bool intC Cells BelowOf wp_region_quiet_below Calls.below_of)

theorem few_any (a1 a2 a3 : Option Addr) (n1 c1 n2 c2 n3 c3 : Nat) (V : Ven) (w : World) (h : VenAt w a1 n1 c1 a2 n2 c2 a3 n3 c3 V) :
    Calls Try.prog 7 #[venV a1 n1 c1 V.gap V.radius a2 n2 c2 a3 n3 c3] w fun e w' => e = .returned (.bool (decide (n1 ≤ 40) && (decide (n2 ≤ 40) && decide (n3 ≤ 40)))) ∧ Below w.heap.size w w' := by
  have hb := below_alloc w (.cells #[.slice a1 n1 c1, .int .i64 V.gap, .int .i64 V.radius, .slice a2 n2 c2, .slice a3 n3 c3] 26)
  clear h
  generalize V.gap = gap at hb ⊢
  generalize V.radius = radius at hb ⊢
  by_cases h1 : n1 ≤ 40
  · have g1 : (n1 : Int) ≤ 40 := by omega
    by_cases h2 : n2 ≤ 40
    · have g2 : (n2 : Int) ≤ 40 := by omega
      by_cases h3 : n3 ≤ 40
      · have g3 : (n3 : Int) ≤ 40 := by omega
        rw [decide_eq_true h1, decide_eq_true h2, decide_eq_true h3]
        go_enter Try.func7, Try.ntmps7
        go_wp2
        go_ret
        exact ⟨rfl, hb⟩
      · have g3 : ¬ (n3 : Int) ≤ 40 := by omega
        rw [decide_eq_true h1, decide_eq_true h2, decide_eq_false h3]
        go_enter Try.func7, Try.ntmps7
        go_wp2
        go_ret
        exact ⟨rfl, hb⟩
    · have g2 : ¬ (n2 : Int) ≤ 40 := by omega
      rw [decide_eq_true h1, decide_eq_false h2]
      go_enter Try.func7, Try.ntmps7
      go_wp2
      go_ret
      exact ⟨rfl, hb⟩
  · have g1 : ¬ (n1 : Int) ≤ 40 := by omega
    rw [decide_eq_false h1]
    go_enter Try.func7, Try.ntmps7
    go_wp2
    go_ret
    exact ⟨rfl, hb⟩
theorem Sl.form {w : World} {v : Value} {l : List Int} (h : Sl 1 intC w v l) : ∃ a c, v = .slice a l.length c ∧ l.length ≤ maxLen ∧ ∀ k (hk : k < l.length), ∃ b off, a = some ⟨b, off, none⟩ ∧ l.length ≤ c ∧ b < w.heap.size ∧ ∀ j (hj : j < l.length), w.cell? ⟨b, off + j, none⟩ = some (.int .i64 l[j]) := by
  rcases h with ⟨⟨a, c, rfl⟩, rfl⟩ | ⟨b, off, cap, rfl, h1, h2, h3⟩
  · exact ⟨a, c, rfl, by unfold maxLen; simp, fun k hk => by cases hk⟩
  · exact ⟨_, cap, rfl, Nat.le_trans h1 h2, fun k hk => ⟨b, off, rfl, h1, h3.1, fun j hj => by simpa using h3.2 j hj 0 _ rfl⟩⟩
set_option maxHeartbeats 2000000 in
theorem same_any (l1 l2 : List Int) (v1 v2 : Value) (w : World) (h1 : Sl 1 intC w v1 l1) (h2 : Sl 1 intC w v2 l2) :
    Calls Try.prog 15 #[v1, v2] w fun e w' => e = .returned (.bool (decide (l1 = l2))) ∧ Below w.heap.size w w' := by
  have H1 := hid' h1
  have H2 := hid' h2
  obtain ⟨a1, c1, rfl, hm1, _⟩ := Sl.form h1
  obtain ⟨a2, c2, rfl, hm2, _⟩ := Sl.form h2
  clear h1 h2
  unfold maxLen at hm1 hm2
  by_cases hl : l1.length = l2.length
  · have hz : ((l1.length : Int) != (l2.length : Int)) = false := by simp [hl]
    have HL := hid' hl
    clear hl
    go_enter Try.func15, Try.ntmps15
    go_wp2_with fail
    go_loopw [5] (fun i wr => ∃ k : Nat, k ≤ l1.length ∧ i = .int .i64 k ∧ Hid (Below w.heap.size w wr) ∧ Hid (∀ q (h1 : q < l1.length) (h2 : q < l2.length), q < k → l1[q] = l2[q])) (fun i _ => l1.length - (intOf i).toNat)
    case atStart => exact ⟨0, Nat.zero_le _, rfl, Below.refl _ w, fun q _ _ h => absurd h (by omega)⟩
    case round =>
      obtain ⟨k, hk, rfl, HB, HA⟩ := hrel
      by_cases hlt : k < l1.length
      · have hltz : (k : Int) < (l1.length : Int) := by omega
        have hlt2 : k < l2.length := by have := HL.out; omega
        have hltz2 : (k : Int) < (l2.length : Int) := by omega
        obtain ⟨a1', c1', e1, _, hc1⟩ := Sl.form (H1.out.next HB.out)
        injection e1 with e1 _ e1c
        subst e1 e1c
        obtain ⟨a2', c2', e2, _, hc2⟩ := Sl.form (H2.out.next HB.out)
        injection e2 with e2 _ e2c
        subst e2 e2c
        obtain ⟨b1, o1, rfl, hcc1, hb1, g1⟩ := hc1 k hlt
        obtain ⟨b2, o2, rfl, hcc2, hb2, g2⟩ := hc2 k hlt2
        have m1 := g1 k hlt
        have m2 := g2 k hlt2
        clear hc1 hc2 g1 g2
        by_cases he : l1[k] = l2[k]
        · have he' : (l1[k] != l2[k]) = false := by simpa using he
          have HA2 : Hid (∀ q (h1 : q < l1.length) (h2 : q < l2.length), q < k + 1 → l1[q] = l2[q]) := fun q h1 h2 h => by
            rcases Nat.lt_or_ge q k with h' | h'
            · exact HA.out q h1 h2 h'
            · have e : q = k := by omega
              subst e; exact he
          clear he
          generalize l1[k] = x1 at m1 he'
          generalize l2[k] = x2 at m2 he'
          go_wp2_with fail
          go_region
          all_goals
            go_wp2_with fail
            exact ⟨⟨k + 1, by omega, by go_num, HB.out.drew, HA2⟩, by simp [intOf]; omega⟩
        · have he' : (l1[k] != l2[k]) = true := by simpa using he
          have HD : Hid (decide (l1 = l2) = false) := by
            show decide (l1 = l2) = false
            rw [decide_eq_false]
            rintro rfl; exact he rfl
          clear he
          generalize l1[k] = x1 at m1 he'
          generalize l2[k] = x2 at m2 he'
          go_wp2_with fail
          go_region
          all_goals
            go_wp2
            go_ret
            exact ⟨Ven.ret_bool HD.out.symm, HB.out.drew⟩
      · have hltz : ¬ (k : Int) < (l1.length : Int) := by omega
        have HD : Hid (decide (l1 = l2) = true) := by
          show decide (l1 = l2) = true
          rw [decide_eq_true]
          exact List.ext_getElem HL.out fun i h1 h2 => HA.out i h1 h2 (by omega)
        go_wp2
        go_ret
        exact ⟨Ven.ret_bool HD.out.symm, HB.out⟩
  · have hz : ((l1.length : Int) != (l2.length : Int)) = true := by simp; omega
    have HD : Hid (decide (l1 = l2) = false) := by
      show decide (l1 = l2) = false
      rw [decide_eq_false]
      rintro rfl; exact hl rfl
    go_enter Try.func15, Try.ntmps15
    go_wp2
    go_ret
    exact ⟨Ven.ret_bool HD.out.symm, Below.refl _ w⟩
set_option maxHeartbeats 4000000 in
theorem lists_any (L : List (List Int)) (hL : L.length ≤ 4096) (v1 v2 : Value) (w : World) (h1 : RowsS w v1 L) (h2 : RowsS w v2 L) :
    Calls Try.prog 16 #[v1, v2] w fun e w' => e = .returned (.bool true) ∧ Below w.heap.size w w' := by
  obtain ⟨a1, c1, rfl⟩ := h1.slice
  obtain ⟨a2, c2, rfl⟩ := h2.slice
  have H1 := hid' h1
  have H2 := hid' h2
  clear h1 h2
  have hz : ((L.length : Int) != (L.length : Int)) = false := by simp
  go_enter Try.func16, Try.ntmps16
  go_wp2_with fail
  go_loopw [5] (fun i wr => ∃ k : Nat, k ≤ L.length ∧ i = .int .i64 k ∧ Hid (Below w.heap.size w wr)) (fun i _ => L.length - (intOf i).toNat)
  case atStart => exact ⟨0, Nat.zero_le _, rfl, Below.refl _ w⟩
  case round =>
    obtain ⟨k, hk, rfl, HB⟩ := hrel
    by_cases hlt : k < L.length
    · have hltz : (k : Int) < (L.length : Int) := by omega
      obtain ⟨_, G1, b1, d1, rfl, hg1, g1, s1⟩ := (H1.out.next HB.out).at k hlt
      obtain ⟨_, G2, b2, d2, rfl, hg2, g2, s2⟩ := (H2.out.next HB.out).at k hlt
      have HS : Hid (∀ p : BelowOf wr, Calls Try.prog 15 #[.slice b1 L[k].length d1, .slice b2 L[k].length d2] p.w fun e w' => e = .returned (.bool true) ∧ Below p.w.heap.size p.w w') := fun p => by
        have := same_any L[k] L[k] _ _ p.w (s1.next p.h) (s2.next p.h)
        rw [decide_eq_true rfl] at this
        exact this
      clear s1 s2
      generalize L[k].length = z at *
      have hne : Nonempty (BelowOf wr) := ⟨⟨wr, Below.refl _ wr⟩⟩
      have q1 := fun p : BelowOf wr => (p.h.cell (p := ⟨G1, k, none⟩) hg1).trans g1
      have q2 := fun p : BelowOf wr => (p.h.cell (p := ⟨G2, k, none⟩) hg2).trans g2
      have hs := HS.out
      clear g1 g2
      go_wp2_with fail
      refine wp_region_quiet_below mixed (by kernel_rfl) ?_
      repeat (go_big_quiet_step ((go_at_call 15; exact Calls.below_of (hs _))))
      refine wpQuiet_nil ?_
      intro _ hw'
      obtain ⟨p, hw''⟩ := hw'
      subst hw''
      have HB2 := hid' (HB.out.trans (p.h.mono HB.out.size))
      clear q1 q2 hs HS
      go_wp2_with fail
      exact ⟨⟨k + 1, by omega, by go_num, HB2⟩, by simp [intOf]; omega⟩
    · have hltz : ¬ (k : Int) < (L.length : Int) := by omega
      go_wp2
      go_ret
      exact ⟨rfl, HB.out⟩
end Go.Proofs.Ytdodmbfkcandgaa.Rnn
