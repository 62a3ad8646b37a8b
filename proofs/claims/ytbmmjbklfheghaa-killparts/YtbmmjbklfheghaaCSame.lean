/- parterreref6.SameInts by its contract. -/
import Derived.Test.YtbmmjbklfheghaaCInts
namespace Go.Proofs.Ytbmmjbklfheghaa.Com
set_option linter.unusedVariables false
set_option maxRecDepth 100000
open Go.RowKit Go.Shelf
open Go.Proofs.Ytbmmjbklfheghaa.Ven (Sl intC Cells ret_bool)

set_option maxHeartbeats 2000000 in
theorem same_any (l1 l2 : List Int) (v1 v2 : Value) (w : World) (h1 : Sl 1 intC w v1 l1) (h2 : Sl 1 intC w v2 l2) :
    Calls Try.prog 12 #[v1, v2] w fun e w' => e = .returned (.bool (decide (l1 = l2))) ∧ Below w.heap.size w w' := by
  have H1 := hid' h1
  have H2 := hid' h2
  obtain ⟨a1, c1, rfl, hm1, _⟩ := Sl.form h1
  obtain ⟨a2, c2, rfl, hm2, _⟩ := Sl.form h2
  clear h1 h2
  unfold maxLen at hm1 hm2
  by_cases hl : l1.length = l2.length
  · have hz : ((l1.length : Int) != (l2.length : Int)) = false := by simp [hl]
    have HL := hid' hl
    clear hl
    go_enter Try.func12, Try.ntmps12
    go_wp2_with fail
    go_loopw [5] (fun i wr => ∃ k : Nat, k ≤ l1.length ∧ i = .int .i64 k ∧ Hid (Below w.heap.size w wr) ∧ Hid (∀ q (h1 : q < l1.length) (h2 : q < l2.length), q < k → l1[q] = l2[q])) (fun i _ => l1.length - (intOf i).toNat)
    case atStart => exact ⟨0, Nat.zero_le _, rfl, Below.refl _ w, fun q _ _ h => absurd h (by omega)⟩
    case round =>
      obtain ⟨k, hk, rfl, HB, HA⟩ := hrel
      by_cases hlt : k < l1.length
      · have hltz : (k : Int) < (l1.length : Int) := by omega
        have hlt2 : k < l2.length := by have := HL.out; omega
        have hltz2 : (k : Int) < (l2.length : Int) := by omega
        obtain ⟨a1', c1', e1, _, hc1⟩ := Sl.form (H1.out.next HB.out)
        injection e1 with e1 _ e1c
        subst e1 e1c
        obtain ⟨a2', c2', e2, _, hc2⟩ := Sl.form (H2.out.next HB.out)
        injection e2 with e2 _ e2c
        subst e2 e2c
        obtain ⟨b1, o1, rfl, hcc1, hb1, g1⟩ := hc1 k hlt
        obtain ⟨b2, o2, rfl, hcc2, hb2, g2⟩ := hc2 k hlt2
        have m1 := g1 k hlt
        have m2 := g2 k hlt2
        clear hc1 hc2 g1 g2
        by_cases he : l1[k] = l2[k]
        · have he' : (l1[k] != l2[k]) = false := by simpa using he
          have HA2 : Hid (∀ q (h1 : q < l1.length) (h2 : q < l2.length), q < k + 1 → l1[q] = l2[q]) := fun q h1 h2 h => by
            rcases Nat.lt_or_ge q k with h' | h'
            · exact HA.out q h1 h2 h'
            · have e : q = k := by omega
              subst e; exact he
          clear he
          generalize l1[k] = x1 at m1 he'
          generalize l2[k] = x2 at m2 he'
          go_wp2_with fail
          go_region
          all_goals
            go_wp2_with fail
            exact ⟨⟨k + 1, by omega, by go_num, HB.out.drew, HA2⟩, by simp [intOf]; omega⟩
        · have he' : (l1[k] != l2[k]) = true := by simpa using he
          have HD : Hid (decide (l1 = l2) = false) := by
            show decide (l1 = l2) = false
            rw [decide_eq_false]
            rintro rfl; exact he rfl
          clear he
          generalize l1[k] = x1 at m1 he'
          generalize l2[k] = x2 at m2 he'
          go_wp2_with fail
          go_region
          all_goals
            go_wp2
            go_ret
            exact ⟨Ven.ret_bool HD.out.symm, HB.out.drew⟩
      · have hltz : ¬ (k : Int) < (l1.length : Int) := by omega
        have HD : Hid (decide (l1 = l2) = true) := by
          show decide (l1 = l2) = true
          rw [decide_eq_true]
          exact List.ext_getElem HL.out fun i h1 h2 => HA.out i h1 h2 (by omega)
        go_wp2
        go_ret
        exact ⟨Ven.ret_bool HD.out.symm, HB.out⟩
  · have hz : ((l1.length : Int) != (l2.length : Int)) = true := by simp; omega
    have HD : Hid (decide (l1 = l2) = false) := by
      show decide (l1 = l2) = false
      rw [decide_eq_false]
      rintro rfl; exact hl rfl
    go_enter Try.func12, Try.ntmps12
    go_wp2
    go_ret
    exact ⟨Ven.ret_bool HD.out.symm, Below.refl _ w⟩
end Go.Proofs.Ytbmmjbklfheghaa.Com
