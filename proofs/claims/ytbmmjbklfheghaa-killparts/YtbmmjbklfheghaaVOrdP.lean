/- Rising rows; what a venue's parts are, by parts. -/
import Derived.Test.YtbmmjbklfheghaaVSl
namespace Go.Proofs.Ytbmmjbklfheghaa.Ven
set_option linter.unusedVariables false

theorem ltS_trans {a b c : Seat} (h1 : ltS a b = true) (h2 : ltS b c = true) : ltS a c = true := by rw [ltS_iff] at *; omega
theorem ltS_irrefl (a : Seat) : ltS a a = false := by cases h : ltS a a with | false => rfl | true => (rw [ltS_iff] at h; omega)
theorem ltS_asymm {a b : Seat} (h : ltS a b = true) : ltS b a = false := by
  cases h' : ltS b a with
  | false => rfl
  | true => rw [ltS_iff] at *; omega
/-- Of two rows of the same, one rising, the other nowhere falling: they are one. -/
theorem rising_unique {α : Type} (lt : α → α → Bool) : ∀ (l1 l2 : List α), l1.Perm l2 → l1.Pairwise (fun a b => lt a b = true) → l2.Pairwise (fun a b => lt b a = false) → l1 = l2
  | [], l2, hp, _, _ => (List.nil_perm.1 hp).symm
  | x :: r, [], hp, _, _ => by have := hp.length_eq; simp at this
  | x :: r, y :: r2, hp, h1, h2 => by
    rw [List.pairwise_cons] at h1 h2
    have hxy : x = y := by
      rcases List.mem_cons.1 (hp.mem_iff.1 List.mem_cons_self) with h | h
      · exact h
      · rcases List.mem_cons.1 (hp.mem_iff.2 List.mem_cons_self) with h' | h'
        · exact h'.symm
        · have := h1.1 y h'
          rw [h2.1 x h] at this; cases this
    subst hxy
    rw [rising_unique lt r r2 (hp.cons_inv) h1.2 h2.2]
/-- seatsB, by parts. -/
theorem seatsB_iff (l : List Seat) : seatsB l = true ↔ 1 ≤ l.length ∧ l.length ≤ 4096 ∧ (∀ s ∈ l, seatB s = true) ∧ l.Pairwise (fun a b => ltS a b = true) := by
  unfold seatsB
  simp only [Bool.and_eq_true, decide_eq_true_eq, upB_iff, and_assoc]
  refine and_congr_right fun h1 => and_congr_right fun h2 => ?_
  constructor
  · intro h
    refine ⟨fun s hs => ?_, ?_⟩
    · obtain ⟨i, hi, rfl⟩ := List.getElem_of_mem hs
      have := h i hi
      unfold okSeat at this
      rw [getElem!_pos l i hi] at this
      simp only [Bool.and_eq_true] at this
      exact this.1
    · rw [List.pairwise_iff_getElem]
      have step : ∀ i (hi : i + 1 < l.length), ltS (l[i]'(by omega)) l[i + 1] = true := fun i hi => by
        have := h (i + 1) hi
        rw [okSeat_succ l (i + 1) (by omega) hi, Bool.and_eq_true] at this
        exact this.2
      intro i j hi hj hij
      induction j with
      | zero => omega
      | succ j ih =>
        rcases Nat.lt_or_ge i j with h' | h'
        · exact ltS_trans (ih (by omega) h') (step j hj)
        · have e : i = j := by omega
          subst e; exact step i hj
  · rintro ⟨h3, h4⟩ i hi
    rw [List.pairwise_iff_getElem] at h4
    rcases Nat.eq_zero_or_pos i with h0 | h0
    · subst h0; rw [okSeat_zero l hi]; exact h3 _ (List.getElem_mem _)
    · rw [okSeat_succ l i h0 hi, Bool.and_eq_true]
      exact ⟨h3 _ (List.getElem_mem _), h4 (i - 1) i (by omega) hi (by omega)⟩
theorem killsB_iff (l : List Int) (n : Int) : killsB l n = true ↔ l.length ≤ 200 ∧ (∀ k ∈ l, isSeatB k n = true) ∧ l.Pairwise (fun a b => a < b) := by
  unfold killsB
  simp only [Bool.and_eq_true, decide_eq_true_eq, upB_iff]
  refine and_congr_right fun h1 => ?_
  have ok0 : ∀ h : 0 < l.length, okKill l n 0 = isSeatB l[0] n := fun h => by unfold okKill; simp [h]
  have okS : ∀ k (h0 : 0 < k) (h : k < l.length), okKill l n k = (isSeatB l[k] n && decide (l[k - 1] < l[k])) := fun k h0 h => by
    have h' : k - 1 < l.length := by omega
    have e : (k == 0) = false := by simp; omega
    unfold okKill; simp only [e, Bool.false_or, getElem!_pos l k h, getElem!_pos l (k - 1) h']
  constructor
  · intro h
    refine ⟨fun s hs => ?_, ?_⟩
    · obtain ⟨i, hi, rfl⟩ := List.getElem_of_mem hs
      have := h i hi
      unfold okKill at this
      rw [getElem!_pos l i hi] at this
      simp only [Bool.and_eq_true] at this
      exact this.1
    · rw [List.pairwise_iff_getElem]
      have step : ∀ i (hi : i + 1 < l.length), (l[i]'(by omega)) < l[i + 1] := fun i hi => by
        have := h (i + 1) hi
        rw [okS (i + 1) (by omega) hi, Bool.and_eq_true] at this
        exact of_decide_eq_true this.2
      intro i j hi hj hij
      induction j with
      | zero => omega
      | succ j ih =>
        rcases Nat.lt_or_ge i j with h' | h'
        · exact Int.lt_trans (ih (by omega) h') (step j hj)
        · have e : i = j := by omega
          subst e; exact step i hj
  · rintro ⟨h3, h4⟩ i hi
    rw [List.pairwise_iff_getElem] at h4
    rcases Nat.eq_zero_or_pos i with h0 | h0
    · subst h0; rw [ok0 hi]; exact h3 _ (List.getElem_mem _)
    · rw [okS i h0 hi, Bool.and_eq_true]
      exact ⟨h3 _ (List.getElem_mem _), decide_eq_true (h4 (i - 1) i (by omega) hi (by omega))⟩
theorem polesB_iff (l : List Pole) : polesB l = true ↔ l.length ≤ 200 ∧ ∀ p ∈ l, poleB p = true := by
  unfold polesB
  simp only [Bool.and_eq_true, decide_eq_true_eq, upB_iff]
  refine and_congr_right fun h1 => ?_
  constructor
  · intro h s hs
    obtain ⟨i, hi, rfl⟩ := List.getElem_of_mem hs
    have := h i hi
    unfold okPole at this
    rw [getElem!_pos l i hi] at this
    exact this
  · intro h i hi
    unfold okPole
    rw [getElem!_pos l i hi]
    exact h _ (List.getElem_mem _)
end Go.Proofs.Ytbmmjbklfheghaa.Ven
