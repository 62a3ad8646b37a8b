/- A pole more makes nothing usable (no program in it). -/
import Derived.Test.YtbmmjbklfheghaaKRef
import Derived.Test.YtbmmjbklfheghaaVMakeP
namespace Go.Proofs.Ytbmmjbklfheghaa.Kll
set_option linter.unusedVariables false
open Go.Proofs.Ytbmmjbklfheghaa.Ven (Seat Pole Ven mayB standsB MkOK)
open Go.Proofs.Ytbmmjbklfheghaa.Geo (nearS thoseN sqI sqI_zero mul_lt)

/-- The venue with a pole more. -/
def moreV (V : Ven) (p : Pole) : Ven := { V with poles := V.poles ++ [p] }
theorem more_pole {V : Ven} {p : Pole} {k i : Nat} (h : i < V.poles.length) : poleN (moreV V p) k i = poleN V k i := by
  unfold poleN moreV
  simp only
  rw [getElem!_pos (V.poles ++ [p]) i (by simp; omega), getElem!_pos V.poles i h, List.getElem_append_left h]
theorem more_last (V : Ven) (p : Pole) (k : Nat) : poleN (moreV V p) k V.poles.length = nearS V.seats[k]! ⟨0, p.x, p.y, 0⟩ p.r := by
  unfold poleN moreV
  simp only
  rw [getElem!_pos (V.poles ++ [p]) V.poles.length (by simp)]
  simp
/-- What was dead stays so. -/
theorem more_dead {V : Ven} {p : Pole} {k : Nat} (h : deadN V k = true) : deadN (moreV V p) k = true := by
  rw [dead_iff] at h ⊢
  rcases h with h | ⟨i, h1, h2⟩
  · exact .inl h
  · refine .inr ⟨i, ?_, ?_⟩
    · show i < (V.poles ++ [p]).length
      rw [List.length_append]; omega
    · rw [more_pole h1]; exact h2
/-- The seat at the new pole's place is dead. -/
theorem more_at {V : Ven} {k : Nat} (hk : k < V.seats.length) {r : Int} (hr : 1 ≤ r) : deadN (moreV V ⟨V.seats[k].x, V.seats[k].y, r⟩) k = true := by
  rw [dead_iff]
  refine .inr ⟨V.poles.length, ?_, ?_⟩
  · show V.poles.length < (V.poles ++ [_]).length
    simp
  · rw [more_last, getElem!_pos V.seats k hk]
    unfold nearS
    rw [decide_eq_true]
    have e : sqI V.seats[k].x V.seats[k].y V.seats[k].x V.seats[k].y = 0 := (sqI_zero _ _ _ _).2 ⟨rfl, rfl⟩
    show sqI V.seats[k].x V.seats[k].y V.seats[k].x V.seats[k].y < r * r
    rw [e]
    have := mul_lt (r := 1) (by omega) hr
    omega
/-- It may be. -/
theorem more_may {V : Ven} (hm : mayB V = true) {p : Pole} (hp : standsB p.x p.y = true) (h1 : 1 ≤ p.r) (h2 : p.r ≤ 1048576) (hl : V.poles.length < 200) : mayB (moreV V p) = true := by
  unfold mayB at hm ⊢
  simp only [Bool.and_eq_true] at hm ⊢
  refine ⟨hm.1, ?_⟩
  have hq := hm.2
  unfold Ven.polesB at hq ⊢
  simp only [Bool.and_eq_true, decide_eq_true_eq] at hq ⊢
  refine ⟨by show (V.poles ++ [p]).length ≤ 200; rw [List.length_append]; simp; omega, (Ven.upB_iff _ _).2 fun i hi => ?_⟩
  have hi' : i < (V.poles ++ [p]).length := hi
  unfold Ven.okPole moreV
  simp only
  rw [getElem!_pos (V.poles ++ [p]) i hi']
  rw [List.length_append] at hi'
  by_cases e : i < V.poles.length
  · have h3 := (Ven.upB_iff _ _).1 hq.2 i e
    unfold Ven.okPole at h3
    rw [getElem!_pos V.poles i e] at h3
    rw [List.getElem_append_left e]; exact h3
  · have e2 : i = V.poles.length := by simp at hi'; omega
    subst e2
    rw [List.getElem_append_right (Nat.le_refl _)]
    simp only [Nat.sub_self, List.getElem_cons_zero]
    unfold Ven.poleB Ven.lengthB
    rw [hp, decide_eq_true h1, decide_eq_true h2]; rfl
end Go.Proofs.Ytbmmjbklfheghaa.Kll
