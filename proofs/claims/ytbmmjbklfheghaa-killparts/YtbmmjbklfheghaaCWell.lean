/- What a venue that may be has (names no function). -/
import Derived.Test.YtbmmjbklfheghaaVOrdP
namespace Go.Proofs.Ytbmmjbklfheghaa.Com
set_option linter.unusedVariables false
set_option maxRecDepth 100000
open Go.Proofs.Ytbmmjbklfheghaa.Ven (Seat Pole Ven mayB seatsB_iff)

/-- Of a venue that may be: seats enough, and few; no difference of coordinates turns about. -/
structure Well (V : Ven) : Prop where
  one : 1 ≤ V.seats.length
  few : V.seats.length ≤ 4096
  x : ∀ i (h : i < V.seats.length), -1048576 ≤ V.seats[i].x ∧ V.seats[i].x ≤ 1048576
theorem may_well {V : Ven} (h : mayB V = true) : Well V := by
  have h1 : Ven.seatsB V.seats = true := by
    unfold mayB at h
    simp only [Bool.and_eq_true] at h
    exact h.1.1.1.1
  have h2 := (seatsB_iff _).1 h1
  refine ⟨h2.1, h2.2.1, fun i hi => ?_⟩
  have h3 := h2.2.2.1 V.seats[i] (List.getElem_mem hi)
  unfold Ven.seatB Ven.standsB Ven.coordB at h3
  simp only [Bool.and_eq_true, decide_eq_true_eq] at h3
  omega
end Go.Proofs.Ytbmmjbklfheghaa.Com
