/- Orders of seats: one alone where no two seats stand at one place of one row. -/
import Derived.Test.YtdffleaokccgmaaGreatDoorVNorm
import Derived.Test.YtdffleaokccgmaaGreatDoorVOrdP
namespace Go.Proofs.YtdffleaokccgmaaGreatDoor.Ven
set_option linter.unusedVariables false

/-- An order by which the seats rise is the only one. -/
theorem order_unique {l : List Seat} {ord ord' : List Nat} (h : IsOrder l ord) (h' : IsOrder l ord') (hr : ord.Pairwise fun i j => ltS l[i]! l[j]! = true) : ord = ord' :=
  rising_unique (fun i j => ltS l[i]! l[j]!) ord ord' (h.perm.trans h'.perm.symm) hr h'.sorted
theorem rising_order {l : List Seat} {ord : List Nat} (hp : ord.Perm (List.range l.length)) (hr : ord.Pairwise fun i j => ltS l[i]! l[j]! = true) : IsOrder l ord :=
  ⟨hp, hr.imp fun h => ltS_asymm h⟩
/-- Where the venue in some order may be, that order rises, and what comes is the venue in it. -/
theorem NormTo.of_rising {V : Ven} {r : Option Ven} (h : NormTo V r) (h1 : V.seats.length ≤ 4096) (h2 : V.poles.length ≤ 200) (h3 : V.kills.all (fun k => isSeatB k V.seats.length) = true)
    {ord : List Nat} (hp : ord.Perm (List.range V.seats.length)) (hr : ord.Pairwise fun i j => ltS V.seats[i]! V.seats[j]! = true) : r = if mayB (normU V ord) then some (normU V ord) else none := by
  rcases h with ⟨_, h⟩ | ⟨_, _, _, ord', ho, rfl⟩
  · rcases h with h | h | h
    · omega
    · omega
    · rw [h3] at h; cases h
  · rw [order_unique (rising_order hp hr) ho hr]
/-- Where no order rises nothing comes. -/
theorem NormTo.of_none {V : Ven} {r : Option Ven} (h : NormTo V r) (hn : ∀ ord, IsOrder V.seats ord → ¬ (pick V.seats ord).Pairwise (fun a b => ltS a b = true)) : r = none := by
  rcases h with ⟨h, _⟩ | ⟨_, _, _, ord', ho, rfl⟩
  · exact h
  · cases hm : mayB (normU V ord') with
    | false => rfl
    | true =>
      exfalso
      refine hn ord' ho ?_
      unfold mayB at hm
      simp only [Bool.and_eq_true, and_assoc] at hm
      exact ((seatsB_iff _).1 hm.1).2.2.2
end Go.Proofs.YtdffleaokccgmaaGreatDoor.Ven
