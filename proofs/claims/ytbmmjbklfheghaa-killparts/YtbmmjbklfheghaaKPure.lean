/- What can't be sold, as plain functions (no program in it). -/
import Derived.Test.YtbmmjbklfheghaaGPure
namespace Go.Proofs.Ytbmmjbklfheghaa.Kll
set_option linter.unusedVariables false
open Go.Proofs.Ytbmmjbklfheghaa.Ven (Seat Pole Ven mayB)
open Go.Proofs.Ytbmmjbklfheghaa.Geo (nearS thoseN)

/-- Is the seat 'k' nearer to the pole 'i' than that one's way? -/
def poleN (V : Ven) (k i : Nat) : Bool := nearS V.seats[k]! ⟨0, V.poles[i]!.x, V.poles[i]!.y, 0⟩ V.poles[i]!.r
/-- As often as the number is among them: -1. -/
def killN (l : List Int) (k : Nat) : List Int := (l.filter (fun z => decide (z = (k : Int)))).map (fun _ => -1)
/-- By what the seat 'k' is killed. -/
def byN (V : Ven) (k : Nat) : List Int := killN V.kills k ++ thoseN V.poles.length (poleN V k)
def byB (V : Ven) (k : Int) : List Int := if mayB V = true ∧ 0 ≤ k ∧ k < (V.seats.length : Int) then byN V k.toNat else []
def deadN (V : Ven) (k : Nat) : Bool := decide (byN V k ≠ [])
def usableL (V : Ven) : List Bool := if mayB V = true then (List.range V.seats.length).map (fun k => !deadN V k) else []
def killedL (V : Ven) : List Int := if mayB V = true then thoseN V.seats.length (deadN V) else []
theorem killN_nil (k : Nat) : killN [] k = [] := rfl
theorem killN_take (l : List Int) (k i : Nat) (h : i < l.length) : killN (l.take (i + 1)) k = if l[i] = (k : Int) then killN (l.take i) k ++ [-1] else killN (l.take i) k := by
  unfold killN
  rw [List.take_succ_eq_append_getElem h, List.filter_append, List.map_append]
  by_cases e : l[i] = (k : Int)
  · rw [if_pos e, List.filter_cons_of_pos (by simpa using e)]; simp
  · rw [if_neg e, List.filter_cons_of_neg (by simpa using e)]; simp
theorem killN_len (l : List Int) (k : Nat) : (killN l k).length ≤ l.length := by
  unfold killN; rw [List.length_map]; exact List.length_filter_le _ _
theorem killN_mem (l : List Int) (k : Nat) (z : Int) (h : z ∈ killN l k) : z = -1 := by
  unfold killN at h
  obtain ⟨_, _, rfl⟩ := List.mem_map.1 h
  rfl
theorem killN_some (l : List Int) (k : Nat) : killN l k ≠ [] ↔ (k : Int) ∈ l := by
  unfold killN
  rw [ne_eq, List.map_eq_nil_iff, List.filter_eq_nil_iff]
  constructor
  · intro h
    exact Classical.byContradiction fun hc => h fun z hz he => hc (by simp at he; rw [← he]; exact hz)
  · intro h hc
    have := hc _ h
    simp at this
theorem thoseN_some (n : Nat) (p : Nat → Bool) : thoseN n p ≠ [] ↔ ∃ i, i < n ∧ p i = true := by
  constructor
  · intro h
    obtain ⟨z, hz⟩ := List.exists_mem_of_ne_nil _ h
    obtain ⟨i, h1, h2, _⟩ := (Geo.thoseN_mem n p z).1 hz
    exact ⟨i, h1, h2⟩
  · rintro ⟨i, h1, h2⟩ hc
    have := (Geo.thoseN_mem n p (i : Int)).2 ⟨i, h1, h2, rfl⟩
    rw [hc] at this; cases this
/-- Dead is what is among the kills, or near a pole. -/
theorem dead_iff (V : Ven) (k : Nat) : deadN V k = true ↔ (k : Int) ∈ V.kills ∨ ∃ i, i < V.poles.length ∧ poleN V k i = true := by
  unfold deadN byN
  rw [decide_eq_true_eq, ne_eq, List.append_eq_nil_iff, Classical.not_and_iff_not_or_not, ← ne_eq, ← ne_eq, killN_some, thoseN_some]
theorem byB_nat {V : Ven} (hm : mayB V = true) {k : Nat} (hk : k < V.seats.length) : byB V k = byN V k := by
  unfold byB
  rw [if_pos ⟨hm, by omega, by omega⟩, Int.toNat_natCast]
theorem byB_off {V : Ven} {k : Int} (h : ¬ (0 ≤ k ∧ k < (V.seats.length : Int))) : byB V k = [] := by
  unfold byB; rw [if_neg (fun hc => h hc.2)]
theorem usable_len {V : Ven} (hm : mayB V = true) : (usableL V).length = V.seats.length := by
  unfold usableL; rw [if_pos hm]; simp
theorem usable_at {V : Ven} (hm : mayB V = true) (i : Nat) (h : i < (usableL V).length) : (usableL V)[i] = !deadN V i := by
  unfold usableL at h ⊢
  simp [if_pos hm]
theorem killed_eq {V : Ven} (hm : mayB V = true) : killedL V = thoseN V.seats.length (deadN V) := by
  unfold killedL; rw [if_pos hm]
theorem usable_get {V : Ven} {i : Nat} (h : i < (usableL V).length) : (usableL V)[i] = !deadN V i := by
  cases hm : mayB V with
  | true => exact usable_at hm i h
  | false => unfold usableL at h; rw [hm] at h; simp at h
theorem those_usable (V : Ven) : thoseN (usableL V).length (deadN V) = killedL V := by
  cases hm : mayB V with
  | true => rw [usable_len hm, killed_eq hm]
  | false => unfold usableL killedL; rw [hm]; rfl
theorem usable_few (V : Ven) : (usableL V).length ≤ 4096 := by
  cases hm : mayB V with
  | true =>
    rw [usable_len hm]
    have h1 : Ven.seatsB V.seats = true := by
      unfold mayB at hm
      simp only [Bool.and_eq_true] at hm
      exact hm.1.1.1.1
    exact ((Ven.seatsB_iff _).1 h1).2.1
  | false => unfold usableL; rw [hm]; simp
end Go.Proofs.Ytbmmjbklfheghaa.Kll
