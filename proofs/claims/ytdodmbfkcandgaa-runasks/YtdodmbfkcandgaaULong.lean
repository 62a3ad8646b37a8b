/- Package run's answers of a venue, as plain functions (no program in it). -/
import Derived.Test.YtdodmbfkcandgaaUPure
namespace Go.Proofs.Ytdodmbfkcandgaa.Rnn
set_option linter.unusedVariables false
open Go.Proofs.Ytdodmbfkcandgaa.Ven (Seat Pole Ven mayB)

def goB (l : List Seat) (gap : Int) (u : List Bool) (a : Nat) : Bool := nextL l gap a && isU u (a + 1)
theorem next_lt {l : List Seat} {gap : Int} {a : Nat} (h : nextL l gap a = true) : a + 1 < l.length := by
  unfold nextL at h
  simp only [Bool.and_eq_true] at h
  exact of_decide_eq_true h.1
theorem goB_lt {l : List Seat} {gap : Int} {u : List Bool} (a : Nat) (h : goB l gap u a = true) : a + 1 < l.length := by
  unfold goB at h
  exact next_lt (Bool.and_eq_true_iff.1 h).1
theorem next_mono {l : List Seat} {gap gap' : Int} (h : gap ≤ gap') (a : Nat) (ha : nextL l gap a = true) : nextL l gap' a = true := by
  unfold nextL at ha ⊢
  simp only [Bool.and_eq_true, decide_eq_true_eq] at ha ⊢
  exact ⟨ha.1, ha.2.1, by omega⟩
/-- How many from 'a' on are usable and next to one another. -/
def longL (l : List Seat) (gap : Int) (u : List Bool) (a : Nat) : Nat := if a < l.length ∧ isU u a = true then runN (goB l gap u) (l.length - a) a else 0
def longB (V : Ven) (u : List Bool) (a : Int) : Int := if 0 ≤ a ∧ mayB V = true then (longL V.seats V.gap u a.toNat : Int) else 0
theorem links (l : List Seat) (gap : Int) (u : List Bool) : Links l.length (isU u) (nextL l gap) (longL l gap u) where
  zero a ha hu := by unfold longL; rw [if_neg (by rw [hu]; simp)]
  pos a ha hu := by unfold longL; rw [if_pos ⟨ha, hu⟩]; exact runN_pos _ _ _
  le a ha := by
    unfold longL
    split
    · exact runN_le _ _ goB_lt _ _ ha
    · omega
  on a ha i hi := by
    unfold longL at hi
    split at hi
    · have := runN_go _ _ _ _ hi
      unfold goB at this
      exact Bool.and_eq_true_iff.1 this
    · omega
  off a ha hu := by
    have h1 := runN_stop (goB l gap u) l.length goB_lt (l.length - a) a ha (Nat.le_refl _)
    have h2 := runN_pos (goB l gap u) (l.length - a) a
    unfold longL
    rw [if_pos ⟨ha, hu⟩]
    generalize runN (goB l gap u) (l.length - a) a = k at *
    unfold goB at h1
    rwa [show a + k - 1 + 1 = a + k by omega] at h1
theorem long_mono {l : List Seat} {gap gap' : Int} (h : gap ≤ gap') (u : List Bool) (a : Nat) : longL l gap u a ≤ longL l gap' u a := by
  unfold longL
  split
  · refine runN_mono _ _ (fun b hb => ?_) _ _
    unfold goB at hb ⊢
    obtain ⟨h1, h2⟩ := Bool.and_eq_true_iff.1 hb
    rw [next_mono h b h1, h2]; rfl
  · exact Nat.le_refl _
/-- Numbers from one on. -/
def rowL (a k : Nat) : List Int := (List.range' a k).map Int.ofNat
def cutL (V : Ven) (u : List Bool) : List (Nat × Nat) := cutF (longL V.seats V.gap u) V.seats.length V.seats.length 0
def runsL (V : Ven) (u : List Bool) : List (List Int) := if mayB V = true then (cutL V u).map (fun p => rowL p.1 p.2) else []
def ofB (V : Ven) (u : List Bool) (first size : Int) : Option (List Int) := if 1 ≤ size ∧ size ≤ longB V u first then some (rowL first.toNat size.toNat) else none
theorem runs_fewer {V V' : Ven} (u : List Bool) (hs : V'.seats = V.seats) (hg : V.gap ≤ V'.gap) : (cutL V' u).length ≤ (cutL V u).length := by
  unfold cutL
  rw [hs]
  exact cut_fewer (links V.seats V.gap u) (links V.seats V'.gap u) (next_mono hg)
theorem runs_flat (V : Ven) (u : List Bool) : (cutL V u).flatMap (fun p => List.range' p.1 p.2) = (List.range V.seats.length).filter (isU u) := by
  unfold cutL
  rw [cut_flat (links V.seats V.gap u) V.seats.length 0 (by omega), List.range_eq_range']
  rfl
end Go.Proofs.Ytdodmbfkcandgaa.Rnn
