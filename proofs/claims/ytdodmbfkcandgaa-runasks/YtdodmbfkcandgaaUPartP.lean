/- The pieces, one seat behind the other (no program in it). -/
import Derived.Test.YtdodmbfkcandgaaULongC
namespace Go.Proofs.Ytdodmbfkcandgaa.Rnn
set_option linter.unusedVariables false
open Go.Proofs.Ytdodmbfkcandgaa.Ven (Seat Pole Ven mayB)

/-- The number behind the last piece. -/
def addLast (P : List (List Int)) (a : Int) : List (List Int) := P.dropLast ++ [P.getLastD [] ++ [a]]
/-- The pieces of the first 'n' seats. -/
def partN (V : Ven) (u : List Bool) : Nat → List (List Int)
  | 0 => []
  | k + 1 => if roleB V u k = 1 then addLast (partN V u k ++ [[]]) k else if roleB V u k = 2 then addLast (partN V u k) k else partN V u k
theorem addLast_app (Q : List (List Int)) (x : List Int) (a : Int) : addLast (Q ++ [x]) a = Q ++ [x ++ [a]] := by
  unfold addLast; simp
theorem role_nat {V : Ven} {u : List Bool} {a : Nat} (ha : a < V.seats.length) : roleB V u a = if isU u a = true then (if a ≠ 0 ∧ (isU u (a - 1) && nextL V.seats V.gap (a - 1)) = true then 2 else 1) else 0 := by
  unfold roleB
  rw [usB_nat u ha]
  cases a with
  | zero =>
    have : usB V.seats.length u (((0 : Nat) : Int) - 1) = false := usB_off u (by omega)
    rw [this]; simp
  | succ k =>
    rw [show ((k + 1 : Nat) : Int) - 1 = (k : Int) by omega, usB_nat u (show k < V.seats.length by omega), Int.toNat_natCast, Nat.add_sub_cancel]
    simp
/-- Here a piece may begin. -/
def Open (V : Ven) (u : List Bool) (a : Nat) : Prop := a = 0 ∨ (isU u (a - 1) && nextL V.seats V.gap (a - 1)) = false ∨ isU u a = false
theorem part_run {V : Ven} {u : List Bool} {a : Nat} (ha : a < V.seats.length) (ho : Open V u a) (hu : isU u a = true) : ∀ i, i < longL V.seats V.gap u a → partN V u (a + (i + 1)) = partN V u a ++ [rowL a (i + 1)] := by
  have L := links V.seats V.gap u
  have hle := L.le a ha
  intro i
  induction i with
  | zero =>
    intro hi
    have hr : roleB V u a = 1 := by
      rw [role_nat ha, if_pos hu, if_neg]
      rintro ⟨h0, h1⟩
      rcases ho with h | h | h
      · exact h0 h
      · rw [h1] at h; cases h
      · rw [hu] at h; cases h
    show partN V u (a + 1) = _
    conv => lhs; unfold partN
    rw [if_pos hr, addLast_app]; rfl
  | succ i ih =>
    intro hi
    have h1 := L.on a ha i hi
    have h2 := L.usable ha (i := i) (by omega)
    have hr : roleB V u ((a + (i + 1) : Nat) : Int) = 2 := by
      rw [role_nat (by omega), show a + (i + 1) = a + i + 1 by omega, h1.2, if_pos rfl, if_pos]
      rw [Nat.add_sub_cancel, h1.1, h2]
      exact ⟨by omega, rfl⟩
    show partN V u (a + (i + 1) + 1) = _
    conv => lhs; unfold partN
    rw [hr, if_neg (by decide), if_pos rfl, ih (by omega), addLast_app]
    congr 2
    unfold rowL
    rw [List.range'_concat (s := a) (n := i + 1)]
    simp
theorem part_cut (V : Ven) (u : List Bool) : ∀ (f a : Nat), a ≤ V.seats.length → V.seats.length - a ≤ f → Open V u a → partN V u V.seats.length = partN V u a ++ (cutF (longL V.seats V.gap u) V.seats.length f a).map (fun p => rowL p.1 p.2) := by
  have L := links V.seats V.gap u
  intro f
  induction f with
  | zero =>
    intro a h1 h2 _
    rw [show a = V.seats.length by omega]; simp [cutF]
  | succ f ih =>
    intro a h1 h2 ho
    by_cases ha : a < V.seats.length
    · unfold cutF
      rw [if_pos ha]
      by_cases hl : longL V.seats V.gap u a = 0
      · have hu : isU u a = false := by
          cases hu : isU u a with
          | false => rfl
          | true => have := L.pos a ha hu; omega
        have hr : roleB V u a = 0 := by rw [role_nat ha, hu]; rfl
        have hs : partN V u (a + 1) = partN V u a := by
          conv => lhs; unfold partN
          rw [hr]; rfl
        rw [if_pos hl, ih (a + 1) (by omega) (by omega) (.inr (.inl (by rw [Nat.add_sub_cancel, hu]; rfl))), hs]
      · have hu := L.usable ha (i := 0) (by omega)
        have hle := L.le a ha
        have hoff := L.off a ha hu
        have hs := part_run ha ho hu (longL V.seats V.gap u a - 1) (by omega)
        rw [show longL V.seats V.gap u a - 1 + 1 = longL V.seats V.gap u a by omega] at hs
        rw [if_neg hl, ih (a + longL V.seats V.gap u a) (by omega) (by omega) ?_, hs, List.map_cons, List.append_assoc]
        · rfl
        · right
          cases hx : nextL V.seats V.gap (a + longL V.seats V.gap u a - 1) with
          | false => left; simp
          | true => right; rw [hx, Bool.true_and] at hoff; exact hoff
    · unfold cutF
      rw [if_neg ha, show a = V.seats.length by omega]; simp
theorem part_all {V : Ven} {u : List Bool} (hm : mayB V = true) : partN V u V.seats.length = runsL V u := by
  unfold runsL cutL
  rw [if_pos hm, part_cut V u V.seats.length 0 (by omega) (by omega) (.inl rfl)]
  rfl
theorem part_some {V : Ven} {u : List Bool} {k : Nat} (hk : k < V.seats.length) (hr : roleB V u k = 2) : ∃ Q x, partN V u k = Q ++ [x] := by
  have hP : partN V u k ≠ [] := by
    intro hP
    have hu1 : isU u k = true := by
      cases hu : isU u k with
      | true => rfl
      | false => rw [role_nat hk, hu] at hr; cases hr
    rw [role_nat hk, if_pos hu1] at hr
    split at hr
    · rename_i hc
      have hprev : isU u (k - 1) = true := (Bool.and_eq_true_iff.1 hc.2).1
      obtain ⟨q, rfl⟩ : ∃ q, k = q + 1 := ⟨k - 1, by omega⟩
      rw [Nat.add_sub_cancel] at hprev
      unfold partN at hP
      have hrq : roleB V u q = 1 ∨ roleB V u q = 2 := by
        rw [role_nat (by omega), if_pos hprev]; split <;> simp
      rcases hrq with e | e
      · rw [e] at hP; simp [addLast] at hP
      · rw [e] at hP; simp [addLast] at hP
    · cases hr
  exact ⟨_, _, (List.dropLast_concat_getLast hP).symm⟩
theorem part_len (V : Ven) (u : List Bool) : ∀ k, k ≤ V.seats.length → (partN V u k).length ≤ k ∧ ∀ x ∈ partN V u k, x.length ≤ k := by
  intro k
  induction k with
  | zero => intro _; exact ⟨Nat.le_refl _, fun x hx => by cases hx⟩
  | succ k ih =>
    intro hk
    have h := ih (by omega)
    have hadd : ∀ P : List (List Int), P.length ≤ k + 1 → (∀ x ∈ P, x.length ≤ k) → P ≠ [] → (addLast P k).length ≤ k + 1 ∧ ∀ x ∈ addLast P k, x.length ≤ k + 1 := by
      intro P h1 h2 h3
      obtain ⟨Q, x, rfl⟩ : ∃ Q x, P = Q ++ [x] := ⟨P.dropLast, P.getLast h3, (List.dropLast_concat_getLast h3).symm⟩
      rw [addLast_app]
      refine ⟨by simpa using h1, fun y hy => ?_⟩
      rcases List.mem_append.1 hy with hy | hy
      · have := h2 y (List.mem_append_left _ hy); omega
      · simp at hy
        subst hy
        have := h2 x (by simp)
        simp; omega
    unfold partN
    split
    · refine hadd _ (by simp; exact h.1) (fun x hx => ?_) (by simp)
      rcases List.mem_append.1 hx with hx | hx
      · exact h.2 x hx
      · simp at hx; subst hx; simp
    · split
      · rename_i hr2
        obtain ⟨Q, x, hq⟩ := part_some (by omega) hr2
        exact hadd _ (by omega) h.2 (by rw [hq]; simp)
      · exact ⟨by omega, fun x hx => by have := h.2 x hx; omega⟩
end Go.Proofs.Ytdodmbfkcandgaa.Rnn
