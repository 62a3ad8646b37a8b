/- Lines of tokens: plain facts. -/
import Derived.Test.YtgpkdjhllekihaaGreatDoorTPure2
import Derived.Test.YtgpkdjhllekihaaGreatDoorTLine
namespace Go.Proofs.YtgpkdjhllekihaaGreatDoor.Tok
set_option linter.unusedVariables false

/-- How many tokens end a line. -/
def endsN (ts : List Tok) : Nat := ts.countP endB
theorem allP_lines : ∀ (n : Nat) (r : List UInt8) (li co : Int), r.length ≤ n → ∀ j t, (allP r li co).1[j]? = some t → t.2.2.1 = li + endsN ((allP r li co).1.take j) := by
 intro n
 induction n with
 | zero =>
  intro r li co hr j t h
  rcases allP_cases r li co with ⟨_, e⟩ | ⟨_, _, _, _, _, _, e⟩ | ⟨hlt, _⟩
  ·rw [e] at h; simp at h
  ·rw [e] at h; simp at h
  ·omega
 | succ n ih =>
  intro r li co hr j t h
  rcases allP_cases r li co with ⟨_, e⟩ | ⟨_, _, _, _, _, _, e⟩ | ⟨_, gk, gn, gt, gs, _, h1, h2, _, e⟩
  ·rw [e] at h; simp at h
  ·rw [e] at h; simp at h
  ·rw [e] at h ⊢
   cases j with
   | zero => simp at h; subst h; simp [endsN]
   | succ j =>
    simp only [List.getElem?_cons_succ] at h
    have := ih (r.drop (unsaidL r + gs)) _ _ (by rw [List.length_drop]; omega) j t h
    rw [this, List.take_succ_cons]
    unfold endsN
    rw [List.countP_cons]
    by_cases h3 : gk = 3
    ·rw [if_pos h3]
     have : endB (gk, gn, li, co + unsaidL r, gt) = true := by unfold endB; simp [h3]
     rw [if_pos this]; omega
    ·rw [if_neg h3]
     have : endB (gk, gn, li, co + unsaidL r, gt) = false := by unfold endB; simp [h3]
     rw [if_neg (show ¬ (endB (gk, gn, li, co + unsaidL r, gt) = true) by rw [this]; simp)]; omega
theorem allP_code : ∀ (n : Nat) (r : List UInt8) (li co : Int), r.length ≤ n → (allP r li co).2.2.2 = 0 ∨ (allP r li co).2.2.2 = 2 := by
 intro n
 induction n with
 | zero =>
  intro r li co hr
  rcases allP_cases r li co with ⟨_, e⟩ | ⟨_, _, _, _, _, _, e⟩ | ⟨hlt, _⟩
  ·rw [e]; simp
  ·rw [e]; simp
  ·omega
 | succ n ih =>
  intro r li co hr
  rcases allP_cases r li co with ⟨_, e⟩ | ⟨_, _, _, _, _, _, e⟩ | ⟨_, gk, gn, gt, gs, _, h1, h2, _, e⟩
  ·rw [e]; simp
  ·rw [e]; simp
  ·rw [e]
   exact ih _ _ _ (by rw [List.length_drop]; omega)
theorem allP_len : ∀ (n : Nat) (r : List UInt8) (li co : Int), r.length ≤ n → (allP r li co).1.length ≤ r.length := by
 intro n
 induction n with
 | zero =>
  intro r li co hr
  rcases allP_cases r li co with ⟨_, e⟩ | ⟨_, _, _, _, _, _, e⟩ | ⟨hlt, _⟩
  ·rw [e]; simp
  ·rw [e]; simp
  ·omega
 | succ n ih =>
  intro r li co hr
  rcases allP_cases r li co with ⟨_, e⟩ | ⟨_, _, _, _, _, _, e⟩ | ⟨_, gk, gn, gt, gs, _, h1, h2, _, e⟩
  ·rw [e]; simp
  ·rw [e]; simp
  ·rw [e]
   have := ih (r.drop (unsaidL r + gs)) (if gk = 3 then li + 1 else li) (if gk = 3 then 1 else co + unsaidL r + gs) (by rw [List.length_drop]; omega)
   rw [List.length_drop] at this
   simp only [List.length_cons]; omega

theorem lineLen_no (ts : List Tok) : ∀ i (h : i < lineLen ts) (hi : i < ts.length), endB ts[i] = false := by
 induction ts with
 | nil => intro i h hi; simp at hi
 | cons t r ih =>
  intro i h hi
  rw [lineLen_cons] at h
  cases ht : endB t with
  | true => rw [ht] at h; simp at h
  | false =>
   rw [ht] at h
   cases i with
   | zero => exact ht
   | succ i => exact ih i (by simpa using h) (by simpa using hi)
theorem lineLen_yes (ts : List Tok) (h : lineLen ts < ts.length) : endB ts[lineLen ts] = true := by
 induction ts with
 | nil => simp at h
 | cons t r ih =>
  rw [lineLen_cons] at h
  cases ht : endB t with
  | true => simp [lineLen_cons, ht]
  | false =>
   rw [ht] at h
   have := ih (by simpa using h)
   simp [lineLen_cons, ht, this]
/-- Within a line nothing ends; behind it one end more. -/
theorem ends_in (ts : List Tok) (a i : Nat) (ha : a ≤ ts.length) (hi : i ≤ lineLen (ts.drop a)) : endsN (ts.take (a + i)) = endsN (ts.take a) := by
 induction i with
 | zero => rfl
 | succ i ih =>
  have hle := lineLen_le (ts.drop a)
  rw [List.length_drop] at hle
  have hlt : a + i < ts.length := by omega
  have hno := lineLen_no (ts.drop a) i (by omega) (by rw [List.length_drop]; omega)
  rw [List.getElem_drop] at hno
  rw [← Nat.add_assoc, List.take_succ_eq_append_getElem hlt]
  unfold endsN at ih ⊢
  rw [List.countP_append, ih (by omega)]
  simp [hno]
theorem ends_next (ts : List Tok) (a : Nat) (ha : a ≤ ts.length) (h : a + lineLen (ts.drop a) < ts.length) : endsN (ts.take (a + lineLen (ts.drop a) + 1)) = endsN (ts.take a) + 1 := by
 have hy := lineLen_yes (ts.drop a) (by rw [List.length_drop]; omega)
 rw [List.getElem_drop] at hy
 rw [List.take_succ_eq_append_getElem h]
 have := ends_in ts a (lineLen (ts.drop a)) ha (Nat.le_refl _)
 unfold endsN at this ⊢
 rw [List.countP_append, this]
 simp [hy]
end Go.Proofs.YtgpkdjhllekihaaGreatDoor.Tok
