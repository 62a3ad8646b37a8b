/- All tokens of a text, step by step from the left: plain facts. -/
import Derived.Test.YtgpkdjhllekihaaGreatDoorTPure
namespace Go.Proofs.YtgpkdjhllekihaaGreatDoor.Tok
set_option linter.unusedVariables false

theorem nextL_drop (l : List UInt8) (a : Nat) (ha : a ≤ l.length) (li co : Int) :
  nextL l a li co = ((nextL (l.drop a) 0 li co).1, (a : Int) + (nextL (l.drop a) 0 li co).2.1, (nextL (l.drop a) 0 li co).2.2) := by
 unfold nextL
 rw [List.drop_zero, List.length_drop]
 generalize unsaidL (l.drop a) = k
 by_cases h : a + k = l.length
 ·rw [if_pos h, if_pos (by omega)]
  simp only [Prod.mk.injEq, true_and, and_true]
  omega
 ·rw [if_neg h, if_neg (by omega), List.drop_drop, Nat.zero_add]
  generalize readL (l.drop (a + k)) = g
  obtain ⟨gk, gn, gt, gs, ok⟩ := g
  cases ok with
  | false => simp
  | true => simp; omega

/-- One step on what is left: which bytes are passed over, and what is read behind them. -/
theorem nextL_cases (r : List UInt8) (li co : Int) :
  (unsaidL r = r.length ∧ nextL r 0 li co = ((0, 0, 0, 0, []), (r.length : Int), li, co + r.length, 4)) ∨
  (unsaidL r < r.length ∧ ∃ gk gn gt gs, readL (r.drop (unsaidL r)) = (gk, gn, gt, gs, false) ∧ nextL r 0 li co = ((0, 0, 0, 0, []), 0, li, co + unsaidL r + gs, 2)) ∨
  (unsaidL r < r.length ∧ ∃ gk gn gt gs, readL (r.drop (unsaidL r)) = (gk, gn, gt, gs, true) ∧ 1 ≤ gs ∧ unsaidL r + gs ≤ r.length ∧ (gk = 1 ∨ gk = 2 ∨ gk = 3) ∧
   nextL r 0 li co = ((gk, gn, li, co + unsaidL r, gt), ((unsaidL r + gs : Nat) : Int), if gk = 3 then li + 1 else li, if gk = 3 then 1 else co + unsaidL r + gs, 0)) := by
 have hk := unsaidL_le r
 unfold nextL
 rw [List.drop_zero]
 generalize unsaidL r = k at *
 by_cases h : 0 + k = r.length
 ·rw [if_pos h]
  left
  have : k = r.length := by omega
  subst this
  exact ⟨rfl, by simp⟩
 ·rw [if_neg h, Nat.zero_add]
  right
  have hs := readL_le (r.drop k)
  rw [List.length_drop] at hs
  have ho := readL_ok (r.drop k)
  generalize readL (r.drop k) = g at *
  obtain ⟨gk, gn, gt, gs, ok⟩ := g
  cases ok with
  | false => left; exact ⟨by omega, gk, gn, gt, gs, rfl, by simp⟩
  | true =>
   right
   obtain ⟨o1, o2⟩ := ho rfl
   simp only at o1 o2 hs
   exact ⟨by omega, gk, gn, gt, gs, rfl, o1, by omega, o2, by simp⟩

theorem allL_drop : ∀ (f : Nat) (l : List UInt8) (a : Nat) (li co : Int), a ≤ l.length → allL f l a li co = allL f (l.drop a) 0 li co := by
 intro f
 induction f with
 | zero => intros; rfl
 | succ f ih =>
  intro l a li co ha
  rw [allL_succ, allL_succ, nextL_drop l a ha]
  rcases nextL_cases (l.drop a) li co with ⟨_, e⟩ | ⟨_, _, _, _, _, _, e⟩ | ⟨_, gk, gn, gt, gs, _, h1, h2, _, e⟩
  ·rw [e]; rfl
  ·rw [e]; rfl
  ·rw [e]
   simp only [if_true]
   rw [List.length_drop] at h2
   have e1 : ((a : Int) + ((unsaidL (l.drop a) + gs : Nat) : Int)).toNat = a + (unsaidL (l.drop a) + gs) := by omega
   have e2 : ((unsaidL (l.drop a) + gs : Nat) : Int).toNat = unsaidL (l.drop a) + gs := by omega
   rw [e1, e2, ih l _ _ _ (by omega), ih (l.drop a) _ _ _ (by rw [List.length_drop]; omega), List.drop_drop]

theorem allL_fuel : ∀ (f f' : Nat) (r : List UInt8) (li co : Int), r.length < f → r.length < f' → allL f r 0 li co = allL f' r 0 li co := by
 intro f
 induction f with
 | zero => intro f' r li co h; omega
 | succ f ih =>
  intro f' r li co h h'
  cases f' with
  | zero => omega
  | succ f' =>
   rw [allL_succ, allL_succ]
   rcases nextL_cases r li co with ⟨_, e⟩ | ⟨_, _, _, _, _, _, e⟩ | ⟨_, gk, gn, gt, gs, _, h1, h2, _, e⟩
   ·rw [e]; rfl
   ·rw [e]; rfl
   ·rw [e]
    simp only [if_true]
    have e2 : ((unsaidL r + gs : Nat) : Int).toNat = unsaidL r + gs := by omega
    rw [e2, allL_drop f r _ _ _ (by omega), allL_drop f' r _ _ _ (by omega), ih f' (r.drop (unsaidL r + gs)) _ _ (by rw [List.length_drop]; omega) (by rw [List.length_drop]; omega)]

/-- All tokens of what is left. -/
def allP (r : List UInt8) (li co : Int) : List Tok × Int × Int × Int := allL (r.length + 1) r 0 li co
theorem allOf_P (l : List UInt8) : allOf l = allP l 1 1 := rfl
theorem allP_step (r : List UInt8) (li co : Int) (gk gn : Int) (gt : List UInt8) (gs : Nat) (hk : unsaidL r < r.length) (hr : readL (r.drop (unsaidL r)) = (gk, gn, gt, gs, true)) :
  allP r li co = ((gk, gn, li, co + unsaidL r, gt) :: (allP (r.drop (unsaidL r + gs)) (if gk = 3 then li + 1 else li) (if gk = 3 then 1 else co + unsaidL r + gs)).1, (allP (r.drop (unsaidL r + gs)) (if gk = 3 then li + 1 else li) (if gk = 3 then 1 else co + unsaidL r + gs)).2) := by
 unfold allP
 rw [allL_succ]
 rcases nextL_cases r li co with ⟨h, e⟩ | ⟨_, _, _, _, _, h, e⟩ | ⟨_, gk', gn', gt', gs', h, h1, h2, _, e⟩
 ·omega
 ·rw [hr] at h; simp at h
 ·rw [hr] at h
  simp only [Prod.mk.injEq, and_true] at h
  obtain ⟨rfl, rfl, rfl, rfl⟩ := h
  rw [e]
  simp only [if_true]
  have e2 : ((unsaidL r + gs : Nat) : Int).toNat = unsaidL r + gs := by omega
  rw [e2, allL_drop _ r _ _ _ (by omega), allL_fuel r.length ((r.drop (unsaidL r + gs)).length + 1) _ _ _ (by rw [List.length_drop]; omega) (by omega)]
theorem allP_none (r : List UInt8) (li co : Int) (hk : unsaidL r = r.length) : allP r li co = ([], li, co + r.length, 0) := by
 unfold allP
 rw [allL_succ]
 rcases nextL_cases r li co with ⟨h, e⟩ | ⟨h, _⟩ | ⟨h, _⟩
 ·rw [e]; rfl
 ·omega
 ·omega
theorem allP_text (r : List UInt8) (li co : Int) (gk gn : Int) (gt : List UInt8) (gs : Nat) (hk : unsaidL r < r.length) (hr : readL (r.drop (unsaidL r)) = (gk, gn, gt, gs, false)) : allP r li co = ([], li, co + unsaidL r + gs, 2) := by
 unfold allP
 rw [allL_succ]
 rcases nextL_cases r li co with ⟨h, e⟩ | ⟨_, _, _, _, _, h, e⟩ | ⟨_, gk', gn', gt', gs', h, h1, h2, _, e⟩
 ·omega
 ·rw [hr] at h
  simp only [Prod.mk.injEq, and_true] at h
  obtain ⟨rfl, rfl, rfl, rfl⟩ := h
  rw [e]; rfl
 ·rw [hr] at h; simp at h
/-- The three ways of a text. -/
theorem allP_cases (r : List UInt8) (li co : Int) :
  (unsaidL r = r.length ∧ allP r li co = ([], li, co + r.length, 0)) ∨
  (unsaidL r < r.length ∧ ∃ gk gn gt gs, readL (r.drop (unsaidL r)) = (gk, gn, gt, gs, false) ∧ allP r li co = ([], li, co + unsaidL r + gs, 2)) ∨
  (unsaidL r < r.length ∧ ∃ gk gn gt gs, readL (r.drop (unsaidL r)) = (gk, gn, gt, gs, true) ∧ 1 ≤ gs ∧ unsaidL r + gs ≤ r.length ∧ (gk = 1 ∨ gk = 2 ∨ gk = 3) ∧
   allP r li co = ((gk, gn, li, co + unsaidL r, gt) :: (allP (r.drop (unsaidL r + gs)) (if gk = 3 then li + 1 else li) (if gk = 3 then 1 else co + unsaidL r + gs)).1, (allP (r.drop (unsaidL r + gs)) (if gk = 3 then li + 1 else li) (if gk = 3 then 1 else co + unsaidL r + gs)).2)) := by
 rcases nextL_cases r li co with ⟨h, _⟩ | ⟨h, gk, gn, gt, gs, hr, _⟩ | ⟨h, gk, gn, gt, gs, hr, h1, h2, h3, _⟩
 ·exact Or.inl ⟨h, allP_none r li co h⟩
 ·exact Or.inr (Or.inl ⟨h, gk, gn, gt, gs, hr, allP_text r li co gk gn gt gs h hr⟩)
 ·exact Or.inr (Or.inr ⟨h, gk, gn, gt, gs, hr, h1, h2, h3, allP_step r li co gk gn gt gs h hr⟩)

theorem spanL_append (p : UInt8 → Bool) (x y : List UInt8) (h : ∀ c ∈ x, p c = true) : spanL p (x ++ y) = x.length + spanL p y := by
 induction x with
 | nil => simp
 | cons c r ih => rw [List.cons_append, spanL_cons, if_pos (h c (by simp)), ih (fun d hd => h d (by simp [hd]))]; simp; omega
/-- Blanks ahead of what is neither a blank nor a remark. -/
theorem unsaidL_blanks (x : List UInt8) (c : UInt8) (y : List UInt8) (h : ∀ d ∈ x, blankB d = true) (hc : blankB c = false) (h35 : c.toNat ≠ 35) : unsaidL (x ++ c :: y) = x.length := by
 have e : spanL blankB (x ++ c :: y) = x.length := by rw [spanL_append _ _ _ h, spanL_cons, hc]; simp
 unfold unsaidL
 rw [e, List.drop_left, if_neg (by simpa using h35)]
 rfl
end Go.Proofs.YtgpkdjhllekihaaGreatDoor.Tok
