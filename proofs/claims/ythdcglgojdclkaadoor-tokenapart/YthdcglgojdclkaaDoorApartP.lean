/- Tokens that are parted by blanks and remarks: plain facts. -/
import Derived.Test.YthdcglgojdclkaaDoorLinesP
namespace Go.Proofs.YthdcglgojdclkaaDoor
set_option linter.unusedVariables false

/-- A word or a number: its bytes, its kind, its number. -/
def Good (w : List UInt8) (k n : Int) : Prop := k ≠ 3 ∧ w.length ≤ 10 ∧ (∃ c r, w = c :: r ∧ blankB c = false ∧ c.toNat ≠ 35) ∧ ∀ c rest, blankB c = true → readL (w ++ c :: rest) = (k, n, w, w.length, true)

theorem blank_no (c : UInt8) (h : blankB c = true) : letterB c = false ∧ digitB c = false ∧ c.toNat ≠ 45 := by
  unfold blankB at h
  unfold letterB digitB
  simp at h ⊢
  omega
theorem good_word (c0 : UInt8) (r : List UInt8) (hl : r.length ≤ 9) (h : ∀ d ∈ c0 :: r, letterB d = true) : Good (c0 :: r) 1 0 := by
  have h0 := h c0 (by simp)
  have h0' := h0
  unfold letterB at h0'
  simp at h0'
  refine ⟨by omega, by simp; omega, ⟨c0, r, rfl, by unfold blankB; simp; omega, by omega⟩, fun c rest hc => ?_⟩
  obtain ⟨b1, b2, b3⟩ := blank_no c hc
  have hs : spanL letterB (c0 :: r ++ c :: rest) = (c0 :: r).length := by rw [spanL_append _ _ _ h, spanL_cons, b1]; simp
  rw [List.cons_append] at hs ⊢
  unfold readL
  dsimp only
  rw [if_neg (by omega), if_pos h0]
  unfold wordL
  rw [hs, ← List.cons_append, List.drop_left, List.take_left, if_neg]
  simp [badW, b2]; omega
theorem good_num (c0 : UInt8) (r : List UInt8) (hl : r.length ≤ 9) (hr : ∀ d ∈ r, digitB d = true) (h0 : digitB c0 = true ∨ (c0.toNat = 45 ∧ r ≠ [])) (v : Int) (hv : num32 (c0 :: r) = some v) : Good (c0 :: r) 2 v := by
  have hb : blankB c0 = false ∧ c0.toNat ≠ 35 ∧ letterB c0 = false ∧ c0.toNat ≠ 10 := by
    unfold blankB letterB
    rcases h0 with h | ⟨h, _⟩
    · unfold digitB at h; simp at h ⊢; omega
    · simp; omega
  refine ⟨by omega, by simp; omega, ⟨c0, r, rfl, hb.1, hb.2.1⟩, fun c rest hc => ?_⟩
  obtain ⟨b1, b2, b3⟩ := blank_no c hc
  have hs : spanL digitB (r ++ c :: rest) = r.length := by rw [spanL_append _ _ _ hr, spanL_cons, b2]; simp
  have hnum : numL (c0 :: (r ++ c :: rest)) = (2, v, c0 :: r, (c0 :: r).length, true) := by
    unfold numL
    rw [List.tail_cons, hs, Nat.add_comm 1, List.take_succ_cons, List.take_left, List.drop_succ_cons, List.drop_left, hv]
    have hbn : badN (c :: rest) = false := by simp [badN, b1]; omega
    simp [hbn]
  rw [List.cons_append]
  unfold readL
  dsimp only
  rw [if_neg hb.2.2.2, if_neg (by rw [hb.2.2.1]; simp)]
  rcases h0 with h | ⟨h, hne⟩
  · rw [if_neg (by unfold digitB at h; simp at h; omega), if_pos h]; exact hnum
  · rw [if_pos h, if_neg (by rw [hs]; intro e; exact hne (List.length_eq_zero_iff.1 e))]; exact hnum

/-- A piece: blanks ahead, the word, its kind and number, a blank behind. -/
abbrev Item := List UInt8 × List UInt8 × Int × Int × UInt8
def GoodI (it : Item) : Prop := (∀ d ∈ it.1, blankB d = true) ∧ Good it.2.1 it.2.2.1 it.2.2.2.1 ∧ blankB it.2.2.2.2 = true
def itemL (it : Item) : List UInt8 := it.1 ++ it.2.1 ++ [it.2.2.2.2]
def keyI (it : Item) : Int × Int × List UInt8 := (it.2.2.1, it.2.2.2.1, it.2.1)
def keyT (t : Tok) : Int × Int × List UInt8 := (t.1, t.2.1, t.2.2.2.2)
/-- What says nothing at a text's end. -/
def Quiet (t : List UInt8) : Prop := ∀ b : List UInt8, (∀ d ∈ b, blankB d = true) → unsaidL (b ++ t) = (b ++ t).length

theorem items_read : ∀ (its : List Item) (b t : List UInt8) (li co : Int), (∀ it ∈ its, GoodI it) → (∀ d ∈ b, blankB d = true) → Quiet t →
    (allP (b ++ (its.flatMap itemL ++ t)) li co).1.map keyT = its.map keyI ∧ (allP (b ++ (its.flatMap itemL ++ t)) li co).2.2.2 = 0
  | [], b, t, li, co, _, hb, hq => by
    have := hq b hb
    rw [List.flatMap_nil, List.nil_append, allP_none _ _ _ this]
    simp
  | it :: its, b, t, li, co, hg, hb, hq => by
    obtain ⟨pre, w, k, n, c⟩ := it
    obtain ⟨g1, ⟨g2, _, ⟨c0, r, hw, hc0, h35⟩, g3⟩, g4⟩ := hg (pre, w, k, n, c) (by simp)
    simp only at g1 g2 g3 g4 hw
    have e : b ++ (((pre, w, k, n, c) :: its).flatMap itemL ++ t) = (b ++ pre) ++ (w ++ c :: (its.flatMap itemL ++ t)) := by
      simp [itemL]
    have hbp : ∀ d ∈ b ++ pre, blankB d = true := by
      intro d hd
      rcases List.mem_append.1 hd with h | h
      · exact hb d h
      · exact g1 d h
    have hun : unsaidL ((b ++ pre) ++ (w ++ c :: (its.flatMap itemL ++ t))) = (b ++ pre).length := by
      rw [hw, List.cons_append]; exact unsaidL_blanks _ _ _ hbp hc0 h35
    have hrd := g3 c (its.flatMap itemL ++ t) g4
    have ih := items_read its [c] t li (co + ((b ++ pre).length : Nat) + (w.length : Nat)) (fun x hx => hg x (by simp [hx])) (by simpa using g4) hq
    rw [e, allP_step _ li co k n w w.length (by rw [hun]; simp; omega) (by rw [hun, List.drop_left]; exact hrd), hun]
    have hdr : ((b ++ pre) ++ (w ++ c :: (its.flatMap itemL ++ t))).drop ((b ++ pre).length + w.length) = [c] ++ (its.flatMap itemL ++ t) := by
      rw [← List.drop_drop, List.drop_left, List.drop_left]; rfl
    rw [hdr, if_neg g2, if_neg g2]
    exact ⟨by simp only [List.map_cons]; rw [ih.1]; rfl, ih.2⟩
theorem quiet_nil : Quiet [] := by
  intro b hb
  have hs : spanL blankB b = b.length := by have := spanL_append blankB b [] hb; simpa [spanL] using this
  rw [List.append_nil]
  unfold unsaidL
  rw [hs]; simp
theorem quiet_rem (r : List UInt8) (h : ∀ d ∈ r, lineB d = true) : Quiet (35 :: r) := by
  intro b hb
  have hs : spanL blankB (b ++ 35 :: r) = b.length := by rw [spanL_append _ _ _ hb, spanL_cons]; simp [blankB]
  unfold unsaidL
  rw [hs, List.drop_left, if_pos (by simp)]
  have hl : ∀ d ∈ (35 : UInt8) :: r, lineB d = true := by
    intro d hd
    rcases List.mem_cons.1 hd with rfl | hd
    · decide
    · exact h d hd
  have := spanL_append lineB (35 :: r) [] hl
  rw [List.append_nil] at this
  rw [this]; simp [spanL]
end Go.Proofs.YthdcglgojdclkaaDoor
