/- Where tokens stand: plain facts. -/
import Derived.Test.YthdcglgojdclkaaDoorLinesP
namespace Go.Proofs.YthdcglgojdclkaaDoor
set_option linter.unusedVariables false

/-- How many bytes 10 there are; the places behind each of them. -/
def nl (l : List UInt8) : Nat := l.countP fun c => c.toNat == 10
def nlPos : List UInt8 → Nat → List Nat
  | [], _ => []
  | c :: r, i => if c.toNat == 10 then (i + 1) :: nlPos r (i + 1) else nlPos r (i + 1)
theorem nlPos_append : ∀ (x y : List UInt8) (i : Nat), nlPos (x ++ y) i = nlPos x i ++ nlPos y (i + x.length)
  | [], y, i => by simp [nlPos]
  | c :: r, y, i => by
    have := nlPos_append r y (i + 1)
    simp only [List.cons_append, nlPos, List.length_cons]
    rw [this, show i + 1 + r.length = i + (r.length + 1) by omega]
    split <;> simp
theorem nlPos_len : ∀ (l : List UInt8) (i : Nat), (nlPos l i).length = nl l
  | [], i => rfl
  | c :: r, i => by
    have := nlPos_len r (i + 1)
    unfold nl at this ⊢
    simp only [nlPos, List.countP_cons]
    split <;> simp_all
theorem nl_append (x y : List UInt8) : nl (x ++ y) = nl x + nl y := by unfold nl; rw [List.countP_append]
theorem nl_zero (l : List UInt8) (h : ∀ c ∈ l, c.toNat ≠ 10) : nl l = 0 := by
  unfold nl
  rw [List.countP_eq_zero]
  intro c hc; simpa using h c hc
/-- The place behind a byte 10 is the one of its number. -/
theorem nlPos_at (T : List UInt8) (p : Nat) (hp : p < T.length) (h : T[p].toNat = 10) : (nlPos T 0)[nl (T.take p)]? = some (p + 1) := by
  have e : T = T.take p ++ T[p] :: T.drop (p + 1) := by
    rw [← List.drop_eq_getElem_cons hp, List.take_append_drop]
  have hl : (T.take p).length = p := by rw [List.length_take]; omega
  conv => lhs; rw [e, nlPos_append]
  rw [← e, List.getElem?_append_right (by rw [nlPos_len]; omega), nlPos_len, hl]
  simp [nlPos, h]
theorem nlPos_snoc (T : List UInt8) (i : Nat) (hi : i < T.length) : nlPos (T.take (i + 1)) 0 = if T[i].toNat = 10 then nlPos (T.take i) 0 ++ [i + 1] else nlPos (T.take i) 0 := by
  have hl : (T.take i).length = i := by rw [List.length_take]; omega
  rw [List.take_succ_eq_append_getElem hi, nlPos_append, hl]
  by_cases h : T[i].toNat = 10
  · rw [if_pos h]; simp [nlPos, h]
  · rw [if_neg h]; simp [nlPos, h]

theorem unsaidL_no (l : List UInt8) : ∀ c ∈ l.take (unsaidL l), c.toNat ≠ 10 := by
  have hb : ∀ c ∈ l.take (spanL blankB l), c.toNat ≠ 10 := by
    intro c hc
    have := takeWhile_all blankB l c hc
    unfold blankB at this; simp at this; omega
  have hn := takeWhile_all lineB (l.drop (spanL blankB l))
  unfold unsaidL
  split
  · intro c hc
    rw [List.take_add] at hc
    rcases List.mem_append.1 hc with hc | hc
    · exact hb c hc
    · have := hn c hc
      unfold lineB at this; simp at this; omega
  · rw [Nat.add_zero]; exact hb
/-- What is read: a byte 10, or bytes of which none is one. -/
theorem readL_text (l : List UInt8) (gk gn : Int) (gt : List UInt8) (gs : Nat) (h : readL l = (gk, gn, gt, gs, true)) :
    (gk = 3 ∧ gt = [] ∧ gs = 1 ∧ l.head?.map (·.toNat) = some 10) ∨ (gk ≠ 3 ∧ gt = l.take gs ∧ gt.length = gs ∧ ∀ c ∈ gt, c.toNat ≠ 10) := by
  have hle := readL_le l
  rw [h] at hle
  simp only at hle
  cases l with
  | nil => simp [readL] at h
  | cons c r =>
    have hnum : (digitB c = true ∨ c.toNat = 45) → numL (c :: r) = (gk, gn, gt, gs, true) → (gk ≠ 3 ∧ gt = (c :: r).take gs ∧ gt.length = gs ∧ ∀ d ∈ gt, d.toNat ≠ 10) := by
      intro hc e
      unfold numL at e
      rw [List.tail_cons] at e
      split at e
      · simp at e
      · split at e
        · simp at e
        · simp only [Prod.mk.injEq, and_true] at e
          obtain ⟨rfl, rfl, rfl, rfl⟩ := e
          refine ⟨by omega, rfl, by rw [List.length_take]; omega, ?_⟩
          intro d hd
          rw [Nat.add_comm 1, List.take_succ_cons] at hd
          rcases List.mem_cons.1 hd with rfl | hd
          · rcases hc with hc | hc
            · unfold digitB at hc; simp at hc; omega
            · omega
          · have := takeWhile_all digitB r d hd
            unfold digitB at this; simp at this; omega
    unfold readL at h
    dsimp only at h
    split at h
    · rename_i h10
      simp only [Prod.mk.injEq, and_true] at h
      obtain ⟨rfl, rfl, rfl, rfl⟩ := h
      exact Or.inl ⟨rfl, rfl, rfl, by simp [h10]⟩
    · right
      split at h
      · unfold wordL at h
        split at h
        · simp at h
        · simp only [Prod.mk.injEq, and_true] at h
          obtain ⟨rfl, rfl, rfl, rfl⟩ := h
          refine ⟨by omega, rfl, by rw [List.length_take]; omega, ?_⟩
          intro d hd
          have := takeWhile_all letterB (c :: r) d hd
          unfold letterB at this; simp at this; omega
      · split at h
        · split at h
          · simp at h
          · rename_i h45 _
            exact hnum (Or.inr h45) h
        · split at h
          · rename_i hd
            exact hnum (Or.inl hd) h
          · simp at h

/-- The lines' first places. -/
def froms (T : List UInt8) : List Nat := 0 :: nlPos T 0
/-- The place 'a' is this line's and column's. -/
def At (T : List UInt8) (a : Nat) (li co : Int) : Prop := ∃ L s c : Nat, li = L + 1 ∧ (froms T)[L]? = some s ∧ co = c + 1 ∧ s + c = a ∧ nl (T.take a) = L
/-- A token stands where its place says. -/
def Stands (T : List UInt8) (t : Tok) : Prop := ∃ L s c : Nat, t.2.2.1 = L + 1 ∧ (froms T)[L]? = some s ∧ t.2.2.2.1 = c + 1 ∧ s + c < T.length ∧
  ((t.1 = 3 ∧ t.2.2.2.2 = [] ∧ T[s + c]?.map (·.toNat) = some 10) ∨ (t.1 ≠ 3 ∧ t.2.2.2.2 ≠ [] ∧ s + c + t.2.2.2.2.length ≤ T.length ∧ (T.drop (s + c)).take t.2.2.2.2.length = t.2.2.2.2))
/-- A place of a line. -/
def Here (T : List UInt8) (li co : Int) : Prop := 1 ≤ li ∧ li ≤ (froms T).length ∧ 1 ≤ co

theorem nl_on (T : List UInt8) (a d : Nat) (h : ∀ c ∈ (T.drop a).take d, c.toNat ≠ 10) : nl (T.take (a + d)) = nl (T.take a) := by
  rw [List.take_add, nl_append, nl_zero _ h]; rfl

theorem allP_stands : ∀ (n : Nat) (T : List UInt8) (a : Nat) (li co : Int), a ≤ T.length → T.length - a ≤ n → At T a li co →
    (∀ t ∈ (allP (T.drop a) li co).1, Stands T t) ∧ Here T (allP (T.drop a) li co).2.1 (allP (T.drop a) li co).2.2.1 := by
  intro n
  induction n with
  | zero =>
    intro T a li co ha hn hA
    obtain ⟨L, s, c, rfl, hL, rfl, hsc, hnl⟩ := hA
    have hlt := (List.getElem?_eq_some_iff.1 hL).1
    have hd : T.drop a = [] := List.drop_of_length_le (by omega)
    rw [hd, allP_none [] _ _ rfl]
    exact ⟨by simp, by unfold Here; dsimp only; omega⟩
  | succ n ih =>
    intro T a li co ha hn hA
    obtain ⟨L, s, c, rfl, hL, rfl, hsc, hnl⟩ := hA
    have hlt := (List.getElem?_eq_some_iff.1 hL).1
    have hno := unsaidL_no (T.drop a)
    rcases allP_cases (T.drop a) ((L : Int) + 1) ((c : Int) + 1) with ⟨_, e⟩ | ⟨_, gk, gn, gt, gs, _, e⟩ | ⟨hk, gk, gn, gt, gs, hr, h1, h2, h3, e⟩
    · rw [e]; exact ⟨by simp, by unfold Here; dsimp only; omega⟩
    · rw [e]; exact ⟨by simp, by unfold Here; dsimp only; omega⟩
    · rw [e]
      generalize unsaidL (T.drop a) = k at *
      rw [List.length_drop] at h2 hk
      rw [List.drop_drop] at hr ⊢
      have hnk := nl_on T a k hno
      have htx := readL_text _ gk gn gt gs hr
      rcases htx with ⟨rfl, rfl, rfl, h10⟩ | ⟨hg3, hgt, hgl, hgn⟩
      · have hp : a + k < T.length := by omega
        have h10' : T[a + k].toNat = 10 := by
          rw [List.head?_drop, List.getElem?_eq_getElem hp] at h10
          simpa using h10
        have hfr : (froms T)[L + 1]? = some (a + k + 1) := by
          unfold froms
          rw [List.getElem?_cons_succ]
          have := nlPos_at T (a + k) hp h10'
          rw [hnk, hnl] at this
          exact this
        have hA' : At T (a + (k + 1)) (((L : Int) + 1) + 1) 1 := by
          refine ⟨L + 1, a + k + 1, 0, by simp, hfr, by simp, by omega, ?_⟩
          rw [← Nat.add_assoc, List.take_succ_eq_append_getElem hp, nl_append, hnk, hnl]
          simp [nl, h10']
        have hrec := ih T (a + (k + 1)) _ _ (by omega) (by omega) hA'
        rw [if_pos rfl, if_pos rfl]
        refine ⟨?_, hrec.2⟩
        intro t ht
        rcases List.mem_cons.1 ht with rfl | ht
        · refine ⟨L, s, c + k, rfl, hL, by simp; omega, by omega, Or.inl ⟨rfl, rfl, ?_⟩⟩
          rw [show s + (c + k) = a + k by omega, List.getElem?_eq_getElem hp]
          simp [h10']
        · exact hrec.1 t ht
      · have hA' : At T (a + (k + gs)) ((L : Int) + 1) ((c : Int) + 1 + k + gs) := by
          refine ⟨L, s, c + k + gs, rfl, hL, by simp; omega, by omega, ?_⟩
          rw [← Nat.add_assoc, nl_on T (a + k) gs (by rw [← hgt]; exact hgn), hnk, hnl]
        have hrec := ih T (a + (k + gs)) _ _ (by omega) (by omega) hA'
        rw [if_neg hg3, if_neg hg3]
        refine ⟨?_, hrec.2⟩
        intro t ht
        rcases List.mem_cons.1 ht with rfl | ht
        · refine ⟨L, s, c + k, rfl, hL, by simp; omega, by omega, Or.inr ⟨hg3, ?_, ?_, ?_⟩⟩
          · intro e0; simp only at e0; rw [e0] at hgl; simp at hgl; omega
          · simp only; omega
          · simp only
            rw [hgl, show s + (c + k) = a + k by omega, ← hgt]
        · exact hrec.1 t ht
theorem At.zero (T : List UInt8) : At T 0 1 1 := ⟨0, 0, 0, by simp, rfl, by simp, rfl, by simp [nl]⟩
theorem all_stands (T : List UInt8) : (∀ t ∈ (allP T 1 1).1, Stands T t) ∧ Here T (allP T 1 1).2.1 (allP T 1 1).2.2.1 := by
  have := allP_stands T.length T 0 1 1 (Nat.zero_le _) (by omega) (At.zero T)
  rwa [List.drop_zero] at this
theorem froms_le (T : List UInt8) : (froms T).length ≤ T.length + 1 := by
  unfold froms
  rw [List.length_cons, nlPos_len]
  have := List.countP_le_length (p := fun c : UInt8 => c.toNat == 10) (l := T)
  unfold nl; omega
theorem nlPos_bound : ∀ (l : List UInt8) (i x : Nat), x ∈ nlPos l i → x ≤ i + l.length
  | [], i, x, h => by simp [nlPos] at h
  | c :: r, i, x, h => by
    have ih := nlPos_bound r (i + 1) x
    simp only [nlPos] at h
    split at h
    · rcases List.mem_cons.1 h with rfl | h
      · simp
      · have := ih h; simp only [List.length_cons]; omega
    · have := ih h; simp only [List.length_cons]; omega
end Go.Proofs.YthdcglgojdclkaaDoor
