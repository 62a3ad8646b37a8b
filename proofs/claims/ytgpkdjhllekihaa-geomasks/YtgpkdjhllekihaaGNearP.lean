/- What is near with a smaller way is a part of what is near with a greater one (no program in it). -/
import Derived.Test.YtgpkdjhllekihaaGNear
namespace Go.Proofs.Ytgpkdjhllekihaa.Geo
set_option linter.unusedVariables false
open Go.Proofs.Ytgpkdjhllekihaa.Ven (Seat Pole Ven coordB standsB mayB)

theorem nearL_eq {V : Ven} {x y r : Int} (hs : standsB x y = true) (h1 : 1 ≤ r) (h2 : r ≤ 1048576) (hm : mayB V = true) : nearL V x y r = thoseN V.seats.length (fun i => nearS V.seats[i]! ⟨0, x, y, 0⟩ r) := by
  unfold nearL those
  rw [hs, hm, decide_eq_true ⟨h1, h2⟩]; rfl
theorem nearL_zero (V : Ven) (x y : Int) : nearL V x y 0 = [] := by
  unfold nearL
  rw [decide_eq_false (by omega)]; simp
theorem thoseN_filter (n : Nat) {f g : Nat → Bool} (h : ∀ i, i < n → f i = true → g i = true) : thoseN n f = (thoseN n g).filter (fun z => f z.toNat) := by
  induction n with
  | zero => rfl
  | succ n ih =>
    have ih' := ih fun i hi => h i (by omega)
    rw [thoseN_succ, thoseN_succ]
    by_cases hg : g n = true
    · rw [if_pos hg, List.filter_append, ← ih']
      by_cases hf : f n = true
      · rw [if_pos hf]; simp [hf]
      · rw [if_neg hf]; simp [hf]
    · have hf : ¬ f n = true := fun hf => hg (h n (by omega) hf)
      rw [if_neg hg, if_neg hf, ih']
theorem near_mono {s t : Seat} {p q : Int} (h0 : 0 ≤ p) (h : p ≤ q) (hn : nearS s t p = true) : nearS s t q = true := by
  unfold nearS at *
  have hn := of_decide_eq_true hn
  rw [decide_eq_true]
  have := mul_lt h0 h
  omega
theorem near_self {s : Seat} {p : Int} (h : 1 ≤ p) : nearS s ⟨0, s.x, s.y, 0⟩ p = true := by
  unfold nearS
  rw [decide_eq_true]
  have e : sqI s.x s.y s.x s.y = 0 := (sqI_zero _ _ _ _).2 ⟨rfl, rfl⟩
  show sqI s.x s.y s.x s.y < p * p
  rw [e]
  have := mul_lt (r := 1) (by omega) h
  omega
/-- How many of the first 'n' of these are in the part. -/
def cnt (L : List Int) (g : Int → Bool) (n : Nat) : Nat := ((L.take n).filter g).length
theorem cnt_le (L : List Int) (g : Int → Bool) (n : Nat) : cnt L g n ≤ (L.filter g).length := by
  unfold cnt
  have : L.filter g = (L.take n).filter g ++ (L.drop n).filter g := by rw [← List.filter_append, List.take_append_drop]
  rw [this, List.length_append]; omega
theorem cnt_yes {L : List Int} {g : Int → Bool} {n : Nat} (hn : n < L.length) (h : g L[n] = true) : ∃ h' : cnt L g n < (L.filter g).length, (L.filter g)[cnt L g n] = L[n] ∧ cnt L g (n + 1) = cnt L g n + 1 := by
  have e : L.filter g = (L.take n).filter g ++ (L[n] :: (L.drop (n + 1)).filter g) := by
    have : L = L.take n ++ L[n] :: L.drop (n + 1) := by rw [← List.drop_eq_getElem_cons hn, List.take_append_drop]
    conv => lhs; rw [this]
    rw [List.filter_append, List.filter_cons_of_pos h]
  have hl : cnt L g n < (L.filter g).length := by rw [e]; unfold cnt; simp
  refine ⟨hl, ?_, ?_⟩
  · have : (L.filter g)[cnt L g n]? = some L[n] := by
      rw [e]; unfold cnt
      rw [List.getElem?_append_right (Nat.le_refl _), Nat.sub_self]; rfl
    rw [List.getElem?_eq_getElem hl] at this
    exact Option.some.inj this
  · unfold cnt
    rw [List.take_succ_eq_append_getElem hn, List.filter_append, List.filter_cons_of_pos h]; simp
theorem cnt_no {L : List Int} {g : Int → Bool} {n : Nat} (hn : n < L.length) (h : g L[n] = false) : cnt L g (n + 1) = cnt L g n ∧ ∀ (i : Nat) (hi : i < (L.filter g).length), (L.filter g)[i] ≠ L[n] := by
  refine ⟨?_, fun i hi he => ?_⟩
  · unfold cnt
    rw [List.take_succ_eq_append_getElem hn, List.filter_append, List.filter_cons_of_neg (by simp [h])]; simp
  · have := (List.mem_filter.1 (List.getElem_mem hi)).2
    rw [he, h] at this; cases this
theorem cnt_all (L : List Int) (g : Int → Bool) : cnt L g L.length = (L.filter g).length := by unfold cnt; rw [List.take_length]
/-- Is the number among the first 'n' that are in the part? -/
def own (L : List Int) (g : Int → Bool) (j : Int) (n : Nat) : Bool := decide (j ∈ (L.take n).filter g)
theorem own_yes {L : List Int} {g : Int → Bool} {n : Nat} (j : Int) (hn : n < L.length) (h : g L[n] = true) : own L g j (n + 1) = (own L g j n || (L[n] == j)) := by
  unfold own
  rw [List.take_succ_eq_append_getElem hn, List.filter_append, List.filter_cons_of_pos h]
  by_cases h1 : j ∈ (L.take n).filter g
  · rw [decide_eq_true (List.mem_append_left _ h1), decide_eq_true h1]; rfl
  · rw [decide_eq_false h1, Bool.false_or]
    by_cases h2 : L[n] = j
    · rw [decide_eq_true (List.mem_append_right _ (by simp [h2]))]; simp [h2]
    · rw [decide_eq_false (fun hm => by
        rcases List.mem_append.1 hm with hm | hm
        · exact h1 hm
        · simp at hm; exact h2 hm.symm)]; simp [h2]
theorem own_no {L : List Int} {g : Int → Bool} {n : Nat} (j : Int) (hn : n < L.length) (h : g L[n] = false) : own L g j (n + 1) = own L g j n := by
  unfold own
  rw [List.take_succ_eq_append_getElem hn, List.filter_append, List.filter_cons_of_neg (by simp [h])]; simp
theorem own_all {L : List Int} {g : Int → Bool} {j : Int} (h : j ∈ L.filter g) : own L g j L.length = true := by unfold own; rw [List.take_length, decide_eq_true h]
theorem rising_at {L : List Int} (h : L.Pairwise (fun a b => a < b)) {n : Nat} (h0 : 0 < n) (hn : n < L.length) : L[n - 1] < L[n] := (List.pairwise_iff_getElem.1 h) (n - 1) n (by omega) hn (by omega)
end Go.Proofs.Ytgpkdjhllekihaa.Geo
