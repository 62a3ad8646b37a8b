/- Who is next to whom, and the longest pieces, as plain functions (no program in it). -/
import Derived.Test.YtdodmbfkcandgaaVOrdP
namespace Go.Proofs.Ytdodmbfkcandgaa.Rnn
set_option linter.unusedVariables false
open Go.Proofs.Ytdodmbfkcandgaa.Ven (Seat Pole Ven mayB)

/-- Is the seat behind this one next to it? -/
def nextL (l : List Seat) (gap : Int) (a : Nat) : Bool := decide (a + 1 < l.length) && (decide (l[a]!.row = l[a + 1]!.row) && decide (l[a + 1]!.x - l[a]!.x ≤ gap))
def nextB (V : Ven) (a : Int) : Bool := decide (0 ≤ a) && (mayB V && nextL V.seats V.gap a.toNat)
def isU (u : List Bool) (k : Nat) : Bool := u.getD k false
/-- How many stand one behind the other, where 'g a' says that it goes on from 'a' to 'a + 1'. -/
def runN (g : Nat → Bool) : Nat → Nat → Nat
  | 0, _ => 1
  | f + 1, a => if g a = true then runN g f (a + 1) + 1 else 1
theorem runN_pos (g : Nat → Bool) (f a : Nat) : 1 ≤ runN g f a := by
  cases f with
  | zero => exact Nat.le_refl _
  | succ f => unfold runN; split <;> omega
theorem runN_go (g : Nat → Bool) : ∀ (f a i : Nat), i + 1 < runN g f a → g (a + i) = true := by
  intro f
  induction f with
  | zero => intro a i h; unfold runN at h; omega
  | succ f ih =>
    intro a i h
    unfold runN at h
    split at h
    · rename_i hg
      cases i with
      | zero => exact hg
      | succ i =>
        have := ih (a + 1) i (by omega)
        rwa [show a + 1 + i = a + (i + 1) by omega] at this
    · omega
theorem runN_le (g : Nat → Bool) (n : Nat) (hg : ∀ a, g a = true → a + 1 < n) : ∀ (f a : Nat), a < n → a + runN g f a ≤ n := by
  intro f
  induction f with
  | zero => intro a h; unfold runN; omega
  | succ f ih =>
    intro a h
    unfold runN
    split
    · rename_i ha
      have := ih (a + 1) (hg a ha); omega
    · omega
theorem runN_stop (g : Nat → Bool) (n : Nat) (hg : ∀ a, g a = true → a + 1 < n) : ∀ (f a : Nat), a < n → n - a ≤ f → g (a + runN g f a - 1) = false := by
  intro f
  induction f with
  | zero => intro a h hf; omega
  | succ f ih =>
    intro a h hf
    unfold runN
    split
    · rename_i ha
      have h1 := hg a ha
      have h2 := ih (a + 1) h1 (by omega)
      have h3 := runN_pos g f (a + 1)
      rwa [show a + 1 + runN g f (a + 1) - 1 = a + (runN g f (a + 1) + 1) - 1 by omega] at h2
    · rename_i ha
      rw [show a + 1 - 1 = a by omega]
      cases h' : g a with
      | true => exact absurd h' ha
      | false => rfl
/-- Who goes on so far, and no farther, has that length. -/
theorem runN_is (g : Nat → Bool) : ∀ (f a k : Nat), k ≤ f → (∀ i, i < k → g (a + i) = true) → g (a + k) = false → runN g f a = k + 1 := by
  intro f
  induction f with
  | zero => intro a k hk h1 h2; have : k = 0 := by omega
            subst this; rfl
  | succ f ih =>
    intro a k hk h1 h2
    cases k with
    | zero =>
      have : g a = false := h2
      unfold runN
      rw [if_neg (by rw [this]; decide)]
    | succ k =>
      have h0 : g a = true := h1 0 (by omega)
      unfold runN
      rw [if_pos h0, ih (a + 1) k (by omega) (fun i hi => by have := h1 (i + 1) (by omega); rwa [show a + (i + 1) = a + 1 + i by omega] at this) (by rwa [show a + 1 + k = a + (k + 1) by omega])]
theorem runN_mono (g g' : Nat → Bool) (h : ∀ a, g a = true → g' a = true) : ∀ (f a : Nat), runN g f a ≤ runN g' f a := by
  intro f
  induction f with
  | zero => intro a; exact Nat.le_refl _
  | succ f ih =>
    intro a
    unfold runN
    split
    · rename_i ha
      rw [if_pos (h a ha)]
      have := ih (a + 1); omega
    · split
      · omega
      · exact Nat.le_refl _
/-- The pieces, as their firsts and lengths. -/
def cutF (long : Nat → Nat) (n : Nat) : Nat → Nat → List (Nat × Nat)
  | 0, _ => []
  | f + 1, a => if a < n then (if long a = 0 then cutF long n f (a + 1) else (a, long a) :: cutF long n f (a + long a)) else []
/-- What a row of pieces stands on: who is usable ('u'), who goes on ('x'). -/
structure Links (n : Nat) (u x : Nat → Bool) (long : Nat → Nat) : Prop where
  zero : ∀ a, a < n → u a = false → long a = 0
  pos : ∀ a, a < n → u a = true → 1 ≤ long a
  le : ∀ a, a < n → a + long a ≤ n
  on : ∀ a, a < n → ∀ i, i + 1 < long a → x (a + i) = true ∧ u (a + i + 1) = true
  off : ∀ a, a < n → u a = true → (x (a + long a - 1) && u (a + long a)) = false
theorem Links.usable {n : Nat} {u x : Nat → Bool} {long : Nat → Nat} (h : Links n u x long) {a : Nat} (ha : a < n) {i : Nat} (hi : i < long a) : u (a + i) = true := by
  cases i with
  | zero =>
    cases hu : u a with
    | true => rfl
    | false => have := h.zero a ha hu; omega
  | succ i => exact (h.on a ha i hi).2
/-- The pieces have each usable seat once, rising. -/
theorem cut_flat {n : Nat} {u x : Nat → Bool} {long : Nat → Nat} (h : Links n u x long) : ∀ (f a : Nat), n - a ≤ f → (cutF long n f a).flatMap (fun p => List.range' p.1 p.2) = (List.range' a (n - a)).filter u := by
  intro f
  induction f with
  | zero =>
    intro a hf
    have : n - a = 0 := by omega
    rw [this]; rfl
  | succ f ih =>
    intro a hf
    unfold cutF
    by_cases ha : a < n
    · rw [if_pos ha]
      by_cases hl : long a = 0
      · rw [if_pos hl, ih (a + 1) (by omega)]
        have hu : u a = false := by
          cases hu : u a with
          | false => rfl
          | true => have := h.pos a ha hu; omega
        rw [show n - a = (n - (a + 1)) + 1 by omega, List.range'_succ, List.filter_cons, hu]
        rfl
      · rw [if_neg hl, List.flatMap_cons, ih (a + long a) (by omega)]
        have hle := h.le a ha
        have e : List.range' a (n - a) = List.range' a (long a) ++ List.range' (a + long a) (n - (a + long a)) := by
          rw [List.range'_append_1]; congr 1; omega
        rw [e, List.filter_append]
        congr 1
        symm
        rw [List.filter_eq_self]
        intro b hb
        obtain ⟨h1, h2⟩ := List.mem_range'_1.1 hb
        have := h.usable ha (i := b - a) (by omega)
        rwa [show a + (b - a) = b by omega] at this
    · rw [if_neg ha, show n - a = 0 by omega]; rfl
/-- Where a piece begins. -/
def stB (u x : Nat → Bool) (a : Nat) : Bool := u a && (decide (a = 0) || !(u (a - 1) && x (a - 1)))
theorem count_none {p : Nat → Bool} : ∀ (k a : Nat), (∀ i, i < k → p (a + i) = false) → (List.range' a k).countP p = 0 := by
  intro k a h
  rw [List.countP_eq_zero]
  intro b hb
  obtain ⟨h1, h2⟩ := List.mem_range'_1.1 hb
  have := h (b - a) (by omega)
  rw [show a + (b - a) = b by omega] at this
  rw [this]; decide
/-- There are as many pieces as beginnings. -/
theorem cut_count {n : Nat} {u x : Nat → Bool} {long : Nat → Nat} (h : Links n u x long) : ∀ (f a : Nat), n - a ≤ f → (u a = true → stB u x a = true) → (cutF long n f a).length = (List.range' a (n - a)).countP (stB u x) := by
  intro f
  induction f with
  | zero =>
    intro a hf _
    have : n - a = 0 := by omega
    rw [this]; rfl
  | succ f ih =>
    intro a hf hc
    unfold cutF
    by_cases ha : a < n
    · rw [if_pos ha]
      by_cases hl : long a = 0
      · have hu : u a = false := by
          cases hu : u a with
          | false => rfl
          | true => have := h.pos a ha hu; omega
        rw [if_pos hl, ih (a + 1) (by omega) (fun h1 => by unfold stB; rw [h1, show a + 1 - 1 = a by omega, hu]; simp)]
        rw [show n - a = (n - (a + 1)) + 1 by omega, List.range'_succ, List.countP_cons]
        have : stB u x a = false := by unfold stB; rw [hu]; rfl
        rw [this]; rfl
      · have hle := h.le a ha
        have hua := h.usable ha (i := 0) (by omega)
        have hoff := h.off a ha hua
        rw [if_neg hl, List.length_cons, ih (a + long a) (by omega) (fun h1 => by
          rw [h1, Bool.and_true] at hoff
          unfold stB; rw [h1, hoff]; simp)]
        have e : List.range' a (n - a) = a :: (List.range' (a + 1) (long a - 1) ++ List.range' (a + long a) (n - (a + long a))) := by
          rw [show a + long a = a + 1 + (long a - 1) by omega, List.range'_append_1, ← List.range'_succ]; congr 1; omega
        rw [e, List.countP_cons, List.countP_append, count_none (long a - 1) (a + 1) (fun i hi => by
          have h1 := h.on a ha i (by omega)
          have h2 := h.usable ha (i := i) (by omega)
          unfold stB
          rw [show a + 1 + i - 1 = a + i by omega, h1.1, h2, decide_eq_false (show ¬ a + 1 + i = 0 by omega)]; simp), hc hua]
        simp
    · rw [if_neg ha, show n - a = 0 by omega]; rfl
/-- With more that go on there are no more pieces. -/
theorem cut_fewer {n : Nat} {u x x' : Nat → Bool} {long long' : Nat → Nat} (h : Links n u x long) (h' : Links n u x' long') (hx : ∀ a, x a = true → x' a = true) : (cutF long' n n 0).length ≤ (cutF long n n 0).length := by
  have z : ∀ y : Nat → Bool, u 0 = true → stB u y 0 = true := fun y hu => by unfold stB; rw [hu]; simp
  rw [cut_count h n 0 (by omega) (z x), cut_count h' n 0 (by omega) (z x')]
  refine List.countP_mono_left fun a _ ha => ?_
  unfold stB at ha ⊢
  revert ha
  cases hxa : x (a - 1) with
  | false => intro ha; revert ha; cases u a <;> simp
  | true => rw [hx _ hxa]; exact fun ha => ha
end Go.Proofs.Ytdodmbfkcandgaa.Rnn
