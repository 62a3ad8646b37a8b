/- How far, as plain functions of numbers (no program in it). -/
import Derived.Test.YtbmmjbklfheghaaVOrdP
namespace Go.Proofs.Ytbmmjbklfheghaa.Geo
set_option linter.unusedVariables false
open Go.Proofs.Ytbmmjbklfheghaa.Ven (Seat Pole Ven coordB standsB mayB)

def sqI (x y u v : Int) : Int := (x - u) * (x - u) + (y - v) * (y - v)
theorem mul_self_pos (d : Int) : 0 ≤ d * d := by
  rcases Int.le_total 0 d with h | h
  · exact Int.mul_nonneg h h
  · have := Int.mul_nonneg (show 0 ≤ -d by omega) (show 0 ≤ -d by omega)
    rwa [Int.neg_mul_neg] at this
theorem mul_self_zero {d : Int} (h : d * d = 0) : d = 0 := by
  rcases Int.mul_eq_zero.1 h with h | h <;> exact h
theorem mul_self_le {d B : Int} (h1 : -B ≤ d) (h2 : d ≤ B) : d * d ≤ B * B := by
  rcases Int.le_total 0 d with h | h
  · exact Int.mul_le_mul h2 h2 h (by omega)
  · have := Int.mul_le_mul (show -d ≤ B by omega) (show -d ≤ B by omega) (show 0 ≤ -d by omega) (show 0 ≤ B by omega)
    rwa [Int.neg_mul_neg] at this
theorem sqI_comm (x y u v : Int) : sqI x y u v = sqI u v x y := by
  unfold sqI
  have e : ∀ a b : Int, (a - b) * (a - b) = (b - a) * (b - a) := fun a b => by
    have : a - b = -(b - a) := by omega
    rw [this, Int.neg_mul_neg]
  rw [e x u, e y v]
theorem sqI_pos (x y u v : Int) : 0 ≤ sqI x y u v := by
  unfold sqI; have := mul_self_pos (x - u); have := mul_self_pos (y - v); omega
theorem sqI_zero (x y u v : Int) : sqI x y u v = 0 ↔ x = u ∧ y = v := by
  unfold sqI
  constructor
  · intro h
    have h1 := mul_self_pos (x - u); have h2 := mul_self_pos (y - v)
    have e1 := mul_self_zero (d := x - u) (by omega)
    have e2 := mul_self_zero (d := y - v) (by omega)
    omega
  · rintro ⟨rfl, rfl⟩; simp
theorem two_sq (p q : Int) : (p + q) * (p + q) ≤ 2 * (p * p + q * q) := by
  have h := mul_self_pos (p - q)
  have e1 : (p + q) * (p + q) = p * p + 2 * (p * q) + q * q := by
    rw [Int.add_mul, Int.mul_add, Int.mul_add, Int.mul_comm q p]; omega
  have e2 : (p - q) * (p - q) = p * p - 2 * (p * q) + q * q := by
    rw [Int.sub_mul, Int.mul_sub, Int.mul_sub, Int.mul_comm q p]; omega
  omega
theorem sqI_third (x y u v s t : Int) : sqI x y s t ≤ 2 * (sqI x y u v + sqI u v s t) := by
  unfold sqI
  have h1 := two_sq (x - u) (u - s)
  have h2 := two_sq (y - v) (v - t)
  have e1 : x - u + (u - s) = x - s := by omega
  have e2 : y - v + (v - t) = y - t := by omega
  rw [e1] at h1; rw [e2] at h2
  omega
theorem coordB_iff (n : Int) : coordB n = true ↔ -1048576 ≤ n ∧ n ≤ 1048576 := by unfold coordB; simp
theorem sq_part {x u : Int} (hx : coordB x = true) (hu : coordB u = true) : -2097152 ≤ x - u ∧ x - u ≤ 2097152 ∧ 0 ≤ (x - u) * (x - u) ∧ (x - u) * (x - u) ≤ 4398046511104 := by
  rw [coordB_iff] at hx hu
  have := mul_self_le (d := x - u) (B := 2097152) (by omega) (by omega)
  exact ⟨by omega, by omega, mul_self_pos _, by omega⟩
theorem mul_lt {r s : Int} (h0 : 0 ≤ r) (h : r ≤ s) : r * r ≤ s * s := Int.mul_le_mul h h h0 (by omega)

/-- The square of a distance; 0 of what may not stand. -/
def farI (x y u v : Int) : Int := if (standsB x y && standsB u v) = true then sqI x y u v else 0
def nearS (a b : Seat) (r : Int) : Bool := decide (sqI a.x a.y b.x b.y < r * r)
/-- Do two of these seats clash? -/
def clashL (l : List Seat) (r : Int) (i j : Nat) : Bool := decide (i ≠ j) && nearS l[i]! l[j]! r
def clashB (V : Ven) (a b : Int) : Bool := decide (0 ≤ a ∧ a < (V.seats.length : Int)) && (decide (0 ≤ b ∧ b < (V.seats.length : Int)) && (mayB V && clashL V.seats V.radius a.toNat b.toNat))
/-- The numbers below 'n' of which it holds, rising. -/
def thoseN (n : Nat) (p : Nat → Bool) : List Int := ((List.range n).filter p).map Int.ofNat
def those (l : List Seat) (p : Nat → Bool) : List Int := thoseN l.length p
def nearL (V : Ven) (x y r : Int) : List Int :=
  if (standsB x y && (decide (1 ≤ r ∧ r ≤ 1048576) && mayB V)) = true then those V.seats (fun i => nearS V.seats[i]! ⟨0, x, y, 0⟩ r) else []
def graphL (V : Ven) : List (List Int) := if mayB V = true then (List.range V.seats.length).map (fun i => those V.seats (clashL V.seats V.radius i)) else []
theorem thoseN_zero (p : Nat → Bool) : thoseN 0 p = [] := rfl
theorem thoseN_succ (n : Nat) (p : Nat → Bool) : thoseN (n + 1) p = if p n = true then thoseN n p ++ [(n : Int)] else thoseN n p := by
  unfold thoseN
  rw [List.range_succ, List.filter_append, List.map_append]
  by_cases h : p n = true
  · rw [if_pos h]; simp [h]
  · rw [if_neg h]; simp [h]
theorem thoseN_le (n : Nat) (p : Nat → Bool) : (thoseN n p).length ≤ n := by
  unfold thoseN; rw [List.length_map]
  exact Nat.le_trans (List.length_filter_le _ _) (by simp)
theorem thoseN_mem (n : Nat) (p : Nat → Bool) (z : Int) : z ∈ thoseN n p ↔ ∃ i : Nat, i < n ∧ p i = true ∧ z = (i : Int) := by
  unfold thoseN; simp only [List.mem_map, List.mem_filter, List.mem_range]
  constructor
  · rintro ⟨i, ⟨h1, h2⟩, rfl⟩; exact ⟨i, h1, h2, rfl⟩
  · rintro ⟨i, h1, h2, rfl⟩; exact ⟨i, ⟨h1, h2⟩, rfl⟩
theorem thoseN_congr (n : Nat) {p q : Nat → Bool} (h : ∀ i, i < n → p i = q i) : thoseN n p = thoseN n q := by
  unfold thoseN
  rw [List.filter_congr fun i hi => h i (List.mem_range.1 hi)]
theorem thoseN_pairwise (n : Nat) (p : Nat → Bool) : (thoseN n p).Pairwise (fun a b => a < b) := by
  unfold thoseN
  rw [List.pairwise_map]
  exact (List.Pairwise.filter _ List.pairwise_lt_range).imp fun h => by exact Int.ofNat_lt.2 h
end Go.Proofs.Ytbmmjbklfheghaa.Geo
