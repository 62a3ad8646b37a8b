/- Printing a venue, as plain functions of lists of bytes: lines, signs (no program in it). -/
import Derived.Test.YtpkjhlcolgoknaaDoorVPure
import Derived.Lib.ItoaLen
import Derived.Lib.ItoaMem
import Derived.KernelRfl
namespace Go.Proofs.YtpkjhlcolgoknaaDoor.Prn
set_option linter.unusedVariables false
set_option maxRecDepth 100000
open Go.Proofs.YtpkjhlcolgoknaaDoor.Ven (Seat Pole Ven)

/-- Numbers, each behind a blank. -/
def numsL : List Int → List UInt8
  | [] => []
  | n :: r => 32 :: (Lib.itoa n ++ numsL r)
theorem numsL_append (a b : List Int) : numsL (a ++ b) = numsL a ++ numsL b := by
  induction a with
  | nil => rfl
  | cons n r ih => simp [numsL, ih]
theorem numsL_snoc (a : List Int) (n : Int) : numsL (a ++ [n]) = numsL a ++ [32] ++ Lib.itoa n := by
  rw [numsL_append]; simp [numsL]
/-- A word and its numbers. -/
def factL (w : List UInt8) (ns : List Int) : List UInt8 := w ++ numsL ns
def wordL (k : Int) : List UInt8 := if k = 0 then [115, 101, 97, 116] else if k = 1 then [119, 104, 101, 101, 108] else if k = 2 then [99, 111, 109, 112, 97, 110, 105, 111, 110] else [63]
def tGap : List UInt8 := [103, 97, 112]
def tRadius : List UInt8 := [114, 97, 100, 105, 117, 115]
def tKill : List UInt8 := [107, 105, 108, 108]
def tPole : List UInt8 := [112, 111, 108, 101]
def seatL (s : Seat) : List UInt8 := factL (wordL s.kind) [s.row, s.x, s.y]
def seatLn (s : Seat) : List UInt8 := seatL s ++ [10]
def killLn (S : List Seat) (k : Int) : List UInt8 := factL tKill [(S[k.toNat]!).row, (S[k.toNat]!).x] ++ [10]
def poleLn (p : Pole) : List UInt8 := factL tPole [p.x, p.y, p.r] ++ [10]
def headL (V : Ven) : List UInt8 := factL tGap [V.gap] ++ [10] ++ (factL tRadius [V.radius] ++ [10])
/-- The manifest of a venue. -/
def printL (V : Ven) : List UInt8 := headL V ++ V.seats.flatMap seatLn ++ V.kills.flatMap (killLn V.seats) ++ V.poles.flatMap poleLn
theorem flat_take {α : Type} (f : α → List UInt8) (l : List α) (i : Nat) (h : i < l.length) : (l.take (i + 1)).flatMap f = (l.take i).flatMap f ++ f l[i] := by
  rw [List.take_succ_eq_append_getElem h, List.flatMap_append]; simp
theorem flat_bound {α : Type} (f : α → List UInt8) (m : Nat) : ∀ (l : List α), (∀ x ∈ l, (f x).length ≤ m) → (l.flatMap f).length ≤ l.length * m
  | [], _ => by simp
  | x :: r, h => by
    have h1 := h x (by simp)
    have h2 := flat_bound f m r (fun y hy => h y (by simp [hy]))
    rw [List.flatMap_cons, List.length_append, List.length_cons, Nat.add_mul]; omega

def I64 (n : Int) : Prop := -9223372036854775808 ≤ n ∧ n ≤ 9223372036854775807
theorem itoa_len (n : Int) (hn : I64 n) : (Lib.itoa n).length ≤ 21 := Lib.itoa_length_le n hn.1 hn.2
theorem numsL_len : ∀ (ns : List Int), (∀ n ∈ ns, I64 n) → (numsL ns).length ≤ ns.length * 22
  | [], _ => by simp [numsL]
  | n :: r, h => by
    have h1 := itoa_len n (h n (by simp))
    have h2 := numsL_len r (fun y hy => h y (by simp [hy]))
    simp only [numsL, List.length_cons, List.length_append]; omega
theorem factL_len (w : List UInt8) (ns : List Int) (h : ∀ n ∈ ns, I64 n) : (factL w ns).length ≤ w.length + ns.length * 22 := by
  have := numsL_len ns h
  unfold factL; rw [List.length_append]; omega
theorem wordL_len (k : Int) : (wordL k).length ≤ 9 := by
  unfold wordL; split
  · decide
  · split
    · decide
    · split <;> decide
theorem seatL_len (s : Seat) (h0 : I64 s.row) (h1 : I64 s.x) (h2 : I64 s.y) : (seatL s).length ≤ 75 := by
  have := factL_len (wordL s.kind) [s.row, s.x, s.y] (by simp; exact ⟨h0, h1, h2⟩)
  have := wordL_len s.kind
  unfold seatL; simp at *; omega

/-- The sign of a seat that nobody has. -/
def freeL (k : Int) : UInt8 := if k = 1 then 119 else if k = 2 then 99 else 46
def signL (V : Ven) (own : List Int) (i : Nat) : UInt8 :=
  if (i : Int) ∈ V.kills then 120 else if 0 < own.getD i 0 then 35 else if own.getD i 0 < 0 then 45 else freeL (V.seats[i]!).kind
/-- What stands ahead of a seat's sign. -/
def frontL (V : Ven) (i : Nat) : List UInt8 :=
  if i = 0 then Lib.itoa (V.seats[i]!).row ++ [32] else if (V.seats[i]!).row = (V.seats[i - 1]!).row then [] else 10 :: (Lib.itoa (V.seats[i]!).row ++ [32])
def mapTo (V : Ven) (own : List Int) (n : Nat) : List UInt8 := (List.range n).flatMap fun i => frontL V i ++ [signL V own i]
theorem mapTo_zero (V : Ven) (own : List Int) : mapTo V own 0 = [] := rfl
theorem mapTo_succ (V : Ven) (own : List Int) (n : Nat) : mapTo V own (n + 1) = mapTo V own n ++ frontL V n ++ [signL V own n] := by
  unfold mapTo; rw [List.range_succ, List.flatMap_append]; simp
/-- The map of a venue. -/
def mapL (V : Ven) (own : List Int) : List UInt8 := mapTo V own V.seats.length ++ [10]
theorem frontL_len (V : Ven) (i : Nat) (h : I64 (V.seats[i]!).row) : (frontL V i).length ≤ 23 := by
  have := itoa_len _ h
  unfold frontL; split
  · rw [List.length_append, List.length_singleton]; omega
  · split
    · simp
    · rw [List.length_cons, List.length_append, List.length_singleton]; omega
end Go.Proofs.YtpkjhlcolgoknaaDoor.Prn
