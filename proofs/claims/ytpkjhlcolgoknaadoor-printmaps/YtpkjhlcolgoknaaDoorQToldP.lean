/- What parterrelaw5.told asks of printing, as plain facts. -/
import Derived.Test.YtpkjhlcolgoknaaDoorQPure
namespace Go.Proofs.YtpkjhlcolgoknaaDoor.Prn
set_option linter.unusedVariables false
set_option maxRecDepth 100000
open Go.Proofs.YtpkjhlcolgoknaaDoor.Ven (Seat Pole Ven mayB)

def V5 : Ven := ⟨[⟨0, 5, 6, 0⟩, ⟨1, 3, -4, 1⟩, ⟨1, 4, 0, 0⟩], 2, 1, [2], [⟨1, 2, 3⟩]⟩
def Z5 : Ven := ⟨[], 0, 0, [], []⟩
theorem may_V5 : mayB V5 = true := by kernel_rfl
theorem may_Z5 : mayB Z5 = false := by kernel_rfl
theorem it0 : Lib.itoa 0 = [48] := by have := Lib.itoa_nonneg 0; rw [Lib.decDigits_one (by omega)] at this; exact this
theorem it1 : Lib.itoa 1 = [49] := by have := Lib.itoa_nonneg 1; rw [Lib.decDigits_one (by omega)] at this; exact this
theorem it2 : Lib.itoa 2 = [50] := by have := Lib.itoa_nonneg 2; rw [Lib.decDigits_one (by omega)] at this; exact this
theorem it3 : Lib.itoa 3 = [51] := by have := Lib.itoa_nonneg 3; rw [Lib.decDigits_one (by omega)] at this; exact this
theorem it4 : Lib.itoa 4 = [52] := by have := Lib.itoa_nonneg 4; rw [Lib.decDigits_one (by omega)] at this; exact this
theorem it5 : Lib.itoa 5 = [53] := by have := Lib.itoa_nonneg 5; rw [Lib.decDigits_one (by omega)] at this; exact this
theorem it6 : Lib.itoa 6 = [54] := by have := Lib.itoa_nonneg 6; rw [Lib.decDigits_one (by omega)] at this; exact this
theorem itm4 : Lib.itoa (-4) = [45, 52] := by have := Lib.itoa_neg 4 (by omega); rw [Lib.decDigits_one (by omega)] at this; exact this
theorem print_V5 : printL V5 = [103, 97, 112, 32, 50, 10, 114, 97, 100, 105, 117, 115, 32, 49, 10, 115, 101, 97, 116, 32, 48, 32, 53, 32, 54, 10, 119, 104, 101, 101, 108, 32, 49, 32, 51, 32, 45, 52, 10, 115, 101, 97, 116, 32, 49, 32, 52, 32, 48, 10, 107, 105, 108, 108, 32, 49, 32, 52, 10, 112, 111, 108, 101, 32, 49, 32, 50, 32, 51, 10] := by
  simp [printL, V5, headL, seatLn, seatL, killLn, poleLn, factL, numsL, wordL, tGap, tRadius, tKill, tPole, it0, it1, it2, it3, it4, it5, it6, itm4]
theorem seat_9 : seatL ⟨0, 0, 0, 9⟩ = [63, 32, 48, 32, 48, 32, 48] := by
  simp [seatL, factL, numsL, wordL, it0]
theorem map_V5 : mapL V5 [0, 3] = [48, 32, 46, 10, 49, 32, 35, 120, 10] := by
  unfold mapL V5
  simp only [List.length_cons, List.length_nil, Nat.zero_add, Nat.reduceAdd, mapTo_succ, mapTo_zero]
  simp [frontL, signL, freeL, it0, it1]
theorem map_V5n : mapL V5 [] = [48, 32, 46, 10, 49, 32, 119, 120, 10] := by
  unfold mapL V5
  simp only [List.length_cons, List.length_nil, Nat.zero_add, Nat.reduceAdd, mapTo_succ, mapTo_zero]
  simp [frontL, signL, freeL, it0, it1]
end Go.Proofs.YtpkjhlcolgoknaaDoor.Prn
