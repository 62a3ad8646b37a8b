/- Two seats, two poles, two venues: the same? -/
import Derived.Test.YtpkjhlcolgoknaaGreatDoorVWrong
import Derived.Laws.StructEq
namespace Go.Proofs.YtpkjhlcolgoknaaGreatDoor.Ven
set_option linter.unusedVariables false
set_option maxRecDepth 100000
open Go.RowKit Go.Shelf

theorem neq_seat (r1 x1 y1 k1 r2 x2 y2 k2 : Int) (b : Bool) (hb : decide ((⟨r1, x1, y1, k1⟩ : Seat) = ⟨r2, x2, y2, k2⟩) = b) (w : World) : (binOp .neq 57 (seatV r1 x1 y1 k1) (seatV r2 x2 y2 k2)).run Tryz.prog w = .ok (.bool (!b)) w := by
  have u3 := Tryz.underlying3
  have a3 := Tryz.isAgg3
  have z3 := Tryz.sizeOf3
  have hS : Tryz.prog.underlying 57 = some (.struct (Tryz.prog.fieldsOf 57)) := by kernel_rfl
  have hp : Tryz.prog.stoodInHeld 57 = false := by kernel_rfl
  have hd : decide ((⟨r1, x1, y1, k1⟩ : Seat) = ⟨r2, x2, y2, k2⟩) = ((r1 == r2) && (x1 == x2) && (y1 == y2) && (k1 == k2)) := by
    by_cases h0 : r1 = r2 <;> by_cases h1 : x1 = x2 <;> by_cases h2 : y1 = y2 <;> by_cases h3 : k1 = k2 <;> simp [h0, h1, h2, h3]
  rw [hd] at hb
  subst hb
  rw [run_neq_struct, show (10000 : Nat) = 9999 + 1 from rfl, run_equalIn_agg w 9999 57 _ _ hS hp]
  simp only [Program.fieldsOf, Tryz.underlying57]
  go_simp
  by_cases h0 : r1 = r2 <;> by_cases h1 : x1 = x2 <;> by_cases h2 : y1 = y2 <;> by_cases h3 : k1 = k2 <;> simp [h0, h1, h2, h3]
theorem neq_pole (x1 y1 r1 x2 y2 r2 : Int) (b : Bool) (hb : decide ((⟨x1, y1, r1⟩ : Pole) = ⟨x2, y2, r2⟩) = b) (w : World) : (binOp .neq 85 (poleV x1 y1 r1) (poleV x2 y2 r2)).run Tryz.prog w = .ok (.bool (!b)) w := by
  have u3 := Tryz.underlying3
  have a3 := Tryz.isAgg3
  have z3 := Tryz.sizeOf3
  have hS : Tryz.prog.underlying 85 = some (.struct (Tryz.prog.fieldsOf 85)) := by kernel_rfl
  have hp : Tryz.prog.stoodInHeld 85 = false := by kernel_rfl
  have hd : decide ((⟨x1, y1, r1⟩ : Pole) = ⟨x2, y2, r2⟩) = ((x1 == x2) && (y1 == y2) && (r1 == r2)) := by
    by_cases h0 : x1 = x2 <;> by_cases h1 : y1 = y2 <;> by_cases h2 : r1 = r2 <;> simp [h0, h1, h2]
  rw [hd] at hb
  subst hb
  rw [run_neq_struct, show (10000 : Nat) = 9999 + 1 from rfl, run_equalIn_agg w 9999 85 _ _ hS hp]
  simp only [Program.fieldsOf, Tryz.underlying85]
  go_simp
  by_cases h0 : x1 = x2 <;> by_cases h1 : y1 = y2 <;> by_cases h2 : r1 = r2 <;> simp [h0, h1, h2]
def sameB (A B : Ven) : Bool := decide (A.seats = B.seats) && decide (A.gap = B.gap) && decide (A.radius = B.radius) && decide (A.kills = B.kills) && decide (A.poles = B.poles)
theorem below_drewN (w : World) (q : Nat) : Below w.heap.size w (w.drewN q) := ⟨rfl, rfl, rfl, Nat.le_refl _, fun _ _ => rfl⟩
theorem sameB_iff (A B : Ven) : sameB A B = true ↔ A = B := by
  obtain ⟨a1, a2, a3, a4, a5⟩ := A
  obtain ⟨b1, b2, b3, b4, b5⟩ := B
  unfold sameB; simp [and_assoc]
end Go.Proofs.YtpkjhlcolgoknaaGreatDoor.Ven
