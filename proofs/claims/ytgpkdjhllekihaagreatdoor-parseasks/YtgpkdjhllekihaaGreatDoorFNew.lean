/- fault.New, (*fault).placed by contracts. -/
import Derived.Test.YtgpkdjhllekihaaGreatDoorFVisit
import Derived.Lib.IfaceEq
namespace Go.Proofs.YtgpkdjhllekihaaGreatDoor.Flt
set_option linter.unusedVariables false
set_option maxRecDepth 100000
open Go.RowKit Go.Extern.Stop Go.Stop Go.Extern

theorem New_none (k l c : Int) (hk : k ≤ 0) (w : World) :
  Calls Tryz.prog 29 #[.int .i64 k, .int .i64 l, .int .i64 c] w fun e w' => e = .returned .nilIface ∧ w' = w := by
 go_enter Tryz.func29, Tryz.ntmps29
 go_wp2
 go_ret
 exact ⟨rfl, rfl⟩
theorem New_some (k l c : Int) (hk : 0 < k) (w : World) :
  Calls Tryz.prog 29 #[.int .i64 k, .int .i64 l, .int .i64 c] w fun e w' => e = .returned (.iface 69 (.pointer (some ⟨w.heap.size, 0, none⟩))) ∧ w' = w.alloc (.cells #[.int .i64 k, .int .i64 (max l 0), .int .i64 (max c 0), .nilIface] 72) := by
 by_cases hl : l < 0 <;> by_cases hc : c < 0
 ·rw [show max l 0 = 0 by omega, show max c 0 = 0 by omega]
  go_enter Tryz.func29, Tryz.ntmps29
  go_wp2
  go_ret
  exact ⟨rfl, rfl⟩
 ·rw [show max l 0 = 0 by omega, show max c 0 = c by omega]
  go_enter Tryz.func29, Tryz.ntmps29
  go_wp2
  go_ret
  exact ⟨rfl, rfl⟩
 ·rw [show max l 0 = l by omega, show max c 0 = 0 by omega]
  go_enter Tryz.func29, Tryz.ntmps29
  go_wp2
  go_ret
  exact ⟨rfl, rfl⟩
 ·rw [show max l 0 = l by omega, show max c 0 = c by omega]
  go_enter Tryz.func29, Tryz.ntmps29
  go_wp2
  go_ret
  exact ⟨rfl, rfl⟩
/-- What comes of New: nothing, or a chain of one. -/
theorem I64.max0 {n : Int} (h : I64 n) : I64 (max n 0) := by unfold I64 at *; omega
theorem I64.zero : I64 0 := by unfold I64; omega
theorem New_chain (k l c : Int) (hk : 0 < k) (ik : I64 k) (il : I64 l) (ic : I64 c) (w : World) :
  Calls Tryz.prog 29 #[.int .i64 k, .int .i64 l, .int .i64 c] w fun e w' => ∃ v, e = .returned v ∧ Chain w' v [(k, max l 0, max c 0)] ∧ Below w.heap.size w w' := by
 refine (New_some k l c hk w).mono ?_
 rintro e w' ⟨rfl, rfl⟩
 exact ⟨_, rfl, (Chain.nil w).cons _ _ _ ik il.max0 ic.max0, (Below.refl _ w).alloc (Nat.le_refl _) _⟩
theorem placed_not (b : Nat) (w : World) (h1 : w.cell? ⟨b, 1, none⟩ = some (.int .i64 0)) (h2 : w.cell? ⟨b, 2, none⟩ = some (.int .i64 0)) :
  Calls Tryz.prog 23 #[.pointer (some ⟨b, 0, none⟩)] w fun e w' => e = .returned (.bool false) ∧ w' = w := by
 go_enter Tryz.func23, Tryz.ntmps23
 go_wp2
 go_ret
 exact ⟨rfl, rfl⟩
theorem placed_line (b : Nat) (l c : Int) (hl : (l == 0) = false) (w : World) (h1 : w.cell? ⟨b, 1, none⟩ = some (.int .i64 l)) (h2 : w.cell? ⟨b, 2, none⟩ = some (.int .i64 c)) :
  Calls Tryz.prog 23 #[.pointer (some ⟨b, 0, none⟩)] w fun e w' => e = .returned (.bool true) ∧ w' = w := by
 go_enter Tryz.func23, Tryz.ntmps23
 go_wp2
 go_ret
 exact ⟨rfl, rfl⟩
theorem placed_col (b : Nat) (c : Int) (hc : (c == 0) = false) (w : World) (h1 : w.cell? ⟨b, 1, none⟩ = some (.int .i64 0)) (h2 : w.cell? ⟨b, 2, none⟩ = some (.int .i64 c)) :
  Calls Tryz.prog 23 #[.pointer (some ⟨b, 0, none⟩)] w fun e w' => e = .returned (.bool true) ∧ w' = w := by
 go_enter Tryz.func23, Tryz.ntmps23
 go_wp2
 go_ret
 exact ⟨rfl, rfl⟩
def placedB (l c : Int) : Bool := !(l == 0 && c == 0)
theorem placed_at (b : Nat) (l c : Int) (w : World) (h1 : w.cell? ⟨b, 1, none⟩ = some (.int .i64 l)) (h2 : w.cell? ⟨b, 2, none⟩ = some (.int .i64 c)) :
  Calls Tryz.prog 23 #[.pointer (some ⟨b, 0, none⟩)] w fun e w' => e = .returned (.bool (placedB l c)) ∧ w' = w := by
 by_cases hl : l = 0
 ·subst hl
  by_cases hc : c = 0
  ·subst hc; exact placed_not b w h1 h2
  ·have hc' : (c == 0) = false := beq_eq_false_iff_ne.2 hc
   have e : placedB 0 c = true := by simp [placedB, hc]
   rw [e]; exact placed_col b c hc' w h1 h2
 ·have hl' : (l == 0) = false := beq_eq_false_iff_ne.2 hl
  have e : placedB l c = true := by simp [placedB, hl]
  rw [e]; exact placed_line b l c hl' w h1 h2
end Go.Proofs.YtgpkdjhllekihaaGreatDoor.Flt
