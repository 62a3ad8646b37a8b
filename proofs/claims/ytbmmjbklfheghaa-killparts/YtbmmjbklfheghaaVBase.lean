/- What the rows' readings give the walks: a seat that came in. -/
import Derived.Test.YtbmmjbklfheghaaRows
import Derived.Test.YtbmmjbklfheghaaVQuiet
import Derived.WalkKit
import Derived.ProofKit
import Derived.OpenShut
import Derived.Below
import Derived.Carry
namespace Go.Proofs.Ytbmmjbklfheghaa.Ven
set_option linter.unusedVariables false
set_option maxRecDepth 100000
open Go.ChangeShapes Go.WideShapes Go.ChangeAt Go.RowKit

theorem own : ownKnob Try.prog.godebug = none := by kernel_rfl
theorem laidOut_all : laidOutB Try.prog = true := by kernel_rfl
theorem cells3 : Try.prog.cellsOf 3 = 1 := by kernel_rfl
theorem cells34 : Try.prog.cellsOf 44 = 4 := by kernel_rfl
theorem one_of {cs : List Value} {i : Nat} {v : Value} (h : (cs.drop i).take 1 = [v]) : cs[i]? = some v := by
  have := congrArg (·[0]?) h
  simpa using this
theorem fields34 : ∃ f0 f1 f2 f3 : Field, Try.prog.underlying 44 = some (.struct #[f0, f1, f2, f3]) ∧ (f0.type = 3 ∧ f0.offset = 0) ∧ (f1.type = 3 ∧ f1.offset = 1) ∧ (f2.type = 3 ∧ f2.offset = 2) ∧ (f3.type = 3 ∧ f3.offset = 3) :=
  ⟨_, _, _, _, Try.underlying44, ⟨rfl, rfl⟩, ⟨rfl, rfl⟩, ⟨rfl, rfl⟩, ⟨rfl, rfl⟩⟩
/-- A seat's cells, read. -/
theorem seat_cells {H : Type} {enc : TypeId × Value → H} {W : World} {base : Nat} {sp : Nat → Bool} {held : Bool} {fuel : Nat} {cs : List Value} {x : DataW H × List MemPlace}
    (h : DataW.trod enc Try.prog W base sp held fuel 44 cs = some x) : ∃ s : Seat, cs = seatC s := by
  obtain ⟨f0, f1, f2, f3, hu, ⟨t0, o0⟩, ⟨t1, o1⟩, ⟨t2, o2⟩, ⟨t3, o3⟩⟩ := fields34
  obtain ⟨xs, n, rfl, rfl, hl, hx, hf⟩ := DataW.trod_struct hu h
  rw [cells34] at hl
  have hx' : xs.length = 4 := hx
  have g : ∀ (i : Nat) (f : Field), #[f0, f1, f2, f3][i]? = some f → f.type = 3 → i < 4 → ∃ z, (cs.drop f.offset).take 1 = [.int .i64 z] := by
    intro i f hi ht hi4
    have h1 := hf i f hi
    rw [ht, cells3, List.getElem?_eq_getElem (by omega : i < xs.length)] at h1
    obtain ⟨z, hz, _⟩ := DataW.trod_int Try.underlying3 h1
    exact ⟨z, hz⟩
  obtain ⟨z0, h0⟩ := g 0 f0 rfl t0 (by omega)
  obtain ⟨z1, h1⟩ := g 1 f1 rfl t1 (by omega)
  obtain ⟨z2, h2⟩ := g 2 f2 rfl t2 (by omega)
  obtain ⟨z3, h3⟩ := g 3 f3 rfl t3 (by omega)
  rw [o0] at h0; rw [o1] at h1; rw [o2] at h2; rw [o3] at h3
  refine ⟨⟨z0, z1, z2, z3⟩, List.ext_getElem? fun i => ?_⟩
  match i with
  | 0 => exact one_of h0
  | 1 => exact one_of h1
  | 2 => exact one_of h2
  | 3 => exact one_of h3
  | i + 4 => rw [List.getElem?_eq_none (by omega), List.getElem?_eq_none (by simp [seatC])]
theorem seat_of {H : Type} {enc : TypeId × Value → H} {W : World} {base : Nat} {sp : Nat → Bool} {held : Bool} {cs : Array Value} {d : DataW H} {ps : List MemPlace}
    (h : DataW.Trod enc Try.prog W base sp held 44 (.agg cs) d ps) : ∃ r x y k, cs = #[.int .i64 r, .int .i64 x, .int .i64 y, .int .i64 k] := by
  obtain ⟨fuel, hf⟩ := h
  obtain ⟨s, hs⟩ := seat_cells hf
  refine ⟨s.row, s.x, s.y, s.kind, ?_⟩
  have : cs.toList = seatC s := hs
  exact Array.toList_inj.1 this
end Go.Proofs.Ytbmmjbklfheghaa.Ven
