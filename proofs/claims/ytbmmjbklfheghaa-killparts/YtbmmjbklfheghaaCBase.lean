/- What the rows' readings give the walks: numbers and marks that came in. -/
import Derived.Test.YtbmmjbklfheghaaVBase3
import Derived.Test.YtbmmjbklfheghaaVMakeA
import Derived.Test.YtbmmjbklfheghaaCInts
namespace Go.Proofs.Ytbmmjbklfheghaa.Com
set_option linter.unusedVariables false
open Go.ChangeShapes Go.WideShapes Go.ChangeAt Go.RowKit
open Go.Proofs.Ytbmmjbklfheghaa.Ven (IntsAt intC cells3 sl_of)

theorem cell_spot {w : World} {a : Addr} {v : Value} (h : w.cell? a = some v) : a = ⟨a.block, a.off, none⟩ ∧ a.block < w.heap.size := by
  have hs : a.spot = none := by
    unfold World.cell? at h
    cases hsp : a.spot with
    | none => rfl
    | some q => rw [hsp] at h; simp at h; split at h <;> simp at h
  refine ⟨by cases a; simp_all, World.block_lt_of_cell? _ _ h⟩
theorem ints_of {H : Type} {enc : TypeId × Value → H} {W : World} {sp : Nat → Bool} {held : Bool} {a : Option Addr} {len cap : Nat} {d : DataW H} {ps : List MemPlace}
    (h : DataW.Trod enc Try.prog W 0 sp held 23 (.slice a len cap) d ps) : ∃ l, IntsAt W a len cap l := by
  obtain ⟨fuel, hf⟩ := h
  rcases open_ints Try.underlying23 Try.underlying3 cells3 hf with ⟨hcs, _⟩ | ⟨x, l, c, zs, hcs, _, hl, hm, hz, _, hcell, hwz⟩
  · simp [Value.cells] at hcs
    obtain ⟨rfl, rfl, rfl⟩ := hcs
    exact ⟨[], rfl, Nat.zero_le _, .inl rfl⟩
  · simp [Value.cells] at hcs
    obtain ⟨rfl, rfl, rfl⟩ := hcs
    have hlen : len ≤ zs.length := by rw [hz]; split <;> omega
    refine ⟨zs.take len, by rw [List.length_take]; omega, by omega, ?_⟩
    rcases Nat.eq_zero_or_pos len with h0 | h0
    · exact .inl h0
    · right
      have c0 := hcell 0 (by omega)
      have e0 : x.add 0 = x := by simp [Addr.add]
      rw [e0] at c0
      obtain ⟨hx, hlt⟩ := cell_spot c0
      refine ⟨x.block, x.off, by rw [← hx], hlt, fun i hi j u hu => ?_⟩
      have hj : j = 0 := by
        have := (List.getElem?_eq_some_iff.1 hu).1
        simp [intC] at this; exact this
      subst hj
      rw [List.length_take] at hi
      have ci := hcell i (by omega)
      rw [hx, Addr.add_lit] at ci
      simp only [intC, List.getElem?_cons_zero, Option.some.injEq] at hu
      subst hu
      rw [Nat.mul_one, Nat.add_zero, ci]
      simp [List.getD_eq_getElem?_getD, List.getElem?_eq_getElem (show i < zs.length by omega)]
theorem cells4 : Try.prog.cellsOf 4 = 1 := by kernel_rfl
theorem bool_cells {H : Type} {enc : TypeId × Value → H} {W : World} {base : Nat} {sp : Nat → Bool} {held : Bool} {fuel : Nat} {cs : List Value} {x : DataW H × List MemPlace}
    (h : DataW.trod enc Try.prog W base sp held fuel 4 cs = some x) : ∃ z : Bool, cs = boolC z := by
  obtain ⟨z, hz, _⟩ := DataW.trod_bool Try.underlying4 h
  exact ⟨z, hz⟩
theorem marks_of {H : Type} {enc : TypeId × Value → H} {W : World} {base : Nat} {sp : Nat → Bool} {held : Bool} {a : Option Addr} {len cap : Nat} {d : DataW H} {ps : List MemPlace}
    (h : DataW.Trod enc Try.prog W base sp held 29 (.slice a len cap) d ps) : ∃ u, MarksAt W a len cap u := by
  obtain ⟨fuel, hf⟩ := h
  obtain ⟨a1, n1, c1, l1, g0, s0⟩ := sl_of boolC_len (by omega) Try.underlying29 cells4 (fun _ _ _ h => bool_cells h) hf
  simp [Value.cells] at g0
  obtain ⟨rfl, rfl, rfl⟩ := g0
  exact ⟨l1, s0⟩
end Go.Proofs.Ytbmmjbklfheghaa.Com
