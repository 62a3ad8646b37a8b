/- A region that draws its order, whose operations only read, and whose callees leave all that was there as it was: walked once. -/
import Derived.Test.YtbmmjbklfheghaaVBox
namespace Go.Proofs.Ytbmmjbklfheghaa.Ven
set_option linter.unusedVariables false
open Go.RowKit Go.Shelf

def Z0 : Ven := ⟨[], 0, 0, [], []⟩
theorem ven_Z0 (w : World) : VenAt w none 0 0 none 0 0 none 0 0 Z0 := ⟨.inl ⟨⟨_, _, rfl⟩, rfl⟩, .inl ⟨⟨_, _, rfl⟩, rfl⟩, .inl ⟨⟨_, _, rfl⟩, rfl⟩⟩
/-- What was there at 'w' is as it was. -/
def Past (w W : World) : Prop := Below w.heap.size w W
theorem Past.next {w W W' : World} (h : Past w W) (hb : Below W.heap.size W W') : Past w W' := Below.trans h (hb.mono h.size)
theorem Past.alloc {w W : World} (h : Past w W) (o : Obj) : Past w (W.alloc o) := Below.alloc h h.size o
theorem below_alloc (W : World) (o : Obj) : Below W.heap.size W (W.alloc o) := (Below.refl _ W).alloc (Nat.le_refl _) o

/-- A block that holds them one behind the other. -/
theorem Box.cells {α : Type} {enc : α → List Value} {k : Nat} (hk : ∀ x, (enc x).length = k) {w : World} {b : Nat} {e : TypeId} {cs : Array Value} {l : List α} (h : Box w b e cs) (hcs : cs = (l.flatMap enc).toArray) : Cells k enc w b 0 l := by
  refine ⟨h.lt, fun i hi j u hu => ?_⟩
  have hj : j < k := by rw [← hk l[i]]; exact (List.getElem?_eq_some_iff.1 hu).1
  rw [Nat.zero_add]
  refine h.cell _ u ?_
  rw [hcs, List.getElem?_toArray, flat_at enc k hk l i hi j hj]
  exact hu
theorem Sl.some_cells {α : Type} {k : Nat} {enc : α → List Value} {w : World} {b off n c : Nat} {l : List α} (h : Sl k enc w (.slice (some ⟨b, off, none⟩) n c) l) (hn : 0 < n) : Cells k enc w b off l := by
  rcases h with ⟨⟨a', c', h⟩, _⟩ | ⟨b', off', cap, h, _, _, hC⟩
  · cases h; exact absurd hn (Nat.lt_irrefl _)
  · cases h; exact hC
theorem Box.five {W : World} {B : Nat} {a b c d e : Value} (h : Box W B 26 #[a, b, c, d, e]) : W.cell? ⟨B, 0, none⟩ = some a ∧ W.cell? ⟨B, 1, none⟩ = some b ∧ W.cell? ⟨B, 2, none⟩ = some c ∧ W.cell? ⟨B, 3, none⟩ = some d ∧ W.cell? ⟨B, 4, none⟩ = some e :=
  ⟨h.cell 0 _ rfl, h.cell 1 _ rfl, h.cell 2 _ rfl, h.cell 3 _ rfl, h.cell 4 _ rfl⟩
/-- A world in which all that lay in 'W' lies as it did. -/
structure BelowOf (W : World) where
  w : World
  h : Below W.heap.size W w
theorem wp_region_quiet_below {P : Program} {id : Nat} {Q : Exit → Act → World → Prop} {a : Act} {w : World} {l : List Oper} (hm : P.follows .mixedOrders = true) (hB : Region.lexB .any l.toArray = true)
    (h : wpQuiet P l.toArray (fun w' => ∃ p : BelowOf w, w' = p.w) (fun a' => ∀ w', (∃ p : BelowOf w, w' = p.w) → Q .normal a' w') l a) : (Code.region id l.toArray true).wp P Q a w :=
  wp_region_quiet (C := fun w' => ∃ p : BelowOf w, w' = p.w) hm hB ⟨⟨w.drew, (Below.refl _ w).drew⟩, rfl⟩ (by simpa using h)
/-- A callee's contract, met in such a world. -/
theorem Calls.below_of {P : Program} {f : FuncId} {args : Array Value} {W : World} {p : BelowOf W} {v : Value}
    (h : Calls P f args p.w fun e w' => e = .returned v ∧ Below p.w.heap.size p.w w') : Calls P f args p.w fun e w'' => e = .returned v ∧ ∃ q : BelowOf W, w'' = q.w :=
  h.mono fun _ w' ⟨he, hb⟩ => ⟨he, ⟨w', p.h.trans (hb.mono p.h.size)⟩, rfl⟩
end Go.Proofs.Ytbmmjbklfheghaa.Ven
