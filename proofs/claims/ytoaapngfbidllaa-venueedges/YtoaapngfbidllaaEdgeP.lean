/- VenueEdges: numbers at the edges. -/
import Derived.Test.YtoaapngfbidllaaRegE
import Derived.Test.YtoaapngfbidllaaRegF
import Derived.Test.YtoaapngfbidllaaMany
namespace Go.Proofs.Ytoaapngfbidllaa
set_option linter.unusedVariables false
open Go.RowKit Go.Shelf

def edgeN (lo hi : Int) (e : Nat) : Int := if e = 0 then lo else if e = 1 then hi else if e = 2 then lo - 1 else hi + 1
theorem edge_cell (W : World) (lo hi : Int) (e : Nat) (he : e < 4) : (W.alloc (.cells #[.int .i64 lo, .int .i64 hi, .int .i64 (lo - 1), .int .i64 (hi + 1)] 3)).cell? ⟨W.heap.size, e, none⟩ = some (.int .i64 (edgeN lo hi e)) := by
  rw [World.cell?_alloc_at _ _ _ _ rfl]
  rcases (by omega : e = 0 ∨ e = 1 ∨ e = 2 ∨ e = 3) with rfl | rfl | rfl | rfl <;> rfl
theorem wrapI (x : Int) (h1 : -2000000 ≤ x) (h2 : x ≤ 2000000) : IntKind.i64.wrap x = x := by rw [IntKind.wrap_i64]; omega
theorem Box.up {w : World} {g : Nat} {e : TypeId} {cs : Array Value} (h : Box w g e cs) (o : Obj) : Box (w.alloc o) g e cs := h.next (below_alloc w o)
theorem may_no (V : Ven) (h : ¬ wrongL V = []) : mayB V = false := by
  cases hm : mayB V with
  | false => rfl
  | true => exact absurd ((mayB_wrong V).mpr hm) h
end Go.Proofs.Ytoaapngfbidllaa
