/- A venue of nothing, as its block holds it; a box of five cells set anew beside a row. -/
import Derived.Test.YtbmmjbklfheghaaVBox
namespace Go.Proofs.Ytbmmjbklfheghaa.Ven
set_option linter.unusedVariables false
open Go.RowKit Go.Shelf

abbrev Zero5 : Array Value := #[.slice none 0 0, .int .i64 0, .int .i64 0, .slice none 0 0, .slice none 0 0]
theorem row_set5 {w : World} {g : Nat} {cs : Array Value} (hB : Box w g 26 cs) {base : Nat} {e : TypeId} (hne : 26 ≠ e) {size : Nat} {v : Value} {n : Nat} {xs : List Value} (h : w.ownsRow base e size v n xs) (v0 v1 v2 v3 v4 : Value) :
    (((((w.setCell ⟨g, 0, none⟩ v0).setCell ⟨g, 1, none⟩ v1).setCell ⟨g, 2, none⟩ v2).setCell ⟨g, 3, none⟩ v3).setCell ⟨g, 4, none⟩ v4).ownsRow base e size v n xs :=
  row_setCell (row_setCell (row_setCell (row_setCell (row_setCell h hB hne 0 _) (hB.set 0 v0) hne 1 _) ((hB.set 0 v0).set 1 v1) hne 2 _) (((hB.set 0 v0).set 1 v1).set 2 v2) hne 3 _) ((((hB.set 0 v0).set 1 v1).set 2 v2).set 3 v3) hne 4 _
end Go.Proofs.Ytbmmjbklfheghaa.Ven
