/- A region that draws: an operation whose guard holds. -/
import Derived.Test.YtbmmjbklfheghaaVInv
namespace Go.Proofs.Ytbmmjbklfheghaa.Com
set_option linter.unusedVariables false
set_option maxRecDepth 100000
open Go.RowKit Go.Shelf

/-- An operation whose guard holds. -/
theorem wanted_guard {ops : Array Oper} {tmps : Array Value} {o : Oper} {j d : Nat} {b : Bool} (hg : o.guard = some (j, b)) (hd : (ops[j]?).bind (·.dst) = some d) (hv : tmps[d]? = some (.bool b)) : Region.wanted o (yielded ops tmps) = true := by
  have hy : yielded ops tmps j = some b := by
    unfold yielded
    have e : (ops[j]?.bind fun x => x.dst) = some d := hd
    simp only [e, Option.bind_some, hv]
  unfold Region.wanted
  rw [hg]
  show (yielded ops tmps j == some b) = true
  rw [hy]; simp
/-- An operation whose guard does not hold. -/
theorem unwanted_guard {ops : Array Oper} {tmps : Array Value} {o : Oper} {j d : Nat} {b : Bool} (hg : o.guard = some (j, b)) (hd : (ops[j]?).bind (·.dst) = some d) (hv : tmps[d]? = some (.bool (!b))) : ¬ Region.wanted o (yielded ops tmps) = true := by
  have hy : yielded ops tmps j = some (!b) := by
    unfold yielded
    have e : (ops[j]?.bind fun x => x.dst) = some d := hd
    simp only [e, Option.bind_some, hv]
  unfold Region.wanted
  rw [hg]
  show ¬ (yielded ops tmps j == some b) = true
  rw [hy]; cases b <;> decide
end Go.Proofs.Ytbmmjbklfheghaa.Com
