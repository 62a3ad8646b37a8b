/-
  No cell of these rows narrows 'for every input' (looked for: loops, veiled, ifaces, maps, wideKeys, modest, calm, conditions, laid).
  DERIVED. THE GIVEN ROWS OF THIS SEAT. 4 by the template 'for every input the law returns true; each argument reads behind the call as it read before'; 0 by the template 'total and deterministic' (their statements: YtbmmjbklfheghaaTotals.lean).
  GIVEN WITH THE SEED: the statements are not yours to turn. If you find one false, say at which input.
  Laid BY PROGRAM, IN A SANDBOX (cutbox-rows.mjs): the forced cells as the released guide's own fill.sh prints them over the translation 5ca0e998ddb5fc05… (all of the seat's roots in one cut). By AI agents, Wed Nov 11 2026. No macro, syntax, notation, axiom, sorry.
-/
import Derived.Test.YtbmmjbklfheghaaChecked
import GoSem.Claim
import GoSem.ClaimJoined
import GoSem.ClaimMapViews
import Derived.JoinedTies
import Derived.KernelRfl
namespace Go.Proofs.Ytbmmjbklfheghaa
/- THE CELL 'sum', in the pinned program and in every row, IS THE sha256 OF THE DUMP (.gsa) THAT YtbmmjbklfheghaaProg.lean LOADS. Nothing in Lean hashes anything: it is a label: what it is worth is what the hold of that sum in a sandbox is worth. -/
noncomputable def Try.pinned : Pinned := { name := "ytbmmjbklfheghaa", sum := "5ca0e998ddb5fc05cc28d2ce7738998d9b7731a79c4f3b84cd039acd7e6dd05f", checked := Try.checked }
namespace Rows
def none {H : Type} : Left H := { results := [], args := [] }

/-- 'parterrelaw8.KillAsks': WHATEVER THE INPUT: true; the input reads as it did. -/
def killAsksSpec : ChangeSpec := { name := "killAsks", fn := fun _ => fun
  | [d1, d2] => { results := [.lit (.bool true)], args := [d1, d2] }
  | _ => none }
def killAsksRow : OpenClaim := { program := "ytbmmjbklfheghaa", sum := "5ca0e998ddb5fc05cc28d2ce7738998d9b7731a79c4f3b84cd039acd7e6dd05f", func := "parterre/parterrelaw8.KillAsks", spec := "killAsks", apart := false }
def KillAsksSaid : Prop := killAsksRow.holds Try.pinned (OpenSpec.ofChange killAsksSpec)

/-- ITS FALSE NEIGHBOUR: 'it returns false'. Refute it at one input. -/
def killAsksWrong : ChangeSpec := { name := "killAsks", fn := fun _ => fun
  | [d1, d2] => { results := [.lit (.bool false)], args := [d1, d2] }
  | _ => none }
def KillAsksWrongFalsely : Prop := killAsksRow.holds Try.pinned (OpenSpec.ofChange killAsksWrong)

/-- 'parterrelaw8.KillNear': WHATEVER THE INPUT: true; the input reads as it did. -/
def killNearSpec : ChangeSpec := { name := "killNear", fn := fun _ => fun
  | [d] => { results := [.lit (.bool true)], args := [d] }
  | _ => none }
def killNearRow : OpenClaim := { program := "ytbmmjbklfheghaa", sum := "5ca0e998ddb5fc05cc28d2ce7738998d9b7731a79c4f3b84cd039acd7e6dd05f", func := "parterre/parterrelaw8.KillNear", spec := "killNear", unfollowed := true, recurses := true, apart := false }
def KillNearSaid : Prop := killNearRow.holds Try.pinned (OpenSpec.ofChange killNearSpec)

/-- ITS FALSE NEIGHBOUR: 'it returns false'. Refute it at one input. -/
def killNearWrong : ChangeSpec := { name := "killNear", fn := fun _ => fun
  | [d] => { results := [.lit (.bool false)], args := [d] }
  | _ => none }
def KillNearWrongFalsely : Prop := killNearRow.holds Try.pinned (OpenSpec.ofChange killNearWrong)

/-- 'parterrelaw8.KillMore': WHATEVER THE INPUT: true; the input reads as it did. -/
def killMoreSpec : ChangeSpec := { name := "killMore", fn := fun _ => fun
  | [d1, d2, d3] => { results := [.lit (.bool true)], args := [d1, d2, d3] }
  | _ => none }
def killMoreRow : OpenClaim := { program := "ytbmmjbklfheghaa", sum := "5ca0e998ddb5fc05cc28d2ce7738998d9b7731a79c4f3b84cd039acd7e6dd05f", func := "parterre/parterrelaw8.KillMore", spec := "killMore", apart := false }
def KillMoreSaid : Prop := killMoreRow.holds Try.pinned (OpenSpec.ofChange killMoreSpec)

/-- ITS FALSE NEIGHBOUR: 'it returns false'. Refute it at one input. -/
def killMoreWrong : ChangeSpec := { name := "killMore", fn := fun _ => fun
  | [d1, d2, d3] => { results := [.lit (.bool false)], args := [d1, d2, d3] }
  | _ => none }
def KillMoreWrongFalsely : Prop := killMoreRow.holds Try.pinned (OpenSpec.ofChange killMoreWrong)

/-- 'parterrelaw8.KillParts': WHATEVER THE INPUT: true; the input reads as it did. -/
def killPartsSpec : ChangeSpec := { name := "killParts", fn := fun _ => fun
  | [d1, d2] => { results := [.lit (.bool true)], args := [d1, d2] }
  | _ => none }
def killPartsRow : OpenClaim := { program := "ytbmmjbklfheghaa", sum := "5ca0e998ddb5fc05cc28d2ce7738998d9b7731a79c4f3b84cd039acd7e6dd05f", func := "parterre/parterrelaw8.KillParts", spec := "killParts", apart := false }
def KillPartsSaid : Prop := killPartsRow.holds Try.pinned (OpenSpec.ofChange killPartsSpec)

/-- ITS FALSE NEIGHBOUR: 'it returns false'. Refute it at one input. -/
def killPartsWrong : ChangeSpec := { name := "killParts", fn := fun _ => fun
  | [d1, d2] => { results := [.lit (.bool false)], args := [d1, d2] }
  | _ => none }
def KillPartsWrongFalsely : Prop := killPartsRow.holds Try.pinned (OpenSpec.ofChange killPartsWrong)

/- THE SECOND FORM. 'bulk': how many values and letters a reading holds, each counted each time it is reached (what is shared counts as often as it is met; a slice's spare places count too). A statement '..UptoSaid' is the law's where the arguments, and the package variables that the reading takes, are together of bulk at most 1048576: NARROWER than '..Said'. Prove '..Said' where nothing that the law and all that it calls make is longer than what came in: it says more and counts as full. Else prove '..UptoSaid'. A law counts once. -/
mutual
def uptoBulk {H : Type} : DataW H → Nat
  | .lit (.string bytes) => bytes.length + 1
  | .lit _ => 1
  | .nil => 1
  | .ptr d => uptoBulk d + 1
  | .slice elems spare => uptoBulkAll elems + uptoBulkAll spare + 1
  | .agg parts => uptoBulkAll parts + 1
  | .iface _ d => uptoBulk d + 1
  | .map entries => uptoBulkEntries entries + 1
  | .held _ => 1
def uptoBulkAll {H : Type} : List (DataW H) → Nat
  | [] => 0
  | d :: r => uptoBulk d + uptoBulkAll r
def uptoBulkEntries {H : Type} : List (Lit × DataW H) → Nat
  | [] => 0
  | x :: r => uptoBulkEntry x + uptoBulkEntries r
def uptoBulkEntry {H : Type} : Lit × DataW H → Nat
  | (.string bytes, d) => bytes.length + uptoBulk d + 1
  | (_, d) => uptoBulk d + 1
 end
def uptoSmall : (H : Type) → List (DataW H) → Bool := fun _ ds => decide (uptoBulkAll ds ≤ 1048576)
def OpenSpec.upto (s : _root_.Go.ChangeSpec) : _root_.Go.OpenSpec := { _root_.Go.OpenSpec.ofChange s with cond := some uptoSmall }

/-- 'parterrelaw8.KillAsks', WHERE WHAT IT READS IS OF BULK AT MOST 1048576: true; the input reads as it did. -/
def killAsksUptoRow : OpenClaim := { program := "ytbmmjbklfheghaa", sum := "5ca0e998ddb5fc05cc28d2ce7738998d9b7731a79c4f3b84cd039acd7e6dd05f", func := "parterre/parterrelaw8.KillAsks", spec := "killAsks", apart := false, narrowed := true }
def KillAsksUptoSaid : Prop := killAsksUptoRow.holds Try.pinned (OpenSpec.upto killAsksSpec)

/-- 'parterrelaw8.KillNear', WHERE WHAT IT READS IS OF BULK AT MOST 1048576: true; the input reads as it did. -/
def killNearUptoRow : OpenClaim := { program := "ytbmmjbklfheghaa", sum := "5ca0e998ddb5fc05cc28d2ce7738998d9b7731a79c4f3b84cd039acd7e6dd05f", func := "parterre/parterrelaw8.KillNear", spec := "killNear", unfollowed := true, recurses := true, apart := false, narrowed := true }
def KillNearUptoSaid : Prop := killNearUptoRow.holds Try.pinned (OpenSpec.upto killNearSpec)

/-- 'parterrelaw8.KillMore', WHERE WHAT IT READS IS OF BULK AT MOST 1048576: true; the input reads as it did. -/
def killMoreUptoRow : OpenClaim := { program := "ytbmmjbklfheghaa", sum := "5ca0e998ddb5fc05cc28d2ce7738998d9b7731a79c4f3b84cd039acd7e6dd05f", func := "parterre/parterrelaw8.KillMore", spec := "killMore", apart := false, narrowed := true }
def KillMoreUptoSaid : Prop := killMoreUptoRow.holds Try.pinned (OpenSpec.upto killMoreSpec)

/-- 'parterrelaw8.KillParts', WHERE WHAT IT READS IS OF BULK AT MOST 1048576: true; the input reads as it did. -/
def killPartsUptoRow : OpenClaim := { program := "ytbmmjbklfheghaa", sum := "5ca0e998ddb5fc05cc28d2ce7738998d9b7731a79c4f3b84cd039acd7e6dd05f", func := "parterre/parterrelaw8.KillParts", spec := "killParts", apart := false, narrowed := true }
def KillPartsUptoSaid : Prop := killPartsUptoRow.holds Try.pinned (OpenSpec.upto killPartsSpec)

end Rows
end Go.Proofs.Ytbmmjbklfheghaa
