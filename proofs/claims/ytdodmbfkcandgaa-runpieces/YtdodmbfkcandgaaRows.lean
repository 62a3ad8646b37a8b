/-
  No cell of these rows narrows 'for every input' (looked for: loops, veiled, ifaces, maps, wideKeys, modest, calm, conditions, laid).
  DERIVED. THE GIVEN ROWS OF THIS SEAT. 4 by the template 'for every input the law returns true; each argument reads behind the call as it read before'; 0 by the template 'total and deterministic' (their statements: YtdodmbfkcandgaaTotals.lean).
  GIVEN WITH THE SEED: the statements are not yours to turn. If you find one false, say at which input.
  Laid BY PROGRAM, IN A SANDBOX (cutbox-rows.mjs): the forced cells as the released guide's own fill.sh prints them over the translation cb94b5a2f4c36122… (all of the seat's roots in one cut). By AI agents, Wed Nov 11 2026. No macro, syntax, notation, axiom, sorry.
-/
import Derived.Test.YtdodmbfkcandgaaChecked
import GoSem.Claim
import GoSem.ClaimJoined
import GoSem.ClaimMapViews
import Derived.JoinedTies
import Derived.KernelRfl
namespace Go.Proofs.Ytdodmbfkcandgaa
/- THE CELL 'sum', in the pinned program and in every row, IS THE sha256 OF THE DUMP (.gsa) THAT YtdodmbfkcandgaaProg.lean LOADS. Nothing in Lean hashes anything: it is a label: what it is worth is what the hold of that sum in a sandbox is worth. -/
noncomputable def Try.pinned : Pinned := { name := "ytdodmbfkcandgaa", sum := "cb94b5a2f4c361220d44be36db2cab4633be1423bfd3bfffec2a9bc528c96141", checked := Try.checked }
namespace Rows
def none {H : Type} : Left H := { results := [], args := [] }

/-- 'parterrelaw7.RunAsks': WHATEVER THE INPUT: true; the input reads as it did. -/
def runAsksSpec : ChangeSpec := { name := "runAsks", fn := fun _ => fun
  | [d1, d2, d3, d4] => { results := [.lit (.bool true)], args := [d1, d2, d3, d4] }
  | _ => none }
def runAsksRow : OpenClaim := { program := "ytdodmbfkcandgaa", sum := "cb94b5a2f4c361220d44be36db2cab4633be1423bfd3bfffec2a9bc528c96141", func := "parterre/parterrelaw7.RunAsks", spec := "runAsks", apart := false }
def RunAsksSaid : Prop := runAsksRow.holds Try.pinned (OpenSpec.ofChange runAsksSpec)

/-- ITS FALSE NEIGHBOUR: 'it returns false'. Refute it at one input. -/
def runAsksWrong : ChangeSpec := { name := "runAsks", fn := fun _ => fun
  | [d1, d2, d3, d4] => { results := [.lit (.bool false)], args := [d1, d2, d3, d4] }
  | _ => none }
def RunAsksWrongFalsely : Prop := runAsksRow.holds Try.pinned (OpenSpec.ofChange runAsksWrong)

/-- 'parterrelaw7.RunPieces': WHATEVER THE INPUT: true; the input reads as it did. -/
def runPiecesSpec : ChangeSpec := { name := "runPieces", fn := fun _ => fun
  | [d1, d2] => { results := [.lit (.bool true)], args := [d1, d2] }
  | _ => none }
def runPiecesRow : OpenClaim := { program := "ytdodmbfkcandgaa", sum := "cb94b5a2f4c361220d44be36db2cab4633be1423bfd3bfffec2a9bc528c96141", func := "parterre/parterrelaw7.RunPieces", spec := "runPieces", apart := false }
def RunPiecesSaid : Prop := runPiecesRow.holds Try.pinned (OpenSpec.ofChange runPiecesSpec)

/-- ITS FALSE NEIGHBOUR: 'it returns false'. Refute it at one input. -/
def runPiecesWrong : ChangeSpec := { name := "runPieces", fn := fun _ => fun
  | [d1, d2] => { results := [.lit (.bool false)], args := [d1, d2] }
  | _ => none }
def RunPiecesWrongFalsely : Prop := runPiecesRow.holds Try.pinned (OpenSpec.ofChange runPiecesWrong)

/-- 'parterrelaw7.RunOf': WHATEVER THE INPUT: true; the input reads as it did. -/
def runOfSpec : ChangeSpec := { name := "runOf", fn := fun _ => fun
  | [d1, d2, d3, d4] => { results := [.lit (.bool true)], args := [d1, d2, d3, d4] }
  | _ => none }
def runOfRow : OpenClaim := { program := "ytdodmbfkcandgaa", sum := "cb94b5a2f4c361220d44be36db2cab4633be1423bfd3bfffec2a9bc528c96141", func := "parterre/parterrelaw7.RunOf", spec := "runOf", apart := false }
def RunOfSaid : Prop := runOfRow.holds Try.pinned (OpenSpec.ofChange runOfSpec)

/-- ITS FALSE NEIGHBOUR: 'it returns false'. Refute it at one input. -/
def runOfWrong : ChangeSpec := { name := "runOf", fn := fun _ => fun
  | [d1, d2, d3, d4] => { results := [.lit (.bool false)], args := [d1, d2, d3, d4] }
  | _ => none }
def RunOfWrongFalsely : Prop := runOfRow.holds Try.pinned (OpenSpec.ofChange runOfWrong)

/-- 'parterrelaw7.RunGap': WHATEVER THE INPUT: true; the input reads as it did. -/
def runGapSpec : ChangeSpec := { name := "runGap", fn := fun _ => fun
  | [d1, d2, d3] => { results := [.lit (.bool true)], args := [d1, d2, d3] }
  | _ => none }
def runGapRow : OpenClaim := { program := "ytdodmbfkcandgaa", sum := "cb94b5a2f4c361220d44be36db2cab4633be1423bfd3bfffec2a9bc528c96141", func := "parterre/parterrelaw7.RunGap", spec := "runGap", apart := false }
def RunGapSaid : Prop := runGapRow.holds Try.pinned (OpenSpec.ofChange runGapSpec)

/-- ITS FALSE NEIGHBOUR: 'it returns false'. Refute it at one input. -/
def runGapWrong : ChangeSpec := { name := "runGap", fn := fun _ => fun
  | [d1, d2, d3] => { results := [.lit (.bool false)], args := [d1, d2, d3] }
  | _ => none }
def RunGapWrongFalsely : Prop := runGapRow.holds Try.pinned (OpenSpec.ofChange runGapWrong)

/- THE SECOND FORM. 'bulk': how many values and letters a reading holds, each counted each time it is reached (what is shared counts as often as it is met; a slice's spare places count too). A statement '..UptoSaid' is the law's where the arguments, and the package variables that the reading takes, are together of bulk at most 1048576: NARROWER than '..Said'. Prove '..Said' where nothing that the law and all that it calls make is longer than what came in: it says more and counts as full. Else prove '..UptoSaid'. A law counts once. -/
mutual
def uptoBulk {H : Type} : DataW H → Nat
  | .lit (.string bytes) => bytes.length + 1
  | .lit _ => 1
  | .nil => 1
  | .ptr d => uptoBulk d + 1
  | .slice elems spare => uptoBulkAll elems + uptoBulkAll spare + 1
  | .agg parts => uptoBulkAll parts + 1
  | .iface _ d => uptoBulk d + 1
  | .map entries => uptoBulkEntries entries + 1
  | .held _ => 1
def uptoBulkAll {H : Type} : List (DataW H) → Nat
  | [] => 0
  | d :: r => uptoBulk d + uptoBulkAll r
def uptoBulkEntries {H : Type} : List (Lit × DataW H) → Nat
  | [] => 0
  | x :: r => uptoBulkEntry x + uptoBulkEntries r
def uptoBulkEntry {H : Type} : Lit × DataW H → Nat
  | (.string bytes, d) => bytes.length + uptoBulk d + 1
  | (_, d) => uptoBulk d + 1
 end
def uptoSmall : (H : Type) → List (DataW H) → Bool := fun _ ds => decide (uptoBulkAll ds ≤ 1048576)
def OpenSpec.upto (s : _root_.Go.ChangeSpec) : _root_.Go.OpenSpec := { _root_.Go.OpenSpec.ofChange s with cond := some uptoSmall }

/-- 'parterrelaw7.RunAsks', WHERE WHAT IT READS IS OF BULK AT MOST 1048576: true; the input reads as it did. -/
def runAsksUptoRow : OpenClaim := { program := "ytdodmbfkcandgaa", sum := "cb94b5a2f4c361220d44be36db2cab4633be1423bfd3bfffec2a9bc528c96141", func := "parterre/parterrelaw7.RunAsks", spec := "runAsks", apart := false, narrowed := true }
def RunAsksUptoSaid : Prop := runAsksUptoRow.holds Try.pinned (OpenSpec.upto runAsksSpec)

/-- 'parterrelaw7.RunPieces', WHERE WHAT IT READS IS OF BULK AT MOST 1048576: true; the input reads as it did. -/
def runPiecesUptoRow : OpenClaim := { program := "ytdodmbfkcandgaa", sum := "cb94b5a2f4c361220d44be36db2cab4633be1423bfd3bfffec2a9bc528c96141", func := "parterre/parterrelaw7.RunPieces", spec := "runPieces", apart := false, narrowed := true }
def RunPiecesUptoSaid : Prop := runPiecesUptoRow.holds Try.pinned (OpenSpec.upto runPiecesSpec)

/-- 'parterrelaw7.RunOf', WHERE WHAT IT READS IS OF BULK AT MOST 1048576: true; the input reads as it did. -/
def runOfUptoRow : OpenClaim := { program := "ytdodmbfkcandgaa", sum := "cb94b5a2f4c361220d44be36db2cab4633be1423bfd3bfffec2a9bc528c96141", func := "parterre/parterrelaw7.RunOf", spec := "runOf", apart := false, narrowed := true }
def RunOfUptoSaid : Prop := runOfUptoRow.holds Try.pinned (OpenSpec.upto runOfSpec)

/-- 'parterrelaw7.RunGap', WHERE WHAT IT READS IS OF BULK AT MOST 1048576: true; the input reads as it did. -/
def runGapUptoRow : OpenClaim := { program := "ytdodmbfkcandgaa", sum := "cb94b5a2f4c361220d44be36db2cab4633be1423bfd3bfffec2a9bc528c96141", func := "parterre/parterrelaw7.RunGap", spec := "runGap", apart := false, narrowed := true }
def RunGapUptoSaid : Prop := runGapUptoRow.holds Try.pinned (OpenSpec.upto runGapSpec)

end Rows
end Go.Proofs.Ytdodmbfkcandgaa
