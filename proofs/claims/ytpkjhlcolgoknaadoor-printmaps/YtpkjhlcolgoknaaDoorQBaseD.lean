/- What the rows' conditions give the walks where no error is listed: the table of the powers of ten; a seat that came in, with its bounds. -/
import Derived.Test.YtpkjhlcolgoknaaDoorRows
import Derived.Test.YtpkjhlcolgoknaaDoorQSign
import Derived.Test.YtpkjhlcolgoknaaDoorVBase3
import Derived.ChangeSame
import Derived.ChangeVars
import Derived.JoinedOf
import Derived.RowKit
import Derived.RowKitTokens
import Derived.LaidLaws
import Derived.LaidHandle
import Derived.LaidOnce
import Derived.LaidMore
import Derived.Stop.Joined
import Derived.ProofKit
import Derived.OpenShut
namespace Go.Proofs.YtpkjhlcolgoknaaDoor.Prn
set_option linter.unusedVariables false
set_option maxRecDepth 100000
open Go.ChangeShapes Go.WideShapes Go.RowKit
open Go.Proofs.YtpkjhlcolgoknaaDoor.Ven (one_of cells3 cells34 fields34)

/-- The listed variables of every row of this seat. -/
def laidAll : List (String × DataW Unit) := [("math/bits.deBruijn32tab", Rows.laid_math_bits_deBruijn32tab), ("math/bits.deBruijn64tab", Rows.laid_math_bits_deBruijn64tab), ("internal/strconv.uint64pow10", Rows.laid_internal_strconv_uint64pow10)]
theorem ownKnob_none : ownKnob Tryd.prog.godebug = none := by kernel_rfl
theorem powTab : Rows.laid_internal_strconv_uint64pow10 (H := Unit) = Lib.tabData .u64 Lib.pow10Tab := by kernel_rfl
theorem pow_of_laid {W : World} (h : laidMetH Tryd.prog laidAll W) : Pow W := by
  have h' : laidMet Tryd.prog laidAll W := h
  obtain ⟨ps, ⟨g0, t0, cs0, f0, p0, q0, _, _, _, _, ⟨g1, t1, cs1, f1, p1, q1, _, _, _, _, ⟨g2, t2, cs2, f2, p2, q2, hg2, ht2, hv2, hd2, _, _⟩, _⟩, _⟩, _, _⟩ := h'
  have hty : (Tryd.prog.globals[0]?).map (·.type) = some 87 := by kernel_rfl
  obtain rfl := Option.some.inj (powNamed.symm.trans hg2)
  obtain rfl := Option.some.inj (hty.symm.trans ht2)
  unfold Pow Lib.TabIs
  rw [powTab] at hd2
  rw [hv2, ← Lib.cells_of_tab Tryd.underlying87 Tryd.underlying59 (by kernel_rfl) (by kernel_rfl) hd2]
theorem door_met (os : Os) (args : Array Value) : laidMetH Tryd.prog laidAll ((World.doorLaid Tryd.prog 400 os).forCall (fun _ _ => 0) ⟨#[], args, []⟩).memory :=
  laidMet_of_run' 8 (by kernel_rfl) (by kernel_rfl)
/-- A seat that came in: its numbers have 64 bits. -/
theorem seat_of64 {H : Type} {enc : TypeId × Value → H} {W : World} {base : Nat} {sp : Nat → Bool} {held : Bool} {cs : Array Value} {d : DataW H} {ps : List MemPlace}
    (h : DataW.Trod enc Tryd.prog W base sp held 28 (.agg cs) d ps) : ∃ r x y k, cs = #[.int .i64 r, .int .i64 x, .int .i64 y, .int .i64 k] ∧ I64 r ∧ I64 x ∧ I64 y := by
  obtain ⟨fuel, hf⟩ := h
  obtain ⟨f0, f1, f2, f3, hu, ⟨t0, o0⟩, ⟨t1, o1⟩, ⟨t2, o2⟩, ⟨t3, o3⟩⟩ := fields34
  obtain ⟨xs, n, rfl, _, hl, hx, hf⟩ := DataW.trod_struct hu hf
  rw [cells34] at hl
  have hx' : xs.length = 4 := hx
  have g : ∀ (i : Nat) (f : Field), #[f0, f1, f2, f3][i]? = some f → f.type = 3 → i < 4 → ∃ z, ((Value.agg cs).cells.toList.drop f.offset).take 1 = [.int .i64 z] ∧ I64 z := by
    intro i f hi ht hi4
    have h1 := hf i f hi
    rw [ht, cells3, List.getElem?_eq_getElem (by omega : i < xs.length)] at h1
    obtain ⟨z, hz, hw⟩ := DataW.trod_int Tryd.underlying3 h1
    exact ⟨z, hz, by first | exact bounds_i64 hw | exact bounds_i64 hw.1 | exact bounds_i64 hw.2⟩
  obtain ⟨z0, h0, b0⟩ := g 0 f0 rfl t0 (by omega)
  obtain ⟨z1, h1, b1⟩ := g 1 f1 rfl t1 (by omega)
  obtain ⟨z2, h2, b2⟩ := g 2 f2 rfl t2 (by omega)
  obtain ⟨z3, h3, _⟩ := g 3 f3 rfl t3 (by omega)
  rw [o0] at h0; rw [o1] at h1; rw [o2] at h2; rw [o3] at h3
  refine ⟨z0, z1, z2, z3, ?_, b0, b1, b2⟩
  have : cs.toList = [.int .i64 z0, .int .i64 z1, .int .i64 z2, .int .i64 z3] := by
    refine List.ext_getElem? fun i => ?_
    have hl' : cs.toList.length = 4 := hl
    match i with
    | 0 => exact one_of h0
    | 1 => exact one_of h1
    | 2 => exact one_of h2
    | 3 => exact one_of h3
    | i + 4 => rw [List.getElem?_eq_none (by omega), List.getElem?_eq_none (by simp)]
  exact Array.toList_inj.1 this
end Go.Proofs.YtpkjhlcolgoknaaDoor.Prn
