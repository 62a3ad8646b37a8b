/- The chain that FaultWraps makes of a list of codes: what is to know of it. -/
import Derived.Test.YtiidgekembgdcaaDoorDepthR
namespace Go.Proofs.YtiidgekembgdcaaDoor
open Go.RowKit Go.Shelf

/-- The chain behind so many codes: those above 0, the last one outermost. -/
def wch (base : Int × Int × Int) (p : List Int) : List (Int × Int × Int) := ((p.filter fun x => decide (0 < x)).reverse.map fun x => (x, 0, 0)) ++ [base]
theorem wch_nil (base : Int × Int × Int) : wch base [] = [base] := rfl
theorem wch_pos (base : Int × Int × Int) (p : List Int) (x : Int) (h : 0 < x) : wch base (p ++ [x]) = (x, 0, 0) :: wch base p := by simp [wch, h]
theorem wch_neg (base : Int × Int × Int) (p : List Int) (x : Int) (h : ¬ 0 < x) : wch base (p ++ [x]) = wch base p := by simp [wch, List.filter_append, h]
theorem wch_cons (base : Int × Int × Int) (p : List Int) : ∃ y r, wch base p = y :: r := by
  unfold wch
  cases h : ((p.filter fun x => decide (0 < x)).reverse.map fun x => ((x, 0, 0) : Int × Int × Int)) with
  | nil => exact ⟨base, [], by simp⟩
  | cons y r => exact ⟨y, r ++ [base], by simp⟩
theorem wch_len (base : Int × Int × Int) (p : List Int) : (wch base p).length ≤ p.length + 1 := by
  have := List.length_filter_le (fun x : Int => decide (0 < x)) p
  simp [wch]; omega
theorem wch_has (base : Int × Int × Int) (p : List Int) (x : Int) (h : x ∈ p) (hx : 0 < x) : hasCode (wch base p) x = true := by
  unfold hasCode wch
  rw [List.any_eq_true]
  exact ⟨(x, 0, 0), by simp [h, hx], by simp⟩
theorem wch_base (base : Int × Int × Int) (p : List Int) : hasCode (wch base p) base.1 = true := by
  unfold hasCode wch
  rw [List.any_eq_true]
  exact ⟨base, by simp, by simp⟩
theorem wch_spot (base : Int × Int × Int) (p : List Int) : spotOf (wch base p) = spotOf [base] := by
  unfold wch
  refine spotOf_append_none _ _ ?_
  intro x hx
  obtain ⟨y, _, rfl⟩ := List.mem_map.1 hx
  rfl
theorem spot_one (k L C : Int) : spotOf [(k, L, C)] = (L, C) := by
  show (if placedB L C = true then (L, C) else (0, 0)) = (L, C)
  split
  · rfl
  · rename_i h
    simp [placedB] at h
    obtain ⟨rfl, rfl⟩ := h
    rfl
/-- The outermost code. -/
def topOf (ks : List (Int × Int × Int)) : Int := match ks with | [] => 0 | y :: _ => y.1
theorem textOf_more (x : Int) (base : Int × Int × Int) (p : List Int) : textOf ((x, 0, 0) :: wch base p) = codeText x ++ [58, 32] ++ textOf (wch base p) := by
  obtain ⟨y, r, e⟩ := wch_cons base p
  rw [e]
  rfl
def colonText (x : Int) : List UInt8 := codeText x ++ [58, 32]
theorem colon_add (x : Int) (hx : I64 x) (w : World) : (Op.stringOp .add ⟨(codeText x).toArray⟩ ⟨#[58, 32]⟩).run Tryd.prog w = .ok (.string ⟨(colonText x).toArray⟩) w :=
  run_string_add_lists w (codeText x) [58, 32] (by have := codeText_len x hx; omega) (by simp)
theorem colon_add2 (x : Int) (hx : I64 x) (T : List UInt8) (hT : T.length ≤ 200000) (w : World) : (Op.stringOp .add ⟨(colonText x).toArray⟩ ⟨T.toArray⟩).run Tryd.prog w = .ok (.string ⟨(colonText x ++ T).toArray⟩) w :=
  run_string_add_lists w (colonText x) T (by have := codeText_len x hx; simp [colonText]; omega) (by omega)
theorem code_add' (k : Int) (hk : I64 k) (w : World) : (Op.stringOp .add ⟨#[99, 111, 100, 101, 32]⟩ ⟨(Lib.itoa k).toArray⟩).run Tryd.prog w = .ok (.string ⟨(codeText k).toArray⟩) w :=
  run_string_add_lists w [99, 111, 100, 101, 32] (Lib.itoa k) (by simp) (by have := itoa_len k hk; omega)

/-- What a slice of ints holds, in a world. -/
def Holds (w : World) (ao : Option Addr) (zs : List Int) : Prop := ∀ i, i < zs.length → ∃ b off, ao = some ⟨b, off, none⟩ ∧ b < w.heap.size ∧ w.cell? ⟨b, off + i, none⟩ = some (.int .i64 (zs.getD i 0))
theorem Holds.next {w w' : World} {ao : Option Addr} {zs : List Int} (h : Holds w ao zs) (hb : Below w.heap.size w w') : Holds w' ao zs := fun i hi => by
  obtain ⟨b, off, h1, h2, h3⟩ := h i hi
  exact ⟨b, off, h1, Nat.lt_of_lt_of_le h2 hb.size, (hb.cell (p := ⟨b, off + i, none⟩) h2).trans h3⟩

/-- What stands in a round: the tables, the chain, the slice. -/
structure Sw (w0 w : World) (e : Value) (ks : List (Int × Int × Int)) (ao : Option Addr) (zs : List Int) : Prop where
  et : Et w
  pow : Pow w
  a : Chain w e ks
  sl : Holds w ao zs
  past : Past w0 w
theorem Sw.next {w0 w w' : World} {e : Value} {ks : List (Int × Int × Int)} {ao : Option Addr} {zs : List Int} (s : Sw w0 w e ks ao zs) (h : Below w.heap.size w w') : Sw w0 w' e ks ao zs :=
  ⟨s.et.next h, s.pow.below h, s.a.below h, s.sl.next h, s.past.next h⟩
theorem Sw.drew {w0 w : World} {e : Value} {ks : List (Int × Int × Int)} {ao : Option Addr} {zs : List Int} (s : Sw w0 w e ks ao zs) : Sw w0 w.drew e ks ao zs := s.next (Below.refl _ _).drew
theorem take_snoc (zs : List Int) (j : Nat) (h : j < zs.length) : zs.take (j + 1) = zs.take j ++ [zs.getD j 0] := by
  rw [List.take_succ_eq_append_getElem h]
  simp [List.getElem?_eq_getElem h]
end Go.Proofs.YtiidgekembgdcaaDoor
