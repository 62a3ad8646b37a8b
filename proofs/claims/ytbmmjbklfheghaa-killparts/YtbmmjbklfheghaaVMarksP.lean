/- Rows of one cell that a call has made. -/
import Derived.Test.YtbmmjbklfheghaaVKills
import Derived.Laws.MakeOwn
import Derived.Laws.OwnMore
namespace Go.Proofs.Ytbmmjbklfheghaa.Ven
set_option linter.unusedVariables false
set_option maxRecDepth 100000
open Go.RowKit Go.Shelf

/-- The block 'g' holds 'f' of each number below 'n'. -/
def RowF (w : World) (g n : Nat) (f : Nat → Value) : Prop := g < w.heap.size ∧ ∀ j, j < n → w.cell? ⟨g, j, none⟩ = some (f j) ∧ w.frozen? ⟨g, j, none⟩ = false
theorem RowF.next {w w' : World} {g n : Nat} {f : Nat → Value} (h : RowF w g n f) (hb : Below w.heap.size w w') : RowF w' g n f :=
  ⟨Nat.lt_of_lt_of_le h.1 hb.size, fun j hj => ⟨by rw [hb.cell (p := ⟨g, j, none⟩) h.1]; exact (h.2 j hj).1, by rw [hb.frozen (p := ⟨g, j, none⟩) h.1]; exact (h.2 j hj).2⟩⟩
theorem RowF.put {w : World} {g n : Nat} {f f' : Nat → Value} (h : RowF w g n f) (k : Nat) (v : Value) (hk : k < n) (hf : ∀ j, j < n → f' j = if j = k then v else f j) : RowF (w.setCell ⟨g, k, none⟩ v) g n f' := by
  refine ⟨by simpa using h.1, fun j hj => ⟨?_, by simpa using (h.2 j hj).2⟩⟩
  rw [hf j hj]
  by_cases e : j = k
  · subst e; rw [if_pos rfl]; exact World.cell?_setCell_same _ _ _ (h.2 j hj).1
  · rw [if_neg e, World.cell?_setCell_other _ _ _ _ (by intro h'; cases h'; exact e rfl)]; exact (h.2 j hj).1
theorem RowF.made (w : World) (z : Value) (n : Nat) (e : TypeId) : RowF (w.alloc (.cells (madeCells #[z] n) e)) w.heap.size n (fun _ => z) := by
  refine ⟨by simp, fun j hj => ⟨?_, by simp⟩⟩
  rw [World.cell?_alloc_at _ _ _ _ rfl]
  show (madeCells #[z] n)[j]? = some z
  rw [← Array.getElem?_toList, toList_madeCells_one]
  simp [hj]
theorem make23 (n : Nat) (hn : n ≤ 4096) (w : World) : (Instr.makeSlice 23 (.int .i64 n) (.int .i64 n)).run Try.prog w = .ok (.slice (some ⟨w.heap.size, 0, none⟩) n n) (w.alloc (.cells (madeCells #[.int .i64 0] n) 3)) := by
  have h : (Try.prog.info? 3).map (fun i => (i.zero, i.size, i.bytes)) = some (some (.int .i64 0), 1, 8) := by kernel_rfl
  cases hi : Try.prog.info? 3 with
  | none => rw [hi] at h; cases h
  | some i =>
    rw [hi] at h
    have h' := Option.some.inj h
    have hz := congrArg (·.1) h'
    have hs := congrArg (·.2.1) h'
    have hb := congrArg (·.2.2) h'
    simp only at hz hs hb
    have := run_make (P := Try.prog) w 23 3 i (.int .i64 0) Try.underlying23 hi hz .i64 .i64 n n (by omega) (by omega) (by rw [hb]; omega) (by omega)
    rw [this, hs]
    simp
    rfl

def markB (l : List Int) (j : Nat) : Bool := decide ((j : Int) ∈ l)
theorem below_setCell_new {w wr : World} {B : Nat} (h : Below B w wr) (g k : Nat) (hg : B ≤ g) (v : Value) : Below B w (wr.setCell ⟨g, k, none⟩ v) := Below.setCell h hg v
end Go.Proofs.Ytbmmjbklfheghaa.Ven
