/- strconv.Itoa and fault.kind's Error by contracts, with what the world keeps; the text of a chain. -/
import Derived.Test.YtiidgekembgdcaaDoorBuild
import Derived.Test.YtiidgekembgdcaaDoorLoops2
import Derived.Shelf.Unicode.PredsPay
import Derived.Lib.ItoaLen
namespace Go.Proofs.YtiidgekembgdcaaDoor
open Go.RowKit Go.Shelf

/-- The table of the powers of ten. -/
def Pow (w : World) : Prop := Lib.TabIs Tryd.prog w "internal/strconv.uint64pow10" .u64 Lib.pow10Tab
theorem powNamed : Tryd.prog.globalNamed "internal/strconv.uint64pow10" = some 1 := by kernel_rfl
theorem Pow.below {a b : World} (h : Pow a) (hb : Below a.heap.size a b) : Pow b := TabIs_below (g := 1) powNamed h hb

theorem grow_below (w : World) (k : Nat) (os : Array Obj) : Below w.heap.size w (Sort.grow (w.drewN k) os) :=
  ⟨rfl, rfl, rfl, by simp [Sort.grow, World.drewN], fun i hi => by simp [Sort.grow, World.drewN, Array.getElem?_append_left hi]⟩

theorem itoa_b (n : Int) (hn : I64 n) (w : World) (hp : Pow w) :
    Calls Tryd.prog 24 #[.int .i64 n] w fun e w' => e = .returned (.string ⟨(Lib.itoa n).toArray⟩) ∧ Below w.heap.size w w' := by
  refine (Tryd.strconv_Itoa n hn.1 hn.2 w hp).mono ?_
  rintro e w' ⟨rfl, k, os, rfl⟩
  exact ⟨rfl, grow_below w k os⟩

theorem itoa_len (n : Int) (hn : I64 n) : (Lib.itoa n).length ≤ 21 := Lib.itoa_length_le n hn.1 hn.2

def codeText (k : Int) : List UInt8 := [99, 111, 100, 101, 32] ++ Lib.itoa k
theorem codeText_len (k : Int) (hk : I64 k) : (codeText k).length ≤ 26 := by
  have := itoa_len k hk
  simp [codeText]; omega

set_option maxHeartbeats 1000000 in
theorem Error_b (k : Int) (hk : I64 k) (w : World) (hp : Pow w) :
    Calls Tryd.prog 23 #[.int .i64 k] w fun e w' => e = .returned (.string ⟨(codeText k).toArray⟩) ∧ Below w.heap.size w w' := by
  have hadd : ∀ w, (Op.stringOp .add ⟨#[99, 111, 100, 101, 32]⟩ ⟨(Lib.itoa k).toArray⟩).run Tryd.prog w = .ok (.string ⟨(codeText k).toArray⟩) w :=
    fun w => run_string_add_lists w [99, 111, 100, 101, 32] (Lib.itoa k) (by simp) (by have := itoa_len k hk; omega)
  go_enter Tryd.func23, Tryd.ntmps23
  go_wp2_with (go_at_call 24; refine (itoa_b _ hk _ hp).mono ?_; rintro e w' ⟨rfl, hb⟩)
  go_ret
  exact ⟨rfl, hb⟩

/-! ### The text of a chain -/
def atText (l : Int) : List UInt8 := [32, 97, 116, 32] ++ Lib.itoa l
def atText2 (l : Int) : List UInt8 := atText l ++ [58]
def atText3 (l c : Int) : List UInt8 := atText2 l ++ Lib.itoa c
theorem atText_add (l : Int) (hl : I64 l) (w : World) : (Op.stringOp .add ⟨#[32, 97, 116, 32]⟩ ⟨(Lib.itoa l).toArray⟩).run Tryd.prog w = .ok (.string ⟨(atText l).toArray⟩) w :=
  run_string_add_lists w [32, 97, 116, 32] (Lib.itoa l) (by simp) (by have := itoa_len l hl; omega)
theorem atText_add2 (l : Int) (hl : I64 l) (w : World) : (Op.stringOp .add ⟨(atText l).toArray⟩ ⟨#[58]⟩).run Tryd.prog w = .ok (.string ⟨(atText2 l).toArray⟩) w :=
  run_string_add_lists w (atText l) [58] (by have := itoa_len l hl; simp [atText]; omega) (by simp)
theorem atText_add3 (l c : Int) (hl : I64 l) (hc : I64 c) (w : World) : (Op.stringOp .add ⟨(atText2 l).toArray⟩ ⟨(Lib.itoa c).toArray⟩).run Tryd.prog w = .ok (.string ⟨(atText3 l c).toArray⟩) w :=
  run_string_add_lists w (atText2 l) (Lib.itoa c) (by have := itoa_len l hl; simp [atText2, atText]; omega) (by have := itoa_len c hc; omega)
theorem atText3_len (l c : Int) (hl : I64 l) (hc : I64 c) : (atText3 l c).length ≤ 60 := by
  have := itoa_len l hl
  have := itoa_len c hc
  simp [atText3, atText2, atText]; omega
def oneText (x : Int × Int × Int) : List UInt8 :=
  if placedB x.2.1 x.2.2 = true then codeText x.1 ++ atText3 x.2.1 x.2.2 else codeText x.1
def textOf : List (Int × Int × Int) → List UInt8
  | [] => []
  | x :: r => if r.isEmpty then oneText x else oneText x ++ [58, 32] ++ textOf r
theorem oneText_ne (x : Int × Int × Int) : oneText x ≠ [] := by
  unfold oneText codeText; split <;> simp
theorem textOf_snoc : ∀ (p : List (Int × Int × Int)) (x : Int × Int × Int), p ≠ [] → textOf (p ++ [x]) = textOf p ++ [58, 32] ++ oneText x
  | [], _, h => (h rfl).elim
  | [y], x, _ => by simp [textOf]
  | y :: z :: r, x, _ => by
    have ih := textOf_snoc (z :: r) x (by simp)
    show oneText y ++ [58, 32] ++ textOf ((z :: r) ++ [x]) = oneText y ++ [58, 32] ++ textOf (z :: r) ++ [58, 32] ++ oneText x
    rw [ih]; simp
theorem textOf_one (x : Int × Int × Int) : textOf [x] = oneText x := rfl
theorem textOf_nil (p : List (Int × Int × Int)) : textOf p = [] ↔ p = [] := by
  cases p with
  | nil => simp [textOf]
  | cons x r =>
    simp only [textOf]
    split
    · simp [oneText_ne]
    · simp
theorem oneText_len (x : Int × Int × Int) (h : I64 x.1 ∧ I64 x.2.1 ∧ I64 x.2.2) : (oneText x).length ≤ 100 := by
  have := codeText_len x.1 h.1
  have := atText3_len x.2.1 x.2.2 h.2.1 h.2.2
  unfold oneText; split <;> simp <;> omega
theorem textOf_len : ∀ (p : List (Int × Int × Int)), (∀ x ∈ p, I64 x.1 ∧ I64 x.2.1 ∧ I64 x.2.2) → (textOf p).length ≤ 102 * p.length
  | [], _ => by simp [textOf]
  | x :: r, h => by
    have h1 := oneText_len x (h x (by simp))
    have h2 := textOf_len r (fun y hy => h y (by simp [hy]))
    simp only [textOf, List.length_cons]
    split
    · omega
    · simp; omega

theorem strCells_mk (l : List UInt8) : Lib.strCells ⟨l.toArray⟩ = Lib.byteCells l := by
  simp [Lib.strCells, Lib.byteCells]
theorem byteCells_append (a b : List UInt8) : Lib.byteCells a ++ Lib.byteCells b = Lib.byteCells (a ++ b) := by
  simp [Lib.byteCells]
theorem byteCells_len (a : List UInt8) : (Lib.byteCells a).length = a.length := by
  simp [Lib.byteCells]

/-- A builder stands in a world that has only grown. -/
theorem builder_below {T e B b : Nat} {bs : List Value} {w w' : World} (h : Lib.IsBuilderF T e B b bs w) (hb : Below w.heap.size w w') : Lib.IsBuilderF T e B b bs w' := by
  have hg : w.grownBy w' none := ⟨hb.os, hb.tape, hb.output, hb.size, fun i hi _ => hb.block i hi⟩
  rcases h with h | h
  · have hlt := h.lt
    obtain ⟨hB, v, hbk, hown, hne⟩ := h
    exact .inl ⟨hB, v, (hb.block b hlt).trans hbk, hown.kept hg (by cases hv : v.ownBlock <;> simp), hne⟩
  · have hlt := h.lt
    obtain ⟨hB, v, hbk, hown, hne⟩ := h
    exact .inr ⟨hB, v, (hb.block b hlt).trans hbk, hown.kept hg (by cases hv : v.ownBlock <;> simp), hne⟩
end Go.Proofs.YtiidgekembgdcaaDoor
