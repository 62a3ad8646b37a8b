/- Slices of seats, of numbers, of poles in memory; venue.seatsMay by its contract. -/
import Derived.Test.YtbmmjbklfheghaaVCmp2
import Derived.Shelf.SlSortCmp.QuietGrown
namespace Go.Proofs.Ytbmmjbklfheghaa.Ven
set_option linter.unusedVariables false
set_option maxRecDepth 100000
open Go.RowKit Go.Shelf

def seatC (s : Seat) : List Value := [.int .i64 s.row, .int .i64 s.x, .int .i64 s.y, .int .i64 s.kind]
def poleC (p : Pole) : List Value := [.int .i64 p.x, .int .i64 p.y, .int .i64 p.r]
def intC (n : Int) : List Value := [.int .i64 n]
/-- From the place 'off' of block 'b' on there lie these, 'k' cells each. -/
def Cells {α : Type} (k : Nat) (enc : α → List Value) (w : World) (b off : Nat) (l : List α) : Prop :=
  b < w.heap.size ∧ ∀ i (hi : i < l.length) (j : Nat) u, (enc l[i])[j]? = some u → w.cell? ⟨b, off + i * k + j, none⟩ = some u
/-- The slice 'v' has no length (at whatever address) and there is nothing, or it is these. -/
def Sl {α : Type} (k : Nat) (enc : α → List Value) (w : World) (v : Value) (l : List α) : Prop :=
  ((∃ a c, v = .slice a 0 c) ∧ l = []) ∨ ∃ b off cap, v = .slice (some ⟨b, off, none⟩) l.length cap ∧ l.length ≤ cap ∧ cap ≤ maxLen ∧ Cells k enc w b off l
theorem Cells.next {α : Type} {k : Nat} {enc : α → List Value} {w w' : World} {b off : Nat} {l : List α} (h : Cells k enc w b off l) (hb : Below w.heap.size w w') : Cells k enc w' b off l :=
  ⟨Nat.lt_of_lt_of_le h.1 hb.size, fun i hi j u hu => by rw [hb.cell (p := ⟨b, off + i * k + j, none⟩) h.1]; exact h.2 i hi j u hu⟩
theorem Sl.next {α : Type} {k : Nat} {enc : α → List Value} {w w' : World} {v : Value} {l : List α} (h : Sl k enc w v l) (hb : Below w.heap.size w w') : Sl k enc w' v l := by
  rcases h with h | ⟨b, off, cap, h1, h2, h3, h4⟩
  · exact .inl h
  · exact .inr ⟨b, off, cap, h1, h2, h3, h4.next hb⟩
/-- Four cells of a seat, in whatever world that grew of 'w'. -/
structure SeatAt (w : World) (b o : Nat) (r x y k : Int) : Prop where
  lt : b < w.heap.size
  c0 : w.cell? ⟨b, o, none⟩ = some (.int .i64 r)
  c1 : w.cell? ⟨b, o + 1, none⟩ = some (.int .i64 x)
  c2 : w.cell? ⟨b, o + 2, none⟩ = some (.int .i64 y)
  c3 : w.cell? ⟨b, o + 3, none⟩ = some (.int .i64 k)
theorem SeatAt.next {w w' : World} {b o : Nat} {r x y k : Int} (h : SeatAt w b o r x y k) (hb : Below w.heap.size w w') : SeatAt w' b o r x y k :=
  ⟨Nat.lt_of_lt_of_le h.lt hb.size, by rw [hb.cell (p := ⟨b, o, none⟩) h.lt]; exact h.c0, by rw [hb.cell (p := ⟨b, o + 1, none⟩) h.lt]; exact h.c1, by rw [hb.cell (p := ⟨b, o + 2, none⟩) h.lt]; exact h.c2, by rw [hb.cell (p := ⟨b, o + 3, none⟩) h.lt]; exact h.c3⟩
theorem Cells.seat {w : World} {b off : Nat} {l : List Seat} (h : Cells 4 seatC w b off l) (k : Nat) (hk : k < l.length) : SeatAt w b (off + k * 4) l[k].row l[k].x l[k].y l[k].kind :=
  ⟨h.1, h.2 k hk 0 _ rfl, h.2 k hk 1 _ rfl, h.2 k hk 2 _ rfl, h.2 k hk 3 _ rfl⟩
theorem grown_below (w : World) (n : Nat) (os : Array Obj) : Below w.heap.size w (Go.Sort.grow (w.drewN n) os) := Grew.below ⟨n, os, rfl⟩
theorem mixed : Try.prog.follows .mixedOrders = true := by kernel_rfl
theorem SeatAt.fresh (w : World) (r x y k : Int) : SeatAt (w.alloc (.cells #[.int .i64 r, .int .i64 x, .int .i64 y, .int .i64 k] 44)) w.heap.size 0 r x y k := by
  refine ⟨?_, ?_, ?_, ?_, ?_⟩ <;> simp

theorem okSeat_zero (l : List Seat) (h : 0 < l.length) : okSeat l 0 = seatB l[0] := by
  unfold okSeat; simp [h]
theorem okSeat_succ (l : List Seat) (k : Nat) (h0 : 0 < k) (h : k < l.length) : okSeat l k = (seatB l[k] && ltS l[k - 1] l[k]) := by
  have h' : k - 1 < l.length := by omega
  have e : (k == 0) = false := by simp; omega
  unfold okSeat; simp only [e, Bool.false_or, getElem!_pos l k h, getElem!_pos l (k - 1) h']
end Go.Proofs.Ytbmmjbklfheghaa.Ven
