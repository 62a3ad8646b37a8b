/- Numbers and marks in memory: what came in, what a call made (names no function). -/
import Derived.Test.YtbmmjbklfheghaaVQuiet
import Derived.Test.YtbmmjbklfheghaaVZero
namespace Go.Proofs.Ytbmmjbklfheghaa.Com
set_option linter.unusedVariables false
set_option maxRecDepth 100000
open Go.RowKit Go.Shelf
open Go.Proofs.Ytbmmjbklfheghaa.Ven (Box Sl intC intC_len row_next row_same row_slice row_sl RowF Cells)

theorem hid' {p : Prop} (h : p) : Hid p := h
def boolC (b : Bool) : List Value := [.bool b]
theorem boolC_len (b : Bool) : (boolC b).length = 1 := rfl
/-- The slice at 'a' is these marks. -/
def MarksAt (w : World) (a : Option Addr) (n c : Nat) (u : List Bool) : Prop := Sl 1 boolC w (.slice a n c) u
theorem MarksAt.next {w w' : World} {a : Option Addr} {n c : Nat} {u : List Bool} (h : MarksAt w a n c u) (hb : Below w.heap.size w w') : MarksAt w' a n c u := Ven.Sl.next h hb
theorem MarksAt.len {w : World} {a : Option Addr} {n c : Nat} {u : List Bool} (h : MarksAt w a n c u) : n = u.length := Ven.Sl.len h
theorem MarksAt.at {w : World} {a : Option Addr} {n c : Nat} {u : List Bool} (h : MarksAt w a n c u) (k : Nat) (hk : k < u.length) : ∃ b off, a = some ⟨b, off, none⟩ ∧ b < w.heap.size ∧ w.cell? ⟨b, off + k, none⟩ = some (.bool u[k]) := by
  rcases h with ⟨_, rfl⟩ | ⟨b, off, cap, he, _, _, hC⟩
  · cases hk
  · cases he
    refine ⟨b, off, rfl, hC.1, ?_⟩
    have := hC.2 k hk 0 _ rfl
    simpa using this
/-- A row of marks, cell by cell. -/
theorem marks_of_row {W : World} {G n : Nat} {f : Nat → Value} {l : List Bool} (h : RowF W G n f) (hl : l.length = n) (hm : n ≤ maxLen) (hf : ∀ j (hj : j < l.length), f j = .bool l[j]) : MarksAt W (some ⟨G, 0, none⟩) n n l := by
  subst hl
  refine .inr ⟨G, 0, l.length, rfl, Nat.le_refl _, hm, h.1, fun i hi j v hv => ?_⟩
  have hj : j = 0 := by
    have := (List.getElem?_eq_some_iff.1 hv).1
    simp [boolC] at this; exact this
  subst hj
  have := (h.2 i hi).1
  rw [hf i hi] at this
  simp only [boolC, List.getElem?_cons_zero, Option.some.injEq] at hv
  subst hv
  simpa using this
theorem MarksAt.nil (W : World) : MarksAt W none 0 0 [] := .inl ⟨⟨_, _, rfl⟩, rfl⟩
def Ints (base : Nat) (W : World) (v : Value) (l : List Int) : Prop := W.ownsRow base 3 1 v l.length (l.flatMap intC)
theorem Ints.nil (base : Nat) (W : World) : Ints base W (.slice none 0 0) [] := World.ownsRow_nil _ _ _ _
theorem Ints.next {base : Nat} {W W' : World} {v : Value} {l : List Int} (h : Ints base W v l) (hb : Below W.heap.size W W') : Ints base W' v l := row_next h hb
theorem Ints.sl {base : Nat} {W : World} {v : Value} {l : List Int} (h : Ints base W v l) : Sl 1 intC W v l := row_sl intC_len h
theorem row_base {W : World} {base base' : Nat} {e : TypeId} {k : Nat} {v : Value} {n : Nat} {xs : List Value} (h : W.ownsRow base e k v n xs) (hb : base' ≤ base) : W.ownsRow base' e k v n xs := by
  refine ⟨h.1, ?_⟩
  rcases h.2 with h | ⟨g, cap, cur, h1, h2, h3⟩
  · exact .inl h
  · exact .inr ⟨g, cap, cur, h1, Nat.le_trans hb h2, h3⟩
/-- A row of numbers, cell by cell. -/
theorem sl_of_row {W : World} {G n : Nat} {f : Nat → Value} {l : List Int} (h : RowF W G n f) (hl : l.length = n) (hm : n ≤ maxLen) (hf : ∀ j (hj : j < l.length), f j = .int .i64 l[j]) : Sl 1 intC W (.slice (some ⟨G, 0, none⟩) n n) l := by
  subst hl
  refine .inr ⟨G, 0, l.length, rfl, Nat.le_refl _, hm, h.1, fun i hi j v hv => ?_⟩
  have hj : j = 0 := by
    have := (List.getElem?_eq_some_iff.1 hv).1
    simp [intC] at this; exact this
  subst hj
  have := (h.2 i hi).1
  rw [hf i hi] at this
  simp only [intC, List.getElem?_cons_zero, Option.some.injEq] at hv
  subst hv
  simpa using this
/-- A number of a slice. -/
theorem Sl.num {w : World} {v : Value} {l : List Int} (h : Sl 1 intC w v l) (h0 : 0 < l.length) : ∃ b off cap, v = .slice (some ⟨b, off, none⟩) l.length cap ∧ b < w.heap.size ∧ ∀ j (hj : j < l.length), w.cell? ⟨b, off + j, none⟩ = some (.int .i64 l[j]) := by
  rcases h with ⟨_, hn⟩ | ⟨b, off, cap, hv, h1, h2, h3⟩
  · rw [hn] at h0; cases h0
  · exact ⟨b, off, cap, hv, h3.1, fun j hj => by simpa using h3.2 j hj 0 _ rfl⟩
theorem Sl.form {w : World} {v : Value} {l : List Int} (h : Sl 1 intC w v l) : ∃ a c, v = .slice a l.length c ∧ l.length ≤ maxLen ∧ ∀ k (hk : k < l.length), ∃ b off, a = some ⟨b, off, none⟩ ∧ l.length ≤ c ∧ b < w.heap.size ∧ ∀ j (hj : j < l.length), w.cell? ⟨b, off + j, none⟩ = some (.int .i64 l[j]) := by
  rcases h with ⟨⟨a, c, rfl⟩, rfl⟩ | ⟨b, off, cap, rfl, h1, h2, h3⟩
  · exact ⟨a, c, rfl, by unfold maxLen; simp, fun k hk => by cases hk⟩
  · exact ⟨_, cap, rfl, Nat.le_trans h1 h2, fun k hk => ⟨b, off, rfl, h1, h3.1, fun j hj => by simpa using h3.2 j hj 0 _ rfl⟩⟩
theorem sl_big {α : Type} {k : Nat} {enc : α → List Value} {w : World} {v : Value} {l : List α} (h : Sl k enc w v l) : l.length ≤ maxLen := by
  rcases h with ⟨_, rfl⟩ | ⟨_, _, cap, _, h1, h2, _⟩
  · exact Nat.zero_le _
  · exact Nat.le_trans h1 h2
/-- Marks that a call made, at whatever address. -/
def MarksV (W : World) (v : Value) (u : List Bool) : Prop := ∃ a n c, v = .slice a n c ∧ MarksAt W a n c u
theorem MarksV.next {W W' : World} {v : Value} {u : List Bool} (h : MarksV W v u) (hb : Below W.heap.size W W') : MarksV W' v u := by
  obtain ⟨a, n, c, h1, h2⟩ := h
  exact ⟨a, n, c, h1, h2.next hb⟩
end Go.Proofs.Ytbmmjbklfheghaa.Com
