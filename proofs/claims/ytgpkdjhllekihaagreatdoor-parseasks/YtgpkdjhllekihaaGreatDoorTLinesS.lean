/- Rows of tokens as slices; lines of tokens. -/
import Derived.Test.YtgpkdjhllekihaaGreatDoorTLinesP
import Derived.Deep.QuietTactic
import Derived.BigQuiet
namespace Go.Proofs.YtgpkdjhllekihaaGreatDoor.Tok
open Go.RowKit Go.Shelf
set_option linter.unusedVariables false
set_option maxRecDepth 100000

/-- A slice whose tokens lie in one block, or that has none. -/
def Sl (w : World) (av : Option Addr) (cp : Nat) (ts : List Tok) : Prop := ts.length = 0 ∨ ∃ g, av = some ⟨g, 0, none⟩ ∧ ts.length ≤ cp ∧ cp ≤ 9223372036854775807 ∧ Toks w g 0 ts
theorem Sl.next {w w' : World} {av : Option Addr} {cp : Nat} {ts : List Tok} (h : Sl w av cp ts) (hb : Below w.heap.size w w') : Sl w' av cp ts := by
 rcases h with h | ⟨g, h1, h2, h3, h4⟩
 ·exact Or.inl h
 ·exact Or.inr ⟨g, h1, h2, h3, h4.next hb⟩
theorem Row.form {w : World} {base : Nat} {v : Value} {ts : List Tok} (h : Row w base v ts) : ∃ av cp, v = .slice av ts.length cp ∧ Sl w av cp ts := by
 rcases h.toks with ⟨rfl, rfl⟩ | ⟨g, cp, rfl, hg, hgl, hgc, hgm, tk⟩
 ·exact ⟨none, 0, rfl, Or.inl rfl⟩
 ·exact ⟨some ⟨g, 0, none⟩, cp, rfl, Or.inr ⟨g, rfl, hgc, by unfold maxLen at hgm; omega, tk⟩⟩
theorem endsN_le (ts : List Tok) (a : Nat) : endsN (ts.take a) ≤ a := by
 unfold endsN
 have h1 := List.countP_le_length (p := endB) (l := ts.take a)
 rw [List.length_take] at h1; omega
theorem lineTs_len (ts : List Tok) (k : Nat) (hk : k ≤ ts.length) : (lineTs ts k).length = lineLen (ts.drop k) := by
 unfold lineTs
 have := lineLen_le (ts.drop k)
 rw [List.length_take]; omega
theorem lineTs_at (ts : List Tok) (k i : Nat) (hi : i < lineLen (ts.drop k)) : (lineTs ts k)[i]? = ts[k + i]? := by
 unfold lineTs
 rw [List.getElem?_take, if_pos hi, List.getElem?_drop]
/-- Where a line ends, and what comes behind it. -/
theorem lineNext_nat (ts : List Tok) (k : Nat) (hk : k < ts.length) : ∃ q : Nat, lineNext ts k = q ∧ k < q ∧ q ≤ ts.length ∧ k + lineLen (ts.drop k) ≤ q ∧ k + lineLen (ts.drop k) ≤ ts.length ∧ (k + lineLen (ts.drop k) < ts.length → q = k + lineLen (ts.drop k) + 1) ∧ (¬ k + lineLen (ts.drop k) < ts.length → q = k + lineLen (ts.drop k)) := by
 have hle := lineLen_le (ts.drop k)
 rw [List.length_drop] at hle
 unfold lineNext
 by_cases h : k + lineLen (ts.drop k) < ts.length
 ·rw [if_pos h]
  exact ⟨k + lineLen (ts.drop k) + 1, by simp, by omega, by omega, by omega, by omega, fun _ => rfl, fun h' => absurd h h'⟩
 ·rw [if_neg h]
  exact ⟨ts.length, rfl, hk, by omega, by omega, by omega, fun h' => absurd h' h, fun _ => by omega⟩
theorem below_draws (w : World) (n : Nat) : Below w.heap.size w (w.drewN n) := ⟨rfl, rfl, rfl, Nat.le_refl _, fun _ _ => rfl⟩
theorem TokAt.eq {w : World} {b o : Nat} {t u : Tok} (h : TokAt w b o t) (e : t = u) : TokAt w b o u := e ▸ h
end Go.Proofs.YtgpkdjhllekihaaGreatDoor.Tok
