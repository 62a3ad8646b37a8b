/- Rows of rows of numbers that grow: a row of its own whose last row grows, too. -/
import Derived.Test.YtdodmbfkcandgaaUPartP
import Derived.Test.YtdodmbfkcandgaaUOf
namespace Go.Proofs.Ytdodmbfkcandgaa.Rnn
set_option linter.unusedVariables false
set_option maxRecDepth 100000
open Go.RowKit Go.Shelf
open Go.Proofs.Ytdodmbfkcandgaa.Ven (Box Sl intC intC_len row_next row_same row_slice row_grown row_setCell row_sl row_low rows_apart info_of below_alloc)

def Ints (base : Nat) (W : World) (v : Value) (l : List Int) : Prop := W.ownsRow base 3 1 v l.length (l.flatMap intC)
theorem Ints.nil (base : Nat) (W : World) : Ints base W (.slice none 0 0) [] := World.ownsRow_nil _ _ _ _
theorem Ints.next {base : Nat} {W W' : World} {v : Value} {l : List Int} (h : Ints base W v l) (hb : Below W.heap.size W W') : Ints base W' v l := row_next h hb
theorem Ints.sl {base : Nat} {W : World} {v : Value} {l : List Int} (h : Ints base W v l) : Sl 1 intC W v l := row_sl intC_len h
theorem row_base {W : World} {base base' : Nat} {e : TypeId} {k : Nat} {v : Value} {n : Nat} {xs : List Value} (h : W.ownsRow base e k v n xs) (hb : base' ≤ base) : W.ownsRow base' e k v n xs := by
  refine ⟨h.1, ?_⟩
  rcases h.2 with h | ⟨g, cap, cur, h1, h2, h3⟩
  · exact .inl h
  · exact .inr ⟨g, cap, cur, h1, Nat.le_trans hb h2, h3⟩
theorem info23 : ∃ i : TypeInfo, Try.prog.info? 23 = some i ∧ i.zero = some (.slice none 0 0) ∧ i.size = 1 ∧ i.bytes = 24 := info_of (by kernel_rfl)
/-- Rows that grow no more: all of them lie below 'bl'. -/
def Done (bl : Nat) (W : World) (vs : List Value) (Q : List (List Int)) : Prop :=
  vs.length = Q.length ∧ ∀ (j : Nat) (v : Value) (l : List Int), vs[j]? = some v → Q[j]? = some l → Ints 0 W v l ∧ ∀ g, v.ownBlock = some g → g < bl
theorem Done.mono {bl bl' : Nat} {W W' : World} {vs : List Value} {Q : List (List Int)} (h : Done bl W vs Q) (hb : bl ≤ bl') (hs : ∀ g, g < bl → (∃ cs, Box W g 3 cs) → W'.heap[g]? = W.heap[g]?) : Done bl' W' vs Q := by
  refine ⟨h.1, fun j v l hv hl => ?_⟩
  obtain ⟨h1, h2⟩ := h.2 j v l hv hl
  refine ⟨row_same h1 fun g hg hvg => hs g (h2 g hvg) ?_, fun g hg => Nat.lt_of_lt_of_le (h2 g hg) hb⟩
  rcases h1.2 with ⟨rfl, _⟩ | ⟨g', cap, cur, rfl, _, hc, _⟩
  · cases hvg
  · simp [Value.ownBlock] at hvg
    subst hvg
    exact ⟨cur, hc⟩
theorem Done.push {bl : Nat} {W : World} {vs : List Value} {Q : List (List Int)} {v : Value} {l : List Int} (h : Done bl W vs Q) (h1 : Ints 0 W v l) (h2 : ∀ g, v.ownBlock = some g → g < bl) : Done bl W (vs ++ [v]) (Q ++ [l]) := by
  refine ⟨by rw [List.length_append, List.length_append, h.1]; rfl, fun j v' l' hv hl => ?_⟩
  by_cases hj : j < Q.length
  · rw [List.getElem?_append_left (by rw [h.1]; exact hj)] at hv
    rw [List.getElem?_append_left hj] at hl
    exact h.2 j v' l' hv hl
  · by_cases e : j = Q.length
    · rw [e, List.getElem?_append_right (by rw [h.1]; exact Nat.le_refl _), h.1, Nat.sub_self] at hv
      rw [e, List.getElem?_append_right (Nat.le_refl _), Nat.sub_self] at hl
      simp at hv hl
      subst hv hl
      exact ⟨h1, h2⟩
    · rw [List.getElem?_eq_none (by rw [List.length_append]; simp; omega)] at hl
      cases hl
/-- The row of rows as it grows: the last row is the only one that does. -/
def Grows (base : Nat) (W : World) (v : Value) (P : List (List Int)) : Prop :=
  (P = [] ∧ v = .slice none 0 0) ∨ ∃ Q x vq vx bl, P = Q ++ [x] ∧ W.ownsRow base 23 1 v P.length (vq ++ [vx]) ∧ base ≤ bl ∧ bl ≤ W.heap.size ∧ Done bl W vq Q ∧ Ints bl W vx x
theorem Grows.start (base : Nat) (W : World) : Grows base W (.slice none 0 0) [] := .inl ⟨rfl, rfl⟩
theorem Grows.next {base : Nat} {W W' : World} {v : Value} {P : List (List Int)} (h : Grows base W v P) (hb : Below W.heap.size W W') : Grows base W' v P := by
  rcases h with h | ⟨Q, x, vq, vx, bl, h1, h2, h3, h4, h5, h6⟩
  · exact .inl h
  · exact .inr ⟨Q, x, vq, vx, bl, h1, row_next h2 hb, h3, Nat.le_trans h4 hb.size, h5.mono (Nat.le_refl _) fun g hg _ => hb.block g (Nat.lt_of_lt_of_le hg h4), h6.next hb⟩
/-- All of them, as they stand. -/
theorem Grows.all {base : Nat} {W : World} {v : Value} {P : List (List Int)} (h : Grows base W v P) : ∃ vs, W.ownsRow base 23 1 v P.length vs ∧ Done W.heap.size W vs P := by
  rcases h with ⟨rfl, rfl⟩ | ⟨Q, x, vq, vx, bl, rfl, h2, h3, h4, h5, h6⟩
  · exact ⟨[], World.ownsRow_nil _ _ _ _, rfl, fun j v l hv => by simp at hv⟩
  · refine ⟨_, h2, (h5.mono h4 fun g _ _ => rfl).push (row_base h6 (Nat.zero_le _)) fun g hg => (h6.lt g hg).2⟩
theorem Grows.slice {base : Nat} {W : World} {v : Value} {P : List (List Int)} (h : Grows base W v P) : ∃ a c, v = .slice a P.length c := by
  obtain ⟨vs, h1, _⟩ := h.all
  exact row_slice h1
/-- A row without numbers, behind the others. -/
theorem Grows.more {base : Nat} {W W' : World} {v v' : Value} {P : List (List Int)} {vs : List Value} (h : W.ownsRow base 23 1 v P.length vs) (hd : Done W.heap.size W vs P) (h' : W'.ownsRow base 23 1 v' (P.length + 1) (vs ++ [.slice none 0 0])) (hg : W.grownBy W' v.ownBlock) (hb : base ≤ W.heap.size) : Grows base W' v' (P ++ [[]]) := by
  refine .inr ⟨P, [], vs, .slice none 0 0, W'.heap.size, rfl, by simpa using h', Nat.le_trans hb hg.size, Nat.le_refl _, hd.mono hg.size fun g hlt ⟨cs, hB⟩ => ?_, Ints.nil _ _⟩
  exact hg.block g hlt (hB.not_row (by decide) h)
/-- The last row. -/
theorem Grows.last {base : Nat} {W : World} {v : Value} {Q : List (List Int)} {x : List Int} (h : Grows base W v (Q ++ [x])) :
    ∃ vq vx bl G cap, v = .slice (some ⟨G, 0, none⟩) (Q.length + 1) cap ∧ W.ownsRow base 23 1 (.slice (some ⟨G, 0, none⟩) (Q.length + 1) cap) (Q.length + 1) (vq ++ [vx]) ∧ vq.length = Q.length ∧ base ≤ bl ∧ bl ≤ W.heap.size ∧ Done bl W vq Q ∧ Ints bl W vx x := by
  rcases h with ⟨h, _⟩ | ⟨Q', x', vq, vx, bl, h1, h2, h3, h4, h5, h6⟩
  · simp at h
  · obtain ⟨rfl, hxx⟩ := List.append_inj' h1 rfl
    obtain rfl : x = x' := by injection hxx
    rw [List.length_append] at h2
    rcases h2.2 with ⟨_, hc⟩ | ⟨G, cap, cur, hv, _⟩
    · simp at hc
    · subst hv
      exact ⟨vq, vx, bl, G, cap, rfl, h2, h5.1, h3, h4, h5, h6⟩
/-- A number behind the last row, and the row of rows told so. -/
theorem Grows.put {base bl G cap : Nat} {W W' : World} {Q : List (List Int)} {x x' : List Int} {vq : List Value} {vx vx' : Value}
    (h1 : W.ownsRow base 23 1 (.slice (some ⟨G, 0, none⟩) (Q.length + 1) cap) (Q.length + 1) (vq ++ [vx])) (h3 : base ≤ bl) (h4 : bl ≤ W.heap.size) (h5 : Done bl W vq Q) (h6 : Ints bl W vx x)
    (h7 : Ints bl W' vx' x') (hg : W.grownBy W' vx.ownBlock) :
    W'.cell? ⟨G, Q.length, none⟩ = some vx ∧ W'.frozen? ⟨G, Q.length, none⟩ = false ∧ Grows base (W'.setCell ⟨G, Q.length, none⟩ vx') (.slice (some ⟨G, 0, none⟩) (Q.length + 1) cap) (Q ++ [x']) ∧ base ≤ G := by
  have hr : W'.ownsRow base 23 1 (.slice (some ⟨G, 0, none⟩) (Q.length + 1) cap) (Q.length + 1) (vq ++ [vx]) := row_grown h1 h6 (by decide) hg
  have hl := h5.1
  have hB : ∃ cur, Box W' G 23 cur := by
    rcases hr.2 with ⟨hv, _⟩ | ⟨g, c, cur, hv, _, hc, _⟩
    · cases hv
    · cases hv; exact ⟨cur, hc⟩
  obtain ⟨cur, hB⟩ := hB
  have hlt : Q.length < (Q.length + 1) * 1 := by omega
  refine ⟨?_, hr.frozenAt _, ?_, (hr.lt G rfl).1⟩
  · rw [hr.cellAt _ hlt, List.getElem?_append_right (by omega), hl, Nat.sub_self]; rfl
  · have hs := (hr.stored Q.length vx').1
    rw [show (vq ++ [vx]).set Q.length vx' = vq ++ [vx'] by rw [← hl]; simp] at hs
    refine .inr ⟨Q, x', vq, vx', bl, rfl, by simpa using hs, h3, ?_, h5.mono (Nat.le_refl _) fun g hgl ⟨cs, hBg⟩ => ?_, row_setCell h7 hB (by decide) _ _⟩
    · have := hg.size; simp; omega
    · have e1 : W'.heap[g]? = W.heap[g]? := hg.block g (by omega) (row_low h6 hgl)
      rw [Below.heap_setCell W' _ _ g (fun hc => ?_), e1]
      have hc' : g = G := hc
      subst hc'
      unfold Box at hB hBg
      rw [e1, hBg] at hB
      injection hB with hB
      injection hB with _ hB
      revert hB; decide
/-- A row of rows of numbers. -/
def RowsS (W : World) (v : Value) (L : List (List Int)) : Prop := ∃ vs : List Value, W.ownsRow 0 23 1 v L.length vs ∧ vs.length = L.length ∧ ∀ (j : Nat) (a : Value) (l : List Int), vs[j]? = some a → L[j]? = some l → Sl 1 intC W a l
theorem RowsS.next {W W' : World} {v : Value} {L : List (List Int)} (h : RowsS W v L) (hb : Below W.heap.size W W') : RowsS W' v L := by
  obtain ⟨vs, h1, h2, h3⟩ := h
  exact ⟨vs, row_next h1 hb, h2, fun j a l ha hl => (h3 j a l ha hl).next hb⟩
theorem Grows.rows {base : Nat} {W : World} {v : Value} {P : List (List Int)} (h : Grows base W v P) : RowsS W v P := by
  obtain ⟨vs, h1, h2⟩ := h.all
  exact ⟨vs, row_base h1 (Nat.zero_le _), h2.1, fun j a l ha hl => (h2.2 j a l ha hl).1.sl⟩
theorem RowsS.slice {W : World} {v : Value} {L : List (List Int)} (h : RowsS W v L) : ∃ a c, v = .slice a L.length c := by
  obtain ⟨vs, h1, _⟩ := h
  exact row_slice h1
theorem RowsS.nil (W : World) : RowsS W (.slice none 0 0) [] := (Grows.start 0 W).rows
/-- One of them. -/
theorem RowsS.at {W : World} {a : Option Addr} {n c : Nat} {L : List (List Int)} (h : RowsS W (.slice a n c) L) (j : Nat) (hj : j < L.length) : n = L.length ∧ ∃ G b d, a = some ⟨G, 0, none⟩ ∧ G < W.heap.size ∧ W.cell? ⟨G, j, none⟩ = some (.slice b L[j].length d) ∧ Sl 1 intC W (.slice b L[j].length d) L[j] := by
  obtain ⟨vs, h1, h2, h3⟩ := h
  have hj2 : j < vs.length := by omega
  have hs := h3 j vs[j] L[j] (List.getElem?_eq_getElem hj2) (List.getElem?_eq_getElem hj)
  have hn : n = L.length := by
    obtain ⟨_, _, he⟩ := row_slice h1
    cases he; rfl
  refine ⟨hn, ?_⟩
  have hv : ∃ b d, vs[j] = .slice b L[j].length d := by
    rcases hs with ⟨⟨b, d, he⟩, hl⟩ | ⟨b, off, d, he, _⟩
    · exact ⟨b, d, by rw [he, hl]; rfl⟩
    · exact ⟨_, d, he⟩
  obtain ⟨b, d, he⟩ := hv
  rcases h1.2 with ⟨_, hc⟩ | ⟨G, cap, cur, hv, _, hB, _⟩
  · omega
  · cases hv
    refine ⟨G, b, d, rfl, (Array.getElem?_eq_some_iff.1 hB).1, ?_, by rw [← he]; exact hs⟩
    rw [h1.cellAt j (by omega), ← he, List.getElem?_eq_getElem hj2]
end Go.Proofs.Ytdodmbfkcandgaa.Rnn
