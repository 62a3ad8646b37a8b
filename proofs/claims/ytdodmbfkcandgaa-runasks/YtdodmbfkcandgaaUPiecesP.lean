/- A row of pieces from a seat on, piece by piece (no program in it). -/
import Derived.Test.YtdodmbfkcandgaaUPartP
namespace Go.Proofs.Ytdodmbfkcandgaa.Rnn
set_option linter.unusedVariables false
open Go.Proofs.Ytdodmbfkcandgaa.Ven (Seat Pole Ven mayB)

theorem cut_head {n : Nat} {u x : Nat → Bool} {long : Nat → Nat} (h : Links n u x long) : ∀ (f b : Nat) (p : Nat × Nat) (r : List (Nat × Nat)), n - b ≤ f → cutF long n f b = p :: r →
    b ≤ p.1 ∧ p.1 < n ∧ p.2 = long p.1 ∧ 1 ≤ p.2 ∧ u p.1 = true ∧ (∀ y, b ≤ y → y < p.1 → u y = false) ∧ ∃ f', n - (p.1 + p.2) ≤ f' ∧ r = cutF long n f' (p.1 + p.2) := by
  intro f
  induction f with
  | zero => intro b p r hf hc; cases hc
  | succ f ih =>
    intro b p r hf hc
    unfold cutF at hc
    split at hc
    · rename_i hb
      split at hc
      · rename_i hl
        have hu : u b = false := by
          cases hu : u b with
          | false => rfl
          | true => have := h.pos b hb hu; omega
        obtain ⟨h1, h2, h3, h4, h5, h6, h7⟩ := ih (b + 1) p r (by omega) hc
        refine ⟨by omega, h2, h3, h4, h5, fun y hy1 hy2 => ?_, h7⟩
        by_cases e : y = b
        · rw [e]; exact hu
        · exact h6 y (by omega) hy2
      · rename_i hl
        injection hc with h1 h2
        subst h1 h2
        exact ⟨Nat.le_refl _, hb, rfl, by show 1 ≤ long b; omega, h.usable hb (i := 0) (by omega), fun y hy1 hy2 => absurd hy2 (by show ¬ y < b; omega), f, by show n - (b + long b) ≤ f; omega, rfl⟩
    · cases hc
theorem cut_none {n : Nat} {u x : Nat → Bool} {long : Nat → Nat} (h : Links n u x long) : ∀ (f b : Nat), n - b ≤ f → cutF long n f b = [] → ∀ y, b ≤ y → y < n → u y = false := by
  intro f
  induction f with
  | zero => intro b hf hc y h1 h2; omega
  | succ f ih =>
    intro b hf hc y h1 h2
    unfold cutF at hc
    split at hc
    · rename_i hb
      split at hc
      · rename_i hl
        by_cases e : y = b
        · cases hu : u y with
          | false => rfl
          | true => have := h.pos y h2 hu; rw [e] at this; omega
        · exact ih (b + 1) (by omega) hc y (by omega) h2
      · cases hc
    · omega
/-- How often a seat was met, once all seats below 'b' were gone through. -/
def metN (u : List Bool) (b x : Nat) : Int := if x < b ∧ isU u x = true then 1 else 0
theorem metN_skip {u : List Bool} {a b : Nat} (h : a ≤ b) (hu : ∀ y, a ≤ y → y < b → isU u y = false) (x : Nat) : metN u b x = metN u a x := by
  unfold metN
  by_cases h1 : x < a
  · have h2 : x < b := by omega
    simp [h1, h2]
  · by_cases h2 : x < b
    · rw [hu x (by omega) h2]; simp
    · simp [h1, h2]
theorem metN_put {u : List Bool} {a : Nat} (hu : isU u a = true) (x : Nat) : metN u (a + 1) x = if x = a then 1 else metN u a x := by
  unfold metN
  by_cases h : x = a
  · subst h; rw [if_pos rfl, if_pos ⟨by omega, hu⟩]
  · rw [if_neg h]
    by_cases h1 : x < a
    · have : x < a + 1 := by omega
      simp [h1, this]
    · have : ¬ x < a + 1 := by omega
      simp [h1, this]
theorem metN_own {u : List Bool} (a : Nat) : metN u a a = 0 := by unfold metN; simp
/-- What the pieces from the one with number 'i' on are: those from the seat 'b' on. -/
structure FromP (V : Ven) (u : List Bool) (i b : Nat) : Prop where
  le : b ≤ V.seats.length
  rest : ∃ f, V.seats.length - b ≤ f ∧ (cutL V u).drop i = cutF (longL V.seats V.gap u) V.seats.length f b
  ope : Open V u b
theorem FromP.start (V : Ven) (u : List Bool) : FromP V u 0 0 := ⟨Nat.zero_le _, ⟨V.seats.length, by omega, rfl⟩, .inl rfl⟩
theorem FromP.done {V : Ven} {u : List Bool} {i b : Nat} (h : FromP V u i b) (hi : ¬ i < (cutL V u).length) : ∀ x, x < V.seats.length → metN u b x = metN u V.seats.length x := by
  intro x hx
  obtain ⟨f, h1, h2⟩ := h.rest
  rw [List.drop_eq_nil_of_le (by omega)] at h2
  exact (metN_skip h.le (cut_none (links V.seats V.gap u) f b h1 h2.symm) x).symm
/-- The next piece. -/
structure PieceP (V : Ven) (u : List Bool) (i b a k : Nat) : Prop where
  at_ : ∀ (h : i < (runsL V u).length), (runsL V u)[i] = rowL a k
  low : b ≤ a
  top : a + k ≤ V.seats.length
  one : 1 ≤ k
  long : longL V.seats V.gap u a = k
  met : ∀ x, metN u b x = metN u a x
  us : ∀ q, q < k → isU u (a + q) = true
  nx : ∀ q, 0 < q → q < k → nextL V.seats V.gap (a + q - 1) = true
  beg : a ≠ 0 → (nextL V.seats V.gap (a - 1) && isU u (a - 1)) = false
  next : FromP V u (i + 1) (a + k)
theorem FromP.piece {V : Ven} {u : List Bool} {i b : Nat} (hm : mayB V = true) (h : FromP V u i b) (hi : i < (cutL V u).length) : ∃ a k, PieceP V u i b a k := by
  have L := links V.seats V.gap u
  obtain ⟨f, h1, h2⟩ := h.rest
  rw [List.drop_eq_getElem_cons hi] at h2
  obtain ⟨g1, g2, g3, g4, g5, g6, f', g7, g8⟩ := cut_head L f b _ _ h1 h2.symm
  generalize hp : (cutL V u)[i] = p at *
  obtain ⟨a, k⟩ := p
  simp only at g1 g2 g3 g4 g5 g6 g7 g8
  have hle := L.le a g2
  refine ⟨a, k, fun hr => ?_, g1, by omega, g4, g3.symm, fun x => (metN_skip g1 g6 x).symm, fun q hq => L.usable g2 (by omega), fun q hq1 hq2 => ?_, fun h0 => ?_, ?_⟩
  · have e : (runsL V u)[i]? = some (rowL a k) := by
      unfold runsL
      rw [if_pos hm, List.getElem?_map, List.getElem?_eq_getElem hi, hp]; rfl
    rw [List.getElem?_eq_getElem hr] at e
    exact Option.some.inj e
  · have := (L.on a g2 (q - 1) (by omega)).1
    rwa [show a + (q - 1) = a + q - 1 by omega] at this
  · by_cases e : b = a
    · subst e
      rcases h.ope with h' | h' | h'
      · exact absurd h' h0
      · rw [Bool.and_comm]; exact h'
      · rw [g5] at h'; cases h'
    · rw [g6 (a - 1) (by omega) (by omega), Bool.and_false]
  · refine ⟨by omega, ⟨f', g7, g8⟩, ?_⟩
    have hoff := L.off a g2 g5
    rw [← g3] at hoff
    right
    cases hx : nextL V.seats V.gap (a + k - 1) with
    | false => left; rw [Bool.and_false]
    | true => right; rw [hx, Bool.true_and] at hoff; exact hoff
theorem runs_cut {V : Ven} {u : List Bool} (hm : mayB V = true) : (runsL V u).length = (cutL V u).length := by
  unfold runsL; rw [if_pos hm, List.length_map]
theorem runs_few {V : Ven} {u : List Bool} (hm : mayB V = true) : (runsL V u).length ≤ V.seats.length := by
  rw [← part_all hm]
  exact (part_len V u V.seats.length (Nat.le_refl _)).1
theorem nextB_nat {V : Ven} (hm : mayB V = true) (a : Nat) : nextB V a = nextL V.seats V.gap a := by
  unfold nextB
  rw [hm, decide_eq_true (by omega), Int.toNat_natCast]; rfl
theorem longB_nat {V : Ven} {u : List Bool} (hm : mayB V = true) (a : Nat) : longB V u a = (longL V.seats V.gap u a : Nat) := by
  unfold longB
  rw [if_pos ⟨by omega, hm⟩, Int.toNat_natCast]
end Go.Proofs.Ytdodmbfkcandgaa.Rnn
