/- What a map's bytes tell: its rows, its signs, its killed ones (no program in it). -/
import Derived.Test.YtpkjhlcolgoknaaDoorQVenue
import Derived.Test.YtpkjhlcolgoknaaDoorTDec
namespace Go.Proofs.YtpkjhlcolgoknaaDoor.Prn
set_option linter.unusedVariables false
set_option maxRecDepth 100000
open Go.Proofs.YtpkjhlcolgoknaaDoor.Ven (Seat Pole Ven mayB rowB seatB)

structure MSt where
  rows : Nat
  signs : Nat
  killed : Nat
  inn : Bool
deriving DecidableEq, Inhabited
/-- A byte; none: a sign that its owner does not bear. -/
def stepM (own : List Int) (s : MSt) (c : UInt8) : Option MSt :=
  if c = 10 then some { s with rows := s.rows + 1, inn := false } else if c = 32 then some { s with inn := true }
  else if s.inn = false then some s
  else if (c = 35 ∧ own.getD s.signs 0 ≤ 0) ∨ (c = 45 ∧ 0 ≤ own.getD s.signs 0) then none
  else some { s with signs := s.signs + 1, killed := if c = 120 then s.killed + 1 else s.killed }
def runM (own : List Int) : List UInt8 → MSt → Option MSt
  | [], s => some s
  | c :: r, s => match stepM own s c with
    | none => none
    | some s' => runM own r s'
theorem runM_cons (own : List Int) (c : UInt8) (r : List UInt8) (s : MSt) : runM own (c :: r) s = match stepM own s c with | none => none | some s' => runM own r s' := rfl
theorem runM_append (own : List Int) : ∀ (a b : List UInt8) (s s' : MSt), runM own a s = some s' → runM own (a ++ b) s = runM own b s'
  | [], b, s, s', h => by injection h with h; subst h; rfl
  | c :: r, b, s, s', h => by
    rw [List.cons_append]
    rw [runM_cons] at h ⊢
    cases hc : stepM own s c with
    | none => rw [hc] at h; cases h
    | some t => rw [hc] at h; exact runM_append own r b t s' h
/-- Bytes of a number, ahead of the blank: nothing is told. -/
theorem runM_digits (own : List Int) : ∀ (a : List UInt8) (s : MSt), (∀ c ∈ a, c ≠ 10 ∧ c ≠ 32) → s.inn = false → runM own a s = some s
  | [], s, _, _ => rfl
  | c :: r, s, h, hs => by
    obtain ⟨h1, h2⟩ := h c (by simp)
    unfold runM stepM
    rw [if_neg h1, if_neg h2, if_pos hs]
    exact runM_digits own r s (fun d hd => h d (by simp [hd])) hs
theorem itoa_bytes (n : Int) (h : 0 ≤ n) : ∀ c ∈ Lib.itoa n, c ≠ 10 ∧ c ≠ 32 := by
  obtain ⟨u, rfl⟩ := Int.eq_ofNat_of_zero_le h
  intro c hc
  rw [Lib.itoa_nonneg] at hc
  have := (Tok.dec_all u).2.1 c hc
  constructor
  · intro e; subst e; revert this; decide
  · intro e; subst e; revert this; decide
/-- The rows of the first seats. -/
def rowsTo (S : List Seat) (n : Nat) : Nat := ((List.range n).filter fun i => i == 0 || decide ((S[i]!).row ≠ (S[i - 1]!).row)).length
theorem rowsTo_hit {S : List Seat} {n : Nat} (h : n = 0 ∨ (S[n]!).row ≠ (S[n - 1]!).row) : rowsTo S (n + 1) = rowsTo S n + 1 := by
  have hp : (n == 0 || decide ((S[n]!).row ≠ (S[n - 1]!).row)) = true := by
    rcases h with h | h
    · rw [h]; rfl
    · rw [decide_eq_true h]; exact Bool.or_true _
  unfold rowsTo
  rw [List.range_succ, List.filter_append, List.length_append, List.filter_cons, if_pos hp]; rfl
theorem rowsTo_miss {S : List Seat} {n : Nat} (h0 : n ≠ 0) (h : (S[n]!).row = (S[n - 1]!).row) : rowsTo S (n + 1) = rowsTo S n := by
  have hp : ¬ (n == 0 || decide ((S[n]!).row ≠ (S[n - 1]!).row)) = true := by
    rw [decide_eq_false (fun hc => hc h)]; simp [h0]
  unfold rowsTo
  rw [List.range_succ, List.filter_append, List.length_append, List.filter_cons, if_neg hp]; rfl
theorem rowsTo_le (S : List Seat) (n : Nat) : rowsTo S n ≤ n := by
  have := List.length_filter_le (fun i => i == 0 || decide ((S[i]!).row ≠ (S[i - 1]!).row)) (List.range n)
  rw [List.length_range] at this
  exact this
theorem rowsTo_pos (S : List Seat) : ∀ n, 1 ≤ n → 1 ≤ rowsTo S n
  | 0, h => by omega
  | n + 1, _ => by
    by_cases h : n = 0 ∨ (S[n]!).row ≠ (S[n - 1]!).row
    · rw [rowsTo_hit h]; omega
    · rw [not_or, Decidable.not_not] at h
      rw [rowsTo_miss h.1 h.2]
      exact rowsTo_pos S n (by omega)
def killsTo (K : List Int) (n : Nat) : Nat := ((List.range n).filter fun i : Nat => decide ((i : Int) ∈ K)).length
theorem killsTo_succ (K : List Int) (n : Nat) : killsTo K (n + 1) = killsTo K n + if (n : Int) ∈ K then 1 else 0 := by
  unfold killsTo
  rw [List.range_succ, List.filter_append, List.length_append]
  by_cases h : (n : Int) ∈ K
  · simp [h]
  · simp [h]
theorem killsTo_all {K : List Int} {n : Nat} (hr : K.Pairwise (fun a b => a < b)) (hk : ∀ k ∈ K, 0 ≤ k ∧ k < n) : killsTo K n = K.length := by
  have hnK : K.Nodup := hr.imp fun h => by omega
  have hnM : (((List.range n).filter fun i : Nat => decide ((i : Int) ∈ K)).map (fun i : Nat => (i : Int))).Nodup := by
    unfold List.Nodup
    rw [List.pairwise_map]
    exact (List.nodup_range.filter _).imp fun h hc => h (by omega)
  have h1 := hnM.length_le_of_subset (l₂ := K) (by
    intro x hx
    obtain ⟨i, hi, rfl⟩ := List.mem_map.1 hx
    exact of_decide_eq_true (List.mem_filter.1 hi).2)
  have h2 := hnK.length_le_of_subset (l₂ := ((List.range n).filter fun i : Nat => decide ((i : Int) ∈ K)).map (fun i : Nat => (i : Int))) (by
    intro x hx
    obtain ⟨h0, h3⟩ := hk x hx
    refine List.mem_map.2 ⟨x.toNat, List.mem_filter.2 ⟨List.mem_range.2 (by omega), ?_⟩, by omega⟩
    have : ((x.toNat : Nat) : Int) = x := by omega
    rw [this]; exact decide_eq_true hx)
  rw [List.length_map] at h1 h2
  unfold killsTo; omega
theorem sign_run (V : Ven) (own : List Int) (n r : Nat) (k : Nat) (hk : ∀ s : Seat, s = V.seats[n]! → s.kind = 0 ∨ s.kind = 1 ∨ s.kind = 2) : runM own [signL V own n] ⟨r, n, k, true⟩ = some ⟨r, n + 1, k + (if (n : Int) ∈ V.kills then 1 else 0), true⟩ := by
  unfold runM runM stepM signL freeL
  by_cases h1 : (n : Int) ∈ V.kills
  · simp [h1]
  · by_cases h2 : 0 < own.getD n 0
    · have : ¬ own.getD n 0 ≤ 0 := by omega
      simp only [if_neg h1, if_pos h2]
      rw [if_neg (by decide), if_neg (by decide), if_neg (by decide), if_neg (by simp; simp at this; omega)]
      rfl
    · by_cases h3 : own.getD n 0 < 0
      · simp only [if_neg h1, if_neg h2, if_pos h3]
        rw [if_neg (by decide), if_neg (by decide), if_neg (by decide), if_neg (by simp; simp at h3; omega)]
        rfl
      · simp only [if_neg h1, if_neg h2, if_neg h3]
        rcases hk _ rfl with e | e | e <;> rw [e] <;> rfl
theorem map_run (V : Ven) (own : List Int) (hrow : ∀ s ∈ V.seats, 0 ≤ s.row) (hk : ∀ s ∈ V.seats, s.kind = 0 ∨ s.kind = 1 ∨ s.kind = 2) : ∀ n, n ≤ V.seats.length → runM own (mapTo V own n) ⟨0, 0, 0, false⟩ = some ⟨rowsTo V.seats n - 1, n, killsTo V.kills n, decide (0 < n)⟩
  | 0, _ => rfl
  | n + 1, h => by
    have ih := map_run V own hrow hk n (by omega)
    have hmem : V.seats[n]! ∈ V.seats := by rw [getElem!_pos V.seats n (by omega)]; exact List.getElem_mem _
    have hs := sign_run V own n (rowsTo V.seats (n + 1) - 1) (killsTo V.kills n) (fun s e => by rw [e]; exact hk _ hmem)
    rw [← killsTo_succ] at hs
    have hd := itoa_bytes (V.seats[n]!).row (hrow _ hmem)
    have hf : runM own (frontL V n) ⟨rowsTo V.seats n - 1, n, killsTo V.kills n, decide (0 < n)⟩ = some ⟨rowsTo V.seats (n + 1) - 1, n, killsTo V.kills n, true⟩ := by
      unfold frontL
      by_cases h0 : n = 0
      · subst h0
        rw [if_pos rfl, runM_append own _ _ _ _ (runM_digits own _ _ hd rfl), rowsTo_hit (.inl rfl)]
        rfl
      · rw [if_neg h0]
        by_cases hr : (V.seats[n]!).row = (V.seats[n - 1]!).row
        · rw [if_pos hr, rowsTo_miss h0 hr]
          have : decide (0 < n) = true := decide_eq_true (by omega)
          rw [this]; rfl
        · rw [if_neg hr, rowsTo_hit (.inr hr)]
          have hp := rowsTo_pos V.seats n (by omega)
          show runM own (Lib.itoa (V.seats[n]!).row ++ [32]) ⟨rowsTo V.seats n - 1 + 1, n, killsTo V.kills n, false⟩ = _
          rw [runM_append own _ _ _ _ (runM_digits own _ _ hd rfl)]
          have e : rowsTo V.seats n - 1 + 1 = rowsTo V.seats n + 1 - 1 := by omega
          rw [e]; rfl
    rw [mapTo_succ, List.append_assoc, runM_append own _ _ _ _ ih, runM_append own _ _ _ _ hf, hs]
    simp
/-- What a map tells. -/
theorem map_tells (V : Ven) (own : List Int) (h1 : 1 ≤ V.seats.length) (hrow : ∀ s ∈ V.seats, 0 ≤ s.row) (hk : ∀ s ∈ V.seats, s.kind = 0 ∨ s.kind = 1 ∨ s.kind = 2) (hr : V.kills.Pairwise (fun a b => a < b)) (hkl : ∀ k ∈ V.kills, 0 ≤ k ∧ k < V.seats.length) :
    runM own (mapL V own) ⟨0, 0, 0, false⟩ = some ⟨rowsTo V.seats V.seats.length, V.seats.length, V.kills.length, false⟩ := by
  have hp := rowsTo_pos V.seats V.seats.length h1
  unfold mapL
  rw [runM_append own _ _ _ _ (map_run V own hrow hk _ (Nat.le_refl _)), killsTo_all hr hkl]
  show some (MSt.mk (rowsTo V.seats V.seats.length - 1 + 1) _ _ _) = _
  rw [Nat.sub_add_cancel hp]
end Go.Proofs.YtpkjhlcolgoknaaDoor.Prn
