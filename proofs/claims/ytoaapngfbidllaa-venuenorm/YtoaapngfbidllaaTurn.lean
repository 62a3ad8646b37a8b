/- A venue turned about at a place: Norm brings it back. -/
import Derived.Test.YtoaapngfbidllaaMake2
namespace Go.Proofs.Ytoaapngfbidllaa
set_option linter.unusedVariables false

/-- Where a killed seat is, behind the turn. -/
def turnK (n k : Nat) (q : Int) : Int := (q - k + n).tmod n
def turnV (V : Ven) (k : Nat) : Ven := ⟨V.seats.drop k ++ V.seats.take k, V.gap, V.radius, (V.kills.map (turnK V.seats.length k)).reverse, V.poles⟩
def turnOrd (n k : Nat) : List Nat := List.range' (n - k) k ++ List.range (n - k)
theorem turnOrd_len (n k : Nat) (hk : k ≤ n) : (turnOrd n k).length = n := by simp [turnOrd]; omega
theorem turnOrd_perm (n k : Nat) (hk : k ≤ n) : (turnOrd n k).Perm (List.range n) := by
  unfold turnOrd
  refine List.perm_append_comm.trans (List.Perm.of_eq ?_)
  apply List.ext_getElem
  · simp; omega
  · intro i h1 h2
    rw [List.getElem_append]
    split
    · simp
    · rename_i h
      simp at h ⊢; omega
theorem turnOrd_at (n k p : Nat) (hk : k ≤ n) (hp : p < n) : (turnOrd n k)[p]! = if p < k then p + (n - k) else p - k := by
  rw [getElem!_pos _ p (by rw [turnOrd_len n k hk]; exact hp)]
  unfold turnOrd
  rw [List.getElem_append]
  split
  · rename_i h
    simp at h
    rw [if_pos h]; simp; omega
  · rename_i h
    simp at h
    rw [if_neg (by omega)]; simp
theorem turn_len (V : Ven) (k : Nat) (hk : k ≤ V.seats.length) : (turnV V k).seats.length = V.seats.length := by simp [turnV]; omega
theorem turn_seat (V : Ven) (k p : Nat) (hk : k ≤ V.seats.length) (hp : p < V.seats.length) : (turnV V k).seats[(turnOrd V.seats.length k)[p]!]! = V.seats[p] := by
  rw [turnOrd_at _ _ _ hk hp]
  show (V.seats.drop k ++ V.seats.take k)[_]! = _
  have hl : (V.seats.drop k ++ V.seats.take k).length = V.seats.length := by simp; omega
  split
  · rename_i h
    rw [getElem!_pos _ _ (by rw [hl]; omega), List.getElem_append_right (by simp)]
    simp
  · rename_i h
    rw [getElem!_pos _ _ (by rw [hl]; omega), List.getElem_append_left (by simp; omega)]
    simp only [List.getElem_drop]
    congr 1; omega
theorem pick_turn (V : Ven) (k : Nat) (hk : k ≤ V.seats.length) : pick (turnV V k).seats (turnOrd V.seats.length k) = V.seats := by
  apply List.ext_getElem
  · simp [pick, turnOrd_len _ _ hk]
  · intro p h1 h2
    have := turn_seat V k p hk h2
    rw [getElem!_pos (turnOrd V.seats.length k) p (by rw [turnOrd_len _ _ hk]; exact h2)] at this
    simp only [pick, List.getElem_map]
    exact this
theorem turnK_at (n k : Nat) (q : Int) (hk : k < n) (h0 : 0 ≤ q) (h1 : q < n) : turnK n k q = if q < k then q + n - k else q - k := by
  unfold turnK
  rw [Int.tmod_eq_emod_of_nonneg (by omega)]
  split
  · rw [Int.emod_eq_of_lt (by omega) (by omega)]; omega
  · rw [show q - (k : Int) + n = (q - k) + n * 1 by omega, Int.add_mul_emod_self_left, Int.emod_eq_of_lt (by omega) (by omega)]
/-- Numbers that rise are those of the first so many that are among them. -/
theorem filter_rising (l : List Int) (n : Nat) (hp : l.Pairwise (fun a b => a < b)) (hb : ∀ k ∈ l, 0 ≤ k ∧ k < n) : ((List.range n).filter (fun p : Nat => decide ((p : Int) ∈ l))).map (fun p : Nat => (p : Int)) = l := by
  have h1 : (((List.range n).filter (fun p : Nat => decide ((p : Int) ∈ l))).map (fun p : Nat => (p : Int))).Pairwise (fun a b => a < b) := by
    rw [List.pairwise_map]
    exact (List.Pairwise.filter _ (List.pairwise_lt_range)).imp fun h => by omega
  have nd : ∀ {l : List Int}, l.Pairwise (fun a b => a < b) → l.Nodup := fun h => h.imp fun h => by omega
  have hperm : (((List.range n).filter (fun p : Nat => decide ((p : Int) ∈ l))).map (fun p : Nat => (p : Int))).Perm l := by
    rw [List.perm_ext_iff_of_nodup (nd h1) (nd hp)]
    intro a
    simp only [List.mem_map, List.mem_filter, List.mem_range, decide_eq_true_eq]
    constructor
    · rintro ⟨p, ⟨_, h⟩, rfl⟩; exact h
    · intro h
      have := hb a h
      exact ⟨a.toNat, ⟨by omega, by rw [Int.toNat_of_nonneg this.1]; exact h⟩, Int.toNat_of_nonneg this.1⟩
  exact rising_unique (fun a b : Int => decide (a < b)) _ _ hperm (h1.imp fun h => decide_eq_true h) (hp.imp fun h => decide_eq_false (by omega))
theorem pos_turn (V : Ven) (k : Nat) (hk : k < V.seats.length) (hp : V.kills.Pairwise (fun a b => a < b)) (hb : ∀ q ∈ V.kills, 0 ≤ q ∧ q < V.seats.length) : posOf (turnV V k).kills (turnOrd V.seats.length k) V.seats.length = V.kills := by
  unfold posOf
  rw [show ((List.range V.seats.length).filter fun j => markB (turnV V k).kills (turnOrd V.seats.length k)[j]!) = (List.range V.seats.length).filter (fun p : Nat => decide ((p : Int) ∈ V.kills)) from ?_]
  · exact filter_rising V.kills V.seats.length hp hb
  · apply List.filter_congr
    intro p hpr
    have hpn : p < V.seats.length := by simpa using hpr
    rw [turnOrd_at _ _ _ (by omega) hpn]
    unfold markB turnV
    simp only [List.mem_reverse, List.mem_map]
    rw [decide_eq_decide]
    constructor
    · rintro ⟨q, hq, he⟩
      have hb' := hb q hq
      rw [turnK_at _ _ _ hk hb'.1 hb'.2] at he
      have : q = (p : Int) := by
        split at he <;> split at he <;> omega
      rw [← this]; exact hq
    · intro h
      refine ⟨p, h, ?_⟩
      rw [turnK_at _ _ _ hk (by omega) (by omega)]
      split <;> split <;> omega
/-- The venue turned about comes back. -/
theorem norm_turn {V : Ven} {row x : Int} (h : MkOK V row x) (hl : V.seats.length ≤ 60) (k : Nat) (hk : k < V.seats.length) {r : Option Ven} (hr : NormTo (turnV V k) r) : r = some V := by
  have hlen := turn_len V k (by omega)
  have hpk := pick_turn V k (by omega)
  have hko : (turnV V k).kills.all (fun q => isSeatB q (turnV V k).seats.length) = true := by
    rw [List.all_eq_true]
    intro q hq
    rw [hlen]
    simp only [turnV, List.mem_reverse, List.mem_map] at hq
    obtain ⟨q', hq', rfl⟩ := hq
    have hb' := h.kl q' hq'
    rw [turnK_at _ _ _ hk hb'.1 hb'.2]
    unfold isSeatB
    rw [Bool.and_eq_true, decide_eq_true_eq, decide_eq_true_eq]
    split <;> omega
  have hpo : (turnV V k).poles.length ≤ 200 := Nat.le_trans h.pn (by omega)
  have hres := hr.of_rising (ord := turnOrd V.seats.length k) (by omega) hpo hko (by rw [hlen]; exact turnOrd_perm _ _ (by omega)) (by
    have hrs := h.rise
    rw [← hpk] at hrs
    unfold pick at hrs
    rw [List.pairwise_map] at hrs
    exact hrs)
  have hu : normU (turnV V k) (turnOrd V.seats.length k) = V := by
    unfold normU
    rw [hpk, hlen, pos_turn V k hk h.kr h.kl]
    rfl
  rw [hu, h.may hl] at hres
  exact hres
theorem turn_zero (V : Ven) (h : ∀ q ∈ V.kills, 0 ≤ q ∧ q < V.seats.length) (hn : 0 < V.seats.length) : pick V.seats (List.range V.seats.length) = V.seats ∧ posOf V.kills (List.range V.seats.length) V.seats.length = ((List.range V.seats.length).filter (fun p : Nat => decide ((p : Int) ∈ V.kills))).map (fun p : Nat => (p : Int)) := by
  refine ⟨?_, ?_⟩
  · apply List.ext_getElem
    · simp [pick]
    · intro i h1 h2
      simp only [pick, List.getElem_map, List.getElem_range]
      exact getElem!_pos V.seats i h2
  · unfold posOf
    congr 1
    apply List.filter_congr
    intro p hpr
    have hpn : p < V.seats.length := by simpa using hpr
    rw [getElem!_pos (List.range V.seats.length) p (by simpa using hpn)]
    simp [markB]
theorem norm_own {V : Ven} {row x : Int} (h : MkOK V row x) (hl : V.seats.length ≤ 60) {r : Option Ven} (hr : NormTo V r) : r = some V := by
  have hn := h.len
  obtain ⟨hpk, hps⟩ := turn_zero V h.kl (by omega)
  have hko : V.kills.all (fun q => isSeatB q V.seats.length) = true := by
    rw [List.all_eq_true]
    intro q hq
    have := h.kl q hq
    unfold isSeatB
    rw [decide_eq_true this.1, decide_eq_true this.2]; rfl
  have hres := hr.of_rising (ord := List.range V.seats.length) (by omega) (Nat.le_trans h.pn (by omega)) hko (List.Perm.refl _) (by
    have hrs := h.rise
    rw [← hpk] at hrs
    unfold pick at hrs
    rw [List.pairwise_map] at hrs
    exact hrs)
  have hu : normU V (List.range V.seats.length) = V := by
    unfold normU
    rw [hpk, hps, filter_rising V.kills V.seats.length h.kr h.kl]
  rw [hu, h.may hl] at hres
  exact hres
end Go.Proofs.Ytoaapngfbidllaa
