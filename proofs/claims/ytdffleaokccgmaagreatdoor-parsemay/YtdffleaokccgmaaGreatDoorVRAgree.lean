/- What parterreref2.Norm may come to is what venue.Norm may come to. -/
import Derived.Test.YtdffleaokccgmaaGreatDoorVKeys
namespace Go.Proofs.YtdffleaokccgmaaGreatDoor.Ven
set_option linter.unusedVariables false

theorem ltS_ntrans {a b c : Seat} (h1 : ltS a b = false) (h2 : ltS b c = false) : ltS a c = false := by
  cases h : ltS a c with
  | false => rfl
  | true =>
    exfalso
    have n1 : ¬ ltS a b = true := by rw [h1]; simp
    have n2 : ¬ ltS b c = true := by rw [h2]; simp
    rw [ltS_iff] at h n1 n2; omega
/-- 'at' is where the seat of that place stands first, or the last place. -/
structure AtOf (S : List Seat) (s : Seat) (at_ : Nat) : Prop where
  lt : at_ < S.length
  stop : at_ + 1 = S.length ∨ ¬ keyNe S[at_] s
  before : ∀ q (hq : q < S.length), q < at_ → keyNe S[q] s
theorem AtOf.unique {S : List Seat} {s : Seat} {a b : Nat} (h : AtOf S s a) (h' : AtOf S s b) : a = b := by
  have := h.lt
  have := h'.lt
  rcases Nat.lt_trichotomy a b with hl | hl | hl
  · rcases h.stop with hs | hs
    · omega
    · exact absurd (h'.before a h.lt hl) hs
  · exact hl
  · rcases h'.stop with hs | hs
    · omega
    · exact absurd (h.before b h'.lt hl) hs
theorem AtOf.key {S : List Seat} {s : Seat} {a : Nat} (h : AtOf S s a) (hm : s ∈ S) : ¬ keyNe (S[a]'h.lt) s := by
  rcases h.stop with hs | hs
  · obtain ⟨q, hq, rfl⟩ := List.getElem_of_mem hm
    rcases Nat.lt_or_ge q a with hl | hl
    · exact absurd ⟨rfl, rfl⟩ (h.before q hq hl)
    · have e : q = a := by omega
      subst e; exact fun hk => hk ⟨rfl, rfl⟩
  · exact hs
theorem rising_eq : ∀ l1 l2 : List Int, l1.Pairwise (fun a b => a < b) → l2.Pairwise (fun a b => a < b) → (∀ x, x ∈ l1 ↔ x ∈ l2) → l1 = l2
  | [], [], _, _, _ => rfl
  | [], y :: r, _, _, h => by have := (h y).2 List.mem_cons_self; cases this
  | x :: r, [], _, _, h => by have := (h x).1 List.mem_cons_self; cases this
  | x :: r, y :: r2, h1, h2, h => by
    rw [List.pairwise_cons] at h1 h2
    have hxy : x = y := by
      rcases List.mem_cons.1 ((h x).1 List.mem_cons_self) with h' | h'
      · exact h'
      · rcases List.mem_cons.1 ((h y).2 List.mem_cons_self) with h'' | h''
        · exact h''.symm
        · have := h1.1 y h''; have := h2.1 x h'; omega
    subst hxy
    rw [rising_eq r r2 h1.2 h2.2 fun z => ⟨fun hz => ?_, fun hz => ?_⟩]
    · rcases List.mem_cons.1 ((h z).1 (List.mem_cons_of_mem _ hz)) with h' | h'
      · have := h1.1 z hz; omega
      · exact h'
    · rcases List.mem_cons.1 ((h z).2 (List.mem_cons_of_mem _ hz)) with h' | h'
      · have := h2.1 z hz; omega
      · exact h'
theorem posOf_rising (kills : List Int) (ord : List Nat) (n : Nat) : (posOf kills ord n).Pairwise (fun a b => a < b) := by
  unfold posOf
  rw [List.pairwise_map]
  exact (List.pairwise_lt_range.filter _).imp fun h => by omega
theorem mem_posOf (kills : List Int) (ord : List Nat) (n : Nat) (x : Int) : x ∈ posOf kills ord n ↔ ∃ j : Nat, j < n ∧ ((ord[j]! : Nat) : Int) ∈ kills ∧ x = (j : Int) := by
  unfold posOf markB
  simp only [List.mem_map, List.mem_filter, List.mem_range, decide_eq_true_eq]
  constructor
  · rintro ⟨j, ⟨h1, h2⟩, rfl⟩; exact ⟨j, h1, h2, rfl⟩
  · rintro ⟨j, h1, h2, rfl⟩; exact ⟨j, ⟨h1, h2⟩, rfl⟩
/-- What parterreref2.Norm may come to. -/
def RNormTo (V : Ven) (r : Option Ven) : Prop :=
  (V.kills.all (fun k => isSeatB k V.seats.length) = false ∧ r = none) ∨
  (V.kills.all (fun k => isSeatB k V.seats.length) = true ∧ ∃ S K, S.Perm V.seats ∧ S.Pairwise (fun a b => ltS b a = false) ∧ K.Pairwise (fun a b : Int => a < b) ∧ (∀ x : Int, x ∈ K ↔ ∃ k ∈ V.kills, ∃ a : Nat, AtOf S V.seats[k.toNat]! a ∧ x = (a : Int)) ∧
    r = if mayB ⟨S, V.gap, V.radius, K, V.poles⟩ then some ⟨S, V.gap, V.radius, K, V.poles⟩ else none)
theorem keys_apart {l : List Seat} (h : l.Pairwise keyNe) {i j : Nat} (hi : i < l.length) (hj : j < l.length) (hk : ¬ keyNe l[i] l[j]) : i = j := by
  rw [List.pairwise_iff_getElem] at h
  rcases Nat.lt_trichotomy i j with hl | hl | hl
  · exact absurd (h i j hi hj hl) hk
  · exact hl
  · exact absurd (keyNe_symm (h j i hj hi hl)) hk
theorem norm_agree {V : Ven} {r r' : Option Ven} (h : NormTo V r) (h' : RNormTo V r') (h1 : V.seats.length ≤ 4096) (h2 : V.poles.length ≤ 200) : r = r' := by
  rcases h' with ⟨hk, rfl⟩ | ⟨hk, S, K, hp, hs, hKr, hKm, rfl⟩
  · rcases h with ⟨h, _⟩ | ⟨_, _, hk', _⟩
    · exact h
    · rw [hk] at hk'; cases hk'
  · by_cases hd : V.seats.Pairwise keyNe
    · rcases h with ⟨_, h⟩ | ⟨_, _, _, ord, ho, rfl⟩
      · rcases h with h | h | h
        · omega
        · omega
        · rw [hk] at h; cases h
      · have hrise := pick_rising ho hd
        have hS : pick V.seats ord = S := rising_unique ltS _ _ ((pick_perm ho).trans hp.symm) hrise hs
        have hSl : S.length = V.seats.length := hp.length_eq
        have hat : ∀ j (hj : j < S.length), S[j] = V.seats[ord[j]!]! := by
          intro j hj
          have hjo : j < ord.length := by rw [ho.length, ← hSl]; exact hj
          subst hS
          simp only [pick, List.getElem_map, getElem!_pos ord j hjo]
        have hSr : S.Pairwise (fun a b => ltS a b = true) := hS ▸ hrise
        have hK : posOf V.kills ord V.seats.length = K := by
          refine rising_eq _ _ (posOf_rising _ _ _) hKr fun x => ?_
          rw [mem_posOf, hKm]
          constructor
          · rintro ⟨j, hj, hm, rfl⟩
            refine ⟨_, hm, j, ?_, rfl⟩
            have hj' : j < S.length := by omega
            rw [Int.toNat_natCast, ← hat j hj']
            refine ⟨hj', .inr fun hk => hk ⟨rfl, rfl⟩, fun q hq hql => ?_⟩
            exact lt_keyNe ((List.pairwise_iff_getElem.1 hSr) q j hq hj' hql)
          · rintro ⟨k, hkm, a, ha, rfl⟩
            have hv := List.all_eq_true.1 hk k hkm
            unfold isSeatB at hv
            simp only [Bool.and_eq_true, decide_eq_true_eq] at hv
            have hkn : k.toNat < V.seats.length := by omega
            rw [getElem!_pos V.seats k.toNat hkn] at ha
            have hkey := ha.key (hp.mem_iff.2 (List.getElem_mem hkn))
            have hal := ha.lt
            have hol := ho.lt a (by omega)
            rw [hat a hal, getElem!_pos V.seats ord[a]! hol] at hkey
            have e := keys_apart hd hol hkn hkey
            refine ⟨a, by omega, ?_, rfl⟩
            rw [e]
            have : ((k.toNat : Nat) : Int) = k := by omega
            rw [this]; exact hkm
        have hU : normU V ord = ⟨S, V.gap, V.radius, K, V.poles⟩ := by unfold normU; rw [hS, hK]
        rw [hU]
    · have hn := h.of_none (fun ord ho => not_rising ho hd)
      rw [hn]
      cases hm : mayB ⟨S, V.gap, V.radius, K, V.poles⟩ with
      | false => rfl
      | true =>
        exfalso
        unfold mayB at hm
        simp only [Bool.and_eq_true, and_assoc] at hm
        exact hd (hp.pairwise (rising_keys ((seatsB_iff _).1 hm.1).2.2.2) (fun hab => keyNe_symm hab))
/-- A seat put among sorted ones, behind those that are not behind it. -/
theorem ins_sorted {S : List Seat} (s : Seat) (k : Nat) (hk : k ≤ S.length) (hs : S.Pairwise (fun a b => ltS b a = false)) (h1 : ∀ (h : 0 < k) (hk : k - 1 < S.length), ltS s S[k - 1] = false) (h2 : ∀ q, k ≤ q → (hq : q < S.length) → ltS s S[q] = true) :
    (∀ a ∈ S.take k, ltS s a = false) ∧ (∀ b ∈ S.drop k, ltS b s = false) := by
  refine ⟨fun a ha => ?_, fun b hb => ?_⟩
  · obtain ⟨i, hi, rfl⟩ := List.getElem_of_mem ha
    rw [List.length_take] at hi
    rw [List.getElem_take]
    have hk1 : k - 1 < S.length := by omega
    have h := h1 (by omega) hk1
    rcases Nat.lt_or_ge i (k - 1) with h' | h'
    · exact ltS_ntrans h ((List.pairwise_iff_getElem.1 hs) i (k - 1) (by omega) hk1 h')
    · have e : i = k - 1 := by omega
      subst e; exact h
  · obtain ⟨i, hi, rfl⟩ := List.getElem_of_mem hb
    rw [List.length_drop] at hi
    rw [List.getElem_drop]
    exact ltS_asymm (h2 (k + i) (by omega) (by omega))
end Go.Proofs.YtdffleaokccgmaaGreatDoor.Ven
