/- parterrelaw2.Text by its contract: some text of at most 500 bytes. -/
import Derived.Test.YtgpkdjhllekihaaGreatDoorTLinesS
import Derived.OpenShut
namespace Go.Proofs.YtgpkdjhllekihaaGreatDoor.Tok
open Go.RowKit Go.Shelf
set_option linter.unusedVariables false
set_option maxRecDepth 100000

/-- A slice of ints that came in, as far as it is read. -/
def Ints (w : World) (ao : Option Addr) (n : Nat) : Prop := n = 0 ∨ ∃ b off, ao = some ⟨b, off, none⟩ ∧ b < w.heap.size ∧ ∀ i, i < n → ∃ z, w.cell? ⟨b, off + i, none⟩ = some (.int .i64 z)
theorem Ints.next {w w' : World} {ao : Option Addr} {n : Nat} (h : Ints w ao n) (hb : Below w.heap.size w w') : Ints w' ao n := by
 rcases h with h | ⟨b, off, h1, h2, h3⟩
 ·exact Or.inl h
 ·exact Or.inr ⟨b, off, h1, Nat.lt_of_lt_of_le h2 hb.size, fun i hi => by rw [hb.cell (p := ⟨b, off + i, none⟩) h2]; exact h3 i hi⟩
theorem mod_u64 (z : Int) (m : Int) (h0 : 0 < m) : ∃ k : Nat, (k : Int) < m ∧ (IntKind.u64.wrap z).tmod m = k := by
 have hw : 0 ≤ IntKind.u64.wrap z := by
  unfold IntKind.wrap
  simp [IntKind.signed, IntKind.bits]
  omega
 have e : (IntKind.u64.wrap z).tmod m = (IntKind.u64.wrap z) % m := Int.tmod_eq_emod_of_nonneg hw
 have l0 := Int.emod_nonneg (IntKind.u64.wrap z) (show m ≠ 0 by omega)
 have l1 := Int.emod_lt_of_pos (IntKind.u64.wrap z) h0
 exact ⟨(IntKind.u64.wrap z % m).toNat, by omega, by rw [e]; omega⟩
theorem bapp (l r : List UInt8) : (⟨l.toArray⟩ : ByteArray) ++ ⟨r.toArray⟩ = ⟨(l ++ r).toArray⟩ := by rw [ByteArray.mk_append_mk]
/-- A row of texts in a block, none longer than 20 bytes. -/
def Lits (w : World) (b n : Nat) : Prop := ∀ m, m < n → ∃ P : List UInt8, w.cell? ⟨b, m, none⟩ = some (.string ⟨P.toArray⟩) ∧ P.length ≤ 20
theorem Lits.next {w w' : World} {b n : Nat} (h : Lits w b n) (hb : Below w.heap.size w w') (hlt : b < w.heap.size) : Lits w' b n := fun m hm => by
 obtain ⟨P, h1, h2⟩ := h m hm
 exact ⟨P, by rw [hb.cell (p := ⟨b, m, none⟩) hlt]; exact h1, h2⟩
theorem Lits.fresh (w : World) (cs : Array Value) (t : TypeId) (n : Nat) (h : ∀ m, m < n → ∃ P : List UInt8, cs[m]? = some (.string ⟨P.toArray⟩) ∧ P.length ≤ 20) : Lits (w.alloc (.cells cs t)) w.heap.size n := fun m hm => by
 obtain ⟨P, h1, h2⟩ := h m hm
 exact ⟨P, by rw [World.cell?_alloc_at _ _ _ _ rfl]; exact h1, h2⟩

set_option maxRecDepth 100000 in
set_option maxHeartbeats 1000000 in
theorem text_any (ao : Option Addr) (len cap : Nat) (hlen : len ≤ 9223372036854775807) (w : World) (hI : Ints w ao (min len 25)) :
  Calls Tryz.prog 6 #[.slice ao len cap, .int .i64 25] w fun e w' => ∃ T : List UInt8, e = .returned (.string ⟨T.toArray⟩) ∧ T.length ≤ 500 ∧ Below w.heap.size w w' := by
 have HI : Hid (Ints w ao (min len 25)) := hI
 clear hI
 go_enter Tryz.func6, Tryz.ntmps6
 go_wp2
 go_loopw [6, 7] (fun s i wr => ∃ (k : Nat) (T : List UInt8), k ≤ len ∧ k ≤ 25 ∧ T.length ≤ k * 20 ∧ i = .int .i64 k ∧ s = .string ⟨T.toArray⟩ ∧ Hid (Lits wr w.heap.size 30) ∧ w.heap.size < wr.heap.size ∧ Below w.heap.size w wr) (fun _ i _ => 25 - (intOf i).toNat)
 case atStart =>
  refine ⟨0, [], by omega, by omega, by simp, rfl, rfl, ?_, by simp, (Below.refl _ _).alloc (Nat.le_refl _) _⟩
  refine Lits.fresh _ _ _ _ ?_
  intro m hm
  match m, hm with
  | 0, _ | 1, _ | 2, _ | 3, _ | 4, _ | 5, _ | 6, _ | 7, _ | 8, _ | 9, _ | 10, _ | 11, _ | 12, _ | 13, _ | 14, _ | 15, _ | 16, _ | 17, _ | 18, _ | 19, _ | 20, _ | 21, _ | 22, _ | 23, _ | 24, _ | 25, _ | 26, _ | 27, _ | 28, _ | 29, _ => exact ⟨_, rfl, by decide⟩
  | m + 30, h => omega
 case round =>
  obtain ⟨k, T, hk, hk25, hT, rfl, rfl, HL, hz, hB⟩ := hrel
  by_cases h1 : k < len
  ·have h1z : (k : Int) < len := by omega
   by_cases h2 : k < 25
   ·have h2z : (k : Int) < 25 := by omega
    obtain ⟨b, off, rfl, hbl, z, hc⟩ : ∃ b off, ao = some ⟨b, off, none⟩ ∧ b < w.heap.size ∧ ∃ z, w.cell? ⟨b, off + k, none⟩ = some (.int .i64 z) := by
     rcases HI.out with h | ⟨b, off, h3, h4, h5⟩
     ·omega
     ·exact ⟨b, off, h3, h4, h5 k (by omega)⟩
    have hc1 : wr.cell? ⟨b, off + k, none⟩ = some (.int .i64 z) := by rw [hB.cell (p := ⟨b, off + k, none⟩) hbl]; exact hc
    clear hc
    obtain ⟨m, hm, em⟩ := mod_u64 z 30 (by omega)
    obtain ⟨P, hP, hPl⟩ := HL.out m (by omega)
    go_wp2
    refine ⟨⟨k + 1, T ++ P, by omega, by omega, by simp; omega, by go_num, by rw [bapp], HL, hz, hB⟩, by simp [intOf]; omega⟩
   ·have h2z : ¬ (k : Int) < 25 := by omega
    go_wp2
    go_ret
    exact ⟨T, rfl, by omega, hB⟩
  ·have h1z : ¬ (k : Int) < len := by omega
   go_wp2
   go_ret
   exact ⟨T, rfl, by omega, hB⟩

/-- A slice of ints that came in: nil, or a row of 'cap' cells. -/
def IsRow (k : IntKind) (w : World) (a : Option Addr) (len cap : Nat) (zs : List Int) : Prop :=
 (a = none ∧ len = 0 ∧ cap = 0 ∧ zs = []) ∨
 ∃ x, a = some x ∧ len ≤ cap ∧ cap ≤ maxLen ∧ zs.length = cap ∧ (∀ i, i < zs.length → w.cell? (x.add i) = some (.int k (zs.getD i 0))) ∧ ∀ n ∈ zs, (Lit.int k n).wf = true
theorem IsRow.len {w : World} {ao : Option Addr} {len cap : Nat} {zs : List Int} (h : IsRow .i64 w ao len cap zs) : len ≤ 9223372036854775807 := by
 rcases h with ⟨_, rfl, _⟩ | ⟨x, _, hl, hm, _⟩
 ·omega
 ·unfold maxLen at hm; omega
theorem IsRow.ints {w : World} {ao : Option Addr} {len cap : Nat} {zs : List Int} (h : IsRow .i64 w ao len cap zs) (m : Nat) : Ints w ao (min len m) := by
 rcases h with ⟨_, rfl, _⟩ | ⟨x, rfl, hl, hm, hz, hcell, _⟩
 ·exact Or.inl (by simp)
 ·rcases Nat.eq_zero_or_pos (min len m) with h0 | h0
  ·exact Or.inl h0
  ·obtain ⟨b, off, rfl, hc⟩ := ints_at hcell (show 0 < zs.length by omega)
   refine Or.inr ⟨b, off, rfl, ?_, fun i hi => ⟨_, hc i (by omega)⟩⟩
   have h1 := hc 0 (by omega)
   rcases Nat.lt_or_ge b w.heap.size with h' | h'
   ·exact h'
   ·simp [World.cell?, Array.getElem?_eq_none h'] at h1
end Go.Proofs.YtgpkdjhllekihaaGreatDoor.Tok
