/- strings.Clone, token.word by contracts. -/
import Derived.Test.YtgpkdjhllekihaaGreatDoorTRead
namespace Go.Proofs.YtgpkdjhllekihaaGreatDoor.Tok
set_option linter.unusedVariables false
set_option maxRecDepth 100000
open Go.RowKit Go.Shelf
attribute [local go_sem] bget bdrop btake

/-- A token, as a value. -/
abbrev tokV (k n li co : Int) (t : List UInt8) : Value := .agg #[.int .i64 k, .int .i64 n, .int .i64 li, .int .i64 co, .string ⟨t.toArray⟩]
/-- What 'read' answers. -/
abbrev gotV (g : Got) : Value := .tuple #[tokV g.1 g.2.1 0 0 g.2.2.1, .int .i64 g.2.2.2.1, .bool g.2.2.2.2]

theorem bcell {W w1 : World} (hb : Below W.heap.size W w1) : (∀ b o, b < W.heap.size → w1.cell? ⟨b, o, none⟩ = W.cell? ⟨b, o, none⟩) ∧ (∀ b o, b < W.heap.size → w1.frozen? ⟨b, o, none⟩ = W.frozen? ⟨b, o, none⟩) :=
 ⟨fun b o h => hb.cell (p := ⟨b, o, none⟩) h, fun b o h => hb.frozen (p := ⟨b, o, none⟩) h⟩

theorem Clone_any (l : List UInt8) (hl : l.length ≤ 1048576) (w : World) :
  Calls Tryz.prog 101 #[.string ⟨l.toArray⟩] w fun e w' => e = .returned (.string ⟨l.toArray⟩) ∧ Below w.heap.size w w' := by
 go_enter Tryz.func101, Tryz.ntmps101
 go_wp2_with fail
 refine (Tryz.stringslite_Clone ⟨l.toArray⟩ _ (by show l.toArray.size ≤ _; simp; omega)).mono ?_
 rintro e w' ⟨rfl, hb⟩
 go_wp2
 go_ret
 exact ⟨rfl, hb⟩

set_option maxHeartbeats 1000000 in
theorem word_bad1 (l : List UInt8) (hl : l.length ≤ 1048576) (w : World) (b : Nat) (HB : Hid (spanL letterB l = b)) (hlt : b < l.length) (HD : Hid (digitB l[b] = true)) :
  Calls Tryz.prog 90 #[.string ⟨l.toArray⟩] w fun e w' => e = .returned (gotV (0, 0, [], b, false)) ∧ Below w.heap.size w w' := by
 have hbl : (b : Int) < (l.length : Int) := by omega
 go_enter Tryz.func90, Tryz.ntmps90
 go_wp2_with fail
 refine (span_letter l hl _).mono ?_
 rintro e w' ⟨rfl, rfl⟩
 rw [HB.out]
 go_wp2_with fail
 refine (isDigit_any l[b] _).mono ?_
 rintro e w' ⟨rfl, rfl⟩
 rw [HD.out]
 go_wp2
 exact bodyPost_ret (v := gotV (0, 0, [], b, false)) (by simp [results, Tryz.results90, go_sem]) rfl ⟨rfl, (Below.refl _ _).alloc (Nat.le_refl _) _⟩

set_option maxHeartbeats 1000000 in
theorem word_bad2 (l : List UInt8) (hl : l.length ≤ 1048576) (w : World) (b : Nat) (HB : Hid (spanL letterB l = b)) (hlt : b < l.length) (HD : Hid (digitB l[b] = false)) (h45 : ((l[b].toNat : Int) == 45) = true) :
  Calls Tryz.prog 90 #[.string ⟨l.toArray⟩] w fun e w' => e = .returned (gotV (0, 0, [], b, false)) ∧ Below w.heap.size w w' := by
 have hbl : (b : Int) < (l.length : Int) := by omega
 go_enter Tryz.func90, Tryz.ntmps90
 go_wp2_with fail
 refine (span_letter l hl _).mono ?_
 rintro e w' ⟨rfl, rfl⟩
 rw [HB.out]
 go_wp2_with fail
 refine (isDigit_any l[b] _).mono ?_
 rintro e w' ⟨rfl, rfl⟩
 rw [HD.out]
 go_wp2
 exact bodyPost_ret (v := gotV (0, 0, [], b, false)) (by simp [results, Tryz.results90, go_sem]) rfl ⟨rfl, (Below.refl _ _).alloc (Nat.le_refl _) _⟩

set_option maxHeartbeats 1000000 in
theorem word_good1 (l : List UInt8) (hl : l.length ≤ 1048576) (w : World) (b : Nat) (HB : Hid (spanL letterB l = b)) (hlt : b < l.length) (HD : Hid (digitB l[b] = false)) (h45 : ((l[b].toNat : Int) == 45) = false) :
  Calls Tryz.prog 90 #[.string ⟨l.toArray⟩] w fun e w' => e = .returned (gotV (1, 0, l.take b, b, true)) ∧ Below w.heap.size w w' := by
 have hbl : (b : Int) < (l.length : Int) := by omega
 go_enter Tryz.func90, Tryz.ntmps90
 go_wp2_with fail
 refine (span_letter l hl _).mono ?_
 rintro e w' ⟨rfl, rfl⟩
 rw [HB.out]
 go_wp2_with fail
 refine (isDigit_any l[b] _).mono ?_
 rintro e w' ⟨rfl, rfl⟩
 rw [HD.out]
 go_wp2_with fail
 refine (Clone_any (l.take b) (by simp; omega) _).mono ?_
 rintro e w' ⟨rfl, hb⟩
 obtain ⟨hc, hf⟩ := bcell hb
 have hz : w.heap.size < w'.heap.size := by have := hb.size; simp at this; omega
 simp at hc hf
 go_wp2
 exact bodyPost_ret (v := gotV (1, 0, l.take b, b, true)) (by simp [results, Tryz.results90, go_sem, hc]) rfl ⟨rfl, by
  repeat refine Below.setCell ?_ (by simp) _
  exact ((Below.refl _ w).alloc (Nat.le_refl _) _).trans (hb.mono (by simp))⟩

set_option maxHeartbeats 1000000 in
theorem word_good2 (l : List UInt8) (hl : l.length ≤ 1048576) (w : World) (b : Nat) (HB : Hid (spanL letterB l = b)) (hlt : b = l.length) :
  Calls Tryz.prog 90 #[.string ⟨l.toArray⟩] w fun e w' => e = .returned (gotV (1, 0, l.take b, b, true)) ∧ Below w.heap.size w w' := by
 have hbl : ¬ (b : Int) < (l.length : Int) := by omega
 have hle : b ≤ l.length := by omega
 clear hlt
 go_enter Tryz.func90, Tryz.ntmps90
 go_wp2_with fail
 refine (span_letter l hl _).mono ?_
 rintro e w' ⟨rfl, rfl⟩
 rw [HB.out]
 go_wp2_with fail
 refine (Clone_any (l.take b) (by simp; omega) _).mono ?_
 rintro e w' ⟨rfl, hb⟩
 obtain ⟨hc, hf⟩ := bcell hb
 have hz : w.heap.size < w'.heap.size := by have := hb.size; simp at this; omega
 simp at hc hf
 go_wp2
 exact bodyPost_ret (v := gotV (1, 0, l.take b, b, true)) (by simp [results, Tryz.results90, go_sem, hc]) rfl ⟨rfl, by
  repeat refine Below.setCell ?_ (by simp) _
  exact ((Below.refl _ w).alloc (Nat.le_refl _) _).trans (hb.mono (by simp))⟩


theorem word_any (l : List UInt8) (hl : l.length ≤ 1048576) (w : World) :
  Calls Tryz.prog 90 #[.string ⟨l.toArray⟩] w fun e w' => e = .returned (gotV (wordL l)) ∧ Below w.heap.size w w' := by
 have hle := spanL_le letterB l
 unfold wordL
 generalize hb : spanL letterB l = b
 rw [hb] at hle
 by_cases hlt : b < l.length
 ·have hd : l.drop b = l[b] :: l.drop (b + 1) := List.drop_eq_getElem_cons hlt
  have hbw : badW (l.drop b) = (digitB l[b] || (l[b].toNat : Int) == 45) := by rw [hd]; rfl
  rw [hbw]
  cases hdg : digitB l[b] with
  | true => simpa using word_bad1 l hl w b hb hlt hdg
  | false =>
   cases h45 : ((l[b].toNat : Int) == 45) with
   | true => simpa using word_bad2 l hl w b hb hlt hdg h45
   | false => simpa using word_good1 l hl w b hb hlt hdg h45
 ·have e : b = l.length := by omega
  have hd : badW (l.drop b) = false := by rw [e]; simp [badW]
  rw [hd]
  simpa using word_good2 l hl w b hb e
end Go.Proofs.YtgpkdjhllekihaaGreatDoor.Tok
