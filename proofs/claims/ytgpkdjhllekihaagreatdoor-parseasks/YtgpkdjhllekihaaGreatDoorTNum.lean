/- token.number, token.read by contracts. -/
import Derived.Test.YtgpkdjhllekihaaGreatDoorTWord
import Derived.Lib.AtoiErrMem
namespace Go.Proofs.YtgpkdjhllekihaaGreatDoor.Tok
set_option linter.unusedVariables false
set_option maxRecDepth 100000
open Go.RowKit Go.Shelf
attribute [local go_sem] bget bdrop btake

/-- What the variable strconv.ErrRange holds is an error. -/
def Rng (w : World) : Prop := ∃ tp pe, w.cell? ⟨2, 0, none⟩ = some (.iface tp pe)
theorem Rng.lt {w : World} (h : Rng w) : 2 < w.heap.size := by
 obtain ⟨tp, pe, h⟩ := h
 rcases Nat.lt_or_ge 2 w.heap.size with h' | h'
 ·exact h'
 ·simp [World.cell?, Array.getElem?_eq_none h'] at h
theorem Rng.next {w w' : World} (h : Rng w) (hb : Below w.heap.size w w') : Rng w' := by
 have hl := h.lt
 obtain ⟨tp, pe, h⟩ := h
 exact ⟨tp, pe, by rw [hb.cell (p := ⟨2, 0, none⟩) hl]; exact h⟩

theorem Parse_ok (l : List UInt8) (hl : l.length ≤ 1048576) (v : Int) (h : Lib.parseIntB 32 l = .ok v) (w : World) :
  Calls Tryz.prog 102 #[.string ⟨l.toArray⟩, .int .i64 10, .int .i64 32] w fun e w' => e = .returned (.tuple #[.int .i64 v, .nilIface]) ∧ Below w.heap.size w w' := by
 refine (Tryz.strconv_ParseInt_10_at32_ok ⟨l.toArray⟩ (by show l.toArray.size ≤ _; simp; omega) v (by show Lib.parseIntB 32 l = _; exact h) w).mono ?_
 rintro e w' ⟨rfl, rfl | ⟨t, rfl⟩⟩
 ·exact ⟨rfl, Below.refl _ _⟩
 ·exact ⟨rfl, Lib.bytesWorld_below w 5 t⟩
theorem Parse_range (l : List UInt8) (hl : l.length ≤ 1048576) (h : Lib.parseIntB 32 l = .range) (w : World) (hR : Rng w) :
  Calls Tryz.prog 102 #[.string ⟨l.toArray⟩, .int .i64 10, .int .i64 32] w fun e w' => ∃ x N, e = .returned (.tuple #[.int .i64 x, .iface 202 (.pointer (some ⟨N, 0, none⟩))]) ∧ Below w.heap.size w w' := by
 obtain ⟨tp, pe, hR⟩ := hR
 refine (Tryz.strconv_ParseInt_10_at32_range ⟨l.toArray⟩ (by show l.toArray.size ≤ _; simp; omega) (by show Lib.parseIntB 32 l = _; exact h) _ w hR (Or.inr ⟨tp, pe, rfl⟩)).mono ?_
 rintro e w' ⟨N, rfl, _, _, hb⟩
 exact ⟨_, N, rfl, hb⟩

set_option maxHeartbeats 1000000 in
theorem number_range (l : List UInt8) (hl : l.length ≤ 1048576) (h1 : 1 ≤ l.length) (w : World) (k : Nat) (hk : 1 + k ≤ l.length) (HB : Hid (spanL digitB l.tail = k)) (hR : Rng w) (HP : Hid (Lib.parseIntB 32 (l.take (1 + k)) = .range)) :
  Calls Tryz.prog 92 #[.string ⟨l.toArray⟩] w fun e w' => e = .returned (gotV (0, 0, [], 0, false)) ∧ Below w.heap.size w w' := by
 go_enter Tryz.func92, Tryz.ntmps92
 go_wp2_with fail
 refine (span_digit l.tail (by simp; omega) _).mono ?_
 rintro e w' ⟨rfl, rfl⟩
 rw [HB.out]
 go_wp2_with fail
 refine (Parse_range (l.take (1 + k)) (by simp; omega) HP.out _ (hR.next ((Below.refl _ w).alloc (Nat.le_refl _) _))).mono ?_
 rintro e w1 ⟨x, NN, rfl, hb⟩
 obtain ⟨hc, hf⟩ := bcell hb
 have hz : w.heap.size < w1.heap.size := by have := hb.size; simp at this; omega
 have hB1 : Below w.heap.size w w1 := ((Below.refl _ w).alloc (Nat.le_refl _) _).trans (hb.mono (by simp))
 simp at hc hf
 clear hb
 go_wp2
 exact bodyPost_ret (v := gotV (0, 0, [], 0, false)) (by simp [results, Tryz.results92, go_sem, hc]) rfl ⟨rfl, by
  repeat refine Below.setCell ?_ (by simp) _
  exact hB1⟩

set_option maxHeartbeats 1000000 in
theorem number_bad1 (l : List UInt8) (hl : l.length ≤ 1048576) (h1 : 1 ≤ l.length) (w : World) (k : Nat) (hk : 1 + k ≤ l.length) (HB : Hid (spanL digitB l.tail = k)) (v : Int) (HP : Hid (Lib.parseIntB 32 (l.take (1 + k)) = .ok v))(hlt : 1 + k < l.length) (HD : Hid (letterB l[1 + k] = true)) :
  Calls Tryz.prog 92 #[.string ⟨l.toArray⟩] w fun e w' => e = .returned (gotV (0, 0, [], 1 + k, false)) ∧ Below w.heap.size w w' := by
 have hbl : 1 + (k : Int) < (l.length : Int) := by omega
 go_enter Tryz.func92, Tryz.ntmps92
 go_wp2_with fail
 refine (span_digit l.tail (by simp; omega) _).mono ?_
 rintro e w' ⟨rfl, rfl⟩
 rw [HB.out]
 go_wp2_with fail
 refine (Parse_ok (l.take (1 + k)) (by simp; omega) v HP.out _).mono ?_
 rintro e w1 ⟨rfl, hb⟩
 obtain ⟨hc, hf⟩ := bcell hb
 have hz : w.heap.size < w1.heap.size := by have := hb.size; simp at this; omega
 have hB1 : Below w.heap.size w w1 := ((Below.refl _ w).alloc (Nat.le_refl _) _).trans (hb.mono (by simp))
 simp at hc hf
 clear hb
 go_wp2_with fail
 refine (isLetter_any l[1 + k] _).mono ?_
 rintro e w' ⟨rfl, rfl⟩
 rw [HD.out]
 go_wp2
 exact bodyPost_ret (v := gotV (0, 0, [], 1 + k, false)) (by simp [results, Tryz.results92, go_sem, hc]) rfl ⟨rfl, by
  repeat refine Below.setCell ?_ (by simp) _
  exact hB1⟩

set_option maxHeartbeats 1000000 in
theorem number_bad2 (l : List UInt8) (hl : l.length ≤ 1048576) (h1 : 1 ≤ l.length) (w : World) (k : Nat) (hk : 1 + k ≤ l.length) (HB : Hid (spanL digitB l.tail = k)) (v : Int) (HP : Hid (Lib.parseIntB 32 (l.take (1 + k)) = .ok v))(hlt : 1 + k < l.length) (HD : Hid (letterB l[1 + k] = false)) (h45 : ((l[1 + k].toNat : Int) == 45) = true) :
  Calls Tryz.prog 92 #[.string ⟨l.toArray⟩] w fun e w' => e = .returned (gotV (0, 0, [], 1 + k, false)) ∧ Below w.heap.size w w' := by
 have hbl : 1 + (k : Int) < (l.length : Int) := by omega
 go_enter Tryz.func92, Tryz.ntmps92
 go_wp2_with fail
 refine (span_digit l.tail (by simp; omega) _).mono ?_
 rintro e w' ⟨rfl, rfl⟩
 rw [HB.out]
 go_wp2_with fail
 refine (Parse_ok (l.take (1 + k)) (by simp; omega) v HP.out _).mono ?_
 rintro e w1 ⟨rfl, hb⟩
 obtain ⟨hc, hf⟩ := bcell hb
 have hz : w.heap.size < w1.heap.size := by have := hb.size; simp at this; omega
 have hB1 : Below w.heap.size w w1 := ((Below.refl _ w).alloc (Nat.le_refl _) _).trans (hb.mono (by simp))
 simp at hc hf
 clear hb
 go_wp2_with fail
 refine (isLetter_any l[1 + k] _).mono ?_
 rintro e w' ⟨rfl, rfl⟩
 rw [HD.out]
 go_wp2
 exact bodyPost_ret (v := gotV (0, 0, [], 1 + k, false)) (by simp [results, Tryz.results92, go_sem, hc]) rfl ⟨rfl, by
  repeat refine Below.setCell ?_ (by simp) _
  exact hB1⟩

set_option maxHeartbeats 1000000 in
theorem number_good1 (l : List UInt8) (hl : l.length ≤ 1048576) (h1 : 1 ≤ l.length) (w : World) (k : Nat) (hk : 1 + k ≤ l.length) (HB : Hid (spanL digitB l.tail = k)) (v : Int) (HP : Hid (Lib.parseIntB 32 (l.take (1 + k)) = .ok v))(hlt : 1 + k < l.length) (HD : Hid (letterB l[1 + k] = false)) (h45 : ((l[1 + k].toNat : Int) == 45) = false) :
  Calls Tryz.prog 92 #[.string ⟨l.toArray⟩] w fun e w' => e = .returned (gotV (2, v, l.take (1 + k), 1 + k, true)) ∧ Below w.heap.size w w' := by
 have hbl : 1 + (k : Int) < (l.length : Int) := by omega
 go_enter Tryz.func92, Tryz.ntmps92
 go_wp2_with fail
 refine (span_digit l.tail (by simp; omega) _).mono ?_
 rintro e w' ⟨rfl, rfl⟩
 rw [HB.out]
 go_wp2_with fail
 refine (Parse_ok (l.take (1 + k)) (by simp; omega) v HP.out _).mono ?_
 rintro e w1 ⟨rfl, hb⟩
 obtain ⟨hc, hf⟩ := bcell hb
 have hz : w.heap.size < w1.heap.size := by have := hb.size; simp at this; omega
 have hB1 : Below w.heap.size w w1 := ((Below.refl _ w).alloc (Nat.le_refl _) _).trans (hb.mono (by simp))
 simp at hc hf
 clear hb
 go_wp2_with fail
 refine (isLetter_any l[1 + k] _).mono ?_
 rintro e w' ⟨rfl, rfl⟩
 rw [HD.out]
 go_wp2_with fail
 refine (Clone_any (l.take (1 + k)) (by simp; omega) _).mono ?_
 rintro e w2 ⟨rfl, hb⟩
 obtain ⟨hc2, hf2⟩ := bcell hb
 have hz2 : w.heap.size < w2.heap.size := by have := hb.size; omega
 have hB2 : Below w.heap.size w w2 := hB1.trans (hb.mono (by omega))
 clear hb hB1
 go_wp2
 exact bodyPost_ret (v := gotV (2, v, l.take (1 + k), 1 + k, true)) (by simp [results, Tryz.results92, go_sem, hc, hz, hc2]) rfl ⟨rfl, by
  repeat refine Below.setCell ?_ (by simp) _
  exact hB2⟩

set_option maxHeartbeats 1000000 in
theorem number_good2 (l : List UInt8) (hl : l.length ≤ 1048576) (h1 : 1 ≤ l.length) (w : World) (k : Nat) (hk : 1 + k ≤ l.length) (HB : Hid (spanL digitB l.tail = k)) (v : Int) (HP : Hid (Lib.parseIntB 32 (l.take (1 + k)) = .ok v)) (hlt : 1 + k = l.length) :
  Calls Tryz.prog 92 #[.string ⟨l.toArray⟩] w fun e w' => e = .returned (gotV (2, v, l.take (1 + k), 1 + k, true)) ∧ Below w.heap.size w w' := by
 have hbl : ¬ 1 + (k : Int) < (l.length : Int) := by omega
 have HL : Hid (1 + k = l.length) := hlt
 clear hlt
 go_enter Tryz.func92, Tryz.ntmps92
 go_wp2_with fail
 refine (span_digit l.tail (by simp; omega) _).mono ?_
 rintro e w' ⟨rfl, rfl⟩
 rw [HB.out]
 go_wp2_with fail
 refine (Parse_ok (l.take (1 + k)) (by simp; omega) v HP.out _).mono ?_
 rintro e w1 ⟨rfl, hb⟩
 obtain ⟨hc, hf⟩ := bcell hb
 have hz : w.heap.size < w1.heap.size := by have := hb.size; simp at this; omega
 have hB1 : Below w.heap.size w w1 := ((Below.refl _ w).alloc (Nat.le_refl _) _).trans (hb.mono (by simp))
 simp at hc hf
 clear hb
 go_wp2_with fail
 refine (Clone_any (l.take (1 + k)) (by simp; omega) _).mono ?_
 rintro e w2 ⟨rfl, hb⟩
 obtain ⟨hc2, hf2⟩ := bcell hb
 have hz2 : w.heap.size < w2.heap.size := by have := hb.size; omega
 have hB2 : Below w.heap.size w w2 := hB1.trans (hb.mono (by omega))
 clear hb hB1
 go_wp2
 exact bodyPost_ret (v := gotV (2, v, l.take (1 + k), 1 + k, true)) (by simp [results, Tryz.results92, go_sem, hc, hz, hc2]) rfl ⟨rfl, by
  repeat refine Below.setCell ?_ (by simp) _
  exact hB2⟩


theorem takeWhile_all (p : UInt8 → Bool) (l : List UInt8) : ∀ c ∈ l.take (spanL p l), p c = true := by
 unfold spanL
 induction l with
 | nil => intro c hc; simp at hc
 | cons a r ih =>
  rw [List.takeWhile_cons]
  by_cases h : p a = true
  ·rw [if_pos h]; intro c hc; simp at hc
   rcases hc with rfl | hc
   ·exact h
   ·exact ih c hc
  ·rw [if_neg h]; intro c hc; simp at hc

/-- A run of digits, or a sign and a run of digits that is not empty, is read as a number. -/
theorem parse32_at (c : UInt8) (r : List UInt8) (h : digitB c = true ∨ (c.toNat = 45 ∧ spanL digitB r ≠ 0)) :
  Lib.parseIntB 32 ((c :: r).take (1 + spanL digitB r)) = match num32 ((c :: r).take (1 + spanL digitB r)) with | some v => .ok v | none => .range := by
 have hall := takeWhile_all digitB r
 rw [Nat.add_comm 1, List.take_succ_cons]
 rcases h with h | ⟨h, hz⟩
 ·exact parse32_digits _ (by simp) (by intro x hx; rcases List.mem_cons.1 hx with rfl | hx; exact h; exact hall x hx)
 ·refine parse32_minus c h _ ?_ hall
  intro e
  have := congrArg List.length e
  have hle := spanL_le digitB r
  simp at this; rcases this with h0 | h0
  ·exact hz h0
  ·subst h0; simp at hle; exact hz hle

theorem number_any (c : UInt8) (r : List UInt8) (h : digitB c = true ∨ (c.toNat = 45 ∧ spanL digitB r ≠ 0)) (hl : (c :: r).length ≤ 1048576) (w : World) (hR : Rng w) :
  Calls Tryz.prog 92 #[.string ⟨(c :: r).toArray⟩] w fun e w' => e = .returned (gotV (numL (c :: r))) ∧ Below w.heap.size w w' := by
 have hp := parse32_at c r h
 have hle := spanL_le digitB r
 clear h
 unfold numL
 rw [List.tail_cons]
 generalize hb : spanL digitB r = k
 rw [hb] at hle hp
 have hb' : spanL digitB (c :: r).tail = k := hb
 clear hb
 have h1 : 1 ≤ (c :: r).length := by simp
 have hk : 1 + k ≤ (c :: r).length := by simp; omega
 generalize c :: r = l at *
 cases hn : num32 (l.take (1 + k)) with
 | none =>
  rw [hn] at hp
  exact number_range l hl h1 w k hk hb' hR hp
 | some v =>
  rw [hn] at hp
  by_cases hlt : 1 + k < l.length
  ·have hd : l.drop (1 + k) = l[1 + k] :: l.drop (1 + k + 1) := List.drop_eq_getElem_cons hlt
   have hbw : badN (l.drop (1 + k)) = (letterB l[1 + k] || (l[1 + k].toNat : Int) == 45) := by rw [hd]; rfl
   simp only [hbw]
   cases hdg : letterB l[1 + k] with
   | true => simpa using number_bad1 l hl h1 w k hk hb' v hp hlt hdg
   | false =>
    cases h45 : ((l[1 + k].toNat : Int) == 45) with
    | true => simpa using number_bad2 l hl h1 w k hk hb' v hp hlt hdg h45
    | false => simpa using number_good1 l hl h1 w k hk hb' v hp hlt hdg h45
  ·have e : 1 + k = l.length := by omega
   have hd : badN (l.drop (1 + k)) = false := by rw [e]; simp [badN]
   simp only [hd]
   simpa using number_good2 l hl h1 w k hk hb' v hp e

end Go.Proofs.YtgpkdjhllekihaaGreatDoor.Tok
