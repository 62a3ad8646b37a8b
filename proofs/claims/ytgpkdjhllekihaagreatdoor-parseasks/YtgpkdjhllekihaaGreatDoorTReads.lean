/- token.read by its contract. -/
import Derived.Test.YtgpkdjhllekihaaGreatDoorTNum
namespace Go.Proofs.YtgpkdjhllekihaaGreatDoor.Tok
set_option linter.unusedVariables false
set_option maxRecDepth 100000
open Go.RowKit Go.Shelf
attribute [local go_sem] bget bdrop btake

set_option maxHeartbeats 1000000 in
theorem read_end (l : List UInt8) (hl : l.length ≤ 1048576) (h0 : 0 < l.length) (w : World) (h10 : ((l[0].toNat : Int) == 10) = true) :
  Calls Tryz.prog 65 #[.string ⟨l.toArray⟩] w fun e w' => e = .returned (gotV (3, 0, [], 1, true)) ∧ Below w.heap.size w w' := by
 go_enter Tryz.func65, Tryz.ntmps65
 go_wp2
 exact bodyPost_ret (v := gotV (3, 0, [], 1, true)) (by simp [results, Tryz.results65, go_sem]) rfl ⟨rfl, (Below.refl _ _).alloc (Nat.le_refl _) _⟩

set_option maxHeartbeats 1000000 in
theorem read_word (l : List UInt8) (hl : l.length ≤ 1048576) (h0 : 0 < l.length) (w : World) (h10 : ((l[0].toNat : Int) == 10) = false)(HL : Hid (letterB l[0] = true))(g : Got) (HG : Hid (wordL l = g)) :
  Calls Tryz.prog 65 #[.string ⟨l.toArray⟩] w fun e w' => e = .returned (gotV g) ∧ Below w.heap.size w w' := by
 go_enter Tryz.func65, Tryz.ntmps65
 go_wp2_with fail
 refine (isLetter_any l[0] _).mono ?_
 rintro e w' ⟨rfl, rfl⟩
 rw [HL.out]
 go_wp2_with fail
 refine (word_any l hl _).mono ?_
 rintro e w1 ⟨rfl, hb⟩
 obtain ⟨hc, hf⟩ := bcell hb
 have hz : w.heap.size < w1.heap.size := by have := hb.size; simp at this; omega
 have hB1 : Below w.heap.size w w1 := ((Below.refl _ w).alloc (Nat.le_refl _) _).trans (hb.mono (by simp))
 simp at hc hf
 clear hb
 rw [HG.out]
 obtain ⟨gk, gn, gt, gs, go⟩ := g
 go_wp2
 exact bodyPost_ret (v := gotV (gk, gn, gt, gs, go)) (by simp [results, Tryz.results65, go_sem, hc]) rfl ⟨rfl, by
  repeat refine Below.setCell ?_ (by simp) _
  exact hB1⟩

set_option maxHeartbeats 1000000 in
theorem read_minus0 (l : List UInt8) (hl : l.length ≤ 1048576) (h0 : 0 < l.length) (w : World) (h10 : ((l[0].toNat : Int) == 10) = false)(HL : Hid (letterB l[0] = false))(h45 : ((l[0].toNat : Int) == 45) = true)(hs : ((spanL digitB l.tail : Int) == 0) = true) :
  Calls Tryz.prog 65 #[.string ⟨l.toArray⟩] w fun e w' => e = .returned (gotV (0, 0, [], 0, false)) ∧ Below w.heap.size w w' := by
 go_enter Tryz.func65, Tryz.ntmps65
 go_wp2_with fail
 refine (isLetter_any l[0] _).mono ?_
 rintro e w' ⟨rfl, rfl⟩
 rw [HL.out]
 go_wp2_with fail
 refine (span_digit l.tail (by simp; omega) _).mono ?_
 rintro e w' ⟨rfl, rfl⟩
 go_wp2
 exact bodyPost_ret (v := gotV (0, 0, [], 0, false)) (by simp [results, Tryz.results65, go_sem]) rfl ⟨rfl, (Below.refl _ _).alloc (Nat.le_refl _) _⟩

set_option maxHeartbeats 1000000 in
theorem read_minus (l : List UInt8) (hl : l.length ≤ 1048576) (h0 : 0 < l.length) (w : World) (h10 : ((l[0].toNat : Int) == 10) = false)(HL : Hid (letterB l[0] = false))(h45 : ((l[0].toNat : Int) == 45) = true)(hs : ((spanL digitB l.tail : Int) == 0) = false) (g : Got) (HG : Hid (numL l = g))(hn : ∀ w : World, Rng w → Calls Tryz.prog 92 #[.string ⟨l.toArray⟩] w fun e w' => e = .returned (gotV (numL l)) ∧ Below w.heap.size w w') (hR : Rng w) :
  Calls Tryz.prog 65 #[.string ⟨l.toArray⟩] w fun e w' => e = .returned (gotV g) ∧ Below w.heap.size w w' := by
 have HN : Hid (∀ w : World, Rng w → Calls Tryz.prog 92 #[.string ⟨l.toArray⟩] w fun e w' => e = .returned (gotV (numL l)) ∧ Below w.heap.size w w') := hn
 clear hn
 go_enter Tryz.func65, Tryz.ntmps65
 go_wp2_with fail
 refine (isLetter_any l[0] _).mono ?_
 rintro e w' ⟨rfl, rfl⟩
 rw [HL.out]
 go_wp2_with fail
 refine (span_digit l.tail (by simp; omega) _).mono ?_
 rintro e w' ⟨rfl, rfl⟩
 go_wp2_with fail
 refine (HN.out _ (by exact hR.next ((Below.refl _ w).alloc (Nat.le_refl _) _))).mono ?_
 rintro e w1 ⟨rfl, hb⟩
 obtain ⟨hc, hf⟩ := bcell hb
 have hz : w.heap.size < w1.heap.size := by have := hb.size; simp at this; omega
 have hB1 : Below w.heap.size w w1 := ((Below.refl _ w).alloc (Nat.le_refl _) _).trans (hb.mono (by simp))
 simp at hc hf
 clear hb
 rw [HG.out]
 obtain ⟨gk, gn, gt, gs, go⟩ := g
 go_wp2
 exact bodyPost_ret (v := gotV (gk, gn, gt, gs, go)) (by simp [results, Tryz.results65, go_sem, hc]) rfl ⟨rfl, by
  repeat refine Below.setCell ?_ (by simp) _
  exact hB1⟩

set_option maxHeartbeats 1000000 in
theorem read_num (l : List UInt8) (hl : l.length ≤ 1048576) (h0 : 0 < l.length) (w : World) (h10 : ((l[0].toNat : Int) == 10) = false)(HL : Hid (letterB l[0] = false))(h45 : ((l[0].toNat : Int) == 45) = false)(HD : Hid (digitB l[0] = true)) (g : Got) (HG : Hid (numL l = g))(hn : ∀ w : World, Rng w → Calls Tryz.prog 92 #[.string ⟨l.toArray⟩] w fun e w' => e = .returned (gotV (numL l)) ∧ Below w.heap.size w w') (hR : Rng w) :
  Calls Tryz.prog 65 #[.string ⟨l.toArray⟩] w fun e w' => e = .returned (gotV g) ∧ Below w.heap.size w w' := by
 have HN : Hid (∀ w : World, Rng w → Calls Tryz.prog 92 #[.string ⟨l.toArray⟩] w fun e w' => e = .returned (gotV (numL l)) ∧ Below w.heap.size w w') := hn
 clear hn
 go_enter Tryz.func65, Tryz.ntmps65
 go_wp2_with fail
 refine (isLetter_any l[0] _).mono ?_
 rintro e w' ⟨rfl, rfl⟩
 rw [HL.out]
 go_wp2_with fail
 refine (isDigit_any l[0] _).mono ?_
 rintro e w' ⟨rfl, rfl⟩
 rw [HD.out]
 go_wp2_with fail
 refine (HN.out _ (by exact hR.next ((Below.refl _ w).alloc (Nat.le_refl _) _))).mono ?_
 rintro e w1 ⟨rfl, hb⟩
 obtain ⟨hc, hf⟩ := bcell hb
 have hz : w.heap.size < w1.heap.size := by have := hb.size; simp at this; omega
 have hB1 : Below w.heap.size w w1 := ((Below.refl _ w).alloc (Nat.le_refl _) _).trans (hb.mono (by simp))
 simp at hc hf
 clear hb
 rw [HG.out]
 obtain ⟨gk, gn, gt, gs, go⟩ := g
 go_wp2
 exact bodyPost_ret (v := gotV (gk, gn, gt, gs, go)) (by simp [results, Tryz.results65, go_sem, hc]) rfl ⟨rfl, by
  repeat refine Below.setCell ?_ (by simp) _
  exact hB1⟩

set_option maxHeartbeats 1000000 in
theorem read_none (l : List UInt8) (hl : l.length ≤ 1048576) (h0 : 0 < l.length) (w : World) (h10 : ((l[0].toNat : Int) == 10) = false)(HL : Hid (letterB l[0] = false))(h45 : ((l[0].toNat : Int) == 45) = false)(HD : Hid (digitB l[0] = false)) :
  Calls Tryz.prog 65 #[.string ⟨l.toArray⟩] w fun e w' => e = .returned (gotV (0, 0, [], 0, false)) ∧ Below w.heap.size w w' := by
 go_enter Tryz.func65, Tryz.ntmps65
 go_wp2_with fail
 refine (isLetter_any l[0] _).mono ?_
 rintro e w' ⟨rfl, rfl⟩
 rw [HL.out]
 go_wp2_with fail
 refine (isDigit_any l[0] _).mono ?_
 rintro e w' ⟨rfl, rfl⟩
 rw [HD.out]
 go_wp2
 exact bodyPost_ret (v := gotV (0, 0, [], 0, false)) (by simp [results, Tryz.results65, go_sem]) rfl ⟨rfl, (Below.refl _ _).alloc (Nat.le_refl _) _⟩


theorem read_any (l : List UInt8) (hl : l.length ≤ 1048576) (hne : l ≠ []) (w : World) (hR : Rng w) :
  Calls Tryz.prog 65 #[.string ⟨l.toArray⟩] w fun e w' => e = .returned (gotV (readL l)) ∧ Below w.heap.size w w' := by
 cases l with
 | nil => exact absurd rfl hne
 | cons c r =>
  have h0 : 0 < (c :: r).length := by simp
  unfold readL
  dsimp only
  by_cases h10 : c.toNat = 10
  ·rw [if_pos h10]
   exact read_end (c :: r) hl h0 w (by show ((c.toNat : Int) == 10) = true; simp; omega)
  ·rw [if_neg h10]
   have h10' : (((c :: r)[0].toNat : Int) == 10) = false := by show ((c.toNat : Int) == 10) = false; simp; omega
   cases hL : letterB c with
   | true =>
    rw [if_pos rfl]
    exact read_word (c :: r) hl h0 w h10' hL _ rfl
   | false =>
    rw [if_neg (by simp)]
    by_cases h45 : c.toNat = 45
    ·rw [if_pos h45]
     have h45' : (((c :: r)[0].toNat : Int) == 45) = true := by show ((c.toNat : Int) == 45) = true; simp; omega
     by_cases hs : spanL digitB r = 0
     ·rw [if_pos hs]
      exact read_minus0 (c :: r) hl h0 w h10' hL h45' (by rw [List.tail_cons, hs]; rfl)
     ·rw [if_neg hs]
      exact read_minus (c :: r) hl h0 w h10' hL h45' (by rw [List.tail_cons]; simp; omega) _ rfl (fun w hR => number_any c r (Or.inr ⟨h45, hs⟩) hl w hR) hR
    ·rw [if_neg h45]
     have h45' : (((c :: r)[0].toNat : Int) == 45) = false := by show ((c.toNat : Int) == 45) = false; simp; omega
     cases hD : digitB c with
     | true =>
      rw [if_pos rfl]
      exact read_num (c :: r) hl h0 w h10' hL h45' hD _ rfl (fun w hR => number_any c r (Or.inl hD) hl w hR) hR
     | false =>
      rw [if_neg (by simp)]
      exact read_none (c :: r) hl h0 w h10' hL h45' hD
end Go.Proofs.YtgpkdjhllekihaaGreatDoor.Tok
