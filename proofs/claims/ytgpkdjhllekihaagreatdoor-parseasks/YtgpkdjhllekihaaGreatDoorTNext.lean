/- token.Next by its contract. -/
import Derived.Test.YtgpkdjhllekihaaGreatDoorTReads
namespace Go.Proofs.YtgpkdjhllekihaaGreatDoor.Tok
set_option linter.unusedVariables false
set_option maxRecDepth 100000
open Go.RowKit Go.Shelf
attribute [local go_sem] bget bdrop btake
/-- What 'Next' answers. -/
abbrev nextV (r : NextR) : Value := .tuple #[tokV r.1.1 r.1.2.1 r.1.2.2.1 r.1.2.2.2.1 r.1.2.2.2.2, .int .i64 r.2.1, .agg #[.int .i64 r.2.2.1, .int .i64 r.2.2.2.1], .int .i64 r.2.2.2.2]

set_option maxHeartbeats 1000000 in
theorem next_arg (l : List UInt8) (hl : l.length ≤ 1048576) (a : Int) (ha : a < 0 ∨ (l.length : Int) < a) (li co : Int) (w : World) :
  Calls Tryz.prog 40 #[.string ⟨l.toArray⟩, .int .i64 a, .agg #[.int .i64 li, .int .i64 co]] w fun e w' => e = .returned (.tuple #[tokV 0 0 0 0 [], .int .i64 a, .agg #[.int .i64 li, .int .i64 co], .int .i64 1]) ∧ Below w.heap.size w w' := by
 by_cases h : a < 0
 ·clear ha
  go_enter Tryz.func40, Tryz.ntmps40
  go_wp2_with fail
  go_region
  go_wp2_with fail
  refine bodyPost_ret (v := .tuple #[tokV 0 0 0 0 [], .int .i64 a, .agg #[.int .i64 li, .int .i64 co], .int .i64 1]) (by simp [results, Tryz.results40, go_sem]) rfl ⟨rfl, ?_⟩
  exact ((((Below.refl _ w).alloc (Nat.le_refl _) _).alloc (by simp) _).alloc (by simp; omega) _).drew
 ·have h2 : (l.length : Int) < a := by omega
  clear ha
  go_enter Tryz.func40, Tryz.ntmps40
  go_wp2_with fail
  go_region
  go_wp2_with fail
  refine bodyPost_ret (v := .tuple #[tokV 0 0 0 0 [], .int .i64 a, .agg #[.int .i64 li, .int .i64 co], .int .i64 1]) (by simp [results, Tryz.results40, go_sem]) rfl ⟨rfl, ?_⟩
  exact ((((Below.refl _ w).alloc (Nat.le_refl _) _).alloc (by simp) _).alloc (by simp; omega) _).drew
set_option maxHeartbeats 1000000 in
theorem next_tok (l : List UInt8) (hl : l.length ≤ 1048576) (a : Nat) (ha : a ≤ l.length) (li co : Int) (hli : 0 ≤ li) (hli2 : li ≤ 1099511627776) (hco : 0 ≤ co) (hco2 : co ≤ 1099511627776) (w : World)
  (k : Nat) (HK : Hid (unsaidL (l.drop a) = k)) (hak : a + k ≤ l.length) (hk : a + k < l.length) (hR : Rng w) (gk gn : Int) (gt : List UInt8) (gs : Nat) (hgs : gs ≤ l.length) (hg3 : (gk == 3) = false) (HG : Hid (readL (l.drop (a + k)) = (gk, gn, gt, gs, true))) :
  Calls Tryz.prog 40 #[.string ⟨l.toArray⟩, .int .i64 a, .agg #[.int .i64 li, .int .i64 co]] w fun e w' => e = .returned (.tuple #[tokV gk gn li (co + k) gt, .int .i64 (a + k + gs), .agg #[.int .i64 li, .int .i64 (co + k + gs)], .int .i64 0]) ∧ Below w.heap.size w w' := by
 have hk2 : (((a : Int) + k) == (l.length : Int)) = false := by simp; omega
 have ha1 : ¬ ((a : Int) < 0) := by omega
 have ha2 : ¬ ((l.length : Int) < (a : Int)) := by omega
 go_enter Tryz.func40, Tryz.ntmps40
 go_wp2_with fail
 refine (unsaid_any (l.drop a) (by simp; omega) _).mono ?_
 rintro e w' ⟨rfl, rfl⟩
 rw [HK.out]
 go_wp2_with fail
 refine (read_any (l.drop (a + k)) (by simp; omega) (by intro h; have := congrArg List.length h; simp at this; omega) _ (by exact hR.next ((((Below.refl _ w).alloc (Nat.le_refl _) _).alloc (by simp) _).alloc (by simp; omega) _))).mono ?_
 rintro e w1 ⟨rfl, hb⟩
 obtain ⟨hc, hf⟩ := bcell hb
 have hz2 : w.heap.size + 1 + 1 < w1.heap.size := by have := hb.size; simp at this; omega
 have hz1 : w.heap.size + 1 < w1.heap.size := by omega
 have hz0 : w.heap.size < w1.heap.size := by omega
 have hB1 : Below w.heap.size w w1 := ((((Below.refl _ w).alloc (Nat.le_refl _) _).alloc (by simp) _).alloc (by simp; omega) _).trans (hb.mono (by simp; omega))
 simp at hc hf
 clear hb
 rw [HG.out]
 go_wp2_with fail
 go_region
 go_wp2_with fail
 go_region
 go_wp2_with fail
 refine bodyPost_ret (v := .tuple #[tokV gk gn li (co + ((a : Int) + k - a)) gt, .int .i64 (a + k + gs), .agg #[.int .i64 li, .int .i64 (co + ((a : Int) + k - a) + gs)], .int .i64 0]) (by simp [results, Tryz.results40, go_sem, hc, hz0, hz1, hz2]) rfl ⟨by rw [show co + ((a : Int) + k - a) + gs = co + k + gs by omega, show co + ((a : Int) + k - a) = co + k by omega], ?_⟩
 refine Below.drew ?_
 refine Below.drew ?_
 refine Below.alloc ?_ (by first | (simp; done) | (simp; omega)) _
 refine Below.alloc ?_ (by first | (simp; done) | (simp; omega)) _
 iterate 7 refine Below.setCell ?_ (by first | (simp; done) | (simp; omega)) _
 exact hB1

set_option maxHeartbeats 1000000 in
theorem next_end (l : List UInt8) (hl : l.length ≤ 1048576) (a : Nat) (ha : a ≤ l.length) (li co : Int) (hli : 0 ≤ li) (hli2 : li ≤ 1099511627776) (hco : 0 ≤ co) (hco2 : co ≤ 1099511627776) (w : World)
  (k : Nat) (HK : Hid (unsaidL (l.drop a) = k)) (hak : a + k ≤ l.length) (hk : a + k < l.length) (hR : Rng w) (gk gn : Int) (gt : List UInt8) (gs : Nat) (hgs : gs ≤ l.length) (hg3 : (gk == 3) = true) (HG : Hid (readL (l.drop (a + k)) = (gk, gn, gt, gs, true))) :
  Calls Tryz.prog 40 #[.string ⟨l.toArray⟩, .int .i64 a, .agg #[.int .i64 li, .int .i64 co]] w fun e w' => e = .returned (.tuple #[tokV gk gn li (co + k) gt, .int .i64 (a + k + gs), .agg #[.int .i64 (li + 1), .int .i64 1], .int .i64 0]) ∧ Below w.heap.size w w' := by
 have hk2 : (((a : Int) + k) == (l.length : Int)) = false := by simp; omega
 have ha1 : ¬ ((a : Int) < 0) := by omega
 have ha2 : ¬ ((l.length : Int) < (a : Int)) := by omega
 go_enter Tryz.func40, Tryz.ntmps40
 go_wp2_with fail
 refine (unsaid_any (l.drop a) (by simp; omega) _).mono ?_
 rintro e w' ⟨rfl, rfl⟩
 rw [HK.out]
 go_wp2_with fail
 refine (read_any (l.drop (a + k)) (by simp; omega) (by intro h; have := congrArg List.length h; simp at this; omega) _ (by exact hR.next ((((Below.refl _ w).alloc (Nat.le_refl _) _).alloc (by simp) _).alloc (by simp; omega) _))).mono ?_
 rintro e w1 ⟨rfl, hb⟩
 obtain ⟨hc, hf⟩ := bcell hb
 have hz2 : w.heap.size + 1 + 1 < w1.heap.size := by have := hb.size; simp at this; omega
 have hz1 : w.heap.size + 1 < w1.heap.size := by omega
 have hz0 : w.heap.size < w1.heap.size := by omega
 have hB1 : Below w.heap.size w w1 := ((((Below.refl _ w).alloc (Nat.le_refl _) _).alloc (by simp) _).alloc (by simp; omega) _).trans (hb.mono (by simp; omega))
 simp at hc hf
 clear hb
 rw [HG.out]
 go_wp2_with fail
 go_region
 go_wp2_with fail
 go_region
 go_wp2_with fail
 refine bodyPost_ret (v := .tuple #[tokV gk gn li (co + ((a : Int) + k - a)) gt, .int .i64 (a + k + gs), .agg #[.int .i64 (li + 1), .int .i64 1], .int .i64 0]) (by simp [results, Tryz.results40, go_sem, hc, hz0, hz1, hz2]) rfl ⟨by rw [show co + ((a : Int) + k - a) = co + k by omega], ?_⟩
 refine Below.drew ?_
 refine Below.drew ?_
 refine Below.alloc ?_ (by first | (simp; done) | (simp; omega)) _
 refine Below.alloc ?_ (by first | (simp; done) | (simp; omega)) _
 iterate 7 refine Below.setCell ?_ (by first | (simp; done) | (simp; omega)) _
 exact hB1

set_option maxHeartbeats 1000000 in
theorem next_none (l : List UInt8) (hl : l.length ≤ 1048576) (a : Nat) (ha : a ≤ l.length) (li co : Int) (hli : 0 ≤ li) (hli2 : li ≤ 1099511627776) (hco : 0 ≤ co) (hco2 : co ≤ 1099511627776) (w : World)
  (k : Nat) (HK : Hid (unsaidL (l.drop a) = k)) (hak : a + k ≤ l.length) (hk : a + k = l.length) :
  Calls Tryz.prog 40 #[.string ⟨l.toArray⟩, .int .i64 a, .agg #[.int .i64 li, .int .i64 co]] w fun e w' => e = .returned (.tuple #[tokV 0 0 0 0 [], .int .i64 (a + k), .agg #[.int .i64 li, .int .i64 (co + k)], .int .i64 4]) ∧ Below w.heap.size w w' := by
 have hk2 : (((a : Int) + k) == (l.length : Int)) = true := by simp; omega
 have HKK : Hid (a + k = l.length) := hk
 clear hk
 have ha1 : ¬ ((a : Int) < 0) := by omega
 have ha2 : ¬ ((l.length : Int) < (a : Int)) := by omega
 go_enter Tryz.func40, Tryz.ntmps40
 go_wp2_with fail
 refine (unsaid_any (l.drop a) (by simp; omega) _).mono ?_
 rintro e w' ⟨rfl, rfl⟩
 rw [HK.out]
 go_wp2_with fail
 go_region
 go_wp2
 refine bodyPost_ret (v := .tuple #[tokV 0 0 0 0 [], .int .i64 (a + k), .agg #[.int .i64 li, .int .i64 (co + ((a : Int) + k - a))], .int .i64 4]) (by simp [results, Tryz.results40, go_sem]) rfl ⟨by rw [show co + ((a : Int) + k - a) = co + k by omega], ?_⟩
 exact ((((Below.refl _ w).alloc (Nat.le_refl _) _).alloc (by simp) _).alloc (by simp; omega) _).drew

set_option maxHeartbeats 1000000 in
theorem next_text (l : List UInt8) (hl : l.length ≤ 1048576) (a : Nat) (ha : a ≤ l.length) (li co : Int) (hli : 0 ≤ li) (hli2 : li ≤ 1099511627776) (hco : 0 ≤ co) (hco2 : co ≤ 1099511627776) (w : World)
  (k : Nat) (HK : Hid (unsaidL (l.drop a) = k)) (hak : a + k ≤ l.length) (hk : a + k < l.length) (hR : Rng w) (gk gn : Int) (gt : List UInt8) (gs : Nat) (hgs : gs ≤ l.length) (HG : Hid (readL (l.drop (a + k)) = (gk, gn, gt, gs, false))) :
  Calls Tryz.prog 40 #[.string ⟨l.toArray⟩, .int .i64 a, .agg #[.int .i64 li, .int .i64 co]] w fun e w' => e = .returned (.tuple #[tokV 0 0 0 0 [], .int .i64 a, .agg #[.int .i64 li, .int .i64 (co + k + gs)], .int .i64 2]) ∧ Below w.heap.size w w' := by
 have hk2 : (((a : Int) + k) == (l.length : Int)) = false := by simp; omega
 have ha1 : ¬ ((a : Int) < 0) := by omega
 have ha2 : ¬ ((l.length : Int) < (a : Int)) := by omega
 go_enter Tryz.func40, Tryz.ntmps40
 go_wp2_with fail
 refine (unsaid_any (l.drop a) (by simp; omega) _).mono ?_
 rintro e w' ⟨rfl, rfl⟩
 rw [HK.out]
 go_wp2_with fail
 refine (read_any (l.drop (a + k)) (by simp; omega) (by intro h; have := congrArg List.length h; simp at this; omega) _ (by exact hR.next ((((Below.refl _ w).alloc (Nat.le_refl _) _).alloc (by simp) _).alloc (by simp; omega) _))).mono ?_
 rintro e w1 ⟨rfl, hb⟩
 obtain ⟨hc, hf⟩ := bcell hb
 have hz2 : w.heap.size + 1 + 1 < w1.heap.size := by have := hb.size; simp at this; omega
 have hz1 : w.heap.size + 1 < w1.heap.size := by omega
 have hz0 : w.heap.size < w1.heap.size := by omega
 have hB1 : Below w.heap.size w w1 := ((((Below.refl _ w).alloc (Nat.le_refl _) _).alloc (by simp) _).alloc (by simp; omega) _).trans (hb.mono (by simp; omega))
 simp at hc hf
 clear hb
 rw [HG.out]
 go_wp2_with fail
 go_region
 go_wp2_with fail
 refine bodyPost_ret (v := .tuple #[tokV 0 0 0 0 [], .int .i64 a, .agg #[.int .i64 li, .int .i64 (co + ((a : Int) + k - a) + gs)], .int .i64 2]) (by simp [results, Tryz.results40, go_sem, hc, hz0, hz1, hz2]) rfl ⟨by rw [show co + ((a : Int) + k - a) + gs = co + k + gs by omega], ?_⟩
 refine Below.drew ?_
 refine Below.alloc ?_ (by first | (simp; done) | (simp; omega)) _
 refine Below.alloc ?_ (by first | (simp; done) | (simp; omega)) _
 iterate 7 refine Below.setCell ?_ (by first | (simp; done) | (simp; omega)) _
 exact hB1


theorem next_any (l : List UInt8) (hl : l.length ≤ 1048576) (a : Nat) (ha : a ≤ l.length) (li co : Int) (hli : 0 ≤ li) (hli2 : li ≤ 1099511627776) (hco : 0 ≤ co) (hco2 : co ≤ 1099511627776) (w : World) (hR : Rng w) :
  Calls Tryz.prog 40 #[.string ⟨l.toArray⟩, .int .i64 a, .agg #[.int .i64 li, .int .i64 co]] w fun e w' => e = .returned (nextV (nextL l a li co)) ∧ Below w.heap.size w w' := by
 have hk := unsaidL_le (l.drop a)
 rw [List.length_drop] at hk
 unfold nextL
 generalize hK : unsaidL (l.drop a) = k at *
 by_cases h : a + k = l.length
 ·rw [if_pos h]
  exact next_none l hl a ha li co hli hli2 hco hco2 w k hK (by omega) h
 ·rw [if_neg h]
  have hs := readL_le (l.drop (a + k))
  rw [List.length_drop] at hs
  generalize hG : readL (l.drop (a + k)) = g at *
  obtain ⟨gk, gn, gt, gs, ok⟩ := g
  cases ok with
  | false => exact next_text l hl a ha li co hli hli2 hco hco2 w k hK (by omega) (by omega) hR gk gn gt gs (by simp only at hs; omega) hG
  | true =>
   by_cases h3 : gk = 3
   ·dsimp only
    rw [if_pos h3, if_pos h3]
    exact next_end l hl a ha li co hli hli2 hco hco2 w k hK (by omega) (by omega) hR gk gn gt gs (by simp only at hs; omega) (by simp [h3]) hG
   ·dsimp only
    rw [if_neg h3, if_neg h3]
    exact next_tok l hl a ha li co hli hli2 hco hco2 w k hK (by omega) (by omega) hR gk gn gt gs (by simp only at hs; omega) (by simp [h3]) hG
end Go.Proofs.YtgpkdjhllekihaaGreatDoor.Tok
