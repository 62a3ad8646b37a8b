/- parterreref2.Next by its contract, way by way. -/
import Derived.Test.YtgpkdjhllekihaaGreatDoorTRefX
import Derived.Test.YtgpkdjhllekihaaGreatDoorTNext
namespace Go.Proofs.YtgpkdjhllekihaaGreatDoor.Tok
open Go.RowKit Go.Shelf
attribute [local go_sem] bget bdrop btake
set_option linter.unusedVariables false
set_option maxRecDepth 100000

set_option maxRecDepth 100000 in
set_option maxHeartbeats 2000000 in
theorem rnext_w1 (l : List UInt8) (hl : l.length ≤ 1048576) (a : Nat) (ha : a ≤ l.length) (li co : Int) (hli : 0 ≤ li) (hli2 : li ≤ 1099511627776) (hco : 0 ≤ co) (hco2 : co ≤ 1099511627776) (w : World)
  (k : Nat) (HK : Hid (unsaidL (l.drop a) = k)) (hak : a + k ≤ l.length) (hk : a + k < l.length) (h10 : ((l[a + k].toNat : Int) == 10) = false) (HLt : Hid (letterB l[a + k] = true)) (q : Nat) (hq1 : a + k ≤ q) (hq2 : q ≤ l.length) (HQ : Hid ((∀ j (hj : j < l.length), a + k ≤ j → j < q → letterB l[j] = true) ∧ ∀ h : q < l.length, letterB l[q] = false)) (X : List UInt8) (HX : Hid ((l.drop (a + k)).take (q - (a + k)) = X)) (d : Nat) (hd : d ≤ 1048576) (HDd : Hid (q = a + k + d)) (HE : Hid (q = l.length)) (hqz : ¬ (q : Int) < l.length) :
  Calls Tryz.prog 30 #[.string ⟨l.toArray⟩, .int .i64 a, .agg #[.int .i64 li, .int .i64 co]] w fun e w' => e = .returned (.tuple #[tokV 1 0 li (co + k) X, .int .i64 q, .agg #[.int .i64 li, .int .i64 (co + k + d)], .int .i64 0]) ∧ Below w.heap.size w w' := by
 have hk2 : (((a : Int) + k) == (l.length : Int)) = false := by simp; omega
 have ha1 : ¬ ((a : Int) < 0) := by omega
 have ha2 : ¬ ((l.length : Int) < (a : Int)) := by omega
 go_enter Tryz.func30, Tryz.ntmps30
 go_wp2_with fail
 refine (skip_any l hl a ha _).mono ?_
 rintro e w' ⟨rfl, rfl⟩
 rw [HK.out]
 go_wp2_with fail
 rw [show ((a : Int) + k - a) = (k : Int) by omega]
 refine (move_any li co k hco (by omega) (by omega) _).mono ?_
 rintro e w1 ⟨rfl, hb⟩
 obtain ⟨hc, hf⟩ := bcell hb
 have hz2 : w.heap.size + 1 + 1 < w1.heap.size := by have := hb.size; simp at this; omega
 have hz1 : w.heap.size + 1 < w1.heap.size := by omega
 have hz0 : w.heap.size < w1.heap.size := by omega
 have hB1 : Below w.heap.size w w1 := ((((Below.refl _ w).alloc (Nat.le_refl _) _).alloc (by simp) _).alloc (by simp; omega) _).trans (hb.mono (by simp; omega))
 simp at hc hf
 clear hb
 go_wp2_with fail
 refine (letter_any l[a + k] _).mono ?_
 rintro e w' ⟨rfl, rfl⟩
 rw [HLt.out]
 go_wp2_with fail
 go_loop [13] (fun x => ∃ m : Nat, a + k ≤ m ∧ m ≤ q ∧ x = .int .i64 m) (fun x => q - (intOf x).toNat)
 case atStart => exact ⟨a + k, Nat.le_refl _, by omega, by go_num⟩
 case round =>
  obtain ⟨m, hm1, hm2, rfl⟩ := hrel
  by_cases hmq : m < q
  ·have hml : m < l.length := by omega
   have hmlz : (m : Int) < l.length := by omega
   have hq := HQ.out.1 m hml hm1 hmq
   have HM : Hid (letterB l[m] = true) := hq
   clear hq
   go_wp2_with fail
   refine (letter_any l[m] _).mono ?_
   rintro e w' ⟨rfl, rfl⟩
   rw [HM.out]
   go_wp2_with fail
   exact ⟨⟨m + 1, by omega, by omega, by go_num⟩, by simp [intOf]; omega⟩
  ·have hmq' : m = q := by omega
   subst hmq'
   have hsl := slice_pq l (a + k) m ((a : Int) + k) (by omega) hq1 hq2 X HX.out
   go_wp2_with fail
   go_region
   go_wp2_with fail
   have hwr : IntKind.i64.wrap ((m : Int) - ((a : Int) + k)) = (d : Int) := by
    have := HDd.out
    unfold IntKind.wrap
    simp [IntKind.signed, IntKind.bits]
    omega
   go_region_with ((go_at_call 55; refine (move_any li (co + k) d (by omega) (by omega) hd _).mono ?_; rintro e w2 ⟨rfl, hb2⟩; obtain ⟨hc2, hf2⟩ := bcell hb2; have hs2 := hb2.size; have hB2 : Below w.heap.size w w2 := ((hB1.alloc (by omega) _).alloc (by simp; omega) _).drew.drew.trans (hb2.mono (by simp; omega)); simp at hc2 hf2 hs2; have g1 : ∀ o, w2.cell? ⟨w.heap.size + 1, o, none⟩ = w1.cell? ⟨w.heap.size + 1, o, none⟩ := (fun o => by rw [hc2 _ _ (by omega), World.cell?_alloc_lt _ _ _ (by simp; omega), World.cell?_alloc_lt _ _ _ (by simp; omega)]); have g2 : ∀ o, w2.cell? ⟨w.heap.size + 1 + 1, o, none⟩ = w1.cell? ⟨w.heap.size + 1 + 1, o, none⟩ := (fun o => by rw [hc2 _ _ (by omega), World.cell?_alloc_lt _ _ _ (by simp; omega), World.cell?_alloc_lt _ _ _ (by simp; omega)])))
   all_goals go_wp2
   all_goals refine bodyPost_ret (v := (.tuple #[tokV 1 0 li (co + k) X, .int .i64 (m : Int), .agg #[.int .i64 li, .int .i64 (co + k + d)], .int .i64 0])) (by simp [results, Tryz.results30, go_sem, hc, g1, g2]) rfl ⟨rfl, ?_⟩
   all_goals iterate 7 refine Below.setCell ?_ (by first | (simp; done) | (simp; omega)) _
   all_goals exact hB2

set_option maxRecDepth 100000 in
set_option maxHeartbeats 2000000 in
theorem rnext_w2 (l : List UInt8) (hl : l.length ≤ 1048576) (a : Nat) (ha : a ≤ l.length) (li co : Int) (hli : 0 ≤ li) (hli2 : li ≤ 1099511627776) (hco : 0 ≤ co) (hco2 : co ≤ 1099511627776) (w : World)
  (k : Nat) (HK : Hid (unsaidL (l.drop a) = k)) (hak : a + k ≤ l.length) (hk : a + k < l.length) (h10 : ((l[a + k].toNat : Int) == 10) = false) (HLt : Hid (letterB l[a + k] = true)) (q : Nat) (hq1 : a + k ≤ q) (hq2 : q ≤ l.length) (HQ : Hid ((∀ j (hj : j < l.length), a + k ≤ j → j < q → letterB l[j] = true) ∧ ∀ h : q < l.length, letterB l[q] = false)) (X : List UInt8) (HX : Hid ((l.drop (a + k)).take (q - (a + k)) = X)) (d : Nat) (hd : d ≤ 1048576) (HDd : Hid (q = a + k + d))(hlt : q < l.length) (hqz : (q : Int) < l.length)(HLe : Hid (letterB l[q] = false))(HDg : Hid (digitB l[q] = true)) :
  Calls Tryz.prog 30 #[.string ⟨l.toArray⟩, .int .i64 a, .agg #[.int .i64 li, .int .i64 co]] w fun e w' => e = .returned (.tuple #[tokV 0 0 0 0 [], .int .i64 (a : Int), .agg #[.int .i64 li, .int .i64 (co + k + d)], .int .i64 2]) ∧ Below w.heap.size w w' := by
 have hk2 : (((a : Int) + k) == (l.length : Int)) = false := by simp; omega
 have ha1 : ¬ ((a : Int) < 0) := by omega
 have ha2 : ¬ ((l.length : Int) < (a : Int)) := by omega
 go_enter Tryz.func30, Tryz.ntmps30
 go_wp2_with fail
 refine (skip_any l hl a ha _).mono ?_
 rintro e w' ⟨rfl, rfl⟩
 rw [HK.out]
 go_wp2_with fail
 rw [show ((a : Int) + k - a) = (k : Int) by omega]
 refine (move_any li co k hco (by omega) (by omega) _).mono ?_
 rintro e w1 ⟨rfl, hb⟩
 obtain ⟨hc, hf⟩ := bcell hb
 have hz2 : w.heap.size + 1 + 1 < w1.heap.size := by have := hb.size; simp at this; omega
 have hz1 : w.heap.size + 1 < w1.heap.size := by omega
 have hz0 : w.heap.size < w1.heap.size := by omega
 have hB1 : Below w.heap.size w w1 := ((((Below.refl _ w).alloc (Nat.le_refl _) _).alloc (by simp) _).alloc (by simp; omega) _).trans (hb.mono (by simp; omega))
 simp at hc hf
 clear hb
 go_wp2_with fail
 refine (letter_any l[a + k] _).mono ?_
 rintro e w' ⟨rfl, rfl⟩
 rw [HLt.out]
 go_wp2_with fail
 go_loop [13] (fun x => ∃ m : Nat, a + k ≤ m ∧ m ≤ q ∧ x = .int .i64 m) (fun x => q - (intOf x).toNat)
 case atStart => exact ⟨a + k, Nat.le_refl _, by omega, by go_num⟩
 case round =>
  obtain ⟨m, hm1, hm2, rfl⟩ := hrel
  by_cases hmq : m < q
  ·have hml : m < l.length := by omega
   have hmlz : (m : Int) < l.length := by omega
   have hq := HQ.out.1 m hml hm1 hmq
   have HM : Hid (letterB l[m] = true) := hq
   clear hq
   go_wp2_with fail
   refine (letter_any l[m] _).mono ?_
   rintro e w' ⟨rfl, rfl⟩
   rw [HM.out]
   go_wp2_with fail
   exact ⟨⟨m + 1, by omega, by omega, by go_num⟩, by simp [intOf]; omega⟩
  ·have hmq' : m = q := by omega
   subst hmq'
   have hsl := slice_pq l (a + k) m ((a : Int) + k) (by omega) hq1 hq2 X HX.out
   go_wp2_with fail
   refine (letter_any l[m] _).mono ?_
   rintro e w' ⟨rfl, rfl⟩
   rw [HLe.out]
   go_wp2_with fail
   go_region
   go_wp2_with fail
   refine (digit_any l[m] _).mono ?_
   rintro e w' ⟨rfl, rfl⟩
   rw [HDg.out]
   have hwr : IntKind.i64.wrap ((m : Int) - ((a : Int) + k)) = (d : Int) := by
    have := HDd.out
    unfold IntKind.wrap
    simp [IntKind.signed, IntKind.bits]
    omega
   go_wp2_with fail
   refine (move_any li (co + k) d (by omega) (by omega) hd _).mono ?_
   rintro e w2 ⟨rfl, hb2⟩
   obtain ⟨hc2, hf2⟩ := bcell hb2
   have hs2 := hb2.size
   have hB2 : Below w.heap.size w w2 := ((hB1.alloc (by omega) _).alloc (by simp; omega) _).drew.trans (hb2.mono (by simp; omega))
   simp at hc2 hf2 hs2
   have g1 : ∀ o, w2.cell? ⟨w.heap.size + 1, o, none⟩ = w1.cell? ⟨w.heap.size + 1, o, none⟩ := fun o => by rw [hc2 _ _ (by omega), World.cell?_alloc_lt _ _ _ (by simp; omega), World.cell?_alloc_lt _ _ _ (by simp; omega)]
   have g2 : ∀ o, w2.cell? ⟨w.heap.size + 1 + 1, o, none⟩ = w1.cell? ⟨w.heap.size + 1 + 1, o, none⟩ := fun o => by rw [hc2 _ _ (by omega), World.cell?_alloc_lt _ _ _ (by simp; omega), World.cell?_alloc_lt _ _ _ (by simp; omega)]
   have g3 : ∀ o, w2.frozen? ⟨w.heap.size + 1, o, none⟩ = w1.frozen? ⟨w.heap.size + 1, o, none⟩ := fun o => by rw [hf2 _ _ (by omega), World.frozen?_alloc_old _ _ _ (by simp; omega), World.frozen?_alloc_old _ _ _ (by simp; omega)]
   have g4 : ∀ o, w2.frozen? ⟨w.heap.size + 1 + 1, o, none⟩ = w1.frozen? ⟨w.heap.size + 1 + 1, o, none⟩ := fun o => by rw [hf2 _ _ (by omega), World.frozen?_alloc_old _ _ _ (by simp; omega), World.frozen?_alloc_old _ _ _ (by simp; omega)]
   clear hc2 hf2
   go_wp2
   refine bodyPost_ret (v := (.tuple #[tokV 0 0 0 0 [], .int .i64 (a : Int), .agg #[.int .i64 li, .int .i64 (co + k + d)], .int .i64 2])) (by simp [results, Tryz.results30, go_sem, hc, g1, g2]) rfl ⟨rfl, ?_⟩
   iterate 7 refine Below.setCell ?_ (by first | (simp; done) | (simp; omega)) _
   exact hB2

set_option maxRecDepth 100000 in
set_option maxHeartbeats 2000000 in
theorem rnext_w3 (l : List UInt8) (hl : l.length ≤ 1048576) (a : Nat) (ha : a ≤ l.length) (li co : Int) (hli : 0 ≤ li) (hli2 : li ≤ 1099511627776) (hco : 0 ≤ co) (hco2 : co ≤ 1099511627776) (w : World)
  (k : Nat) (HK : Hid (unsaidL (l.drop a) = k)) (hak : a + k ≤ l.length) (hk : a + k < l.length) (h10 : ((l[a + k].toNat : Int) == 10) = false) (HLt : Hid (letterB l[a + k] = true)) (q : Nat) (hq1 : a + k ≤ q) (hq2 : q ≤ l.length) (HQ : Hid ((∀ j (hj : j < l.length), a + k ≤ j → j < q → letterB l[j] = true) ∧ ∀ h : q < l.length, letterB l[q] = false)) (X : List UInt8) (HX : Hid ((l.drop (a + k)).take (q - (a + k)) = X)) (d : Nat) (hd : d ≤ 1048576) (HDd : Hid (q = a + k + d))(hlt : q < l.length) (hqz : (q : Int) < l.length)(HLe : Hid (letterB l[q] = false))(HDg : Hid (digitB l[q] = false))(h45 : ((l[q].toNat : Int) == 45) = true) :
  Calls Tryz.prog 30 #[.string ⟨l.toArray⟩, .int .i64 a, .agg #[.int .i64 li, .int .i64 co]] w fun e w' => e = .returned (.tuple #[tokV 0 0 0 0 [], .int .i64 (a : Int), .agg #[.int .i64 li, .int .i64 (co + k + d)], .int .i64 2]) ∧ Below w.heap.size w w' := by
 have hk2 : (((a : Int) + k) == (l.length : Int)) = false := by simp; omega
 have ha1 : ¬ ((a : Int) < 0) := by omega
 have ha2 : ¬ ((l.length : Int) < (a : Int)) := by omega
 go_enter Tryz.func30, Tryz.ntmps30
 go_wp2_with fail
 refine (skip_any l hl a ha _).mono ?_
 rintro e w' ⟨rfl, rfl⟩
 rw [HK.out]
 go_wp2_with fail
 rw [show ((a : Int) + k - a) = (k : Int) by omega]
 refine (move_any li co k hco (by omega) (by omega) _).mono ?_
 rintro e w1 ⟨rfl, hb⟩
 obtain ⟨hc, hf⟩ := bcell hb
 have hz2 : w.heap.size + 1 + 1 < w1.heap.size := by have := hb.size; simp at this; omega
 have hz1 : w.heap.size + 1 < w1.heap.size := by omega
 have hz0 : w.heap.size < w1.heap.size := by omega
 have hB1 : Below w.heap.size w w1 := ((((Below.refl _ w).alloc (Nat.le_refl _) _).alloc (by simp) _).alloc (by simp; omega) _).trans (hb.mono (by simp; omega))
 simp at hc hf
 clear hb
 go_wp2_with fail
 refine (letter_any l[a + k] _).mono ?_
 rintro e w' ⟨rfl, rfl⟩
 rw [HLt.out]
 go_wp2_with fail
 go_loop [13] (fun x => ∃ m : Nat, a + k ≤ m ∧ m ≤ q ∧ x = .int .i64 m) (fun x => q - (intOf x).toNat)
 case atStart => exact ⟨a + k, Nat.le_refl _, by omega, by go_num⟩
 case round =>
  obtain ⟨m, hm1, hm2, rfl⟩ := hrel
  by_cases hmq : m < q
  ·have hml : m < l.length := by omega
   have hmlz : (m : Int) < l.length := by omega
   have hq := HQ.out.1 m hml hm1 hmq
   have HM : Hid (letterB l[m] = true) := hq
   clear hq
   go_wp2_with fail
   refine (letter_any l[m] _).mono ?_
   rintro e w' ⟨rfl, rfl⟩
   rw [HM.out]
   go_wp2_with fail
   exact ⟨⟨m + 1, by omega, by omega, by go_num⟩, by simp [intOf]; omega⟩
  ·have hmq' : m = q := by omega
   subst hmq'
   have hsl := slice_pq l (a + k) m ((a : Int) + k) (by omega) hq1 hq2 X HX.out
   go_wp2_with fail
   refine (letter_any l[m] _).mono ?_
   rintro e w' ⟨rfl, rfl⟩
   rw [HLe.out]
   go_wp2_with fail
   go_region
   go_wp2_with fail
   refine (digit_any l[m] _).mono ?_
   rintro e w' ⟨rfl, rfl⟩
   rw [HDg.out]
   have hwr : IntKind.i64.wrap ((m : Int) - ((a : Int) + k)) = (d : Int) := by
    have := HDd.out
    unfold IntKind.wrap
    simp [IntKind.signed, IntKind.bits]
    omega
   go_wp2_with fail
   refine (move_any li (co + k) d (by omega) (by omega) hd _).mono ?_
   rintro e w2 ⟨rfl, hb2⟩
   obtain ⟨hc2, hf2⟩ := bcell hb2
   have hs2 := hb2.size
   have hB2 : Below w.heap.size w w2 := ((hB1.alloc (by omega) _).alloc (by simp; omega) _).drew.trans (hb2.mono (by simp; omega))
   simp at hc2 hf2 hs2
   have g1 : ∀ o, w2.cell? ⟨w.heap.size + 1, o, none⟩ = w1.cell? ⟨w.heap.size + 1, o, none⟩ := fun o => by rw [hc2 _ _ (by omega), World.cell?_alloc_lt _ _ _ (by simp; omega), World.cell?_alloc_lt _ _ _ (by simp; omega)]
   have g2 : ∀ o, w2.cell? ⟨w.heap.size + 1 + 1, o, none⟩ = w1.cell? ⟨w.heap.size + 1 + 1, o, none⟩ := fun o => by rw [hc2 _ _ (by omega), World.cell?_alloc_lt _ _ _ (by simp; omega), World.cell?_alloc_lt _ _ _ (by simp; omega)]
   have g3 : ∀ o, w2.frozen? ⟨w.heap.size + 1, o, none⟩ = w1.frozen? ⟨w.heap.size + 1, o, none⟩ := fun o => by rw [hf2 _ _ (by omega), World.frozen?_alloc_old _ _ _ (by simp; omega), World.frozen?_alloc_old _ _ _ (by simp; omega)]
   have g4 : ∀ o, w2.frozen? ⟨w.heap.size + 1 + 1, o, none⟩ = w1.frozen? ⟨w.heap.size + 1 + 1, o, none⟩ := fun o => by rw [hf2 _ _ (by omega), World.frozen?_alloc_old _ _ _ (by simp; omega), World.frozen?_alloc_old _ _ _ (by simp; omega)]
   clear hc2 hf2
   go_wp2
   refine bodyPost_ret (v := (.tuple #[tokV 0 0 0 0 [], .int .i64 (a : Int), .agg #[.int .i64 li, .int .i64 (co + k + d)], .int .i64 2])) (by simp [results, Tryz.results30, go_sem, hc, g1, g2]) rfl ⟨rfl, ?_⟩
   iterate 7 refine Below.setCell ?_ (by first | (simp; done) | (simp; omega)) _
   exact hB2

set_option maxRecDepth 100000 in
set_option maxHeartbeats 2000000 in
theorem rnext_w4 (l : List UInt8) (hl : l.length ≤ 1048576) (a : Nat) (ha : a ≤ l.length) (li co : Int) (hli : 0 ≤ li) (hli2 : li ≤ 1099511627776) (hco : 0 ≤ co) (hco2 : co ≤ 1099511627776) (w : World)
  (k : Nat) (HK : Hid (unsaidL (l.drop a) = k)) (hak : a + k ≤ l.length) (hk : a + k < l.length) (h10 : ((l[a + k].toNat : Int) == 10) = false) (HLt : Hid (letterB l[a + k] = true)) (q : Nat) (hq1 : a + k ≤ q) (hq2 : q ≤ l.length) (HQ : Hid ((∀ j (hj : j < l.length), a + k ≤ j → j < q → letterB l[j] = true) ∧ ∀ h : q < l.length, letterB l[q] = false)) (X : List UInt8) (HX : Hid ((l.drop (a + k)).take (q - (a + k)) = X)) (d : Nat) (hd : d ≤ 1048576) (HDd : Hid (q = a + k + d))(hlt : q < l.length) (hqz : (q : Int) < l.length)(HLe : Hid (letterB l[q] = false))(HDg : Hid (digitB l[q] = false))(h45 : ((l[q].toNat : Int) == 45) = false) :
  Calls Tryz.prog 30 #[.string ⟨l.toArray⟩, .int .i64 a, .agg #[.int .i64 li, .int .i64 co]] w fun e w' => e = .returned (.tuple #[tokV 1 0 li (co + k) X, .int .i64 q, .agg #[.int .i64 li, .int .i64 (co + k + d)], .int .i64 0]) ∧ Below w.heap.size w w' := by
 have hk2 : (((a : Int) + k) == (l.length : Int)) = false := by simp; omega
 have ha1 : ¬ ((a : Int) < 0) := by omega
 have ha2 : ¬ ((l.length : Int) < (a : Int)) := by omega
 go_enter Tryz.func30, Tryz.ntmps30
 go_wp2_with fail
 refine (skip_any l hl a ha _).mono ?_
 rintro e w' ⟨rfl, rfl⟩
 rw [HK.out]
 go_wp2_with fail
 rw [show ((a : Int) + k - a) = (k : Int) by omega]
 refine (move_any li co k hco (by omega) (by omega) _).mono ?_
 rintro e w1 ⟨rfl, hb⟩
 obtain ⟨hc, hf⟩ := bcell hb
 have hz2 : w.heap.size + 1 + 1 < w1.heap.size := by have := hb.size; simp at this; omega
 have hz1 : w.heap.size + 1 < w1.heap.size := by omega
 have hz0 : w.heap.size < w1.heap.size := by omega
 have hB1 : Below w.heap.size w w1 := ((((Below.refl _ w).alloc (Nat.le_refl _) _).alloc (by simp) _).alloc (by simp; omega) _).trans (hb.mono (by simp; omega))
 simp at hc hf
 clear hb
 go_wp2_with fail
 refine (letter_any l[a + k] _).mono ?_
 rintro e w' ⟨rfl, rfl⟩
 rw [HLt.out]
 go_wp2_with fail
 go_loop [13] (fun x => ∃ m : Nat, a + k ≤ m ∧ m ≤ q ∧ x = .int .i64 m) (fun x => q - (intOf x).toNat)
 case atStart => exact ⟨a + k, Nat.le_refl _, by omega, by go_num⟩
 case round =>
  obtain ⟨m, hm1, hm2, rfl⟩ := hrel
  by_cases hmq : m < q
  ·have hml : m < l.length := by omega
   have hmlz : (m : Int) < l.length := by omega
   have hq := HQ.out.1 m hml hm1 hmq
   have HM : Hid (letterB l[m] = true) := hq
   clear hq
   go_wp2_with fail
   refine (letter_any l[m] _).mono ?_
   rintro e w' ⟨rfl, rfl⟩
   rw [HM.out]
   go_wp2_with fail
   exact ⟨⟨m + 1, by omega, by omega, by go_num⟩, by simp [intOf]; omega⟩
  ·have hmq' : m = q := by omega
   subst hmq'
   have hsl := slice_pq l (a + k) m ((a : Int) + k) (by omega) hq1 hq2 X HX.out
   go_wp2_with fail
   refine (letter_any l[m] _).mono ?_
   rintro e w' ⟨rfl, rfl⟩
   rw [HLe.out]
   go_wp2_with fail
   go_region
   go_wp2_with fail
   refine (digit_any l[m] _).mono ?_
   rintro e w' ⟨rfl, rfl⟩
   rw [HDg.out]
   go_wp2_with fail
   refine (letter_any l[m] _).mono ?_
   rintro e w' ⟨rfl, rfl⟩
   rw [HLe.out]
   go_wp2_with fail
   have hwr : IntKind.i64.wrap ((m : Int) - ((a : Int) + k)) = (d : Int) := by
    have := HDd.out
    unfold IntKind.wrap
    simp [IntKind.signed, IntKind.bits]
    omega
   go_region_with ((go_at_call 55; refine (move_any li (co + k) d (by omega) (by omega) hd _).mono ?_; rintro e w2 ⟨rfl, hb2⟩; obtain ⟨hc2, hf2⟩ := bcell hb2; have hs2 := hb2.size; have hB2 : Below w.heap.size w w2 := ((hB1.alloc (by omega) _).alloc (by simp; omega) _).drew.drew.trans (hb2.mono (by simp; omega)); simp at hc2 hf2 hs2; have g1 : ∀ o, w2.cell? ⟨w.heap.size + 1, o, none⟩ = w1.cell? ⟨w.heap.size + 1, o, none⟩ := (fun o => by rw [hc2 _ _ (by omega), World.cell?_alloc_lt _ _ _ (by simp; omega), World.cell?_alloc_lt _ _ _ (by simp; omega)]); have g2 : ∀ o, w2.cell? ⟨w.heap.size + 1 + 1, o, none⟩ = w1.cell? ⟨w.heap.size + 1 + 1, o, none⟩ := (fun o => by rw [hc2 _ _ (by omega), World.cell?_alloc_lt _ _ _ (by simp; omega), World.cell?_alloc_lt _ _ _ (by simp; omega)])))
   all_goals go_wp2
   all_goals refine bodyPost_ret (v := (.tuple #[tokV 1 0 li (co + k) X, .int .i64 (m : Int), .agg #[.int .i64 li, .int .i64 (co + k + d)], .int .i64 0])) (by simp [results, Tryz.results30, go_sem, hc, g1, g2]) rfl ⟨rfl, ?_⟩
   all_goals iterate 7 refine Below.setCell ?_ (by first | (simp; done) | (simp; omega)) _
   all_goals exact hB2

end Go.Proofs.YtgpkdjhllekihaaGreatDoor.Tok
