/- parterreref2.Next by its contract, way by way. -/
import Derived.Test.YtgpkdjhllekihaaGreatDoorTRefN
import Derived.Test.YtgpkdjhllekihaaGreatDoorTNext
namespace Go.Proofs.YtgpkdjhllekihaaGreatDoor.Tok
open Go.RowKit Go.Shelf
attribute [local go_sem] bget bdrop btake
set_option linter.unusedVariables false
set_option maxRecDepth 100000

theorem bmid (T : List UInt8) (p q : Nat) : (⟨T.toArray⟩ : ByteArray).extract p q = ⟨((T.drop p).take (q - p)).toArray⟩ := by
 apply ByteArray.ext; simp [ByteArray.data_extract]
theorem slice_pq (T : List UInt8) (p q : Nat) (lo : Int) (hlo : lo = p) (hpq : p ≤ q) (hq : q ≤ T.length) (X : List UInt8) (hX : (T.drop p).take (q - p) = X) (wx : World) :
  (Instr.slice 9 (.string ⟨T.toArray⟩) (some (.int .i64 lo)) (some (.int .i64 (q : Int))) none).run Tryz.prog wx = .ok (.string ⟨X.toArray⟩) wx := by
 have hsz : (⟨T.toArray⟩ : ByteArray).size = T.length := by show T.toArray.size = _; simp
 have := run_slice_string (P := Tryz.prog) wx 9 ⟨T.toArray⟩ .i64 .i64 lo (q : Int) Tryz.underlying9 (by omega) (by omega) (by rw [hsz]; omega)
 rw [this]
 have e1 : ((q : Int)).toNat = q := by omega
 have e2 : lo.toNat = p := by omega
 rw [e1, e2, bmid, hX]
set_option maxRecDepth 100000 in
set_option maxHeartbeats 2000000 in
theorem rnext_none (l : List UInt8) (hl : l.length ≤ 1048576) (a : Nat) (ha : a ≤ l.length) (li co : Int) (hli : 0 ≤ li) (hli2 : li ≤ 1099511627776) (hco : 0 ≤ co) (hco2 : co ≤ 1099511627776) (w : World)
  (k : Nat) (HK : Hid (unsaidL (l.drop a) = k)) (hak : a + k ≤ l.length) (hk : a + k = l.length) :
  Calls Tryz.prog 30 #[.string ⟨l.toArray⟩, .int .i64 a, .agg #[.int .i64 li, .int .i64 co]] w fun e w' => e = .returned (.tuple #[tokV 0 0 0 0 [], .int .i64 ((a : Int) + k), .agg #[.int .i64 li, .int .i64 (co + k)], .int .i64 4]) ∧ Below w.heap.size w w' := by
 have hk2 : (((a : Int) + k) == (l.length : Int)) = true := by simp; omega
 have HKK : Hid (a + k = l.length) := hk
 clear hk
 have ha1 : ¬ ((a : Int) < 0) := by omega
 have ha2 : ¬ ((l.length : Int) < (a : Int)) := by omega
 go_enter Tryz.func30, Tryz.ntmps30
 go_wp2_with fail
 refine (skip_any l hl a ha _).mono ?_
 rintro e w' ⟨rfl, rfl⟩
 rw [HK.out]
 go_wp2_with fail
 rw [show ((a : Int) + k - a) = (k : Int) by omega]
 refine (move_any li co k hco (by omega) (by omega) _).mono ?_
 rintro e w1 ⟨rfl, hb⟩
 obtain ⟨hc, hf⟩ := bcell hb
 have hz2 : w.heap.size + 1 + 1 < w1.heap.size := by have := hb.size; simp at this; omega
 have hz1 : w.heap.size + 1 < w1.heap.size := by omega
 have hz0 : w.heap.size < w1.heap.size := by omega
 have hB1 : Below w.heap.size w w1 := ((((Below.refl _ w).alloc (Nat.le_refl _) _).alloc (by simp) _).alloc (by simp; omega) _).trans (hb.mono (by simp; omega))
 simp at hc hf
 clear hb
 go_wp2_with fail
 go_region
 go_wp2_with fail
 refine bodyPost_ret (v := (.tuple #[tokV 0 0 0 0 [], .int .i64 ((a : Int) + k), .agg #[.int .i64 li, .int .i64 (co + k)], .int .i64 4])) (by simp [results, Tryz.results30, go_sem, hc, hz0, hz1, hz2]) rfl ⟨rfl, ?_⟩
 refine Below.drew ?_
 refine Below.alloc ?_ (by first | (simp; done) | (simp; omega)) _
 refine Below.alloc ?_ (by first | (simp; done) | (simp; omega)) _
 iterate 7 refine Below.setCell ?_ (by first | (simp; done) | (simp; omega)) _
 exact hB1

set_option maxRecDepth 100000 in
set_option maxHeartbeats 2000000 in
theorem rnext_end (l : List UInt8) (hl : l.length ≤ 1048576) (a : Nat) (ha : a ≤ l.length) (li co : Int) (hli : 0 ≤ li) (hli2 : li ≤ 1099511627776) (hco : 0 ≤ co) (hco2 : co ≤ 1099511627776) (w : World)
  (k : Nat) (HK : Hid (unsaidL (l.drop a) = k)) (hak : a + k ≤ l.length) (hk : a + k < l.length) (h10 : ((l[a + k].toNat : Int) == 10) = true) :
  Calls Tryz.prog 30 #[.string ⟨l.toArray⟩, .int .i64 a, .agg #[.int .i64 li, .int .i64 co]] w fun e w' => e = .returned (.tuple #[tokV 3 0 li (co + k) [], .int .i64 ((a : Int) + k + 1), .agg #[.int .i64 (li + 1), .int .i64 1], .int .i64 0]) ∧ Below w.heap.size w w' := by
 have hk2 : (((a : Int) + k) == (l.length : Int)) = false := by simp; omega
 have ha1 : ¬ ((a : Int) < 0) := by omega
 have ha2 : ¬ ((l.length : Int) < (a : Int)) := by omega
 go_enter Tryz.func30, Tryz.ntmps30
 go_wp2_with fail
 refine (skip_any l hl a ha _).mono ?_
 rintro e w' ⟨rfl, rfl⟩
 rw [HK.out]
 go_wp2_with fail
 rw [show ((a : Int) + k - a) = (k : Int) by omega]
 refine (move_any li co k hco (by omega) (by omega) _).mono ?_
 rintro e w1 ⟨rfl, hb⟩
 obtain ⟨hc, hf⟩ := bcell hb
 have hz2 : w.heap.size + 1 + 1 < w1.heap.size := by have := hb.size; simp at this; omega
 have hz1 : w.heap.size + 1 < w1.heap.size := by omega
 have hz0 : w.heap.size < w1.heap.size := by omega
 have hB1 : Below w.heap.size w w1 := ((((Below.refl _ w).alloc (Nat.le_refl _) _).alloc (by simp) _).alloc (by simp; omega) _).trans (hb.mono (by simp; omega))
 simp at hc hf
 clear hb
 go_wp2_with fail
 go_region
 go_wp2_with fail
 refine bodyPost_ret (v := (.tuple #[tokV 3 0 li (co + k) [], .int .i64 ((a : Int) + k + 1), .agg #[.int .i64 (li + 1), .int .i64 1], .int .i64 0])) (by simp [results, Tryz.results30, go_sem, hc, hz0, hz1, hz2]) rfl ⟨rfl, ?_⟩
 refine Below.drew ?_
 refine Below.alloc ?_ (by first | (simp; done) | (simp; omega)) _
 refine Below.alloc ?_ (by first | (simp; done) | (simp; omega)) _
 iterate 7 refine Below.setCell ?_ (by first | (simp; done) | (simp; omega)) _
 exact hB1

end Go.Proofs.YtgpkdjhllekihaaGreatDoor.Tok
