/- venue.marks by its contract. -/
import Derived.Test.YtgpkdjhllekihaaGreatDoorVMarksP
namespace Go.Proofs.YtgpkdjhllekihaaGreatDoor.Ven
set_option linter.unusedVariables false
set_option maxRecDepth 100000
open Go.RowKit Go.Shelf

theorem make45 (n : Nat) (hn : n ≤ 4096) (w : World) : (Instr.makeSlice 147 (.int .i64 n) (.int .i64 n)).run Tryz.prog w = .ok (.slice (some ⟨w.heap.size, 0, none⟩) n n) (w.alloc (.cells (madeCells #[.bool false] n) 4)) := by
 have h : (Tryz.prog.info? 4).map (fun i => (i.zero, i.size, i.bytes)) = some (some (.bool false), 1, 1) := by kernel_rfl
 cases hi : Tryz.prog.info? 4 with
 | none => rw [hi] at h; cases h
 | some i =>
  rw [hi] at h
  have h' := Option.some.inj h
  have hz := congrArg (·.1) h'
  have hs := congrArg (·.2.1) h'
  have hb := congrArg (·.2.2) h'
  simp only at hz hs hb
  have := run_make (P := Tryz.prog) w 147 4 i (.bool false) Tryz.underlying147 hi hz .i64 .i64 n n (by omega) (by omega) (by rw [hb]; omega) (by omega)
  rw [this, hs]
  simp
  rfl
set_option maxHeartbeats 2000000 in
theorem marks_some (l : List Int) (b off cap : Nat) (n : Nat) (hn : n ≤ 4096) (w : World) (hC : Cells 1 intC w b off l) (hl : l.length ≤ maxLen) (hin : l.all (fun k => isSeatB k n) = true) :
  Calls Tryz.prog 74 #[.slice (some ⟨b, off, none⟩) l.length cap, .int .i64 n] w fun e w' => e = .returned (.tuple #[.slice (some ⟨w.heap.size, 0, none⟩) n n, .bool true]) ∧ RowF w' w.heap.size n (fun j => .bool (markB l j)) ∧ Below w.heap.size w w' := by
 have HC : Hid (Cells 1 intC w b off l) := hC
 have HIn : Hid (l.all (fun k => isSeatB k n) = true) := hin
 clear hC hin
 unfold maxLen at hl
 have hmk := make45 n hn
 go_enter Tryz.func74, Tryz.ntmps74
 go_wp2
 go_loopw [8, 13] (fun _ i wr => ∃ k : Nat, k ≤ l.length ∧ i = .int .i64 k ∧ Below w.heap.size w wr ∧ RowF wr w.heap.size n (fun j => .bool (markB (l.take k) j))) (fun _ i _ => l.length - (intOf i).toNat)
 case atStart => exact ⟨0, Nat.zero_le _, rfl, (Below.refl _ w).alloc (Nat.le_refl _) _, RowF.made w (.bool false) n 4⟩
 case round =>
  obtain ⟨k, hk, rfl, hB, hR⟩ := hrel
  by_cases hlt : k < l.length
  ·have hltz : (k : Int) < (l.length : Int) := by omega
   have c0 := (HC.out.next hB).int k hlt
   have hq : isSeatB l[k] n = true := List.all_eq_true.1 HIn.out _ (List.getElem_mem hlt)
   have htk : l.take (k + 1) = l.take k ++ [l[k]] := List.take_succ_eq_append_getElem hlt
   generalize l[k] = y at c0 hq htk
   have hs := isSeat_any y n
   rw [hq] at hs
   obtain ⟨m, rfl, hm⟩ : ∃ m : Nat, y = (m : Int) ∧ m < n := by
    unfold isSeatB at hq; simp at hq
    exact ⟨y.toNat, by omega, by omega⟩
   have hmz : (m : Int) < (n : Int) := by omega
   have HT : Hid (l.take (k + 1) = l.take k ++ [(m : Int)]) := htk
   clear htk hq
   have r0 := (hR.2 m hm).1
   have r1 := (hR.2 m hm).2
   go_wp2_with fail
   refine (hs _).mono ?_
   rintro e w' ⟨rfl, rfl⟩
   go_wp2
   go_roundw
   case rel =>
    refine ⟨k + 1, by omega, by go_num, Below.setCell hB (Nat.le_refl _) _, ?_⟩
    refine hR.put m _ hm fun j hj => ?_
    unfold markB
    rw [HT.out]
    by_cases e : j = m
    ·subst e; simp
    ·rw [if_neg e]; simp; intro h; omega
   case measure => simp [intOf]; omega
  ·have hltz : ¬ (k : Int) < (l.length : Int) := by omega
   have e : l.take k = l := List.take_of_length_le (by omega)
   rw [e] at hR
   go_wp2
   go_ret2
   exact ⟨rfl, hR, hB⟩
set_option maxHeartbeats 2000000 in
theorem marks_bad (l : List Int) (b off cap : Nat) (n : Nat) (hn : n ≤ 4096) (w : World) (hC : Cells 1 intC w b off l) (hl : l.length ≤ maxLen) (hin : l.all (fun k => isSeatB k n) = false) :
  Calls Tryz.prog 74 #[.slice (some ⟨b, off, none⟩) l.length cap, .int .i64 n] w fun e w' => e = .returned (.tuple #[.slice none 0 0, .bool false]) ∧ Below w.heap.size w w' := by
 have HC : Hid (Cells 1 intC w b off l) := hC
 have HIn : Hid (l.all (fun k => isSeatB k n) = false) := hin
 clear hC hin
 unfold maxLen at hl
 have hmk := make45 n hn
 go_enter Tryz.func74, Tryz.ntmps74
 go_wp2
 go_loopw [8, 13] (fun _ i wr => ∃ k : Nat, k ≤ l.length ∧ i = .int .i64 k ∧ Below w.heap.size w wr ∧ RowF wr w.heap.size n (fun j => .bool (markB (l.take k) j)) ∧ Hid (∀ j (hj : j < l.length), j < k → isSeatB l[j] n = true)) (fun _ i _ => l.length - (intOf i).toNat)
 case atStart => exact ⟨0, Nat.zero_le _, rfl, (Below.refl _ w).alloc (Nat.le_refl _) _, RowF.made w (.bool false) n 4, by intro j _ hj; omega⟩
 case round =>
  obtain ⟨k, hk, rfl, hB, hR, HA⟩ := hrel
  by_cases hlt : k < l.length
  ·have hltz : (k : Int) < (l.length : Int) := by omega
   have c0 := (HC.out.next hB).int k hlt
   have htk : l.take (k + 1) = l.take k ++ [l[k]] := List.take_succ_eq_append_getElem hlt
   have hy : ∀ j (hj : j < l.length), j = k → l[j] = l[k] := fun j hj e => by subst e; rfl
   generalize l[k] = y at c0 htk hy
   have HY : Hid (∀ j (hj : j < l.length), j = k → l[j] = y) := hy
   clear hy
   have hs := isSeat_any y n
   cases hq : isSeatB y n with
   | false =>
    rw [hq] at hs
    clear hq htk
    go_wp2_with fail
    refine (hs _).mono ?_
    rintro e w' ⟨rfl, rfl⟩
    go_wp2
    go_ret2
    exact ⟨rfl, hB⟩
   | true =>
    rw [hq] at hs
    have HQ : Hid (isSeatB y n = true) := hq
    obtain ⟨m, hm0, hm⟩ : ∃ m : Nat, y = (m : Int) ∧ m < n := by
     unfold isSeatB at hq; simp at hq
     exact ⟨y.toNat, by omega, by omega⟩
    clear hq
    subst hm0
    have hmz : (m : Int) < (n : Int) := by omega
    have HT : Hid (l.take (k + 1) = l.take k ++ [(m : Int)]) := htk
    clear htk
    have r0 := (hR.2 m hm).1
    have r1 := (hR.2 m hm).2
    go_wp2_with fail
    refine (hs _).mono ?_
    rintro e w' ⟨rfl, rfl⟩
    go_wp2
    go_roundw
    case rel =>
     refine ⟨k + 1, by omega, by go_num, Below.setCell hB (Nat.le_refl _) _, ?_, ?_⟩
     ·refine hR.put m _ hm fun j hj => ?_
      unfold markB
      rw [HT.out]
      by_cases e : j = m
      ·subst e; simp
      ·rw [if_neg e]; simp; intro h; omega
     ·show ∀ j (hj : j < l.length), j < k + 1 → isSeatB l[j] n = true
      intro j hj h
      rcases Nat.lt_or_ge j k with h' | h'
      ·exact HA.out j hj h'
      ·rw [HY.out j hj (by omega)]; exact HQ.out
    case measure => simp [intOf]; omega
  ·exfalso
   have : l.all (fun k => isSeatB k n) = true := by
    rw [List.all_eq_true]
    intro x hx
    obtain ⟨j, hj, rfl⟩ := List.getElem_of_mem hx
    exact HA.out j hj (by omega)
   rw [HIn.out] at this
   cases this
set_option maxHeartbeats 1000000 in
theorem marks_none (a : Option Addr) (cp : Nat) (n : Nat) (hn : n ≤ 4096) (w : World) :
  Calls Tryz.prog 74 #[.slice a 0 cp, .int .i64 n] w fun e w' => e = .returned (.tuple #[.slice (some ⟨w.heap.size, 0, none⟩) n n, .bool true]) ∧ RowF w' w.heap.size n (fun j => .bool (markB [] j)) ∧ Below w.heap.size w w' := by
 have hmk := make45 n hn
 have hR := RowF.made w (.bool false) n 4
 go_enter Tryz.func74, Tryz.ntmps74
 go_wp2
 go_loop [8, 13] (fun _ i => i = .int .i64 0) (fun _ _ => 0)
 case atStart => rfl
 case round =>
  subst hrel
  go_wp2
  go_ret2
  exact ⟨rfl, hR, (Below.refl _ w).alloc (Nat.le_refl _) _⟩
/-- Where each kill is a seat: each seat's mark. -/
theorem marks_yes (l : List Int) (v : Value) (n : Nat) (hn : n ≤ 4096) (w : World) (hS : Sl 1 intC w v l) (hin : l.all (fun k => isSeatB k n) = true) :
  Calls Tryz.prog 74 #[v, .int .i64 n] w fun e w' => e = .returned (.tuple #[.slice (some ⟨w.heap.size, 0, none⟩) n n, .bool true]) ∧ RowF w' w.heap.size n (fun j => .bool (markB l j)) ∧ Below w.heap.size w w' := by
 rcases hS with ⟨⟨a, cp, rfl⟩, rfl⟩ | ⟨b, off, cap, rfl, h1, h2, hC⟩
 ·exact marks_none a cp n hn w
 ·exact marks_some l b off cap n hn w hC (by omega) hin
theorem marks_no (l : List Int) (v : Value) (n : Nat) (hn : n ≤ 4096) (w : World) (hS : Sl 1 intC w v l) (hin : l.all (fun k => isSeatB k n) = false) :
  Calls Tryz.prog 74 #[v, .int .i64 n] w fun e w' => e = .returned (.tuple #[.slice none 0 0, .bool false]) ∧ Below w.heap.size w w' := by
 rcases hS with ⟨⟨a, cp, rfl⟩, rfl⟩ | ⟨b, off, cap, rfl, h1, h2, hC⟩
 ·cases hin
 ·exact marks_bad l b off cap n hn w hC (by omega) hin
end Go.Proofs.YtgpkdjhllekihaaGreatDoor.Ven
