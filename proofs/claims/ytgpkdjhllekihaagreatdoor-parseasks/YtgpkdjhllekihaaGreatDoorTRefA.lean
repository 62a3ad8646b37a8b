/- parterreref2.skip, move, number by contracts. -/
import Derived.Test.YtgpkdjhllekihaaGreatDoorTReads
namespace Go.Proofs.YtgpkdjhllekihaaGreatDoor.Tok
open Go.RowKit Go.Shelf
attribute [local go_sem] bget bdrop btake
set_option linter.unusedVariables false
set_option maxRecDepth 100000

theorem blank_any (c : UInt8) (w : World) : Calls Tryz.prog 80 #[.int .u8 c.toNat] w fun e w' => e = .returned (.bool (blankB c)) ∧ w' = w := by
 unfold blankB
 go_enter Tryz.func80, Tryz.ntmps80
 go_wp2
 all_goals go_ret
 all_goals exact ⟨ret_bool (by (try simp_all); try omega), rfl⟩
theorem letter_any (c : UInt8) (w : World) : Calls Tryz.prog 56 #[.int .u8 c.toNat] w fun e w' => e = .returned (.bool (letterB c)) ∧ w' = w := by
 unfold letterB
 go_enter Tryz.func56, Tryz.ntmps56
 go_wp2
 all_goals go_ret
 all_goals exact ⟨ret_bool (by (try simp_all); try omega), rfl⟩
theorem digit_any (c : UInt8) (w : World) : Calls Tryz.prog 57 #[.int .u8 c.toNat] w fun e w' => e = .returned (.bool (digitB c)) ∧ w' = w := by
 unfold digitB
 go_enter Tryz.func57, Tryz.ntmps57
 go_wp2
 all_goals go_ret
 all_goals exact ⟨ret_bool (by (try simp_all); try omega), rfl⟩

theorem span_from (p : UInt8 → Bool) (l : List UInt8) (a k : Nat) (hak : a ≤ k) (hk : k ≤ l.length) (hall : ∀ j (hj : j < l.length), a ≤ j → j < k → p l[j] = true) (hstop : ∀ h : k < l.length, p l[k] = false) : spanL p (l.drop a) = k - a := by
 rcases Nat.lt_or_ge k l.length with h | h
 ·refine spanL_hit p (l.drop a) (k - a) (by rw [List.length_drop]; omega) ?_ ?_
  ·intro j hj
   rw [List.getElem_drop]
   exact hall (a + j) (by omega) (by omega) (by omega)
  ·rw [List.getElem_drop]
   have e : a + (k - a) = k := by omega
   simp only [e]
   exact hstop h
 ·have e : k = l.length := by omega
  subst e
  rw [spanL_all p (l.drop a) (fun j hj => by
   rw [List.getElem_drop]
   rw [List.length_drop] at hj
   exact hall (a + j) (by omega) (by omega) (by omega)), List.length_drop]

set_option maxHeartbeats 1000000 in
theorem skip_any (l : List UInt8) (hl : l.length ≤ 1048576) (a : Nat) (ha : a ≤ l.length) (w : World) :
  Calls Tryz.prog 54 #[.string ⟨l.toArray⟩, .int .i64 a] w fun e w' => e = .returned (.int .i64 ((a : Int) + unsaidL (l.drop a))) ∧ w' = w := by
 go_enter Tryz.func54, Tryz.ntmps54
 go_wp2
 go_loop [1] (fun x => ∃ k : Nat, a ≤ k ∧ k ≤ l.length ∧ x = .int .i64 k ∧ Hid (∀ j (hj : j < l.length), a ≤ j → j < k → blankB l[j] = true)) (fun x => l.length - (intOf x).toNat)
 case atStart => exact ⟨a, Nat.le_refl _, ha, rfl, by intro j _ h1 h2; omega⟩
 case round =>
  obtain ⟨k, hak, hk, rfl, HA⟩ := hrel
  by_cases hlt : k < l.length
  ·have hltz : (k : Int) < l.length := by omega
   cases hq : blankB l[k] with
   | true =>
    have HQ : Hid (blankB l[k] = true) := hq
    clear hq
    go_wp2_with fail
    refine (blank_any l[k] _).mono ?_
    rintro e w' ⟨rfl, rfl⟩
    rw [HQ.out]
    go_wp2_with fail
    refine ⟨⟨k + 1, by omega, by omega, by go_num, ?_⟩, by simp [intOf]; omega⟩
    show ∀ j (hj : j < l.length), a ≤ j → j < k + 1 → blankB l[j] = true
    intro j hj h1 h2
    rcases Nat.lt_or_ge j k with h' | h'
    ·exact HA.out j hj h1 h'
    ·have e : j = k := by omega
     subst e; exact HQ.out
   | false =>
    have HQ : Hid (blankB l[k] = false) := hq
    clear hq
    have hsp := span_from blankB l a k hak hk HA.out (fun h => HQ.out)
    have HS : Hid (spanL blankB (l.drop a) = k - a) := hsp
    clear hsp
    have hdd : (l.drop a).drop (k - a) = l.drop k := by rw [List.drop_drop]; congr 1; omega
    by_cases h35 : l[k].toNat = 35
    ·have h35z : ((l[k].toNat : Int) == 35) = true := by simp; omega
     have HU : Hid (unsaidL (l.drop a) = k - a + spanL lineB (l.drop k)) := by
      show unsaidL (l.drop a) = _
      unfold unsaidL
      rw [HS.out, hdd, if_pos (by rw [List.head?_drop, List.getElem?_eq_getElem hlt]; simp [h35])]
     clear h35 hdd
     go_wp2_with fail
     refine (blank_any l[k] _).mono ?_
     rintro e w' ⟨rfl, rfl⟩
     rw [HQ.out]
     go_wp2_with fail
     go_loop [1] (fun x => ∃ m : Nat, k ≤ m ∧ m ≤ l.length ∧ x = .int .i64 m ∧ Hid (∀ j (hj : j < l.length), k ≤ j → j < m → lineB l[j] = true)) (fun x => l.length - (intOf x).toNat)
     case atStart => exact ⟨k, Nat.le_refl _, hk, rfl, by intro j _ h1 h2; omega⟩
     case round =>
      obtain ⟨m, hkm, hm, rfl, HM⟩ := hrel
      by_cases hml : m < l.length
      ·have hmlz : (m : Int) < l.length := by omega
       cases hq2 : ((l[m].toNat : Int) != 10) with
       | true =>
        go_wp2_with fail
        refine ⟨⟨m + 1, by omega, by omega, by go_num, ?_⟩, by simp [intOf]; omega⟩
        show ∀ j (hj : j < l.length), k ≤ j → j < m + 1 → lineB l[j] = true
        intro j hj h1 h2
        rcases Nat.lt_or_ge j m with h' | h'
        ·exact HM.out j hj h1 h'
        ·have e : j = m := by omega
         subst e
         unfold lineB; exact hq2
       | false =>
        have hsl := span_from lineB l k m hkm hm HM.out (fun h => by unfold lineB; exact hq2)
        have HSL : Hid (spanL lineB (l.drop k) = m - k) := hsl
        clear hsl
        go_wp2
        go_ret
        exact ⟨ret_int (by rw [HU.out, HSL.out]; omega), rfl⟩
      ·have hmlz : ¬ (m : Int) < l.length := by omega
       have hsl := span_from lineB l k m hkm hm HM.out (fun h => by omega)
       have HSL : Hid (spanL lineB (l.drop k) = m - k) := hsl
       clear hsl
       go_wp2
       go_ret
       exact ⟨ret_int (by rw [HU.out, HSL.out]; omega), rfl⟩
    ·have h35z : ((l[k].toNat : Int) == 35) = false := by simp; omega
     have HU : Hid (unsaidL (l.drop a) = k - a) := by
      show unsaidL (l.drop a) = _
      unfold unsaidL
      rw [HS.out, hdd, if_neg (by rw [List.head?_drop, List.getElem?_eq_getElem hlt]; simp [h35])]; rfl
     clear h35 hdd
     go_wp2_with fail
     refine (blank_any l[k] _).mono ?_
     rintro e w' ⟨rfl, rfl⟩
     rw [HQ.out]
     go_wp2
     go_ret
     exact ⟨ret_int (by rw [HU.out]; omega), rfl⟩
  ·have hltz : ¬ (k : Int) < l.length := by omega
   have hsp := span_from blankB l a k hak hk HA.out (fun h => absurd h hlt)
   have HU : Hid (unsaidL (l.drop a) = k - a) := by
    show unsaidL (l.drop a) = _
    unfold unsaidL
    rw [hsp, List.drop_of_length_le (by rw [List.length_drop]; omega), if_neg (by simp)]; rfl
   clear hsp
   go_wp2
   go_ret
   exact ⟨ret_int (by rw [HU.out]; omega), rfl⟩

set_option maxHeartbeats 1000000 in
theorem move_any (li co : Int) (n : Nat) (hco : 0 ≤ co) (hco2 : co ≤ 2199023255552) (hn : n ≤ 1048576) (w : World) :
  Calls Tryz.prog 55 #[.agg #[.int .i64 li, .int .i64 co], .int .i64 n] w fun e w' => e = .returned (.agg #[.int .i64 li, .int .i64 (co + n)]) ∧ Below w.heap.size w w' := by
 go_enter Tryz.func55, Tryz.ntmps55
 go_wp2
 refine bodyPost_ret (v := .agg #[.int .i64 li, .int .i64 (co + n)]) (by simp [results, Tryz.results55, go_sem]) rfl ⟨rfl, ?_⟩
 exact ((Below.refl _ w).alloc (Nat.le_refl _) _).alloc (by simp) _
end Go.Proofs.YtgpkdjhllekihaaGreatDoor.Tok
