/- token.span and the kinds of bytes, by contracts. -/
import Derived.Test.YtgpkdjhllekihaaGreatDoorTPure
import Derived.Test.YtgpkdjhllekihaaGreatDoorProg
import Derived.WalkKit
import Derived.RowKitTokens
import Derived.Below
namespace Go.Proofs.YtgpkdjhllekihaaGreatDoor.Tok
set_option linter.unusedVariables false
set_option maxRecDepth 100000
open Go.RowKit

theorem ret_bool {a b : Bool} (h : a = b) : Ending.returned (.bool a) = .returned (.bool b) := by rw [h]
theorem ret_int {k : IntKind} {a b : Int} (h : a = b) : Ending.returned (.int k a) = .returned (.int k b) := by rw [h]

theorem bget (l : List UInt8) (b : Nat) (h : b < l.length) : (⟨l.toArray⟩ : ByteArray)[b]'h = l[b] := rfl
theorem bdrop (l : List UInt8) (b : Nat) : (⟨l.toArray⟩ : ByteArray).extract b l.length = ⟨(l.drop b).toArray⟩ := by
 apply ByteArray.ext; simp [ByteArray.data_extract]; rw [List.take_of_length_le (by simp)]
theorem btake (l : List UInt8) (k : Nat) : (⟨l.toArray⟩ : ByteArray).extract 0 k = ⟨(l.take k).toArray⟩ := by
 apply ByteArray.ext; simp [ByteArray.data_extract]

theorem isBlank_any (c : UInt8) (w : World) : Calls Tryz.prog 87 #[.int .u8 c.toNat] w fun e w' => e = .returned (.bool (blankB c)) ∧ w' = w := by
 unfold blankB
 go_enter Tryz.func87, Tryz.ntmps87
 go_wp2
 all_goals go_ret
 all_goals exact ⟨ret_bool (by (try simp_all); try omega), rfl⟩
theorem inLine_any (c : UInt8) (w : World) : Calls Tryz.prog 88 #[.int .u8 c.toNat] w fun e w' => e = .returned (.bool (lineB c)) ∧ w' = w := by
 unfold lineB
 go_enter Tryz.func88, Tryz.ntmps88
 go_wp2
 all_goals go_ret
 all_goals exact ⟨ret_bool (by simp_all [bne]), rfl⟩
theorem isLetter_any (c : UInt8) (w : World) : Calls Tryz.prog 89 #[.int .u8 c.toNat] w fun e w' => e = .returned (.bool (letterB c)) ∧ w' = w := by
 unfold letterB
 go_enter Tryz.func89, Tryz.ntmps89
 go_wp2
 all_goals go_ret
 all_goals exact ⟨ret_bool (by (try simp_all); try omega), rfl⟩
theorem isDigit_any (c : UInt8) (w : World) : Calls Tryz.prog 91 #[.int .u8 c.toNat] w fun e w' => e = .returned (.bool (digitB c)) ∧ w' = w := by
 unfold digitB
 go_enter Tryz.func91, Tryz.ntmps91
 go_wp2
 all_goals go_ret
 all_goals exact ⟨ret_bool (by (try simp_all); try omega), rfl⟩
set_option maxHeartbeats 400000 in
theorem span_any (g : Nat) (p : UInt8 → Bool) (hp : ∀ c w, Calls Tryz.prog g #[.int .u8 c.toNat] w fun e w' => e = .returned (.bool (p c)) ∧ w' = w)
  (eg : ∀ args w, (callFunc g args).run Tryz.prog w = .ok (.enter g args) w)
  (l : List UInt8) (hl : l.length ≤ 1048576) (w : World) :
  Calls Tryz.prog 86 #[.string ⟨l.toArray⟩, .func (.func g) #[] #[]] w fun e w' => e = .returned (.int .i64 (spanL p l)) ∧ w' = w := by
 have Hp : Hid (∀ c w, Calls Tryz.prog g #[.int .u8 c.toNat] w fun e w' => e = .returned (.bool (p c)) ∧ w' = w) := hp
 clear hp
 go_enter Tryz.func86, Tryz.ntmps86
 go_wp2
 go_loop [5, 8] (fun _ i => ∃ k : Nat, k ≤ l.length ∧ i = .int .i64 k ∧ Hid (∀ j (hj : j < l.length), j < k → p l[j] = true)) (fun _ i => l.length - (intOf i).toNat)
 case atStart => exact ⟨0, Nat.zero_le _, rfl, by intro j _ hj; omega⟩
 case round =>
  obtain ⟨k, hk, rfl, HA⟩ := hrel
  by_cases hlt : k < l.length
  ·cases hq : p l[k] with
   | true =>
    have HQ : Hid (p l[k] = true) := hq
    clear hq
    go_wp2_with fail
    refine (Hp.out l[k] _).mono ?_
    rintro e w' ⟨rfl, rfl⟩
    rw [HQ.out]
    go_wp2
    go_round
    case rel =>
     refine ⟨k + 1, by omega, by go_num, ?_⟩
     show ∀ j (hj : j < l.length), j < k + 1 → p l[j] = true
     intro j hj h
     rcases Nat.lt_or_ge j k with h' | h'
     ·exact HA.out j hj h'
     ·have e : j = k := by omega
      subst e; exact HQ.out
    case measure => simp [intOf]; omega
   | false =>
    have HQ : Hid (p l[k] = false) := hq
    clear hq
    go_wp2_with fail
    refine (Hp.out l[k] _).mono ?_
    rintro e w' ⟨rfl, rfl⟩
    rw [HQ.out]
    go_wp2
    go_ret
    exact ⟨ret_int (by rw [spanL_hit p l k hlt (fun j hj => HA.out j (by omega) hj) HQ.out]), rfl⟩
  ·go_wp2
   go_ret
   exact ⟨ret_int (by rw [spanL_all p l (fun j hj => HA.out j hj (by omega))]), rfl⟩

theorem enters30 : ∀ args w, (callFunc 87 args).run Tryz.prog w = .ok (.enter 87 args) w := by
 intro args w; rfl
end Go.Proofs.YtgpkdjhllekihaaGreatDoor.Tok
