/- parterreref2.number by its contract. -/
import Derived.Test.YtgpkdjhllekihaaGreatDoorTRefA
namespace Go.Proofs.YtgpkdjhllekihaaGreatDoor.Tok
open Go.RowKit Go.Shelf
attribute [local go_sem] bget bdrop btake
set_option linter.unusedVariables false
set_option maxRecDepth 100000

theorem valL_snoc (l : List UInt8) (c : UInt8) : valL 0 (l ++ [c]) = valL 0 l * 10 + (c.toNat - 48) := by
 unfold valL; rw [List.foldl_append]; rfl
/-- What the digits of the first bytes spell. -/
def digV (l : List UInt8) (k : Nat) : Nat := valL 0 ((l.take k).filter digitB)
theorem digV_yes (l : List UInt8) (k : Nat) (hk : k < l.length) (h : digitB l[k] = true) : digV l (k + 1) = digV l k * 10 + (l[k].toNat - 48) := by
 unfold digV
 rw [List.take_succ_eq_append_getElem hk, List.filter_append, ← valL_snoc]
 simp [h]
theorem digV_no (l : List UInt8) (k : Nat) (hk : k < l.length) (h : digitB l[k] = false) : digV l (k + 1) = digV l k := by
 unfold digV
 rw [List.take_succ_eq_append_getElem hk, List.filter_append]
 simp [h]
theorem min_step (V d M : Nat) (hM : 9 ≤ M) : min (min V M * 10 + d) M = min (V * 10 + d) M := by omega

def numX (mn : Bool) (V : Nat) : Int := if mn then -(V : Int) else V
def numOk (x : Int) : Bool := decide (-2147483648 ≤ x) && decide (x ≤ 2147483647)
theorem ret_pair {x y : Int} {a b : Bool} (h1 : x = y) (h2 : a = b) : Ending.returned (.tuple #[.int .i64 x, .bool a]) = .returned (.tuple #[.int .i64 y, .bool b]) := by rw [h1, h2]

set_option maxRecDepth 100000 in
set_option maxHeartbeats 1000000 in
theorem number_walk (l : List UInt8) (hl : l.length ≤ 1048576) (h0 : 0 < l.length) (mn : Bool) (hmn : ((l[0].toNat : Int) == 45) = mn) (w : World) (x : Int) (b : Bool) (HX : Hid (x = numX mn (min (digV l l.length) 1099511627776) ∧ b = numOk x)) :
  Calls Tryz.prog 58 #[.string ⟨l.toArray⟩] w fun e w' => e = .returned (.tuple #[.int .i64 x, .bool b]) ∧ w' = w := by
 go_enter Tryz.func58, Tryz.ntmps58
 go_wp2_with fail
 go_loop [4, 6] (fun n i => ∃ (k V : Nat), k ≤ l.length ∧ V ≤ 1099511627776 ∧ i = .int .i64 k ∧ n = .int .i64 V ∧ Hid (V = min (digV l k) 1099511627776)) (fun _ i => l.length - (intOf i).toNat)
 case atStart => exact ⟨0, 0, Nat.zero_le _, by omega, rfl, rfl, (by unfold digV; simp [valL] : 0 = min (digV l 0) 1099511627776)⟩
 case round =>
  obtain ⟨k, V, hk, hV, rfl, rfl, HV⟩ := hrel
  by_cases hlt : k < l.length
  ·have hltz : (k : Int) < l.length := by omega
   cases hd : digitB l[k] with
   | true =>
    have hd' := hd
    unfold digitB at hd'
    simp at hd'
    obtain ⟨hd1, hd2⟩ := hd'
    have HD : Hid (digitB l[k] = true) := hd
    clear hd
    go_wp2_with fail
    refine (digit_any l[k] _).mono ?_
    rintro e w' ⟨rfl, rfl⟩
    rw [HD.out]
    go_wp2_with fail
    refine ⟨⟨k + 1, min (V * 10 + (l[k].toNat - 48)) 1099511627776, by omega, by omega, by go_num, ?_, ?_⟩, by simp [intOf]; omega⟩
    ·congr 1
     omega
    ·show min (V * 10 + (l[k].toNat - 48)) 1099511627776 = min (digV l (k + 1)) 1099511627776
     rw [digV_yes l k hlt HD.out, HV.out, min_step _ _ _ (by omega)]
   | false =>
    have HD : Hid (digitB l[k] = false) := hd
    clear hd
    go_wp2_with fail
    refine (digit_any l[k] _).mono ?_
    rintro e w' ⟨rfl, rfl⟩
    rw [HD.out]
    go_wp2_with fail
    refine ⟨⟨k + 1, V, by omega, hV, by go_num, rfl, ?_⟩, by simp [intOf]; omega⟩
    show V = min (digV l (k + 1)) 1099511627776
    rw [digV_no l k hlt HD.out]; exact HV.out
  ·have hltz : ¬ (k : Int) < l.length := by omega
   have e : k = l.length := by omega
   subst e
   cases mn with
   | true =>
    by_cases hc : V ≤ 2147483648
    ·have hc1 : -2147483648 ≤ -(V : Int) := by omega
     have hc2 : -(V : Int) ≤ 2147483647 := by omega
     go_wp2
     go_ret2
     exact ⟨ret_pair (by rw [HX.out.1, ← HV.out]; rfl) (by rw [HX.out.2, HX.out.1, ← HV.out]; unfold numOk numX; simp; omega), rfl⟩
    ·have hc1 : ¬ (-2147483648 ≤ -(V : Int)) := by omega
     go_wp2
     go_ret2
     exact ⟨ret_pair (by rw [HX.out.1, ← HV.out]; rfl) (by rw [HX.out.2, HX.out.1, ← HV.out]; unfold numOk numX; simp; omega), rfl⟩
   | false =>
    have hc1 : -2147483648 ≤ (V : Int) := by omega
    by_cases hc : V ≤ 2147483647
    ·have hc2 : (V : Int) ≤ 2147483647 := by omega
     go_wp2
     go_ret2
     exact ⟨ret_pair (by rw [HX.out.1, ← HV.out]; rfl) (by rw [HX.out.2, HX.out.1, ← HV.out]; unfold numOk numX; simp; omega), rfl⟩
    ·have hc2 : ¬ (V : Int) ≤ 2147483647 := by omega
     go_wp2
     go_ret2
     exact ⟨ret_pair (by rw [HX.out.1, ← HV.out]; rfl) (by rw [HX.out.2, HX.out.1, ← HV.out]; unfold numOk numX; simp; omega), rfl⟩
end Go.Proofs.YtgpkdjhllekihaaGreatDoor.Tok
