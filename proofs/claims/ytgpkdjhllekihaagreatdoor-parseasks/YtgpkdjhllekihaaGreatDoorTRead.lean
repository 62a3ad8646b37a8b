/- token.unsaid, word, number, read by contracts. -/
import Derived.Test.YtgpkdjhllekihaaGreatDoorTSpan
import Derived.Test.YtgpkdjhllekihaaGreatDoorShelf
import Derived.Lib.Hide
namespace Go.Proofs.YtgpkdjhllekihaaGreatDoor.Tok
set_option linter.unusedVariables false
set_option maxRecDepth 100000
open Go.RowKit Go.Shelf

theorem enters31 : ∀ args w, (callFunc 88 args).run Tryz.prog w = .ok (.enter 88 args) w := by
 intro args w; rfl
theorem enters32 : ∀ args w, (callFunc 89 args).run Tryz.prog w = .ok (.enter 89 args) w := by
 intro args w; rfl
theorem enters34 : ∀ args w, (callFunc 91 args).run Tryz.prog w = .ok (.enter 91 args) w := by
 intro args w; rfl
theorem span_blank (l : List UInt8) (hl : l.length ≤ 1048576) (w : World) :
  Calls Tryz.prog 86 #[.string ⟨l.toArray⟩, .func (.func 87) #[] #[]] w fun e w' => e = .returned (.int .i64 (spanL blankB l)) ∧ w' = w := span_any 87 blankB isBlank_any enters30 l hl w
theorem span_line (l : List UInt8) (hl : l.length ≤ 1048576) (w : World) :
  Calls Tryz.prog 86 #[.string ⟨l.toArray⟩, .func (.func 88) #[] #[]] w fun e w' => e = .returned (.int .i64 (spanL lineB l)) ∧ w' = w := span_any 88 lineB inLine_any enters31 l hl w
theorem span_letter (l : List UInt8) (hl : l.length ≤ 1048576) (w : World) :
  Calls Tryz.prog 86 #[.string ⟨l.toArray⟩, .func (.func 89) #[] #[]] w fun e w' => e = .returned (.int .i64 (spanL letterB l)) ∧ w' = w := span_any 89 letterB isLetter_any enters32 l hl w
theorem span_digit (l : List UInt8) (hl : l.length ≤ 1048576) (w : World) :
  Calls Tryz.prog 86 #[.string ⟨l.toArray⟩, .func (.func 91) #[] #[]] w fun e w' => e = .returned (.int .i64 (spanL digitB l)) ∧ w' = w := span_any 91 digitB isDigit_any enters34 l hl w

attribute [local go_sem] bget bdrop btake

set_option maxHeartbeats 400000 in
theorem unsaid_any (l : List UInt8) (hl : l.length ≤ 1048576) (w : World) :
  Calls Tryz.prog 64 #[.string ⟨l.toArray⟩] w fun e w' => e = .returned (.int .i64 (unsaidL l)) ∧ w' = w := by
 have hle := spanL_le blankB l
 unfold unsaidL
 generalize hb : spanL blankB l = b
 rw [hb] at hle
 have HB : Hid (spanL blankB l = b) := hb
 clear hb
 have hll := spanL_le lineB (l.drop b)
 rw [List.length_drop] at hll
 by_cases hlt : b < l.length
 ·have hd : (l.drop b).head?.map (·.toNat) = some l[b].toNat := by simp [List.head?_drop, hlt]
  have hbl : ((b : Int) == (l.length : Int)) = false := by simp; omega
  by_cases h35 : l[b].toNat = 35
  ·rw [if_pos (by rw [hd, h35])]
   have h35' : ((l[b].toNat : Int) != 35) = false := by simp; omega
   clear h35 hd
   go_enter Tryz.func64, Tryz.ntmps64
   go_wp2_with fail
   refine (span_blank l hl _).mono ?_
   rintro e w' ⟨rfl, rfl⟩
   rw [HB.out]
   go_wp2_with fail
   refine (span_line (l.drop b) (by simp; omega) _).mono ?_
   rintro e w' ⟨rfl, rfl⟩
   go_wp2
   go_ret
   exact ⟨ret_int (by omega), rfl⟩
  ·rw [if_neg (by rw [hd]; simpa using h35)]
   have h35' : ((l[b].toNat : Int) != 35) = true := by simp; omega
   clear h35 hd
   go_enter Tryz.func64, Tryz.ntmps64
   go_wp2_with fail
   refine (span_blank l hl _).mono ?_
   rintro e w' ⟨rfl, rfl⟩
   rw [HB.out]
   go_wp2
   go_ret
   exact ⟨ret_int (by omega), rfl⟩
 ·have e : b = l.length := by omega
  have hd : (l.drop b).head?.map (·.toNat) = none := by rw [e]; simp
  rw [if_neg (by rw [hd]; simp)]
  clear hd hll
  subst e
  go_enter Tryz.func64, Tryz.ntmps64
  go_wp2_with fail
  refine (span_blank l hl _).mono ?_
  rintro e w' ⟨rfl, rfl⟩
  rw [HB.out]
  go_wp2
  go_ret
  exact ⟨ret_int (by omega), rfl⟩
end Go.Proofs.YtgpkdjhllekihaaGreatDoor.Tok
