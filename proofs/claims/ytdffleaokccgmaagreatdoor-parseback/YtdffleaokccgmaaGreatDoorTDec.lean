/- parterreref2.Decimal by its contract: a decimal, and what it is read as. -/
import Derived.Test.YtdffleaokccgmaaGreatDoorTPure
import Derived.Test.YtdffleaokccgmaaGreatDoorProg
import Derived.WalkKit
import Derived.Lib.ItoaMem
import Derived.Lib.ItoaLen
import Derived.WalkSpells
namespace Go.Proofs.YtdffleaokccgmaaGreatDoor.Tok
set_option linter.unusedVariables false
set_option maxRecDepth 100000
open Go.RowKit

theorem dig_piece (d : Nat) (h : d < 10) : (⟨#[48, 49, 50, 51, 52, 53, 54, 55, 56, 57]⟩ : ByteArray).extract d (d + 1) = ⟨#[UInt8.ofNat (48 + d)]⟩ := by
  match d, h with
  | 0, _ | 1, _ | 2, _ | 3, _ | 4, _ | 5, _ | 6, _ | 7, _ | 8, _ | 9, _ => rfl
theorem dig_front (d : Nat) (h : d < 10) (T : List UInt8) : (⟨#[48, 49, 50, 51, 52, 53, 54, 55, 56, 57]⟩ : ByteArray).extract d (d + 1) ++ ⟨T.toArray⟩ = ⟨(UInt8.ofNat (48 + d) :: T).toArray⟩ := by
  rw [dig_piece d h, show (⟨#[UInt8.ofNat (48 + d)]⟩ : ByteArray) = ⟨[UInt8.ofNat (48 + d)].toArray⟩ from rfl, ByteArray.mk_append_mk]
  rfl
theorem dec_step (m : Nat) (h : 9 < m) : Lib.decDigits m = Lib.decDigits (m / 10) ++ [UInt8.ofNat (48 + m % 10)] := by
  conv => lhs; rw [Lib.decDigits, dif_neg (by omega)]
theorem dec_len (u : Nat) (hu : u ≤ 9223372036854775808) : (Lib.decDigits u).length ≤ 21 := by
  rcases Nat.eq_zero_or_pos u with rfl | h
  · rw [Lib.decDigits_one (by omega)]; simp
  · have := Lib.itoa_length_le (-(u : Int)) (by omega) (by omega)
    rw [Lib.itoa_neg u h] at this
    simp at this; omega

set_option maxRecDepth 100000 in
set_option maxHeartbeats 1000000 in
theorem digits_any (u : Nat) (hu : u ≤ 9223372036854775808) (w : World) :
    Calls Tryz.prog 51 #[.int .u64 u] w fun e w' => e = .returned (.string ⟨(Lib.decDigits u).toArray⟩) ∧ w' = w := by
  have hlen := dec_len u hu
  go_enter Tryz.func51, Tryz.ntmps51
  go_wp2
  go_loop [0, 3] (fun n s => ∃ (m : Nat) (T : List UInt8), m ≤ u ∧ n = .int .u64 m ∧ s = .string ⟨T.toArray⟩ ∧ Hid (Lib.decDigits m ++ T = Lib.decDigits u)) (fun n _ => (intOf n).toNat)
  case atStart => exact ⟨u, [], Nat.le_refl _, rfl, rfl, by show _ = _; simp⟩
  case round =>
    obtain ⟨m, T, hm, rfl, rfl, HE⟩ := hrel
    have hTl : T.length ≤ 21 := by have := HE.out; rw [← this] at hlen; simp at hlen; omega
    by_cases hlt : 9 < m
    · go_wp2
      refine ⟨⟨m / 10, UInt8.ofNat (48 + m % 10) :: T, by omega, by go_num, by rw [dig_front _ (by omega)], ?_⟩, by simp [intOf]; omega⟩
      show _ = _
      rw [← HE.out, dec_step m hlt]
      simp
    · go_wp2
      go_ret
      refine ⟨?_, rfl⟩
      show Ending.returned (Value.string _) = _
      rw [dig_front _ (by omega), ← HE.out, Lib.decDigits_one (by omega)]
      rfl

set_option maxHeartbeats 1000000 in
theorem Decimal_any (n : Int) (h0 : -9223372036854775808 ≤ n) (h1 : n ≤ 9223372036854775807) (w : World) :
    Calls Tryz.prog 31 #[.int .i64 n] w fun e w' => e = .returned (.string ⟨(Lib.itoa n).toArray⟩) ∧ w' = w := by
  by_cases hn : n < 0
  · obtain ⟨u, rfl⟩ : ∃ u : Nat, n = -(u : Int) := ⟨n.natAbs, by omega⟩
    rw [Lib.itoa_neg u (by omega)]
    have hlen := dec_len u (by omega)
    go_enter Tryz.func31, Tryz.ntmps31
    go_wp2_with fail
    rw [show (-(-(u : Int) + 1) + 1) = (u : Int) by omega]
    refine (digits_any u (by omega) _).mono ?_
    rintro e w' ⟨rfl, rfl⟩
    go_wp2
    go_ret
    refine ⟨?_, rfl⟩
    show Ending.returned (Value.string _) = _
    rw [show (⟨#[45]⟩ : ByteArray) = ⟨[45].toArray⟩ from rfl, ByteArray.mk_append_mk]
    rfl
  · obtain ⟨u, rfl⟩ := Int.eq_ofNat_of_zero_le (show 0 ≤ n by omega)
    rw [Lib.itoa_nonneg]
    have hu : u ≤ 9223372036854775808 := by omega
    go_enter Tryz.func31, Tryz.ntmps31
    go_wp2_with (go_at_call 51; refine (digits_any u hu _).mono ?_; rintro e w' ⟨rfl, rfl⟩)
    go_ret
    exact ⟨rfl, rfl⟩

theorem valL_append (l r : List UInt8) (a : Nat) : valL a (l ++ r) = valL (valL a l) r := by unfold valL; rw [List.foldl_append]
theorem dig_toNat (d : Nat) (h : d < 10) : (UInt8.ofNat (48 + d)).toNat = 48 + d := by
  rw [UInt8.toNat_ofNat']; omega
theorem dig_is (d : Nat) (h : d < 10) : digitB (UInt8.ofNat (48 + d)) = true := by
  unfold digitB; rw [dig_toNat d h]; simp; omega
/-- The digits of a number spell it. -/
theorem dec_all (u : Nat) : valL 0 (Lib.decDigits u) = u ∧ (∀ c ∈ Lib.decDigits u, digitB c = true) ∧ Lib.decDigits u ≠ [] := by
  induction u using Nat.strongRecOn with
  | _ u ih =>
    by_cases h : 9 < u
    · obtain ⟨h1, h2, h3⟩ := ih (u / 10) (by omega)
      rw [dec_step u h]
      refine ⟨?_, ?_, by simp⟩
      · rw [valL_append, h1, valL_cons, valL_nil, dig_toNat _ (by omega)]; omega
      · intro c hc
        rcases List.mem_append.1 hc with hc | hc
        · exact h2 c hc
        · rw [List.mem_singleton.1 hc]; exact dig_is _ (by omega)
    · rw [Lib.decDigits_one (by omega)]
      refine ⟨?_, ?_, by simp⟩
      · rw [valL_cons, valL_nil, dig_toNat _ (by omega)]; omega
      · intro c hc; rw [List.mem_singleton.1 hc]; exact dig_is _ (by omega)
end Go.Proofs.YtdffleaokccgmaaGreatDoor.Tok
