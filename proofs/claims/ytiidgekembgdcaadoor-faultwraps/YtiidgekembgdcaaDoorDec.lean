/- parterreref2.Decimal by its contract: what strconv.Itoa writes. -/
import Derived.Test.YtiidgekembgdcaaDoorTextA
import Derived.WalkSpells
namespace Go.Proofs.YtiidgekembgdcaaDoor
open Go.RowKit Go.Shelf

theorem dig_piece (d : Nat) (h : d < 10) : (⟨#[48, 49, 50, 51, 52, 53, 54, 55, 56, 57]⟩ : ByteArray).extract d (d + 1) = ⟨#[UInt8.ofNat (48 + d)]⟩ := by
  match d, h with
  | 0, _ | 1, _ | 2, _ | 3, _ | 4, _ | 5, _ | 6, _ | 7, _ | 8, _ | 9, _ => rfl

theorem dig_front (d : Nat) (h : d < 10) (T : List UInt8) : (⟨#[48, 49, 50, 51, 52, 53, 54, 55, 56, 57]⟩ : ByteArray).extract d (d + 1) ++ ⟨T.toArray⟩ = ⟨(UInt8.ofNat (48 + d) :: T).toArray⟩ := by
  rw [dig_piece d h, show (⟨#[UInt8.ofNat (48 + d)]⟩ : ByteArray) = ⟨[UInt8.ofNat (48 + d)].toArray⟩ from rfl, ByteArray.mk_append_mk]
  rfl
theorem dec_step (m : Nat) (h : 9 < m) : Lib.decDigits m = Lib.decDigits (m / 10) ++ [UInt8.ofNat (48 + m % 10)] := by
  conv => lhs; rw [Lib.decDigits, dif_neg (by omega)]

set_option maxRecDepth 100000 in
set_option maxHeartbeats 1000000 in
theorem digits_any (u : Nat) (hu : u ≤ 9223372036854775807) (w : World) :
    Calls Tryd.prog 19 #[.int .u64 u] w fun e w' => e = .returned (.string ⟨(Lib.decDigits u).toArray⟩) ∧ w' = w := by
  have hlen : (Lib.decDigits u).length ≤ 21 := by
    have := Lib.itoa_length_le (u : Int) (by omega) (by omega)
    rwa [Lib.itoa_nonneg] at this
  go_enter Tryd.func19, Tryd.ntmps19
  go_wp2
  go_loop [0, 3] (fun n s => ∃ (m : Nat) (T : List UInt8), m ≤ u ∧ n = .int .u64 m ∧ s = .string ⟨T.toArray⟩ ∧ Hid (Lib.decDigits m ++ T = Lib.decDigits u)) (fun n _ => (intOf n).toNat)
  case atStart => exact ⟨u, [], Nat.le_refl _, rfl, rfl, by show _ = _; simp⟩
  case round =>
    obtain ⟨m, T, hm, rfl, rfl, HE⟩ := hrel
    have hTl : T.length ≤ 21 := by have := HE.out; rw [← this] at hlen; simp at hlen; omega
    by_cases hlt : 9 < m
    · go_wp2
      refine ⟨⟨m / 10, UInt8.ofNat (48 + m % 10) :: T, by omega, by go_num, by rw [dig_front _ (by omega)], ?_⟩, by simp [intOf]; omega⟩
      show _ = _
      rw [← HE.out, dec_step m hlt]
      simp
    · go_wp2
      go_ret
      refine ⟨?_, rfl⟩
      show Ending.returned (Value.string _) = _
      rw [dig_front _ (by omega), ← HE.out, Lib.decDigits_one (by omega)]
      rfl

set_option maxHeartbeats 1000000 in
theorem Decimal_nonneg (n : Int) (h0 : 0 ≤ n) (h1 : n ≤ 9223372036854775807) (w : World) :
    Calls Tryd.prog 13 #[.int .i64 n] w fun e w' => e = .returned (.string ⟨(Lib.itoa n).toArray⟩) ∧ w' = w := by
  obtain ⟨u, rfl⟩ := Int.eq_ofNat_of_zero_le h0
  rw [Lib.itoa_nonneg]
  have hu : u ≤ 9223372036854775807 := by omega
  go_enter Tryd.func13, Tryd.ntmps13
  go_wp2_with (go_at_call 19; refine (digits_any u hu _).mono ?_; rintro e w' ⟨rfl, rfl⟩)
  go_ret
  exact ⟨rfl, rfl⟩
end Go.Proofs.YtiidgekembgdcaaDoor
