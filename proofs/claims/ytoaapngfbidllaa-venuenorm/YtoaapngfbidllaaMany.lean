/- VenueMany: its walk. -/
import Derived.Test.YtoaapngfbidllaaTold
namespace Go.Proofs.Ytoaapngfbidllaa
set_option linter.unusedVariables false
open Go.RowKit Go.Shelf

theorem mod_u64 (z : Int) (m : Int) (h0 : 0 < m) : ∃ k : Nat, (k : Int) < m ∧ (IntKind.u64.wrap z).tmod m = k := by
  have hw : 0 ≤ IntKind.u64.wrap z := by
    unfold IntKind.wrap
    simp [IntKind.signed, IntKind.bits]
    omega
  have e : (IntKind.u64.wrap z).tmod m = (IntKind.u64.wrap z) % m := Int.tmod_eq_emod_of_nonneg hw
  have l0 := Int.emod_nonneg (IntKind.u64.wrap z) (show m ≠ 0 by omega)
  have l1 := Int.emod_lt_of_pos (IntKind.u64.wrap z) h0
  exact ⟨(IntKind.u64.wrap z % m).toNat, by omega, by rw [e]; omega⟩
def manySeat (i : Nat) : Seat := ⟨(i : Int) / 1000, (i : Int) % 1000, 0, 0⟩
def manyL (k : Nat) : List Seat := (List.range k).map manySeat
def manyV (k : Nat) : Ven := ⟨manyL k, 1, 0, [], []⟩
theorem manyL_len (k : Nat) : (manyL k).length = k := by simp [manyL]
theorem manyL_succ (k : Nat) : manyL (k + 1) = manyL k ++ [manySeat k] := by simp [manyL, List.range_succ]
theorem manyL_ok (k : Nat) (h1 : 1 ≤ k) (h2 : k ≤ 4096) : seatsB (manyL k) = true := by
  rw [seatsB_iff]
  refine ⟨by rw [manyL_len]; exact h1, by rw [manyL_len]; exact h2, ?_, ?_⟩
  · intro s hs
    simp only [manyL, List.mem_map, List.mem_range] at hs
    obtain ⟨i, hi, rfl⟩ := hs
    have e1 : (i : Int) / 1000 < 1000 := by omega
    have e2 : (i : Int) % 1000 ≤ 1048576 := by omega
    have e3 : (0 : Int) ≤ (i : Int) / 1000 := by omega
    have e4 : (-1048576 : Int) ≤ (i : Int) % 1000 := by omega
    have b1 : rowB ((i : Int) / 1000) = true := by unfold rowB; rw [decide_eq_true e3, decide_eq_true e1]; rfl
    have b2 : coordB ((i : Int) % 1000) = true := by unfold coordB; rw [decide_eq_true e4, decide_eq_true e2]; rfl
    have b3 : coordB 0 = true := by decide
    have b4 : kindB 0 = true := by decide
    unfold seatB standsB manySeat
    rw [b1, b2, b3, b4]; rfl
  · rw [List.pairwise_iff_getElem]
    intro i j hi hj hij
    rw [manyL_len] at hi hj
    simp only [manyL, List.getElem_map, List.getElem_range]
    rw [ltS_iff]
    simp only [manySeat]
    omega
theorem manyV_may (k : Nat) (h1 : 1 ≤ k) (h2 : k ≤ 4096) : mayB (manyV k) = true := by
  simp only [mayB, manyV, manyL_ok k h1 h2, Bool.true_and]; rfl
theorem manyV_wrong (k : Nat) (h1 : 1 ≤ k) (h2 : k ≤ 4096) : wrongL (manyV k) = [] := by rw [mayB_wrong]; exact manyV_may k h1 h2
theorem manyV_many (k : Nat) (h2 : 4096 < k) : seatsB (manyV k).seats = false := by
  have : ¬ k ≤ 4096 := by omega
  simp [seatsB, manyV, manyL_len, this]
theorem manyV_no (k : Nat) (h2 : 4096 < k) : mayB (manyV k) = false ∧ wrongL (manyV k) = tSeats := by
  refine ⟨?_, ?_⟩
  · unfold mayB; rw [manyV_many k h2]; rfl
  · unfold wrongL; rw [if_pos (manyV_many k h2)]

set_option maxHeartbeats 2000000 in
theorem venueMany_law (n : Int) (hn : -9223372036854775808 ≤ n ∧ n ≤ 9223372036854775807) (w : World) :
    Calls Try.prog 7 #[.int .i64 n] w fun e w' => e = .returned (.bool true) ∧ Below w.heap.size w w' := by
  obtain ⟨r, hr, er⟩ := mod_u64 n 5 (by omega)
  obtain ⟨i0, hi, hz0, hz1, hz2⟩ := info34
  obtain ⟨k, hk⟩ : ∃ k : Nat, k = 4094 + r := ⟨_, rfl⟩
  have hkz : (4094 : Int) + (r : Int) = (k : Int) := by omega
  have hk1 : 4094 ≤ k := by omega
  have hk2 : k ≤ 4098 := by omega
  clear hk
  go_enter Try.func7, Try.ntmps7
  go_wp2
  go_loopw [5] (fun i wr => ∃ (j : Nat) (az : Option Addr) (cs : Nat), j ≤ k ∧ i = .int .i64 j ∧ Box wr w.heap.size 26 #[.slice az j cs, .int .i64 1, .int .i64 0, .slice none 0 0, .slice none 0 0] ∧ wr.ownsRow (w.heap.size + 1) 34 4 (.slice az j cs) j ((manyL j).flatMap seatC) ∧ Below w.heap.size w wr) (fun i _ => k - (intOf i).toNat)
  case atStart =>
    refine ⟨0, none, 0, Nat.zero_le _, rfl, Box.fresh w 26 _, World.ownsRow_nil _ _ _ _, below_alloc w _⟩
  case round =>
    obtain ⟨j, az, cs, hj, rfl, hx, hown, hB⟩ := hrel
    have x0 := hx.cell 0 _ rfl
    have xl := hx.lt
    by_cases hlt : j < k
    · have hltz : (j : Int) < (k : Int) := by omega
      have hbn := below_alloc wr (.cells #[.int .i64 ((j : Int) / 1000), .int .i64 ((j : Int) % 1000), .int .i64 0, .int .i64 0] 34)
      have hown1 := row_next hown hbn
      have hx1 := hx.next hbn
      have hBn := hB.trans (hbn.mono hB.size)
      go_wp2_with (at_builtin; refine wpList_append_own _ rfl _ _ 22 rfl (w.heap.size + 1) 34 i0 (seatV 0 0 0 0) 4 32 Try.underlying22 hi hz0 hz1 hz2 rfl (by omega) _ _ _ rfl hown1 ⟨wr.heap.size, 0, none⟩ 1 1 (seatC (manySeat j)) rfl ?qc1 ?qc2 ?qc3 ?qc4 ?qc5 ?qc6 ?_)
      case qc1 => rfl
      case qc2 =>
        intro t u ht
        rw [Addr.add_lit, Nat.zero_add, World.cell?_alloc_at _ _ _ _ rfl]
        show (seatC (manySeat j)).toArray[t]? = some u
        rw [List.getElem?_toArray]; exact ht
      case qc3 => intro u hu; simp [seatC] at hu; rcases hu with rfl | rfl | rfl | rfl <;> rfl
      case qc4 => unfold maxLen; omega
      case qc5 => omega
      case qc6 => simp; omega
      intro v2 w2 hown2 hgr2 _
      obtain ⟨az2, cs2, rfl⟩ := row_slice hown2
      have hx2 := hx1.grown hgr2 (hx1.not_row (by decide) hown1)
      have hB2 : Below w.heap.size w w2 := hBn.grown hgr2 hBn.size (by
        intro t ht
        rcases Nat.lt_or_ge t w.heap.size with hlt' | hge
        · exact absurd ht.symm (row_low hown1 (by omega))
        · exact hge)
      have y0 := hx2.cell 0 _ rfl
      have yf := hx2.frozen 0
      have yl := hx2.lt
      have hown3 := row_setCell hown2 hx2 (by decide) 0 (.slice az2 (j + 1) cs2)
      have hx3 := hx2.set 0 (.slice az2 (j + 1) cs2)
      have hB3 : Below w.heap.size w (w2.setCell ⟨w.heap.size, 0, none⟩ (.slice az2 (j + 1) cs2)) := Below.setCell hB2 (Nat.le_refl _) _
      have HS : Hid ((manyL j).flatMap seatC ++ seatC (manySeat j) = (manyL (j + 1)).flatMap seatC) := by
        show _ = _
        rw [manyL_succ, List.flatMap_append]; simp
      rw [HS.out] at hown3
      clear hown hown1 hown2 hgr2 hx hx1 hx2 hB hBn hB2 hbn x0
      go_wp2_with fail
      go_roundw
      case rel => exact ⟨j + 1, az2, cs2, by omega, by go_num, hx3, hown3, hB3⟩
      case measure => simp [intOf]; omega
    · have hltz : ¬ (j : Int) < (k : Int) := by omega
      have hjk : j = k := by omega
      have hv : VenAt wr az j cs none 0 0 none 0 0 (manyV k) := by
        refine ⟨row_sl seatC_len (l := manyL k) (by rw [manyL_len, ← hjk]; exact hown), .inl ⟨rfl, rfl⟩, .inl ⟨rfl, rfl⟩⟩
      clear hjk hown
      by_cases hle : k ≤ 4096
      · have hm := fun w' hb => may_any az none none j cs 0 0 0 0 (manyV k) w' (hv.next (w' := w') hb)
        have hw := fun w' hb => wrong_any az none none j cs 0 0 0 0 (manyV k) w' (hv.next (w' := w') hb)
        rw [manyV_may k (by omega) hle] at hm
        rw [manyV_wrong k (by omega) hle] at hw
        have hlez : (k : Int) ≤ 4096 := by omega
        have hgtz : ¬ (4096 : Int) < (k : Int) := by omega
        clear hle
        go_wp2_with fail
        refine (told_any _).mono ?_
        rintro e w3 ⟨rfl, b3⟩
        obtain ⟨c0, c1, c2, c3, c4⟩ := (hx.next b3).five
        have l3 := (hx.next b3).lt
        go_wp2_with fail
        refine (hm _ b3).mono ?_
        rintro e w4 ⟨rfl, b4⟩
        have b34 := b3.trans (b4.mono b3.size)
        obtain ⟨d0, d1, d2, d3, d4⟩ := (hx.next b34).five
        have l4 := (hx.next b34).lt
        clear c0 c1 c2 c3 c4
        go_wp2_with fail
        refine (hw _ b34).mono ?_
        rintro e w5 ⟨rfl, b5⟩
        have hB5 : Below w.heap.size w w5 := hB.trans ((b34.trans (b5.mono b34.size)).mono hB.size)
        go_wp2
        go_ret
        exact ⟨ret_bool (by simp; omega), hB5⟩
      · have hm := fun w' hb => may_any az none none j cs 0 0 0 0 (manyV k) w' (hv.next (w' := w') hb)
        have hw := fun w' hb => wrong_any az none none j cs 0 0 0 0 (manyV k) w' (hv.next (w' := w') hb)
        have hno := manyV_no k (by omega)
        rw [hno.1] at hm
        rw [hno.2] at hw
        unfold tSeats at hw
        have hlez : ¬ (k : Int) ≤ 4096 := by omega
        have hgtz : (4096 : Int) < (k : Int) := by omega
        clear hle hno
        go_wp2_with fail
        refine (told_any _).mono ?_
        rintro e w3 ⟨rfl, b3⟩
        obtain ⟨c0, c1, c2, c3, c4⟩ := (hx.next b3).five
        have l3 := (hx.next b3).lt
        go_wp2_with fail
        refine (hm _ b3).mono ?_
        rintro e w4 ⟨rfl, b4⟩
        have b34 := b3.trans (b4.mono b3.size)
        obtain ⟨d0, d1, d2, d3, d4⟩ := (hx.next b34).five
        have l4 := (hx.next b34).lt
        clear c0 c1 c2 c3 c4
        go_wp2_with fail
        refine (hw _ b34).mono ?_
        rintro e w5 ⟨rfl, b5⟩
        have hB5 : Below w.heap.size w w5 := hB.trans ((b34.trans (b5.mono b34.size)).mono hB.size)
        go_wp2
        go_ret
        exact ⟨ret_bool (by simp; omega), hB5⟩
end Go.Proofs.Ytoaapngfbidllaa
