/- parterrelaw8.told answers true; parterrelaw8.bools by its contract. -/
import Derived.Test.YtbmmjbklfheghaaKUse
import Derived.Test.YtbmmjbklfheghaaCSame
import Derived.KernelRfl
namespace Go.Proofs.Ytbmmjbklfheghaa.Kll
set_option linter.unusedVariables false
set_option maxRecDepth 100000
open Go.RowKit Go.Shelf
open Go.Proofs.Ytbmmjbklfheghaa.Ven (Seat Pole Ven VenAt venV Box mayB mixed Sl below_alloc ret_bool intC BelowOf wp_region_quiet_below Calls.below_of)
open Go.Proofs.Ytbmmjbklfheghaa.Com (hid' Ints row_base MarksAt)

/-- The venue of told. -/
def V8 : Ven := ⟨[⟨0, 0, 0, 0⟩, ⟨0, 3, 0, 0⟩, ⟨0, 9, 0, 0⟩], 1, 0, [2], [⟨0, 0, 3⟩, ⟨9, 0, 1⟩]⟩
def Z5 : Ven := ⟨[], 0, 0, [], []⟩
theorem usable_V8 : usableL V8 = [false, true, false] := by kernel_rfl
theorem killed_V8 : killedL V8 = [0, 2] := by kernel_rfl
theorem by_2 : byB V8 2 = [-1, 1] := by kernel_rfl
theorem by_3 : byB V8 3 = [] := by kernel_rfl
theorem usable_Z5 : usableL Z5 = [] := by kernel_rfl
theorem ven_Z5 (w : World) : VenAt w none 0 0 none 0 0 none 0 0 Z5 := ⟨.inl ⟨⟨_, _, rfl⟩, rfl⟩, .inl ⟨⟨_, _, rfl⟩, rfl⟩, .inl ⟨⟨_, _, rfl⟩, rfl⟩⟩
set_option maxHeartbeats 4000000 in
theorem bools_any (u : List Bool) (a1 : Option Addr) (n1 c1 : Nat) (a2 : Option Addr) (n2 c2 : Nat) (w : World) (h1 : MarksAt w a1 n1 c1 u) (h2 : MarksAt w a2 n2 c2 u) :
    Calls Try.prog 10 #[.slice a1 n1 c1, .slice a2 n2 c2] w fun e w' => e = .returned (.bool true) ∧ Below w.heap.size w w' := by
  have hbig := Com.sl_big h1
  unfold maxLen at hbig
  have e1 := h1.len
  have e2 := h2.len
  subst e1 e2
  have H1 := hid' h1
  have H2 := hid' h2
  clear h1 h2
  have hz : ((u.length : Int) != (u.length : Int)) = false := by simp
  go_enter Try.func10, Try.ntmps10
  go_wp2_with fail
  go_loopw [5] (fun i wr => ∃ k : Nat, k ≤ u.length ∧ i = .int .i64 k ∧ Hid (Below w.heap.size w wr)) (fun i _ => u.length - (intOf i).toNat)
  case atStart => exact ⟨0, Nat.zero_le _, rfl, Below.refl _ w⟩
  case round =>
    obtain ⟨k, hk, rfl, HB⟩ := hrel
    by_cases hlt : k < u.length
    · have hltz : (k : Int) < (u.length : Int) := by omega
      obtain ⟨b1, o1, rfl, hl1, hc1⟩ := (H1.out.next HB.out).at k hlt
      obtain ⟨b2, o2, rfl, hl2, hc2⟩ := (H2.out.next HB.out).at k hlt
      have hzz : (u[k] != u[k]) = false := by simp
      generalize u[k] = z at *
      go_wp2_with fail
      go_region
      all_goals
        go_wp2_with fail
        exact ⟨⟨k + 1, by omega, by go_num, HB.out.drew⟩, by simp [intOf]; omega⟩
    · have hltz : ¬ (k : Int) < (u.length : Int) := by omega
      go_wp2
      go_ret
      exact ⟨rfl, HB.out⟩
set_option maxHeartbeats 16000000 in
theorem told_any (w : World) : Calls Try.prog 8 #[] w fun e w' => e = .returned (.bool true) ∧ Below w.heap.size w w' := by
  have y2 := below_alloc (w.alloc (.cells #[.int .i64 0, .int .i64 0, .int .i64 0, .int .i64 0, .int .i64 0, .int .i64 3, .int .i64 0, .int .i64 0, .int .i64 0, .int .i64 9, .int .i64 0, .int .i64 0] 44)) (.cells #[.int .i64 2] 3)
  have y3 := below_alloc ((w.alloc (.cells #[.int .i64 0, .int .i64 0, .int .i64 0, .int .i64 0, .int .i64 0, .int .i64 3, .int .i64 0, .int .i64 0, .int .i64 0, .int .i64 9, .int .i64 0, .int .i64 0] 44)).alloc (.cells #[.int .i64 2] 3)) (.cells #[.int .i64 0, .int .i64 0, .int .i64 3, .int .i64 9, .int .i64 0, .int .i64 1] 41)
  have y4 := below_alloc (((w.alloc (.cells #[.int .i64 0, .int .i64 0, .int .i64 0, .int .i64 0, .int .i64 0, .int .i64 3, .int .i64 0, .int .i64 0, .int .i64 0, .int .i64 9, .int .i64 0, .int .i64 0] 44)).alloc (.cells #[.int .i64 2] 3)).alloc (.cells #[.int .i64 0, .int .i64 0, .int .i64 3, .int .i64 9, .int .i64 0, .int .i64 1] 41)) (.cells #[.slice (some ⟨w.heap.size, 0, none⟩) 3 3, .int .i64 1, .int .i64 0, .slice (some ⟨w.heap.size + 1, 0, none⟩) 1 1, .slice (some ⟨w.heap.size + 1 + 1, 0, none⟩) 2 2] 26)
  have x1 := (((Box.fresh w 44 #[.int .i64 0, .int .i64 0, .int .i64 0, .int .i64 0, .int .i64 0, .int .i64 3, .int .i64 0, .int .i64 0, .int .i64 0, .int .i64 9, .int .i64 0, .int .i64 0]).next y2).next y3).next y4
  have x2 := ((Box.fresh (w.alloc (.cells #[.int .i64 0, .int .i64 0, .int .i64 0, .int .i64 0, .int .i64 0, .int .i64 3, .int .i64 0, .int .i64 0, .int .i64 0, .int .i64 9, .int .i64 0, .int .i64 0] 44)) 3 #[.int .i64 2]).next y3).next y4
  have x3 := (Box.fresh ((w.alloc (.cells #[.int .i64 0, .int .i64 0, .int .i64 0, .int .i64 0, .int .i64 0, .int .i64 3, .int .i64 0, .int .i64 0, .int .i64 0, .int .i64 9, .int .i64 0, .int .i64 0] 44)).alloc (.cells #[.int .i64 2] 3)) 41 #[.int .i64 0, .int .i64 0, .int .i64 3, .int .i64 9, .int .i64 0, .int .i64 1]).next y4
  have x4 := Box.fresh (((w.alloc (.cells #[.int .i64 0, .int .i64 0, .int .i64 0, .int .i64 0, .int .i64 0, .int .i64 3, .int .i64 0, .int .i64 0, .int .i64 0, .int .i64 9, .int .i64 0, .int .i64 0] 44)).alloc (.cells #[.int .i64 2] 3)).alloc (.cells #[.int .i64 0, .int .i64 0, .int .i64 3, .int .i64 9, .int .i64 0, .int .i64 1] 41)) 26 #[.slice (some ⟨w.heap.size, 0, none⟩) 3 3, .int .i64 1, .int .i64 0, .slice (some ⟨w.heap.size + 1, 0, none⟩) 1 1, .slice (some ⟨w.heap.size + 1 + 1, 0, none⟩) 2 2]
  have hb : Below w.heap.size w ((((w.alloc (.cells #[.int .i64 0, .int .i64 0, .int .i64 0, .int .i64 0, .int .i64 0, .int .i64 3, .int .i64 0, .int .i64 0, .int .i64 0, .int .i64 9, .int .i64 0, .int .i64 0] 44)).alloc (.cells #[.int .i64 2] 3)).alloc (.cells #[.int .i64 0, .int .i64 0, .int .i64 3, .int .i64 9, .int .i64 0, .int .i64 1] 41)).alloc (.cells #[.slice (some ⟨w.heap.size, 0, none⟩) 3 3, .int .i64 1, .int .i64 0, .slice (some ⟨w.heap.size + 1, 0, none⟩) 1 1, .slice (some ⟨w.heap.size + 1 + 1, 0, none⟩) 2 2] 26)) := ((((Below.refl _ w).alloc (Nat.le_refl _) _).alloc (by simp) _).alloc (by simp; omega) _).alloc (by simp; omega) _
  simp only [World.size_alloc] at x2 x3 x4
  clear y2 y3 y4
  go_enter Try.func8, Try.ntmps8
  go_wp2_with fail
  generalize ((((w.alloc (.cells #[.int .i64 0, .int .i64 0, .int .i64 0, .int .i64 0, .int .i64 0, .int .i64 3, .int .i64 0, .int .i64 0, .int .i64 0, .int .i64 9, .int .i64 0, .int .i64 0] 44)).alloc (.cells #[.int .i64 2] 3)).alloc (.cells #[.int .i64 0, .int .i64 0, .int .i64 3, .int .i64 9, .int .i64 0, .int .i64 1] 41)).alloc (.cells #[.slice (some ⟨w.heap.size, 0, none⟩) 3 3, .int .i64 1, .int .i64 0, .slice (some ⟨w.heap.size + 1, 0, none⟩) 1 1, .slice (some ⟨w.heap.size + 1 + 1, 0, none⟩) 2 2] 26)) = W at *
  have hv : VenAt W (some ⟨w.heap.size, 0, none⟩) 3 3 (some ⟨w.heap.size + 1, 0, none⟩) 1 1 (some ⟨w.heap.size + 1 + 1, 0, none⟩) 2 2 V8 := ⟨.inr ⟨w.heap.size, 0, 3, rfl, by decide, by decide, Ven.Box.cells (k := 4) (enc := Ven.seatC) (fun _ => rfl) x1 rfl⟩, .inr ⟨w.heap.size + 1, 0, 1, rfl, by decide, by decide, Ven.Box.cells (k := 1) (enc := Ven.intC) (fun _ => rfl) x2 rfl⟩, .inr ⟨w.heap.size + 1 + 1, 0, 2, rfl, by decide, by decide, Ven.Box.cells (k := 3) (enc := Ven.poleC) (fun _ => rfl) x3 rfl⟩⟩
  generalize w.heap.size + 1 + 1 + 1 = bx at *
  generalize w.heap.size + 1 + 1 = b2 at *
  generalize w.heap.size + 1 = b1 at *
  generalize hbn : w.heap.size = b at *
  have HB : Hid (∀ W', Below W.heap.size W W' → Below b w W') := fun W' h => hb.trans (h.mono (hbn ▸ hb.size))
  have HX := hid' x4
  have HU : Hid (∀ W', Below W.heap.size W W' → Calls Try.prog 11 #[venV (some ⟨b, 0, none⟩) 3 3 1 0 (some ⟨b1, 0, none⟩) 1 1 (some ⟨b2, 0, none⟩) 2 2] W' fun e w' => ∃ a n c, e = .returned (.slice a n c) ∧ MarksAt w' a n c [false, true, false] ∧ Below W'.heap.size W' w') := fun W' h => by
    have := usable_any _ _ _ _ _ _ _ _ _ V8 W' (hv.next h)
    rw [usable_V8] at this; exact this
  have HK : Hid (∀ W', Below W.heap.size W W' → Calls Try.prog 13 #[venV (some ⟨b, 0, none⟩) 3 3 1 0 (some ⟨b1, 0, none⟩) 1 1 (some ⟨b2, 0, none⟩) 2 2] W' fun e w' => ∃ v, e = .returned v ∧ Sl 1 intC w' v [0, 2] ∧ Below W'.heap.size W' w') := fun W' h => by
    have := killed_any _ _ _ _ _ _ _ _ _ V8 W' (hv.next h)
    rw [killed_V8] at this; exact this
  have HY2 : Hid (∀ W', Below W.heap.size W W' → Calls Try.prog 14 #[venV (some ⟨b, 0, none⟩) 3 3 1 0 (some ⟨b1, 0, none⟩) 1 1 (some ⟨b2, 0, none⟩) 2 2, .int .i64 2] W' fun e w' => ∃ v, e = .returned v ∧ Sl 1 intC w' v [-1, 1] ∧ Below W'.heap.size W' w') := fun W' h => by
    have := by_any _ _ _ _ _ _ _ _ _ V8 2 W' (hv.next h)
    rw [by_2] at this; exact this
  have HY3 : Hid (∀ W', Below W.heap.size W W' → Calls Try.prog 14 #[venV (some ⟨b, 0, none⟩) 3 3 1 0 (some ⟨b1, 0, none⟩) 1 1 (some ⟨b2, 0, none⟩) 2 2, .int .i64 3] W' fun e w' => ∃ v, e = .returned v ∧ Sl 1 intC w' v [] ∧ Below W'.heap.size W' w') := fun W' h => by
    have := by_any _ _ _ _ _ _ _ _ _ V8 3 W' (hv.next h)
    rw [by_3] at this; exact this
  have HUZ : Hid (∀ W', Below W.heap.size W W' → Calls Try.prog 11 #[venV none 0 0 0 0 none 0 0 none 0 0] W' fun e w' => ∃ a n c, e = .returned (.slice a n c) ∧ MarksAt w' a n c [] ∧ Below W'.heap.size W' w') := fun W' _ => by
    have := usable_any _ _ _ _ _ _ _ _ _ Z5 W' (ven_Z5 W')
    rw [usable_Z5] at this; exact this
  clear hv x1 x2 x3 x4 hb
  have H0 := hid' (Below.refl W.heap.size W)
  refine (HU.out W H0.out).mono ?_
  rintro e w3 ⟨ua, un, uc, rfl, hm, hb3⟩
  have hl := hm.len
  subst hl
  have H3 := hid' hb3
  have HM := hid' hm
  clear hb3 HU H0 hm
  obtain ⟨v0, v1, v2, v3, v4⟩ := (HX.out.next H3.out).five
  go_wp2_with fail
  refine (HK.out w3 H3.out).mono ?_
  rintro e w4 ⟨v, rfl, hs, hb4⟩
  have H4 := hid' (H3.out.trans (hb4.mono H3.out.size))
  obtain ⟨kb, ko, kc, rfl, hk1, hk2⟩ := Com.Sl.num hs (by decide)
  have HM4 := hid' (HM.out.next hb4)
  have HKB := hid' hk1
  have HKC := hid' (hk2 1 (by decide))
  clear hb4 v0 v1 v2 v3 v4 H3 HM HK hs hk1 hk2
  obtain ⟨v0, v1, v2, v3, v4⟩ := (HX.out.next H4.out).five
  go_wp2_with fail
  refine (HY2.out w4 H4.out).mono ?_
  rintro e w5 ⟨v, rfl, hs, hb5⟩
  have H5 := hid' (H4.out.trans (hb5.mono H4.out.size))
  obtain ⟨yb, yo, yc, rfl, hy1, hy2⟩ := Com.Sl.num hs (by decide)
  have HM5 := hid' (HM4.out.next hb5)
  have HKC5 : Hid (w5.cell? ⟨kb, ko + 1, none⟩ = some (.int .i64 2)) := (hb5.cell (p := ⟨kb, ko + 1, none⟩) HKB.out).trans HKC.out
  have HY0 : Hid (w5.cell? ⟨yb, yo, none⟩ = some (.int .i64 (-1))) := hy2 0 (by decide)
  have HY1 : Hid (w5.cell? ⟨yb, yo + 1, none⟩ = some (.int .i64 1)) := hy2 1 (by decide)
  clear hb5 v0 v1 v2 v3 v4 H4 HM4 HY2 HKB HKC hs hy1 hy2
  obtain ⟨ub, uo, hua, hub, huc0⟩ := HM5.out.at 0 (by decide)
  subst hua
  have m0 : w5.cell? ⟨ub, uo, none⟩ = some (.bool false) := huc0
  obtain ⟨ub', uo', hua', _, huc1⟩ := HM5.out.at 1 (by decide)
  cases hua'
  have m1 : w5.cell? ⟨ub, uo + 1, none⟩ = some (.bool true) := huc1
  obtain ⟨ub', uo', hua', _, huc2⟩ := HM5.out.at 2 (by decide)
  cases hua'
  have m2 : w5.cell? ⟨ub, uo + 2, none⟩ = some (.bool false) := huc2
  have k1 := HKC5.out
  have y0 := HY0.out
  have y1 := HY1.out
  clear huc0 huc1 huc2
  obtain ⟨v0, v1, v2, v3, v4⟩ := (HX.out.next H5.out).five
  go_wp2_with fail
  refine (HY3.out w5 H5.out).mono ?_
  rintro e w6 ⟨v, rfl, hs, hb6⟩
  have H6 := hid' (H5.out.trans (hb6.mono H5.out.size))
  obtain ⟨za, zc, rfl, _⟩ := Com.Sl.form hs
  clear hb6 v0 v1 v2 v3 v4 H5 m0 m1 m2 k1 y0 y1 HKC5 HY0 HY1 HM5 HY3 hs
  go_wp2_with fail
  refine (HUZ.out w6 H6.out).mono ?_
  rintro e w7 ⟨qa, qn, qc, rfl, hm, hb7⟩
  have hl := hm.len
  obtain rfl : qn = 0 := hl
  have HF : Hid (Below w.heap.size w w7) := by
    show Below w.heap.size w w7
    rw [hbn]; exact HB.out _ (H6.out.trans (hb7.mono H6.out.size))
  clear hm hb7 HUZ H6
  go_wp2
  go_ret
  exact ⟨rfl, HF.out⟩
end Go.Proofs.Ytbmmjbklfheghaa.Kll
