/- GeomFar answers true: its walk. -/
import Derived.Test.YtgpkdjhllekihaaGFarR
import Derived.Test.YtgpkdjhllekihaaVMakeP
namespace Go.Proofs.Ytgpkdjhllekihaa.Geo
set_option linter.unusedVariables false
set_option maxRecDepth 100000
open Go.RowKit Go.Shelf
open Go.Proofs.Ytgpkdjhllekihaa.Ven (Seat Pole Ven seatV Box mixed below_alloc coordB mod_u64 BelowOf wp_region_quiet_below Calls.below_of)

theorem fit_any (r x y k : Int) : ∃ u v : Int, coordB u = true ∧ coordB v = true ∧ ∀ w, Calls Try.prog 18 #[seatV r x y k] w fun e w' => e = .returned (seatV 0 u v 0) ∧ Below w.heap.size w w' := by
  obtain ⟨kx, hx, ex⟩ := mod_u64 x 2097153 (by omega)
  obtain ⟨ky, hy, ey⟩ := mod_u64 y 2097153 (by omega)
  refine ⟨(kx : Int) - 1048576, (ky : Int) - 1048576, (coordB_iff _).2 (by omega), (coordB_iff _).2 (by omega), fun w => ?_⟩
  have w1 : IntKind.i64.wrap (kx : Int) = kx := by rw [IntKind.wrap_i64]; omega
  have w2 : IntKind.i64.wrap (ky : Int) = ky := by rw [IntKind.wrap_i64]; omega
  have w3 : IntKind.i64.wrap ((kx : Int) - 1048576) = (kx : Int) - 1048576 := by rw [IntKind.wrap_i64]; omega
  have w4 : IntKind.i64.wrap ((ky : Int) - 1048576) = (ky : Int) - 1048576 := by rw [IntKind.wrap_i64]; omega
  go_enter Try.func18, Try.ntmps18
  go_wp2
  refine bodyPost_ret (v := seatV 0 ((kx : Int) - 1048576) ((ky : Int) - 1048576) 0) (by simp [results, Try.results18, go_sem]) rfl ⟨rfl, ?_⟩
  exact ((Below.refl _ w).alloc (Nat.le_refl _) _).alloc (by simp) _
theorem farI_ok {x y u v : Int} (hx : coordB x = true) (hy : coordB y = true) (hu : coordB u = true) (hv : coordB v = true) : farI x y u v = sqI x y u v := by
  unfold farI
  rw [if_pos (by rw [stands_iff.2 ⟨hx, hy⟩, stands_iff.2 ⟨hu, hv⟩]; rfl)]
theorem sqI_le {x y u v : Int} (hx : coordB x = true) (hy : coordB y = true) (hu : coordB u = true) (hv : coordB v = true) : sqI x y u v ≤ 8796093022208 := by
  have := sq_part hx hu
  have := sq_part hy hv
  unfold sqI; omega
set_option maxHeartbeats 4000000 in
theorem far_law (r1 x1 y1 k1 r2 x2 y2 k2 r3 x3 y3 k3 : Int) (w : World) :
    Calls Try.prog 4 #[seatV r1 x1 y1 k1, seatV r2 x2 y2 k2, seatV r3 x3 y3 k3] w fun e w' => e = .returned (.bool true) ∧ Below w.heap.size w w' := by
  obtain ⟨u1, v1, hu1, hv1, hf1⟩ := fit_any r1 x1 y1 k1
  obtain ⟨u2, v2, hu2, hv2, hf2⟩ := fit_any r2 x2 y2 k2
  obtain ⟨u3, v3, hu3, hv3, hf3⟩ := fit_any r3 x3 y3 k3
  have hb0 : Below w.heap.size w (((w.alloc (.cells #[.int .i64 r1, .int .i64 x1, .int .i64 y1, .int .i64 k1] 28)).alloc (.cells #[.int .i64 r2, .int .i64 x2, .int .i64 y2, .int .i64 k2] 28)).alloc (.cells #[.int .i64 r3, .int .i64 x3, .int .i64 y3, .int .i64 k3] 28)) := (((Below.refl _ w).alloc (Nat.le_refl _) _).alloc (by simp) _).alloc (by simp; omega) _
  have b1 := ((Box.fresh w 28 #[.int .i64 r1, .int .i64 x1, .int .i64 y1, .int .i64 k1]).next (below_alloc _ (.cells #[.int .i64 r2, .int .i64 x2, .int .i64 y2, .int .i64 k2] 28))).next (below_alloc _ (.cells #[.int .i64 r3, .int .i64 x3, .int .i64 y3, .int .i64 k3] 28))
  have b2 := (Box.fresh (w.alloc (.cells #[.int .i64 r1, .int .i64 x1, .int .i64 y1, .int .i64 k1] 28)) 28 #[.int .i64 r2, .int .i64 x2, .int .i64 y2, .int .i64 k2]).next (below_alloc _ (.cells #[.int .i64 r3, .int .i64 x3, .int .i64 y3, .int .i64 k3] 28))
  have b3 := Box.fresh ((w.alloc (.cells #[.int .i64 r1, .int .i64 x1, .int .i64 y1, .int .i64 k1] 28)).alloc (.cells #[.int .i64 r2, .int .i64 x2, .int .i64 y2, .int .i64 k2] 28)) 28 #[.int .i64 r3, .int .i64 x3, .int .i64 y3, .int .i64 k3]
  simp only [World.size_alloc] at b2 b3
  have HB0 := hid' hb0
  have HF := hid' (show ∀ j w, j < 3 → Calls Try.prog 18 #[.agg ((fun j : Nat => match j with | 0 => #[.int .i64 r1, .int .i64 x1, .int .i64 y1, .int .i64 k1] | 1 => #[.int .i64 r2, .int .i64 x2, .int .i64 y2, .int .i64 k2] | _ => #[.int .i64 r3, .int .i64 x3, .int .i64 y3, .int .i64 k3]) j)] w fun e w' => e = .returned (.agg ((fun j : Nat => match j with | 0 => #[.int .i64 0, .int .i64 u1, .int .i64 v1, .int .i64 0] | 1 => #[.int .i64 0, .int .i64 u2, .int .i64 v2, .int .i64 0] | _ => #[.int .i64 0, .int .i64 u3, .int .i64 v3, .int .i64 0]) j)) ∧ Below w.heap.size w w' from fun j w hj => by
    match j, hj with
    | 0, _ => exact hf1 w
    | 1, _ => exact hf2 w
    | 2, _ => exact hf3 w)
  clear hf1 hf2 hf3 hb0
  go_enter Try.func4, Try.ntmps4
  go_wp2_with fail
  generalize ((w.alloc (.cells #[.int .i64 r1, .int .i64 x1, .int .i64 y1, .int .i64 k1] 28)).alloc (.cells #[.int .i64 r2, .int .i64 x2, .int .i64 y2, .int .i64 k2] 28)).alloc (.cells #[.int .i64 r3, .int .i64 x3, .int .i64 y3, .int .i64 k3] 28) = W at *
  refine far_region _ W rfl _ _ (fun _ => 0) (fun j => match j with | 0 => u1 | 1 => u2 | _ => u3) (fun j => match j with | 0 => v1 | 1 => v2 | _ => v3) (fun _ => 0) (hid' fun j => (by match j with | 0 => rfl | 1 => rfl | j + 2 => rfl)) (fun j => match j with | 0 => r1 | 1 => r2 | _ => r3) (fun j => match j with | 0 => x1 | 1 => x2 | _ => x3) (fun j => match j with | 0 => y1 | 1 => y2 | _ => y3) (fun j => match j with | 0 => k1 | 1 => k2 | _ => k3) (hid' fun j => (by match j with | 0 => rfl | 1 => rfl | j + 2 => rfl)) _ _ _ rfl rfl rfl b1 b2 b3 HF.out ?_
  intro w1 g7 g8 g9 hb1 hg7 hg8 hg9 c7 c8 c9
  have HC7 : Hid (Box w1 g7 28 #[.int .i64 0, .int .i64 u1, .int .i64 v1, .int .i64 0]) := c7
  have HC8 : Hid (Box w1 g8 28 #[.int .i64 0, .int .i64 u2, .int .i64 v2, .int .i64 0]) := c8
  have HC9 : Hid (Box w1 g9 28 #[.int .i64 0, .int .i64 u3, .int .i64 v3, .int .i64 0]) := c9
  have HB1 := hid' (HB0.out.trans (hb1.mono HB0.out.size))
  clear hb1 hg7 hg8 hg9 c7 c8 c9 b1 b2 b3 HB0 HF
  simp only [Ven.putAll, List.setIfInBounds_toArray, List.set_cons_succ, List.set_cons_zero]
  go_wp2_with fail
  have q12 := farI_ok hu1 hv1 hu2 hv2
  have q23 := farI_ok hu2 hv2 hu3 hv3
  have q13 := farI_ok hu1 hv1 hu3 hv3
  have q21 := farI_ok hu2 hv2 hu1 hv1
  rw [sqI_comm] at q21
  have t1 := sqI_third u1 v1 u2 v2 u3 v3
  have t2 := sqI_pos u1 v1 u2 v2
  have t3 := sqI_pos u2 v2 u3 v3
  have t4 := sqI_le hu1 hv1 hu2 hv2
  have t5 := sqI_le hu2 hv2 hu3 hv3
  have HZ := hid' (sqI_zero u1 v1 u2 v2)
  generalize sqI u1 v1 u2 v2 = D at *
  generalize sqI u2 v2 u3 v3 = E at *
  generalize sqI u1 v1 u3 v3 = F at *
  have w1' : IntKind.i64.wrap (D + E) = D + E := by rw [IntKind.wrap_i64]; omega
  have w2' : IntKind.i64.wrap (2 * (D + E)) = 2 * (D + E) := by rw [IntKind.wrap_i64]; omega
  clear t4 t5 t3 hu1 hv1 hu2 hv2 hu3 hv3
  have hne : Nonempty (BelowOf w1) := ⟨⟨w1, Below.refl _ w1⟩⟩
  have d0 := fun p : BelowOf w1 => (HC7.out.next p.h).cell 0 _ rfl
  have d1 := fun p : BelowOf w1 => (HC7.out.next p.h).cell 1 _ rfl
  have d2 := fun p : BelowOf w1 => (HC7.out.next p.h).cell 2 _ rfl
  have d3 := fun p : BelowOf w1 => (HC7.out.next p.h).cell 3 _ rfl
  have e0 := fun p : BelowOf w1 => (HC8.out.next p.h).cell 0 _ rfl
  have e1 := fun p : BelowOf w1 => (HC8.out.next p.h).cell 1 _ rfl
  have e2 := fun p : BelowOf w1 => (HC8.out.next p.h).cell 2 _ rfl
  have e3 := fun p : BelowOf w1 => (HC8.out.next p.h).cell 3 _ rfl
  have i0 := fun p : BelowOf w1 => (HC9.out.next p.h).cell 0 _ rfl
  have i1 := fun p : BelowOf w1 => (HC9.out.next p.h).cell 1 _ rfl
  have i2 := fun p : BelowOf w1 => (HC9.out.next p.h).cell 2 _ rfl
  have i3 := fun p : BelowOf w1 => (HC9.out.next p.h).cell 3 _ rfl
  refine wp_region_quiet_below mixed (by kernel_rfl) ?_
  repeat (go_big_quiet_step ((go_at_call 9; exact Calls.below_of (far_any _ _ _ _ _ _ _ _ _))))
  refine wpQuiet_nil ?_
  intro _ hw'
  obtain ⟨p, hw''⟩ := hw'
  subst hw''
  obtain ⟨w2, hb2⟩ := p
  simp only
  have HB2 := hid' (HB1.out.trans (hb2.mono HB1.out.size))
  have HC7b := hid' (HC7.out.next hb2)
  have HC8b := hid' (HC8.out.next hb2)
  clear d0 d1 d2 d3 e0 e1 e2 e3 i0 i1 i2 i3 hb2 HC7 HC8 HC9 HB1 hne
  go_wp2_with fail
  refine (told_any _).mono ?_
  rintro e w3 ⟨rfl, hb3⟩
  have HB3 := hid' (HB2.out.trans (hb3.mono HB2.out.size))
  have c7 := HC7b.out.next hb3
  have c8 := HC8b.out.next hb3
  have HC7c := hid' c7
  have HC8c := hid' c8
  have d0 := c7.cell 0 _ rfl
  have d1 := c7.cell 1 _ rfl
  have d2 := c7.cell 2 _ rfl
  have d3 := c7.cell 3 _ rfl
  have e0 := c8.cell 0 _ rfl
  have e1 := c8.cell 1 _ rfl
  have e2 := c8.cell 2 _ rfl
  have e3 := c8.cell 3 _ rfl
  clear hb3 c7 c8 HC7b HC8b HB2
  go_wp2_with fail
  refine (far_any 0 u2 v2 0 0 u1 v1 0 _).mono ?_
  rintro e w4 ⟨rfl, hb4⟩
  have HB4 := hid' (HB3.out.trans (hb4.mono HB3.out.size))
  have c7 := HC7c.out.next hb4
  have c8 := HC8c.out.next hb4
  clear d0 d1 d2 d3 e0 e1 e2 e3 hb4 HB3 HC7c HC8c
  have d1 := c7.cell 1 _ rfl
  have d2 := c7.cell 2 _ rfl
  have e1 := c8.cell 1 _ rfl
  have e2 := c8.cell 2 _ rfl
  have l7 := c7.lt
  have l8 := c8.lt
  clear c7 c8
  by_cases hu : u1 = u2
  · have hu' : (u1 == u2) = true := by simpa using hu
    by_cases hv : v1 = v2
    · have hv' : (v1 == v2) = true := by simpa using hv
      have hD : D = 0 := HZ.out.2 ⟨hu, hv⟩
      have hD' : (D == 0) = true := by simpa using hD
      clear hu hv hD HZ
      go_wp2
      go_ret
      exact ⟨rfl, HB4.out⟩
    · have hv' : (v1 == v2) = false := by simpa using hv
      have hD : ¬ D = 0 := fun h => hv (HZ.out.1 h).2
      have hD' : (D == 0) = false := by simpa using hD
      clear hu hv hD HZ
      go_wp2
      go_ret
      exact ⟨rfl, HB4.out⟩
  · have hu' : (u1 == u2) = false := by simpa using hu
    have hD : ¬ D = 0 := fun h => hu (HZ.out.1 h).1
    have hD' : (D == 0) = false := by simpa using hD
    clear hu hD HZ
    go_wp2
    go_ret
    exact ⟨rfl, HB4.out⟩
end Go.Proofs.Ytgpkdjhllekihaa.Geo
