/- RunGap answers true: its walk. -/
import Derived.Test.YtdodmbfkcandgaaUGapR
import Derived.Test.YtdodmbfkcandgaaUPiecesP
import Derived.Test.YtdodmbfkcandgaaUTold
import Derived.Test.YtdodmbfkcandgaaVMakeA
namespace Go.Proofs.Ytdodmbfkcandgaa.Rnn
set_option linter.unusedVariables false
set_option maxRecDepth 100000
open Go.RowKit Go.Shelf
open Go.Proofs.Ytdodmbfkcandgaa.Ven (Seat Pole Ven VenAt venV seatV Box mayB mixed Sl below_alloc IntsAt make_any mod_u64 BelowOf wp_region_quiet_below Calls.below_of MkOK)

theorem gap_may {V : Ven} {row x : Int} (h : MkOK V row x) (hl : V.seats.length ≤ 60) (t : Int) (h0 : 0 ≤ t) (h1 : t < 20) : mayB { V with gap := V.gap + t } = true := by
  have hm := h.may hl
  have hg := h.gap
  unfold mayB at hm ⊢
  simp only [Bool.and_eq_true] at hm ⊢
  refine ⟨⟨⟨⟨hm.1.1.1.1, ?_⟩, hm.1.1.2⟩, hm.1.2⟩, hm.2⟩
  unfold Ven.lengthB
  simp only [Bool.and_eq_true, decide_eq_true_eq]
  omega
set_option maxHeartbeats 16000000 in
theorem gap_law (a : Option Addr) (len cap : Nat) (l : List Int) {w0 : World} (h : IntsAt w0 a len cap l) (u1 : Option Addr) (un uc : Nat) (u : List Bool) (hu : MarksAt w0 u1 un uc u) (more : Int) (w : World) (hw : w0 = w := by rfl) :
    Calls Try.prog 6 #[.slice a len cap, .slice u1 un uc, .int .i64 more] w fun e w' => e = .returned (.bool true) ∧ Below w.heap.size w w' := by
  subst hw
  have hmake := make_any a len cap l 30 (by omega) (by omega) w0 h
  have HU := hid' hu
  clear h hu
  go_enter Try.func6, Try.ntmps6
  go_wp2_with fail
  refine hmake.mono ?_
  rintro e w1 ⟨V, az, cs, ak, ck, ap, cp, row, xx, rfl, hven, hok, hle, hb1⟩
  have hl1 := hok.len
  have HM := hid' (hok.may (by omega))
  obtain ⟨t, ht, et⟩ := mod_u64 more 20 (by omega)
  have HM2 := hid' (gap_may hok (by omega) (t : Int) (by omega) ht)
  have hgap := hok.gap
  have n3 : IntKind.i64.wrap (t : Int) = t := by rw [IntKind.wrap_i64]; omega
  have n4 : IntKind.i64.wrap (V.gap + (t : Int)) = V.gap + (t : Int) := by rw [IntKind.wrap_i64]; omega
  have HGE : Hid (V.gap ≤ V.gap + (t : Int)) := by show V.gap ≤ V.gap + (t : Int); omega
  have x1 := Box.fresh w1 26 #[.slice az V.seats.length cs, .int .i64 V.gap, .int .i64 V.radius, .slice ak V.kills.length ck, .slice ap V.poles.length cp]
  have y1 := below_alloc w1 (.cells #[.slice az V.seats.length cs, .int .i64 V.gap, .int .i64 V.radius, .slice ak V.kills.length ck, .slice ap V.poles.length cp] 26)
  have y2 := below_alloc (w1.alloc (.cells #[.slice az V.seats.length cs, .int .i64 V.gap, .int .i64 V.radius, .slice ak V.kills.length ck, .slice ap V.poles.length cp] 26)) (.cells #[.slice az V.seats.length cs, .int .i64 (V.gap + (t : Int)), .int .i64 V.radius, .slice ak V.kills.length ck, .slice ap V.poles.length cp] 26)
  have x2 := Box.fresh (w1.alloc (.cells #[.slice az V.seats.length cs, .int .i64 V.gap, .int .i64 V.radius, .slice ak V.kills.length ck, .slice ap V.poles.length cp] 26)) 26 #[.slice az V.seats.length cs, .int .i64 (V.gap + (t : Int)), .int .i64 V.radius, .slice ak V.kills.length ck, .slice ap V.poles.length cp]
  simp only [World.size_alloc] at x2
  obtain ⟨v0, v1, v2, v3, v4⟩ := x1.five
  have HX := hid' (x1.next y2)
  have HY := hid' x2
  have hbw := y1.trans (y2.mono y1.size)
  have HV := hid' (hven.next hbw)
  have HUW := hid' ((HU.out.next hb1).next hbw)
  have HB := hid' (hb1.trans (hbw.mono hb1.size))
  clear hmake hok x1 x2 y1 y2 hbw hb1 hven hgap HU
  go_wp2_with fail
  clear et n3 n4 v0 v1 v2 v3 v4
  generalize (w1.alloc (.cells #[.slice az V.seats.length cs, .int .i64 V.gap, .int .i64 V.radius, .slice ak V.kills.length ck, .slice ap V.poles.length cp] 26)).alloc (.cells #[.slice az V.seats.length cs, .int .i64 (V.gap + (t : Int)), .int .i64 V.radius, .slice ak V.kills.length ck, .slice ap V.poles.length cp] 26) = W at *
  generalize w1.heap.size + 1 = B2 at *
  generalize w1.heap.size = B1 at *
  have HVW : Hid (VenAt W az V.seats.length cs ak V.kills.length ck ap V.poles.length cp { V with gap := V.gap + (t : Int) }) := ⟨HV.out.s, HV.out.k, HV.out.p⟩
  have HNV : Hid (∀ W', Below W.heap.size W W' → ∀ j : Nat, Calls Try.prog 11 #[venV az V.seats.length cs V.gap V.radius ak V.kills.length ck ap V.poles.length cp, .int .i64 j] W' fun e w' => e = .returned (.bool (nextL V.seats V.gap j)) ∧ Below W'.heap.size W' w') := fun W' h j => by
    have := nexts_any _ _ _ _ _ _ _ _ _ V j W' (HV.out.next h)
    rw [nextB_nat HM.out] at this; exact this
  have HNW : Hid (∀ W', Below W.heap.size W W' → ∀ j : Nat, Calls Try.prog 11 #[venV az V.seats.length cs (V.gap + (t : Int)) V.radius ak V.kills.length ck ap V.poles.length cp, .int .i64 j] W' fun e w' => e = .returned (.bool (nextL V.seats (V.gap + (t : Int)) j)) ∧ Below W'.heap.size W' w') := fun W' h j => by
    have := nexts_any _ _ _ _ _ _ _ _ _ { V with gap := V.gap + (t : Int) } j W' (HVW.out.next h)
    rw [nextB_nat HM2.out] at this; exact this
  have HLV : Hid (∀ W', Below W.heap.size W W' → ∀ j : Nat, Calls Try.prog 13 #[venV az V.seats.length cs V.gap V.radius ak V.kills.length ck ap V.poles.length cp, .slice u1 un uc, .int .i64 j] W' fun e w' => e = .returned (.int .i64 (longL V.seats V.gap u j : Nat)) ∧ Below W'.heap.size W' w') := fun W' h j => by
    have := long_any _ _ _ _ _ _ _ _ _ _ _ _ V u j W' (HV.out.next h) (HUW.out.next h)
    rw [longB_nat HM.out] at this; exact this
  have HLW : Hid (∀ W', Below W.heap.size W W' → ∀ j : Nat, Calls Try.prog 13 #[venV az V.seats.length cs (V.gap + (t : Int)) V.radius ak V.kills.length ck ap V.poles.length cp, .slice u1 un uc, .int .i64 j] W' fun e w' => e = .returned (.int .i64 (longL V.seats (V.gap + (t : Int)) u j : Nat)) ∧ Below W'.heap.size W' w') := fun W' h j => by
    have := long_any _ _ _ _ _ _ _ _ _ _ _ _ { V with gap := V.gap + (t : Int) } u j W' (HVW.out.next h) (HUW.out.next h)
    rw [longB_nat HM2.out] at this; exact this
  have HRV : Hid (∀ W', Below W.heap.size W W' → Calls Try.prog 17 #[venV az V.seats.length cs V.gap V.radius ak V.kills.length ck ap V.poles.length cp, .slice u1 un uc] W' fun e w' => ∃ v, e = .returned v ∧ RowsS w' v (runsL V u) ∧ Below W'.heap.size W' w') := fun W' h => runs_any _ _ _ _ _ _ _ _ _ _ _ _ V u W' (HV.out.next h) (HUW.out.next h)
  have HRW : Hid (∀ W', Below W.heap.size W W' → Calls Try.prog 17 #[venV az V.seats.length cs (V.gap + (t : Int)) V.radius ak V.kills.length ck ap V.poles.length cp, .slice u1 un uc] W' fun e w' => ∃ v, e = .returned v ∧ RowsS w' v (runsL { V with gap := V.gap + (t : Int) } u) ∧ Below W'.heap.size W' w') := fun W' h => runs_any _ _ _ _ _ _ _ _ _ _ _ _ { V with gap := V.gap + (t : Int) } u W' (HVW.out.next h) (HUW.out.next h)
  have HFE : Hid ((runsL { V with gap := V.gap + (t : Int) } u).length ≤ (runsL V u).length) := by
    show _ ≤ _
    rw [runs_cut HM.out, runs_cut HM2.out]
    exact runs_fewer u rfl HGE.out
  clear HV HVW HUW HM HM2
  generalize runsL { V with gap := V.gap + (t : Int) } u = LW at *
  generalize runsL V u = LV at *
  generalize hg2 : V.gap + (t : Int) = g2 at *
  clear hg2
  go_loopw [9] (fun i wr => ∃ j : Nat, j ≤ V.seats.length ∧ i = .int .i64 j ∧ Hid (Below W.heap.size W wr)) (fun i _ => V.seats.length - (intOf i).toNat)
  case atStart => exact ⟨0, Nat.zero_le _, rfl, Below.refl _ _⟩
  case round =>
    obtain ⟨j, hj, rfl, HY2⟩ := hrel
    obtain ⟨v0, v1, v2, v3, v4⟩ := (HX.out.next HY2.out).five
    by_cases hjl : j < V.seats.length
    · have hjz : (j : Int) < (V.seats.length : Int) := by omega
      have hne : Nonempty (BelowOf wr) := ⟨⟨wr, Below.refl _ wr⟩⟩
      have HT : Hid (∀ p : BelowOf wr, Below W.heap.size W p.w) := fun p => HY2.out.trans (p.h.mono HY2.out.size)
      have HMO := hid' (next_mono (l := V.seats) HGE.out j)
      have HLM := hid' (long_mono (l := V.seats) HGE.out u j)
      go_wp2_with fail
      clear v0 v1 v2 v3 v4
      have v0 := fun p : BelowOf wr => (HX.out.next (HT.out p)).cell 0 _ rfl
      have v1 := fun p : BelowOf wr => (HX.out.next (HT.out p)).cell 1 _ rfl
      have v2 := fun p : BelowOf wr => (HX.out.next (HT.out p)).cell 2 _ rfl
      have v3 := fun p : BelowOf wr => (HX.out.next (HT.out p)).cell 3 _ rfl
      have v4 := fun p : BelowOf wr => (HX.out.next (HT.out p)).cell 4 _ rfl
      have q0 := fun p : BelowOf wr => (HY.out.next (HT.out p)).cell 0 _ rfl
      have q1 := fun p : BelowOf wr => (HY.out.next (HT.out p)).cell 1 _ rfl
      have q2 := fun p : BelowOf wr => (HY.out.next (HT.out p)).cell 2 _ rfl
      have q3 := fun p : BelowOf wr => (HY.out.next (HT.out p)).cell 3 _ rfl
      have q4 := fun p : BelowOf wr => (HY.out.next (HT.out p)).cell 4 _ rfl
      have c1 := fun p : BelowOf wr => HNV.out p.w (HT.out p) j
      have c2 := fun p : BelowOf wr => HNW.out p.w (HT.out p) j
      have c3 := fun p : BelowOf wr => HLV.out p.w (HT.out p) j
      have c4 := fun p : BelowOf wr => HLW.out p.w (HT.out p) j
      generalize longL V.seats V.gap u j = d1 at *
      generalize longL V.seats g2 u j = d2 at *
      have dz : ¬ (d2 : Int) < (d1 : Int) := by have := HLM.out; omega
      clear HLM
      cases hq : nextL V.seats V.gap j with
      | false =>
        have c1 : ∀ p : BelowOf wr, Calls Try.prog 11 #[venV az V.seats.length cs V.gap V.radius ak V.kills.length ck ap V.poles.length cp, .int .i64 j] p.w fun e w' => e = .returned (.bool false) ∧ Below p.w.heap.size p.w w' := fun p => by
          have := c1 p
          rw [hq] at this; exact this
        clear hq HMO
        refine wp_region_quiet_below mixed (by kernel_rfl) ?_
        repeat (go_big_quiet_step ((first
          | (go_at_call_of 11 (Value.int IntKind.i64 g2); exact Calls.below_of (c2 _))
          | (go_at_call 11; exact Calls.below_of (c1 _))
          | (go_at_call_of 13 (Value.int IntKind.i64 g2); exact Calls.below_of (c4 _))
          | (go_at_call 13; exact Calls.below_of (c3 _)))))
        refine wpQuiet_nil ?_
        intro _ hw'
        obtain ⟨p, hw''⟩ := hw'
        subst hw''
        have HY3 := hid' (HT.out p)
        clear v0 v1 v2 v3 v4 q0 q1 q2 q3 q4 c1 c2 c3 c4
        go_wp2_with fail
        exact ⟨⟨j + 1, by omega, by go_num, HY3⟩, by simp [intOf]; omega⟩
      | true =>
        have c1 : ∀ p : BelowOf wr, Calls Try.prog 11 #[venV az V.seats.length cs V.gap V.radius ak V.kills.length ck ap V.poles.length cp, .int .i64 j] p.w fun e w' => e = .returned (.bool true) ∧ Below p.w.heap.size p.w w' := fun p => by
          have := c1 p
          rw [hq] at this; exact this
        have c2 : ∀ p : BelowOf wr, Calls Try.prog 11 #[venV az V.seats.length cs g2 V.radius ak V.kills.length ck ap V.poles.length cp, .int .i64 j] p.w fun e w' => e = .returned (.bool true) ∧ Below p.w.heap.size p.w w' := fun p => by
          have := c2 p
          rw [HMO.out hq] at this; exact this
        clear hq HMO
        refine wp_region_quiet_below mixed (by kernel_rfl) ?_
        repeat (go_big_quiet_step ((first
          | (go_at_call_of 11 (Value.int IntKind.i64 g2); exact Calls.below_of (c2 _))
          | (go_at_call 11; exact Calls.below_of (c1 _))
          | (go_at_call_of 13 (Value.int IntKind.i64 g2); exact Calls.below_of (c4 _))
          | (go_at_call 13; exact Calls.below_of (c3 _)))))
        refine wpQuiet_nil ?_
        intro _ hw'
        obtain ⟨p, hw''⟩ := hw'
        subst hw''
        have HY3 := hid' (HT.out p)
        clear v0 v1 v2 v3 v4 q0 q1 q2 q3 q4 c1 c2 c3 c4
        go_wp2_with fail
        exact ⟨⟨j + 1, by omega, by go_num, HY3⟩, by simp [intOf]; omega⟩
    · have hjz : ¬ (j : Int) < (V.seats.length : Int) := by omega
      go_wp2_with fail
      refine gap_region _ wr rfl B1 B2 az ak ap u1 V.seats.length cs V.kills.length ck V.poles.length cp un uc V.gap g2 V.radius LW LV HFE.out (HX.out.next HY2.out) (HY.out.next HY2.out) rfl rfl rfl ?_ ?_ ?_ ?_
      · intro w hw; exact told_any w
      · intro w hw; exact HRW.out w (HY2.out.trans (hw.mono HY2.out.size))
      · intro w hw; exact HRV.out w (HY2.out.trans (hw.mono HY2.out.size))
      intro w2 r1 r2 hb2
      have HF := hid' (HB.out.trans ((HY2.out.trans (hb2.mono HY2.out.size)).mono HB.out.size))
      clear hb2 v0 v1 v2 v3 v4
      simp only [Ven.putAll, List.setIfInBounds_toArray, List.set_cons_succ, List.set_cons_zero]
      go_wp2
      go_ret
      exact ⟨rfl, HF.out⟩
end Go.Proofs.Ytdodmbfkcandgaa.Rnn
