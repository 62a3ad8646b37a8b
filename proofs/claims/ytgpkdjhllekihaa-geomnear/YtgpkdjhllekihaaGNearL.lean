/- GeomNear answers true: its walk. -/
import Derived.Test.YtgpkdjhllekihaaGNearR
import Derived.Test.YtgpkdjhllekihaaGNearP
import Derived.Test.YtgpkdjhllekihaaGSameI
import Derived.Test.YtgpkdjhllekihaaVMakeA
namespace Go.Proofs.Ytgpkdjhllekihaa.Geo
set_option linter.unusedVariables false
set_option maxRecDepth 100000
open Go.RowKit Go.Shelf
open Go.Proofs.Ytgpkdjhllekihaa.Ven (Seat Pole Ven VenAt venV seatV Box mayB mixed below_alloc row_slice BelowOf wp_region_quiet_below Calls.below_of IntsAt make_any mod_u64)

set_option maxHeartbeats 16000000 in
theorem near_walk_ns (a : Option Addr) (len cap : Nat) (l : List Int) (w : World) (h : IntsAt w a len cap l) (k r s : Int) (kp kq : Nat) (hkp : kp < 100) (hkq : kq < 100) (er : (IntKind.u64.wrap r).tmod 100 = kp) (es : (IntKind.u64.wrap s).tmod 100 = kq) (hpq : kp ≤ kq) :
    Calls Try.prog 6 #[.slice a len cap, .int .i64 k, .int .i64 r, .int .i64 s] w fun e w' => e = .returned (.bool true) ∧ Below w.heap.size w w' := by
  have hmake := make_any a len cap l 25 (by omega) (by omega) w h
  have f1 : IntKind.i64.wrap (kp : Int) = kp := by rw [IntKind.wrap_i64]; omega
  have f2 : IntKind.i64.wrap (kq : Int) = kq := by rw [IntKind.wrap_i64]; omega
  have f3 : IntKind.i64.wrap (1 + (kp : Int)) = 1 + (kp : Int) := by rw [IntKind.wrap_i64]; omega
  have f4 : IntKind.i64.wrap (1 + (kq : Int)) = 1 + (kq : Int) := by rw [IntKind.wrap_i64]; omega
  have g1 : ¬ (kq : Int) < (kp : Int) := by omega
  have g2 : ¬ 1 + (kq : Int) < 1 + (kp : Int) := by omega
  have g3 : decide (kq < kp) = false := decide_eq_false (by omega)
  clear h
  go_enter Try.func6, Try.ntmps6
  go_wp2_with fail
  refine hmake.mono ?_
  rintro e w1 ⟨V, az, cs, ak, ck, ap, cp, row, xx, rfl, hven, hok, hle, hb1⟩
  have hl1 := hok.len
  have hm := hok.may (by omega)
  have hst := may_stand hm
  obtain ⟨j, hj, ej⟩ := mod_u64 k V.seats.length (by omega)
  have hjn : j < V.seats.length := by omega
  obtain ⟨sb, so, rfl, hC⟩ := Ven.cells_of_pos hven.s (i := j) hjn
  have n0 : ((V.seats.length : Int) == 0) = false := by rw [beq_eq_false_iff_ne]; omega
  have n1 : ¬ (V.seats.length : Int) = 0 := by omega
  have n2 : IntKind.u64.wrap (V.seats.length : Int) = V.seats.length := by
    unfold IntKind.wrap
    simp [IntKind.signed, IntKind.bits]
    omega
  have n3 : IntKind.i64.wrap (j : Int) = j := by rw [IntKind.wrap_i64]; omega
  have hb2 := below_alloc w1 (.cells #[.slice (some ⟨sb, so, none⟩) V.seats.length cs, .int .i64 V.gap, .int .i64 V.radius, .slice ak V.kills.length ck, .slice ap V.poles.length cp] 26)
  have hx := Box.fresh w1 26 #[.slice (some ⟨sb, so, none⟩) V.seats.length cs, .int .i64 V.gap, .int .i64 V.radius, .slice ak V.kills.length ck, .slice ap V.poles.length cp]
  have hvW := hven.next hb2
  have hsj := (hC.next hb2).seat j hjn
  have hB2 := hb1.trans (hb2.mono hb1.size)
  have HM := hid' hm
  have HST := hid' (hst j hjn)
  have HV := hid' hvW
  have HB2 := hid' hB2
  have HX := hid' hx
  have HS := hid' hsj
  have x0 := hx.cell 0 _ rfl
  clear hmake hok hven hm hst hvW hB2 hb1 hb2 hx hsj hC
  go_wp2_with fail
  generalize w1.alloc (.cells #[.slice (some ⟨sb, so, none⟩) V.seats.length cs, .int .i64 V.gap, .int .i64 V.radius, .slice ak V.kills.length ck, .slice ap V.poles.length cp] 26) = W at *
  refine near_region _ W rfl _ sb so V.seats.length cs j ak ap _ _ _ _ V.gap V.radius (1 + (kp : Int)) (1 + (kq : Int)) V.seats[j].row V.seats[j].x V.seats[j].y V.seats[j].kind (nearL V V.seats[j].x V.seats[j].y (1 + (kp : Int))) (nearL V V.seats[j].x V.seats[j].y (1 + (kq : Int))) hjn rfl rfl rfl rfl HX.out HS.out (fun w' hw' => near_any _ _ _ _ _ _ _ _ _ V _ _ _ w' (HV.out.next hw')) (fun w' hw' => near_any _ _ _ _ _ _ _ _ _ V _ _ _ w' (HV.out.next hw')) ?_
  intro W1 u1 u2 hb3 hi1 hi2
  have e1 := nearL_eq (r := 1 + (kp : Int)) HST.out (by omega) (by omega) HM.out
  have e2 := nearL_eq (r := 1 + (kq : Int)) HST.out (by omega) (by omega) HM.out
  rw [e1] at hi1
  rw [e2] at hi2
  have hfil := thoseN_filter V.seats.length (f := fun i => nearS V.seats[i]! ⟨0, V.seats[j].x, V.seats[j].y, 0⟩ (1 + (kp : Int))) (g := fun i => nearS V.seats[i]! ⟨0, V.seats[j].x, V.seats[j].y, 0⟩ (1 + (kq : Int))) (fun i _ hi => near_mono (by omega) (by omega) hi)
  have hrise := thoseN_pairwise V.seats.length (fun i => nearS V.seats[i]! ⟨0, V.seats[j].x, V.seats[j].y, 0⟩ (1 + (kq : Int)))
  have hin : (j : Int) ∈ thoseN V.seats.length (fun i => nearS V.seats[i]! ⟨0, V.seats[j].x, V.seats[j].y, 0⟩ (1 + (kp : Int))) := (thoseN_mem _ _ _).2 ⟨j, hjn, by rw [getElem!_pos V.seats j hjn]; exact near_self (by omega), rfl⟩
  have hl2 := thoseN_le V.seats.length (fun i => nearS V.seats[i]! ⟨0, V.seats[j].x, V.seats[j].y, 0⟩ (1 + (kq : Int)))
  have hl1' := thoseN_le V.seats.length (fun i => nearS V.seats[i]! ⟨0, V.seats[j].x, V.seats[j].y, 0⟩ (1 + (kp : Int)))
  generalize thoseN V.seats.length (fun i => nearS V.seats[i]! ⟨0, V.seats[j].x, V.seats[j].y, 0⟩ (1 + (kp : Int))) = L1 at hi1 hfil hin hl1'
  generalize thoseN V.seats.length (fun i => nearS V.seats[i]! ⟨0, V.seats[j].x, V.seats[j].y, 0⟩ (1 + (kq : Int))) = L2 at hi2 hfil hrise hl2
  generalize (fun z : Int => (fun i => nearS V.seats[i]! ⟨0, V.seats[j].x, V.seats[j].y, 0⟩ (1 + (kp : Int))) z.toNat) = g at hfil
  have hp1 : 0 < L1.length := List.length_pos_of_mem hin
  have hp2 : 0 < L2.length := by
    rw [hfil] at hin
    exact List.length_pos_of_mem (List.mem_filter.1 hin).1
  obtain ⟨b1, o1, cc1, rfl, hd1, hd2, hn1, hc1⟩ := hi1.at hp1
  obtain ⟨b2, o2, cc2, rfl, hd3, hd4, hn2, hc2⟩ := hi2.at hp2
  have HL := hid' hfil
  have HR := hid' hrise
  have HIN := hid' hin
  have HC1 := hid' hc1
  have HC2 := hid' hc2
  have HB3 := hid' (HB2.out.trans (hb3.mono HB2.out.size))
  have HV3 := hid' (HV.out.next hb3)
  have HX3 := hid' (HX.out.next hb3)
  have hq1 : L1.length ≤ 25 := by omega
  have hq2 : L2.length ≤ 25 := by omega
  clear e1 e2 hi1 hi2 hfil hrise hin hc1 hc2 hb3 HB2 HV HX HS HST hp1 hp2 hl2 hl1' hd1 hd2 hd3 hd4 x0 f1 f2 f3 f4 er es ej n0 n1 n2 n3 hl1 hle g1 g2
  simp only [Ven.putAll, List.setIfInBounds_toArray, List.set_cons_succ, List.set_cons_zero]
  go_wp2_with fail
  go_loopw [15, 16, 17] (fun si so' sn wr => ∃ N : Nat, N ≤ L2.length ∧ si = .int .i64 (cnt L2 g N) ∧ so' = .bool (own L2 g (j : Int) N) ∧ sn = .int .i64 N ∧ Hid (Below W1.heap.size W1 wr)) (fun _ _ sn _ => L2.length - (intOf sn).toNat)
  case atStart => exact ⟨0, Nat.zero_le _, rfl, rfl, rfl, Below.refl _ _⟩
  case round =>
    obtain ⟨N, hN, rfl, rfl, rfl, HW⟩ := hrel
    by_cases hlt : N < L2.length
    · have hltz : (N : Int) < (L2.length : Int) := by omega
      rcases Nat.eq_zero_or_pos N with hN0 | hN0
      · have hz : ¬ (0 : Int) < (N : Int) := by omega
        have hzd : decide ((0 : Int) < (N : Int)) = false := decide_eq_false hz
        have hzn : ¬ 0 < N := by omega
        have hznd : decide (0 < N) = false := decide_eq_false hzn
        have hne : Nonempty (BelowOf wr) := ⟨⟨wr, Below.refl _ wr⟩⟩
        clear hN0
        go_wp2_with fail
        refine wp_region_quiet_below mixed (by kernel_rfl) ?_
        repeat (go_big_quiet_step (fail))
        refine wpQuiet_nil ?_
        intro _ hw'
        obtain ⟨pp, hw''⟩ := hw'
        subst hw''
        obtain ⟨w3, hb3⟩ := pp
        simp only
        have H3 := hid' (HW.out.trans (hb3.mono HW.out.size))
        clear hb3 hne HW hz hzd hzn hznd
        go_wp2_with fail
        have hne : Nonempty (BelowOf w3) := ⟨⟨w3, Below.refl _ w3⟩⟩
        have y0 : ∀ p : BelowOf w3, p.w.cell? ⟨b2, o2 + N, none⟩ = some (.int .i64 L2[N]) := fun p => by rw [(H3.out.trans (p.h.mono H3.out.size)).cell (p := ⟨b2, o2 + N, none⟩) hn2]; exact HC2.out N hlt
        cases hg : g L2[N] with
        | true =>
          obtain ⟨hc0, hc1, hc2⟩ := cnt_yes hlt hg
          have how := own_yes (j : Int) hlt hg
          have HC0 : Hid (cnt L2 g N < L1.length) := by show cnt L2 g N < L1.length; rw [HL.out]; exact hc0
          have HX : Hid (∀ h : cnt L2 g N < L1.length, L1[cnt L2 g N] = L2[N]) := fun h => by
            have e : L1[cnt L2 g N] = (L2.filter g)[cnt L2 g N] := by simp [HL.out]
            rw [e]; exact hc1
          have HCN := hid' hc2
          have HOW := hid' how
          have hib : cnt L2 g N ≤ 25 := by have := HC0.out; omega
          clear hc0 hc1 hc2 how hg
          generalize hcn : cnt L2 g N = i at *
          generalize hoo : own L2 g (j : Int) N = ow at *
          clear hcn hoo
          have hiz : (i : Int) < (L1.length : Int) := by have := HC0.out; omega
          have hizd : decide ((i : Int) < (L1.length : Int)) = true := decide_eq_true hiz
          have x0 : ∀ p : BelowOf w3, p.w.cell? ⟨b1, o1 + i, none⟩ = some (.int .i64 L2[N]) := fun p => by rw [(H3.out.trans (p.h.mono H3.out.size)).cell (p := ⟨b1, o1 + i, none⟩) hn1, HC1.out i HC0.out, HX.out HC0.out]
          have hzz : (L2[N] == L2[N]) = true := by simp
          have X0 := hid' x0
          generalize L2[N] = z at *
          refine wp_region_quiet_below mixed (by kernel_rfl) ?_
          repeat (go_big_quiet_step (fail))
          refine wpQuiet_nil ?_
          intro _ hw'
          obtain ⟨pp, hw''⟩ := hw'
          subst hw''
          obtain ⟨w4, hb4⟩ := pp
          simp only
          have H4 := hid' (H3.out.trans (hb4.mono H3.out.size))
          have x1 : w4.cell? ⟨b1, o1 + i, none⟩ = some (.int .i64 z) := X0.out ⟨w4, hb4⟩
          clear y0 x0 X0 hb4 hne
          cases ow with
          | true =>
            have e : own L2 g (j : Int) (N + 1) = true := by rw [HOW.out]; rfl
            have HE := hid' e
            clear e
            go_wp2_with fail
            exact ⟨⟨N + 1, by omega, by rw [HCN.out]; go_num, by rw [HE.out], by go_num, H4⟩, by simp [intOf]; omega⟩
          | false =>
            have e : own L2 g (j : Int) (N + 1) = (z == (j : Int)) := by rw [HOW.out]; rfl
            have HE := hid' e
            clear e
            go_wp2_with fail
            exact ⟨⟨N + 1, by omega, by rw [HCN.out]; go_num, by rw [HE.out], by go_num, H4⟩, by simp [intOf]; omega⟩
        | false =>
          obtain ⟨hc2, hc1⟩ := cnt_no hlt hg
          have how := own_no (j : Int) hlt hg
          have HX : Hid (∀ (i : Nat) (hi : i < L1.length), L1[i] ≠ L2[N]) := fun i hi he => by
            have hi' : i < (L2.filter g).length := by rw [← HL.out]; exact hi
            have e : L1[i] = (L2.filter g)[i] := by simp [HL.out]
            exact hc1 i hi' (by rw [← e]; exact he)
          have HCN := hid' hc2
          have HOW := hid' how
          clear hc1 hc2 how hg
          generalize hcn : cnt L2 g N = i at *
          generalize hoo : own L2 g (j : Int) N = ow at *
          clear hcn hoo
          by_cases hi : i < L1.length
          · have hiz : (i : Int) < (L1.length : Int) := by omega
            have hizd : decide ((i : Int) < (L1.length : Int)) = true := decide_eq_true hiz
            have x0 : ∀ p : BelowOf w3, p.w.cell? ⟨b1, o1 + i, none⟩ = some (.int .i64 L1[i]) := fun p => by rw [(H3.out.trans (p.h.mono H3.out.size)).cell (p := ⟨b1, o1 + i, none⟩) hn1, HC1.out i hi]
            have hxz : (L1[i] == L2[N]) = false := by simpa using HX.out i hi
            clear HX
            generalize L1[i] = xi at *
            clear hi
            generalize L2[N] = z at *
            refine wp_region_quiet_below mixed (by kernel_rfl) ?_
            repeat (go_big_quiet_step (fail))
            refine wpQuiet_nil ?_
            intro _ hw'
            obtain ⟨pp, hw''⟩ := hw'
            subst hw''
            obtain ⟨w4, hb4⟩ := pp
            simp only
            have H4 := hid' (H3.out.trans (hb4.mono H3.out.size))
            clear y0 x0 hb4 hne
            go_wp2_with fail
            exact ⟨⟨N + 1, by omega, by rw [HCN.out], by rw [HOW.out], by go_num, H4⟩, by simp [intOf]; omega⟩
          · have hiz : ¬ (i : Int) < (L1.length : Int) := by omega
            have hizd : decide ((i : Int) < (L1.length : Int)) = false := decide_eq_false hiz
            clear hi
            generalize L2[N] = z at *
            refine wp_region_quiet_below mixed (by kernel_rfl) ?_
            repeat (go_big_quiet_step (fail))
            refine wpQuiet_nil ?_
            intro _ hw'
            obtain ⟨pp, hw''⟩ := hw'
            subst hw''
            obtain ⟨w4, hb4⟩ := pp
            simp only
            have H4 := hid' (H3.out.trans (hb4.mono H3.out.size))
            clear y0 hb4 hne
            go_wp2_with fail
            exact ⟨⟨N + 1, by omega, by rw [HCN.out], by rw [HOW.out], by go_num, H4⟩, by simp [intOf]; omega⟩
      · have hz : (0 : Int) < (N : Int) := by omega
        have hzd : decide ((0 : Int) < (N : Int)) = true := decide_eq_true hz
        have hznd : decide (0 < N) = true := decide_eq_true hN0
        have hne : Nonempty (BelowOf wr) := ⟨⟨wr, Below.refl _ wr⟩⟩
        have hk1 : ((N : Int) - 1) = ((N - 1 : Nat) : Int) := by omega
        have hk2 : ((N - 1 : Nat) : Int) < (L2.length : Int) := by omega
        have hlt1 : N - 1 < L2.length := by omega
        have hri := rising_at HR.out hN0 hlt
        have hnle : ¬ L2[N] ≤ L2[N - 1] := by omega
        have y0 : ∀ p : BelowOf wr, p.w.cell? ⟨b2, o2 + N, none⟩ = some (.int .i64 L2[N]) := fun p => by rw [(HW.out.trans (p.h.mono HW.out.size)).cell (p := ⟨b2, o2 + N, none⟩) hn2]; exact HC2.out N hlt
        have y1 : ∀ p : BelowOf wr, p.w.cell? ⟨b2, o2 + (N - 1), none⟩ = some (.int .i64 L2[N - 1]) := fun p => by rw [(HW.out.trans (p.h.mono HW.out.size)).cell (p := ⟨b2, o2 + (N - 1), none⟩) hn2]; exact HC2.out (N - 1) hlt1
        clear hri
        generalize hz0 : L2[N] = z0 at y0 hnle
        generalize hz1 : L2[N - 1] = z1 at y1 hnle
        clear hz0 hz1
        have hnd : decide (z0 ≤ z1) = false := decide_eq_false hnle
        go_wp2_with fail
        refine wp_region_quiet_below mixed (by kernel_rfl) ?_
        repeat (go_big_quiet_step (fail))
        refine wpQuiet_nil ?_
        intro _ hw'
        obtain ⟨pp, hw''⟩ := hw'
        subst hw''
        obtain ⟨w3, hb3⟩ := pp
        simp only
        have H3 := hid' (HW.out.trans (hb3.mono HW.out.size))
        clear hb3 hne HW hz hzd hznd hN0 hk1 hk2 hlt1 y0 y1
        go_wp2_with fail
        clear hnle hnd
        have hne : Nonempty (BelowOf w3) := ⟨⟨w3, Below.refl _ w3⟩⟩
        have y0 : ∀ p : BelowOf w3, p.w.cell? ⟨b2, o2 + N, none⟩ = some (.int .i64 L2[N]) := fun p => by rw [(H3.out.trans (p.h.mono H3.out.size)).cell (p := ⟨b2, o2 + N, none⟩) hn2]; exact HC2.out N hlt
        cases hg : g L2[N] with
        | true =>
          obtain ⟨hc0, hc1, hc2⟩ := cnt_yes hlt hg
          have how := own_yes (j : Int) hlt hg
          have HC0 : Hid (cnt L2 g N < L1.length) := by show cnt L2 g N < L1.length; rw [HL.out]; exact hc0
          have HX : Hid (∀ h : cnt L2 g N < L1.length, L1[cnt L2 g N] = L2[N]) := fun h => by
            have e : L1[cnt L2 g N] = (L2.filter g)[cnt L2 g N] := by simp [HL.out]
            rw [e]; exact hc1
          have HCN := hid' hc2
          have HOW := hid' how
          have hib : cnt L2 g N ≤ 25 := by have := HC0.out; omega
          clear hc0 hc1 hc2 how hg
          generalize hcn : cnt L2 g N = i at *
          generalize hoo : own L2 g (j : Int) N = ow at *
          clear hcn hoo
          have hiz : (i : Int) < (L1.length : Int) := by have := HC0.out; omega
          have hizd : decide ((i : Int) < (L1.length : Int)) = true := decide_eq_true hiz
          have x0 : ∀ p : BelowOf w3, p.w.cell? ⟨b1, o1 + i, none⟩ = some (.int .i64 L2[N]) := fun p => by rw [(H3.out.trans (p.h.mono H3.out.size)).cell (p := ⟨b1, o1 + i, none⟩) hn1, HC1.out i HC0.out, HX.out HC0.out]
          have hzz : (L2[N] == L2[N]) = true := by simp
          have X0 := hid' x0
          generalize L2[N] = z at *
          refine wp_region_quiet_below mixed (by kernel_rfl) ?_
          repeat (go_big_quiet_step (fail))
          refine wpQuiet_nil ?_
          intro _ hw'
          obtain ⟨pp, hw''⟩ := hw'
          subst hw''
          obtain ⟨w4, hb4⟩ := pp
          simp only
          have H4 := hid' (H3.out.trans (hb4.mono H3.out.size))
          have x1 : w4.cell? ⟨b1, o1 + i, none⟩ = some (.int .i64 z) := X0.out ⟨w4, hb4⟩
          clear y0 x0 X0 hb4 hne
          cases ow with
          | true =>
            have e : own L2 g (j : Int) (N + 1) = true := by rw [HOW.out]; rfl
            have HE := hid' e
            clear e
            go_wp2_with fail
            exact ⟨⟨N + 1, by omega, by rw [HCN.out]; go_num, by rw [HE.out], by go_num, H4⟩, by simp [intOf]; omega⟩
          | false =>
            have e : own L2 g (j : Int) (N + 1) = (z == (j : Int)) := by rw [HOW.out]; rfl
            have HE := hid' e
            clear e
            go_wp2_with fail
            exact ⟨⟨N + 1, by omega, by rw [HCN.out]; go_num, by rw [HE.out], by go_num, H4⟩, by simp [intOf]; omega⟩
        | false =>
          obtain ⟨hc2, hc1⟩ := cnt_no hlt hg
          have how := own_no (j : Int) hlt hg
          have HX : Hid (∀ (i : Nat) (hi : i < L1.length), L1[i] ≠ L2[N]) := fun i hi he => by
            have hi' : i < (L2.filter g).length := by rw [← HL.out]; exact hi
            have e : L1[i] = (L2.filter g)[i] := by simp [HL.out]
            exact hc1 i hi' (by rw [← e]; exact he)
          have HCN := hid' hc2
          have HOW := hid' how
          clear hc1 hc2 how hg
          generalize hcn : cnt L2 g N = i at *
          generalize hoo : own L2 g (j : Int) N = ow at *
          clear hcn hoo
          by_cases hi : i < L1.length
          · have hiz : (i : Int) < (L1.length : Int) := by omega
            have hizd : decide ((i : Int) < (L1.length : Int)) = true := decide_eq_true hiz
            have x0 : ∀ p : BelowOf w3, p.w.cell? ⟨b1, o1 + i, none⟩ = some (.int .i64 L1[i]) := fun p => by rw [(H3.out.trans (p.h.mono H3.out.size)).cell (p := ⟨b1, o1 + i, none⟩) hn1, HC1.out i hi]
            have hxz : (L1[i] == L2[N]) = false := by simpa using HX.out i hi
            clear HX
            generalize L1[i] = xi at *
            clear hi
            generalize L2[N] = z at *
            refine wp_region_quiet_below mixed (by kernel_rfl) ?_
            repeat (go_big_quiet_step (fail))
            refine wpQuiet_nil ?_
            intro _ hw'
            obtain ⟨pp, hw''⟩ := hw'
            subst hw''
            obtain ⟨w4, hb4⟩ := pp
            simp only
            have H4 := hid' (H3.out.trans (hb4.mono H3.out.size))
            clear y0 x0 hb4 hne
            go_wp2_with fail
            exact ⟨⟨N + 1, by omega, by rw [HCN.out], by rw [HOW.out], by go_num, H4⟩, by simp [intOf]; omega⟩
          · have hiz : ¬ (i : Int) < (L1.length : Int) := by omega
            have hizd : decide ((i : Int) < (L1.length : Int)) = false := decide_eq_false hiz
            clear hi
            generalize L2[N] = z at *
            refine wp_region_quiet_below mixed (by kernel_rfl) ?_
            repeat (go_big_quiet_step (fail))
            refine wpQuiet_nil ?_
            intro _ hw'
            obtain ⟨pp, hw''⟩ := hw'
            subst hw''
            obtain ⟨w4, hb4⟩ := pp
            simp only
            have H4 := hid' (H3.out.trans (hb4.mono H3.out.size))
            clear y0 hb4 hne
            go_wp2_with fail
            exact ⟨⟨N + 1, by omega, by rw [HCN.out], by rw [HOW.out], by go_num, H4⟩, by simp [intOf]; omega⟩
    · have hltz : ¬ (N : Int) < (L2.length : Int) := by omega
      have hNe : N = L2.length := by omega
      have hcl : cnt L2 g N = L1.length := by rw [hNe, cnt_all, ← HL.out]
      have hol : own L2 g (j : Int) N = true := by rw [hNe]; exact own_all (by rw [← HL.out]; exact HIN.out)
      generalize cnt L2 g N = i at *
      generalize own L2 g (j : Int) N = ow at *
      subst hcl hol
      clear hNe hlt
      go_wp2_with fail
      refine (told_any _).mono ?_
      rintro e w5 ⟨rfl, hb5⟩
      have H5 := hid' (HW.out.trans (hb5.mono HW.out.size))
      obtain ⟨v0, v1, v2, v3, v4⟩ := (HX3.out.next H5.out).five
      clear hb5 HW
      go_wp2_with fail
      have hnz := near_any _ _ _ _ _ _ _ _ _ V 0 0 0 w5 (HV3.out.next H5.out)
      rw [nearL_zero] at hnz
      refine hnz.mono ?_
      rintro e w6 ⟨v, rfl, hiv, hb6⟩
      have H6 := hid' (H5.out.trans (hb6.mono H5.out.size))
      have hsm := same_any [] [] v (.slice none 0 0) w6 hiv.sl (.inl ⟨⟨_, _, rfl⟩, rfl⟩)
      obtain ⟨va, vc, rfl⟩ := row_slice hiv
      clear hnz hiv hb6 v0 v1 v2 v3 v4 H5
      go_wp2_with fail
      refine hsm.mono ?_
      rintro e w7 ⟨rfl, hb7⟩
      have HF := hid' (HB3.out.trans ((H6.out.trans (hb7.mono H6.out.size)).mono HB3.out.size))
      clear hsm hb7 H6
      go_wp2
      go_ret
      exact ⟨rfl, HF.out⟩
set_option maxHeartbeats 16000000 in
theorem near_walk_sw (a : Option Addr) (len cap : Nat) (l : List Int) (w : World) (h : IntsAt w a len cap l) (k r s : Int) (kp kq : Nat) (hkp : kp < 100) (hkq : kq < 100) (er : (IntKind.u64.wrap r).tmod 100 = kp) (es : (IntKind.u64.wrap s).tmod 100 = kq) (hpq : kq < kp) :
    Calls Try.prog 6 #[.slice a len cap, .int .i64 k, .int .i64 r, .int .i64 s] w fun e w' => e = .returned (.bool true) ∧ Below w.heap.size w w' := by
  have hmake := make_any a len cap l 25 (by omega) (by omega) w h
  have f1 : IntKind.i64.wrap (kp : Int) = kp := by rw [IntKind.wrap_i64]; omega
  have f2 : IntKind.i64.wrap (kq : Int) = kq := by rw [IntKind.wrap_i64]; omega
  have f3 : IntKind.i64.wrap (1 + (kp : Int)) = 1 + (kp : Int) := by rw [IntKind.wrap_i64]; omega
  have f4 : IntKind.i64.wrap (1 + (kq : Int)) = 1 + (kq : Int) := by rw [IntKind.wrap_i64]; omega
  have g1 : (kq : Int) < (kp : Int) := by omega
  have g2 : 1 + (kq : Int) < 1 + (kp : Int) := by omega
  have g3 : decide (kq < kp) = true := decide_eq_true (by omega)
  clear h
  go_enter Try.func6, Try.ntmps6
  go_wp2_with fail
  refine hmake.mono ?_
  rintro e w1 ⟨V, az, cs, ak, ck, ap, cp, row, xx, rfl, hven, hok, hle, hb1⟩
  have hl1 := hok.len
  have hm := hok.may (by omega)
  have hst := may_stand hm
  obtain ⟨j, hj, ej⟩ := mod_u64 k V.seats.length (by omega)
  have hjn : j < V.seats.length := by omega
  obtain ⟨sb, so, rfl, hC⟩ := Ven.cells_of_pos hven.s (i := j) hjn
  have n0 : ((V.seats.length : Int) == 0) = false := by rw [beq_eq_false_iff_ne]; omega
  have n1 : ¬ (V.seats.length : Int) = 0 := by omega
  have n2 : IntKind.u64.wrap (V.seats.length : Int) = V.seats.length := by
    unfold IntKind.wrap
    simp [IntKind.signed, IntKind.bits]
    omega
  have n3 : IntKind.i64.wrap (j : Int) = j := by rw [IntKind.wrap_i64]; omega
  have hb2 := below_alloc w1 (.cells #[.slice (some ⟨sb, so, none⟩) V.seats.length cs, .int .i64 V.gap, .int .i64 V.radius, .slice ak V.kills.length ck, .slice ap V.poles.length cp] 26)
  have hx := Box.fresh w1 26 #[.slice (some ⟨sb, so, none⟩) V.seats.length cs, .int .i64 V.gap, .int .i64 V.radius, .slice ak V.kills.length ck, .slice ap V.poles.length cp]
  have hvW := hven.next hb2
  have hsj := (hC.next hb2).seat j hjn
  have hB2 := hb1.trans (hb2.mono hb1.size)
  have HM := hid' hm
  have HST := hid' (hst j hjn)
  have HV := hid' hvW
  have HB2 := hid' hB2
  have HX := hid' hx
  have HS := hid' hsj
  have x0 := hx.cell 0 _ rfl
  clear hmake hok hven hm hst hvW hB2 hb1 hb2 hx hsj hC
  go_wp2_with fail
  generalize w1.alloc (.cells #[.slice (some ⟨sb, so, none⟩) V.seats.length cs, .int .i64 V.gap, .int .i64 V.radius, .slice ak V.kills.length ck, .slice ap V.poles.length cp] 26) = W at *
  refine near_region _ W rfl _ sb so V.seats.length cs j ak ap _ _ _ _ V.gap V.radius (1 + (kq : Int)) (1 + (kp : Int)) V.seats[j].row V.seats[j].x V.seats[j].y V.seats[j].kind (nearL V V.seats[j].x V.seats[j].y (1 + (kq : Int))) (nearL V V.seats[j].x V.seats[j].y (1 + (kp : Int))) hjn rfl rfl rfl rfl HX.out HS.out (fun w' hw' => near_any _ _ _ _ _ _ _ _ _ V _ _ _ w' (HV.out.next hw')) (fun w' hw' => near_any _ _ _ _ _ _ _ _ _ V _ _ _ w' (HV.out.next hw')) ?_
  intro W1 u1 u2 hb3 hi1 hi2
  have e1 := nearL_eq (r := 1 + (kq : Int)) HST.out (by omega) (by omega) HM.out
  have e2 := nearL_eq (r := 1 + (kp : Int)) HST.out (by omega) (by omega) HM.out
  rw [e1] at hi1
  rw [e2] at hi2
  have hfil := thoseN_filter V.seats.length (f := fun i => nearS V.seats[i]! ⟨0, V.seats[j].x, V.seats[j].y, 0⟩ (1 + (kq : Int))) (g := fun i => nearS V.seats[i]! ⟨0, V.seats[j].x, V.seats[j].y, 0⟩ (1 + (kp : Int))) (fun i _ hi => near_mono (by omega) (by omega) hi)
  have hrise := thoseN_pairwise V.seats.length (fun i => nearS V.seats[i]! ⟨0, V.seats[j].x, V.seats[j].y, 0⟩ (1 + (kp : Int)))
  have hin : (j : Int) ∈ thoseN V.seats.length (fun i => nearS V.seats[i]! ⟨0, V.seats[j].x, V.seats[j].y, 0⟩ (1 + (kq : Int))) := (thoseN_mem _ _ _).2 ⟨j, hjn, by rw [getElem!_pos V.seats j hjn]; exact near_self (by omega), rfl⟩
  have hl2 := thoseN_le V.seats.length (fun i => nearS V.seats[i]! ⟨0, V.seats[j].x, V.seats[j].y, 0⟩ (1 + (kp : Int)))
  have hl1' := thoseN_le V.seats.length (fun i => nearS V.seats[i]! ⟨0, V.seats[j].x, V.seats[j].y, 0⟩ (1 + (kq : Int)))
  generalize thoseN V.seats.length (fun i => nearS V.seats[i]! ⟨0, V.seats[j].x, V.seats[j].y, 0⟩ (1 + (kq : Int))) = L1 at hi1 hfil hin hl1'
  generalize thoseN V.seats.length (fun i => nearS V.seats[i]! ⟨0, V.seats[j].x, V.seats[j].y, 0⟩ (1 + (kp : Int))) = L2 at hi2 hfil hrise hl2
  generalize (fun z : Int => (fun i => nearS V.seats[i]! ⟨0, V.seats[j].x, V.seats[j].y, 0⟩ (1 + (kq : Int))) z.toNat) = g at hfil
  have hp1 : 0 < L1.length := List.length_pos_of_mem hin
  have hp2 : 0 < L2.length := by
    rw [hfil] at hin
    exact List.length_pos_of_mem (List.mem_filter.1 hin).1
  obtain ⟨b1, o1, cc1, rfl, hd1, hd2, hn1, hc1⟩ := hi1.at hp1
  obtain ⟨b2, o2, cc2, rfl, hd3, hd4, hn2, hc2⟩ := hi2.at hp2
  have HL := hid' hfil
  have HR := hid' hrise
  have HIN := hid' hin
  have HC1 := hid' hc1
  have HC2 := hid' hc2
  have HB3 := hid' (HB2.out.trans (hb3.mono HB2.out.size))
  have HV3 := hid' (HV.out.next hb3)
  have HX3 := hid' (HX.out.next hb3)
  have hq1 : L1.length ≤ 25 := by omega
  have hq2 : L2.length ≤ 25 := by omega
  clear e1 e2 hi1 hi2 hfil hrise hin hc1 hc2 hb3 HB2 HV HX HS HST hp1 hp2 hl2 hl1' hd1 hd2 hd3 hd4 x0 f1 f2 f3 f4 er es ej n0 n1 n2 n3 hl1 hle g1 g2
  simp only [Ven.putAll, List.setIfInBounds_toArray, List.set_cons_succ, List.set_cons_zero]
  go_wp2_with fail
  go_loopw [15, 16, 17] (fun si so' sn wr => ∃ N : Nat, N ≤ L2.length ∧ si = .int .i64 (cnt L2 g N) ∧ so' = .bool (own L2 g (j : Int) N) ∧ sn = .int .i64 N ∧ Hid (Below W1.heap.size W1 wr)) (fun _ _ sn _ => L2.length - (intOf sn).toNat)
  case atStart => exact ⟨0, Nat.zero_le _, rfl, rfl, rfl, Below.refl _ _⟩
  case round =>
    obtain ⟨N, hN, rfl, rfl, rfl, HW⟩ := hrel
    by_cases hlt : N < L2.length
    · have hltz : (N : Int) < (L2.length : Int) := by omega
      rcases Nat.eq_zero_or_pos N with hN0 | hN0
      · have hz : ¬ (0 : Int) < (N : Int) := by omega
        have hzd : decide ((0 : Int) < (N : Int)) = false := decide_eq_false hz
        have hzn : ¬ 0 < N := by omega
        have hznd : decide (0 < N) = false := decide_eq_false hzn
        have hne : Nonempty (BelowOf wr) := ⟨⟨wr, Below.refl _ wr⟩⟩
        clear hN0
        go_wp2_with fail
        refine wp_region_quiet_below mixed (by kernel_rfl) ?_
        repeat (go_big_quiet_step (fail))
        refine wpQuiet_nil ?_
        intro _ hw'
        obtain ⟨pp, hw''⟩ := hw'
        subst hw''
        obtain ⟨w3, hb3⟩ := pp
        simp only
        have H3 := hid' (HW.out.trans (hb3.mono HW.out.size))
        clear hb3 hne HW hz hzd hzn hznd
        go_wp2_with fail
        have hne : Nonempty (BelowOf w3) := ⟨⟨w3, Below.refl _ w3⟩⟩
        have y0 : ∀ p : BelowOf w3, p.w.cell? ⟨b2, o2 + N, none⟩ = some (.int .i64 L2[N]) := fun p => by rw [(H3.out.trans (p.h.mono H3.out.size)).cell (p := ⟨b2, o2 + N, none⟩) hn2]; exact HC2.out N hlt
        cases hg : g L2[N] with
        | true =>
          obtain ⟨hc0, hc1, hc2⟩ := cnt_yes hlt hg
          have how := own_yes (j : Int) hlt hg
          have HC0 : Hid (cnt L2 g N < L1.length) := by show cnt L2 g N < L1.length; rw [HL.out]; exact hc0
          have HX : Hid (∀ h : cnt L2 g N < L1.length, L1[cnt L2 g N] = L2[N]) := fun h => by
            have e : L1[cnt L2 g N] = (L2.filter g)[cnt L2 g N] := by simp [HL.out]
            rw [e]; exact hc1
          have HCN := hid' hc2
          have HOW := hid' how
          have hib : cnt L2 g N ≤ 25 := by have := HC0.out; omega
          clear hc0 hc1 hc2 how hg
          generalize hcn : cnt L2 g N = i at *
          generalize hoo : own L2 g (j : Int) N = ow at *
          clear hcn hoo
          have hiz : (i : Int) < (L1.length : Int) := by have := HC0.out; omega
          have hizd : decide ((i : Int) < (L1.length : Int)) = true := decide_eq_true hiz
          have x0 : ∀ p : BelowOf w3, p.w.cell? ⟨b1, o1 + i, none⟩ = some (.int .i64 L2[N]) := fun p => by rw [(H3.out.trans (p.h.mono H3.out.size)).cell (p := ⟨b1, o1 + i, none⟩) hn1, HC1.out i HC0.out, HX.out HC0.out]
          have hzz : (L2[N] == L2[N]) = true := by simp
          have X0 := hid' x0
          generalize L2[N] = z at *
          refine wp_region_quiet_below mixed (by kernel_rfl) ?_
          repeat (go_big_quiet_step (fail))
          refine wpQuiet_nil ?_
          intro _ hw'
          obtain ⟨pp, hw''⟩ := hw'
          subst hw''
          obtain ⟨w4, hb4⟩ := pp
          simp only
          have H4 := hid' (H3.out.trans (hb4.mono H3.out.size))
          have x1 : w4.cell? ⟨b1, o1 + i, none⟩ = some (.int .i64 z) := X0.out ⟨w4, hb4⟩
          clear y0 x0 X0 hb4 hne
          cases ow with
          | true =>
            have e : own L2 g (j : Int) (N + 1) = true := by rw [HOW.out]; rfl
            have HE := hid' e
            clear e
            go_wp2_with fail
            exact ⟨⟨N + 1, by omega, by rw [HCN.out]; go_num, by rw [HE.out], by go_num, H4⟩, by simp [intOf]; omega⟩
          | false =>
            have e : own L2 g (j : Int) (N + 1) = (z == (j : Int)) := by rw [HOW.out]; rfl
            have HE := hid' e
            clear e
            go_wp2_with fail
            exact ⟨⟨N + 1, by omega, by rw [HCN.out]; go_num, by rw [HE.out], by go_num, H4⟩, by simp [intOf]; omega⟩
        | false =>
          obtain ⟨hc2, hc1⟩ := cnt_no hlt hg
          have how := own_no (j : Int) hlt hg
          have HX : Hid (∀ (i : Nat) (hi : i < L1.length), L1[i] ≠ L2[N]) := fun i hi he => by
            have hi' : i < (L2.filter g).length := by rw [← HL.out]; exact hi
            have e : L1[i] = (L2.filter g)[i] := by simp [HL.out]
            exact hc1 i hi' (by rw [← e]; exact he)
          have HCN := hid' hc2
          have HOW := hid' how
          clear hc1 hc2 how hg
          generalize hcn : cnt L2 g N = i at *
          generalize hoo : own L2 g (j : Int) N = ow at *
          clear hcn hoo
          by_cases hi : i < L1.length
          · have hiz : (i : Int) < (L1.length : Int) := by omega
            have hizd : decide ((i : Int) < (L1.length : Int)) = true := decide_eq_true hiz
            have x0 : ∀ p : BelowOf w3, p.w.cell? ⟨b1, o1 + i, none⟩ = some (.int .i64 L1[i]) := fun p => by rw [(H3.out.trans (p.h.mono H3.out.size)).cell (p := ⟨b1, o1 + i, none⟩) hn1, HC1.out i hi]
            have hxz : (L1[i] == L2[N]) = false := by simpa using HX.out i hi
            clear HX
            generalize L1[i] = xi at *
            clear hi
            generalize L2[N] = z at *
            refine wp_region_quiet_below mixed (by kernel_rfl) ?_
            repeat (go_big_quiet_step (fail))
            refine wpQuiet_nil ?_
            intro _ hw'
            obtain ⟨pp, hw''⟩ := hw'
            subst hw''
            obtain ⟨w4, hb4⟩ := pp
            simp only
            have H4 := hid' (H3.out.trans (hb4.mono H3.out.size))
            clear y0 x0 hb4 hne
            go_wp2_with fail
            exact ⟨⟨N + 1, by omega, by rw [HCN.out], by rw [HOW.out], by go_num, H4⟩, by simp [intOf]; omega⟩
          · have hiz : ¬ (i : Int) < (L1.length : Int) := by omega
            have hizd : decide ((i : Int) < (L1.length : Int)) = false := decide_eq_false hiz
            clear hi
            generalize L2[N] = z at *
            refine wp_region_quiet_below mixed (by kernel_rfl) ?_
            repeat (go_big_quiet_step (fail))
            refine wpQuiet_nil ?_
            intro _ hw'
            obtain ⟨pp, hw''⟩ := hw'
            subst hw''
            obtain ⟨w4, hb4⟩ := pp
            simp only
            have H4 := hid' (H3.out.trans (hb4.mono H3.out.size))
            clear y0 hb4 hne
            go_wp2_with fail
            exact ⟨⟨N + 1, by omega, by rw [HCN.out], by rw [HOW.out], by go_num, H4⟩, by simp [intOf]; omega⟩
      · have hz : (0 : Int) < (N : Int) := by omega
        have hzd : decide ((0 : Int) < (N : Int)) = true := decide_eq_true hz
        have hznd : decide (0 < N) = true := decide_eq_true hN0
        have hne : Nonempty (BelowOf wr) := ⟨⟨wr, Below.refl _ wr⟩⟩
        have hk1 : ((N : Int) - 1) = ((N - 1 : Nat) : Int) := by omega
        have hk2 : ((N - 1 : Nat) : Int) < (L2.length : Int) := by omega
        have hlt1 : N - 1 < L2.length := by omega
        have hri := rising_at HR.out hN0 hlt
        have hnle : ¬ L2[N] ≤ L2[N - 1] := by omega
        have y0 : ∀ p : BelowOf wr, p.w.cell? ⟨b2, o2 + N, none⟩ = some (.int .i64 L2[N]) := fun p => by rw [(HW.out.trans (p.h.mono HW.out.size)).cell (p := ⟨b2, o2 + N, none⟩) hn2]; exact HC2.out N hlt
        have y1 : ∀ p : BelowOf wr, p.w.cell? ⟨b2, o2 + (N - 1), none⟩ = some (.int .i64 L2[N - 1]) := fun p => by rw [(HW.out.trans (p.h.mono HW.out.size)).cell (p := ⟨b2, o2 + (N - 1), none⟩) hn2]; exact HC2.out (N - 1) hlt1
        clear hri
        generalize hz0 : L2[N] = z0 at y0 hnle
        generalize hz1 : L2[N - 1] = z1 at y1 hnle
        clear hz0 hz1
        have hnd : decide (z0 ≤ z1) = false := decide_eq_false hnle
        go_wp2_with fail
        refine wp_region_quiet_below mixed (by kernel_rfl) ?_
        repeat (go_big_quiet_step (fail))
        refine wpQuiet_nil ?_
        intro _ hw'
        obtain ⟨pp, hw''⟩ := hw'
        subst hw''
        obtain ⟨w3, hb3⟩ := pp
        simp only
        have H3 := hid' (HW.out.trans (hb3.mono HW.out.size))
        clear hb3 hne HW hz hzd hznd hN0 hk1 hk2 hlt1 y0 y1
        go_wp2_with fail
        clear hnle hnd
        have hne : Nonempty (BelowOf w3) := ⟨⟨w3, Below.refl _ w3⟩⟩
        have y0 : ∀ p : BelowOf w3, p.w.cell? ⟨b2, o2 + N, none⟩ = some (.int .i64 L2[N]) := fun p => by rw [(H3.out.trans (p.h.mono H3.out.size)).cell (p := ⟨b2, o2 + N, none⟩) hn2]; exact HC2.out N hlt
        cases hg : g L2[N] with
        | true =>
          obtain ⟨hc0, hc1, hc2⟩ := cnt_yes hlt hg
          have how := own_yes (j : Int) hlt hg
          have HC0 : Hid (cnt L2 g N < L1.length) := by show cnt L2 g N < L1.length; rw [HL.out]; exact hc0
          have HX : Hid (∀ h : cnt L2 g N < L1.length, L1[cnt L2 g N] = L2[N]) := fun h => by
            have e : L1[cnt L2 g N] = (L2.filter g)[cnt L2 g N] := by simp [HL.out]
            rw [e]; exact hc1
          have HCN := hid' hc2
          have HOW := hid' how
          have hib : cnt L2 g N ≤ 25 := by have := HC0.out; omega
          clear hc0 hc1 hc2 how hg
          generalize hcn : cnt L2 g N = i at *
          generalize hoo : own L2 g (j : Int) N = ow at *
          clear hcn hoo
          have hiz : (i : Int) < (L1.length : Int) := by have := HC0.out; omega
          have hizd : decide ((i : Int) < (L1.length : Int)) = true := decide_eq_true hiz
          have x0 : ∀ p : BelowOf w3, p.w.cell? ⟨b1, o1 + i, none⟩ = some (.int .i64 L2[N]) := fun p => by rw [(H3.out.trans (p.h.mono H3.out.size)).cell (p := ⟨b1, o1 + i, none⟩) hn1, HC1.out i HC0.out, HX.out HC0.out]
          have hzz : (L2[N] == L2[N]) = true := by simp
          have X0 := hid' x0
          generalize L2[N] = z at *
          refine wp_region_quiet_below mixed (by kernel_rfl) ?_
          repeat (go_big_quiet_step (fail))
          refine wpQuiet_nil ?_
          intro _ hw'
          obtain ⟨pp, hw''⟩ := hw'
          subst hw''
          obtain ⟨w4, hb4⟩ := pp
          simp only
          have H4 := hid' (H3.out.trans (hb4.mono H3.out.size))
          have x1 : w4.cell? ⟨b1, o1 + i, none⟩ = some (.int .i64 z) := X0.out ⟨w4, hb4⟩
          clear y0 x0 X0 hb4 hne
          cases ow with
          | true =>
            have e : own L2 g (j : Int) (N + 1) = true := by rw [HOW.out]; rfl
            have HE := hid' e
            clear e
            go_wp2_with fail
            exact ⟨⟨N + 1, by omega, by rw [HCN.out]; go_num, by rw [HE.out], by go_num, H4⟩, by simp [intOf]; omega⟩
          | false =>
            have e : own L2 g (j : Int) (N + 1) = (z == (j : Int)) := by rw [HOW.out]; rfl
            have HE := hid' e
            clear e
            go_wp2_with fail
            exact ⟨⟨N + 1, by omega, by rw [HCN.out]; go_num, by rw [HE.out], by go_num, H4⟩, by simp [intOf]; omega⟩
        | false =>
          obtain ⟨hc2, hc1⟩ := cnt_no hlt hg
          have how := own_no (j : Int) hlt hg
          have HX : Hid (∀ (i : Nat) (hi : i < L1.length), L1[i] ≠ L2[N]) := fun i hi he => by
            have hi' : i < (L2.filter g).length := by rw [← HL.out]; exact hi
            have e : L1[i] = (L2.filter g)[i] := by simp [HL.out]
            exact hc1 i hi' (by rw [← e]; exact he)
          have HCN := hid' hc2
          have HOW := hid' how
          clear hc1 hc2 how hg
          generalize hcn : cnt L2 g N = i at *
          generalize hoo : own L2 g (j : Int) N = ow at *
          clear hcn hoo
          by_cases hi : i < L1.length
          · have hiz : (i : Int) < (L1.length : Int) := by omega
            have hizd : decide ((i : Int) < (L1.length : Int)) = true := decide_eq_true hiz
            have x0 : ∀ p : BelowOf w3, p.w.cell? ⟨b1, o1 + i, none⟩ = some (.int .i64 L1[i]) := fun p => by rw [(H3.out.trans (p.h.mono H3.out.size)).cell (p := ⟨b1, o1 + i, none⟩) hn1, HC1.out i hi]
            have hxz : (L1[i] == L2[N]) = false := by simpa using HX.out i hi
            clear HX
            generalize L1[i] = xi at *
            clear hi
            generalize L2[N] = z at *
            refine wp_region_quiet_below mixed (by kernel_rfl) ?_
            repeat (go_big_quiet_step (fail))
            refine wpQuiet_nil ?_
            intro _ hw'
            obtain ⟨pp, hw''⟩ := hw'
            subst hw''
            obtain ⟨w4, hb4⟩ := pp
            simp only
            have H4 := hid' (H3.out.trans (hb4.mono H3.out.size))
            clear y0 x0 hb4 hne
            go_wp2_with fail
            exact ⟨⟨N + 1, by omega, by rw [HCN.out], by rw [HOW.out], by go_num, H4⟩, by simp [intOf]; omega⟩
          · have hiz : ¬ (i : Int) < (L1.length : Int) := by omega
            have hizd : decide ((i : Int) < (L1.length : Int)) = false := decide_eq_false hiz
            clear hi
            generalize L2[N] = z at *
            refine wp_region_quiet_below mixed (by kernel_rfl) ?_
            repeat (go_big_quiet_step (fail))
            refine wpQuiet_nil ?_
            intro _ hw'
            obtain ⟨pp, hw''⟩ := hw'
            subst hw''
            obtain ⟨w4, hb4⟩ := pp
            simp only
            have H4 := hid' (H3.out.trans (hb4.mono H3.out.size))
            clear y0 hb4 hne
            go_wp2_with fail
            exact ⟨⟨N + 1, by omega, by rw [HCN.out], by rw [HOW.out], by go_num, H4⟩, by simp [intOf]; omega⟩
    · have hltz : ¬ (N : Int) < (L2.length : Int) := by omega
      have hNe : N = L2.length := by omega
      have hcl : cnt L2 g N = L1.length := by rw [hNe, cnt_all, ← HL.out]
      have hol : own L2 g (j : Int) N = true := by rw [hNe]; exact own_all (by rw [← HL.out]; exact HIN.out)
      generalize cnt L2 g N = i at *
      generalize own L2 g (j : Int) N = ow at *
      subst hcl hol
      clear hNe hlt
      go_wp2_with fail
      refine (told_any _).mono ?_
      rintro e w5 ⟨rfl, hb5⟩
      have H5 := hid' (HW.out.trans (hb5.mono HW.out.size))
      obtain ⟨v0, v1, v2, v3, v4⟩ := (HX3.out.next H5.out).five
      clear hb5 HW
      go_wp2_with fail
      have hnz := near_any _ _ _ _ _ _ _ _ _ V 0 0 0 w5 (HV3.out.next H5.out)
      rw [nearL_zero] at hnz
      refine hnz.mono ?_
      rintro e w6 ⟨v, rfl, hiv, hb6⟩
      have H6 := hid' (H5.out.trans (hb6.mono H5.out.size))
      have hsm := same_any [] [] v (.slice none 0 0) w6 hiv.sl (.inl ⟨⟨_, _, rfl⟩, rfl⟩)
      obtain ⟨va, vc, rfl⟩ := row_slice hiv
      clear hnz hiv hb6 v0 v1 v2 v3 v4 H5
      go_wp2_with fail
      refine hsm.mono ?_
      rintro e w7 ⟨rfl, hb7⟩
      have HF := hid' (HB3.out.trans ((H6.out.trans (hb7.mono H6.out.size)).mono HB3.out.size))
      clear hsm hb7 H6
      go_wp2
      go_ret
      exact ⟨rfl, HF.out⟩
theorem near_law (a : Option Addr) (len cap : Nat) (l : List Int) {W : World} (h : IntsAt W a len cap l) (k r s : Int) (w : World) (hw : W = w := by rfl) :
    Calls Try.prog 6 #[.slice a len cap, .int .i64 k, .int .i64 r, .int .i64 s] w fun e w' => e = .returned (.bool true) ∧ Below w.heap.size w w' := by
  subst hw
  obtain ⟨kp, h1, h2⟩ := mod_u64 r 100 (by omega)
  obtain ⟨kq, h3, h4⟩ := mod_u64 s 100 (by omega)
  rcases Nat.lt_or_ge kq kp with h' | h'
  · exact near_walk_sw a len cap l W h k r s kp kq (by omega) (by omega) h2 h4 h'
  · exact near_walk_ns a len cap l W h k r s kp kq (by omega) (by omega) h2 h4 h'
end Go.Proofs.Ytgpkdjhllekihaa.Geo
