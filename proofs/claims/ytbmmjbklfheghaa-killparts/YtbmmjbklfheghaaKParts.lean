/- KillParts answers true: its walk. -/
import Derived.Test.YtbmmjbklfheghaaKPartsR
import Derived.Test.YtbmmjbklfheghaaCSame
namespace Go.Proofs.Ytbmmjbklfheghaa.Kll
set_option linter.unusedVariables false
set_option maxRecDepth 100000
open Go.RowKit Go.Shelf
open Go.Proofs.Ytbmmjbklfheghaa.Ven (Seat Pole Ven VenAt venV Box mayB mixed Sl below_alloc IntsAt make_own mod_u64 intC row_slice row_next poleB BelowOf wp_region_quiet_below)
open Go.Proofs.Ytbmmjbklfheghaa.Geo (thoseN thoseN_le)
open Go.Proofs.Ytbmmjbklfheghaa.Com (hid' MarksAt MarksV same_any)

/-- The venue of the first loop: 'k' poles more at most. -/
def PartsI (w0 : World) (B : Nat) (V : Ven) (az : Option Addr) (cs : Nat) (ak : Option Addr) (ck : Nat) (i : Nat) (W : World) : Prop :=
  ∃ (k : Nat) (ps : List Pole) (ap : Option Addr) (cp : Nat), i = 3 * k ∧ k ≤ 5 ∧ ps.length ≤ 30 + k ∧ (∀ p ∈ ps, poleB p = true) ∧ PRest w0 B V az cs ak ck (.slice ap ps.length cp) W ∧ Poles w0.heap.size W (.slice ap ps.length cp) ps
set_option maxHeartbeats 16000000 in
theorem parts_law (a : Option Addr) (len cap : Nat) (l : List Int) {w0 : World} (h : IntsAt w0 a len cap l) (a2 : Option Addr) (len2 cap2 : Nat) (l2 : List Int) (h2 : IntsAt w0 a2 len2 cap2 l2) (w : World) (hw : w0 = w := by rfl) :
    Calls Try.prog 6 #[.slice a len cap, .slice a2 len2 cap2] w fun e w' => e = .returned (.bool true) ∧ Below w.heap.size w w' := by
  subst hw
  have hmake := make_own a len cap l 30 (by omega) (by omega) w0 h
  have HI2 := hid' h2
  clear h h2
  go_enter Try.func6, Try.ntmps6
  go_wp2_with fail
  refine hmake.mono ?_
  rintro e w1 ⟨V, az, cs, ak, ck, ap0, cp0, row, xx, rfl, hven, hok, hle, hb1, hso, hpo, hko⟩
  have hl1 := hok.len
  have hpn := hok.pn
  have HM0 := hid' (hok.may (by omega))
  have HPB0 := hid' hok.po
  have hb2 := below_alloc w1 (.cells #[.slice az V.seats.length cs, .int .i64 V.gap, .int .i64 V.radius, .slice ak V.kills.length ck, .slice ap0 V.poles.length cp0] 26)
  have hx := Box.fresh w1 26 #[.slice az V.seats.length cs, .int .i64 V.gap, .int .i64 V.radius, .slice ak V.kills.length ck, .slice ap0 V.poles.length cp0]
  have HST : Hid (PartsI w0 w1.heap.size V az cs ak ck 0 (w1.alloc (.cells #[.slice az V.seats.length cs, .int .i64 V.gap, .int .i64 V.radius, .slice ak V.kills.length ck, .slice ap0 V.poles.length cp0] 26))) :=
    ⟨0, V.poles, ap0, cp0, rfl, by omega, by omega, HPB0.out, ⟨hb1.trans (hb2.mono hb1.size), hb1.size, hx, row_next hso hb2, row_next hko hb2⟩, row_next hpo hb2⟩
  clear hmake hok hven hb1 hb2 hx hso hpo hko HPB0
  go_wp2_with fail
  generalize w1.alloc (.cells #[.slice az V.seats.length cs, .int .i64 V.gap, .int .i64 V.radius, .slice ak V.kills.length ck, .slice ap0 V.poles.length cp0] 26) = w2 at *
  generalize w1.heap.size = B at *
  go_loopw [6] (fun i wr => ∃ j : Nat, i = .int .i64 j ∧ Hid (PartsI w0 B V az cs ak ck j wr)) (fun i _ => 15 - (intOf i).toNat)
  case atStart => exact ⟨0, rfl, HST⟩
  case round =>
    clear HST
    obtain ⟨i, rfl, HJ⟩ := hrel
    obtain ⟨k, ps, ap, cp, hik, hk, hpl, hpb, hr, hp⟩ := HJ.out
    have HPB := hid' hpb
    have HR := hid' hr
    have HP := hid' hp
    have hi15 : i ≤ 15 := by omega
    have HIK := hid' hik
    have zi2 : IntKind.i64.wrap ((i : Int) + 2) = (i : Int) + 2 := by rw [IntKind.wrap_i64]; omega
    obtain ⟨d, hd⟩ : ∃ d, d = decide (i + 2 < len2 ∧ i < 15) := ⟨_, rfl⟩
    have HD := hid' hd
    clear HJ hpb hr hp hd hik
    go_upto_region 3 with fail
    go_cut [23] from 15 to 55 (fun s wx => s = .bool d ∧ wr = wx)
    case first =>
      by_cases q1 : i + 2 < len2
      · have q1z : (i : Int) + 2 < (len2 : Int) := by omega
        by_cases q2 : i < 15
        · have q2z : (i : Int) < 15 := by omega
          have : d = true := by rw [HD.out]; exact decide_eq_true ⟨q1, q2⟩
          subst this
          clear q1 q2 HD
          go_wp2_with fail
          go_meet
          exact ⟨rfl, rfl⟩
        · have q2z : ¬ (i : Int) < 15 := by omega
          have : d = false := by rw [HD.out]; exact decide_eq_false (fun h => q2 h.2)
          subst this
          clear q1 q2 HD
          go_wp2_with fail
          go_meet
          exact ⟨rfl, rfl⟩
      · have q1z : ¬ (i : Int) + 2 < (len2 : Int) := by omega
        have : d = false := by rw [HD.out]; exact decide_eq_false (fun h => q1 h.1)
        subst this
        clear q1 HD
        go_wp2_with fail
        go_meet
        exact ⟨rfl, rfl⟩
    case rest =>
    obtain ⟨rfl, rfl⟩ := hcut
    clear zi2
    cases d with
    | true =>
      have hd := of_decide_eq_true HD.out.symm
      obtain ⟨hd1, hd2⟩ := hd
      clear HD
      obtain ⟨hll, hmm, h0 | ⟨mb, mo, rfl, hC2⟩⟩ := HI2.out
      · omega
      have hk4 : k + 1 ≤ 5 := by have := HIK.out; omega
      have hc : ∀ j (hj : j < l2.length), w0.cell? ⟨mb, mo + j, none⟩ = some (.int .i64 l2[j]) := fun j hj => by simpa using hC2.2 j hj 0 _ rfl
      obtain ⟨q0, hq0, eq0⟩ := mod_u64 (l2[i]'(by omega)) 200 (by omega)
      obtain ⟨q1, hq1, eq1⟩ := mod_u64 (l2[i + 1]'(by omega)) 60 (by omega)
      obtain ⟨q2, hq2, eq2⟩ := mod_u64 (l2[i + 2]'(by omega)) 40 (by omega)
      have c0 := hc i (by omega)
      have c1 := hc (i + 1) (by omega)
      have c2 := hc (i + 2) (by omega)
      have hi1 : IntKind.i64.wrap ((i : Int) + 1) = ((i + 1 : Nat) : Int) := by rw [IntKind.wrap_i64] <;> omega
      have hi2 : IntKind.i64.wrap ((i : Int) + 2) = ((i + 2 : Nat) : Int) := by rw [IntKind.wrap_i64] <;> omega
      go_wp2_with fail
      refine part_region _ wr rfl w0 V B mb mo i (i + 1) (i + 2) len2 cap2 q0 q1 q2 az ak ap cs ck cp _ _ _ ps (by omega) hi1 hi2 (by omega) (by omega) (by omega) hq0 hq1 hq2 eq0 eq1 eq2 hC2.1 c0 c1 c2 HR.out HP.out rfl rfl rfl ?_
      intro w4 g53 pv hr4 hp4
      obtain ⟨pa, pc, rfl⟩ := row_slice hp4
      have HJ2 : Hid (PartsI w0 B V az cs ak ck (i + 3) (w4.setCell ⟨B, 4, none⟩ (.slice pa (ps ++ [(⟨q0, q1, 1 + (q2 : Int)⟩ : Pole)]).length pc))) := by
        refine ⟨k + 1, ps ++ [⟨q0, q1, 1 + (q2 : Int)⟩], pa, pc, by have := HIK.out; omega, hk4, by simp; omega, fun p hp => ?_, hr4.stored _, hr4.poles hp4 _⟩
        rcases List.mem_append.1 hp with h | h
        · exact HPB.out p h
        · obtain rfl := List.mem_singleton.1 h
          exact small_pole (by omega) (by omega) (by omega)
      clear hr4 hp4 HR HP hc c0 c1 c2 eq0 eq1 eq2
      generalize (ps ++ [(⟨q0, q1, 1 + (q2 : Int)⟩ : Pole)]).length = np at *
      simp only [Ven.putAll, List.setIfInBounds_toArray, List.set_cons_succ, List.set_cons_zero]
      go_wp2_with fail
      exact ⟨⟨i + 3, by go_num, HJ2⟩, by simp [intOf]; omega⟩
    | false =>
      clear HD HIK HI2
      have HM := hid' (with_may HM0.out (by omega) HPB.out)
      have HVA := hid' (HR.out.ven HP.out)
      have HX := hid' HR.out.box
      have HB0 := hid' HR.out.below
      have HKR := hid' (may_kills HM.out)
      have HG : Hid ((withV V ps).gap = V.gap ∧ (withV V ps).radius = V.radius ∧ (withV V ps).seats.length = V.seats.length ∧ (withV V ps).poles.length = ps.length) := ⟨rfl, rfl, rfl, rfl⟩
      have hps : ps.length ≤ 35 := by omega
      clear HR HP HPB hpl hk HM0
      generalize withV V ps = V2 at *
      generalize wr = wz at *
      go_wp2_with fail
      refine uk_region _ wz rfl B az ak ap V.seats.length cs V.kills.length ck ps.length cp V.gap V.radius (usableL V2) (killedL V2) HX.out rfl ?_ ?_ ?_
      · intro w hw
        have hu := usable_any _ _ _ _ _ _ _ _ _ V2 w (HVA.out.next hw)
        rw [HG.out.1, HG.out.2.1] at hu
        refine hu.mono ?_
        rintro e w' ⟨a, n, c, rfl, h1, h2⟩
        exact ⟨_, rfl, ⟨a, n, c, rfl, h1⟩, h2⟩
      · intro w hw
        have hu := killed_any _ _ _ _ _ _ _ _ _ V2 w (HVA.out.next hw)
        rw [HG.out.1, HG.out.2.1] at hu
        exact hu
      intro w6 r1 r3 u1 u2 hb6 hu1 hu2
      obtain ⟨ua, un, uc, rfl, hm1⟩ := hu1
      obtain ⟨ka, kc, rfl, _⟩ := Com.Sl.form hu2
      have hxl := hm1.len
      rw [usable_len HM.out, HG.out.2.2.1] at hxl
      subst hxl
      have HM1 := hid' hm1
      have HK1 := hid' hu2
      have HB6 := hid' (HB0.out.trans (hb6.mono HB0.out.size))
      have HX6 := hid' (HX.out.next hb6)
      have HV6 := hid' (HVA.out.next hb6)
      have HKE : Hid (killedL V2 = thoseN V.seats.length (deadN V2)) := by show _ = _; rw [killed_eq HM.out, HG.out.2.2.1]
      clear hm1 hu2 hb6 HB0 HX HVA
      obtain ⟨v0, v1, v2, v3, v4⟩ := HX6.out.five
      have hnn : ((V.seats.length : Int) != (V.seats.length : Int)) = false := by simp
      simp only [Ven.putAll, List.setIfInBounds_toArray, List.set_cons_succ, List.set_cons_zero]
      go_wp2_with fail
      clear v0 v1 v2 v3 v4 hnn
      have HC0 : Hid ((thoseN 0 (deadN V2)).length = 0) := rfl
      go_loopw [9, 10, 11, 12] (fun n i _ _ wr => ∃ t c : Nat, t ≤ V.seats.length ∧ i = .int .i64 t ∧ n = .int .i64 c ∧ Hid (c = (thoseN t (deadN V2)).length) ∧ Hid (Below w6.heap.size w6 wr)) (fun _ i _ _ _ => V.seats.length - (intOf i).toNat)
      case atStart => exact ⟨0, 0, Nat.zero_le _, rfl, rfl, HC0, Below.refl _ _⟩
      case round =>
        clear HC0
        obtain ⟨t, c, ht, rfl, rfl, HC, HB⟩ := hrel
        have HBY := hid' (HB6.out.trans (HB.out.mono HB6.out.size))
        by_cases hlt : t < V.seats.length
        · have hltz : (t : Int) < (V.seats.length : Int) := by omega
          have hk1 : t < (usableL V2).length := by rw [usable_len HM.out, HG.out.2.2.1]; exact hlt
          obtain ⟨ub, uo, rfl, hx1, hx2⟩ := (HM1.out.next HB.out).at t hk1
          rw [usable_get hk1] at hx2
          have hct : c ≤ 30 := by have h1 := HC.out; have := thoseN_le t (deadN V2); omega
          have HCN := hid' (thoseN_count (deadN V2) t)
          go_upto_if 76 with fail
          go_cut [9] from 66 to 130 (fun s wx => ∃ c2 : Nat, s = .int .i64 c2 ∧ Hid (c2 = (thoseN (t + 1) (deadN V2)).length) ∧ wr = wx)
          case first =>
            cases hd : deadN V2 t with
            | true =>
              rw [hd] at hx2
              obtain ⟨hcl, hce⟩ := thoseN_here (deadN V2) hlt hd
              have HCN2 : Hid (c + 1 = (thoseN (t + 1) (deadN V2)).length) := by
                have h1 := HCN.out
                rw [hd, if_pos rfl] at h1
                show c + 1 = _
                have := HC.out; omega
              have HCE : Hid (∃ hcl : c < (killedL V2).length, (killedL V2)[c] = (t : Int)) := by
                have hcc := HC.out
                subst hcc
                rw [HKE.out] at *
                exact ⟨hcl, hce⟩
              obtain ⟨hcl2, hce2⟩ := HCE.out
              obtain ⟨kb, ko, kc', hke, hk2, hk3⟩ := Com.Sl.num (HK1.out.next HB.out) (by omega)
              injection hke with hke _ hkc
              subst hke hkc
              have m0 := hk3 c hcl2
              rw [hce2] at m0
              have hclz : (c : Int) < ((killedL V2).length : Int) := by omega
              have hclz2 : ¬ ((killedL V2).length : Int) ≤ (c : Int) := by omega
              have htt : ((t : Int) != (t : Int)) = false := by simp
              clear HCN HC hd hcl hce HCE hk3 hce2
              go_wp2_with fail
              go_meet
              exact ⟨c + 1, by go_num, HCN2, rfl⟩
            | false =>
              rw [hd] at hx2
              have HCN2 : Hid (c = (thoseN (t + 1) (deadN V2)).length) := by
                have h1 := HCN.out
                rw [hd, if_neg (by decide)] at h1
                show c = _
                have := HC.out; omega
              clear HCN HC hd
              go_wp2_with fail
              go_meet
              exact ⟨c, rfl, HCN2, rfl⟩
          case rest =>
          obtain ⟨c2, rfl, HC2, rfl⟩ := hcut
          clear HCN HC hx1 hx2
          obtain ⟨v0, v1, v2, v3, v4⟩ := (HX6.out.next HB.out).five
          have hby := by_any _ _ _ _ _ _ _ _ _ V2 t wr (HV6.out.next HB.out)
          rw [HG.out.1, HG.out.2.1, byB_nat HM.out (by rw [HG.out.2.2.1]; exact hlt)] at hby
          go_wp2_with fail
          refine hby.mono ?_
          rintro e w7 ⟨bv, rfl, hbs, hb7⟩
          obtain ⟨hrise, hrng⟩ := byN_rise HKR.out t
          rw [HG.out.2.2.2] at hrng
          obtain ⟨ba, bc, rfl, _⟩ := Com.Sl.form hbs
          have HB7 := hid' (HB.out.trans (hb7.mono HB.out.size))
          have HBS := hid' hbs
          have HRI := hid' hrise
          have HRG := hid' hrng
          have hbl500 : (byN V2 t).length ≤ 500 := by
            unfold byN
            have h1 := killN_once V2.kills t HKR.out
            have h2 := thoseN_le V2.poles.length (poleN V2 t)
            have h3 := HG.out.2.2.2
            rw [List.length_append]
            rcases h1 with h1 | h1 <;> rw [h1] <;> simp <;> omega
          clear hby hbs hb7 hrise hrng v0 v1 v2 v3 v4 HB HBY
          generalize byN V2 t = BL at *
          generalize wr = wq at *
          go_wp2_with fail
          go_loopw [12] (fun j wr => ∃ q : Nat, 1 ≤ q ∧ q ≤ BL.length + 1 ∧ j = .int .i64 q ∧ Hid (Below w7.heap.size w7 wr)) (fun j _ => BL.length + 1 - (intOf j).toNat)
          case atStart => exact ⟨1, by omega, by omega, rfl, Below.refl _ _⟩
          case round =>
            obtain ⟨q, hq1, hq2, rfl, HQ⟩ := hrel
            by_cases hlq : q < BL.length
            · have hlqz : (q : Int) < (BL.length : Int) := by omega
              obtain ⟨bb, bo, bcap, hbe, hbl, hbc⟩ := Com.Sl.num (HBS.out.next HQ.out) (by omega)
              injection hbe with hbe _ hbcap
              subst hbe hbcap
              have hw1 : IntKind.i64.wrap ((q : Int) - 1) = ((q - 1 : Nat) : Int) := by rw [IntKind.wrap_i64] <;> omega
              have hz0 : ((q - 1 : Nat) : Int) < (BL.length : Int) := by omega
              have hor := List.pairwise_iff_getElem.1 HRI.out (q - 1) q (by omega) hlq (by omega)
              have c0 := hbc q hlq
              have c1 := hbc (q - 1) (by omega)
              generalize BL[q] = y at hor c0
              generalize BL[q - 1] = z at hor c1
              have hdz : decide (y ≤ z) = false := decide_eq_false (by omega)
              have hne : Nonempty (BelowOf wr) := ⟨⟨wr, Below.refl _ wr⟩⟩
              have k0 := fun p : BelowOf wr => (p.h.cell (p := ⟨bb, bo + q, none⟩) hbl).trans c0
              have k1 := fun p : BelowOf wr => (p.h.cell (p := ⟨bb, bo + (q - 1), none⟩) hbl).trans c1
              clear hbc c0 c1
              go_wp2_with fail
              refine wp_region_quiet_below mixed (by kernel_rfl) ?_
              repeat (go_big_quiet_step (fail))
              refine wpQuiet_nil ?_
              intro _ hw'
              obtain ⟨p, hw''⟩ := hw'
              subst hw''
              have HQ2 := hid' (HQ.out.trans (p.h.mono HQ.out.size))
              clear k0 k1 hne HQ hbl
              generalize p.w = wp at *
              clear p
              go_wp2_with fail
              exact ⟨⟨q + 1, by omega, by omega, by go_num, HQ2⟩, by simp [intOf]; omega⟩
            · have hlqz : ¬ (q : Int) < (BL.length : Int) := by omega
              have HB8 := hid' (HB7.out.trans (HQ.out.mono HB7.out.size))
              have HX8 := hid' (HX6.out.next HB8.out)
              rcases Nat.eq_zero_or_pos BL.length with h0 | h0
              · obtain rfl : BL = [] := List.eq_nil_of_length_eq_zero h0
                clear h0
                go_wp2_with fail
                refine last_region0 _ wr rfl B az ak ap ba V.seats.length cs V.kills.length ck ps.length cp bc V.gap V.radius HX8.out rfl rfl ?_
                intro w9 hb9
                have HB9 := hid' (HB8.out.trans (hb9.mono HB8.out.size))
                clear hb9
                simp only [Ven.putAll, List.setIfInBounds_toArray, List.set_cons_succ, List.set_cons_zero]
                go_wp2_with fail
                exact ⟨⟨t + 1, c2, by omega, by go_num, rfl, HC2, HB9⟩, by simp [intOf]; omega⟩
              · obtain ⟨bb, bo, bcap, hbe, hbl, hbc⟩ := Com.Sl.num (HBS.out.next HQ.out) h0
                injection hbe with hbe _ hbcap
                subst hbe hbcap
                have c0 : wr.cell? ⟨bb, bo, none⟩ = some (.int .i64 BL[0]) := by simpa using hbc 0 h0
                have c1 := hbc (BL.length - 1) (by omega)
                have g0 := HRG.out BL[0] (List.getElem_mem h0)
                have g1 := HRG.out (BL[BL.length - 1]'(by omega)) (List.getElem_mem _)
                have hm1 : IntKind.i64.wrap ((BL.length : Int) - 1) = ((BL.length - 1 : Nat) : Int) := by rw [IntKind.wrap_i64] <;> omega
                go_wp2_with fail
                refine last_region _ wr rfl B bb bo BL.length (BL.length - 1) az ak ap V.seats.length cs V.kills.length ck ps.length cp bc V.gap V.radius _ _ HX8.out h0 hm1 (by omega) hbl c0 c1 (decide_eq_false (by omega)) (decide_eq_false (by omega)) rfl rfl ?_
                intro w9 hb9
                have HB9 := hid' (HB8.out.trans (hb9.mono HB8.out.size))
                clear hb9 c0 c1 g0 g1 hm1 hbc
                simp only [Ven.putAll, List.setIfInBounds_toArray, List.set_cons_succ, List.set_cons_zero]
                go_wp2_with fail
                exact ⟨⟨t + 1, c2, by omega, by go_num, rfl, HC2, HB9⟩, by simp [intOf]; omega⟩
        · have hltz : ¬ (t : Int) < (V.seats.length : Int) := by omega
          have HCE : Hid (c = (killedL V2).length) := by
            have h1 := HC.out
            have e : t = V.seats.length := by omega
            show c = _
            rw [HKE.out, ← e]; exact h1
          clear HC
          obtain rfl := HCE.out
          have hcc : (((killedL V2).length : Int) == ((killedL V2).length : Int)) = true := by simp
          go_wp2_with fail
          refine (told_any _).mono ?_
          rintro e w8 ⟨rfl, hb8⟩
          have HB8 := hid' (HB.out.trans (hb8.mono HB.out.size))
          clear hb8
          obtain ⟨v0, v1, v2, v3, v4⟩ := (HX6.out.next HB8.out).five
          have hkl := killed_any _ _ _ _ _ _ _ _ _ V2 w8 (HV6.out.next HB8.out)
          rw [HG.out.1, HG.out.2.1] at hkl
          go_wp2_with fail
          refine hkl.mono ?_
          rintro e w9 ⟨kv, rfl, hkv, hb9⟩
          have hs := same_any _ _ _ _ w9 (HK1.out.next (HB8.out.trans (hb9.mono HB8.out.size))) hkv
          rw [decide_eq_true rfl] at hs
          have HB9 := hid' (HB8.out.trans (hb9.mono HB8.out.size))
          obtain ⟨kva, kvc, rfl, _⟩ := Com.Sl.form hkv
          clear hkl hkv hb9 v0 v1 v2 v3 v4
          go_wp2_with fail
          refine hs.mono ?_
          rintro e w10 ⟨rfl, hb10⟩
          have HF := hid' (HB6.out.trans ((HB9.out.trans (hb10.mono HB9.out.size)).mono HB6.out.size))
          clear hs hb10
          go_wp2
          go_ret
          exact ⟨rfl, HF.out⟩
end Go.Proofs.Ytbmmjbklfheghaa.Kll
