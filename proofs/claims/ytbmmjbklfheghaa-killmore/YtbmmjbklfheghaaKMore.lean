/- KillMore answers true: its walk. -/
import Derived.Test.YtbmmjbklfheghaaKMoreR
import Derived.Test.YtbmmjbklfheghaaKMoreP
namespace Go.Proofs.Ytbmmjbklfheghaa.Kll
set_option linter.unusedVariables false
set_option maxRecDepth 100000
open Go.RowKit Go.Shelf
open Go.Proofs.Ytbmmjbklfheghaa.Ven (Seat Pole Ven VenAt venV Box mayB mixed Sl SeatAt below_alloc IntsAt make_own mod_u64 intC row_slice row_setCell)
open Go.Proofs.Ytbmmjbklfheghaa.Com (hid' MarksAt MarksV)

set_option maxHeartbeats 16000000 in
theorem more_law (a : Option Addr) (len cap : Nat) (l : List Int) {w0 : World} (h : IntsAt w0 a len cap l) (kk rr : Int) (w : World) (hw : w0 = w := by rfl) :
    Calls Try.prog 5 #[.slice a len cap, .int .i64 kk, .int .i64 rr] w fun e w' => e = .returned (.bool true) ∧ Below w.heap.size w w' := by
  subst hw
  have hmake := make_own a len cap l 30 (by omega) (by omega) w0 h
  clear h
  go_enter Try.func5, Try.ntmps5
  go_wp2_with fail
  refine hmake.mono ?_
  rintro e w1 ⟨V, az, cs, ak, ck, ap, cp, row, xx, rfl, hven, hok, hle, hb1, _, hpo, _⟩
  have hl1 := hok.len
  have hpn := hok.pn
  have HM := hid' (hok.may (by omega))
  have HWK := hid' (may_wellK HM.out)
  obtain ⟨j, hj, ej⟩ := mod_u64 kk V.seats.length (by omega)
  obtain ⟨q, hq, eq30⟩ := mod_u64 rr 30 (by omega)
  have hjn : j < V.seats.length := by omega
  obtain ⟨sb, so, rfl, hC⟩ := Ven.cells_of_pos hven.s hjn
  have hb2 := below_alloc w1 (.cells #[.slice (some ⟨sb, so, none⟩) V.seats.length cs, .int .i64 V.gap, .int .i64 V.radius, .slice ak V.kills.length ck, .slice ap V.poles.length cp] 26)
  have hx := Box.fresh w1 26 #[.slice (some ⟨sb, so, none⟩) V.seats.length cs, .int .i64 V.gap, .int .i64 V.radius, .slice ak V.kills.length ck, .slice ap V.poles.length cp]
  have HB2 := hid' (hb1.trans (hb2.mono hb1.size))
  have HV := hid' (hven.next hb2)
  have HS := hid' ((hC.next hb2).seat j hjn)
  have HP : Hid (Poles w0.heap.size (w1.alloc (.cells #[.slice (some ⟨sb, so, none⟩) V.seats.length cs, .int .i64 V.gap, .int .i64 V.radius, .slice ak V.kills.length ck, .slice ap V.poles.length cp] 26)) (.slice ap V.poles.length cp) V.poles) := Ven.row_next hpo hb2
  have HX := hid' hx
  have HDB : Hid ((w1.alloc (.cells #[.slice (some ⟨sb, so, none⟩) V.seats.length cs, .int .i64 V.gap, .int .i64 V.radius, .slice ak V.kills.length ck, .slice ap V.poles.length cp] 26)).heap.size = w1.heap.size + 1) := by show _ = _; simp
  obtain ⟨v0, v1, v2, v3, v4⟩ := hx.five
  clear hmake hok hven hb1 hb2 hx hC hpo
  have z1 : ¬ (V.seats.length : Int) = 0 := by omega
  have z2 : IntKind.u64.wrap (V.seats.length : Int) = V.seats.length := by
    unfold IntKind.wrap
    simp [IntKind.signed, IntKind.bits]
    omega
  have z3 : IntKind.i64.wrap (j : Int) = j := by rw [IntKind.wrap_i64]; omega
  go_wp2_with fail
  clear v0 v1 v2 v3 v4 z1 z2 z3
  generalize w1.alloc (.cells #[.slice (some ⟨sb, so, none⟩) V.seats.length cs, .int .i64 V.gap, .int .i64 V.radius, .slice ak V.kills.length ck, .slice ap V.poles.length cp] 26) = w2 at *
  generalize w1.heap.size = B at *
  have hb3 := below_alloc w2 (.cells #[.slice (some ⟨sb, so, none⟩) V.seats.length cs, .int .i64 V.gap, .int .i64 V.radius, .slice ak V.kills.length ck, .slice ap V.poles.length cp] 26)
  have hy := Box.fresh w2 26 #[.slice (some ⟨sb, so, none⟩) V.seats.length cs, .int .i64 V.gap, .int .i64 V.radius, .slice ak V.kills.length ck, .slice ap V.poles.length cp]
  rw [HDB.out] at hy
  have HX3 := hid' (HX.out.next hb3)
  have HS3 := hid' (HS.out.next hb3)
  have HP3 := hid' (HP.out.next hb3)
  have HB3 := hid' hb3
  have HY3 := hid' hy
  clear hb3 hy HS HP
  generalize w2.alloc (.cells #[.slice (some ⟨sb, so, none⟩) V.seats.length cs, .int .i64 V.gap, .int .i64 V.radius, .slice ak V.kills.length ck, .slice ap V.poles.length cp] 26) = w3 at *
  have HAT := hid' (more_at hjn (r := 1 + (q : Int)) (by omega))
  have HMM : Hid (mayB (moreV V ⟨V.seats[j].x, V.seats[j].y, 1 + (q : Int)⟩) = true) := more_may HM.out (HWK.out.stand j hjn) (by show 1 ≤ 1 + (q : Int); omega) (by show 1 + (q : Int) ≤ 1048576; omega) (by omega)
  have HDD : Hid (∀ k, deadN V k = true → deadN (moreV V ⟨V.seats[j].x, V.seats[j].y, 1 + (q : Int)⟩) k = true) := fun k h => more_dead h
  refine more_region _ w3 rfl B (B + 1) sb so j q w0.heap.size ak ap V.seats.length cs V.kills.length ck cp V.gap V.radius rr V.seats[j].row V.seats[j].x V.seats[j].y V.seats[j].kind V.poles (by omega) hq eq30 (by omega) HX3.out HY3.out HS3.out HP3.out rfl rfl rfl rfl ?_
  intro w4 g24 g27 g46 pv hb4 hp4
  have hy4 := HY3.out.next hb4
  have HLO : Hid (Below w2.heap.size w2 (w4.setCell ⟨B + 1, 4, none⟩ pv)) := Below.setCell (HB3.out.trans (hb4.mono HB3.out.size)) (show w2.heap.size ≤ (⟨B + 1, 4, none⟩ : Addr).block from Nat.le_of_eq HDB.out) pv
  have HP5 : Hid (Poles w3.heap.size (w4.setCell ⟨B + 1, 4, none⟩ pv) pv (V.poles ++ [⟨V.seats[j].x, V.seats[j].y, 1 + (q : Int)⟩])) := row_setCell hp4 hy4 (by decide) 4 pv
  obtain ⟨pa, pc, rfl⟩ := row_slice hp4
  have HY5 : Hid (Box (w4.setCell ⟨B + 1, 4, none⟩ (.slice pa (V.poles ++ [(⟨V.seats[j].x, V.seats[j].y, 1 + (q : Int)⟩ : Pole)]).length pc)) (B + 1) 26 #[.slice (some ⟨sb, so, none⟩) V.seats.length cs, .int .i64 V.gap, .int .i64 V.radius, .slice ak V.kills.length ck, .slice pa (V.poles ++ [(⟨V.seats[j].x, V.seats[j].y, 1 + (q : Int)⟩ : Pole)]).length pc]) := hy4.set 4 _
  have HX5 := hid' (HX.out.next HLO.out)
  have HV5 := hid' (HV.out.next HLO.out)
  have HV6 : Hid (VenAt (w4.setCell ⟨B + 1, 4, none⟩ (.slice pa (V.poles ++ [(⟨V.seats[j].x, V.seats[j].y, 1 + (q : Int)⟩ : Pole)]).length pc)) (some ⟨sb, so, none⟩) V.seats.length cs ak V.kills.length ck pa (V.poles ++ [(⟨V.seats[j].x, V.seats[j].y, 1 + (q : Int)⟩ : Pole)]).length pc (moreV V ⟨V.seats[j].x, V.seats[j].y, 1 + (q : Int)⟩)) := ⟨HV5.out.s, HV5.out.k, HP5.out.sl⟩
  have HB5 := hid' (HB2.out.trans (HLO.out.mono HB2.out.size))
  clear hb4 hp4 hy4 HP5 HX3 HS3 HP3 HB3 HY3 HX HV HB2 HLO
  generalize w4.setCell ⟨B + 1, 4, none⟩ (.slice pa (V.poles ++ [(⟨V.seats[j].x, V.seats[j].y, 1 + (q : Int)⟩ : Pole)]).length pc) = w5 at *
  generalize hlm : (V.poles ++ [(⟨V.seats[j].x, V.seats[j].y, 1 + (q : Int)⟩ : Pole)]).length = pn at *
  generalize hMV : moreV V ⟨V.seats[j].x, V.seats[j].y, 1 + (q : Int)⟩ = V2 at *
  have HG2 : Hid (V2.gap = V.gap ∧ V2.radius = V.radius ∧ V2.seats.length = V.seats.length) := by rw [← hMV]; exact ⟨rfl, rfl, rfl⟩
  clear hlm hMV
  simp only [Ven.putAll, List.setIfInBounds_toArray, List.set_cons_succ, List.set_cons_zero]
  go_wp2_with fail
  refine two_region _ w5 rfl B (B + 1) (some ⟨sb, so, none⟩) ak ap pa V.seats.length cs V.kills.length ck V.poles.length cp pn pc V.gap V.radius (usableL V) (usableL V2) HX5.out HY5.out rfl rfl ?_ ?_ ?_
  · intro w hw
    refine (usable_any _ _ _ _ _ _ _ _ _ V w (HV5.out.next hw)).mono ?_
    rintro e w' ⟨a, n, c, rfl, h1, h2⟩
    exact ⟨_, rfl, ⟨a, n, c, rfl, h1⟩, h2⟩
  · intro w hw
    have hu := usable_any _ _ _ _ _ _ _ _ _ V2 w (HV6.out.next hw)
    rw [HG2.out.1, HG2.out.2.1] at hu
    refine hu.mono ?_
    rintro e w' ⟨a, n, c, rfl, h1, h2⟩
    exact ⟨_, rfl, ⟨a, n, c, rfl, h1⟩, h2⟩
  intro w6 r1 r3 u1 u2 hb6 hu1 hu2
  obtain ⟨xa, xn, xc, rfl, hm1⟩ := hu1
  obtain ⟨ya, yn, yc, rfl, hm2⟩ := hu2
  have hxl := hm1.len
  have hyl := hm2.len
  rw [usable_len HM.out] at hxl
  rw [usable_len HMM.out, HG2.out.2.2] at hyl
  subst hxl hyl
  have HM1 := hid' hm1
  have HM2 := hid' hm2
  have HB6 := hid' (HB5.out.trans (hb6.mono HB5.out.size))
  have HX6 := hid' (HX5.out.next hb6)
  clear hm1 hm2 hb6 HB5 HX5 HY5 HV5 HV6
  obtain ⟨v0, v1, v2, v3, v4⟩ := HX6.out.five
  have hnn : ((V.seats.length : Int) != (V.seats.length : Int)) = false := by simp
  simp only [Ven.putAll, List.setIfInBounds_toArray, List.set_cons_succ, List.set_cons_zero]
  go_wp2_with fail
  clear v0 v1 v2 v3 v4 hnn
  go_loopw [12] (fun i wr => ∃ k : Nat, k ≤ V.seats.length ∧ i = .int .i64 k ∧ Hid (Below w6.heap.size w6 wr)) (fun i _ => V.seats.length - (intOf i).toNat)
  case atStart => exact ⟨0, Nat.zero_le _, rfl, Below.refl _ _⟩
  case round =>
    obtain ⟨k, hk, rfl, HB⟩ := hrel
    by_cases hlt : k < V.seats.length
    · have hltz : (k : Int) < (V.seats.length : Int) := by omega
      have hk1 : k < (usableL V).length := by rw [usable_len HM.out]; exact hlt
      have hk2 : k < (usableL V2).length := by rw [usable_len HMM.out, HG2.out.2.2]; exact hlt
      obtain ⟨xb, xo, rfl, hx1, hx2⟩ := (HM1.out.next HB.out).at k hk1
      obtain ⟨yb, yo, rfl, hy1, hy2⟩ := (HM2.out.next HB.out).at k hk2
      rw [usable_get hk1] at hx2
      rw [usable_get hk2] at hy2
      have HK := hid' (HDD.out k)
      cases hd : deadN V2 k with
      | true =>
        rw [hd] at hy2
        clear HK hx2
        go_wp2_with fail
        exact ⟨⟨k + 1, by omega, by go_num, HB⟩, by simp [intOf]; omega⟩
      | false =>
        have hd1 : deadN V k = false := by
          cases h : deadN V k with
          | false => rfl
          | true => rw [HK.out h] at hd; cases hd
        rw [hd] at hy2
        rw [hd1] at hx2
        clear HK
        go_wp2_with fail
        exact ⟨⟨k + 1, by omega, by go_num, HB⟩, by simp [intOf]; omega⟩
    · have hltz : ¬ (k : Int) < (V.seats.length : Int) := by omega
      have HBY := hid' (HB6.out.trans (HB.out.mono HB6.out.size))
      have hjz : (j : Int) < (V.seats.length : Int) := hj
      go_wp2_with fail
      refine (told_any _).mono ?_
      rintro e w7 ⟨rfl, hb7⟩
      have HF := hid' (HBY.out.trans (hb7.mono HBY.out.size))
      have hk2 : j < (usableL V2).length := by rw [usable_len HMM.out, HG2.out.2.2]; exact hjn
      obtain ⟨yb, yo, rfl, hy1, hy2⟩ := (HM2.out.next (HB.out.trans (hb7.mono HB.out.size))).at j hk2
      rw [usable_get hk2, HAT.out] at hy2
      clear hb7
      go_wp2
      go_ret
      exact ⟨rfl, HF.out⟩
end Go.Proofs.Ytbmmjbklfheghaa.Kll
