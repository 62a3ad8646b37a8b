/- VenueNorm: its walk. -/
import Derived.Test.YtoaapngfbidllaaTurn
import Derived.Test.YtoaapngfbidllaaRegH
import Derived.Test.YtoaapngfbidllaaRegI
import Derived.Test.YtoaapngfbidllaaTwo
import Derived.Test.YtoaapngfbidllaaRSame
namespace Go.Proofs.Ytoaapngfbidllaa
set_option linter.unusedVariables false
open Go.RowKit Go.Shelf

def turned (V : Ven) (k i : Nat) : List Int := ((V.kills.take i).map (turnK V.seats.length k)).reverse
theorem turned_succ (V : Ven) (k i : Nat) (hi : i < V.kills.length) : turned V k (i + 1) = turnK V.seats.length k V.kills[i] :: turned V k i := by
  unfold turned
  rw [List.take_succ_eq_append_getElem hi, List.map_append, List.reverse_append]; simp
theorem turned_len (V : Ven) (k i : Nat) (hi : i ≤ V.kills.length) : (turned V k i).length = i := by unfold turned; simp; omega
set_option maxRecDepth 100000 in
set_option maxHeartbeats 4000000 in
theorem venueNorm_any (a : Option Addr) (len cap : Nat) (l : List Int) (at' : Int) (w : World) (h : IntsAt w a len cap l) :
    Calls Try.prog 6 #[.slice a len cap, .int .i64 at'] w fun e w' => e = .returned (.bool true) ∧ Below w.heap.size w w' := by
  have hmk := make_any a len cap l 30 (by omega) (by omega) w h
  clear h
  go_enter Try.func6, Try.ntmps6
  go_wp2_with fail
  refine hmk.mono ?_
  rintro e w1 ⟨V, az, cs, ak, ck, ap, cp, row, x, rfl, hv, hok, hlen, hb1⟩
  clear hmk
  have hn1 := hok.len
  obtain ⟨k, hk, ek⟩ := mod_nat at' V.seats.length (by omega)
  have wa : IntKind.u64.wrap (V.seats.length : Int) = (V.seats.length : Int) := by rw [IntKind.wrap_u64]; omega
  have nz1 : ¬ ((V.seats.length : Int) = 0) := by omega
  have x5 := Box.fresh w1 26 #[.slice az V.seats.length cs, .int .i64 V.gap, .int .i64 V.radius, .slice ak V.kills.length ck, .slice ap V.poles.length cp]
  have hv1 := hv.next (below_alloc w1 (.cells #[.slice az V.seats.length cs, .int .i64 V.gap, .int .i64 V.radius, .slice ak V.kills.length ck, .slice ap V.poles.length cp] 26))
  have p1 : Past w (w1.alloc (.cells #[.slice az V.seats.length cs, .int .i64 V.gap, .int .i64 V.radius, .slice ak V.kills.length ck, .slice ap V.poles.length cp] 26)) := Past.alloc hb1 _
  have hs0 := hv1.s
  rcases hs0 with ⟨_, hnil⟩ | ⟨b, off, cap', he, hlc', hcm', hC⟩
  · rw [hnil] at hn1; simp at hn1
  have hz : az = some ⟨b, off, none⟩ := by injection he
  have hcc : cs = cap' := by injection he
  subst hz
  subst hcc
  have hkl : k ≤ V.seats.length := by omega
  have hcm : cs ≤ 9223372036854775807 := by unfold maxLen at hcm'; omega
  obtain ⟨A, hA⟩ : ∃ A, (if cs = k then some (⟨b, off, none⟩ : Addr) else some ⟨b, off + k * 4, none⟩) = some A := by
    by_cases hc : cs = k
    · exact ⟨_, if_pos hc⟩
    · exact ⟨_, if_neg hc⟩
  have HOK : Hid (MkOK V row x) := hok
  have hkn := hok.kn
  clear hv hb1 he hok
  go_wp2_with fail
  have hsz : w1.heap.size + 1 = (w1.alloc (.cells #[.slice (some ⟨b, off, none⟩) V.seats.length cs, .int .i64 V.gap, .int .i64 V.radius, .slice ak V.kills.length ck, .slice ap V.poles.length cp] 26)).heap.size := by simp
  generalize w1.alloc (.cells #[.slice (some ⟨b, off, none⟩) V.seats.length cs, .int .i64 V.gap, .int .i64 V.radius, .slice ak V.kills.length ck, .slice ap V.poles.length cp] 26) = W1 at x5 hv1 p1 hC hsz ⊢
  have HSZ : Hid (w1.heap.size + 1 = W1.heap.size) := hsz
  clear hsz
  have k5 := x5.next (below_alloc W1 (.cells #[.slice none 0 0, .int .i64 V.gap, .int .i64 V.radius, .slice none 0 0, .slice ap V.poles.length cp] 26))
  have k8 := Box.fresh W1 26 #[.slice none 0 0, .int .i64 V.gap, .int .i64 V.radius, .slice none 0 0, .slice ap V.poles.length cp]
  rw [← HSZ.out] at k8
  have kC := hC.next (below_alloc W1 (.cells #[.slice none 0 0, .int .i64 V.gap, .int .i64 V.radius, .slice none 0 0, .slice ap V.poles.length cp] 26))
  have kb := below_alloc W1 (.cells #[.slice none 0 0, .int .i64 V.gap, .int .i64 V.radius, .slice none 0 0, .slice ap V.poles.length cp] 26)
  refine region6_5 _ ?_ V.seats b off cs k hkl hlc' (by omega) hcm A hA _ _ _ _ _ _ _ _ w1.heap.size (w1.heap.size + 1) _ k5 kC k8 _ _ _ _ _ _ _ _ _ _ _ _ _ _ _ _ _ _ _ _ _ _ _ _ _ _ _ _ _ _ _ _ _ _ _ _ _ _ _ _ _ _ _ _ _ _ _ _ _ _ _ _ _ _ _ _ _ _ _ _ _ _ _ _ _ _ _ _ _ _ _ _ _ _ _ _ _ _ _ _ _ _ _ _ _ _ _ _ _ _ _ _ _ _ _ ?_
  · intro c a a' w h; exact absurd h.2 (by first | (intro h2; cases h2.1) | (intro h2; cases h2))
  intro W3 e0 a5 c5 a10 c10 hb3 hown3
  have hbW3 : Below W1.heap.size W1 W3 := kb.trans (hb3.mono kb.size)
  have q8 := k8.next hb3
  have s8 := q8.set 0 (.slice a10 V.seats.length c10)
  have sow := row_setCell hown3 q8 (by decide) 0 (.slice a10 V.seats.length c10)
  have sb : Below W1.heap.size W1 (W3.setCell ⟨w1.heap.size + 1, 0, none⟩ (.slice a10 V.seats.length c10)) := Below.setCell hbW3 (by rw [← HSZ.out]; exact Nat.le_refl _) _
  have hbas : (W1.alloc (.cells #[.slice none 0 0, .int .i64 V.gap, .int .i64 V.radius, .slice none 0 0, .slice ap V.poles.length cp] 26)).heap.size ≤ W3.heap.size := hb3.size
  generalize hBase : (W1.alloc (.cells #[.slice none 0 0, .int .i64 V.gap, .int .i64 V.radius, .slice none 0 0, .slice ap V.poles.length cp] 26)).heap.size = base at sow hbas
  clear k5 k8 kC kb hb3 hown3 hbW3 q8 hA hC hBase
  generalize W3.setCell ⟨w1.heap.size + 1, 0, none⟩ (.slice a10 V.seats.length c10) = W4 at s8 sow sb ⊢
  have HKL : Hid (k < V.seats.length) := hk
  go_wp2_with fail
  go_loopw [9] (fun i wr => ∃ (j : Nat) (au : Option Addr) (mu cu : Nat), j ≤ V.kills.length ∧ i = .int .i64 j ∧ mu = j ∧ Below W1.heap.size W1 wr ∧ Box wr (w1.heap.size + 1) 26 #[.slice a10 V.seats.length c10, .int .i64 V.gap, .int .i64 V.radius, .slice au mu cu, .slice ap V.poles.length cp] ∧ wr.ownsRow base 34 4 (.slice a10 V.seats.length c10) V.seats.length ((V.seats.drop k).flatMap seatC ++ (V.seats.take k).flatMap seatC) ∧ Sl 1 intC wr (.slice au mu cu) (turned V k j)) (fun i _ => V.kills.length - (intOf i).toNat)
  case atStart => exact ⟨0, none, 0, 0, Nat.zero_le _, rfl, rfl, sb, s8, sow, .inl ⟨rfl, rfl⟩⟩
  case round =>
    clear s8 sow sb
    obtain ⟨j, au, mu, cu, hj, rfl, hmu, hbw, hx, how, hks⟩ := hrel
    have y5 := x5.next hbw
    have y3 := y5.cell 3 _ rfl
    have yl := y5.lt
    by_cases hlt : j < V.kills.length
    · have hltz : (j : Int) < (V.kills.length : Int) := by omega
      obtain ⟨kb, ko, hak, hCk⟩ := cells_of_pos hv1.k hlt
      subst hak
      have hqc := (hCk.next hbw).int j hlt
      have hqb := HOK.out.kl _ (List.getElem_mem hlt)
      have hts := turned_succ V k j hlt
      generalize V.kills[j] = q at hqc hqb hts
      have hkbl : kb < wr.heap.size := (hCk.next hbw).1
      have HM : Hid (mu = j) := hmu
      have hmz : mu ≤ 200 := by omega
      clear hmu
      go_wp2_with fail
      refine region6_9 _ ?_ V.seats.length k j V.kills.length kb ko ck q (turnK V.seats.length k q) hltz (by omega) (by omega) hk hqb.1 hqb.2 rfl au mu cu (turned V k j) hmz _ _ _ _ _ _ _ _ w1.heap.size (w1.heap.size + 1) wr y5 hkbl hqc hx hks _ _ _ _ _ _ _ _ _ _ _ _ _ _ _ _ _ _ _ _ _ _ _ _ _ _ _ _ _ _ _ _ _ _ _ _ _ _ _ _ _ _ _ _ _ _ _ _ _ _ _ _ _ _ _ _ _ _ _ _ _ _ _ _ _ _ _ _ _ _ _ _ _ _ _ _ _ _ _ _ _ _ _ _ _ _ _ _ _ _ _ _ _ ?_
      · intro c a a' w h; exact absurd h.2 (by first | (intro h2; cases h2.1) | (intro h2; cases h2))
      intro W5 g a14 c14 hb5 hown5
      have q8 := hx.next hb5
      have t8 := q8.set 3 (.slice a14 (1 + mu) c14)
      have tow := row_setCell (row_next how hb5) q8 (by decide) 3 (.slice a14 (1 + mu) c14)
      have tk := row_setCell hown5 q8 (by decide) 3 (.slice a14 (1 + mu) c14)
      have tb : Below W1.heap.size W1 (W5.setCell ⟨w1.heap.size + 1, 3, none⟩ (.slice a14 (1 + mu) c14)) := Below.setCell (hbw.trans (hb5.mono hbw.size)) (by rw [← HSZ.out]; exact Nat.le_refl _) _
      have tS : Sl 1 intC (W5.setCell ⟨w1.heap.size + 1, 3, none⟩ (.slice a14 (1 + mu) c14)) (.slice a14 (1 + mu) c14) (turned V k (j + 1)) := by
        rw [hts]
        refine row_sl (base := wr.heap.size) (e := 3) intC_len ?_
        have hl : (turnK V.seats.length k q :: turned V k j).length = 1 + mu := by
          rw [List.length_cons, turned_len V k j hj, HM.out]; omega
        rw [hl]
        exact tk
      clear q8 tk hown5 hb5 hks how hx hbw y5 y3 hqc
      generalize W5.setCell ⟨w1.heap.size + 1, 3, none⟩ (.slice a14 (1 + mu) c14) = W6 at t8 tow tb tS ⊢
      go_wp2_with fail
      go_roundw
      case rel => exact ⟨j + 1, a14, 1 + mu, c14, by omega, by go_num, by rw [HM.out]; omega, tb, t8, tow, tS⟩
      case measure => simp [intOf]; omega
    · have hltz : ¬ (j : Int) < (V.kills.length : Int) := by omega
      have hje : j = V.kills.length := by omega
      have hvU : VenAt wr a10 V.seats.length c10 au mu cu ap V.poles.length cp (turnV V k) := by
        refine ⟨row_sl (base := base) (e := 34) seatC_len (l := (turnV V k).seats) ?_, ?_, (hv1.next hbw).p⟩
        · rw [turn_len V k hkl]
          have e : (turnV V k).seats.flatMap seatC = (V.seats.drop k).flatMap seatC ++ (V.seats.take k).flatMap seatC := by
            unfold turnV; rw [List.flatMap_append]
          rw [e]; exact how
        · have e : (turnV V k).kills = turned V k j := by
            have e2 : V.kills.take j = V.kills := List.take_of_length_le (by omega)
            unfold turned; rw [e2]; rfl
          rw [e]; exact hks
      have hno : Calls Try.prog 11 #[venV a10 V.seats.length c10 V.gap V.radius au mu cu ap V.poles.length cp] wr fun e w' => ∃ rr, NormTo (turnV V k) rr ∧ NormRes e w' rr ∧ Below wr.heap.size wr w' := norm_any a10 au ap V.seats.length c10 mu cu V.poles.length cp (turnV V k) wr hvU
      obtain ⟨d0, d1, d2, d3, d4⟩ := Box.five hx
      have dl := hx.lt
      have hvV := hv1.next hbw
      have pp := p1.next hbw
      clear hvU hks how hje hmu
      go_wp2_with fail
      refine hno.mono ?_
      rintro e W7 ⟨rr, hto, hres, hb7⟩
      rw [norm_turn HOK.out (by omega) k HKL.out hto] at hres
      obtain ⟨r1, rm1, rd1, r2, rm2, rd2, r3, rm3, rd3, rfl, hvW⟩ := hres
      have z5 := (y5.next hb7).next (below_alloc W7 (.cells #[.slice r1 rm1 rd1, .int .i64 V.gap, .int .i64 V.radius, .slice r2 rm2 rd2, .slice r3 rm3 rd3] 26))
      have z10 := Box.fresh W7 26 #[.slice r1 rm1 rd1, .int .i64 V.gap, .int .i64 V.radius, .slice r2 rm2 rd2, .slice r3 rm3 rd3]
      have zV := (hvV.next hb7).next (below_alloc W7 (.cells #[.slice r1 rm1 rd1, .int .i64 V.gap, .int .i64 V.radius, .slice r2 rm2 rd2, .slice r3 rm3 rd3] 26))
      have zW := hvW.next (below_alloc W7 (.cells #[.slice r1 rm1 rd1, .int .i64 V.gap, .int .i64 V.radius, .slice r2 rm2 rd2, .slice r3 rm3 rd3] 26))
      have zp := (pp.next hb7).next (below_alloc W7 (.cells #[.slice r1 rm1 rd1, .int .i64 V.gap, .int .i64 V.radius, .slice r2 rm2 rd2, .slice r3 rm3 rd3] 26))
      clear d0 d1 d2 d3 d4 dl y5 y3 yl hvV pp hb7 hto hvW hno hx hbw
      have hno2 := norm_any (some ⟨b, off, none⟩) ak ap V.seats.length cs V.kills.length ck V.poles.length cp V _ zV
      obtain ⟨e0', e1, e2, e3, e4⟩ := Box.five z5
      have el := z5.lt
      go_wp2_with fail
      refine hno2.mono ?_
      rintro e W8 ⟨rr2, hto2, hres2, hb8⟩
      rw [norm_own HOK.out (by omega) hto2] at hres2
      obtain ⟨s1, sm1, sd1, s2, sm2, sd2, s3, sm3, sd3, rfl, hvX⟩ := hres2
      have u5 := (z5.next hb8).next (below_alloc W8 (.cells #[.slice s1 sm1 sd1, .int .i64 V.gap, .int .i64 V.radius, .slice s2 sm2 sd2, .slice s3 sm3 sd3] 26))
      have u10 := (z10.next hb8).next (below_alloc W8 (.cells #[.slice s1 sm1 sd1, .int .i64 V.gap, .int .i64 V.radius, .slice s2 sm2 sd2, .slice s3 sm3 sd3] 26))
      have u12 := Box.fresh W8 26 #[.slice s1 sm1 sd1, .int .i64 V.gap, .int .i64 V.radius, .slice s2 sm2 sd2, .slice s3 sm3 sd3]
      have uV := (zV.next hb8).next (below_alloc W8 (.cells #[.slice s1 sm1 sd1, .int .i64 V.gap, .int .i64 V.radius, .slice s2 sm2 sd2, .slice s3 sm3 sd3] 26))
      have uW := (zW.next hb8).next (below_alloc W8 (.cells #[.slice s1 sm1 sd1, .int .i64 V.gap, .int .i64 V.radius, .slice s2 sm2 sd2, .slice s3 sm3 sd3] 26))
      have uX := hvX.next (below_alloc W8 (.cells #[.slice s1 sm1 sd1, .int .i64 V.gap, .int .i64 V.radius, .slice s2 sm2 sd2, .slice s3 sm3 sd3] 26))
      have up := (zp.next hb8).next (below_alloc W8 (.cells #[.slice s1 sm1 sd1, .int .i64 V.gap, .int .i64 V.radius, .slice s2 sm2 sd2, .slice s3 sm3 sd3] 26))
      clear e0' e1 e2 e3 e4 el z5 z10 zV zW zp hb8 hto2 hvX hno2
      go_wp2_with fail
      refine (told_any _).mono ?_
      rintro e W9 ⟨rfl, hb9⟩
      have o5 := u5.next hb9
      have o10 := u10.next hb9
      have o12 := u12.next hb9
      have oV := uV.next hb9
      have oW := uW.next hb9
      have oX := uX.next hb9
      have op := up.next hb9
      clear u5 u10 u12 uV uW uX up hb9
      have hmay := may_any _ _ _ _ _ _ _ _ _ V W9 oV
      rw [HOK.out.may (by omega)] at hmay
      obtain ⟨f0, f1, f2, f3, f4⟩ := Box.five o5
      have fl := o5.lt
      go_wp2_with fail
      refine hmay.mono ?_
      rintro e Wa ⟨rfl, hba⟩
      have i5 := o5.next hba
      have i10 := o10.next hba
      have i12 := o12.next hba
      have iV := oV.next hba
      have iW := oW.next hba
      have iX := oX.next hba
      have ip := op.next hba
      clear o5 o10 o12 oV oW oX op hba hmay f0 f1 f2 f3 f4 fl
      have hs1 := rsame_any _ _ _ _ _ _ _ _ _ _ _ _ _ _ _ _ _ _ V V Wa iW iV
      rw [(sameB_iff V V).2 rfl] at hs1
      obtain ⟨f0, f1, f2, f3, f4⟩ := Box.five i5
      obtain ⟨g0, g1, g2, g3, g4⟩ := Box.five i10
      have fl := i5.lt
      have gl := i10.lt
      go_wp2_with fail
      refine hs1.mono ?_
      rintro e Wb ⟨rfl, hbb⟩
      have j5 := i5.next hbb
      have j12 := i12.next hbb
      have jV := iV.next hbb
      have jX := iX.next hbb
      have jp := ip.next hbb
      clear i5 i10 i12 iV iW iX ip hbb hs1 f0 f1 f2 f3 f4 fl g0 g1 g2 g3 g4 gl
      have hs2 := rsame_any _ _ _ _ _ _ _ _ _ _ _ _ _ _ _ _ _ _ V V Wb jX jV
      rw [(sameB_iff V V).2 rfl] at hs2
      obtain ⟨f0, f1, f2, f3, f4⟩ := Box.five j5
      obtain ⟨g0, g1, g2, g3, g4⟩ := Box.five j12
      have fl := j5.lt
      have gl := j12.lt
      go_wp2_with fail
      refine hs2.mono ?_
      rintro e Wc ⟨rfl, hbc⟩
      have lp := jp.next hbc
      go_wp2
      go_ret
      exact ⟨rfl, lp⟩
theorem venueNorm_law (a : Option Addr) (len cap : Nat) (l : List Int) (w : World) (h : IntsAt w a len cap l) (at' : Int) (ha : -9223372036854775808 ≤ at' ∧ at' ≤ 9223372036854775807) :
    Calls Try.prog 6 #[.slice a len cap, .int .i64 at'] w fun e w' => e = .returned (.bool true) ∧ Below w.heap.size w w' := venueNorm_any a len cap l at' w h
end Go.Proofs.Ytoaapngfbidllaa
