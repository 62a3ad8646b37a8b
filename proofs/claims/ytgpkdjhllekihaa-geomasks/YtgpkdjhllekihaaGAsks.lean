/- GeomAsks answers true: its walk. -/
import Derived.Test.YtgpkdjhllekihaaGAsksR
import Derived.Test.YtgpkdjhllekihaaGFewG
import Derived.Test.YtgpkdjhllekihaaGRefN
import Derived.Test.YtgpkdjhllekihaaGMovedG
import Derived.Test.YtgpkdjhllekihaaGMovedP
import Derived.Test.YtgpkdjhllekihaaGTold
namespace Go.Proofs.Ytgpkdjhllekihaa.Geo
set_option linter.unusedVariables false
set_option maxRecDepth 100000
open Go.RowKit Go.Shelf
open Go.Proofs.Ytgpkdjhllekihaa.Ven (Seat Pole Ven VenAt venV seatV seatC intC Box mayB mixed below_alloc rmay_any info3 row_next row_slice)

theorem clash_nat {V : Ven} (h : mayB V = true) {i j : Nat} (hi : i < V.seats.length) (hj : j < V.seats.length) : clashB V i j = clashL V.seats V.radius i j := by
  unfold clashB
  rw [h, decide_eq_true (show 0 ≤ (i : Int) ∧ (i : Int) < (V.seats.length : Int) by omega), decide_eq_true (show 0 ≤ (j : Int) ∧ (j : Int) < (V.seats.length : Int) by omega)]
  simp
set_option maxHeartbeats 16000000 in
theorem asks_law (a1 a2 a3 : Option Addr) (n1 c1 n2 c2 n3 c3 : Nat) (V : Ven) {w0 : World} (h : VenAt w0 a1 n1 c1 a2 n2 c2 a3 n3 c3 V) (p0 p1 p2 p3 q0 q1 q2 q3 aa b r : Int) (w : World) (hw : w0 = w := by rfl) :
    Calls Try.prog 3 #[venV a1 n1 c1 V.gap V.radius a2 n2 c2 a3 n3 c3, seatV p0 p1 p2 p3, seatV q0 q1 q2 q3, .int .i64 aa, .int .i64 b, .int .i64 r] w fun e w' => e = .returned (.bool true) ∧ Below w.heap.size w w' := by
  subst hw
  have hn1 := h.s.len
  subst hn1
  have x1 := below_alloc w0 (.cells #[.slice a1 V.seats.length c1, .int .i64 V.gap, .int .i64 V.radius, .slice a2 n2 c2, .slice a3 n3 c3] 26)
  have x2 := below_alloc (w0.alloc (.cells #[.slice a1 V.seats.length c1, .int .i64 V.gap, .int .i64 V.radius, .slice a2 n2 c2, .slice a3 n3 c3] 26)) (.cells #[.int .i64 p0, .int .i64 p1, .int .i64 p2, .int .i64 p3] 28)
  have x3 := below_alloc ((w0.alloc (.cells #[.slice a1 V.seats.length c1, .int .i64 V.gap, .int .i64 V.radius, .slice a2 n2 c2, .slice a3 n3 c3] 26)).alloc (.cells #[.int .i64 p0, .int .i64 p1, .int .i64 p2, .int .i64 p3] 28)) (.cells #[.int .i64 q0, .int .i64 q1, .int .i64 q2, .int .i64 q3] 28)
  have b1 := ((Box.fresh w0 26 #[.slice a1 V.seats.length c1, .int .i64 V.gap, .int .i64 V.radius, .slice a2 n2 c2, .slice a3 n3 c3]).next x2).next x3
  have b2 := (Box.fresh (w0.alloc (.cells #[.slice a1 V.seats.length c1, .int .i64 V.gap, .int .i64 V.radius, .slice a2 n2 c2, .slice a3 n3 c3] 26)) 28 #[.int .i64 p0, .int .i64 p1, .int .i64 p2, .int .i64 p3]).next x3
  have b3 := Box.fresh ((w0.alloc (.cells #[.slice a1 V.seats.length c1, .int .i64 V.gap, .int .i64 V.radius, .slice a2 n2 c2, .slice a3 n3 c3] 26)).alloc (.cells #[.int .i64 p0, .int .i64 p1, .int .i64 p2, .int .i64 p3] 28)) 28 #[.int .i64 q0, .int .i64 q1, .int .i64 q2, .int .i64 q3]
  have hB := (x1.trans (x2.mono x1.size)).trans (x3.mono (x1.trans (x2.mono x1.size)).size)
  have hv := h.next hB
  have few := few_any a1 a2 a3 V.seats.length c1 n2 c2 n3 c3 V _ hv
  simp only [World.size_alloc] at b2 b3
  obtain ⟨v0, v1, v2, v3, v4⟩ := b1.five
  clear x1 x2 x3 h
  generalize (decide (V.seats.length ≤ 40) && (decide (n2 ≤ 40) && decide (n3 ≤ 40))) = fw at few
  have HV := hid' hv
  have HB0 := hid' hB
  have H1 := hid' b1
  have H2 := hid' b2
  have H3 := hid' b3
  clear hv hB b1 b2 b3
  cases fw with
  | false =>
    go_enter Try.func3, Try.ntmps3
    go_wp2_with fail
    refine few.mono ?_
    rintro e w1 ⟨rfl, hb1⟩
    have HB := hid' (HB0.out.trans (hb1.mono HB0.out.size))
    clear few hb1 v0 v1 v2 v3 v4
    go_wp2_with fail
    refine (told_any _).mono ?_
    rintro e w2 ⟨rfl, hb2⟩
    have HF := hid' (HB.out.trans (hb2.mono HB.out.size))
    clear hb2
    go_wp2
    go_ret
    exact ⟨rfl, HF.out⟩
  | true =>
    go_enter Try.func3, Try.ntmps3
    go_wp2_with fail
    refine few.mono ?_
    rintro e w1 ⟨rfl, hb1⟩
    have HB := hid' (HB0.out.trans (hb1.mono HB0.out.size))
    have HV1 := hid' (HV.out.next hb1)
    have HX1 := hid' (H1.out.next hb1)
    have HX2 := hid' (H2.out.next hb1)
    have HX3 := hid' (H3.out.next hb1)
    clear few hb1 v0 v1 v2 v3 v4 HB0 H1 H2 H3 HV
    go_wp2_with fail
    refine asks_region _ w1 rfl w0.heap.size (w0.heap.size + 1) (w0.heap.size + 1 + 1) a1 a2 a3 V.seats.length c1 n2 c2 n3 c3 V.gap V.radius aa b r p0 p1 p2 p3 q0 q1 q2 q3 (farI p1 p2 q1 q2) (clashB V aa b) (nearL V aa b r) rfl rfl rfl rfl rfl rfl HX1.out HX2.out HX3.out ?_ ?_ ?_ ?_ ?_ ?_ ?_
    · intro w hw; exact far_any _ _ _ _ _ _ _ _ w
    · intro w hw; exact rfar_any _ _ _ _ _ _ _ _ w
    · intro w hw; exact gclash_any _ _ _ _ _ _ _ _ _ V aa b w (HV1.out.next hw)
    · intro w hw; exact rgclash_any _ _ _ _ _ _ _ _ _ V aa b w (HV1.out.next hw)
    · intro w hw; exact near_any _ _ _ _ _ _ _ _ _ V aa b r w (HV1.out.next hw)
    · intro w hw; exact rnear_any _ _ _ _ _ _ _ _ _ V aa b r w (HV1.out.next hw)
    intro w2 u1 u2 hb2
    have HB2 := hid' (HB.out.trans (hb2.mono HB.out.size))
    have HV2 := hid' (HV1.out.next hb2)
    have HX := hid' (HX1.out.next hb2)
    clear hb2 HB HV1 HX1 HX2 HX3
    generalize farI p1 p2 q1 q2 = D
    generalize clashB V aa b = C
    simp only [Ven.putAll, List.setIfInBounds_toArray, List.set_cons_succ, List.set_cons_zero]
    obtain ⟨v0, v1, v2, v3, v4⟩ := HX.out.five
    have hg := graph_any _ _ _ _ _ _ _ _ _ V w2 HV2.out
    go_wp2_with fail
    refine hg.mono ?_
    rintro e w3 ⟨gv, rfl, hrows, hb3⟩
    have HB3 := hid' (HB2.out.trans (hb3.mono HB2.out.size))
    have HV3 := hid' (HV2.out.next hb3)
    have HX3 := hid' (HX.out.next hb3)
    have HR3 := hid' hrows
    clear hg hb3 HB2 HV2 HX v0 v1 v2 v3 v4 hrows
    have hmay := rmay_any _ _ _ _ _ _ _ _ _ V w3 HV3.out
    obtain ⟨v0, v1, v2, v3, v4⟩ := HX3.out.five
    cases hm : mayB V with
    | false =>
      rw [hm] at hmay
      have hgl : graphL V = [] := by unfold graphL; rw [hm]; simp
      obtain rfl : gv = .slice none 0 0 := by
        have := HR3.out
        rw [hgl] at this
        exact this.nil
      clear hm hgl HR3
      go_wp2_with fail
      refine hmay.mono ?_
      rintro e w4 ⟨rfl, hb4⟩
      have HB4 := hid' (HB3.out.trans (hb4.mono HB3.out.size))
      clear hmay hb4 v0 v1 v2 v3 v4 HB3 HV3 HX3
      go_wp2_with fail
      refine (told_any _).mono ?_
      rintro e w5 ⟨rfl, hb5⟩
      have HF := hid' (HB4.out.trans (hb5.mono HB4.out.size))
      clear hb5
      go_wp2
      go_ret
      exact ⟨rfl, HF.out⟩
    | true =>
      rw [hm] at hmay
      have hfw := may_few hm
      have HM := hid' hm
      clear hm
      have HLEN := hid' (graph_len HM.out)
      obtain ⟨G, g, rfl, hrf, hin⟩ := HR3.out.one (by rw [HLEN.out]; omega)
      rw [HLEN.out] at hrf ⊢
      have HRF := hid' hrf
      have HIN := hid' hin
      clear HR3 hrf hin
      go_wp2_with fail
      refine hmay.mono ?_
      rintro e w4 ⟨rfl, hb4⟩
      have HB4 := hid' (HB3.out.trans (hb4.mono HB3.out.size))
      have HV4 := hid' (HV3.out.next hb4)
      have HX := hid' (HX3.out.next hb4)
      have HR4 := hid' (HRF.out.next hb4)
      have HI4 : Hid (∀ j (h : j < (graphL V).length), Ints (G + 1) w4 (g j) (graphL V)[j]) := fun j h => (HIN.out j h).next hb4
      clear hmay hb4 v0 v1 v2 v3 v4 HB3 HV3 HX3 HRF HIN
      have z0 := HX.out.cell 0 _ rfl
      have zl := HX.out.lt
      have hnn : ((V.seats.length : Int) != (V.seats.length : Int)) = false := by simp
      go_wp2_with fail
      clear z0 zl hnn
      go_loopw [14] (fun i wx => ∃ k : Nat, k ≤ V.seats.length ∧ i = .int .i64 k ∧ Hid (Below w4.heap.size w4 wx)) (fun i _ => V.seats.length - (intOf i).toNat)
      case atStart => exact ⟨0, Nat.zero_le _, rfl, Below.refl _ _⟩
      case round =>
        obtain ⟨i, hi, rfl, HY⟩ := hrel
        by_cases hil : i < V.seats.length
        · have hiz : (i : Int) < (V.seats.length : Int) := by omega
          have HCL : Hid (∀ k, k < V.seats.length → clashB V i k = clashL V.seats V.radius i k) := fun k hk => clash_nat HM.out hil hk
          have HR0 : Hid (Ints w4.heap.size wr (.slice none 0 0) (thoseN 0 (clashL V.seats V.radius i))) := Ints.nil _ _
          go_wp2_with fail
          go_loopw [15, 16] (fun l k wy => ∃ kk : Nat, kk ≤ V.seats.length ∧ k = .int .i64 kk ∧ Hid (Ints w4.heap.size wy l (thoseN kk (clashL V.seats V.radius i))) ∧ Hid (Below w4.heap.size w4 wy)) (fun _ k _ => V.seats.length - (intOf k).toNat)
          case atStart => exact ⟨0, Nat.zero_le _, rfl, HR0, HY⟩
          case round =>
            clear HR0 HY
            obtain ⟨k, hk, rfl, HR, HW⟩ := hrel
            obtain ⟨v0, v1, v2, v3, v4⟩ := (HX.out.next HW.out).five
            by_cases hlt : k < V.seats.length
            · have hltz : (k : Int) < (V.seats.length : Int) := by omega
              have hcl := rgclash_any _ _ _ _ _ _ _ _ _ V i k _ (HV4.out.next HW.out)
              rw [HCL.out k hlt] at hcl
              have HS := hid' (thoseN_succ k (clashL V.seats V.radius i))
              have HLE := hid' (thoseN_le k (clashL V.seats V.radius i))
              generalize thoseN k (clashL V.seats V.radius i) = l at *
              generalize hl2 : thoseN (k + 1) (clashL V.seats V.radius i) = l2 at *
              have HL2 := hid' hl2
              clear hl2
              have zl := (HX.out.next HW.out).lt
              cases hz : clashL V.seats V.radius i k with
              | true =>
                rw [hz] at hcl
                have HE : Hid (l2 = l ++ [(k : Int)]) := by show _ = _; rw [HS.out, if_pos hz]
                clear hz HS
                go_wp2_with fail
                refine hcl.mono ?_
                rintro e w5 ⟨rfl, hb5⟩
                have HW5 := hid' (HW.out.trans (hb5.mono HW.out.size))
                have HR5 := hid' (HR.out.next hb5)
                clear hcl hb5 HW HR v0 v1 v2 v3 v4 zl
                obtain ⟨av, cv, rfl⟩ := row_slice HR5.out
                have HR6 := hid' (row_next HR5.out ((Below.refl _ w5).alloc (Nat.le_refl _) (.cells #[.int .i64 k] 3)))
                have hsz : w4.heap.size ≤ (w5.alloc (.cells #[.int .i64 k] 3)).heap.size := by have := HW5.out.size; simp; omega
                have hle := HLE.out
                obtain ⟨i0, hi0, hz0, hz1, hz2⟩ := info3
                go_wp2_with (at_builtin; refine wpList_append_own _ rfl _ _ 23 rfl w4.heap.size 3 i0 (.int .i64 0) 1 8 Try.underlying23 hi0 hz0 hz1 hz2 rfl (by omega) _ _ _ rfl HR6.out ⟨w5.heap.size, 0, none⟩ 1 1 [.int .i64 k] rfl ?qc1 ?qc2 ?qc3 ?qc4 ?qc5 ?qc6 ?_)
                case qc1 => rfl
                case qc2 =>
                  intro t u ht
                  rw [Addr.add_lit, Nat.zero_add, World.cell?_alloc_at _ _ _ _ rfl]
                  show ([Value.int .i64 (k : Int)] : List Value).toArray[t]? = some u
                  rw [List.getElem?_toArray]; exact ht
                case qc3 => intro u hu; simp at hu; subst hu; rfl
                case qc4 => unfold maxLen; omega
                case qc5 => omega
                case qc6 => exact hsz
                intro v6 w6 hown6 hgr6 _
                have HB6 := hid' ((HW5.out.alloc HW5.out.size (.cells #[.int .i64 k] 3)).grown hgr6 hsz (fun t ht => (HR6.out.lt t ht).1))
                have HR7 : Hid (Ints w4.heap.size w6 v6 l2) := by
                  show w6.ownsRow _ _ _ _ _ _
                  have hfl : l2.flatMap intC = l.flatMap intC ++ [.int .i64 k] := by rw [HE.out, List.flatMap_append]; rfl
                  have hln : l2.length = l.length + 1 := by rw [HE.out]; simp
                  rw [hfl, hln]; exact hown6
                clear hown6 hgr6 HE HR5 HR6 hsz hle
                go_wp2_with fail
                exact ⟨⟨k + 1, by omega, by go_num, (show Ints _ _ _ _ by rw [HL2.out]; exact HR7.out), HB6⟩, by simp [intOf]; omega⟩
              | false =>
                rw [hz] at hcl
                have HE : Hid (l2 = l) := by show _ = _; rw [HS.out, if_neg (by rw [hz]; decide)]
                clear hz HS
                go_wp2_with fail
                refine hcl.mono ?_
                rintro e w5 ⟨rfl, hb5⟩
                have HW5 := hid' (HW.out.trans (hb5.mono HW.out.size))
                have HR5 := hid' (HR.out.next hb5)
                clear hcl hb5 HW HR v0 v1 v2 v3 v4 zl
                go_wp2_with fail
                exact ⟨⟨k + 1, by omega, by go_num, (show Ints _ _ _ _ by rw [HL2.out, HE.out]; exact HR5.out), HW5⟩, by simp [intOf]; omega⟩
            · have hltz : ¬ (k : Int) < (V.seats.length : Int) := by omega
              have hkn : k = V.seats.length := by omega
              have zl := (HX.out.next HW.out).lt
              have hiA : i < (graphL V).length := by rw [HLEN.out]; exact hil
              have hrow := (HI4.out i hiA).next HW.out
              obtain ⟨av, ac, hav⟩ := row_slice hrow
              have hcell : wr.cell? ⟨G, i, none⟩ = some (.slice av (graphL V)[i].length ac) := by rw [((HR4.out.next HW.out).2 i hil).1, hav]
              have HSM : Hid (Calls Try.prog 13 #[.slice av (graphL V)[i].length ac, u15] wr fun e w2 => e = .returned (.bool true) ∧ Below wr.heap.size wr w2) := by
                have := same_any (graphL V)[i] (thoseN k (clashL V.seats V.radius i)) (g i) _ wr hrow.sl HR.out.sl
                rw [hkn, graph_at HM.out i hiA, decide_eq_true rfl, hav] at this
                exact this
              clear hrow hav hkn HR
              generalize (graphL V)[i].length = gn at hcell HSM
              have hsm := HSM.out
              go_wp2_with fail
              refine hsm.mono ?_
              rintro e w5 ⟨rfl, hb5⟩
              have HW5 := hid' (HW.out.trans (hb5.mono HW.out.size))
              clear hsm hb5 HSM HW hcell v0 v1 v2 v3 v4 zl
              go_wp2_with fail
              exact ⟨⟨i + 1, by omega, by go_num, HW5⟩, by simp [intOf]; omega⟩
        · have hiz : ¬ (i : Int) < (V.seats.length : Int) := by omega
          go_wp2_with fail
          refine (told_any _).mono ?_
          rintro e w5 ⟨rfl, hb5⟩
          have HF := hid' (HB4.out.trans ((HY.out.trans (hb5.mono HY.out.size)).mono HB4.out.size))
          clear hb5
          go_wp2
          go_ret
          exact ⟨rfl, HF.out⟩
end Go.Proofs.Ytgpkdjhllekihaa.Geo
