/- parterreref6.Near by its contract. -/
import Derived.Test.YtgpkdjhllekihaaGRefC
namespace Go.Proofs.Ytgpkdjhllekihaa.Geo
set_option linter.unusedVariables false
set_option maxRecDepth 100000
open Go.RowKit Go.Shelf
open Go.Proofs.Ytgpkdjhllekihaa.Ven (Seat Pole Ven VenAt venV seatV seatC intC Box mayB mixed SeatAt Cells below_alloc coordB standsB rmay_any info3 row_next row_slice)

set_option maxHeartbeats 8000000 in
theorem rnear_any (a1 a2 a3 : Option Addr) (n1 c1 n2 c2 n3 c3 : Nat) (V : Ven) (x y r : Int) (w : World) (h : VenAt w a1 n1 c1 a2 n2 c2 a3 n3 c3 V) :
    Calls Try.prog 15 #[venV a1 n1 c1 V.gap V.radius a2 n2 c2 a3 n3 c3, .int .i64 x, .int .i64 y, .int .i64 r] w fun e w' => ∃ v, e = .returned v ∧ Ints w.heap.size w' v (nearL V x y r) ∧ Below w.heap.size w w' := by
  have hb := below_alloc w (.cells #[.slice a1 n1 c1, .int .i64 V.gap, .int .i64 V.radius, .slice a2 n2 c2, .slice a3 n3 c3] 26)
  have hx := Box.fresh w 26 #[.slice a1 n1 c1, .int .i64 V.gap, .int .i64 V.radius, .slice a2 n2 c2, .slice a3 n3 c3]
  have hmay := rmay_any a1 a2 a3 n1 c1 n2 c2 n3 c3 V _ (h.next hb)
  have cx := rcoord_any x
  have cy := rcoord_any y
  have v0 := hx.cell 0 _ rfl
  have v1 := hx.cell 1 _ rfl
  have v2 := hx.cell 2 _ rfl
  have v3 := hx.cell 3 _ rfl
  have v4 := hx.cell 4 _ rfl
  cases hm : mayB V with
  | false =>
    have he : nearL V x y r = [] := by unfold nearL; rw [hm]; simp
    rw [hm] at hmay
    clear hm cx cy
    go_enter Try.func15, Try.ntmps15
    go_wp2_with fail
    refine hmay.mono ?_
    rintro e w1 ⟨rfl, hb1⟩
    have HB := hid' (hb.trans (hb1.mono hb.size))
    have HX := hid' (hx.next hb1)
    clear hmay hb hb1 hx v0 v1 v2 v3 v4
    go_wp2
    go_ret
    exact ⟨_, rfl, by rw [he]; exact Ints.nil _ _, HB.out⟩
  | true =>
    rw [hm] at hmay
    cases h1 : coordB x with
    | false =>
      have he : nearL V x y r = [] := by unfold nearL standsB; rw [h1]; simp
      rw [h1] at cx
      clear hm h1 cy
      go_enter Try.func15, Try.ntmps15
      go_wp2_with fail
      refine hmay.mono ?_
      rintro e w1 ⟨rfl, hb1⟩
      have HB := hid' (hb.trans (hb1.mono hb.size))
      have HX := hid' (hx.next hb1)
      clear hmay hb hb1 hx v0 v1 v2 v3 v4
      go_wp2_with fail
      refine (cx _).mono ?_
      rintro e w2 ⟨rfl, rfl⟩
      go_wp2
      go_ret
      exact ⟨_, rfl, by rw [he]; exact Ints.nil _ _, HB.out⟩
    | true =>
      rw [h1] at cx
      cases h2 : coordB y with
      | false =>
        have he : nearL V x y r = [] := by unfold nearL standsB; rw [h2]; simp
        rw [h2] at cy
        clear hm h1 h2
        go_enter Try.func15, Try.ntmps15
        go_wp2_with fail
        refine hmay.mono ?_
        rintro e w1 ⟨rfl, hb1⟩
        have HB := hid' (hb.trans (hb1.mono hb.size))
        have HX := hid' (hx.next hb1)
        clear hmay hb hb1 hx v0 v1 v2 v3 v4
        go_wp2_with fail
        refine (cx _).mono ?_
        rintro e w2 ⟨rfl, rfl⟩
        go_wp2_with fail
        refine (cy _).mono ?_
        rintro e w2 ⟨rfl, rfl⟩
        go_wp2
        go_ret
        exact ⟨_, rfl, by rw [he]; exact Ints.nil _ _, HB.out⟩
      | true =>
        rw [h2] at cy
        by_cases r1 : r < 1
        · have he : nearL V x y r = [] := by unfold nearL; rw [decide_eq_false (show ¬ (1 ≤ r ∧ r ≤ 1048576) by omega)]; simp
          clear hm h1 h2
          go_enter Try.func15, Try.ntmps15
          go_wp2_with fail
          refine hmay.mono ?_
          rintro e w1 ⟨rfl, hb1⟩
          have HB := hid' (hb.trans (hb1.mono hb.size))
          have HX := hid' (hx.next hb1)
          clear hmay hb hb1 hx v0 v1 v2 v3 v4
          go_wp2_with fail
          refine (cx _).mono ?_
          rintro e w2 ⟨rfl, rfl⟩
          go_wp2_with fail
          refine (cy _).mono ?_
          rintro e w2 ⟨rfl, rfl⟩
          go_wp2
          go_ret
          exact ⟨_, rfl, by rw [he]; exact Ints.nil _ _, HB.out⟩
        · by_cases r2 : 1048576 < r
          · have he : nearL V x y r = [] := by unfold nearL; rw [decide_eq_false (show ¬ (1 ≤ r ∧ r ≤ 1048576) by omega)]; simp
            clear hm h1 h2
            go_enter Try.func15, Try.ntmps15
            go_wp2_with fail
            refine hmay.mono ?_
            rintro e w1 ⟨rfl, hb1⟩
            have HB := hid' (hb.trans (hb1.mono hb.size))
            have HX := hid' (hx.next hb1)
            clear hmay hb hb1 hx v0 v1 v2 v3 v4
            go_wp2_with fail
            refine (cx _).mono ?_
            rintro e w2 ⟨rfl, rfl⟩
            go_wp2_with fail
            refine (cy _).mono ?_
            rintro e w2 ⟨rfl, rfl⟩
            go_wp2
            go_ret
            exact ⟨_, rfl, by rw [he]; exact Ints.nil _ _, HB.out⟩
          · have hst := stands_iff.2 ⟨h1, h2⟩
            have hn1 := h.s.len
            subst hn1
            have he : nearL V x y r = thoseN V.seats.length (fun i => nearS V.seats[i]! ⟨0, x, y, 0⟩ r) := by
              unfold nearL those
              rw [hst, hm, decide_eq_true (show 1 ≤ r ∧ r ≤ 1048576 by omega)]; rfl
            have hall := may_stand hm
            have hfw := may_few hm
            have hsq := rsquare_any r 0 (by omega) (by omega)
            rw [Int.sub_zero] at hsq
            have HV := hid' h
            have HE := hid' he
            have HALL := hid' hall
            have HST := hid' hst
            generalize nearL V x y r = res at *
            clear hm h1 h2 he h hall hst
            go_enter Try.func15, Try.ntmps15
            go_wp2_with fail
            refine hmay.mono ?_
            rintro e w1 ⟨rfl, hb1⟩
            have HB := hid' (hb.trans (hb1.mono hb.size))
            have HX := hid' (hx.next hb1)
            clear hmay hb hb1 hx v0 v1 v2 v3 v4
            go_wp2_with fail
            refine (cx _).mono ?_
            rintro e w2 ⟨rfl, rfl⟩
            go_wp2_with fail
            refine (cy _).mono ?_
            rintro e w2 ⟨rfl, rfl⟩
            have HR0 := hid' (Ints.nil w.heap.size w2)
            go_wp2_with fail
            go_loopw [9, 10] (fun v i wr => ∃ k : Nat, k ≤ V.seats.length ∧ i = .int .i64 k ∧ Hid (Ints w.heap.size wr v (thoseN k (fun i => nearS V.seats[i]! ⟨0, x, y, 0⟩ r))) ∧ Hid (Below w.heap.size w wr) ∧ Hid (Box wr w.heap.size 26 #[.slice a1 V.seats.length c1, .int .i64 V.gap, .int .i64 V.radius, .slice a2 n2 c2, .slice a3 n3 c3])) (fun _ i _ => V.seats.length - (intOf i).toNat)
            case atStart => exact ⟨0, Nat.zero_le _, rfl, HR0, HB, HX⟩
            case round =>
              clear HR0
              obtain ⟨k, hk, rfl, HR, HW, HXW⟩ := hrel
              have v0 := HXW.out.cell 0 _ rfl
              by_cases hlt : k < V.seats.length
              · have hltz : (k : Int) < (V.seats.length : Int) := by omega
                obtain ⟨b, off, rfl, hC⟩ := Ven.cells_of_pos HV.out.s hlt
                have sk := (hC.next HW.out).seat k hlt
                have hsk := HALL.out k hlt
                have HS := hid' (thoseN_succ k (fun i => nearS V.seats[i]! ⟨0, x, y, 0⟩ r))
                have hpk : nearS V.seats[k]! ⟨0, x, y, 0⟩ r = decide (farI V.seats[k].x V.seats[k].y x y < r * r) := by
                  rw [getElem!_pos V.seats k hlt]
                  unfold nearS farI
                  rw [hsk, HST.out]; rfl
                generalize hpp : nearS V.seats[k]! ⟨0, x, y, 0⟩ r = pk at HS hpk
                generalize V.seats[k] = s at *
                obtain ⟨sr, sx, sy, skd⟩ := s
                simp only at sk hsk hpk
                have hfar := rfar_any sr sx sy skd 0 x y 0 wr
                generalize farI sx sy x y = z at *
                obtain ⟨_, s0, s1, s2, s3⟩ := sk
                clear hC hsk hpp
                have HLE := hid' (thoseN_le k (fun i => nearS V.seats[i]! ⟨0, x, y, 0⟩ r))
                generalize thoseN k (fun i => nearS V.seats[i]! ⟨0, x, y, 0⟩ r) = l at *
                generalize hl2 : thoseN (k + 1) (fun i => nearS V.seats[i]! ⟨0, x, y, 0⟩ r) = l2 at *
                have HL2 := hid' hl2
                clear hl2
                go_wp2_with fail
                refine hfar.mono ?_
                rintro e w3 ⟨rfl, hb3⟩
                have HW3 := hid' (HW.out.trans (hb3.mono HW.out.size))
                have HR3 := hid' (HR.out.next hb3)
                have HX3 := hid' (HXW.out.next hb3)
                clear hfar hb3 HW HR HXW v0 s0 s1 s2 s3
                go_wp2_with fail
                refine (hsq _).mono ?_
                rintro e w4 ⟨rfl, rfl⟩
                by_cases hz : z < r * r
                · have e : l2 = l ++ [(k : Int)] := by rw [HS.out, if_pos (by rw [hpk]; exact decide_eq_true hz)]
                  have hle := HLE.out
                  have HRL := hid' HR3.out
                  obtain ⟨av, cv, rfl⟩ := row_slice HR3.out
                  have HR4 := hid' (row_next HR3.out ((Below.refl _ w4).alloc (Nat.le_refl _) (.cells #[.int .i64 k] 3)))
                  have hsz : w.heap.size ≤ (w4.alloc (.cells #[.int .i64 k] 3)).heap.size := by have := HW3.out.size; simp; omega
                  clear hpk HS
                  obtain ⟨i0, hi, hz0, hz1, hz2⟩ := info3
                  go_wp2_with (at_builtin; refine wpList_append_own _ rfl _ _ 23 rfl w.heap.size 3 i0 (.int .i64 0) 1 8 Try.underlying23 hi hz0 hz1 hz2 rfl (by omega) _ _ _ rfl HR4.out ⟨w4.heap.size, 0, none⟩ 1 1 [.int .i64 k] rfl ?qc1 ?qc2 ?qc3 ?qc4 ?qc5 ?qc6 ?_)
                  case qc1 => rfl
                  case qc2 =>
                    intro t u ht
                    rw [Addr.add_lit, Nat.zero_add, World.cell?_alloc_at _ _ _ _ rfl]
                    show ([Value.int .i64 (k : Int)] : List Value).toArray[t]? = some u
                    rw [List.getElem?_toArray]; exact ht
                  case qc3 => intro u hu; simp at hu; subst hu; rfl
                  case qc4 => unfold maxLen; omega
                  case qc5 => omega
                  case qc6 => exact hsz
                  intro v6 w6 hown6 hgr6 _
                  have HB6 := hid' ((HW3.out.alloc HW3.out.size (.cells #[.int .i64 k] 3)).grown hgr6 hsz (fun t ht => (HR4.out.lt t ht).1))
                  have HX6 := hid' ((HX3.out.next (below_alloc w4 (.cells #[.int .i64 k] 3))).grown hgr6 ((HX3.out.next (below_alloc w4 (.cells #[.int .i64 k] 3))).not_row (by decide) HR4.out))
                  have HR6 : Hid (Ints w.heap.size w6 v6 l2) := by
                    show w6.ownsRow _ _ _ _ _ _
                    have hfl : l2.flatMap intC = l.flatMap intC ++ [.int .i64 k] := by rw [e, List.flatMap_append]; rfl
                    have hln : l2.length = l.length + 1 := by rw [e]; simp
                    rw [hfl, hln]; exact hown6
                  clear hown6 hgr6 e HR3 HR4 hsz hle HRL
                  go_wp2_with fail
                  exact ⟨⟨k + 1, by omega, by go_num, (show Ints _ _ _ _ by rw [HL2.out]; exact HR6.out), HB6, HX6⟩, by simp [intOf]; omega⟩
                · have e : l2 = l := by rw [HS.out, if_neg (by rw [hpk, decide_eq_false hz]; decide)]
                  rw [← e] at HR3
                  clear e hpk HS
                  go_wp2_with fail
                  exact ⟨⟨k + 1, by omega, by go_num, (show Ints _ _ _ _ by rw [HL2.out]; exact HR3.out), HW3, HX3⟩, by simp [intOf]; omega⟩
              · have hltz : ¬ (k : Int) < (V.seats.length : Int) := by omega
                have hkn : k = V.seats.length := by omega
                rw [hkn] at HR
                have HF := hid' HW.out
                clear hkn
                go_wp2
                go_ret
                exact ⟨_, rfl, by rw [HE.out]; exact HR.out, HF.out⟩
end Go.Proofs.Ytgpkdjhllekihaa.Geo
