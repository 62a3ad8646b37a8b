/- parterreref6.killedBy, By, Usable by contracts. -/
import Derived.Test.YtbmmjbklfheghaaKPure
import Derived.Test.YtbmmjbklfheghaaCInts
import Derived.Test.YtbmmjbklfheghaaCWell
import Derived.Test.YtbmmjbklfheghaaGRefFar
import Derived.Test.YtbmmjbklfheghaaGNearer
namespace Go.Proofs.Ytbmmjbklfheghaa.Kll
set_option linter.unusedVariables false
set_option maxRecDepth 100000
open Go.RowKit Go.Shelf
open Go.Proofs.Ytbmmjbklfheghaa.Ven (Seat Pole Ven VenAt venV seatV poleV seatC poleC Box mayB mixed Sl SeatAt Cells below_alloc ret_bool ret_int rmay_any BelowOf wp_region_quiet_below Calls.below_of same_world coordB standsB row_slice row_next info3 intC)
open Go.Proofs.Ytbmmjbklfheghaa.Geo (nearS thoseN thoseN_succ thoseN_le thoseN_zero farI sqI rfar_any rsquare_any)
open Go.Proofs.Ytbmmjbklfheghaa.Com (hid' Ints row_base)

/-- What a venue that may be has of its kills and poles. -/
structure WellK (V : Ven) : Prop where
  few : V.seats.length ≤ 4096
  stand : ∀ i (h : i < V.seats.length), standsB V.seats[i].x V.seats[i].y = true
  kills : V.kills.length ≤ 200
  poles : V.poles.length ≤ 200
  pole : ∀ i (h : i < V.poles.length), standsB V.poles[i].x V.poles[i].y = true ∧ 1 ≤ V.poles[i].r ∧ V.poles[i].r ≤ 1048576
theorem may_wellK {V : Ven} (h : mayB V = true) : WellK V := by
  have h0 := h
  unfold mayB at h
  simp only [Bool.and_eq_true] at h
  have h2 := (Ven.seatsB_iff _).1 h.1.1.1.1
  have hk := h.1.2
  have hp := h.2
  unfold Ven.killsB at hk
  unfold Ven.polesB at hp
  simp only [Bool.and_eq_true, decide_eq_true_eq] at hk hp
  refine ⟨h2.2.1, fun i hi => ?_, hk.1, hp.1, fun i hi => ?_⟩
  · have h3 := h2.2.2.1 V.seats[i] (List.getElem_mem hi)
    unfold Ven.seatB at h3
    simp only [Bool.and_eq_true] at h3
    exact h3.1.2
  · have h3 := (Ven.upB_iff _ _).1 hp.2 i hi
    unfold Ven.okPole Ven.poleB Ven.lengthB at h3
    rw [getElem!_pos V.poles i hi] at h3
    simp only [Bool.and_eq_true, decide_eq_true_eq] at h3
    exact ⟨h3.1, h3.2.1, h3.2.2⟩
theorem rseat_any (a1 a2 a3 : Option Addr) (n1 c1 n2 c2 n3 c3 : Nat) (gap rad k : Int) (w : World) :
    Calls Try.prog 24 #[venV a1 n1 c1 gap rad a2 n2 c2 a3 n3 c3, .int .i64 k] w fun e w' => e = .returned (.bool (decide (0 ≤ k ∧ k < (n1 : Int)))) ∧ Below w.heap.size w w' := by
  have hb := below_alloc w (.cells #[.slice a1 n1 c1, .int .i64 gap, .int .i64 rad, .slice a2 n2 c2, .slice a3 n3 c3] 26)
  by_cases h : 0 ≤ k
  · go_enter Try.func24, Try.ntmps24
    go_wp2
    go_ret
    exact ⟨ret_bool (by simp [h]), hb⟩
  · go_enter Try.func24, Try.ntmps24
    go_wp2
    go_ret
    exact ⟨ret_bool (by simp; omega), hb⟩
set_option maxHeartbeats 8000000 in
theorem rkilled_any (a1 a2 a3 : Option Addr) (n1 c1 n2 c2 n3 c3 : Nat) (V : Ven) (k : Nat) (hk : k < V.seats.length) (hw : WellK V) (w : World) (h : VenAt w a1 n1 c1 a2 n2 c2 a3 n3 c3 V) :
    Calls Try.prog 19 #[venV a1 n1 c1 V.gap V.radius a2 n2 c2 a3 n3 c3, .int .i64 k] w fun e w' => ∃ v, e = .returned v ∧ Ints w.heap.size w' v (byN V k) ∧ Below w.heap.size w w' := by
  have hb := below_alloc w (.cells #[.slice a1 n1 c1, .int .i64 V.gap, .int .i64 V.radius, .slice a2 n2 c2, .slice a3 n3 c3] 26)
  have hx := Box.fresh w 26 #[.slice a1 n1 c1, .int .i64 V.gap, .int .i64 V.radius, .slice a2 n2 c2, .slice a3 n3 c3]
  have e1 := h.s.len
  have e2 := h.k.len
  have e3 := h.p.len
  subst e1 e2 e3
  obtain ⟨sb, so, rfl, hC⟩ := Ven.cells_of_pos h.s hk
  have HS := hid' ((hC.next hb).seat k hk)
  have HV := hid' (h.next hb)
  have HB0 := hid' hb
  have HX := hid' hx
  have HW := hid' hw
  have hkl := hw.kills
  have hpl := hw.poles
  have hkz : (k : Int) < (V.seats.length : Int) := by omega
  have HR0 : Hid (Ints w.heap.size (w.alloc (.cells #[.slice (some ⟨sb, so, none⟩) V.seats.length c1, .int .i64 V.gap, .int .i64 V.radius, .slice a2 V.kills.length c2, .slice a3 V.poles.length c3] 26)) (.slice none 0 0) (killN (V.kills.take 0) k)) := Com.Ints.nil _ _
  obtain ⟨v0, v1, v2, v3, v4⟩ := hx.five
  clear h hC hb hx hw
  go_enter Try.func19, Try.ntmps19
  go_wp2_with fail
  clear v0 v1 v2 v3 v4
  generalize w.alloc (.cells #[.slice (some ⟨sb, so, none⟩) V.seats.length c1, .int .i64 V.gap, .int .i64 V.radius, .slice a2 V.kills.length c2, .slice a3 V.poles.length c3] 26) = W at *
  go_loopw [5, 6] (fun v i wr => ∃ j : Nat, j ≤ V.kills.length ∧ i = .int .i64 j ∧ Hid (Ints W.heap.size wr v (killN (V.kills.take j) k)) ∧ Hid (Below W.heap.size W wr)) (fun _ i _ => V.kills.length - (intOf i).toNat)
  case atStart => exact ⟨0, Nat.zero_le _, rfl, Com.Ints.nil _ _, Below.refl _ _⟩
  case round =>
    clear HR0
    obtain ⟨j, hj, rfl, HR, HB⟩ := hrel
    obtain ⟨v0, v1, v2, v3, v4⟩ := (HX.out.next HB.out).five
    by_cases hlt : j < V.kills.length
    · have hltz : (j : Int) < (V.kills.length : Int) := by omega
      obtain ⟨kb, ko, kc, hke, hk1, hk2⟩ := Com.Sl.num (HV.out.k.next HB.out) (by omega)
      injection hke with hke _ hkc
      subst hke hkc
      have m0 := hk2 j hlt
      have HT := hid' (killN_take V.kills k j hlt)
      have HL := hid' (killN_len (V.kills.take j) k)
      have hll : (killN (V.kills.take j) k).length ≤ 200 := by have := HL.out; rw [List.length_take] at this; omega
      clear HL hk1 hk2
      generalize killN (V.kills.take j) k = l at *
      generalize hq : killN (V.kills.take (j + 1)) k = l2 at *
      have HQ := hid' hq
      clear hq
      generalize V.kills[j] = z at *
      by_cases hz : z = (k : Int)
      · have hzz : (z == (k : Int)) = true := by simp [hz]
        have HT2 : Hid (l2 = l ++ [-1]) := by
          have := HT.out
          rw [if_pos hz] at this; exact this
        clear HT hz
        obtain ⟨av, cv, rfl⟩ := row_slice HR.out
        have HR2 := hid' (row_next HR.out ((Below.refl _ wr).alloc (Nat.le_refl _) (.cells #[.int .i64 (-1)] 3)))
        have hsz : W.heap.size ≤ (wr.alloc (.cells #[.int .i64 (-1)] 3)).heap.size := by have := HB.out.size; simp; omega
        have HB1 := hid' (HB.out.alloc HB.out.size (.cells #[.int .i64 (-1)] 3))
        obtain ⟨i0, hi0, hz0, hz1, hz2⟩ := info3
        go_wp2_with (at_builtin; refine wpList_append_own _ rfl _ _ 23 rfl W.heap.size 3 i0 (.int .i64 0) 1 8 Try.underlying23 hi0 hz0 hz1 hz2 rfl (by omega) _ _ _ rfl HR2.out ⟨wr.heap.size, 0, none⟩ 1 1 [.int .i64 (-1)] rfl ?qc1 ?qc2 ?qc3 ?qc4 ?qc5 ?qc6 ?_)
        case qc3 => rfl
        case qc4 => unfold maxLen; omega
        case qc5 => omega
        case qc6 => (have := hsz; simp at this; exact this)
        intro v6 w6 hown6 hgr6 _
        have HB6 := hid' (HB1.out.grown hgr6 hsz (fun t ht => (HR2.out.lt t ht).1))
        have HR6 : Hid (Ints W.heap.size w6 v6 (l ++ [(-1)])) := by
          show w6.ownsRow _ _ _ _ _ _
          rw [List.flatMap_append, List.length_append]; exact hown6
        clear hown6 hgr6 HR HR2 hsz HB HB1 v0 v1 v2 v3 v4 m0
        go_wp2_with fail
        exact ⟨⟨j + 1, by omega, by go_num, (show Ints _ _ _ _ by rw [HQ.out, HT2.out]; exact HR6.out), HB6⟩, by simp [intOf]; omega⟩
      · have hzz : (z == (k : Int)) = false := by simp [hz]
        have HT2 : Hid (l2 = l) := by
          have := HT.out
          rw [if_neg hz] at this; exact this
        clear HT hz
        go_wp2_with fail
        exact ⟨⟨j + 1, by omega, by go_num, (show Ints _ _ _ _ by rw [HQ.out, HT2.out]; exact HR.out), HB⟩, by simp [intOf]; omega⟩
    · have hltz : ¬ (j : Int) < (V.kills.length : Int) := by omega
      have hjn : j = V.kills.length := by omega
      have HRK : Hid (Ints W.heap.size wr u5 (killN V.kills k ++ thoseN 0 (poleN V k))) := by
        show Ints _ _ _ _
        rw [thoseN_zero, List.append_nil]
        have := HR.out
        rw [hjn, List.take_length] at this; exact this
      have HKL := hid' (killN_len V.kills k)
      have HKB := HB
      clear HR hjn
      go_wp2_with fail
      clear v0 v1 v2 v3 v4
      generalize wr = wz at *
      go_loopw [5, 7, 8] (fun v i _ wr => ∃ j : Nat, j ≤ V.poles.length ∧ i = .int .i64 j ∧ Hid (Ints W.heap.size wr v (killN V.kills k ++ thoseN j (poleN V k))) ∧ Hid (Below W.heap.size W wr)) (fun _ i _ _ => V.poles.length - (intOf i).toNat)
      case atStart => exact ⟨0, Nat.zero_le _, rfl, HRK, HKB⟩
      case round =>
        clear HRK HKB HB
        obtain ⟨i, hi, rfl, HR, HB⟩ := hrel
        obtain ⟨v0, v1, v2, v3, v4⟩ := (HX.out.next HB.out).five
        by_cases hlt2 : i < V.poles.length
        · have hltz2 : (i : Int) < (V.poles.length : Int) := by omega
          have HWP := hid' (HW.out.pole i hlt2)
          have HST := hid' (HW.out.stand k hk)
          obtain ⟨pb, po, rfl, hP0⟩ := Ven.cells_of_pos HV.out.p hlt2
          have hP := hP0.next HB.out
          have m0 : wr.cell? ⟨pb, po + i * 3, none⟩ = some (.int .i64 V.poles[i].x) := hP.2 i hlt2 0 _ rfl
          have m1 : wr.cell? ⟨pb, po + i * 3 + 1, none⟩ = some (.int .i64 V.poles[i].y) := hP.2 i hlt2 1 _ rfl
          have m2 : wr.cell? ⟨pb, po + i * 3 + 2, none⟩ = some (.int .i64 V.poles[i].r) := hP.2 i hlt2 2 _ rfl
          have ml := hP.1
          have HSS := HS.out.next HB.out
          have HN : Hid (thoseN (i + 1) (poleN V k) = if nearS V.seats[k] ⟨0, V.poles[i].x, V.poles[i].y, 0⟩ V.poles[i].r = true then thoseN i (poleN V k) ++ [(i : Int)] else thoseN i (poleN V k)) := by
            show _ = _
            rw [thoseN_succ]
            unfold poleN
            rw [getElem!_pos V.seats k hk, getElem!_pos V.poles i hlt2]
          have HLL := hid' (thoseN_le i (poleN V k))
          have HKL2 := HKL.out
          have hll : (killN V.kills k ++ thoseN i (poleN V k)).length ≤ 400 := by have := HLL.out; rw [List.length_append]; omega
          clear HLL HKL2 hP hP0
          generalize V.seats[k] = s at *
          generalize V.poles[i] = q at *
          obtain ⟨r1, x1, y1, k1⟩ := s
          obtain ⟨x2, y2, r2⟩ := q
          simp only at m0 m1 m2 HSS HWP HST HN
          have hfar : farI x1 y1 x2 y2 = sqI x1 y1 x2 y2 := by unfold farI; rw [HST.out, HWP.out.1]; rfl
          have hsq := rsquare_any r2 0 (by have := HWP.out.2; omega) (by have := HWP.out.2; omega)
          rw [Int.sub_zero] at hsq
          unfold nearS at HN
          simp only at HN
          generalize sqI x1 y1 x2 y2 = z at *
          generalize r2 * r2 = rr at *
          clear HST HWP
          generalize hg1 : killN V.kills k ++ thoseN i (poleN V k) = l at *
          have HL1 := hid' hg1
          clear hg1
          obtain ⟨av, cv, hav⟩ := row_slice HR.out
          subst hav
          go_wp2_with fail
          clear v0 v1 v2 v3 v4
          have hb1 := below_alloc wr (.cells #[.int .i64 x2, .int .i64 y2, .int .i64 r2] 41)
          have hxp := Box.fresh wr 41 #[.int .i64 x2, .int .i64 y2, .int .i64 r2]
          have HB2 := hid' (HB.out.trans (hb1.mono HB.out.size))
          have HR2 := hid' (HR.out.next hb1)
          have HSS2 := hid' (HSS.next hb1)
          clear hb1 HB HR HSS m0 m1 m2 ml
          generalize wr.alloc (.cells #[.int .i64 x2, .int .i64 y2, .int .i64 r2] 41) = wp at *
          generalize wr.heap.size = PB at *
          have hne : Nonempty (BelowOf wp) := ⟨⟨wp, Below.refl _ wp⟩⟩
          have v0 := fun p : BelowOf wp => (HX.out.next (HB2.out.trans (p.h.mono HB2.out.size))).cell 0 _ rfl
          have v1 := fun p : BelowOf wp => (HX.out.next (HB2.out.trans (p.h.mono HB2.out.size))).cell 1 _ rfl
          have v2 := fun p : BelowOf wp => (HX.out.next (HB2.out.trans (p.h.mono HB2.out.size))).cell 2 _ rfl
          have v3 := fun p : BelowOf wp => (HX.out.next (HB2.out.trans (p.h.mono HB2.out.size))).cell 3 _ rfl
          have v4 := fun p : BelowOf wp => (HX.out.next (HB2.out.trans (p.h.mono HB2.out.size))).cell 4 _ rfl
          have q0 := fun p : BelowOf wp => (hxp.next p.h).cell 0 _ rfl
          have q1 := fun p : BelowOf wp => (hxp.next p.h).cell 1 _ rfl
          have q2 := fun p : BelowOf wp => (hxp.next p.h).cell 2 _ rfl
          have d0 := fun p : BelowOf wp => (HSS2.out.next p.h).c0
          have d1 := fun p : BelowOf wp => (HSS2.out.next p.h).c1
          have d2 := fun p : BelowOf wp => (HSS2.out.next p.h).c2
          have d3 := fun p : BelowOf wp => (HSS2.out.next p.h).c3
          have ff : ∀ p : BelowOf wp, Calls Try.prog 31 #[seatV r1 x1 y1 k1, seatV 0 x2 y2 0] p.w fun e w' => e = .returned (.int .i64 z) ∧ Below p.w.heap.size p.w w' := fun p => by
            have := rfar_any r1 x1 y1 k1 0 x2 y2 0 p.w
            rw [hfar] at this; exact this
          clear hfar
          refine wp_region_quiet_below mixed (by kernel_rfl) ?_
          repeat (go_big_quiet_step ((first | (go_at_call 31; exact Calls.below_of (ff _)) | (go_at_call 32; exact Calls.below_of (same_world (hsq _))))))
          refine wpQuiet_nil ?_
          intro _ hw'
          obtain ⟨p, hw''⟩ := hw'
          subst hw''
          have HB3 := hid' (HB2.out.trans (p.h.mono HB2.out.size))
          have HR3 := hid' (HR2.out.next p.h)
          clear v0 v1 v2 v3 v4 q0 q1 q2 d0 d1 d2 d3 ff hsq hne HB2 HR2 HSS2 hxp
          generalize p.w = wp2 at *
          clear p
          have HB := HB3
          have HR := HR3
          clear HB3 HR3
          by_cases hz : z < rr
          · have HT2 : Hid (killN V.kills k ++ thoseN (i + 1) (poleN V k) = l ++ [(i : Int)]) := by
              show _ = _
              rw [HN.out, decide_eq_true hz, if_pos rfl, ← List.append_assoc, HL1.out]
            clear HN
            have HR2 := hid' (row_next HR.out ((Below.refl _ wp2).alloc (Nat.le_refl _) (.cells #[.int .i64 (i : Int)] 3)))
            have hsz : W.heap.size ≤ (wp2.alloc (.cells #[.int .i64 (i : Int)] 3)).heap.size := by have := HB.out.size; simp; omega
            have HB1 := hid' (HB.out.alloc HB.out.size (.cells #[.int .i64 (i : Int)] 3))
            obtain ⟨i0, hi0, hz0, hz1, hz2⟩ := info3
            go_wp2_with (at_builtin; refine wpList_append_own _ rfl _ _ 23 rfl W.heap.size 3 i0 (.int .i64 0) 1 8 Try.underlying23 hi0 hz0 hz1 hz2 rfl (by omega) _ _ _ rfl HR2.out ⟨wp2.heap.size, 0, none⟩ 1 1 [.int .i64 (i : Int)] rfl ?qe1 ?qe2 ?qe3 ?qe4 ?qe5 ?qe6 ?_)
            case qe1 => rfl
            case qe2 =>
              intro t z ht
              rw [Addr.add_lit, Nat.zero_add, World.cell?_alloc_at _ _ _ _ rfl]
              show ([Value.int .i64 (i : Int)] : List Value).toArray[t]? = some z
              rw [List.getElem?_toArray]; exact ht
            case qe3 => intro z hz; simp at hz; subst hz; rfl
            case qe4 => unfold maxLen; omega
            case qe5 => omega
            case qe6 => exact hsz
            intro v6 w6 hown6 hgr6 _
            have HB6 := hid' (HB1.out.grown hgr6 hsz (fun t ht => (HR2.out.lt t ht).1))
            have HR6 : Hid (Ints W.heap.size w6 v6 (l ++ [(i : Int)])) := by
              show w6.ownsRow _ _ _ _ _ _
              rw [List.flatMap_append, List.length_append]; exact hown6
            clear hown6 hgr6 HR HR2 hsz HB HB1
            go_wp2_with fail
            exact ⟨⟨i + 1, by omega, by go_num, (show Ints _ _ _ _ by rw [HT2.out]; exact HR6.out), HB6⟩, by simp [intOf]; omega⟩
          · have HT2 : Hid (killN V.kills k ++ thoseN (i + 1) (poleN V k) = l) := by
              show _ = _
              rw [HN.out, decide_eq_false hz, if_neg (by decide), HL1.out]
            clear HN
            go_wp2_with fail
            exact ⟨⟨i + 1, by omega, by go_num, (show Ints _ _ _ _ by rw [HT2.out]; exact HR.out), HB⟩, by simp [intOf]; omega⟩
        · have hltz2 : ¬ (i : Int) < (V.poles.length : Int) := by omega
          have hin : i = V.poles.length := by omega
          have HRF : Hid (Ints w.heap.size wr u5 (byN V k)) := by
            have := HR.out
            rw [hin] at this
            exact row_base this HB0.out.size
          have HBF := hid' (HB0.out.trans (HB.out.mono HB0.out.size))
          clear HR hin
          go_wp2
          go_ret
          exact ⟨_, rfl, HRF.out, HBF.out⟩
end Go.Proofs.Ytbmmjbklfheghaa.Kll
